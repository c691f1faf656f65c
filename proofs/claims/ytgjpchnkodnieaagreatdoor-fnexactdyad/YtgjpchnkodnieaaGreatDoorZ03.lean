import Derived.Test.YtgjpchnkodnieaaGreatDoorZ
import Derived.WalkKit
import Derived.OrdersHeld
set_option linter.defProp false
namespace Go.Proofs.YtgjpchnkodnieaaGreatDoor
open Tryz
def EV(v:Int):Bool:=decide (0<=v/\v<=1114111/\(v<55296\/57343<v))
def Be(v:Int):Bool:=decide (0<=v/\v<=10000)
def Aj:List Int->Int->Option Int
 | [],n=>some n
 |x::r,n=>if x=0 then Aj r n else if 10000<n*x then none else Aj r (n*x)
def Ac(sh:List Int):Int:=if sh.all Be then
  match Aj sh 1 with
  |none=> -1
  |some n=>if 0∈sh then 0 else n
 else-1
def BY(c:Bool)(v:Int):Bool:=(!c||EV v)&&decide (-1000000000000000<=v/\v<=1000000000000000)
def AJ(c:Bool)(sh dt:List Int):Bool:=decide (sh.length<=5)&&(decide (Ac sh=dt.length)&&dt.all (BY c))
def GQ(xs:List Int)(x n:Int):Aj (xs++ [x]) n=(Aj xs n).bind (fun m=>Aj [x] m):=by
 induction xs generalizing n with
 |nil=>simp[Aj]
 |cons y r ih=>
  simp only[Ax,Aj];split
  .exact ih n
  .split
   .simp
   .exact ih _
def D1(xs:List Int)(n m:Int)(hx:xs.all Be=true)(h1:1<=n)(h2:n<=10000)(h:Aj xs n=some m):1<=m/\m<=10000:=by
 induction xs generalizing n with
 |nil=>simp[Aj]at h;omega
 |cons y r ih=>
  simp only[List.all_cons,Ah]at hx;have hy:0<=y/\y<=10000:=by simpa[Be]using hx.1
  simp only[Aj]at h;split at h
  .exact ih n hx.2 h1 h2 h
  .split at h
   .simp at h
   .rename_i h0 hle
    refine ih (n*y) hx.2 ?_ (by omega) h;have:1*1<=n*y:=Int.mul_le_mul h1 (by omega) (by omega) (by omega);omega
def D0(xs ys:List Int)(n:Int)(h:Aj xs n=none):Aj (xs++ys) n=none:=by
 induction xs generalizing n with
 |nil=>simp[Aj]at h
 |cons y r ih=>
  simp only[Ax,Aj]at h ⊢;split at h
  .rename_i h0;rw[AI h0];exact ih n h
  .rename_i h0;rw[AH h0]
   split at h
   .rename_i h1;rw[AI h1]
   .rename_i h1;rw[AH h1];exact ih _ h
def C3(xs:List Int)(k:Nat)(h:k<xs.length):xs.take (k+1)=xs.take k++ [xs.getD k 0]:=by rw[B7 h];simp[h]
def FX(xs:List Int)(p:Int->Bool)(k:Nat)(h:k<xs.length)(ha:(xs.take k).all p=true)(hp:p (xs.getD k 0)=true):(xs.take (k+1)).all p=true:=by rw[C3 xs k h,List.all_append,ha];simpa using hp
def Fk(xs:List Int)(p:Int->Bool)(k:Nat)(h:k<xs.length)(hp:p (xs.getD k 0)=false):xs.all p=false:=by rw[<-Bool.not_eq_true,A7];intro hh;have:=hh (xs.getD k 0) (by simp[h]);rw[hp]at this;exact absurd this (by simp)
def T2(xs:List Int)(k:Nat)(h:k<xs.length):decide (0∈xs.take (k+1))=(decide (0∈xs.take k)||decide (xs.getD k 0=0)):=by rw[C3 xs k h];generalize xs.take k=t;generalize xs.getD k 0=y;by_cases h1:0∈t<;>by_cases h2:y=0<;>simp[h1,h2];exact fun e=>h2 e.symm
def MI(xs:List Int)(k:Nat)(h:k<xs.length)(n:Int)(hp:Aj (xs.take k) 1=some n)(h0:xs.getD k 0=0):Aj (xs.take (k+1)) 1=some n:=by rw[C3 xs k h,GQ,hp,h0];simp[Aj]
def OK(xs:List Int)(k:Nat)(h:k<xs.length)(n:Int)(hp:Aj (xs.take k) 1=some n)(h0:xs.getD k 0≠0)(hl:n*xs.getD k 0<=10000):Aj (xs.take (k+1)) 1=some (n*xs.getD k 0):=by rw[C3 xs k h,GQ,hp];simp only[Option.bind_some,Aj,AH h0];rw[AH (by omega)]
def OM(xs:List Int)(k:Nat)(h:k<xs.length)(n:Int)(hp:Aj (xs.take k) 1=some n)(h0:xs.getD k 0≠0)(hl:10000<n*xs.getD k 0):Aj xs 1=none:=by
 have:Aj (xs.take (k+1)) 1=none:=by rw[C3 xs k h,GQ,hp];simp only[Option.bind_some,Aj,AH h0];rw[AI hl]
 rw[<-Cf (k+1) xs];exact D0 _ _ _ this
def Ka(sh:List Int)(h:sh.all Be=false):Ac sh= -1:=by simp[Ac,h]
def Oe(sh:List Int)(h:Aj sh 1=none):Ac sh= -1:=by unfold Ac;rw[h];split<;>rfl
def NB(sh:List Int)(n:Int)(ha:sh.all Be=true)(h:Aj sh 1=some n)(h0:decide (0∈sh)=true):Ac sh=0:=by unfold Ac;rw[h,AI ha];simp only[];rw[AI (BB h0)]
def Tr(sh:List Int)(n:Int)(ha:sh.all Be=true)(h:Aj sh 1=some n)(h0:decide (0∈sh)=false):Ac sh=n:=by unfold Ac;rw[h,AI ha];simp only[];rw[AH (of_decide_eq_false h0)]
def FV(sh:List Int): -1<=Ac sh/\Ac sh<=10000:=by
 unfold Ac;split
 .rename_i ha
  split
  .omega
  .rename_i n hn
   have:=D1 sh 1 n ha (by omega) (by omega) hn;split<;>omega
 .omega
def Am(sh:List Int):Bool:=decide (sh.length<=5)&&decide (0<=Ac sh)
def MB{sh:List Int}{n:Nat}(hl:sh.length=n)(h:5<n):Am sh=false:=by unfold Am;rw[AK (by omega)];rfl
def N8{sh:List Int}(h:Ac sh= -1):Am sh=false:=by unfold Am;rw[h];simp
def Ex{sh:List Int}{n:Nat}(hl:sh.length=n)(h:n<=5)(m:Int)(ha:sh.all Be=true)(hp:Aj sh 1=some m):Am sh=true:=by
 have hb:=D1 sh 1 m ha (by omega) (by omega) hp;unfold Am;rw[AL (by omega)];by_cases h0:decide (0∈sh)=true
 .rw[NB sh m ha hp h0];rfl
 .rw[Tr sh m ha hp (by simpa using h0),AL (by omega)];rfl
def AM(sh:List Int):Int:=sh.foldl (·*·) 1
def Fh(sh:List Int)(k:Nat)(h:k<sh.length):AM (sh.take (k+1))=AM (sh.take k)*sh.getD k 0:=by rw[C3 sh k h];simp[AM]
def Iv(sh:List Int)(n m:Int)(h:Aj sh n=some m):sh.foldl (·*·) n=if 0∈sh then 0 else m:=by
 induction sh generalizing n with
 |nil=>simp[Aj]at h;simp[h]
 |cons x r ih=>
  simp only[Aj]at h;by_cases h0:x=0
  .subst h0;have hz:∀(l:List Int),l.foldl (·*·) 0=0:=by intro l;induction l with
    |nil=>rfl
    |cons y s ih=>simpa using ih
   simp[hz]
  .rw[AH h0]at h;split at h
   .simp at h
   .rw[List.foldl_cons,ih _ h];have:(0∈x::r)↔0∈r:=by simp;intro e;exact absurd e.symm h0
    simp only[this]
def Bs(sh:List Int)(h:Am sh=true):AM sh=Ac sh:=by
 unfold Am at h;simp only[Ah,BC]at h;have h2:=h.2;unfold Ac at h2 ⊢;split at h2
 .rename_i ha
  rw[AI ha];split at h2
  .omega
  .rename_i m hm
   exact Iv sh 1 m hm
 .omega
def Ey(sh:List Int)(h:Am sh=true)(k:Nat):0<=AM (sh.take k)/\AM (sh.take k)<=10000:=by
 unfold Am at h;simp only[Ah,BC]at h;have h2:=h.2;unfold Ac at h2;split at h2
 .rename_i ha
  split at h2
  .omega
  .rename_i m hm
   have hat:(sh.take k).all Be=true:=by rw[A7];exact fun x hx=>A7.1 ha x (List.mem_of_mem_take hx)
   cases hpt:Aj (sh.take k) 1 with
   |none=>
    have:=D0 (sh.take k) (sh.drop k) 1 hpt;rw[Cf]at this;rw[this]at hm;simp at hm
   |some m'=>
    have hb:=D1 _ 1 m' hat (by omega) (by omega) hpt;unfold AM;rw[Iv _ 1 m' hpt];split<;>omega
 .omega
def Aq(sh:List Int):Prop:=sh.all Be=true/\∃m,Aj sh 1=some m
def NR(ys:List Int)(n m k:Int)(hy:ys.all Be=true)(hk:1<=k)(hkn:k<=n)(h:Aj ys n=some m):∃m',Aj ys k=some m':=by
 induction ys generalizing n k with
 |nil=>exact⟨k,rfl⟩
 |cons y r ih=>
  simp only[List.all_cons,Ah]at hy;have hyb:0<=y/\y<=10000:=by simpa[Be]using hy.1
  simp only[Aj]at h ⊢;by_cases h0:y=0
  .rw[AI h0]at h ⊢;exact ih n k hy.2 hk hkn h
  .rw[AH h0]at h ⊢;split at h
   .simp at h
   .rename_i hle
    have h1:k*y<=n*y:=Int.mul_le_mul_of_nonneg_right hkn (by omega);have h2:1*1<=k*y:=Int.mul_le_mul hk (by omega) (by omega) (by omega);rw[AH (by omega)];exact ih (n*y) (k*y) hy.2 (by omega) h1 h
def Aq.take{sh:List Int}(h:Aq sh)(k:Nat):Aq (sh.take k):=by
 obtain⟨ha,m,hm⟩:=h;refine⟨by rw[A7];exact fun x hx=>A7.1 ha x (List.mem_of_mem_take hx),?_⟩;cases hpt:Aj (sh.take k) 1 with
 |none=>
  have:=D0 (sh.take k) (sh.drop k) 1 hpt;rw[Cf]at this;rw[this]at hm;simp at hm
 |some m'=>exact⟨m',rfl⟩
def LL(xs ys:List Int)(n:Int):Aj (xs++ys) n=(Aj xs n).bind (Aj ys):=by
 induction xs generalizing n with
 |nil=>simp[Aj]
 |cons y r ih=>
  simp only[Ax,Aj];split
  .exact ih n
  .split
   .simp
   .exact ih _
def Aq.drop{sh:List Int}(h:Aq sh)(k:Nat):Aq (sh.drop k):=by
 have ht:=h.take k;obtain⟨ha,m,hm⟩:=h;have hd:(sh.drop k).all Be=true:=by rw[A7];exact fun x hx=>A7.1 ha x (List.mem_of_mem_drop hx)
 refine⟨hd,?_⟩;obtain⟨hta,p,hp⟩:=ht;have hb:=D1 _ 1 p hta (by omega) (by omega) hp;rw[<-Cf k sh,LL,hp,Option.bind_some]at hm;exact NR _ p m 1 hd (by omega) hb.1 hm
def Aq.bd{sh:List Int}(h:Aq sh):0<=AM sh/\AM sh<=10000:=by obtain⟨ha,m,hm⟩:=h;have hb:=D1 sh 1 m ha (by omega) (by omega) hm;unfold AM;rw[Iv sh 1 m hm];split<;>omega
def Aq.cell{sh:List Int}(h:Aq sh)(k:Nat):0<=sh.getD k 0/\sh.getD k 0<=10000:=by
 by_cases hk:k<sh.length
 .have:=A7.1 h.1 (sh.getD k 0) (by simp[hk]);simpa[Be]using this
 .have e:sh.getD k 0=0:=by simp[List.getD,List.getElem?_eq_none (by omega:sh.length<=k)]
  rw[e];omega
def AW{c:Bool}{sh dt:List Int}(h:AJ c sh dt=true):Aq sh/\AM sh=dt.length/\sh.length<=5:=by
 unfold AJ at h;simp only[Ah,BC]at h;obtain⟨h5,hc,_⟩:=h;have hs:Am sh=true:=by unfold Am;rw[AL h5,AL (by omega)];rfl
 refine⟨?_,by rw[Bs sh hs,hc],h5⟩;unfold Ac at hc;split at hc
 .rename_i ha
  split at hc
  .omega
  .rename_i m hm;exact⟨ha,m,hm⟩
 .omega
def Bi(xs ys:List Int):AM (xs++ys)=AM xs*AM ys:=by
 have key:∀(ys:List Int)(n:Int),ys.foldl (·*·) n=n*ys.foldl (·*·) 1:=by
  intro ys;induction ys with
  |nil=>intro n;simp
  |cons y r ih=>intro n;rw[List.foldl_cons,List.foldl_cons,ih (n*y),ih (1*y),Int.one_mul,Int.mul_assoc]
 unfold AM;rw[List.foldl_append,key]
def Dv(v:Int):Bool:=decide (-1000000000000000<=v/\v<=1000000000000000)
def Bh(b:Bool):Int:=if b then 1 else 0
def Bo(a b:Int):Int×Bool:=if Dv (a*b)=true then(a*b,true)else(0,false)
def Dj(a b:Int):Int×Bool:=if Dv (a ^ b.toNat)=true then(a ^ b.toNat,true)else(0,false)
def Bk(a b:Int):Int:=if a=0 then b else if b.tmod a≠0/\decide (b.tmod a<0)≠decide (a<0)then b.tmod a+a else b.tmod a
def CL(op a b:Int):Int:=if op=5 then(if a<b then a else b)else if op=6 then(if a<b then b else a)else if op=9 then Bh (decide (a=b))else if op=10 then Bh (decide (a≠b))else if op=11 then Bh (decide (a<b))else if op=13 then Bh (decide (b<=a))else if op=12 then Bh (decide (a<=b))else Bh (decide (b<a))
def BH(r:Int×Bool):Int×Int:=if r.2=true/\Dv r.1=true then(r.1,0)else(0,7)
def BQ(op a b:Int):Int×Int:=if op=1 then BH (a+b,true)else if op=2 then BH (a- b,true)else if op=3 then BH (Bo a b)else if op=4 then(if a=0/\b=0 then(1,0)else if b=0\/a.tmod b≠0 then(0,3)else BH (a.tdiv b,true))else if op=7 then BH (Bk a b,true)else if op=8 then(if b<0 then(0,3)else BH (Dj a b))else if op=15\/op=16 then(if(a≠0/\a≠1)\/(b≠0/\b≠1)then(0,3)else BH (Bh (decide (Bh (decide (op=15))<a+b)),true))else BH (CL op a b,true)
def Ol{x y:Int}(hy:0<y):(1000000000000000:Int).tdiv y<x↔1000000000000000<x*y:=by
 rw[DA (by omega)];constructor
 .intro h;by_cases h':1000000000000000<x*y
  .exact h'
  .exact absurd (Int.le_ediv_of_mul_le hy (by omega:x*y<=1000000000000000)) (by omega)
 .intro h;by_cases h':(1000000000000000:Int) / y<x
  .exact h'
  .have:=Int.mul_le_of_le_ediv hy (by omega:x<=(1000000000000000:Int) / y);omega
def GU{a b:Int}(h:Dv (a*b)=false):Bo a b=(0,false):=by simp[Bo,h]
def Hl{a b:Int}(h:Dv (a*b)=true):Bo a b=(a*b,true):=by simp[Bo,h]
def Ea{v:Int}(h1: -1000000000000000<=v)(h2:v<=1000000000000000):Dv v=true:=AL ⟨h1,h2⟩
def Jk{v:Int}(h:v< -1000000000000000\/1000000000000000<v):Dv v=false:=AK (by omega)
def IB{v:Int}(h:Dv v=true): -1000000000000000<=v/\v<=1000000000000000:=BB h
def TA{a:Int}(h0:a≠0)(h1:a≠1)(hm:a≠-1):2<=a.natAbs:=by omega
def JV{a:Int}(ha:2<=a.natAbs)(k n:Nat)(hk:k<=n)(h:Dv (a ^ k)=false):Dv (a ^ n)=false:=by
 have hb:∀v:Int,Dv v=false↔1000000000000000<v.natAbs:=by intro v;simp only[Dv,decide_eq_false_iff_not];omega
 rw[hb]at h ⊢;rw[Int.natAbs_pow]at h ⊢;exact AZ h (Nat.pow_le_pow_right (by omega) hk)
section
variable {P:Program}{ops:Array Oper}{Q:Exit->Act->World->Prop}{md:Region.Mode}{S:World->Prop}{st:Nat}
def CN(P:Program)(md:Region.Mode)(ops:Array Oper)(Q:Exit->Act->World->Prop)(S:World->Prop)(st:Nat):Nat->Array Bool->Act->World->Prop
 |0,listed,a,w=>Region.ready md ops listed= []/\Q .normal a w
 |fuel+1,listed,a,w=>
  (Region.ready md ops listed= []->Q .normal a w)/\
  ∀i∈Region.ready md ops listed,wpOp P ops Q i (fun a' w'=>(i≠st->S w')/\CN P md ops Q S st fuel (listed.setIfInBounds i true) a' w') a w
def Lu:∀(fuel:Nat)(listed:Array Bool)(a:Act)(w:World),CN P md ops Q S st fuel listed a w->wpAny P md ops Q fuel listed a w
 |0,_,_,_,h=>h
 |fuel+1,_,_,_,h=>⟨h.1,fun i hi=>wpOp_mono (fun a' w' h'=>Lu fuel _ a' w' h'.2) (h.2 i hi)⟩
def Hh(md:Region.Mode)(ops:Array Oper)(st i:Nat):Bool:=((ops[st]?).map (·.after.any fun e=>Region.binds md e&&e.on==i)).getD false
def T4{i:Nat}{listed:Array Bool}(hw:Hh md ops st i=true)(hi:listed.getD i true=false):st∉Region.ready md ops listed:=by
 intro hst;obtain⟨_,o,ho,hall⟩:=mem_ready.1 hst;unfold Hh at hw;rw[ho]at hw;simp only[Option.map_some,EH,Array.any_eq_true']at hw;obtain⟨e,he,hb⟩:=hw;simp only[Ah,beq_iff_eq]at hb;have h1:=hall e he hb.1;rw[hb.2]at h1;rcases Bz i listed.size with h'|h'
 .simp[h']at hi h1;rw[hi]at h1;cases h1
 .simp[Array.getElem?_eq_none h']at h1
def Oi{i:Nat}{oi:Oper}{v:Value}(hi:ops[i]? =some oi)(hsel:∀(j:Nat)(o:Oper)cs b,ops[j]? =some o->o.op≠ .select cs b)(hQ:∀c a w,Q (.panic c) (a.put oi.dst v) w->Q (.panic c) a w)(hw:Hh md ops st i=true):∀(fuel:Nat)(listed:Array Bool)(a:Act)(w:World),(∀j oj,ops[j]? =some oj->j≠i->listed.getD j true=false->(∀e∈oj.after,Region.binds md e=true->e.on≠i)->oi.apart ops oj=true)->i∈Region.ready md ops listed->YieldsIf P ops S oi v a->S w->CN P md ops Q S st fuel (listed.setIfInBounds i true) (a.put oi.dst v) w->CN P md ops Q S st (fuel+1) listed a w:=by
 intro fuel;induction fuel with
 |zero=>
  intro listed a w _ hr hy hS H;refine⟨fun h=>(by rw[h]at hr;cases hr),fun j hj=> ?_⟩;by_cases hji:j=i
  .subst hji;exact hy.wpOp hi hS ⟨fun _=>hS,H⟩
  .have:=ready_mono hj hji;rw[H.1]at this;cases this
 |succ fuel ih=>
  intro listed a w hfree hr hy hS H;refine⟨fun h=>(by rw[h]at hr;cases hr),fun j hj=> ?_⟩;by_cases hji:j=i
  .subst hji;exact hy.wpOp hi hS ⟨fun _=>hS,H⟩
  .have h1:=H.2 j (ready_mono hj hji);have hjst:j≠st:=fun e=>T4 hw (mem_ready.1 hr).1 (e▸hj);obtain⟨hjun,oj,hoj,hall⟩:=mem_ready.1 hj;have hnot:∀e∈oj.after,Region.binds md e=true->e.on≠i:=fun e he hb heq=>by
    have h1:=hall e he hb;have h0:=(mem_ready.1 hr).1;rw[heq]at h1;rcases Bz i listed.size with h'|h'
    .simp[h']at h0 h1;rw[h0]at h1;cases h1
    .simp[Array.getElem?_eq_none h']at h1
   have h2:=wpOp_putIf hoj (hfree j oj hoj hji hjun hnot) (fun cs b=>hsel i oi cs b hi) (fun cs b=>hsel j oj cs b hoj) hQ hy h1;have hfree':∀k ok,ops[k]? =some ok->k≠i->(listed.setIfInBounds j true).getD k true=false->(∀e∈ok.after,Region.binds md e=true->e.on≠i)->oi.apart ops ok=true:=fun k ok hk hki hun hno=>by
    refine hfree k ok hk hki ?_ hno;by_cases hjk:j=k
    .subst hjk;exact hjun
    .rw[getD_set_ne true hjk]at hun;exact hun
   refine wpOp_mono (fun a' w' h3=>⟨h3.2.1,ih (listed.setIfInBounds j true) a' w' hfree' (ready_mono hr (Ne.symm hji)) h3.1 (h3.2.1 hjst) ?_⟩) h2;rw[Array.setIfInBounds_comm _ _ hji];exact h3.2.2
def Pm{i:Nat}{oi:Oper}{v:Value}{fuel:Nat}{listed:Array Bool}{a:Act}{w:World}(hi:ops[i]? =some oi)(hs:Region.noSelect ops=true)(hf:Region.free md ops listed i=true)(hr:(Region.ready md ops listed).contains i=true)(hw:Hh md ops st i=true)(hQ:∀c a w,Q (.panic c) (a.put oi.dst v) w->Q (.panic c) a w)(hy:YieldsIf P ops S oi v a)(hS:S w)(h:CN P md ops Q S st fuel (listed.setIfInBounds i true) (a.put oi.dst v) w):CN P md ops Q S st (fuel+1) listed a w:=Oi hi (Region.noSelect_spec hs) hQ hw fuel listed a w (Region.free_spec hi hf) (by simpa using hr) hy hS h
def AQ(i d:Nat)(v:Value){oi:Oper}{fuel:Nat}{listed:Array Bool}{a:Act}{w:World}(hi:ops[i]? =some oi)(hd:oi.dst=some d)(hs:Region.noSelect ops=true)(hf:Region.free md ops listed i=true)(hr:(Region.ready md ops listed).contains i=true)(hw:Hh md ops st i=true)(hQ:∀c a(d:Nat)v w,Q (.panic c) (a.put (some d) v) w->Q (.panic c) a w)(hg:Region.wanted oi (yielded ops a.tmps)=true)(hy:∀w,S w->(execOp a.eval oi).run P w=.ok (.value v) w)(hS:S w)(h:CN P md ops Q S st fuel (listed.setIfInBounds i true) (a.put (some d) v) w):CN P md ops Q S st (fuel+1) listed a w:=Pm hi hs hf hr hw (fun c a w h=>by rw[hd]at h;exact hQ c a d v w h) (Or.inl ⟨hg,hy⟩) hS (by rw[hd];exact h)
def B9{i:Nat}{fuel:Nat}{listed:Array Bool}{a:Act}{w:World}(hr:Region.ready md ops listed= [i])(h:wpOp P ops Q i (fun a' w'=>(i≠st->S w')/\CN P md ops Q S st fuel (listed.setIfInBounds i true) a' w') a w):CN P md ops Q S st (fuel+1) listed a w:=⟨fun h0=>(by rw[hr]at h0;cases h0),fun j hj=>(by rw[hr]at hj;simp at hj;subst hj;exact h)⟩
def Eh{listed:Array Bool}{a:Act}{w:World}(hr:Region.ready md ops listed= [])(h:Q .normal a w):∀fuel,CN P md ops Q S st fuel listed a w
 |0=>⟨hr,h⟩
 |_+1=>⟨fun _=>h,by rw[hr];simp⟩
def FL{id:Nat}{a:Act}{w:World}(S:World->Prop)(st:Nat)(hm:P.follows .mixedOrders=true)(h:CN P .any ops Q S st ops.size (Array.replicate ops.size false) a {w with drawn:=w.drawn+1}):(Code.region id ops true).wp P Q a w:=wp_region_any hm (Lu _ _ _ _ h)
def FP{K:Act->World->Prop}{a:Act}{w:World}{i:Nat}{o:Oper}(hi:ops[i]? =some o)(hg:Region.wanted o (yielded ops a.tmps)=true)(h:o.wp P a w K Q):wpOp P ops Q i K a w:=by
 unfold wpOp;rw[hi];show if Region.wanted o (yielded ops a.tmps)=true then _ else _
 rw[AI hg];exact .inl h
def AF{a:Act}{d e:Nat}{v:Value}(h:d≠e):(a.put (some d) v).eval (.tmp e)=a.eval (.tmp e):=Act.eval_put (dst:=some d) (x:=.tmp e) (by simp;exact fun hy=>h hy.symm)
def Ad{a:Act}{d:Nat}{v:Value}(h:d<a.tmps.size):(a.put (some d) v).eval (.tmp d)=v:=by simp[Act.eval,Act.put,h]
def AE{a:Act}{d:Nat}{v:Value}:(a.put (some d) v).tmps.size=a.tmps.size:=by simp[Act.put]
end
