import Derived.Test.YtgjpchnkodnieaaGreatDoorZ21
import Derived.Test.YtgjpchnkodnieaaGreatDoorZ18
import Derived.Test.YtgjpchnkodnieaaGreatDoorZ16
import Derived.Test.YtgjpchnkodnieaaGreatDoorZ07
import Derived.Deep.AppendLies
set_option maxRecDepth 20000
set_option maxHeartbeats 4000000
set_option linter.defProp false
namespace Go.Proofs.YtgjpchnkodnieaaGreatDoor
open Go.RowKit Tryz
def Qq(a b:Option Addr)(n c1 c2:Nat)(l ps:List Int)(w:World)(h1:AO w a n l)(h2:AO w b n ps)(hn:n<=5)(hord:Bd ps n n=true):Calls prog 60 #[.slice a n c1,.slice b n c2] w fun e w'=>∃g,e=.returned (.slice (some ⟨g,0,none⟩) n n)/\w.heap.size<=g/\BA w' g (CZ ps l n n)/\Below w.heap.size w w':=by
 have hl1:=AD h1.len;have hl2:=AD h2.len;have hmk:=run_make_row' (P:=prog) 23 3 (.int .i64 0) 8 underlying23 A6 rfl .i64 .i64 n (by omega) (by omega);obtain⟨W,hW⟩:∃W,w.alloc (.cells (madeCells #[.int .i64 0] n) 3)=W:=⟨_,rfl⟩
 obtain⟨g,hg⟩:∃g,w.heap.size=g:=⟨_,rfl⟩
 have HB:Hid (Below g w W):=by rw[<-hW,<-hg];exact AG.alloc AC _
 have HK0:Hid (BA W g (CZ ps l n 0)):=by rw[<-hW];exact BA.made w n g hg.symm
 have HA:Hid (AO W a n l):=by rw[<-hW];exact h1.alloc _
 have HP:Hid (AO W b n ps):=by rw[<-hW];exact h2.alloc _
 have HA1:Hid (∀k,At a n k->k≠g):=fun k hk=>by rw[<-hg];have:=h1.hi hk;omega
 have HP1:Hid (∀k,At b n k->k≠g):=fun k hk=>by rw[<-hg];have:=h2.hi hk;omega
 have HWE:=AD hW;have HGE:=AD hg;have HO:=AD hord;clear h1 h2 hW hg hord;go_enter func60,ntmps60;go_upto_region 2 with fail;rw[AA HWE,AA HGE];clear HWE hmk;go_wp2_with fail;go_loopw[13] (fun i wr=>∃k:Nat,k<=n/\i=.int .i64 k/\Hid (BA wr g (CZ ps l n k))/\Hid (BS (fun x=>x=g) W wr)) (fun i _=>n- (intOf i).toNat);case atStart=>exact⟨0,AS _,rfl,HK0,AD (BS.refl _ _)⟩
 case round=>
  obtain⟨k,hk,rfl,hb,hbut⟩:=hrel;by_cases hlt:k<n
  .obtain⟨b1,o1,rfl,hb1,hc1⟩:=((AA hbut).row (AA HA) (by rintro x rfl h;exact AA HA1 _ h rfl)).get hlt;obtain⟨b2,o2,rfl,hb2,hc2⟩:=((AA hbut).row (AA HP) (by rintro x rfl h;exact AA HP1 _ h rfl)).get hlt;have hso:=Da (AA HO) hlt;have hax:=Fl hso;have hrg:=Hw (AA HO) k hlt;obtain⟨x,hx⟩:∃x,l.getD k 0=x:=⟨_,rfl⟩
   obtain⟨y,hy⟩:∃y,ps.getD k 0=y:=⟨_,rfl⟩
   obtain⟨j,hj⟩:∃j,DS ps k=j:=⟨_,rfl⟩
   have hyj:y=(j:Int)+1:=by rw[<-hj];unfold DS;rw[hy];rw[hy]at hrg;omega
   rw[hj]at hax;rw[hx]at hc1;rw[hy,hyj]at hc2;have HN:=AD ((AA hb).set j x);have HE:Hid ((CZ ps l n k).set j x=CZ ps l n (k+1)):=by show _=(CZ ps l n k).set (DS ps k) (l.getD k 0);rw[hj,hx]
   rw[AA HE]at HN;have hcj:=(AA hb).cell (i:=j) (by rw[Do];exact hax);have hfj:=(AA hb).free j;have hgl:=(AA hb).lt;have hw1:IntKind.i64.wrap ((j:Int)+1- 1)=(j:Int):=by rw[IntKind.wrap_i64];omega
   have hji:(j:Int)<n:=by omega
   have hj0:(0:Int)<=j:=by omega
   have hjn:((j:Int)+1- 1)=(j:Int):=by omega
   clear hx hy hj hyj hso hrg hax HE;go_wp2_with fail;go_roundw;case rel=>exact⟨k+1,by omega,by go_num,HN,AD ((AA hbut).setCell (p:=⟨g,j,none⟩) rfl _)⟩
   case measure=>(simp[intOf]<;>omega)
  .obtain rfl:k=n:=by omega
   have KB:=AD ((AA HB).trans ((AA hbut).below (B:=g) (by have:=(AA HK0).lt;omega) (fun k hk=>by omega)));go_wp2_with fail;go_ret;exact⟨g,rfl,by rw[AA HGE];exact AC,AA hb,by rw[AA HGE];exact AA KB⟩
section
open Go.Shelf
def Cp(ga gb:Addr)(r:Int×Int)(w:World)(e:Ending)(w':World):Prop:=e=.returned (.tuple #[.int .i64 r.1,E3 ga gb r.2])/\∃q,w'=w.drewN q
def A3{ga gb:Addr}{r:Int×Int}{x c:Int}{w w':World}{q:Nat}(h:r=(x,c))(hw:w'=w.drewN q):Cp ga gb r w (.returned (.tuple #[.int .i64 x,E3 ga gb c])) w':=⟨ZX h,q,hw⟩
def K4(v:Int)(w:World)(r:Bool)(h:Hid (Dv v=r)):Calls prog 215 #[.int .i64 v] w fun e w'=>e=.returned (.bool r)/\w'=w:=by
 have e:BY false v=r:=by rw[<-AA h];simp[BY,Dv]
 rw[<-e];exact Fj v w
def Kv(v:Int)(ga gb:Addr)(w:World)(hG:Gl w ga gb):Calls prog 239 #[.int .i64 v] w (Cp ga gb (BH (v,true)) w):=by
 have hc:=hG.big;clear hG;by_cases h:Dv v=true
 .have HE:=AD (E0 h);have HT:=AD h;clear h;go_enter func239,ntmps239;go_wp2_with(go_at_call 215;refine(K4 _ _ _ HT).mono ?_;rintro e w'⟨rfl,rfl⟩);go_ret2;exact A3 (c:=0) (q:=0) HE.out rfl
 .have h':Dv v=false:=by simpa using h
  have HE:=AD (KL h');have HT:=AD h';clear h h';go_enter func239,ntmps239;go_wp2_with(go_at_call 215;refine(K4 _ _ _ HT).mono ?_;rintro e w'⟨rfl,rfl⟩);go_quiet(fail)
  go_wp2
  go_ret2;exact A3 (c:=7) HE.out rfl
def ap(a b:Int)(ga gb:Addr)(w:World)(hG:Gl w ga gb)(ha: -1000000000000000<=a/\a<=1000000000000000)(hb: -1000000000000000<=b/\b<=1000000000000000):Calls prog 238 #[.int .i64 a,.int .i64 b] w (Cp ga gb (BQ 1 a b) w):=by
 obtain⟨ha1,ha2⟩:=ha;obtain⟨hb1,hb2⟩:=hb;have hl:=Kv (a+b) ga gb w hG;clear hG;have HE:Hid (BQ 1 a b=BH (a+b,true)):=rfl;obtain⟨r,hr⟩:∃r,BH (a+b,true)=r:=⟨_,rfl⟩
 rw[hr]at hl HE;obtain⟨r1,r2⟩:=r;clear hr;have HL:=AD hl;clear hl;obtain⟨s,hs⟩:∃s,a+b=s:=⟨_,rfl⟩
 rw[hs]at HL;obtain⟨ev,hev⟩:∃ev,ev=E3 ga gb r2:=⟨_,rfl⟩
 go_enter func238,ntmps238;go_wp2_with(go_at_call 239;refine(AA HL).mono ?_;rintro e w1⟨rfl,q,rfl⟩;simp only[<-hev]);go_ret2;rw[hev];exact A3 HE.out rfl
def ai(a b:Int)(ga gb:Addr)(w:World)(hG:Gl w ga gb)(ha: -1000000000000000<=a/\a<=1000000000000000)(hb: -1000000000000000<=b/\b<=1000000000000000):Calls prog 240 #[.int .i64 a,.int .i64 b] w (Cp ga gb (BQ 2 a b) w):=by
 obtain⟨ha1,ha2⟩:=ha;obtain⟨hb1,hb2⟩:=hb;have hl:=Kv (a- b) ga gb w hG;clear hG;have HE:Hid (BQ 2 a b=BH (a- b,true)):=rfl;obtain⟨r,hr⟩:∃r,BH (a- b,true)=r:=⟨_,rfl⟩
 rw[hr]at hl HE;obtain⟨r1,r2⟩:=r;clear hr;have HL:=AD hl;clear hl;obtain⟨s,hs⟩:∃s,a- b=s:=⟨_,rfl⟩
 rw[hs]at HL;obtain⟨ev,hev⟩:∃ev,ev=E3 ga gb r2:=⟨_,rfl⟩
 go_enter func240,ntmps240;go_wp2_with(go_at_call 239;refine(AA HL).mono ?_;rintro e w1⟨rfl,q,rfl⟩;simp only[<-hev]);go_ret2;rw[hev];exact A3 HE.out rfl
def Fi(v:Int)(w:World)(hv: -1000000000000000<=v/\v<=1000000000000000)(m:Int)(h:Hid ((if v<0 then-v else v)=m)):Calls prog 281 #[.int .i64 v] w fun e w'=>e=.returned (.int .i64 m)/\w'=w:=by rw[<-AA h];exact NY v w hv
def Y7(a b:Int)(ga gb:Addr)(w:World)(hG:Gl w ga gb)(ha: -1000000000000000<=a/\a<=1000000000000000)(hb: -1000000000000000<=b/\b<=1000000000000000):Calls prog 241 #[.int .i64 a,.int .i64 b] w (Cp ga gb (BQ 3 a b) w):=by
 have hc:=hG.big;clear hG;have HA:=AD ha;have HB:=AD hb;obtain⟨ha1,ha2⟩:=ha;obtain⟨hb1,hb2⟩:=hb;by_cases h0:a=0
 .subst h0;have HE:Hid (BQ 3 0 b=(0,0)):=by show _=_;simp[BQ,Bo,Dv,BH]
  go_enter func241,ntmps241
  go_wp2
  go_ret2;exact A3 (c:=0) (q:=0) HE.out rfl
 have q0:(a !=0)=true:=by simp[h0]
 obtain⟨x,hx⟩:∃x,(if b<0 then-b else b)=x:=⟨_,rfl⟩
 obtain⟨y,hy⟩:∃y,(if a<0 then-a else a)=y:=⟨_,rfl⟩
 have HX:=AD hx;have HY:=AD hy;have hy0:0<y:=by rw[<-hy];split<;>omega
 have hyn:¬ y=0:=by omega
 have hyb:y<=1000000000000000:=by rw[<-hy];split<;>omega
 have hx0:0<=x:=by rw[<-hx];split<;>omega
 have hxb:x<=1000000000000000:=by rw[<-hx];split<;>omega
 have hxy:x*y=b*a\/x*y= -(b*a):=OL (by rw[<-hx];split<;>simp) (by rw[<-hy];split<;>simp);rw[Int.mul_comm b a]at hxy;have hp0:0<=x*y:=Int.mul_nonneg (by omega) (by omega);have hq:(1000000000000000:Int).tdiv y<x↔1000000000000000<x*y:=Ol hy0;obtain⟨t,ht⟩:∃t,(1000000000000000:Int).tdiv y=t:=⟨_,rfl⟩
 have htb:0<=t/\t<=1000000000000000:=by rw[<-ht,DA (by omega)];exact⟨Int.ediv_nonneg (by omega) (by omega),Int.ediv_le_self _ (by omega)⟩
 obtain⟨ht1,ht2⟩:=htb;rw[ht]at hq;obtain⟨pr,hpr⟩:∃pr,a*b=pr:=⟨_,rfl⟩
 rw[hpr]at hxy;have HT:Hid (BQ 3 a b=BH (Bo a b)):=rfl;by_cases hbig:t<x
 .rw[GU (by rw[hpr];exact Jk (by have:=hq.mp hbig;omega)),Jf]at HT;clear hq hxy hp0 h0 hx hy hpr;go_enter func241,ntmps241;go_wp2_with(first
   |(go_at_call_of 281 (Value.int .i64 b);refine(Fi _ _ (AA HB) _ HX).mono ?_;rintro e w1⟨rfl,rfl⟩)
   |(go_at_call_of 281 (Value.int .i64 a);refine(Fi _ _ (AA HA) _ HY).mono ?_;rintro e w1⟨rfl,rfl⟩))
  go_quiet(fail)
  go_wp2
  go_ret2;exact A3 (c:=7) HT.out rfl
 .have hle:x*y<=1000000000000000:=by
   by_cases h':1000000000000000<x*y
   .exact absurd (hq.mpr h') hbig
   .omega
  have hpb1: -1000000000000000<=pr:=by omega
  have hpb2:pr<=1000000000000000:=by omega
  rw[Hl (by rw[hpr];exact Ea hpb1 hpb2),hpr,E0 (Ea hpb1 hpb2)]at HT;clear hq hxy hp0 hle h0 hx hy;go_enter func241,ntmps241;go_wp2_with(first
   |(go_at_call_of 281 (Value.int .i64 b);refine(Fi _ _ (AA HB) _ HX).mono ?_;rintro e w1⟨rfl,rfl⟩)
   |(go_at_call_of 281 (Value.int .i64 a);refine(Fi _ _ (AA HA) _ HY).mono ?_;rintro e w1⟨rfl,rfl⟩))
  go_ret2;exact A3 (c:=0) (q:=0) HT.out rfl
def ao(a b:Int)(ga gb:Addr)(w:World)(hG:Gl w ga gb)(ha: -1000000000000000<=a/\a<=1000000000000000)(hb: -1000000000000000<=b/\b<=1000000000000000):Calls prog 242 #[.int .i64 a,.int .i64 b] w (Cp ga gb (BQ 4 a b) w):=by
 have hc:=hG.no;clear hG;obtain⟨ha1,ha2⟩:=ha;obtain⟨hb1,hb2⟩:=hb;have HE:Hid (BQ 4 a b=(if a=0/\b=0 then(1,0)else if b=0\/a.tmod b≠0 then(0,3)else BH (a.tdiv b,true))):=rfl;by_cases hz:b=0
 .subst hz;by_cases h0:a=0
  .subst h0;rw[AI ⟨rfl,rfl⟩]at HE;go_enter func242,ntmps242
   go_wp2
   go_ret2;exact A3 (c:=0) (q:=0) HE.out rfl
  .rw[AH (fun h=>h0 h.1),AI (.inl rfl)]at HE;have q0:(a==0)=false:=by simp[h0]
   go_enter func242,ntmps242
   go_wp2
   go_quiet(fail)
   go_wp2
   go_ret2;exact A3 (c:=3) HE.out rfl
 have qz:(b==0)=false:=by simp[hz]
 rw[AH (fun h=>hz h.2)]at HE;obtain⟨m,hm⟩:∃m,a.tmod b=m:=⟨_,rfl⟩
 rw[hm]at HE;by_cases hm0:m=0
 .subst hm0;rw[AH (by simp[hz])]at HE;have hd: -1000000000000000<=a.tdiv b/\a.tdiv b<=1000000000000000:=by have h1:=Int.natAbs_tdiv_le_natAbs a b;omega
  obtain⟨v,hv⟩:∃v,a.tdiv b=v:=⟨_,rfl⟩
  rw[hv]at HE hd;rw[E0 (Ea hd.1 hd.2)]at HE;obtain⟨hd1,hd2⟩:=hd;by_cases h0:a=0
  .subst h0;have hv0:v=0:=by rw[<-hv];simp
   subst hv0;clear hv hm;go_enter func242,ntmps242
   go_wp2
   go_ret2;exact A3 (c:=0) (q:=0) HE.out rfl
  .have q0:(a==0)=false:=by simp[h0]
   go_enter func242,ntmps242
   go_wp2
   go_ret2;exact A3 (c:=0) (q:=0) HE.out rfl
 .rw[AI (.inr hm0)]at HE;have qm:(m !=0)=true:=by simp[hm0]
  have h0:¬ a=0:=by rintro rfl;simp at hm;exact hm0 hm.symm
  have q0:(a==0)=false:=by simp[h0]
  go_enter func242,ntmps242
  go_wp2
  go_quiet(fail)
  go_wp2
  go_ret2;exact A3 (c:=3) HE.out rfl
end
section
open Go.Shelf
def CA(b:Bool)(w:World)(r:Int)(hr:Hid (Bh b=r)):Calls prog 249 #[.bool b] w fun e w'=>e=.returned (.int .i64 r)/\w'=w:=by
 rw[<-AA hr];cases b;all_goals
  go_enter func249,ntmps249
  go_wp2
  go_ret;exact⟨rfl,rfl⟩
def al(a b:Int)(ga gb:Addr)(w:World)(ha: -1000000000000000<=a/\a<=1000000000000000)(hb: -1000000000000000<=b/\b<=1000000000000000):Calls prog 243 #[.int .i64 a,.int .i64 b] w (Cp ga gb (BQ 5 a b) w):=by
 have HE:=AD (Cy ha hb 5 (by omega));clear ha hb;by_cases h:a<b
 .have HO:Hid (CL 5 a b=a):=by show _=_;simp[CL,h]
  rw[AA HO]at HE;go_enter func243,ntmps243
  go_wp2
  go_ret2;first|exact A3 (c:=0) (q:=0) HE.out rfl|(rw[show min a b=a by omega];exact A3 (c:=0) (q:=0) HE.out rfl)
 .have HO:Hid (CL 5 a b=b):=by show _=_;simp[CL,h]
  rw[AA HO]at HE;by_cases h2:a=b
  .subst h2;go_enter func243,ntmps243
   go_wp2
   go_ret2;first|exact A3 (c:=0) (q:=0) HE.out rfl|(rw[show min a a=a by omega];exact A3 (c:=0) (q:=0) HE.out rfl)
  .have h3:b<a:=by omega
   clear h2;go_enter func243,ntmps243
   go_wp2
   go_ret2;first|exact A3 (c:=0) (q:=0) HE.out rfl|(rw[show min a b=b by omega];exact A3 (c:=0) (q:=0) HE.out rfl)
def am(a b:Int)(ga gb:Addr)(w:World)(ha: -1000000000000000<=a/\a<=1000000000000000)(hb: -1000000000000000<=b/\b<=1000000000000000):Calls prog 244 #[.int .i64 a,.int .i64 b] w (Cp ga gb (BQ 6 a b) w):=by
 have HE:=AD (Cy ha hb 6 (by omega));clear ha hb;by_cases h:a<b
 .have HO:Hid (CL 6 a b=b):=by show _=_;simp[CL,h]
  rw[AA HO]at HE;go_enter func244,ntmps244
  go_wp2
  go_ret2;first|exact A3 (c:=0) (q:=0) HE.out rfl|(rw[show max a b=b by omega];exact A3 (c:=0) (q:=0) HE.out rfl)
 .have HO:Hid (CL 6 a b=a):=by show _=_;simp[CL,h]
  rw[AA HO]at HE;by_cases h2:a=b
  .subst h2;go_enter func244,ntmps244
   go_wp2
   go_ret2;first|exact A3 (c:=0) (q:=0) HE.out rfl|(rw[show max a a=a by omega];exact A3 (c:=0) (q:=0) HE.out rfl)
  .have h3:b<a:=by omega
   clear h2;go_enter func244,ntmps244
   go_wp2
   go_ret2;first|exact A3 (c:=0) (q:=0) HE.out rfl|(rw[show max a b=a by omega];exact A3 (c:=0) (q:=0) HE.out rfl)
def YX(a b:Int)(ga gb:Addr)(w:World)(ha: -1000000000000000<=a/\a<=1000000000000000)(hb: -1000000000000000<=b/\b<=1000000000000000):Calls prog 248 #[.int .i64 a,.int .i64 b] w (Cp ga gb (BQ 9 a b) w):=by
 have HE:=AD (Cy ha hb 9 (by omega));have HO:Hid (CL 9 a b=Bh (decide (a=b))):=rfl;rw[AA HO]at HE;clear ha hb;by_cases h:a=b
 .have HD:Hid (Bh true=1):=rfl;rw[AL h]at HE;have qe:(a==b)=true:=by simp[h]
  clear h;go_enter func248,ntmps248;go_wp2_with(go_at_call 249;refine(CA _ _ _ HD).mono ?_;rintro e w1⟨rfl,rfl⟩);go_ret2;exact A3 (c:=0) (q:=0) HE.out rfl
 .have HD:Hid (Bh false=0):=rfl;rw[AK h]at HE;have qe:(a==b)=false:=by simp[h]
  clear h;go_enter func248,ntmps248;go_wp2_with(go_at_call 249;refine(CA _ _ _ HD).mono ?_;rintro e w1⟨rfl,rfl⟩);go_ret2;exact A3 (c:=0) (q:=0) HE.out rfl
def cK(a b:Int)(ga gb:Addr)(w:World)(ha: -1000000000000000<=a/\a<=1000000000000000)(hb: -1000000000000000<=b/\b<=1000000000000000):Calls prog 250 #[.int .i64 a,.int .i64 b] w (Cp ga gb (BQ 10 a b) w):=by
 have HE:=AD (Cy ha hb 10 (by omega));have HO:Hid (CL 10 a b=Bh (decide (a≠b))):=rfl;rw[AA HO]at HE;clear ha hb;by_cases h:a≠b
 .have HD:Hid (Bh true=1):=rfl;rw[AL h]at HE;have qe:(a !=b)=true:=by simpa using h
  clear h;go_enter func250,ntmps250;go_wp2_with(go_at_call 249;refine(CA _ _ _ HD).mono ?_;rintro e w1⟨rfl,rfl⟩);go_ret2;exact A3 (c:=0) (q:=0) HE.out rfl
 .have HD:Hid (Bh false=0):=rfl;rw[AK h]at HE;have qe:(a !=b)=false:=by simpa using h
  clear h;go_enter func250,ntmps250;go_wp2_with(go_at_call 249;refine(CA _ _ _ HD).mono ?_;rintro e w1⟨rfl,rfl⟩);go_ret2;exact A3 (c:=0) (q:=0) HE.out rfl
def cM(a b:Int)(ga gb:Addr)(w:World)(ha: -1000000000000000<=a/\a<=1000000000000000)(hb: -1000000000000000<=b/\b<=1000000000000000):Calls prog 251 #[.int .i64 a,.int .i64 b] w (Cp ga gb (BQ 11 a b) w):=by
 have HE:=AD (Cy ha hb 11 (by omega));have HO:Hid (CL 11 a b=Bh (decide (a<b))):=rfl;rw[AA HO]at HE;clear ha hb;by_cases h:a<b
 .have HD:Hid (Bh true=1):=rfl;rw[AL h]at HE;go_enter func251,ntmps251;go_wp2_with(go_at_call 249;refine(CA _ _ _ HD).mono ?_;rintro e w1⟨rfl,rfl⟩);go_ret2;exact A3 (c:=0) (q:=0) HE.out rfl
 .have HD:Hid (Bh false=0):=rfl;rw[AK h]at HE;go_enter func251,ntmps251;go_wp2_with(go_at_call 249;refine(CA _ _ _ HD).mono ?_;rintro e w1⟨rfl,rfl⟩);go_ret2;exact A3 (c:=0) (q:=0) HE.out rfl
def cO(a b:Int)(ga gb:Addr)(w:World)(ha: -1000000000000000<=a/\a<=1000000000000000)(hb: -1000000000000000<=b/\b<=1000000000000000):Calls prog 252 #[.int .i64 a,.int .i64 b] w (Cp ga gb (BQ 12 a b) w):=by
 have HE:=AD (Cy ha hb 12 (by omega));have HO:Hid (CL 12 a b=Bh (decide (a<=b))):=rfl;rw[AA HO]at HE;clear ha hb;by_cases h:a<=b
 .have HD:Hid (Bh true=1):=rfl;rw[AL h]at HE;go_enter func252,ntmps252;go_wp2_with(go_at_call 249;refine(CA _ _ _ HD).mono ?_;rintro e w1⟨rfl,rfl⟩);go_ret2;exact A3 (c:=0) (q:=0) HE.out rfl
 .have HD:Hid (Bh false=0):=rfl;rw[AK h]at HE;go_enter func252,ntmps252;go_wp2_with(go_at_call 249;refine(CA _ _ _ HD).mono ?_;rintro e w1⟨rfl,rfl⟩);go_ret2;exact A3 (c:=0) (q:=0) HE.out rfl
def cR(a b:Int)(ga gb:Addr)(w:World)(ha: -1000000000000000<=a/\a<=1000000000000000)(hb: -1000000000000000<=b/\b<=1000000000000000):Calls prog 253 #[.int .i64 a,.int .i64 b] w (Cp ga gb (BQ 13 a b) w):=by
 have HE:=AD (Cy ha hb 13 (by omega));have HO:Hid (CL 13 a b=Bh (decide (b<=a))):=rfl;rw[AA HO]at HE;clear ha hb;by_cases h:b<=a
 .have HD:Hid (Bh true=1):=rfl;rw[AL h]at HE;go_enter func253,ntmps253;go_wp2_with(go_at_call 249;refine(CA _ _ _ HD).mono ?_;rintro e w1⟨rfl,rfl⟩);go_ret2;exact A3 (c:=0) (q:=0) HE.out rfl
 .have HD:Hid (Bh false=0):=rfl;rw[AK h]at HE;go_enter func253,ntmps253;go_wp2_with(go_at_call 249;refine(CA _ _ _ HD).mono ?_;rintro e w1⟨rfl,rfl⟩);go_ret2;exact A3 (c:=0) (q:=0) HE.out rfl
def cQ(a b:Int)(ga gb:Addr)(w:World)(ha: -1000000000000000<=a/\a<=1000000000000000)(hb: -1000000000000000<=b/\b<=1000000000000000):Calls prog 254 #[.int .i64 a,.int .i64 b] w (Cp ga gb (BQ 14 a b) w):=by
 have HE:=AD (Cy ha hb 14 (by omega));have HO:Hid (CL 14 a b=Bh (decide (b<a))):=rfl;rw[AA HO]at HE;clear ha hb;by_cases h:b<a
 .have HD:Hid (Bh true=1):=rfl;rw[AL h]at HE;go_enter func254,ntmps254;go_wp2_with(go_at_call 249;refine(CA _ _ _ HD).mono ?_;rintro e w1⟨rfl,rfl⟩);go_ret2;exact A3 (c:=0) (q:=0) HE.out rfl
 .have HD:Hid (Bh false=0):=rfl;rw[AK h]at HE;go_enter func254,ntmps254;go_wp2_with(go_at_call 249;refine(CA _ _ _ HD).mono ?_;rintro e w1⟨rfl,rfl⟩);go_ret2;exact A3 (c:=0) (q:=0) HE.out rfl
end
section
open Go.Shelf
def YY{a b:Int}(ha: -1000000000000000<=a/\a<=1000000000000000)(hb: -1000000000000000<=b/\b<=1000000000000000):BQ 7 a b=(Bk a b,0):=by
 have h:BQ 7 a b=BH (Bk a b,true):=rfl;have hm: -1000000000000000<=b.tmod a/\b.tmod a<=1000000000000000:=by have:=Int.natAbs_tmod b a;have h3:b.natAbs % a.natAbs<=b.natAbs:=Nat.mod_le _ _;omega
 rw[h,E0];unfold Bk;by_cases h0:a=0
 .rw[AI h0];exact Ea hb.1 hb.2
 .rw[AH h0];split
  .rename_i hs
   obtain⟨hs1,hs2⟩:=hs;by_cases h1:b.tmod a<0<;>by_cases h2:a<0;all_goals simp only[h1,h2,decide_true,decide_false,ne_eq,not_true_eq_false]at hs2
   all_goals exact Ea (by omega) (by omega)
  .exact Ea hm.1 hm.2
def ak(a b:Int)(ga gb:Addr)(w:World)(ha: -1000000000000000<=a/\a<=1000000000000000)(hb: -1000000000000000<=b/\b<=1000000000000000):Calls prog 245 #[.int .i64 a,.int .i64 b] w (Cp ga gb (BQ 7 a b) w):=by
 have HT:=AD (YY ha hb);have HR:=AD (fun W=>Hr a b W ha hb);obtain⟨r,hr⟩:∃r,Bk a b=r:=⟨_,rfl⟩
 rw[hr]at HT HR;clear ha hb hr;go_enter func245,ntmps245;go_wp2_with(go_at_call 246;refine(AA HR _).mono ?_;rintro e w1⟨rfl,hw1⟩;obtain rfl:=hw1.symm);go_ret2;exact A3 (c:=0) (q:=0) HT.out rfl
def Ga(a b:Int)(ga gb:Addr)(w:World)(hG:Gl w ga gb)(ha: -1000000000000000<=a/\a<=1000000000000000)(hb: -1000000000000000<=b/\b<=1000000000000000)(r1 r2:Int)(hr:Hid (BQ 3 a b=(r1,r2))):Calls prog 241 #[.int .i64 a,.int .i64 b] w fun e w'=>e=.returned (.tuple #[.int .i64 r1,E3 ga gb r2])/\∃q,w'=w.drewN q:=by have:=Y7 a b ga gb w hG ha hb;rw[AA hr]at this;exact this
def J7{x a y:Int}(h:x*a=y)(hy:Dv y=true):BQ 3 x a=(y,0):=by have e:BQ 3 x a=BH (Bo x a):=rfl;rw[e,Hl (by rw[h];exact hy),h,E0 hy]
def Iq{x a:Int}(hy:Dv (x*a)=false):BQ 3 x a=(0,7):=by have e:BQ 3 x a=BH (Bo x a):=rfl;rw[e,GU hy,Jf]
structure Jx(a b:Int)(n:Nat):Prop where
 same:a ^ n=a ^ b.toNat
 big:2<=a.natAbs\/(a=0\/a=1\/a= -1)
def UR{a:Int}(h:a=0\/a=1\/a= -1)(k:Nat):a ^ k=0\/a ^ k=1\/a ^ k= -1:=by
 induction k with
 |zero=>simp
 |succ k ih=>
  rw[Int.pow_succ];rcases ih with e|e|e<;>rw[e]<;>rcases h with rfl|rfl|rfl<;>simp
def Va{x:Int}(h:x=0\/x=1\/x= -1):Dv x=true:=by rcases h with rfl|rfl|rfl<;>rfl
def KH{a b:Int}{n k:Nat}(h:Jx a b n)(hk:k<=n)(hb:Dv (a ^ k)=false):Dj a b=(0,false):=by
 rcases h.big with h2|h2
 .exact TS (by rw[<-h.same];exact JV h2 k n hk hb)
 .rw[Va (UR h2 k)]at hb;cases hb
def ML{a b:Int}(hb:0<=b)(h:Dj a b=(0,false)):BQ 8 a b=(0,7):=by have e:BQ 8 a b=(if b<0 then(0,3)else BH (Dj a b)):=rfl;rw[e,AH (by omega),h,Jf]
def O5{a b x:Int}{n:Nat}(hb:0<=b)(h:Jx a b n)(hx:a ^ n=x)(hi:Dv x=true):BQ 8 a b=(x,0):=by
 have e:BQ 8 a b=(if b<0 then(0,3)else BH (Dj a b)):=rfl;have hx':a ^ b.toNat=x:=by rw[<-h.same];exact hx
 rw[e,AH (by omega),MK (by rw[hx'];exact hi),hx',E0 hi]
def VF(a:Int):2<=a.natAbs\/(a=0\/a=1\/a= -1):=by omega
def NW{a b:Int}{n:Nat}(hn:b=n):Jx a b n:=⟨by rw[hn];rfl,VF a⟩
def NV{a b:Int}(ha:a=0\/a=1\/a= -1)(hb:2<b){n:Nat}(hn:2- b.tmod 2=(n:Int)):Jx a b n:=by
 refine⟨?_,.inr ha⟩;have e:b.tmod 2=((b.toNat % 2:Nat):Int):=by rw[Au (by omega)];omega
 rcases ha with rfl|rfl|rfl
 .rw[Int.zero_pow (by omega),Int.zero_pow (by omega)]
 .rw[Int.one_pow,Int.one_pow]
 .rw[Hy,Hy];have:n % 2=b.toNat % 2:=by omega
  rw[this]
end
section
open Go.Shelf
def MJ(a b:Int)(n:Nat)(ga gb:Addr)(w:World)(hG:Gl w ga gb)(ha: -1000000000000000<=a/\a<=1000000000000000)(hb0:0<=b)(hb:b<=1000000000000000)(hP:Jx a b n)(hcase:(¬(Cj a (-1) 1=true/\2<b)/\b=(n:Int))\/(Cj a (-1) 1=true/\2<b/\2- b.tmod 2=(n:Int))):Calls prog 247 #[.int .i64 a,.int .i64 b] w (Cp ga gb (BQ 8 a b) w):=by
 have HG:=AD hG;have HA:=AD ha;have HP:=AD hP;have HB0:=AD hb0;have hnn:=Ku;clear hG hP;obtain⟨wi,hwi⟩:∃wi,Cj a (-1) 1=wi:=⟨_,rfl⟩
 rw[hwi]at hcase;have HW:=AD hwi;clear hwi;have hmb:0<=b.tmod 2/\b.tmod 2<=1:=by rw[Au (by omega)];omega
 obtain⟨m,hm⟩:∃m,b.tmod 2=m:=⟨_,rfl⟩
 rw[hm]at hcase hmb;obtain⟨hm1,hm2⟩:=hmb;have hn16:(n:Int)<=1000000000000000:=by rcases hcase with h|h<;>omega
 rcases hcase with⟨h1,h2⟩|⟨h1,h2,h3⟩
 .subst h2;cases wi with
  |false=>
   go_enter func247,ntmps247;go_wp2_with(go_at_call 50;refine(CP _ _ _ _ _ HW).mono ?_;rintro e w⟨rfl,rfl⟩);go_loopw[6,7,21] (fun v _ i wr=>∃(k:Nat)(x:Int)(q:Nat),k<=n/\i=.int .i64 k/\v=.int .i64 x/\Hid (a ^ k=x)/\Hid (Dv x=true)/\wr=w.drewN q) (fun _ _ i _=>n- (intOf i).toNat);case atStart=>exact⟨0,1,0,AS _,rfl,rfl,AD (by simp),AD rfl,rfl⟩
   case round=>
    obtain⟨k,x,q,hk,rfl,rfl,hx,hin,rfl⟩:=hrel;have hxb:=IB (AA hin);by_cases hlt:k<n
    .have hps:a ^ (k+1)=x*a:=by rw[Int.pow_succ,AA hx]
     by_cases hbig:Dv (x*a)=true
     .obtain⟨y,hy⟩:∃y,x*a=y:=⟨_,rfl⟩
      have HT:=AD (J7 hy (by rw[<-hy];exact hbig));rw[hy]at hps hbig;have HPS:=AD hps;have HIN:=AD hbig;clear hy hbig hps;go_wp2_with(go_at_call 241;refine(Ga _ _ ga gb _ ((AA HG).drewN _) hxb (AA HA) _ _ HT).mono ?_;rintro e w1⟨rfl,q',rfl⟩;simp only[IE]);go_roundw;case rel=>exact⟨k+1,y,_,by omega,by go_num,rfl,HPS,HIN,rfl⟩
      case measure=>simp[intOf];omega
     .have hb':Dv (x*a)=false:=by simpa using hbig
      have HT:=AD (Iq hb');have HE:=AD (ML (AA HB0) (KH (AA HP) hlt (by rw[hps];exact hb')));clear hbig hb' hps;go_wp2_with(go_at_call 241;refine(Ga _ _ ga gb _ ((AA HG).drewN _) hxb (AA HA) _ _ HT).mono ?_;rintro e w1⟨rfl,q',rfl⟩;simp only[ID]);go_ret2;exact A3 (c:=7) HE.out rfl
    .have hkn:k=n:=by omega
     subst hkn;have HE:=AD (O5 (AA HB0) (AA HP) (AA hx) (AA hin))
     go_wp2
     go_ret2;exact A3 (c:=0) HE.out rfl
  |true=>
   have h3:¬ 2<(n:Int):=fun h=>h1 ⟨rfl,h⟩;clear h1;go_enter func247,ntmps247;go_wp2_with(go_at_call 50;refine(CP _ _ _ _ _ HW).mono ?_;rintro e w⟨rfl,rfl⟩);go_loopw[6,7,21] (fun v _ i wr=>∃(k:Nat)(x:Int)(q:Nat),k<=n/\i=.int .i64 k/\v=.int .i64 x/\Hid (a ^ k=x)/\Hid (Dv x=true)/\wr=w.drewN q) (fun _ _ i _=>n- (intOf i).toNat);case atStart=>exact⟨0,1,0,AS _,rfl,rfl,AD (by simp),AD rfl,rfl⟩
   case round=>
    obtain⟨k,x,q,hk,rfl,rfl,hx,hin,rfl⟩:=hrel;have hxb:=IB (AA hin);by_cases hlt:k<n
    .have hps:a ^ (k+1)=x*a:=by rw[Int.pow_succ,AA hx]
     by_cases hbig:Dv (x*a)=true
     .obtain⟨y,hy⟩:∃y,x*a=y:=⟨_,rfl⟩
      have HT:=AD (J7 hy (by rw[<-hy];exact hbig));rw[hy]at hps hbig;have HPS:=AD hps;have HIN:=AD hbig;clear hy hbig hps;go_wp2_with(go_at_call 241;refine(Ga _ _ ga gb _ ((AA HG).drewN _) hxb (AA HA) _ _ HT).mono ?_;rintro e w1⟨rfl,q',rfl⟩;simp only[IE]);go_roundw;case rel=>exact⟨k+1,y,_,by omega,by go_num,rfl,HPS,HIN,rfl⟩
      case measure=>simp[intOf];omega
     .have hb':Dv (x*a)=false:=by simpa using hbig
      have HT:=AD (Iq hb');have HE:=AD (ML (AA HB0) (KH (AA HP) hlt (by rw[hps];exact hb')));clear hbig hb' hps;go_wp2_with(go_at_call 241;refine(Ga _ _ ga gb _ ((AA HG).drewN _) hxb (AA HA) _ _ HT).mono ?_;rintro e w1⟨rfl,q',rfl⟩;simp only[ID]);go_ret2;exact A3 (c:=7) HE.out rfl
    .have hkn:k=n:=by omega
     subst hkn;have HE:=AD (O5 (AA HB0) (AA HP) (AA hx) (AA hin))
     go_wp2
     go_ret2;exact A3 (c:=0) HE.out rfl
 .subst h1;go_enter func247,ntmps247;go_wp2_with(go_at_call 50;refine(CP _ _ _ _ _ HW).mono ?_;rintro e w⟨rfl,rfl⟩);go_loopw[6,7,21] (fun v _ i wr=>∃(k:Nat)(x:Int)(q:Nat),k<=n/\i=.int .i64 k/\v=.int .i64 x/\Hid (a ^ k=x)/\Hid (Dv x=true)/\wr=w.drewN q) (fun _ _ i _=>n- (intOf i).toNat);case atStart=>exact⟨0,1,0,AS _,rfl,rfl,AD (by simp),AD rfl,rfl⟩
  case round=>
   obtain⟨k,x,q,hk,rfl,rfl,hx,hin,rfl⟩:=hrel;have hxb:=IB (AA hin);by_cases hlt:k<n
   .have hps:a ^ (k+1)=x*a:=by rw[Int.pow_succ,AA hx]
    by_cases hbig:Dv (x*a)=true
    .obtain⟨y,hy⟩:∃y,x*a=y:=⟨_,rfl⟩
     have HT:=AD (J7 hy (by rw[<-hy];exact hbig));rw[hy]at hps hbig;have HPS:=AD hps;have HIN:=AD hbig;clear hy hbig hps;go_wp2_with(go_at_call 241;refine(Ga _ _ ga gb _ ((AA HG).drewN _) hxb (AA HA) _ _ HT).mono ?_;rintro e w1⟨rfl,q',rfl⟩;simp only[IE]);go_roundw;case rel=>exact⟨k+1,y,_,by omega,by go_num,rfl,HPS,HIN,rfl⟩
     case measure=>simp[intOf];omega
    .have hb':Dv (x*a)=false:=by simpa using hbig
     have HT:=AD (Iq hb');have HE:=AD (ML (AA HB0) (KH (AA HP) hlt (by rw[hps];exact hb')));clear hbig hb' hps;go_wp2_with(go_at_call 241;refine(Ga _ _ ga gb _ ((AA HG).drewN _) hxb (AA HA) _ _ HT).mono ?_;rintro e w1⟨rfl,q',rfl⟩;simp only[ID]);go_ret2;exact A3 (c:=7) HE.out rfl
   .have hkn:k=n:=by omega
    subst hkn;have HE:=AD (O5 (AA HB0) (AA HP) (AA hx) (AA hin))
    go_wp2
    go_ret2;exact A3 (c:=0) HE.out rfl
def aj(a b:Int)(ga gb:Addr)(w:World)(hG:Gl w ga gb)(ha: -1000000000000000<=a/\a<=1000000000000000)(hb: -1000000000000000<=b/\b<=1000000000000000):Calls prog 247 #[.int .i64 a,.int .i64 b] w (Cp ga gb (BQ 8 a b) w):=by
 by_cases h0:b<0
 .have hc:=hG.no;have HE:Hid (BQ 8 a b=(0,3)):=by show _=_;have e:BQ 8 a b=(if b<0 then(0,3)else BH (Dj a b)):=rfl;rw[e,AI h0]
  clear hG ha hb;go_enter func247,ntmps247
  go_wp2
  go_quiet(fail)
  go_wp2
  go_ret2;exact A3 (c:=3) HE.out rfl
 .by_cases hs:Cj a (-1) 1=true/\2<b
  .have hm:0<=b.tmod 2/\b.tmod 2<=1:=by rw[Au (by omega)];omega
   have hn:2- b.tmod 2=((2- b.tmod 2).toNat:Int):=by omega
   have ha':=BB hs.1;exact MJ a b _ ga gb w hG ha (by omega) hb.2 (NV (by omega) hs.2 hn) (.inr ⟨hs.1,hs.2,hn⟩)
  .have hn:b=(b.toNat:Int):=by omega
   exact MJ a b _ ga gb w hG ha (by omega) hb.2 (NW hn) (.inl ⟨hs,hn⟩)
end
section
open Go.Shelf
def C7(op:Int)(w:World)(r:Bool)(hr:Hid (Gb op=r)):Calls prog 110 #[.int .i64 op] w fun e w'=>e=.returned (.bool r)/\w'=w:=by have HW:Hid (Cj op 1 16=r):=hr;go_enter func110,ntmps110;go_wp2_with(go_at_call 50;refine(CP _ _ _ _ _ HW).mono ?_;rintro e w'⟨rfl,rfl⟩);go_ret;exact⟨rfl,rfl⟩
end
section
variable {o:Oper}{a:Act}
def ZW(x:Operand)(b:Nat)(ho:o.op=.fieldAddr 25 x 2)(hx:a.eval x=.pointer (some ⟨b,0,none⟩))(w:World):(execOp a.eval o).run prog w=.ok (.value (.pointer (some ⟨b,2,none⟩))) w:=by
 unfold execOp;simp only[ho,hx]
 go_simp
def cY(x:Operand)(p:Addr){s:Option Addr}{l c:Nat}(ho:o.op=.load 23 x)(hx:a.eval x=.pointer (some p))(w:World)(hc:w.cell? p=some (.slice s l c)):(execOp a.eval o).run prog w=.ok (.value (.slice s l c)) w:=by
 unfold execOp;simp only[ho,hx]
 go_simp
def co(x:Operand)(p:Addr){z:Int}(ho:o.op=.load 3 x)(hx:a.eval x=.pointer (some p))(w:World)(hc:w.cell? p=some (.int .i64 z)):(execOp a.eval o).run prog w=.ok (.value (.int .i64 z)) w:=by
 unfold execOp;simp only[ho,hx]
 go_simp
def aX(x:Operand){v:Value}(ho:o.op=.move x)(hx:a.eval x=v)(w:World):(execOp a.eval o).run prog w=.ok (.value v) w:=by
 unfold execOp;simp only[ho,hx]
 go_simp
def Vm(x y:Operand){i j k:Int}(ho:o.op=.binOp .mul 3 x y 3)(hx:a.eval x=.int .i64 i)(hy:a.eval y=.int .i64 j)(hk:IntKind.i64.wrap (i*j)=k)(w:World):(execOp a.eval o).run prog w=.ok (.value (.int .i64 k)) w:=by
 unfold execOp;simp only[ho,hx,hy]
 go_simp
def Vn(x y:Operand){i j k:Int}(ho:o.op=.binOp .add 3 x y 3)(hx:a.eval x=.int .i64 i)(hy:a.eval y=.int .i64 j)(hk:IntKind.i64.wrap (i+j)=k)(w:World):(execOp a.eval o).run prog w=.ok (.value (.int .i64 k)) w:=by
 unfold execOp;simp only[ho,hx,hy]
 go_simp
def ZV(x y:Operand){i j k:Nat}(ho:o.op=.binOp .rem 3 x y 3)(hx:a.eval x=.int .i64 (i:Nat))(hy:a.eval y=.int .i64 (j:Nat))(hk:0<j/\i % j=k/\j<=4611686018427387904)(w:World):(execOp a.eval o).run prog w=.ok (.value (.int .i64 (k:Nat))) w:=by
 obtain⟨h0,hk,hj⟩:=hk;have hjz:¬(j:Int)=0:=by omega
 have hjn:¬ j=0:=by omega
 have h2:(i:Int).tmod (j:Int)=(k:Int):=by rw[Au (by omega),<-hk];rfl
 have hkj:k<j:=by rw[<-hk];exact Nat.mod_lt _ h0
 have h3:IntKind.i64.wrap (k:Int)=(k:Int):=by rw[IntKind.wrap_i64];omega
 unfold execOp;simp only[ho,hx,hy]
 go_simp
def cm(x y:Operand){b off m c J:Nat}(ho:o.op=.indexAddr 23 x y)(hx:a.eval x=.slice (some ⟨b,off,none⟩) m c)(hy:a.eval y=.int .i64 (J:Nat))(hJ:J<m)(w:World):(execOp a.eval o).run prog w=.ok (.value (.pointer (some ⟨b,off+J,none⟩))) w:=by
 have h1:(J:Int)<(m:Int):=by omega
 unfold execOp;simp only[ho,hx,hy]
 go_simp
def b9(t:Nat){z:Int}(ho:o.op=.buildSlice 23 1 #[(0,.tmp t)])(hx:a.eval (.tmp t)=.int .i64 z)(w:World):(execOp a.eval o).run prog w=.ok (.value (.slice (some ⟨w.heap.size,0,none⟩) 1 1)) (w.alloc (.cells #[.int .i64 z] 3)):=by
 have hx':a.tmps[t]?.getD undef=.int .i64 z:=by simpa[Act.eval]using hx
 unfold execOp;simp only[ho]
 go_simp
def b7(x y:Operand)(p:Nat){v1:Value}{s:Option Addr}{l c:Nat}(ho:o.op=.store 23 x y)(hx:a.eval x=.pointer (some ⟨p,2,none⟩))(hy:a.eval y=.slice s l c)(w:World)(hc:w.cell? ⟨p,2,none⟩=some v1)(hf:w.frozen? ⟨p,2,none⟩=false):(execOp a.eval o).run prog w=.ok .skip (w.setCell ⟨p,2,none⟩ (.slice s l c)):=by
 unfold execOp;simp only[ho,hx,hy]
 go_simp
def QG{a:Act}{v:Value}:a.put none v=a:=rfl
def Bb{o:Oper}{y:Nat->Option Bool}(h:o.guard=none):Region.wanted o y=true:=by simp[Region.wanted,h]
end
def ZH:Oper:= {dst:=some 154,op:=Op.fieldAddr 25 (Operand.tmp 16) 2,type:=0,pos:= "l6_prim.go:143",after:= #[],guard:=none}
def ZG:Oper:= {dst:=some 155,op:=Op.load 23 (Operand.tmp 154),type:=23,pos:= "l6_prim.go:143",after:= #[{on:=0,ground:=Ground.data}],guard:=none}
def ZF:Oper:= {dst:=some 156,op:=Op.fieldAddr 25 (Operand.tmp 4) 2,type:=0,pos:= "l6_prim.go:143",after:= #[],guard:=none}
def ZE:Oper:= {dst:=some 157,op:=Op.load 23 (Operand.tmp 156),type:=23,pos:= "l6_prim.go:143",after:= #[{on:=2,ground:=Ground.data}],guard:=none}
def ZD:Oper:= {dst:=some 158,op:=Op.move (Operand.tmp 17),type:=3,pos:= "l6_prim.go:143",after:= #[],guard:=none}
def ZC:Oper:= {dst:=some 159,op:=Op.move (Operand.tmp 10),type:=3,pos:= "l6_prim.go:143",after:= #[],guard:=none}
def ZB:Oper:= {dst:=some 160,op:=Op.binOp BinOp.mul 3 (Operand.tmp 158) (Operand.tmp 159) 3,type:=3,pos:= "l6_prim.go:143",after:= #[{on:=4,ground:=Ground.data},{on:=5,ground:=Ground.data}],guard:=none}
def ZA:Oper:= {dst:=some 161,op:=Op.move (Operand.tmp 18),type:=3,pos:= "l6_prim.go:143",after:= #[],guard:=none}
def Y9:Oper:= {dst:=some 162,op:=Op.move (Operand.tmp 10),type:=3,pos:= "l6_prim.go:143",after:= #[],guard:=none}
def Y8:Oper:= {dst:=some 163,op:=Op.binOp BinOp.rem 3 (Operand.tmp 161) (Operand.tmp 162) 3,type:=3,pos:= "l6_prim.go:143",after:= #[{on:=7,ground:=Ground.data},{on:=8,ground:=Ground.data}],guard:=none}
def WM:Oper:= {dst:=some 164,op:=Op.binOp BinOp.add 3 (Operand.tmp 160) (Operand.tmp 163) 3,type:=3,pos:= "l6_prim.go:143",after:= #[{on:=6,ground:=Ground.data},{on:=9,ground:=Ground.data}],guard:=none}
def WL:Oper:= {dst:=some 165,op:=Op.move (Operand.tmp 11),type:=3,pos:= "l6_prim.go:143",after:= #[],guard:=none}
def WK:Oper:= {dst:=some 166,op:=Op.binOp BinOp.mul 3 (Operand.tmp 164) (Operand.tmp 165) 3,type:=3,pos:= "l6_prim.go:143",after:= #[{on:=10,ground:=Ground.data},{on:=11,ground:=Ground.data}],guard:=none}
def WJ:Oper:= {dst:=some 167,op:=Op.move (Operand.tmp 20),type:=3,pos:= "l6_prim.go:143",after:= #[],guard:=none}
def WI:Oper:= {dst:=some 168,op:=Op.binOp BinOp.add 3 (Operand.tmp 166) (Operand.tmp 167) 3,type:=3,pos:= "l6_prim.go:143",after:= #[{on:=12,ground:=Ground.data},{on:=13,ground:=Ground.data}],guard:=none}
def WH:Oper:= {dst:=some 169,op:=Op.indexAddr 23 (Operand.tmp 157) (Operand.tmp 168),type:=0,pos:= "l6_prim.go:143",after:= #[{on:=3,ground:=Ground.data},{on:=14,ground:=Ground.data}],guard:=none}
def WG:Oper:= {dst:=some 170,op:=Op.load 3 (Operand.tmp 169),type:=3,pos:= "l6_prim.go:143",after:= #[{on:=15,ground:=Ground.data}],guard:=none}
def R7:Oper:= {dst:=some 171,op:=Op.buildSlice 23 1 #[(0,Operand.tmp 170)],type:=23,pos:= "l6_prim.go:143",after:= #[{on:=16,ground:=Ground.data}],guard:=none}
def WF:Oper:= {dst:=some 172,op:=Op.call {callee:=Callee.builtin Builtin.append,args:= #[Operand.tmp 155,Operand.tmp 171],argTypes:= #[23,23]},type:=23,pos:= "l6_prim.go:143",after:= #[{on:=1,ground:=Ground.data},{on:=17,ground:=Ground.data}],guard:=none}
def WE:Oper:= {dst:=some 173,op:=Op.fieldAddr 25 (Operand.tmp 16) 2,type:=0,pos:= "l6_prim.go:143",after:= #[{on:=0,ground:=Ground.phase},{on:=1,ground:=Ground.phase},{on:=2,ground:=Ground.phase},{on:=3,ground:=Ground.phase},{on:=4,ground:=Ground.phase},{on:=5,ground:=Ground.phase},{on:=6,ground:=Ground.phase},{on:=7,ground:=Ground.phase},{on:=8,ground:=Ground.phase},{on:=9,ground:=Ground.phase},{on:=10,ground:=Ground.phase},{on:=11,ground:=Ground.phase},{on:=12,ground:=Ground.phase},{on:=13,ground:=Ground.phase},{on:=14,ground:=Ground.phase},{on:=15,ground:=Ground.phase},{on:=16,ground:=Ground.phase},{on:=17,ground:=Ground.phase},{on:=18,ground:=Ground.phase}],guard:=none}
def O9:Oper:= {dst:=none,op:=Op.store 23 (Operand.tmp 173) (Operand.tmp 172),type:=0,pos:= "l6_prim.go:143",after:= #[{on:=19,ground:=Ground.data},{on:=18,ground:=Ground.data},{on:=18,ground:=Ground.chain},{on:=0,ground:=Ground.phase},{on:=1,ground:=Ground.phase},{on:=2,ground:=Ground.phase},{on:=3,ground:=Ground.phase},{on:=4,ground:=Ground.phase},{on:=5,ground:=Ground.phase},{on:=6,ground:=Ground.phase},{on:=7,ground:=Ground.phase},{on:=8,ground:=Ground.phase},{on:=9,ground:=Ground.phase},{on:=10,ground:=Ground.phase},{on:=11,ground:=Ground.phase},{on:=12,ground:=Ground.phase},{on:=13,ground:=Ground.phase},{on:=14,ground:=Ground.phase},{on:=15,ground:=Ground.phase},{on:=16,ground:=Ground.phase},{on:=17,ground:=Ground.phase},{on:=18,ground:=Ground.phase}],guard:=none}
def ah:Array Oper:= #[ZH,ZG,ZF,ZE,ZD,ZC,ZB,ZA,Y9,Y8,WM,WL,WK,WJ,WI,WH,WG,R7,WF,WE,O9]
def V6(a:Act)(W:World)(p q P n i A t u1 u2 u3 u4 J g k cap bd od m2 d2:Nat)(x:Int)(v':Value):Act:=((((((((((((((((((((a.put (some 154) (.pointer (some ⟨p,2,none⟩))).put (some 155) (.slice (some ⟨g,0,none⟩) k cap)).put (some 156) (.pointer (some ⟨q,2,none⟩))).put (some 157) (.slice (some ⟨bd,od,none⟩) m2 d2)).put (some 158) (.int .i64 (P:Nat))).put (some 159) (.int .i64 (n:Nat))).put (some 160) (.int .i64 (u1:Nat))).put (some 161) (.int .i64 (i:Nat))).put (some 162) (.int .i64 (n:Nat))).put (some 163) (.int .i64 (u2:Nat))).put (some 164) (.int .i64 (u3:Nat))).put (some 165) (.int .i64 (A:Nat))).put (some 166) (.int .i64 (u4:Nat))).put (some 167) (.int .i64 (t:Nat))).put (some 168) (.int .i64 (J:Nat))).put (some 169) (.pointer (some ⟨bd,od+J,none⟩))).put (some 170) (.int .i64 x)).put (some 171) (.slice (some ⟨W.heap.size,0,none⟩) 1 1)).put (some 172) (v')).put (some 173) (.pointer (some ⟨p,2,none⟩)))
def Vz{Q:Exit->Act->World->Prop}(a:Act)(W:World)(hsz:175<=a.tmps.size)(p q P n i A t u1 u2 u3 u4 J g k cap bd od m2 d2:Nat)(x:Int)(h16:a.eval (.tmp 16)=.pointer (some ⟨p,0,none⟩))(h4:a.eval (.tmp 4)=.pointer (some ⟨q,0,none⟩))(h17:a.eval (.tmp 17)=.int .i64 (P:Nat))(h10:a.eval (.tmp 10)=.int .i64 (n:Nat))(h18:a.eval (.tmp 18)=.int .i64 (i:Nat))(h11:a.eval (.tmp 11)=.int .i64 (A:Nat))(h20:a.eval (.tmp 20)=.int .i64 (t:Nat))(a1:IntKind.i64.wrap ((P:Int)*(n:Int))=(u1:Int))(a2:0<n/\i % n=u2/\n<=4611686018427387904)(a3:IntKind.i64.wrap ((u1:Int)+(u2:Int))=(u3:Int))(a4:IntKind.i64.wrap ((u3:Int)*(A:Int))=(u4:Int))(a5:IntKind.i64.wrap ((u4:Int)+(t:Int))=(J:Int))(hJ:J<m2)(xs:List Value)(base:Nat)(BJ:W.ownsRow base 3 1 (.slice (some ⟨g,0,none⟩) k cap) k xs)(hbase:base<=W.heap.size)(hn:k<=4000000000000)(S:World->Prop)(hS:∀wx,S wx->wx.cell? ⟨p,2,none⟩=some (.slice (some ⟨g,0,none⟩) k cap)/\wx.frozen? ⟨p,2,none⟩=false/\wx.cell? ⟨q,2,none⟩=some (.slice (some ⟨bd,od,none⟩) m2 d2)/\wx.cell? ⟨bd,od+J,none⟩=some (.int .i64 x))(HK:∀wx,Below W.heap.size W wx->S wx)(HA:∀w7,(W.drew.alloc (.cells #[.int .i64 x] 3)).grownBy w7 (some g)->S w7)(hQ:∀c a(d:Nat)v w,Q (.panic c) (a.put (some d) v) w->Q (.panic c) a w)(hend:∀g' Ak w7,w7.ownsRow base 3 1 (.slice (some ⟨g',0,none⟩) (k+1) Ak) (k+1) (xs++ [.int .i64 x])->(W.drew.alloc (.cells #[.int .i64 x] 3)).grownBy w7 (Value.ownBlock (.slice (some ⟨g,0,none⟩) k cap))->(Value.ownBlock (.slice (some ⟨g,0,none⟩) k cap)=some g'\/g'=W.drew.heap.size+1)->Q .normal (V6 a W p q P n i A t u1 u2 u3 u4 J g k cap bd od m2 d2 x (.slice (some ⟨g',0,none⟩) (k+1) Ak)) (w7.setCell ⟨p,2,none⟩ (.slice (some ⟨g',0,none⟩) (k+1) Ak))):(Code.region 44 ah true).wp prog Q a W:=by have hb0:Below W.heap.size W W.drew:=AG.drew;have hS0:=HK _ hb0;obtain⟨i0,hi,hz0,hz1,hz2⟩:=info_parts A6;refine FL S 20 (by kernel_rfl) ?_;show CN _ _ _ _ _ _ (20+1) _ _ W.drew;refine AQ 0 154 (.pointer (some ⟨p,2,none⟩)) (oi:=ZH) rfl rfl (by kernel_rfl) (by kernel_rfl) (by kernel_rfl) (by kernel_rfl) hQ (Bb rfl) (fun w hw=>ZW (.tmp 16) p rfl h16 w) hS0 ?_;refine AQ 1 155 (.slice (some ⟨g,0,none⟩) k cap) (oi:=ZG) rfl rfl (by kernel_rfl) (by kernel_rfl) (by kernel_rfl) (by kernel_rfl) hQ (Bb rfl) (fun w hw=>cY (.tmp 154) _ rfl (Ad (by omega)) w (hS w hw).1) hS0 ?_;refine AQ 2 156 (.pointer (some ⟨q,2,none⟩)) (oi:=ZF) rfl rfl (by kernel_rfl) (by kernel_rfl) (by kernel_rfl) (by kernel_rfl) hQ (Bb rfl) (fun w hw=>ZW (.tmp 4) q rfl (by rw[AF (by decide),AF (by decide)];exact h4) w) hS0 ?_;refine AQ 3 157 (.slice (some ⟨bd,od,none⟩) m2 d2) (oi:=ZE) rfl rfl (by kernel_rfl) (by kernel_rfl) (by kernel_rfl) (by kernel_rfl) hQ (Bb rfl) (fun w hw=>cY (.tmp 156) _ rfl (Ad (by rw[AE,AE];omega)) w (hS w hw).2.2.1) hS0 ?_;refine AQ 4 158 (.int .i64 (P:Nat)) (oi:=ZD) rfl rfl (by kernel_rfl) (by kernel_rfl) (by kernel_rfl) (by kernel_rfl) hQ (Bb rfl) (fun w hw=>aX (.tmp 17) rfl (by rw[AF (by decide),AF (by decide),AF (by decide),AF (by decide)];exact h17) w) hS0 ?_;refine AQ 5 159 (.int .i64 (n:Nat)) (oi:=ZC) rfl rfl (by kernel_rfl) (by kernel_rfl) (by kernel_rfl) (by kernel_rfl) hQ (Bb rfl) (fun w hw=>aX (.tmp 10) rfl (by rw[AF (by decide),AF (by decide),AF (by decide),AF (by decide),AF (by decide)];exact h10) w) hS0 ?_;refine AQ 6 160 (.int .i64 (u1:Nat)) (oi:=ZB) rfl rfl (by kernel_rfl) (by kernel_rfl) (by kernel_rfl) (by kernel_rfl) hQ (Bb rfl) (fun w hw=>Vm (.tmp 158) (.tmp 159) rfl (by rw[AF (by decide)];exact Ad (by rw[AE,AE,AE,AE];omega)) (Ad (by rw[AE,AE,AE,AE,AE];omega)) a1 w) hS0 ?_;refine AQ 7 161 (.int .i64 (i:Nat)) (oi:=ZA) rfl rfl (by kernel_rfl) (by kernel_rfl) (by kernel_rfl) (by kernel_rfl) hQ (Bb rfl) (fun w hw=>aX (.tmp 18) rfl (by rw[AF (by decide),AF (by decide),AF (by decide),AF (by decide),AF (by decide),AF (by decide),AF (by decide)];exact h18) w) hS0 ?_;refine AQ 8 162 (.int .i64 (n:Nat)) (oi:=Y9) rfl rfl (by kernel_rfl) (by kernel_rfl) (by kernel_rfl) (by kernel_rfl) hQ (Bb rfl) (fun w hw=>aX (.tmp 10) rfl (by rw[AF (by decide),AF (by decide),AF (by decide),AF (by decide),AF (by decide),AF (by decide),AF (by decide),AF (by decide)];exact h10) w) hS0 ?_;refine AQ 9 163 (.int .i64 (u2:Nat)) (oi:=Y8) rfl rfl (by kernel_rfl) (by kernel_rfl) (by kernel_rfl) (by kernel_rfl) hQ (Bb rfl) (fun w hw=>ZV (.tmp 161) (.tmp 162) rfl (by rw[AF (by decide)];exact Ad (by rw[AE,AE,AE,AE,AE,AE,AE];omega)) (Ad (by rw[AE,AE,AE,AE,AE,AE,AE,AE];omega)) a2 w) hS0 ?_;refine AQ 10 164 (.int .i64 (u3:Nat)) (oi:=WM) rfl rfl (by kernel_rfl) (by kernel_rfl) (by kernel_rfl) (by kernel_rfl) hQ (Bb rfl) (fun w hw=>Vn (.tmp 160) (.tmp 163) rfl (by rw[AF (by decide),AF (by decide),AF (by decide)];exact Ad (by rw[AE,AE,AE,AE,AE,AE];omega)) (Ad (by rw[AE,AE,AE,AE,AE,AE,AE,AE,AE];omega)) a3 w) hS0 ?_;refine AQ 11 165 (.int .i64 (A:Nat)) (oi:=WL) rfl rfl (by kernel_rfl) (by kernel_rfl) (by kernel_rfl) (by kernel_rfl) hQ (Bb rfl) (fun w hw=>aX (.tmp 11) rfl (by rw[AF (by decide),AF (by decide),AF (by decide),AF (by decide),AF (by decide),AF (by decide),AF (by decide),AF (by decide),AF (by decide),AF (by decide),AF (by decide)];exact h11) w) hS0 ?_;refine AQ 12 166 (.int .i64 (u4:Nat)) (oi:=WK) rfl rfl (by kernel_rfl) (by kernel_rfl) (by kernel_rfl) (by kernel_rfl) hQ (Bb rfl) (fun w hw=>Vm (.tmp 164) (.tmp 165) rfl (by rw[AF (by decide)];exact Ad (by rw[AE,AE,AE,AE,AE,AE,AE,AE,AE,AE];omega)) (Ad (by rw[AE,AE,AE,AE,AE,AE,AE,AE,AE,AE,AE];omega)) a4 w) hS0 ?_;refine AQ 13 167 (.int .i64 (t:Nat)) (oi:=WJ) rfl rfl (by kernel_rfl) (by kernel_rfl) (by kernel_rfl) (by kernel_rfl) hQ (Bb rfl) (fun w hw=>aX (.tmp 20) rfl (by rw[AF (by decide),AF (by decide),AF (by decide),AF (by decide),AF (by decide),AF (by decide),AF (by decide),AF (by decide),AF (by decide),AF (by decide),AF (by decide),AF (by decide),AF (by decide)];exact h20) w) hS0 ?_;refine AQ 14 168 (.int .i64 (J:Nat)) (oi:=WI) rfl rfl (by kernel_rfl) (by kernel_rfl) (by kernel_rfl) (by kernel_rfl) hQ (Bb rfl) (fun w hw=>Vn (.tmp 166) (.tmp 167) rfl (by rw[AF (by decide)];exact Ad (by rw[AE,AE,AE,AE,AE,AE,AE,AE,AE,AE,AE,AE];omega)) (Ad (by rw[AE,AE,AE,AE,AE,AE,AE,AE,AE,AE,AE,AE,AE];omega)) a5 w) hS0 ?_;refine AQ 15 169 (.pointer (some ⟨bd,od+J,none⟩)) (oi:=WH) rfl rfl (by kernel_rfl) (by kernel_rfl) (by kernel_rfl) (by kernel_rfl) hQ (Bb rfl) (fun w hw=>cm (.tmp 157) (.tmp 168) rfl (by rw[AF (by decide),AF (by decide),AF (by decide),AF (by decide),AF (by decide),AF (by decide),AF (by decide),AF (by decide),AF (by decide),AF (by decide),AF (by decide)];exact Ad (by rw[AE,AE,AE];omega)) (Ad (by rw[AE,AE,AE,AE,AE,AE,AE,AE,AE,AE,AE,AE,AE,AE];omega)) hJ w) hS0 ?_;refine AQ 16 170 (.int .i64 x) (oi:=WG) rfl rfl (by kernel_rfl) (by kernel_rfl) (by kernel_rfl) (by kernel_rfl) hQ (Bb rfl) (fun w hw=>co (.tmp 169) _ rfl (Ad (by rw[AE,AE,AE,AE,AE,AE,AE,AE,AE,AE,AE,AE,AE,AE,AE];omega)) w (hS w hw).2.2.2) hS0 ?_;refine B9 (i:=17) (by kernel_rfl) ?_;refine FP (o:=R7) rfl (Bb rfl) ?_;unfold Oper.wp;rw[b9 (o:=R7) 170 rfl (Ad (by rw[AE,AE,AE,AE,AE,AE,AE,AE,AE,AE,AE,AE,AE,AE,AE,AE];omega)) W.drew];have hbx:Below W.heap.size W (W.drew.alloc (.cells #[.int .i64 x] 3)):=hb0.alloc hb0.size _;refine⟨fun _=>HK _ hbx,?_⟩;show CN _ _ _ _ _ _ (2+1) _ (Act.put _ (some 171) _) _;refine B9 (i:=18) (by kernel_rfl) ?_;refine FP (o:=WF) rfl (Bb rfl) ?_;refine wp_append_lies _ (.tmp 155) (.tmp 171) 23 rfl base 3 i0 (.int .i64 0) 1 8 underlying23 hi hz0 hz1 hz2 rfl (by decide) (.slice (some ⟨g,0,none⟩) k cap) k xs (by rw[AF (by decide),AF (by decide),AF (by decide),AF (by decide),AF (by decide),AF (by decide),AF (by decide),AF (by decide),AF (by decide),AF (by decide),AF (by decide),AF (by decide),AF (by decide),AF (by decide),AF (by decide),AF (by decide)];exact Ad (by rw[AE];omega)) (BN BJ AC hbx) ⟨W.heap.size,0,none⟩ 1 1 [.int .i64 x] (Ad (by rw[AE,AE,AE,AE,AE,AE,AE,AE,AE,AE,AE,AE,AE,AE,AE,AE,AE];omega)) (by rfl) (Bp W.drew _) (CD _) (by omega) (by unfold maxLen;omega) (by omega) (by have:=hb0.size;simp;omega) (W.drew.heap.size+1) (by simp) ?_;intro g' Ak w7 hown7 An hat hlt;have hS7:=HA w7 An;refine⟨fun _=>hS7,?_⟩;show CN _ _ _ _ _ _ (1+1) _ (Act.put _ (some 172) _) _;refine AQ 19 173 (.pointer (some ⟨p,2,none⟩)) (oi:=WE) rfl rfl (by kernel_rfl) (by kernel_rfl) (by kernel_rfl) (by kernel_rfl) hQ (Bb rfl) (fun w hw=>ZW (.tmp 16) p rfl (by rw[AF (by decide),AF (by decide),AF (by decide),AF (by decide),AF (by decide),AF (by decide),AF (by decide),AF (by decide),AF (by decide),AF (by decide),AF (by decide),AF (by decide),AF (by decide),AF (by decide),AF (by decide),AF (by decide),AF (by decide),AF (by decide),AF (by decide)];exact h16) w) hS7 ?_;refine B9 (i:=20) (by kernel_rfl) ?_;refine FP (o:=O9) rfl (Bb rfl) ?_;unfold Oper.wp;rw[b7 (o:=O9) (.tmp 173) (.tmp 172) p (s:=some ⟨g',0,none⟩) (l:=k+1) (c:=Ak) rfl (Ad (by rw[AE,AE,AE,AE,AE,AE,AE,AE,AE,AE,AE,AE,AE,AE,AE,AE,AE,AE,AE];omega)) (by rw[AF (by decide)];exact Ad (by rw[AE,AE,AE,AE,AE,AE,AE,AE,AE,AE,AE,AE,AE,AE,AE,AE,AE,AE];omega)) w7 (hS w7 hS7).1 (hS w7 hS7).2.1];refine⟨fun h=>absurd rfl h,?_⟩;refine Eh (by kernel_rfl) ?_ _;have h:=hend g' Ak w7 hown7 An hat;unfold V6 at h;rw[show O9.dst=none from rfl,QG];exact h
