import Derived.Test.YtinndpnilmmmjaaGreatDoorZ12
import Derived.Test.YtinndpnilmmmjaaGreatDoorZ14
import Derived.Test.YtinndpnilmmmjaaGreatDoorRows
import Derived.Lib.SmallJoins
import Derived.LaidMore
import Derived.Lay
import Derived.LaidOnce
import Derived.Lib.LaidU8T
import Derived.SevenTiedAt
set_option maxRecDepth 20000
set_option maxHeartbeats 4000000
set_option linter.defProp false
namespace Go.Proofs.YtinndpnilmmmjaaGreatDoor
open Go.RowKit Go.Proofs.Tryz
def EY(k n:Int)(t:AE):List CO×Int×Nat->Bool
 |([y],c,_)=>decide (c=0)&&decide (y.k=k)&&decide (y.n=n)&&decide (y.t=t)
 |_=>false
def DJ(k n:Int)(t:AE):AE:=if EY k n t (Br (Dd k n t))=true then Dd k n t else⟨#[]⟩
def Nm{k n c:Int}{t:AE}{ts:List CO}{p:Nat}(h:c≠0):EY k n t (ts,c,p)=false:=by
 unfold EY;split
 .rename_i e
  cases e;simp[h]
 .rfl
def Nl{k n c:Int}{t:AE}{ts:List CO}{p:Nat}(h:ts.length≠1):EY k n t (ts,c,p)=false:=by
 unfold EY;split
 .rename_i e
  cases e;simp at h
 .rfl
def YT{a b:AE}(h:¬ a=b):(a.toList==b.toList)=false:=by refine BC.2 fun e=>h ?_;rw[Lib.toList_data,Lib.toList_data]at e;exact CJ (CI.1 e)
def Dv.one(Q:World)(x:Int):Dv Q (Q.alloc (.cells #[.int .u8 x] 5)) Q.heap.size 1 1 [x]:=by refine⟨⟨by simp,.inr ⟨Q.heap.size,1,#[.int .u8 x],rfl,AC,?_,by simp,by unfold maxLen;omega,by simp,by simp⟩⟩,AI.alloc AC _⟩;show(Q.heap.push _)[Q.heap.size]? =_;simp
def ZQ{s:AE}{k:Nat}(h:k<s.size):qd (s.data.toList.take (k+1))=qd (s.data.toList.take k)++(if bt s k=39 then[39,39]else[UInt8.ofNat (bt s k)]):=by
 have hl:k<s.data.toList.length:=by rw[<-Lib.size_eq];exact h
 have hb:s.data.toList[k]=UInt8.ofNat (bt s k):=by rw[Cl h,AP,AR hl,Cz];simp
 rw[A9 hl];unfold qd;rw[DF,hb];congr 1;simp only[CY,List.flatMap_nil,A6];have h256:=GR s k;by_cases h39:bt s k=39
 .rw[h39];rfl
 .rw[AG h39,AG];intro e;have:=AV UInt8.toNat e;rw[Cv]at this;exact h39 (by have h2:(39:UInt8).toNat=39:=rfl;omega)
def Qk(s:AE)(w:World)(hs:s.size<=1048576):Calls prog 74 #[.string s] w fun e w'=>e=.returned (.string ⟨(EC s.data.toList).toArray⟩)/\Below w.heap.size w w':=by
 have HG0:=AB (Dv.one w 39);obtain⟨i0,hii,hz0,hz1,hz2⟩:=info_parts Lj;go_enter func74,ntmps74;go_wp2_with fail;go_loopw[3,4] (fun u e wr=>∃(g cp k n:Nat),u=.slice (some ⟨g,0,none⟩) n cp/\e=.int .i64 (k:Nat)/\k<=s.size/\n<=2097153/\Hid (Dv w wr g cp n (uz (39::qd (s.data.toList.take k))))) (fun _ e _=>s.size- (intOf e).toNat);case atStart=>exact⟨w.heap.size,1,0,1,rfl,rfl,AZ _,by omega,HG0⟩
 case round=>
  obtain⟨g,cp,k,n,rfl,rfl,hk,hn,HG⟩:=hrel;clear HG0;have HLOW:=AB (AA HG).low;have hzr:=(AA HLOW).size;have hnl:n=1+(qd (s.data.toList.take k)).length:=by rw[<-(AA HG).len,O1];simp;omega
  have hq2:=(Mu (s.data.toList.take k)).1;have hn2:n<=1+2*k:=by rw[CF]at hq2;omega
  clear hnl hq2;by_cases hlt:k<s.size;case neg=>
   have Fr:¬(k:Int)<(s.size:Int):=by omega
   have HE:Hid (uz (39::qd (s.data.toList.take k))++ [39]=uz (EC s.data.toList)):=by show _=_;rw[AO (by rw[<-Lib.size_eq];omega)];unfold EC qd uz;simp
   go_wp2_with(first|(at_builtin;refine wpList_append_lies _ rfl _ _ 33 rfl w.heap.size 5 i0 (.int .u8 0) 1 1 underlying33 hii hz0 hz1 hz2 rfl (by decide) _ _ _ rfl ((AA HG).below (AI.alloc AC _)).own ⟨wr.heap.size,0,none⟩ 1 1 ([39].map (Value.int .u8)) rfl rfl (De.new wr [39]).news (G0 _) (by omega) (by unfold maxLen;omega) (by omega) (by have:=(AA HG).low.size;simp;omega) (wr.heap.size+1) (by simp) ?_;intro g' CW w7 A2 Au hat Cu;have HF7:=AB (Dv.push ((AA HG).below (AI.alloc AC _)) A2 Au);have HF8:Hid (Dv w w7 g' CW (n+1) (uz (EC s.data.toList))):=(by rw[<-AA HE];exact AA HF7);have hcv:(convert 33 9 (.slice (some ⟨g',0,none⟩) (n+1) CW)).run prog w7=.ok (.string ⟨(EC s.data.toList).toArray⟩) w7:=(by have hl8:=(AA HF8).len;rw[O1]at hl8;have:=Jn (cap:=CW) (w:=w7) (b:=g') (off:=0) (l:=EC s.data.toList) (by rw[hl8];exact(AA HF8).row);rwa [hl8]at this);clear Au hat A2 Cu HF7));go_ret;exact⟨rfl,(AA HF8).low⟩
  have Fr:(k:Int)<(s.size:Int):=by omega
  have hix:=fun W=>C5 hlt W;have hy8:=GR s k;have HQS:=AB (ZQ hlt);obtain⟨y,hy⟩:∃y,bt s k=y:=⟨_,rfl⟩
  rw[hy]at hix hy8 HQS;clear hy;by_cases h39:y=39;case pos=>
   subst h39;have HE:Hid (uz (39::qd (s.data.toList.take k))++ [39]++ [39]=uz (39::qd (s.data.toList.take (k+1)))):=by show _=_;rw[AA HQS,AL rfl];unfold uz;simp
   go_wp2_with(first|(at_builtin;have hz9:=HF7;clear hz9;refine wpList_append_lies _ rfl _ _ 33 rfl w.heap.size 5 i0 (.int .u8 0) 1 1 underlying33 hii hz0 hz1 hz2 rfl (by decide) _ _ _ rfl ((AA HF7).below (AI.alloc AC _)).own ⟨w7.heap.size,0,none⟩ 1 1 ([39].map (Value.int .u8)) rfl rfl (De.new w7 [39]).news (G0 _) (by omega) (by unfold maxLen;omega) (by omega) (by have:=(AA HF7).low.size;simp;omega) (w7.heap.size+1) (by simp) ?_;intro g8 cap8 w8 A2 Au hat Cu;have HF8:=AB (Dv.push ((AA HF7).below (AI.alloc AC _)) A2 Au);clear Au hat A2 Cu)|(at_builtin;refine wpList_append_lies _ rfl _ _ 33 rfl w.heap.size 5 i0 (.int .u8 0) 1 1 underlying33 hii hz0 hz1 hz2 rfl (by decide) _ _ _ rfl ((AA HG).below (AI.alloc AC _)).own ⟨wr.heap.size,0,none⟩ 1 1 ([39].map (Value.int .u8)) rfl rfl (De.new wr [39]).news (G0 _) (by omega) (by unfold maxLen;omega) (by omega) (by have:=(AA HG).low.size;simp;omega) (wr.heap.size+1) (by simp) ?_;intro g' CW w7 A2 Au hat Cu;have HF7:=AB (Dv.push ((AA HG).below (AI.alloc AC _)) A2 Au);clear Au hat A2 Cu));go_roundw;case rel=>exact⟨g8,cap8,k+1,n+1+1,rfl,by go_num,by omega,by omega,by show Dv _ _ _ _ _ _;rw[<-AA HE];exact AA HF8⟩
   case measure=>simp[intOf];omega
  have h39i:¬(y:Int)=39:=by omega
  have HE:Hid (uz (39::qd (s.data.toList.take k))++ [(y:Int)]=uz (39::qd (s.data.toList.take (k+1)))):=by show _=_;rw[AA HQS,AG h39];unfold uz;simp;omega
  clear h39;go_wp2_with(first|(at_builtin;refine wpList_append_lies _ rfl _ _ 33 rfl w.heap.size 5 i0 (.int .u8 0) 1 1 underlying33 hii hz0 hz1 hz2 rfl (by decide) _ _ _ rfl ((AA HG).below (AI.alloc AC _)).own ⟨wr.heap.size,0,none⟩ 1 1 ([(y:Int)].map (Value.int .u8)) rfl rfl (De.new wr [(y:Int)]).news (G0 _) (by omega) (by unfold maxLen;omega) (by omega) (by have:=(AA HG).low.size;simp;omega) (wr.heap.size+1) (by simp) ?_;intro g' CW w7 A2 Au hat Cu;have HF7:=AB (Dv.push ((AA HG).below (AI.alloc AC _)) A2 Au);clear Au hat A2 Cu));go_roundw;case rel=>exact⟨g',CW,k+1,n+1,rfl,by go_num,by omega,by omega,by show Dv _ _ _ _ _ _;rw[<-AA HE];exact AA HF7⟩
  case measure=>simp[intOf];omega
def Iw(k:Nat)(x:AW):AW:=⟨⟨(k:Int),(k:Int)+1,(k:Int)+1+1,mt (k+3),GN ((k:Int)+1+1+1+1) x.d.nums.length,GN ((k:Int)+1+1+1+1+(x.d.nums.length:Int)) x.d.kids.length⟩,x.v4,x.v5⟩
def kE(k:Nat)(x:AW):Nat:=k+4+x.d.nums.length+x.d.kids.length
def E3:Nat->List AW->List AW
 |_,[]=> []
 |k,x::xs=>Iw k x::E3 (kE k x) xs
def KY:Nat->List AW->Nat
 |k,[]=>k
 |k,x::xs=>KY (kE k x) xs
def L1:∀(k:Nat)(xs:List AW)(x:AW),E3 k (xs++ [x])=E3 k xs++ [Iw (KY k xs) x]
 |_,[],_=>rfl
 |k,y::ys,x=>by show Iw k y::E3 (kE k y) (ys++ [x])=_;rw[L1 (kE k y) ys x];rfl
def Ll:∀(k:Nat)(xs:List AW)(x:AW),KY k (xs++ [x])=kE (KY k xs) x
 |_,[],_=>rfl
 |k,y::ys,x=>Ll (kE k y) ys x
def KM:∀(k:Nat)(xs:List AW),(E3 k xs).length=xs.length
 |_,[]=>rfl
 |k,y::ys=>AV (·+1) (KM (kE k y) ys)
def Gs(xs:List AW):Prop:=∀x∈xs,x.d.nums.length<=1048576/\x.d.kids.length<=1048576
structure NW(w:World)(B g cap:Nat)(xs:List AW):Prop where
 row:∃f,w.rowIs g 47 (cap*6) f/\∀(i:Nat)(x:AW)(q:Nat)(u:Value),xs[i]? =some x->x.cells[q]? =some u->f (i*6+q)=u
 le:xs.length<=cap
 low:B<=g
 lists:∀x∈xs,∃a4 c4 a5 c5,x.v4=.slice a4 x.d.nums.length c4/\x.v5=.slice a5 x.d.kids.length c5/\TE w B a4 x.d.nums.length x.d.nums/\TE w B a5 x.d.kids.length x.d.kids
 apart:(Bm xs).Nodup
 ng:g∉Bm xs
section
variable {w w':World}{B g cap:Nat}{xs us post:List AW}{x:AW}
def P6{a:Option Addr}{n c k:Nat}(h:At a n k):(Value.slice a n c).ownBlock=some k:=by obtain⟨_,p,rfl,rfl⟩:=h;rfl
def T1{a:Option Addr}{n c k:Nat}(e:x.v4=.slice a n c)(h:At a n k):k∈x.blks:=by unfold AW.blks;rw[e,P6 h];simp
def T0{a:Option Addr}{n c k:Nat}(e:x.v5=.slice a n c)(h:At a n k):k∈x.blks:=by unfold AW.blks;rw[e,P6 h];simp
def Ng{q:Nat}{u:Value}(h:x.cells[q]? =some u):q<6:=(DK.1 h).1
def NW.below(h:NW w B g cap xs)(hb:Below w.heap.size w w'):NW w' B g cap xs:=by obtain⟨f,hr,hf⟩:=h.row;refine⟨⟨f,hr.of_block (hb.block g hr.lt),hf⟩,h.le,h.low,fun x hx=> ?_,h.apart,h.ng⟩;obtain⟨a4,c4,a5,c5,e4,e5,o4,o5⟩:=h.lists x hx;exact⟨a4,c4,a5,c5,e4,e5,(EF.of_below (S:=fun _=>False) hb).own o4 (fun _ h=>h.elim),(EF.of_below (S:=fun _=>False) hb).own o5 (fun _ h=>h.elim)⟩
def NW.node(h:NW w B g cap (us++x::post)):us.length<cap/\(∀k∈x.blks,k≠g/\k∉Bm us/\k∉Bm post)/\x.blks.Nodup/\∃f,w.rowIs g 47 (cap*6) f/\(∀(q:Nat)(u:Value),x.cells[q]? =some u->f (us.length*6+q)=u)/\∀(k0:Int)(k1:Int)(k2:Int)(s:AE)(l4 l5:List Int)(f':Nat->Value),(∀j,f' j=if j=us.length*6+3 then .string s else if j=us.length*6+2 then .int .i64 k2 else if j=us.length*6+1 then .int .i64 k1 else if j=us.length*6 then .int .i64 k0 else f j)->∀(i:Nat)(y:AW)(q:Nat)(u:Value),(us++⟨⟨k0,k1,k2,s,l4,l5⟩,x.v4,x.v5⟩::post)[i]? =some y->y.cells[q]? =some u->f' (i*6+q)=u:=by
 have hle:=h.le;rw[AH,Ba]at hle;have hap:=h.apart;have hng:=h.ng;have eb:Bm (us++x::post)=Bm us++(x.blks++Bm post):=by rw[DE];rfl
 rw[eb]at hap hng;obtain⟨f,hr,hf⟩:=h.row;obtain⟨_,hap2,hap3⟩:=IA.1 hap;obtain⟨hx1,_,hx3⟩:=IA.1 hap2;refine⟨by omega,fun k hk=>⟨fun e=>hng (by rw[<-e];exact Ak.2 (.inr (Ak.2 (.inl hk)))),fun hk'=>hap3 k hk' k (Ak.2 (.inl hk)) rfl,fun hk'=>hx3 k hk k hk' rfl⟩,hx1,f,hr,fun q u hq=>hf us.length x q u (by rw[A5 AC,FM];rfl) hq,fun k0 k1 k2 s l4 l5 f' hf' i y q u hy hq=> ?_⟩;have hq6:=Ng hq;rw[hf'];by_cases hi:i=us.length
 .subst hi;rw[A5 AC,FM]at hy;have e:y=⟨⟨k0,k1,k2,s,l4,l5⟩,x.v4,x.v5⟩:=(Ac hy).symm;have hx:=fun q u hq=>hf us.length x q u (by rw[A5 AC,FM];rfl) hq;subst e;by_cases c3:q=3
  .subst c3;rw[AL rfl];exact Ac hq
  by_cases c2:q=2
  .subst c2;rw[AG (by omega),AL rfl];exact Ac hq
  by_cases c1:q=1
  .subst c1;rw[AG (by omega),AG (by omega),AL rfl];exact Ac hq
  by_cases c0:q=0
  .subst c0;rw[AG (by omega),AG (by omega),AG (by omega),AL (by omega)];exact Ac hq
  rw[AG (by omega),AG (by omega),AG (by omega),AG (by omega)];refine hx q u ?_;by_cases c4:q=4
  .subst c4;exact hq
  .obtain rfl:q=5:=by omega
   exact hq
 .rw[AG (by omega),AG (by omega),AG (by omega),AG (by omega)];refine hf i y q u ?_ hq;rcases Nat.lt_or_ge i us.length with h1|h1
  .rw[Bw h1]at hy ⊢;exact hy
  .obtain⟨m,rfl⟩:∃m,i=us.length+1+m:=⟨i- us.length- 1,by omega⟩
   rw[A5 h1]at hy ⊢;rw[show us.length+1+m- us.length=m+1 by omega]at hy ⊢;exact hy
def NW.step{k:Nat}{f':Nat->Value}{a4 a5:Option Addr}{c4 c5:Nat}(h:NW w B g cap (us++x::post))(hb:EF (fun y=>y=g\/y∈x.blks) w w')(hr:w'.rowIs g 47 (cap*6) f')(hf':∀(i:Nat)(y:AW)(q:Nat)(u:Value),(us++Iw k x::post)[i]? =some y->y.cells[q]? =some u->f' (i*6+q)=u)(e4:x.v4=.slice a4 x.d.nums.length c4)(e5:x.v5=.slice a5 x.d.kids.length c5)(o4:TE w' B a4 x.d.nums.length (GN ((k:Int)+1+1+1+1) x.d.nums.length))(o5:TE w' B a5 x.d.kids.length (GN ((k:Int)+1+1+1+1+(x.d.nums.length:Int)) x.d.kids.length)):NW w' B g cap (us++Iw k x::post):=by
 have eb:Bm (us++Iw k x::post)=Bm (us++x::post):=by rw[DE,DE];rfl
 obtain⟨h1,h2,_⟩:=h.node;refine⟨⟨f',hr,hf'⟩,?_,h.low,fun y hy=> ?_,by rw[eb];exact h.apart,by rw[eb];exact h.ng⟩
 .have:=h.le;simpa using this
 .have other:y∈us\/y∈post->∃a4 c4 a5 c5,y.v4=.slice a4 y.d.nums.length c4/\y.v5=.slice a5 y.d.kids.length c5/\TE w' B a4 y.d.nums.length y.d.nums/\TE w' B a5 y.d.kids.length y.d.kids:=fun hy=>by
   have hyin:y∈us++x::post:=by rcases hy with hy|hy<;>simp[hy]
   obtain⟨b4,d4,b5,d5,i4,i5,p4,p5⟩:=h.lists y hyin;have hS:∀k∈y.blks,¬(k=g\/k∈x.blks):=fun k hk e=>by
    rcases e with e|e
    .exact h.ng (e▸CE.2 ⟨y,hyin,hk⟩)
    .rcases hy with hy|hy
     .exact(h2 k e).2.1 (CE.2 ⟨y,hy,hk⟩)
     .exact(h2 k e).2.2 (CE.2 ⟨y,hy,hk⟩)
   exact⟨b4,d4,b5,d5,i4,i5,hb.own p4 (fun k hk ha=>hS k (T1 i4 ha) hk),hb.own p5 (fun k hk ha=>hS k (T0 i5 ha) hk)⟩
  rcases Ak.1 hy with hy|hy
  .exact other (.inl hy)
  rcases DU.1 hy with hy|hy
  .subst hy;refine⟨a4,c4,a5,c5,?_,?_,?_,?_⟩
   .show x.v4=.slice a4 (GN _ _).length c4;rw[GW];exact e4
   .show x.v5=.slice a5 (GN _ _).length c5;rw[GW];exact e5
   .show TE w' B a4 (GN _ _).length (GN _ _);rw[GW];exact o4
   .show TE w' B a5 (GN _ _).length (GN _ _);rw[GW];exact o5
  .exact other (.inr hy)
def NW.of_own{nd:Value}(ET:w.ownsRow B 47 6 nd xs.length (xs.flatMap AW.cells))(hl:∀x∈xs,x.Ok w B)(hap:(Bm xs).Nodup)(hsm:Gs xs)(h0:xs≠ []):∃g cap,nd=.slice (some ⟨g,0,none⟩) xs.length cap/\NW w B g cap xs:=by
 rcases ET.2 with⟨rfl,h1⟩|⟨g,cap,cur,rfl,hB,hh,hc,_,hs,ht⟩
 .exact absurd (F2.1 h1) h0
 refine⟨g,cap,rfl,⟨fun i=>cur.getD i .nilIface,⟨cur,hh,hs,fun i hi=> ?_⟩,fun i x q u hx hq=> ?_⟩,hc,hB,fun x hx=> ?_,hap,fun hg=> ?_⟩
 .show cur[i]? =some (cur.getD i .nilIface);rw[Array.getD_eq_getD_getElem?,D3 (by omega)];rfl
 .have h1:=(Gb xs i q x hx (Ng hq)).trans hq;rw[<-ht,BN]at h1;split at h1
  .show cur.getD (i*6+q) .nilIface=u;rw[Array.getD_eq_getD_getElem?,<-Dz,h1];rfl
  .cases h1
 .obtain⟨o4,o5⟩:=hl x hx;obtain⟨s4,s5⟩:=hsm x hx;have own:∀ {v:Value}{zs:List Int},zs.length<=1048576->Dk w B v zs->∃a c,v=.slice a zs.length c/\TE w B a zs.length zs:=fun {v zs}hz ho=>by
   rcases ho.2 with⟨rfl,h1⟩|⟨g',CW,cur',rfl,hB',hh',hc',_,hs',ht'⟩
   .rw[h1];exact⟨none,0,rfl,h1,by omega,.inl rfl⟩
   .refine⟨_,_,rfl,rfl,by omega,.inr ⟨g',0,rfl,hB',lt_of_block hh',fun i hi=> ?_,fun i hi=> ?_⟩⟩
    .have h1:(zs.map (Value.int .i64))[i]? =some (.int .i64 (zs.getD i 0)):=by rw[BV,AR hi,AP,AR hi];rfl
     rw[<-ht',BN]at h1;split at h1
     .rw[BY];simp only[World.cell?,hh'];rw[<-Dz];simpa using h1
     .cases h1
    .exact BJ w g' (0+i) _ _ hh'
  obtain⟨a4,c4,e4,p4⟩:=own s4 o4;obtain⟨a5,c5,e5,p5⟩:=own s5 o5;exact⟨a4,c4,a5,c5,e4,e5,p4,p5⟩
 .obtain⟨x,hx,hgx⟩:=CE.1 hg;unfold AW.blks at hgx;have Di:∀ {v:Value}{zs:List Int},Dk w B v zs->v.ownBlock=some g->False:=fun {v zs}ho e=>by obtain⟨cur',hh',_⟩:=Ag ho e;rw[hh]at hh';have:=Ac hh';simp at this
  rcases Ak.1 hgx with h1|h1
  .exact Di (hl x hx).1 (by simpa[Option.mem_toList]using h1)
  .exact Di (hl x hx).2 (by simpa[Option.mem_toList]using h1)
def aF(hl:∀x∈xs,x.Ok w B){k:Nat}(hk:k∈Bm xs):B<=k:=by
 obtain⟨x,hx,hgx⟩:=CE.1 hk;unfold AW.blks at hgx;rcases Ak.1 hgx with h1|h1
 .exact(Ag (hl x hx).1 (by simpa[Option.mem_toList]using h1)).elim fun _ hc=>hc.2
 .exact(Ag (hl x hx).2 (by simpa[Option.mem_toList]using h1)).elim fun _ hc=>hc.2
end
def QG{xs pre post:List AW}{j:Nat}(e:xs=pre++post)(hj:j=pre.length)(hlt:j<xs.length):∃x post',post=x::post':=by
 cases post with
 |nil=>rw[e,A6]at hlt;omega
 |cons x l=>exact⟨x,l,rfl⟩
def N1(g cap B:Nat)(xs:List AW)(w:World)(h:NW w B g cap xs)(hn:xs.length<=1048576)(hsm:Gs xs):Calls prog 41 #[.slice (some ⟨g,0,none⟩) xs.length cap,.int .i64 1] w fun e w'=>e=.returned (.int .i64 (KY 1 xs:Nat))/\NW w' B g cap (E3 1 xs)/\EF (fun y=>y=g\/y∈Bm xs) w w':=by
 have HS0:Hid (NW w B g cap (E3 1 []++xs)):=h;have HSM:=AB hsm;clear h hsm;obtain⟨n,hnn⟩:∃n,xs.length=n:=⟨_,rfl⟩
 rw[hnn]at hn ⊢;have HN:=AB hnn;clear hnn;go_enter func41,ntmps41;go_wp2_with fail;go_loopw[1,5] (fun c i wr=>∃(j x:Nat)(pre post:List AW),j<=n/\i=.int .i64 (j:Nat)/\c=.int .i64 (x:Nat)/\x<=1+j*2097160/\1<=x/\Hid (xs=pre++post)/\Hid (j=pre.length)/\Hid (x=KY 1 pre)/\Hid (NW wr B g cap (E3 1 pre++post))/\Hid (EF (fun y=>y=g\/y∈Bm xs) w wr)) (fun _ i _=>n- (intOf i).toNat);case atStart=>exact⟨0,1,[],xs,AZ _,rfl,rfl,by omega,by omega,rfl,rfl,rfl,HS0,EF.refl _ _⟩
 case round=>
  obtain⟨j,x,pre,post,hj,rfl,rfl,hx,hx1,HE,HJ,HX,HS,HBT⟩:=hrel;clear HS0;by_cases hlt:j<n;case neg=>
   have he:j=n:=by omega
   have hp:post= []:=by have h1:=AV List.length (AA HE);rw[AH,AA HN]at h1;have h2:=AA HJ;exact F2.1 (by omega)
   subst hp;have hpx:xs=pre:=by rw[AA HE,A6]
   subst hpx;subst he;have Fr:¬(j:Int)<(j:Int):=by omega
   go_wp2_with fail;go_ret;exact⟨by rw[<-AA HX];rfl,by have:=AA HS;rwa [A6]at this,AA HBT⟩
  case pos=>
   have Fr:(j:Int)<(n:Int):=by omega
   have hxb:x<=1+1048576*2097160:=Aw hx (by have:j*2097160<=1048576*2097160:=Nat.mul_le_mul_right _ (by omega);omega);obtain⟨y,post',rfl⟩:=QG (AA HE) (AA HJ) (by rw[AA HN];exact hlt);obtain⟨hlc,hbl,hnd,f,hr,hfy,hf4⟩:=(AA HS).node;have hJ:(E3 1 pre).length=j:=by rw[KM];exact(AA HJ).symm
   rw[hJ]at hlc hfy hf4;obtain⟨a4,c4,a5,c5,e4,e5,o4,o5⟩:=(AA HS).lists y (by simp);obtain⟨s4,s5⟩:=AA HSM y (by rw[AA HE];simp);obtain⟨n4,hn4⟩:∃n4,y.d.nums.length=n4:=⟨_,rfl⟩
   obtain⟨n5,hn5⟩:∃n5,y.d.kids.length=n5:=⟨_,rfl⟩
   rw[hn4]at e4 o4 s4;rw[hn5]at e5 o5 s5;have f4:f (j*6+4)=.slice a4 n4 c4:=hfy 4 _ (by show some y.v4=_;rw[e4]);have f5:f (j*6+5)=.slice a5 n5 c5:=hfy 5 _ (by show some y.v5=_;rw[e5]);have r1:=hr.set (j*6) (.int .i64 (x:Nat));have r2:=r1.set (j*6+1) (.int .i64 ((x:Int)+1));have r3:=r2.set (j*6+2) (.int .i64 ((x:Int)+1+1));have a0:=hr.cell (i:=j*6) (by omega);have z0:=hr.frozen (j*6);have a1:=r1.cell (i:=j*6+1) (by omega);have z1:=r1.frozen (j*6+1);have a2:=r2.cell (i:=j*6+2) (by omega);have z2:=r2.frozen (j*6+2);have HM:Hid (∀W,Calls prog 86 #[.int .i64 ((x:Int)+1+1+1)] W fun e w'=>e=.returned (.string (mt (x+3)))/\Below W.heap.size W w'):=AB fun W=>by have:=Ku (x+3) (by omega) (by omega) W;exact this
   obtain⟨T,hT⟩:∃T,mt (x+3)=T:=⟨_,rfl⟩
   rw[hT]at HM;obtain⟨W3,hW3⟩:∃W3,((wr.setCell ⟨g,j*6,none⟩ (.int .i64 (x:Nat))).setCell ⟨g,j*6+1,none⟩ (.int .i64 ((x:Int)+1))).setCell ⟨g,j*6+2,none⟩ (.int .i64 ((x:Int)+1+1))=W3:=⟨_,rfl⟩
   have HB3:Hid (EF (fun y=>y=g) wr W3):=by rw[<-hW3];show EF (fun y=>y=g) wr _;exact(((EF.refl (fun y=>y=g) wr).setCell (p:=⟨g,j*6,none⟩) rfl _).setCell (p:=⟨g,j*6+1,none⟩) rfl _).setCell (p:=⟨g,j*6+2,none⟩) rfl _
   rw[hW3]at r3;have HR3:=AB r3;have HW3:=AB hW3;have HF4:=AB f4;have HF5:=AB f5;have HFF:=AB hf4;have HO4:=AB o4;have HO5:=AB o5;have HE4:=AB e4;have HE5:=AB e5;have HBL:=AB hbl;have HND:=AB hnd;have HN4:=AB hn4;have HN5:=AB hn5;have HTT:=AB hT;have HJJ:=AB hJ;clear r1 r2 r3 hr hfy hf4 o4 o5 e4 e5 hbl hnd f4 f5 hW3 hn4 hn5 hT hJ;go_wp2_with(go_at_call 86;rw[AA HW3];refine(AA HM _).mono ?_;rintro e w5⟨rfl,hb5⟩;have hr5:=(AA HR3).of_block (hb5.block g (AA HR3).lt);have c53:=hr5.cell (i:=j*6+3) (by omega);have z53:=hr5.frozen (j*6+3);have hr6:=hr5.set (j*6+3) (.string T);have c64:=hr6.cell (i:=j*6+4) (by omega);simp only[show ¬ j*6+4=j*6+3 by omega,show ¬ j*6+4=j*6+2 by omega,show ¬ j*6+4=j*6+1 by omega,show ¬ j*6+4=j*6 by omega,Ia]at c64;rw[AA HF4]at c64;have HB6:Hid (EF (fun y=>y=g) wr (w5.setCell ⟨g,j*6+3,none⟩ (.string T))):=(((AA HB3).trans (EF.of_below (S:=fun y=>y=g) hb5)).mono (fun y hy=>hy.elim id id)).setCell rfl _;have HR6:=AB hr6;clear hb5 hr5 hr6 HM);refine(Kv a4 n4 c4 B y.d.nums _ _ ((AA HB6).own (AA HO4) (fun k hk ha=>(AA HBL k (T1 (AA HE4) ha)).1 hk)) (by omega) (by omega)).mono ?_;rintro e w7⟨rfl,ho7,hb7⟩;have hgn4:¬ At a4 n4 g:=fun ha=>(AA HBL g (T1 (AA HE4) ha)).1 rfl;have hgn5:¬ At a5 n5 g:=fun ha=>(AA HBL g (T0 (AA HE5) ha)).1 rfl;have hap45:∀k,At a4 n4 k->¬ At a5 n5 k:=fun k h4 h5=>by have h:=AA HND;unfold AW.blks at h;rw[AA HE4,AA HE5,P6 h4,P6 h5]at h;simp at h
   have hr7:=(AA HR6).of_block (hb7.block g (AA HR6).lt hgn4);have c75:=hr7.cell (i:=j*6+5) (by omega);simp only[show ¬ j*6+5=j*6+3 by omega,show ¬ j*6+5=j*6+2 by omega,show ¬ j*6+5=j*6+1 by omega,show ¬ j*6+5=j*6 by omega,Ia]at c75;rw[AA HF5]at c75;have HO57:=AB (hb7.own ((AA HB6).own (AA HO5) (fun k hk ha=>(AA HBL k (T0 (AA HE5) ha)).1 hk)) hap45);have HB7:=AB hb7;have HR7:=AB hr7;have HO7:=AB ho7;have HG5:=AB hgn5;have HAP:=AB hap45;clear hb7 hr7 ho7 hgn4 hgn5 hap45 HO4 HO5 HR6 c64;go_wp2_with fail;refine(Kv a5 n5 c5 B y.d.kids _ _ (AA HO57) (by omega) (by omega)).mono ?_;rintro e w8⟨rfl,ho8,hb8⟩;have HB8:=AB hb8;have HO8:=AB ho8;clear hb8 ho8;go_wp2_with fail;go_roundw;case rel=>
    have hxy:y∈xs:=by rw[AA HE];simp
    have e4:=AA HE4;have e5:=AA HE5;rw[<-AA HN4]at e4;rw[<-AA HN5]at e5;have hB:EF (fun k=>k=g\/k∈y.blks) wr w8:=(((AA HB6).trans (AA HB7)).trans (AA HB8)).mono (fun k hk=>by
     rcases hk with(h|h)|h
     .exact .inl h
     .exact .inr (T1 (AA HE4) h)
     .exact .inr (T0 (AA HE5) h))
    refine⟨j+1,x+4+n4+n5,pre++ [y],post',by omega,by go_num,by go_num,by omega,by omega,AB (by rw[AA HE];simp),AB (by rw[AH,<-AA HJ];rfl),AB (by rw[Ll,<-AA HX,kE,AA HN4,AA HN5]),AB ?_,AB ?_⟩
    .rw[L1,<-AA HX,Aj];refine NW.step (k:=x) (AA HS) hB ((AA HR7).of_block ((AA HB8).block g (AA HR7).lt (AA HG5))) ?_ e4 e5 ?_ ?_
     .rw[<-AA HJJ]at HFF;exact AA HFF _ _ _ (mt (x+3)) _ _ _ (fun i=>by rw[AA HTT,AA HJJ])
     .rw[AA HN4];exact(AA HB8).own (AA HO7) (fun k h5 h4=>AA HAP k h4 h5)
     .rw[AA HN4,AA HN5];exact AA HO8
    .refine((AA HBT).trans hB).mono fun k hk=> ?_;rcases hk with h|h|h
     .exact h
     .exact .inl h
     .exact .inr (CE.2 ⟨y,hxy,h⟩)
   case measure=>simp[intOf];omega
def Ru{xs ys:List Int}{n k:Nat}(hx:xs.length=n)(hy:ys.length=n)(hk:k<n)(h:xs.take k=ys.take k)(he:xs.getD k 0=ys.getD k 0):xs.take (k+1)=ys.take (k+1):=by
 have e1:xs.getD k 0=xs[k]:=by simp[hx,hk]
 have e2:ys.getD k 0=ys[k]:=by simp[hy,hk]
 rw[A9 (by omega),A9 (by omega),h,<-e1,<-e2,he]
def RD(a b:Option Addr)(n m ca cb:Nat)(xs ys:List Int)(w:World)(hx:De w a n xs)(hy:De w b m ys)(hns:n<=17592186044416):Calls prog 14 #[.slice a n ca,.slice b m cb] w fun e w'=>e=.returned (.bool (decide (xs=ys)))/\∃q,w'=w.drewN q:=by
 obtain⟨hxl,hxa⟩:=hx;obtain⟨hyl,hya⟩:=hy;by_cases hne:n=m
 .subst hne;have hn:((n:Int) !=(n:Int))=false:=by simp
  go_enter func14,ntmps14
  go_wp2
  go_loopw[5] (fun i wr=>∃k:Nat,k<=n/\i=.int .i64 k/\xs.take k=ys.take k/\∃q,wr=w.drewN q) (fun i _=>n- (intOf i).toNat);case atStart=>exact⟨0,AZ _,rfl,rfl,0,rfl⟩
  case round=>
   obtain⟨k,hk,rfl,htk,q,rfl⟩:=hrel;by_cases hlt:k<n
   .have ha:∃b off,a=some ⟨b,off,none⟩/\w.cell? ⟨b,off+k,none⟩=some (.int .u8 (xs.getD k 0)):=by
     rcases hxa with h0|⟨b,off,rfl,hlt',hc⟩
     .omega
     .exact⟨b,off,rfl,hc k hlt⟩
    have hb:∃b' off,b=some ⟨b',off,none⟩/\w.cell? ⟨b',off+k,none⟩=some (.int .u8 (ys.getD k 0)):=by
     rcases hya with h0|⟨b,off,rfl,hlt',hc⟩
     .omega
     .exact⟨b,off,rfl,hc k hlt⟩
    obtain⟨b1,o1,rfl,hc1⟩:=ha;obtain⟨b2,o2,rfl,hc2⟩:=hb;clear hxa hya;obtain⟨x,hx⟩:∃x,x=xs.getD k 0:=⟨_,rfl⟩
    obtain⟨y,hy⟩:∃y,y=ys.getD k 0:=⟨_,rfl⟩
    rw[<-hx]at hc1;rw[<-hy]at hc2;have HX:Hid (x=xs.getD k 0):=hx;have HY:Hid (y=ys.getD k 0):=hy;have HT:Hid (xs.take k=ys.take k):=htk;have HL:Hid (xs.length=n/\ys.length=n):=⟨hxl,hyl⟩
    clear hx hy htk hxl hyl;by_cases hxy:x=y
    .have hb:(x !=y)=false:=by simp[hxy]
     have HXY:Hid (x=y):=hxy;clear hxy
     go_wp2
     go_quiet(fail)
     go_wp2
     go_roundw;case rel=>exact⟨k+1,by omega,by go_num,Ru HL.out.1 HL.out.2 hlt HT.out (HX.out.symm.trans (HXY.out.trans HY.out)),_,by first|rfl|exact World.drewN_drewN _ _ _⟩
     case measure=>simp[intOf];omega
    .have hb:(x !=y)=true:=by simp[hxy]
     have HN:Hid (¬ xs=ys):=fun e=>hxy (by rw[HX.out,HY.out,e]);clear hxy
     go_wp2
     go_quiet(fail)
     go_wp2
     go_ret;exact⟨AN (AD HN.out).symm,_,World.drewN_drewN _ _ _⟩
   .have hkn:k=n:=by omega
    have HE:Hid (xs=ys):=by
     show xs=ys
     rwa [AO (by omega),AO (by omega)]at htk
    clear htk;subst hkn
    go_wp2
    go_ret;exact⟨AN (AK HE.out).symm,_,rfl⟩
 .have hn:((n:Int) !=(m:Int))=true:=by simp;omega
  have HN:Hid (¬ xs=ys):=fun e=>hne (by rw[<-hxl,<-hyl,e]);clear hne;go_enter func14,ntmps14
  go_wp2
  go_ret;exact⟨AN (AD HN.out).symm,0,rfl⟩
section
open Go.ChangeShapes Go.WideShapes Go.ChangeAt Go.Joins
namespace OpenLex
def own:ownKnob prog.godebug=none:=by kernel_rfl
def Tg:laidOutB prog=true:=by kernel_rfl
def cellsByte:prog.cellsOf 5=1:=by kernel_rfl
def Xw{W:World}{fuel:Nat}{cs:List Value}{x:DataW Unit×List MemPlace}{sp:Nat->Bool}{held:Bool}(h:DataW.trod (fun _=>()) prog W 0 sp held fuel 66 cs=some x):cs= [.nilIface]\/∃u v,cs= [.iface u v]:=by
 cases fuel with
 |zero=>simp[DataW.trod]at h
 |succ fuel=>
  simp only[DataW.trod,underlying66]at h;split at h<;>simp_all
def bo:prog.globalNamed "strconv.ErrRange"=some (Tryz.atoiS_ren.g 16):=by kernel_rfl
def au:(prog.globals[Tryz.atoiS_ren.g 16]?).map (·.type)=some 66:=by kernel_rfl
def cP:(Rows.laid_unicode_utf8_first:DataW Unit)=Lib.firstData:=by kernel_rfl
def aB:(Rows.laid_unicode_utf8_acceptRanges:DataW Unit)=Lib.acceptData:=by kernel_rfl
def fG:U8Extra prog Tryz.decodeS_ren:=⟨by kernel_rfl,by kernel_rfl,by kernel_rfl,by kernel_rfl,by kernel_rfl,by kernel_rfl,by kernel_rfl⟩
def X2{W:World}{l:List (String×DataW Unit)}(h:laidMet prog l W)(m1:("strconv.ErrRange",Rows.laid_strconv_ErrRange)∈l)(m2:("unicode/utf8.first",Rows.laid_unicode_utf8_first)∈l)(m3:("unicode/utf8.acceptRanges",Rows.laid_unicode_utf8_acceptRanges)∈l):Fo W/\Fu W:=by
 constructor
 .obtain⟨g,t,cs,fuel,p,hg,hty,hvar,hd⟩:=Lib.laidMet.reads h m1;obtain rfl:=Ac (bo.symm.trans hg);obtain rfl:=Ac (au.symm.trans hty);have hc:=World.var?_cell hg hvar 0;rcases Xw hd with e|⟨u,v,e⟩
  .exact⟨.nilIface,by rw[hc,<-Dz,e];rfl,.inl rfl⟩
  .exact⟨.iface u v,by rw[hc,<-Dz,e];rfl,.inr ⟨u,v,rfl⟩⟩
 .refine utf8Tabs_of_readsT (P:=prog) (ρ:=Tryz.decodeS_ren) {Tryz.decodeS with} fG ?_ ?_
  .rw[<-cP];exact Lib.laidMet.reads h m2
  .rw[<-aB];exact Lib.laidMet.reads h m3
end OpenLex
end
section
open Go.ChangeShapes Go.WideShapes Go.ChangeAt Go.Joins
namespace OpenLex
def OW{H:Type}{enc:TypeId×Value->H}{W:World}{fuel:Nat}{v:Value}{x:DataW H×List MemPlace}(h:DataW.trod enc prog W 0 (fun _=>true) true fuel 33 [v]=some x):∃a n cap zs,v=.slice a n cap/\De W a n zs/\∀z∈zs,0<=z/\z<256:=by
 rcases open_ints underlying33 underlying5 cellsByte h with⟨hcs,_⟩|⟨a,len,cap,zs,hcs,_,hl,hm,hz,_,GQ,hwf⟩
 .simp at hcs;exact⟨none,0,0,[],hcs,⟨rfl,.inl rfl⟩,fun z hz=>by cases hz⟩
 .simp at hcs hz;refine⟨some a,len,cap,zs.take len,hcs,⟨by rw[CF];omega,?_⟩,fun z hzm=> ?_⟩
  .by_cases h0:len=0
   .exact .inl h0
   .right;obtain⟨b,off,spot⟩:=a;have hc0:=GQ 0 (by omega);have hspot:spot=none:=by simpa[Addr.add]using World.cell?_spot hc0
    subst hspot;refine⟨b,off,rfl,Cb W _ hc0,fun i hi=> ?_⟩;have hadd:(⟨b,off,none⟩:Addr).add i=⟨b,off+i,none⟩:=by by_cases h:i=0<;>simp[Addr.add,h]
    rw[<-hadd,GQ i (by omega)];simp only[AP,BN];rw[AL hi]
  .obtain⟨i,hi⟩:=List.mem_iff_getElem?.1 (List.mem_of_mem_take hzm);have hb:=range_u8 hwf i;rw[hi]at hb;simp at hb;omega
def Tx{zs:List Int}(h:∀z∈zs,0<=z/\z<256):bz (BU zs)=zs:=by rw[ao];unfold uz BU;rw[Do];refine(B8 (g:=id) fun z hz=> ?_).trans (JY zs);have:=h z hz;show((z.toNat.toUInt8.toNat:Nat):Int)=z;rw[Nat.toUInt8,Cv];omega
end OpenLex
end
