import Derived.Test.YtinndpnilmmmjaaGreatDoorZ18
import Derived.Test.YtinndpnilmmmjaaGreatDoorZ19
set_option maxRecDepth 20000
set_option maxHeartbeats 8000000
set_option linter.defProp false
namespace Go.Proofs.YtinndpnilmmmjaaGreatDoor
open Go.RowKit Go.Proofs.Tryz
def Nc{s:AE}(h:s.size=0):s=⟨#[]⟩:=CJ (Gd h)
def MU{s:AE}(h:s.size≠0):s.toList.isEmpty=false:=by
 rw[Lib.toList_data];cases hl:s.data.toList with
 |nil=>exact absurd (by rw[Lib.size_eq,hl];rfl) h
 |cons a r=>rfl
def VG(s:AE)(h:0<s.size)(w:World):Calls prog 60 #[.agg #[.int .i64 3,.int .i64 0,.string s,.int .i64 0]] w fun e w'=>e=.returned (.bool (decide (97<=bt s 0)))/\Below w.heap.size w w':=by
 have hi0:∀W,(Instr.index 9 (.string s) (.int .i64 0)).run prog W=.ok (.int .u8 (bt s 0:Nat)) W:=fun W=>C5 (s:=s) (k:=0) h W;obtain⟨c,hc⟩:∃c,bt s 0=c:=⟨_,rfl⟩
 rw[hc]at hi0 ⊢;clear hc;go_enter func60,ntmps60
 go_wp2
 go_ret;refine⟨AN ?_,AI.alloc AC _⟩;first|exact BQ.2 (by omega)|(simp;omega)
def Sg(s:AE)(h:0<s.size)(w:World):Calls prog 61 #[.agg #[.int .i64 3,.int .i64 0,.string s,.int .i64 0]] w fun e w'=>e=.returned (.bool (decide (bt s 0<=90)))/\Below w.heap.size w w':=by
 have hi0:∀W,(Instr.index 9 (.string s) (.int .i64 0)).run prog W=.ok (.int .u8 (bt s 0:Nat)) W:=fun W=>C5 (s:=s) (k:=0) h W;obtain⟨c,hc⟩:∃c,bt s 0=c:=⟨_,rfl⟩
 rw[hc]at hi0 ⊢;clear hc;go_enter func61,ntmps61
 go_wp2
 go_ret;refine⟨AN ?_,AI.alloc AC _⟩;first|exact BQ.2 (by omega)|(simp;omega)
def cN:∀args w,(callFunc 60 args).run prog w=.ok (.enter 60 args) w:=enters_of func60 (by kernel_rfl) rfl
def Z9:∀args w,(callFunc 61 args).run prog w=.ok (.enter 61 args) w:=enters_of func61 (by kernel_rfl) rfl
def Dg(w:World):Prop:=Vq w/\Fo w/\Fu w
def Dg.below{w w':World}(h:Dg w)(hb:Below w.heap.size w w'):Dg w':=⟨h.1.below hb,h.2.1.below hb,h.2.2.below hb⟩
def Ol(g:Nat)(eg:∀args w,(callFunc g args).run prog w=.ok (.enter g args) w)(p:Nat->Bool)(hg:∀(s:AE)(_:0<s.size)(w:World),Calls prog g #[.agg #[.int .i64 3,.int .i64 0,.string s,.int .i64 0]] w fun e w'=>e=.returned (.bool (p (bt s 0)))/\Below w.heap.size w w')(s:AE)(w:World)(hs:s.size<=1048576)(hG:Dg w):Calls prog 59 #[.string s,.func (.func g) #[] #[]] w fun e w'=>e=.returned (.bool (decide ((DJ 3 0 s).size≠0)&&p (bt s 0)))/\Below w.heap.size w w':=by
 obtain⟨r,hr⟩:∃r,(decide ((DJ 3 0 s).size≠0)&&p (bt s 0))=r:=⟨_,rfl⟩
 rw[hr];have HR:=AB hr;obtain⟨Q,hQ⟩:∃Q,Q=w.alloc (.cells #[.int .i64 3,.int .i64 0,.string s,.int .i64 0] 64):=⟨_,rfl⟩
 have HQ:=AB hQ;have HBQ:Hid (Below w.heap.size w Q):=by rw[hQ];exact AI.alloc AC _
 have HXQ:Hid (D9 Q w.heap.size (.int .i64 3) (.int .i64 0) (.string s) (.int .i64 0)):=by rw[hQ];exact D9.new w _ _ _ _
 have hGQ:=hG.below (AA HBQ);have HC:=AB (L3 3 0 0 s Q (by omega) hs hGQ.1 hGQ.2.1 hGQ.2.2);have HG:=AB (fun(h:0<s.size)(W:World)=>hg s h W);have HSZ:=AB (fun h=>((M9 s).1 h).1);obtain⟨y,hy⟩:∃y,DJ 3 0 s=y:=⟨_,rfl⟩
 rw[hy]at HC HR HSZ;clear hr hQ hG hGQ hg hy;by_cases hy0:y.size=0
 .have hye:=Nc hy0;have HE:Hid (false=r):=by show _=_;rw[<-AA HR,AD (by omega)];rfl
  subst hye;clear HR HG HSZ hy0;go_enter func59,ntmps59;go_wp2_with(first|(go_at_call 38;rw[<-AA HQ];refine(AA HC).mono ?_;rintro e w1⟨rfl,hb1⟩;have HB1:=AB ((AA HBQ).trans (hb1.mono (AA HBQ).size));clear hb1));go_ret;exact⟨AN (AA HE),AA HB1⟩
 .have hyf:=MU hy0;have HP:=AB (AA HG (AA HSZ hy0));have HE:Hid (p (bt s 0)=r):=by show _=_;rw[<-AA HR,AK hy0];rfl
  rw[AA HE]at HP;clear HR HG HSZ hy0;go_enter func59,ntmps59;go_wp2_with(first|(go_at_call 38;rw[<-AA HQ];refine(AA HC).mono ?_;rintro e w1⟨rfl,hb1⟩;have HB1:=AB ((AA HBQ).trans (hb1.mono (AA HBQ).size));obtain⟨q0,q1,q2,q3,-,-,-,-⟩:=((AA HXQ).below AC hb1).all;clear hb1)|(go_at_fn g;refine(AA HP _).mono ?_;rintro e w2⟨rfl,hb2⟩;have HB2:=AB ((AA HB1).trans (hb2.mono (AA HB1).size));clear hb2));go_ret;exact⟨rfl,AA HB2⟩
def XG{s:AE}:(decide ((DJ 3 0 s).size≠0)&&decide (97<=bt s 0))=C8 s false:=by
 rw[Td];by_cases h:(DJ 3 0 s).size≠0
 .rw[AK h,Ap,Ap];have hL:=((M9 s).1 h).2.2.1;unfold El at hL;by_cases h1:97<=bt s 0
  .rw[AK h1,AD (by omega)];rfl
  .have:bt s 0<=90:=by
    rcases DG _ _▸hL with h'|h'
    .have:=AT h';omega
    .have:=AT h';omega
   rw[AD h1,AK this];rfl
 .rw[AD h];rfl
def N5(s:AE)(w:World)(hs:s.size<=1048576)(hG:Dg w):Calls prog 59 #[.string s,.func (.func 60) #[] #[]] w fun e w'=>e=.returned (.bool (C8 s false))/\Below w.heap.size w w':=by rw[<-XG];exact Ol _ cN (fun c=>decide (97<=c)) VG s w hs hG
def NJ(s:AE)(w:World)(hs:s.size<=1048576)(hG:Dg w):Calls prog 59 #[.string s,.func (.func 61) #[] #[]] w fun e w'=>e=.returned (.bool (C8 s true))/\Below w.heap.size w w':=by
 have e:C8 s true=(decide ((DJ 3 0 s).size≠0)&&decide (bt s 0<=90)):=by rw[Td];cases decide (bt s 0<=90)<;>rfl
 rw[e];exact Ol _ Z9 (fun c=>decide (c<=90)) Sg s w hs hG
def No(a:Option Addr)(n cap:Nat)(zs:List Int)(w:World)(h:Df w a n zs):Calls prog 58 #[.slice a n cap] w fun e w'=>e=.returned (.bool (zs.all D8&&decide (0<zs.length)))/\w'=w:=by
 have Ae:=h.len;have hsm:=h.small;have H:=AB h;clear h;have HI:=AB (fun(k:Int)(r:Bool)(hr:D8 k=r)(W:World)=>(by rw[<-hr];exact SQ k W:Calls prog 118 #[.int .i64 k] W fun e w'=>e=.returned (.bool r)/\w'=W));go_enter func58,ntmps58;go_wp2_with fail;go_loopw[7] (fun i wr=>∃k:Nat,k<=n/\i=.int .i64 k/\Hid ((zs.take k).all D8=true)/\wr=w) (fun i _=>n- (intOf i).toNat);case atStart=>exact⟨0,AZ _,rfl,rfl,rfl⟩
 case round=>
  obtain⟨k,hk,rfl,HA,rfl⟩:=hrel;by_cases hlt:k<n
  .obtain⟨b,off,rfl,hbl,GQ⟩:=(AA H).get hlt;have Fr:(k:Int)<(n:Int):=by omega
   have HT0:Hid (D8 (zs.getD k 0)=true->(zs.take (k+1)).all D8=true):=fun hh=>by
    have e:zs.getD k 0=zs[k]:=by simp[Ae,hlt]
    rw[e]at hh;rw[A9 (by omega),List.all_append,AA HA];simp[hh]
   have HF0:Hid (D8 (zs.getD k 0)=false->false=(zs.all D8&&decide (0<zs.length))):=fun hh=>by
    have e:zs.getD k 0=zs[k]:=by simp[Ae,hlt]
    rw[e]at hh;rw[Ev.2 ⟨zs[k],By (by omega),by simp[hh]⟩];rfl
   obtain⟨x,hx⟩:∃x,zs.getD k 0=x:=⟨_,rfl⟩
   rw[hx]at GQ HT0 HF0;clear hx HA;cases hq:D8 x with
   |true=>
    have HC:=AB (fun W=>AA HI x true hq W);have HT:=AB (AA HT0 hq);clear hq HT0 HF0;go_wp2_with(go_at_call 118;refine(AA HC _).mono ?_;rintro e w1⟨rfl,hw1⟩;obtain rfl:=hw1.symm);go_roundw;case rel=>exact⟨k+1,by omega,by go_num,HT,by first|rfl|trivial⟩
    case measure=>simp[intOf];omega
   |false=>
    have HC:=AB (fun W=>AA HI x false hq W);have HT:=AB (AA HF0 hq);clear hq HT0 HF0;go_wp2_with(go_at_call 118;refine(AA HC _).mono ?_;rintro e w1⟨rfl,hw1⟩;obtain rfl:=hw1.symm);go_ret;exact⟨AN (AA HT),rfl⟩
  .have hkn:k=n:=by omega
   have Fr:¬(k:Int)<(n:Int):=by omega
   have HT:Hid (zs.all D8=true):=by
    have:=AA HA
    rwa [AO (by omega)]at this
   go_wp2
   go_ret;refine⟨AN ?_,rfl⟩;rw[AA HT,Ap]
def ef(x:Int):(x==0)=decide (x=0):=by by_cases h:x=0<;>simp[h]
def US(n:Int)(r:Bool)(h:IT n=r)(w:World):Calls prog 62 #[.int .i64 n] w fun e w'=>e=.returned (.bool r)/\w'=w:=by rw[<-h];exact R7 n w
def ac(s:AE)(r:Bool)(h:C8 s false=r)(w:World)(hs:s.size<=1048576)(hG:Dg w):Calls prog 59 #[.string s,.func (.func 60) #[] #[]] w fun e w'=>e=.returned (.bool r)/\Below w.heap.size w w':=by rw[<-h];exact N5 s w hs hG
def bl(s:AE)(r:Bool)(h:C8 s true=r)(w:World)(hs:s.size<=1048576)(hG:Dg w):Calls prog 59 #[.string s,.func (.func 61) #[] #[]] w fun e w'=>e=.returned (.bool r)/\Below w.heap.size w w':=by rw[<-h];exact NJ s w hs hG
def bX(a:Option Addr)(n cap:Nat)(zs:List Int)(r:Bool)(w:World)(h:Df w a n zs)(hr:(zs.all D8&&decide (0<zs.length))=r):Calls prog 58 #[.slice a n cap] w fun e w'=>e=.returned (.bool r)/\w'=w:=by rw[<-hr];exact No a n cap zs w h
def OB(k n m:Int)(s:AE)(a1 a2:Option Addr)(n1 c1 n2 c2:Nat)(nums:List Int)(w:World)(hG:Dg w)(h1:Df w a1 n1 nums):∃(Q:World)(bn bm bs bq:Bool),Hid (Q=w.alloc (.cells #[.int .i64 k,.int .i64 n,.int .i64 m,.string s,.slice a1 n1 c1,.slice a2 n2 c2] 47))/\Hid (∀v,Below Q.heap.size Q v->Dg v)/\Hid (∀v,Below Q.heap.size Q v->v.cell? ⟨w.heap.size,0,none⟩=some (.int .i64 k)/\v.cell? ⟨w.heap.size,1,none⟩=some (.int .i64 n)/\v.cell? ⟨w.heap.size,2,none⟩=some (.int .i64 m)/\v.cell? ⟨w.heap.size,3,none⟩=some (.string s)/\v.cell? ⟨w.heap.size,4,none⟩=some (.slice a1 n1 c1)/\Below w.heap.size w v)/\Hid (∀v,Below Q.heap.size Q v->Df v a1 n1 nums)/\decide (n=0)=bn/\decide (m=0)=bm/\decide (s.size=0)=bs/\decide (nums.length=0)=bq/\(n==0)=bn/\(m==0)=bm/\s.toList.isEmpty=bs/\((n1:Int)==0)=bq:=by
 obtain⟨Q,hQ⟩:∃Q,Q=w.alloc (.cells #[.int .i64 k,.int .i64 n,.int .i64 m,.string s,.slice a1 n1 c1,.slice a2 n2 c2] 47):=⟨_,rfl⟩
 have HBQ:Below w.heap.size w Q:=by rw[hQ];exact AI.alloc AC _
 refine⟨Q,_,_,_,_,hQ,fun v hv=>(hG.below HBQ).below hv,fun v hv=> ?_,fun v hv=>(h1.below AC HBQ).below AC hv,rfl,rfl,rfl,rfl,ef n,ef m,?_,?_⟩
 .have hb:Hv Q w.heap.size (.int .i64 k) (.int .i64 n) (.int .i64 m) (.string s) (.slice a1 n1 c1) (.slice a2 n2 c2):=by rw[hQ];exact Hv.new w _ _ _ _ _ _
  obtain⟨f0,f1,f2,f3,f4,-⟩:=(hb.below (by rw[hQ];simp) hv).all;exact⟨f0,f1,f2,f3,f4,HBQ.trans (hv.mono HBQ.size)⟩
 .by_cases e:s.size=0
  .rw[AK e,Lib.toList_data,Nc e];rfl
  .rw[AD e];exact MU e
 .rw[ef,h1.len];exact BQ.2 (by omega)
def Sp(k n m:Int)(s:AE)(a1 a2:Option Addr)(n1 c1 n2 c2:Nat)(nums kids:List Int)(w:World)(hk:k≠1/\k≠2/\k≠3/\k≠11/\k≠12/\k≠13/\k≠14/\k≠15/\k≠17/\k≠19/\k≠20/\k≠21/\k≠22)(_hs:s.size<=1048576)(hG:Dg w)(h1:Df w a1 n1 nums):Calls prog 31 #[.agg #[.int .i64 k,.int .i64 n,.int .i64 m,.string s,.slice a1 n1 c1,.slice a2 n2 c2]] w fun e w'=>e=.returned (.bool (Bq B2 ⟨k,n,m,s,nums,kids⟩))/\Below w.heap.size w w':=by
 obtain⟨r,hr⟩:∃r,Bq B2 ⟨k,n,m,s,nums,kids⟩=r:=⟨_,rfl⟩
 rw[hr];have HR0:Hid ((decide (n=0)&&(decide (m=0)&&(decide (s.size=0)&&decide (nums.length=0))))=r):=by show _=_;rw[<-hr];unfold Bq Vl Vm Vk Gq;dsimp only;rw[AG (by omega),AG (by omega),AG (by omega),AG (by omega),AG (by omega),AG (by omega),AG (by omega),AG (by omega)]
 obtain⟨Q,bn,bm,bs,bq,HQ,hGQ,HPO,HROW,hbn,hbm,hbs,hbq,gn,gm,gs,gq⟩:=OB k n m s a1 a2 n1 c1 n2 c2 nums w hG h1;clear hr hG h1;obtain⟨h1,h2,h3,h11,h12,h13,h14,h15,h17,h19,h20,h21,h22⟩:=hk;have e1:=Ai h1;have e2:=Ai h2;have e3:=Ai h3;have e11:=Ai h11;have e12:=Ai h12;have e13:=Ai h13;have e14:=Ai h14;have e15:=Ai h15;have e17:=Ai h17;have e19:=Ai h19;have e20:=Ai h20;have e21:=Ai h21;have e22:=Ai h22;clear h1 h2 h3 h11 h12 h13 h14 h15 h17 h19 h20 h21 h22;try rw[hbn]at HR0
 try rw[hbm]at HR0
 try rw[hbs]at HR0
 try rw[hbq]at HR0
 clear hbn hbm hbs hbq;go_enter func31,ntmps31;go_wp2_with fail;go_quiet(fail);go_upto_region 25 with fail;all_goals have HR1:=HR0
 all_goals clear HR0
 all_goals cases bn
 all_goals cases bm
 all_goals cases bs
 all_goals cases bq
 all_goals go_wp2_with fail
 all_goals go_ret
 all_goals exact⟨AN (by exact AA HR1),(by first|exact AA HBW1|exact((AA HPO) _ (by rw[AA HQ];repeat(first|exact AI|refine Aa ?_|refine Below.drewN ?_ _))).2.2.2.2.2)⟩
def Sr(n m:Int)(s:AE)(a1 a2:Option Addr)(n1 c1 n2 c2:Nat)(nums kids:List Int)(w:World)(_hs:s.size<=1048576)(hG:Dg w)(h1:Df w a1 n1 nums):Calls prog 31 #[.agg #[.int .i64 1,.int .i64 n,.int .i64 m,.string s,.slice a1 n1 c1,.slice a2 n2 c2]] w fun e w'=>e=.returned (.bool (Bq B2 ⟨1,n,m,s,nums,kids⟩))/\Below w.heap.size w w':=by
 obtain⟨r,hr⟩:∃r,Bq B2 ⟨1,n,m,s,nums,kids⟩=r:=⟨_,rfl⟩
 rw[hr];have HR0:Hid ((decide (n=0)&&(decide (m=0)&&(decide (s.size=0)&&(nums.all D8&&decide (0<nums.length)))))=r):=by show _=_;rw[<-hr];unfold Bq Vl Vm Vk Gq;dsimp only;simp
 obtain⟨Q,bn,bm,bs,bq,HQ,hGQ,HPO,HROW,hbn,hbm,hbs,hbq,gn,gm,gs,gq⟩:=OB 1 n m s a1 a2 n1 c1 n2 c2 nums w hG h1;clear hr hG h1;try rw[hbn]at HR0
 try rw[hbm]at HR0
 try rw[hbs]at HR0
 try rw[hbq]at HR0
 obtain⟨x3,hx3⟩:∃x,(nums.all D8&&decide (0<nums.length))=x:=⟨_,rfl⟩
 rw[hx3]at HR0;have HC:=AB (fun v hv=>bX a1 n1 c1 nums x3 v (AA HROW v hv) hx3);clear hbn hbm hbs hbq hx3;go_enter func31,ntmps31;go_wp2_with fail;go_quiet(fail);go_upto_region 25 with(first|(go_at_call 58;refine(AA HC _ (by rw[AA HQ];repeat(first|exact AI|refine Aa ?_|refine Below.drewN ?_ _))).mono ?_;rintro e w1⟨rfl,hw1⟩;obtain rfl:=hw1.symm));all_goals have HR1:=HR0
 all_goals clear HR0
 all_goals cases bn
 all_goals cases bm
 all_goals cases bs
 all_goals cases x3
 all_goals go_wp2_with fail
 all_goals go_ret
 all_goals exact⟨AN (by exact AA HR1),(by first|exact AA HBW1|exact((AA HPO) _ (by rw[AA HQ];repeat(first|exact AI|refine Aa ?_|refine Below.drewN ?_ _))).2.2.2.2.2)⟩
def Sq(n m:Int)(s:AE)(a1 a2:Option Addr)(n1 c1 n2 c2:Nat)(nums kids:List Int)(w:World)(hs:s.size<=1048576)(hG:Dg w)(h1:Df w a1 n1 nums):Calls prog 31 #[.agg #[.int .i64 2,.int .i64 n,.int .i64 m,.string s,.slice a1 n1 c1,.slice a2 n2 c2]] w fun e w'=>e=.returned (.bool (Bq B2 ⟨2,n,m,s,nums,kids⟩))/\Below w.heap.size w w':=by
 obtain⟨r,hr⟩:∃r,Bq B2 ⟨2,n,m,s,nums,kids⟩=r:=⟨_,rfl⟩
 rw[hr];have HR0:Hid ((decide (n=0)&&(decide (m=0)&&(B2 s&&decide (nums.length=0))))=r):=by show _=_;rw[<-hr];unfold Bq Vl Vm Vk Gq;dsimp only;simp
 obtain⟨Q,bn,bm,bs,bq,HQ,hGQ,HPO,HROW,hbn,hbm,hbs,hbq,gn,gm,gs,gq⟩:=OB 2 n m s a1 a2 n1 c1 n2 c2 nums w hG h1;clear hr hG h1;try rw[hbn]at HR0
 try rw[hbm]at HR0
 try rw[hbs]at HR0
 try rw[hbq]at HR0
 obtain⟨x2,hx2⟩:∃x,B2 s=x:=⟨_,rfl⟩
 rw[hx2]at HR0;have HC:Hid (∀v,Below Q.heap.size Q v->Calls prog 38 #[.agg #[.int .i64 2,.int .i64 0,.string s,.int .i64 0]] v fun e w'=>e=.returned (.string (DJ 2 0 s))/\Below v.heap.size v w'):=fun v hv=>by have hg:=AA hGQ v hv;exact L3 2 0 0 s v (by omega) hs hg.1 hg.2.1 hg.2.2
 have hx2':decide ((DJ 2 0 s).size≠0)=x2:=hx2;obtain⟨y,hy⟩:∃y,DJ 2 0 s=y:=⟨_,rfl⟩
 rw[hy]at HC hx2';have gy:y.toList.isEmpty= !x2:=by
  rw[<-hx2'];by_cases e:y.size=0
  .rw[AD (by omega),Lib.toList_data,Nc e];rfl
  .rw[AK e];exact MU e
 clear hx2' hy;clear hbn hbm hbs hbq hx2;go_enter func31,ntmps31;go_wp2_with fail;go_quiet(fail);go_upto_region 25 with(first|(go_at_call 38;refine(AA HC _ (by rw[AA HQ];repeat(first|exact AI|refine Aa ?_|refine Below.drewN ?_ _))).mono ?_;rintro e w1⟨rfl,hb1⟩;have hb2:Below Q.heap.size Q w1:=BI (by rw[AA HQ];repeat(first|exact AI|refine Aa ?_|refine Below.drewN ?_ _)) (hb1.mono (by rw[AA HQ];simp));obtain⟨f0,f1,f2,f3,f4,hbw⟩:=AA HPO _ hb2;have HBW1:=AB hbw;clear hb1 hb2 hbw));all_goals have HR1:=HR0
 all_goals clear HR0
 all_goals cases bn
 all_goals cases bm
 all_goals cases x2
 all_goals cases bq
 all_goals go_wp2_with fail
 all_goals go_ret
 all_goals exact⟨AN (by exact AA HR1),(by first|exact AA HBW1|exact((AA HPO) _ (by rw[AA HQ];repeat(first|exact AI|refine Aa ?_|refine Below.drewN ?_ _))).2.2.2.2.2)⟩
def KX(k n m:Int)(s:AE)(a1 a2:Option Addr)(n1 c1 n2 c2:Nat)(nums kids:List Int)(w:World)(hk:k=3\/k=19\/k=21)(hs:s.size<=1048576)(hG:Dg w)(h1:Df w a1 n1 nums):Calls prog 31 #[.agg #[.int .i64 k,.int .i64 n,.int .i64 m,.string s,.slice a1 n1 c1,.slice a2 n2 c2]] w fun e w'=>e=.returned (.bool (Bq B2 ⟨k,n,m,s,nums,kids⟩))/\Below w.heap.size w w':=by
 obtain⟨r,hr⟩:∃r,Bq B2 ⟨k,n,m,s,nums,kids⟩=r:=⟨_,rfl⟩
 rw[hr];have HR0:Hid ((decide (n=0)&&(decide (m=0)&&(C8 s false&&decide (nums.length=0))))=r):=by show _=_;rw[<-hr];unfold Bq Vl Vm Vk Gq;dsimp only;rcases hk with rfl|rfl|rfl<;>simp
 obtain⟨Q,bn,bm,bs,bq,HQ,hGQ,HPO,HROW,hbn,hbm,hbs,hbq,gn,gm,gs,gq⟩:=OB k n m s a1 a2 n1 c1 n2 c2 nums w hG h1;clear hr hG h1;try rw[hbn]at HR0
 try rw[hbm]at HR0
 try rw[hbs]at HR0
 try rw[hbq]at HR0
 obtain⟨x2,hx2⟩:∃x,C8 s false=x:=⟨_,rfl⟩
 rw[hx2]at HR0;have HC:=AB (fun v hv=>ac s x2 hx2 v hs (AA hGQ v hv));clear hbn hbm hbs hbq hx2;rcases hk with rfl|rfl|rfl<;>(go_enter func31,ntmps31;go_wp2_with fail;go_quiet(fail);go_upto_region 25 with(first|(go_at_call 59;refine(AA HC _ (by rw[AA HQ];repeat(first|exact AI|refine Aa ?_|refine Below.drewN ?_ _))).mono ?_;rintro e w1⟨rfl,hb1⟩;have hb2:Below Q.heap.size Q w1:=BI (by rw[AA HQ];repeat(first|exact AI|refine Aa ?_|refine Below.drewN ?_ _)) (hb1.mono (by rw[AA HQ];simp));obtain⟨f0,f1,f2,f3,f4,hbw⟩:=AA HPO _ hb2;have HBW1:=AB hbw;clear hb1 hb2 hbw));all_goals have HR1:=HR0;all_goals clear HR0;all_goals cases bn;all_goals cases bm;all_goals cases x2;all_goals cases bq;all_goals go_wp2_with fail;all_goals go_ret;all_goals exact⟨AN (by exact AA HR1),(by first|exact AA HBW1|exact((AA HPO) _ (by rw[AA HQ];repeat(first|exact AI|refine Aa ?_|refine Below.drewN ?_ _))).2.2.2.2.2)⟩)
def L6(k n m:Int)(s:AE)(a1 a2:Option Addr)(n1 c1 n2 c2:Nat)(nums kids:List Int)(w:World)(hk:k=17\/k=20)(hs:s.size<=1048576)(hG:Dg w)(h1:Df w a1 n1 nums):Calls prog 31 #[.agg #[.int .i64 k,.int .i64 n,.int .i64 m,.string s,.slice a1 n1 c1,.slice a2 n2 c2]] w fun e w'=>e=.returned (.bool (Bq B2 ⟨k,n,m,s,nums,kids⟩))/\Below w.heap.size w w':=by
 obtain⟨r,hr⟩:∃r,Bq B2 ⟨k,n,m,s,nums,kids⟩=r:=⟨_,rfl⟩
 rw[hr];have HR0:Hid ((decide (n=0)&&(decide (m=0)&&(C8 s true&&decide (nums.length=0))))=r):=by show _=_;rw[<-hr];unfold Bq Vl Vm Vk Gq;dsimp only;rcases hk with rfl|rfl<;>simp
 obtain⟨Q,bn,bm,bs,bq,HQ,hGQ,HPO,HROW,hbn,hbm,hbs,hbq,gn,gm,gs,gq⟩:=OB k n m s a1 a2 n1 c1 n2 c2 nums w hG h1;clear hr hG h1;try rw[hbn]at HR0
 try rw[hbm]at HR0
 try rw[hbs]at HR0
 try rw[hbq]at HR0
 obtain⟨x2,hx2⟩:∃x,C8 s true=x:=⟨_,rfl⟩
 rw[hx2]at HR0;have HC:=AB (fun v hv=>bl s x2 hx2 v hs (AA hGQ v hv));clear hbn hbm hbs hbq hx2;rcases hk with rfl|rfl<;>(go_enter func31,ntmps31;go_wp2_with fail;go_quiet(fail);go_upto_region 25 with(first|(go_at_call 59;refine(AA HC _ (by rw[AA HQ];repeat(first|exact AI|refine Aa ?_|refine Below.drewN ?_ _))).mono ?_;rintro e w1⟨rfl,hb1⟩;have hb2:Below Q.heap.size Q w1:=BI (by rw[AA HQ];repeat(first|exact AI|refine Aa ?_|refine Below.drewN ?_ _)) (hb1.mono (by rw[AA HQ];simp));obtain⟨f0,f1,f2,f3,f4,hbw⟩:=AA HPO _ hb2;have HBW1:=AB hbw;clear hb1 hb2 hbw));all_goals have HR1:=HR0;all_goals clear HR0;all_goals cases bn;all_goals cases bm;all_goals cases x2;all_goals cases bq;all_goals go_wp2_with fail;all_goals go_ret;all_goals exact⟨AN (by exact AA HR1),(by first|exact AA HBW1|exact((AA HPO) _ (by rw[AA HQ];repeat(first|exact AI|refine Aa ?_|refine Below.drewN ?_ _))).2.2.2.2.2)⟩)
def RA(n m:Int)(s:AE)(a1 a2:Option Addr)(n1 c1 n2 c2:Nat)(nums kids:List Int)(w:World)(_hs:s.size<=1048576)(hG:Dg w)(h1:Df w a1 n1 nums):Calls prog 31 #[.agg #[.int .i64 11,.int .i64 n,.int .i64 m,.string s,.slice a1 n1 c1,.slice a2 n2 c2]] w fun e w'=>e=.returned (.bool (Bq B2 ⟨11,n,m,s,nums,kids⟩))/\Below w.heap.size w w':=by
 obtain⟨r,hr⟩:∃r,Bq B2 ⟨11,n,m,s,nums,kids⟩=r:=⟨_,rfl⟩
 rw[hr];have HR0:Hid ((decide (1<=n/\n<=33)&&(decide (m=0)&&(decide (s.size=0)&&decide (nums.length=0))))=r):=by show _=_;rw[<-hr];unfold Bq Vl Vm Vk Gq;dsimp only;simp
 obtain⟨Q,bn,bm,bs,bq,HQ,hGQ,HPO,HROW,hbn,hbm,hbs,hbq,gn,gm,gs,gq⟩:=OB 11 n m s a1 a2 n1 c1 n2 c2 nums w hG h1;clear hr hG h1;try rw[hbn]at HR0
 try rw[hbm]at HR0
 try rw[hbs]at HR0
 try rw[hbq]at HR0
 obtain⟨x0,hx0⟩:∃x,decide (1<=n/\n<=33)=x:=⟨_,rfl⟩
 rw[hx0]at HR0;have HC:=AB (fun v=>Ew n 1 33 x0 hx0 v);clear hbn hbm hbs hbq hx0;go_enter func31,ntmps31;go_wp2_with fail;go_quiet(fail);go_upto_region 25 with(first|(go_at_call 29;refine(AA HC _).mono ?_;rintro e w1⟨rfl,hw1⟩;obtain rfl:=hw1.symm));all_goals have HR1:=HR0
 all_goals clear HR0
 all_goals cases x0
 all_goals cases bm
 all_goals cases bs
 all_goals cases bq
 all_goals go_wp2_with fail
 all_goals go_ret
 all_goals exact⟨AN (by exact AA HR1),(by first|exact AA HBW1|exact((AA HPO) _ (by rw[AA HQ];repeat(first|exact AI|refine Aa ?_|refine Below.drewN ?_ _))).2.2.2.2.2)⟩
def L7(k n m:Int)(s:AE)(a1 a2:Option Addr)(n1 c1 n2 c2:Nat)(nums kids:List Int)(w:World)(hk:k=12\/k=13)(_hs:s.size<=1048576)(hG:Dg w)(h1:Df w a1 n1 nums):Calls prog 31 #[.agg #[.int .i64 k,.int .i64 n,.int .i64 m,.string s,.slice a1 n1 c1,.slice a2 n2 c2]] w fun e w'=>e=.returned (.bool (Bq B2 ⟨k,n,m,s,nums,kids⟩))/\Below w.heap.size w w':=by
 obtain⟨r,hr⟩:∃r,Bq B2 ⟨k,n,m,s,nums,kids⟩=r:=⟨_,rfl⟩
 rw[hr];have HR0:Hid ((IT n&&(decide (0<=m/\m<=1)&&(decide (s.size=0)&&decide (nums.length=0))))=r):=by show _=_;rw[<-hr];unfold Bq Vl Vm Vk Gq;dsimp only;rcases hk with rfl|rfl<;>simp
 obtain⟨Q,bn,bm,bs,bq,HQ,hGQ,HPO,HROW,hbn,hbm,hbs,hbq,gn,gm,gs,gq⟩:=OB k n m s a1 a2 n1 c1 n2 c2 nums w hG h1;clear hr hG h1;try rw[hbn]at HR0
 try rw[hbm]at HR0
 try rw[hbs]at HR0
 try rw[hbq]at HR0
 obtain⟨x0,hx0⟩:∃x,IT n=x:=⟨_,rfl⟩
 rw[hx0]at HR0;obtain⟨x1,hx1⟩:∃x,decide (0<=m/\m<=1)=x:=⟨_,rfl⟩
 rw[hx1]at HR0;have HC:=AB (fun v=>US n x0 hx0 v);have HW:=AB (fun v=>Ew m 0 1 x1 hx1 v);clear hbn hbm hbs hbq hx0 hx1;rcases hk with rfl|rfl<;>(go_enter func31,ntmps31;go_wp2_with fail;go_quiet(fail);go_wp2_with fail;(first|(go_region_with(first|(go_at_call 62;refine(AA HC _).mono ?_;rintro e w2⟨rfl,hw2⟩;obtain rfl:=hw2.symm)|(go_at_call 29;refine(AA HW _).mono ?_;rintro e w2⟨rfl,hw2⟩;obtain rfl:=hw2.symm)))|fail);all_goals go_upto_region 25 with fail;all_goals have HR1:=HR0;all_goals clear HR0;all_goals cases x0;all_goals cases x1;all_goals cases bs;all_goals cases bq;all_goals go_wp2_with fail;all_goals go_ret;all_goals exact⟨AN (by exact AA HR1),(by first|exact AA HBW1|exact((AA HPO) _ (by rw[AA HQ];repeat(first|exact AI|refine Aa ?_|refine Below.drewN ?_ _))).2.2.2.2.2)⟩)
def Q9(n m:Int)(s:AE)(a1 a2:Option Addr)(n1 c1 n2 c2:Nat)(nums kids:List Int)(w:World)(_hs:s.size<=1048576)(hG:Dg w)(h1:Df w a1 n1 nums):Calls prog 31 #[.agg #[.int .i64 14,.int .i64 n,.int .i64 m,.string s,.slice a1 n1 c1,.slice a2 n2 c2]] w fun e w'=>e=.returned (.bool (Bq B2 ⟨14,n,m,s,nums,kids⟩))/\Below w.heap.size w w':=by
 obtain⟨r,hr⟩:∃r,Bq B2 ⟨14,n,m,s,nums,kids⟩=r:=⟨_,rfl⟩
 rw[hr];have HR0:Hid ((IT n&&(decide (m=0)&&(decide (s.size=0)&&decide (nums.length=0))))=r):=by show _=_;rw[<-hr];unfold Bq Vl Vm Vk Gq;dsimp only;simp
 obtain⟨Q,bn,bm,bs,bq,HQ,hGQ,HPO,HROW,hbn,hbm,hbs,hbq,gn,gm,gs,gq⟩:=OB 14 n m s a1 a2 n1 c1 n2 c2 nums w hG h1;clear hr hG h1;try rw[hbn]at HR0
 try rw[hbm]at HR0
 try rw[hbs]at HR0
 try rw[hbq]at HR0
 obtain⟨x0,hx0⟩:∃x,IT n=x:=⟨_,rfl⟩
 rw[hx0]at HR0;have HC:=AB (fun v=>US n x0 hx0 v);clear hbn hbm hbs hbq hx0;go_enter func31,ntmps31;go_wp2_with fail;go_quiet(fail);go_upto_region 25 with(first|(go_at_call 62;refine(AA HC _).mono ?_;rintro e w1⟨rfl,hw1⟩;obtain rfl:=hw1.symm));all_goals have HR1:=HR0
 all_goals clear HR0
 all_goals cases x0
 all_goals cases bm
 all_goals cases bs
 all_goals cases bq
 all_goals go_wp2_with fail
 all_goals go_ret
 all_goals exact⟨AN (by exact AA HR1),(by first|exact AA HBW1|exact((AA HPO) _ (by rw[AA HQ];repeat(first|exact AI|refine Aa ?_|refine Below.drewN ?_ _))).2.2.2.2.2)⟩
def Q8(n m:Int)(s:AE)(a1 a2:Option Addr)(n1 c1 n2 c2:Nat)(nums kids:List Int)(w:World)(_hs:s.size<=1048576)(hG:Dg w)(h1:Df w a1 n1 nums):Calls prog 31 #[.agg #[.int .i64 15,.int .i64 n,.int .i64 m,.string s,.slice a1 n1 c1,.slice a2 n2 c2]] w fun e w'=>e=.returned (.bool (Bq B2 ⟨15,n,m,s,nums,kids⟩))/\Below w.heap.size w w':=by
 obtain⟨r,hr⟩:∃r,Bq B2 ⟨15,n,m,s,nums,kids⟩=r:=⟨_,rfl⟩
 rw[hr];have HR0:Hid ((IT n&&(IT m&&(decide (s.size=0)&&decide (nums.length=0))))=r):=by show _=_;rw[<-hr];unfold Bq Vl Vm Vk Gq;dsimp only;simp
 obtain⟨Q,bn,bm,bs,bq,HQ,hGQ,HPO,HROW,hbn,hbm,hbs,hbq,gn,gm,gs,gq⟩:=OB 15 n m s a1 a2 n1 c1 n2 c2 nums w hG h1;clear hr hG h1;try rw[hbn]at HR0
 try rw[hbm]at HR0
 try rw[hbs]at HR0
 try rw[hbq]at HR0
 obtain⟨x0,hx0⟩:∃x,IT n=x:=⟨_,rfl⟩
 rw[hx0]at HR0;obtain⟨x1,hx1⟩:∃x,IT m=x:=⟨_,rfl⟩
 rw[hx1]at HR0;have HC:=AB (fun v=>US n x0 hx0 v);have HW:=AB (fun v=>US m x1 hx1 v);clear hbn hbm hbs hbq hx0 hx1;go_enter func31,ntmps31;go_wp2_with fail;go_quiet(fail);go_wp2_with fail;first|(go_region_with(first|(go_at_call_of 62 (Value.int .i64 n);refine(AA HC _).mono ?_;rintro e w2⟨rfl,hw2⟩;obtain rfl:=hw2.symm)|(go_at_call_of 62 (Value.int .i64 m);refine(AA HW _).mono ?_;rintro e w2⟨rfl,hw2⟩;obtain rfl:=hw2.symm)))|fail
 all_goals go_upto_region 25 with fail
 all_goals have HR1:=HR0
 all_goals clear HR0
 all_goals cases x0
 all_goals cases x1
 all_goals cases bs
 all_goals cases bq
 all_goals go_wp2_with fail
 all_goals go_ret
 all_goals exact⟨AN (by exact AA HR1),(by first|exact AA HBW1|exact((AA HPO) _ (by rw[AA HQ];repeat(first|exact AI|refine Aa ?_|refine Below.drewN ?_ _))).2.2.2.2.2)⟩
def Q7(n m:Int)(s:AE)(a1 a2:Option Addr)(n1 c1 n2 c2:Nat)(nums kids:List Int)(w:World)(hs:s.size<=1048576)(hG:Dg w)(h1:Df w a1 n1 nums):Calls prog 31 #[.agg #[.int .i64 22,.int .i64 n,.int .i64 m,.string s,.slice a1 n1 c1,.slice a2 n2 c2]] w fun e w'=>e=.returned (.bool (Bq B2 ⟨22,n,m,s,nums,kids⟩))/\Below w.heap.size w w':=by
 obtain⟨r,hr⟩:∃r,Bq B2 ⟨22,n,m,s,nums,kids⟩=r:=⟨_,rfl⟩
 rw[hr];have HR0:Hid ((IT n&&(decide (m=0)&&(C8 s false&&decide (nums.length=0))))=r):=by show _=_;rw[<-hr];unfold Bq Vl Vm Vk Gq;dsimp only;simp
 obtain⟨Q,bn,bm,bs,bq,HQ,hGQ,HPO,HROW,hbn,hbm,hbs,hbq,gn,gm,gs,gq⟩:=OB 22 n m s a1 a2 n1 c1 n2 c2 nums w hG h1;clear hr hG h1;try rw[hbn]at HR0
 try rw[hbm]at HR0
 try rw[hbs]at HR0
 try rw[hbq]at HR0
 obtain⟨x0,hx0⟩:∃x,IT n=x:=⟨_,rfl⟩
 rw[hx0]at HR0;obtain⟨x2,hx2⟩:∃x,C8 s false=x:=⟨_,rfl⟩
 rw[hx2]at HR0;have HC:=AB (fun v hv=>ac s x2 hx2 v hs (AA hGQ v hv));have HW:=AB (fun v=>US n x0 hx0 v);clear hbn hbm hbs hbq hx0 hx2;go_enter func31,ntmps31;go_wp2_with fail;go_quiet(fail);go_wp2_with fail;first|(go_region_with(first|(go_at_call 59;refine(AA HC _ (by rw[AA HQ];repeat(first|exact AI|refine Aa ?_|refine Below.drewN ?_ _))).mono ?_;rintro e w1⟨rfl,hb1⟩;have hb2:Below Q.heap.size Q w1:=BI (by rw[AA HQ];repeat(first|exact AI|refine Aa ?_|refine Below.drewN ?_ _)) (hb1.mono (by rw[AA HQ];simp));obtain⟨f0,f1,f2,f3,f4,hbw⟩:=AA HPO _ hb2;have HBW1:=AB hbw;clear hb1 hb2 hbw)|(go_at_call 62;refine(AA HW _).mono ?_;rintro e w2⟨rfl,hw2⟩;obtain rfl:=hw2.symm)))|fail
 all_goals go_upto_region 25 with fail
 all_goals have HR1:=HR0
 all_goals clear HR0
 all_goals cases x0
 all_goals cases bm
 all_goals cases x2
 all_goals cases bq
 all_goals go_wp2_with fail
 all_goals go_ret
 all_goals exact⟨AN (by exact AA HR1),(by first|exact AA HBW1|exact((AA HPO) _ (by rw[AA HQ];repeat(first|exact AI|refine Aa ?_|refine Below.drewN ?_ _))).2.2.2.2.2)⟩
