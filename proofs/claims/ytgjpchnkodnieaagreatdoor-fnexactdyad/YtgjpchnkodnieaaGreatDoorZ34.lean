import Derived.Test.YtgjpchnkodnieaaGreatDoorZ18
import Derived.Test.YtgjpchnkodnieaaGreatDoorZ21
import Derived.Test.YtgjpchnkodnieaaGreatDoorZ16
import Derived.Test.YtgjpchnkodnieaaGreatDoorZ07
import Derived.Deep.AppendLies
set_option maxRecDepth 20000
set_option maxHeartbeats 4000000
set_option linter.defProp false
namespace Go.Proofs.YtgjpchnkodnieaaGreatDoor
open Go.RowKit Tryz
def JA(L k:Nat):List Int:=(List.range L).map fun(i:Nat)=>if i<k then(i:Int)+1 else 0
def Rf(L:Nat):JA L 0=List.replicate L 0:=by apply List.ext_getElem<;>simp[JA]
def T7(L:Nat):JA L L=Lw L:=BG fun i hi=>by rw[AI hi]
def Rg{L k:Nat}:(JA L k).set k ((k:Int)+1)=JA L (k+1):=by
 unfold JA;rw[Dq];refine BG fun i hi=> ?_;by_cases h:i=k
 .subst h;simp
 .rw[AH h];by_cases h2:i<k
  .rw[AI h2,AI (by omega)]
  .rw[AH h2,AH (by omega)]
def LO(L:Nat)(hL:L<=10000)(w:World):Calls prog 218 #[.int .i64 (L:Nat)] w fun e w'=>∃s g,e=.returned (.agg #[.bool false,.slice (some ⟨s,0,none⟩) 1 1,.slice (some ⟨g,0,none⟩) L L])/\w.heap.size<=s/\w.heap.size<=g/\s≠g/\BA w' s [(L:Int)]/\BA w' g (Lw L)/\Below w.heap.size w w':=by
 have hmk:=run_make_row' (P:=prog) 23 3 (.int .i64 0) 8 underlying23 A6 rfl .i64 .i64 L (by omega) (by omega);go_enter func218,ntmps218;go_wp2_with fail;obtain⟨g,hg⟩:∃g,g=w.heap.size+1:=⟨_,rfl⟩
 obtain⟨W,hW⟩:∃W,W=(w.alloc (.cells #[.bool false,.slice none 0 0,.slice none 0 0] 25)).alloc (.cells (madeCells #[.int .i64 0] L) 3):=⟨_,rfl⟩
 have HB0:Hid (Ai W w.heap.size false (.slice none 0 0) (.slice none 0 0)):=by rw[hW];exact(Ai.new w _ _ _).alloc _
 have HG:Hid (BA W g (JA L 0)):=by show BA W g _;rw[Rf,hW];exact BA.made _ _ _ (by rw[hg];simp)
 have HBL:Hid (Below w.heap.size w W):=by rw[hW];exact((AN _ w).alloc AC _).alloc (by simp) _
 have hzw:W.heap.size=w.heap.size+1+1:=by rw[hW];simp
 have HZW:=AD hzw;have HGE:=AD hg;rw[<-hW,<-hg];clear hW hzw hmk;have hgw:w.heap.size<g:=by omega
 clear hg;go_loopw[9] (fun i wr=>∃k:Nat,k<=L/\i=.int .i64 (k:Nat)/\Hid (BA wr g (JA L k))/\Hid (BS (fun x=>x=g) W wr)) (fun i _=>L- (intOf i).toNat);case atStart=>exact⟨0,AS _,rfl,HG,AD (BS.refl _ _)⟩
 case round=>
  obtain⟨k,hk,rfl,hb,hbut⟩:=hrel;by_cases hlt:k<L
  .have hc:=(AA hb).cell (i:=k) (by simp[JA,hlt]);have hf:=(AA hb).free k;have hkz:(k:Int)<(L:Int):=by omega
   go_wp2_with fail;go_roundw;case rel=>
    refine⟨k+1,by omega,by go_num,?_,AD ((AA hbut).setCell (p:=⟨g,k,none⟩) rfl _)⟩;show BA _ _ _;rw[<-Rg];exact(AA hb).set k _
   case measure=>simp[intOf];omega
  .have e:k=L:=by omega
   subst k;obtain⟨s,hs⟩:∃s,s=wr.heap.size:=⟨_,rfl⟩
   have HBW:Hid (Below w.heap.size w wr):=(AA HBL).trans ((AA hbut).below (by have:=AA HZW;omega) (by rintro x rfl;omega));have hgl:=(AA hb).lt;have hws:=(AA HBW).size;have HB1:Hid (Ai (wr.alloc (.cells #[.int .i64 (L:Nat)] 3)) w.heap.size false (.slice none 0 0) (.slice none 0 0)):=((AA HB0).but (AA hbut) (by show ¬ w.heap.size=g;omega)).alloc _;obtain⟨q0,q1,q2,q3,q4,q5,q6⟩:=(AA HB1).all;have hbs:BA (wr.alloc (.cells #[.int .i64 (L:Nat)] 3)) wr.heap.size [(L:Int)]:=by show(wr.heap.push _)[wr.heap.size]? =_;simp
   have HBS:=AD hbs;clear hbs hk hlt;go_wp2_with fail;have hx:=(AA HB1).sets (c':=false) (u1:=.slice (some ⟨wr.heap.size,0,none⟩) 1 1) (u2:=.slice (some ⟨g,0,none⟩) L L);obtain⟨r0,r1,r2,_,_,_⟩:=hx.all;refine bodyPost_ret (v:=.agg #[.bool false,.slice (some ⟨wr.heap.size,0,none⟩) 1 1,.slice (some ⟨g,0,none⟩) L L]) (by simp[results,results218,go_sem,r0,r1,r2]) rfl ?_;have n1:wr.heap.size≠w.heap.size:=by omega
   have n2:g≠w.heap.size:=by omega
   refine⟨wr.heap.size,g,rfl,hws,by omega,by omega,?_,?_,?_⟩
   .exact(((AA HBS).other (p:=⟨w.heap.size,0,none⟩) n1 _).other (p:=⟨w.heap.size,1,none⟩) n1 _).other (p:=⟨w.heap.size,2,none⟩) n1 _
   .rw[<-T7];exact((((AA hb).alloc _).other (p:=⟨w.heap.size,0,none⟩) n2 _).other (p:=⟨w.heap.size,1,none⟩) n2 _).other (p:=⟨w.heap.size,2,none⟩) n2 _
   .exact((((AA HBW).alloc hws _).setCell (by simp) _).setCell (by simp) _).setCell (by simp) _
def Nd(c d:Bool)(a1 a2 b1 b2:Option Addr)(n1 n2 m1 m2 c1 c2 d1 d2:Nat)(sh dt sh' dt':List Int)(w:World)(h1:AO w a1 n1 sh)(h2:AO w a2 n2 dt)(k1:AO w b1 m1 sh')(k2:AO w b2 m2 dt')(hok:AJ c sh dt=false):Calls prog 57 #[.agg #[.bool c,.slice a1 n1 c1,.slice a2 n2 c2],.agg #[.bool d,.slice b1 m1 d1,.slice b2 m2 d2]] w fun e w'=>e=.returned (.int .i64 3)/\Below w.heap.size w w':=by
 obtain⟨W0,hW0⟩:∃W0,W0=(w.alloc (.cells #[.bool c,.slice a1 n1 c1,.slice a2 n2 c2] 25)).alloc (.cells #[.bool d,.slice b1 m1 d1,.slice b2 m2 d2] 25):=⟨_,rfl⟩
 have hz0:W0.heap.size=w.heap.size+2:=by rw[hW0];simp
 have HB0:Hid (Below w.heap.size w W0):=by rw[hW0];exact((AN _ w).alloc AC _).alloc (by simp) _
 have HX0:Hid (Ai W0 w.heap.size c (.slice a1 n1 c1) (.slice a2 n2 c2)):=by rw[hW0];exact(Ai.new w _ _ _).alloc _
 have HX1:Hid (Ai W0 (w.heap.size+1) d (.slice b1 m1 d1) (.slice b2 m2 d2)):=by rw[hW0];show Ai _ _ _ _ _;have:=Ai.new (w.alloc (.cells #[.bool c,.slice a1 n1 c1,.slice a2 n2 c2] 25)) d (.slice b1 m1 d1) (.slice b2 m2 d2);simpa using this
 have H1:=AD (h1.below AC HB0.out);have H2:=AD (h2.below AC HB0.out);have K1:=AD (k1.below AC HB0.out);have K2:=AD (k2.below AC HB0.out);have hs1:=h1.small;have HW0:=AD hW0;have HR:=AD hok;clear h1 h2 k1 k2 hok hW0;go_enter func57,ntmps57;go_wp2_with(first|(go_at_call_of 51 (Value.slice a1 n1 c1);rw[<-HW0.out];refine(AR _ _ _ _ _ _ _ sh dt _ H1.out H2.out _ HR).mono ?_;rintro e w1⟨rfl,hb1⟩;have HE1:=AD hb1;clear hb1;obtain⟨x0,x1,x2,_,_,_⟩:=(HX0.out.below AC HE1.out).all;obtain⟨y0,y1,y2,_,_,_⟩:=(HX1.out.below AC HE1.out).all;have hp1:w.heap.size+1<w1.heap.size:=(by have:=HE1.out.size;omega)));go_ret;exact⟨rfl,HB0.out.trans (HE1.out.mono (by omega))⟩
def Nc(c d:Bool)(a1 a2 b1 b2:Option Addr)(n1 n2 m1 m2 c1 c2 d1 d2:Nat)(sh dt sh' dt':List Int)(w:World)(h1:AO w a1 n1 sh)(h2:AO w a2 n2 dt)(k1:AO w b1 m1 sh')(k2:AO w b2 m2 dt')(hok:AJ c sh dt=true)(hok':AJ d sh' dt'=false):Calls prog 57 #[.agg #[.bool c,.slice a1 n1 c1,.slice a2 n2 c2],.agg #[.bool d,.slice b1 m1 d1,.slice b2 m2 d2]] w fun e w'=>e=.returned (.int .i64 3)/\Below w.heap.size w w':=by
 obtain⟨W0,hW0⟩:∃W0,W0=(w.alloc (.cells #[.bool c,.slice a1 n1 c1,.slice a2 n2 c2] 25)).alloc (.cells #[.bool d,.slice b1 m1 d1,.slice b2 m2 d2] 25):=⟨_,rfl⟩
 have hz0:W0.heap.size=w.heap.size+2:=by rw[hW0];simp
 have HB0:Hid (Below w.heap.size w W0):=by rw[hW0];exact((AN _ w).alloc AC _).alloc (by simp) _
 have HX0:Hid (Ai W0 w.heap.size c (.slice a1 n1 c1) (.slice a2 n2 c2)):=by rw[hW0];exact(Ai.new w _ _ _).alloc _
 have HX1:Hid (Ai W0 (w.heap.size+1) d (.slice b1 m1 d1) (.slice b2 m2 d2)):=by rw[hW0];show Ai _ _ _ _ _;have:=Ai.new (w.alloc (.cells #[.bool c,.slice a1 n1 c1,.slice a2 n2 c2] 25)) d (.slice b1 m1 d1) (.slice b2 m2 d2);simpa using this
 have H1:=AD (h1.below AC HB0.out);have H2:=AD (h2.below AC HB0.out);have K1:=AD (k1.below AC HB0.out);have K2:=AD (k2.below AC HB0.out);have hs1:=h1.small;have HW0:=AD hW0;have HR:=AD hok;have HR':=AD hok';clear hok';clear h1 h2 k1 k2 hok hW0;go_enter func57,ntmps57;go_wp2_with(first|(go_at_call_of 51 (Value.slice a1 n1 c1);rw[<-HW0.out];refine(AR _ _ _ _ _ _ _ sh dt _ H1.out H2.out _ HR).mono ?_;rintro e w1⟨rfl,hb1⟩;have HE1:=AD hb1;clear hb1;obtain⟨x0,x1,x2,_,_,_⟩:=(HX0.out.below AC HE1.out).all;obtain⟨y0,y1,y2,_,_,_⟩:=(HX1.out.below AC HE1.out).all;have hp1:w.heap.size+1<w1.heap.size:=(by have:=HE1.out.size;omega))|(go_at_call 51;refine(AR _ _ _ _ _ _ _ sh' dt' _ (K1.out.below AC HE1.out) (K2.out.below AC HE1.out) _ HR').mono ?_;rintro e w2⟨rfl,hb2⟩;have HE2:=AD (HE1.out.trans (hb2.mono HE1.out.size));clear hb2 x0 x1 x2 y0 y1 y2;obtain⟨x0,x1,x2,_,_,_⟩:=(HX0.out.below AC HE2.out).all;have hp2:w.heap.size+1<w2.heap.size:=(by have:=HE2.out.size;omega)));go_ret;exact⟨rfl,HB0.out.trans (HE2.out.mono (by omega))⟩
def Nb(c d:Bool)(a1 a2 b1 b2:Option Addr)(n1 n2 m1 m2 c1 c2 d1 d2:Nat)(sh dt sh' dt':List Int)(w:World)(h1:AO w a1 n1 sh)(h2:AO w a2 n2 dt)(k1:AO w b1 m1 sh')(k2:AO w b2 m2 dt')(hok:AJ c sh dt=true)(hok':AJ d sh' dt'=true)(hn:1<n1):Calls prog 57 #[.agg #[.bool c,.slice a1 n1 c1,.slice a2 n2 c2],.agg #[.bool d,.slice b1 m1 d1,.slice b2 m2 d2]] w fun e w'=>e=.returned (.int .i64 4)/\Below w.heap.size w w':=by
 obtain⟨W0,hW0⟩:∃W0,W0=(w.alloc (.cells #[.bool c,.slice a1 n1 c1,.slice a2 n2 c2] 25)).alloc (.cells #[.bool d,.slice b1 m1 d1,.slice b2 m2 d2] 25):=⟨_,rfl⟩
 have hz0:W0.heap.size=w.heap.size+2:=by rw[hW0];simp
 have HB0:Hid (Below w.heap.size w W0):=by rw[hW0];exact((AN _ w).alloc AC _).alloc (by simp) _
 have HX0:Hid (Ai W0 w.heap.size c (.slice a1 n1 c1) (.slice a2 n2 c2)):=by rw[hW0];exact(Ai.new w _ _ _).alloc _
 have HX1:Hid (Ai W0 (w.heap.size+1) d (.slice b1 m1 d1) (.slice b2 m2 d2)):=by rw[hW0];show Ai _ _ _ _ _;have:=Ai.new (w.alloc (.cells #[.bool c,.slice a1 n1 c1,.slice a2 n2 c2] 25)) d (.slice b1 m1 d1) (.slice b2 m2 d2);simpa using this
 have H1:=AD (h1.below AC HB0.out);have H2:=AD (h2.below AC HB0.out);have K1:=AD (k1.below AC HB0.out);have K2:=AD (k2.below AC HB0.out);have hs1:=h1.small;have HW0:=AD hW0;have HR:=AD hok;have HR':=AD hok';clear hok';clear h1 h2 k1 k2 hok hW0;go_enter func57,ntmps57;go_wp2_with(first|(go_at_call_of 51 (Value.slice a1 n1 c1);rw[<-HW0.out];refine(AR _ _ _ _ _ _ _ sh dt _ H1.out H2.out _ HR).mono ?_;rintro e w1⟨rfl,hb1⟩;have HE1:=AD hb1;clear hb1;obtain⟨x0,x1,x2,_,_,_⟩:=(HX0.out.below AC HE1.out).all;obtain⟨y0,y1,y2,_,_,_⟩:=(HX1.out.below AC HE1.out).all;have hp1:w.heap.size+1<w1.heap.size:=(by have:=HE1.out.size;omega))|(go_at_call 51;refine(AR _ _ _ _ _ _ _ sh' dt' _ (K1.out.below AC HE1.out) (K2.out.below AC HE1.out) _ HR').mono ?_;rintro e w2⟨rfl,hb2⟩;have HE2:=AD (HE1.out.trans (hb2.mono HE1.out.size));clear hb2 x0 x1 x2 y0 y1 y2;obtain⟨x0,x1,x2,_,_,_⟩:=(HX0.out.below AC HE2.out).all;have hp2:w.heap.size+1<w2.heap.size:=(by have:=HE2.out.size;omega)));go_ret;exact⟨rfl,HB0.out.trans (HE2.out.mono (by omega))⟩
def Na(c d:Bool)(a1 a2 b1 b2:Option Addr)(n1 n2 m1 m2 c1 c2 d1 d2:Nat)(sh dt sh' dt':List Int)(w:World)(h1:AO w a1 n1 sh)(h2:AO w a2 n2 dt)(k1:AO w b1 m1 sh')(k2:AO w b2 m2 dt')(hok:AJ c sh dt=true)(hok':AJ d sh' dt'=true)(hn:¬ 1<n1):Calls prog 57 #[.agg #[.bool c,.slice a1 n1 c1,.slice a2 n2 c2],.agg #[.bool d,.slice b1 m1 d1,.slice b2 m2 d2]] w fun e w'=>e=.returned (.int .i64 (if c then 3 else 0))/\Below w.heap.size w w':=by
 cases c with
 |false=>
  obtain⟨W0,hW0⟩:∃W0,W0=(w.alloc (.cells #[.bool false,.slice a1 n1 c1,.slice a2 n2 c2] 25)).alloc (.cells #[.bool d,.slice b1 m1 d1,.slice b2 m2 d2] 25):=⟨_,rfl⟩
  have hz0:W0.heap.size=w.heap.size+2:=by rw[hW0];simp
  have HB0:Hid (Below w.heap.size w W0):=by rw[hW0];exact((AN _ w).alloc AC _).alloc (by simp) _
  have HX0:Hid (Ai W0 w.heap.size false (.slice a1 n1 c1) (.slice a2 n2 c2)):=by rw[hW0];exact(Ai.new w _ _ _).alloc _
  have HX1:Hid (Ai W0 (w.heap.size+1) d (.slice b1 m1 d1) (.slice b2 m2 d2)):=by rw[hW0];show Ai _ _ _ _ _;have:=Ai.new (w.alloc (.cells #[.bool false,.slice a1 n1 c1,.slice a2 n2 c2] 25)) d (.slice b1 m1 d1) (.slice b2 m2 d2);simpa using this
  have H1:=AD (h1.below AC HB0.out);have H2:=AD (h2.below AC HB0.out);have K1:=AD (k1.below AC HB0.out);have K2:=AD (k2.below AC HB0.out);have hs1:=h1.small;have HW0:=AD hW0;have HR:=AD hok;have HR':=AD hok';clear hok';clear h1 h2 k1 k2 hok hW0;go_enter func57,ntmps57;go_wp2_with(first|(go_at_call_of 51 (Value.slice a1 n1 c1);rw[<-HW0.out];refine(AR _ _ _ _ _ _ _ sh dt _ H1.out H2.out _ HR).mono ?_;rintro e w1⟨rfl,hb1⟩;have HE1:=AD hb1;clear hb1;obtain⟨x0,x1,x2,_,_,_⟩:=(HX0.out.below AC HE1.out).all;obtain⟨y0,y1,y2,_,_,_⟩:=(HX1.out.below AC HE1.out).all;have hp1:w.heap.size+1<w1.heap.size:=(by have:=HE1.out.size;omega))|(go_at_call 51;refine(AR _ _ _ _ _ _ _ sh' dt' _ (K1.out.below AC HE1.out) (K2.out.below AC HE1.out) _ HR').mono ?_;rintro e w2⟨rfl,hb2⟩;have HE2:=AD (HE1.out.trans (hb2.mono HE1.out.size));clear hb2 x0 x1 x2 y0 y1 y2;obtain⟨x0,x1,x2,_,_,_⟩:=(HX0.out.below AC HE2.out).all;have hp2:w.heap.size+1<w2.heap.size:=(by have:=HE2.out.size;omega)));go_ret;exact⟨rfl,HB0.out.trans (HE2.out.mono (by omega))⟩
 |true=>
  obtain⟨W0,hW0⟩:∃W0,W0=(w.alloc (.cells #[.bool true,.slice a1 n1 c1,.slice a2 n2 c2] 25)).alloc (.cells #[.bool d,.slice b1 m1 d1,.slice b2 m2 d2] 25):=⟨_,rfl⟩
  have hz0:W0.heap.size=w.heap.size+2:=by rw[hW0];simp
  have HB0:Hid (Below w.heap.size w W0):=by rw[hW0];exact((AN _ w).alloc AC _).alloc (by simp) _
  have HX0:Hid (Ai W0 w.heap.size true (.slice a1 n1 c1) (.slice a2 n2 c2)):=by rw[hW0];exact(Ai.new w _ _ _).alloc _
  have HX1:Hid (Ai W0 (w.heap.size+1) d (.slice b1 m1 d1) (.slice b2 m2 d2)):=by rw[hW0];show Ai _ _ _ _ _;have:=Ai.new (w.alloc (.cells #[.bool true,.slice a1 n1 c1,.slice a2 n2 c2] 25)) d (.slice b1 m1 d1) (.slice b2 m2 d2);simpa using this
  have H1:=AD (h1.below AC HB0.out);have H2:=AD (h2.below AC HB0.out);have K1:=AD (k1.below AC HB0.out);have K2:=AD (k2.below AC HB0.out);have hs1:=h1.small;have HW0:=AD hW0;have HR:=AD hok;have HR':=AD hok';clear hok';clear h1 h2 k1 k2 hok hW0;go_enter func57,ntmps57;go_wp2_with(first|(go_at_call_of 51 (Value.slice a1 n1 c1);rw[<-HW0.out];refine(AR _ _ _ _ _ _ _ sh dt _ H1.out H2.out _ HR).mono ?_;rintro e w1⟨rfl,hb1⟩;have HE1:=AD hb1;clear hb1;obtain⟨x0,x1,x2,_,_,_⟩:=(HX0.out.below AC HE1.out).all;obtain⟨y0,y1,y2,_,_,_⟩:=(HX1.out.below AC HE1.out).all;have hp1:w.heap.size+1<w1.heap.size:=(by have:=HE1.out.size;omega))|(go_at_call 51;refine(AR _ _ _ _ _ _ _ sh' dt' _ (K1.out.below AC HE1.out) (K2.out.below AC HE1.out) _ HR').mono ?_;rintro e w2⟨rfl,hb2⟩;have HE2:=AD (HE1.out.trans (hb2.mono HE1.out.size));clear hb2 x0 x1 x2 y0 y1 y2;obtain⟨x0,x1,x2,_,_,_⟩:=(HX0.out.below AC HE2.out).all;have hp2:w.heap.size+1<w2.heap.size:=(by have:=HE2.out.size;omega)));go_ret;exact⟨rfl,HB0.out.trans (HE2.out.mono (by omega))⟩
def Ap(c d:Bool)(sh dt sh' dt':List Int):Int:=if AJ c sh dt=true/\AJ d sh' dt'=true then Ae c sh.length else 3
def Ao(c d:Bool)(a1 a2 b1 b2:Option Addr)(n1 n2 m1 m2 c1 c2 d1 d2:Nat)(sh dt sh' dt':List Int)(w:World)(h1:AO w a1 n1 sh)(h2:AO w a2 n2 dt)(k1:AO w b1 m1 sh')(k2:AO w b2 m2 dt')(r:Int)(hr:Hid (Ap c d sh dt sh' dt'=r)):Calls prog 57 #[.agg #[.bool c,.slice a1 n1 c1,.slice a2 n2 c2],.agg #[.bool d,.slice b1 m1 d1,.slice b2 m2 d2]] w fun e w'=>e=.returned (.int .i64 r)/\Below w.heap.size w w':=by
 have hr':=hr.out;clear hr;subst hr';unfold Ap;cases hok:AJ c sh dt with
 |false=>rw[AH (by simp)];exact Nd c d a1 a2 b1 b2 n1 n2 m1 m2 c1 c2 d1 d2 sh dt sh' dt' w h1 h2 k1 k2 hok
 |true=>
  cases hok':AJ d sh' dt' with
  |false=>rw[AH (by simp)];exact Nc c d a1 a2 b1 b2 n1 n2 m1 m2 c1 c2 d1 d2 sh dt sh' dt' w h1 h2 k1 k2 hok hok'
  |true=>
   rw[AI ⟨rfl,rfl⟩,h1.len];unfold Ae;by_cases hn:1<n1
   .rw[AI hn];exact Nb c d a1 a2 b1 b2 n1 n2 m1 m2 c1 c2 d1 d2 sh dt sh' dt' w h1 h2 k1 k2 hok hok' hn
   .rw[AH hn];exact Na c d a1 a2 b1 b2 n1 n2 m1 m2 c1 c2 d1 d2 sh dt sh' dt' w h1 h2 k1 k2 hok hok' hn
section
open Go.Shelf
def aP:∀args w,(callFunc 234 args).run prog w=.ok (.enter 234 args) w:=enters_of func234 (by kernel_rfl) rfl
def Wj(v:Int)(w:World):Calls prog 234 #[.int .i64 v] w fun e w'=>e=.returned (.bool (decide (v<0)))/\w'=w:=by
 go_enter func234,ntmps234
 go_wp2
 go_ret;exact⟨rfl,rfl⟩
def UX{dt:List Int}{k:Nat}(hk:k<dt.length)(h:dt.getD k 0<0):dt.all BE=false:=by
 cases e:dt.all BE with
 |false=>rfl
 |true=>
  have hm:dt.getD k 0∈dt:=by simp[List.getD,hk]
  have h2:=A7.1 e _ hm;unfold BE at h2;have:=BB h2;omega
def Wi{dt:List Int}(h:∀k,k<dt.length->0<=dt.getD k 0):dt.all BE=true:=by rw[A7];intro x hx;obtain⟨k,hk,rfl⟩:=List.getElem_of_mem hx;have:=h k hk;simp[List.getD,hk]at this;simp[BE];exact this
def Nx(a:Option Addr)(n cap:Nat)(dt:List Int)(w:World)(h:AO w a n dt):Calls prog 279 #[.slice a n cap,.func (.func 234) #[] #[]] w fun e w'=>(∃v:Int,e=.returned (.int .i64 v)/\decide (0<=v)= !dt.all BE)/\w'=w:=by
 have hl:=AD h.len;have hsm:=h.small;have H:=AD h;clear h;have heg:=aP;go_enter func279,ntmps279;go_wp2_with fail;go_loopw[8] (fun i wr=>∃k:Nat,k<=n/\i=.int .i64 (k:Nat)/\wr=w/\Hid (∀j,j<k->0<=dt.getD j 0)) (fun i _=>n- (intOf i).toNat);case atStart=>exact⟨0,AS _,rfl,rfl,fun j hj=>absurd hj (ET _)⟩
 case round=>
  obtain⟨k,hk,rfl,hw,hno⟩:=hrel;subst hw;by_cases hlt:k<n
  .obtain⟨b,off,rfl,hblt,hc⟩:=H.out.get hlt;obtain⟨v,hv⟩:∃v,v=dt.getD k 0:=⟨_,rfl⟩
   rw[<-hv]at hc;by_cases hneg:v<0
   .have HA:Hid (dt.all BE=false):=UX (k:=k) (by rw[hl.out];exact hlt) (by rw[<-hv];exact hneg);have hd:decide (v<0)=true:=AL hneg;clear hv;go_wp2_with(go_at_call 234;refine(Wj _ _).mono ?_;rintro e w'⟨rfl,rfl⟩;rw[hd]);go_ret;exact⟨⟨_,rfl,by rw[HA.out,AL (by omega)];rfl⟩,rfl⟩
   .have hd:decide (v<0)=false:=AK hneg;have HV:=AD hv;clear hv;go_wp2_with(go_at_call 234;refine(Wj _ _).mono ?_;rintro e w'⟨rfl,rfl⟩;rw[hd]);go_roundw;case rel=>exact⟨k+1,by omega,by go_num,by first|rfl|trivial,fun j hj=>by
     by_cases e:j=k
     .subst e;rw[<-HV.out];omega
     .exact hno.out j (by omega)⟩
    case measure=>simp[intOf];omega
  .have:k=n:=by omega
   subst this;have HA:Hid (dt.all BE=true):=Wi (fun j hj=>hno.out j (by rw[<-hl.out];exact hj));go_wp2_with fail;go_ret;exact⟨⟨_,rfl,by rw[HA.out];rfl⟩,rfl⟩
def Kh(a:Option Addr)(n cap:Nat)(dt:List Int)(w:World)(h:AO w a n dt)(r:Bool)(hr:Hid ((!dt.all BE)=r)):Calls prog 233 #[.slice a n cap,.func (.func 234) #[] #[]] w fun e w'=>e=.returned (.bool r)/\w'=w:=by have H:=AD h;clear h;go_enter func233,ntmps233;go_wp2_with(go_at_call 279;refine(Nx _ _ _ dt _ H.out).mono ?_;rintro e w'⟨⟨v,rfl,hv⟩,rfl⟩;have HV:=AD hv;clear hv);go_ret;exact⟨Av (by rw[HV.out,hr.out]),rfl⟩
def DJ(a:Option Addr)(n cap:Nat)(dt:List Int)(w:World)(h:AO w a n dt)(r:Bool)(hr:Hid ((!dt.all BE)=r)):Calls prog 169 #[.slice a n cap] w fun e w'=>e=.returned (.bool r)/\w'=w:=by have H:=AD h;clear h;go_enter func169,ntmps169;go_wp2_with(go_at_call 233;refine(Kh _ _ _ dt _ H.out _ hr).mono ?_;rintro e w'⟨rfl,rfl⟩);go_ret;exact⟨rfl,rfl⟩
end
def JI{x:Int}(h:0<=x/\x<=10000):Aq [x]:=by
 refine⟨by simp[Be];omega,?_⟩;by_cases h0:x=0
 .exact⟨1,by simp[Aj,h0]⟩
 .exact⟨x,by simp[Aj,h0];omega⟩
def JU(x:Int):AM [x]=x:=by simp[AM]
def MV(cnt:Nat)(D:List Int)(i:Nat):Int:=((D.getD i 0).toNat % cnt:Nat)
def SI{x m:Int}(h1:0<=x)(h2:x<m):BX [m] [x] [m].length=true:=by show(true&&(decide (0<=x)&&decide (x<m)))=true;rw[AL h1,AL h2];rfl
def P9{d:Bool}{dt:List Int}{m N k:Nat}(hk:k<N):BP d [(m:Int)] dt (MV (max m 1)) [(N:Int)] k=Dp d dt m k:=by
 have hd:BK [(N:Int)] (k:Int)= [(k:Int)]:=by have:(k:Int) % (N:Int)=k:=Int.emod_eq_of_lt (by omega) (by omega);simp[BK,Eu,Ci,List.range_succ,this]
 have hm:Cc [(m:Int)] (MV (max m 1)) [(k:Int)]= [((k % max m 1:Nat):Int)]:=by simp[Cc,MV,List.range_succ]
 unfold BP Dp;rw[hd,hm];by_cases h0:m=0
 .subst h0;rw[AH (by simp[BX]),AI rfl]
 .have e:max m 1=m:=by omega
  have hlt:k % m<m:=Nat.mod_lt _ (by omega);rw[e,AI (SI (by omega) (by exact_mod_cast hlt)),AH h0];have e3:place [(m:Int)] [((k % m:Nat):Int)]=((k % m:Nat):Int):=by simp[place,BO]
  rw[e3,DL]
def UM{d:Bool}{dt zs:List Int}{m N:Nat}:(⟨d,zs,Bg (BP d [(m:Int)] dt (MV (max m 1)) [(N:Int)]) N,0⟩:Ic)=Bc d zs (Dp d dt m) N:=by have h0:Ay (Dp d dt m) N=0:=Fv.2 fun k _=>rfl;rw[DY h0];congr 1;exact BG fun k hk=>by rw[P9 hk]
def TK(ad:Addr)(n cap:Nat)(zs:List Int)(w:World)(h:AO w (some ad) n zs):Calls prog 63 #[.slice (some ad) n cap] w fun e w'=>∃a' Ak,e=.returned (.slice a' n Ak)/\w'.ownsRow w.heap.size 3 1 (.slice a' n Ak) n (zs.map (Value.int .i64))/\Below w.heap.size w w':=by
 have hl:=h.len;have hs:=h.small;have H:=AD h;clear h;obtain⟨i0,hi,hz0,hz1,hz2⟩:=info_parts A6;have qT:∀(w:World)(a:Option Addr)(n c n' c':Nat),(binOp .eql 23 (.slice a n c) (.slice none n' c')).run prog w=.ok (.bool a.isNone) w:=fun w a n c n' c'=>Lib.run_eql_slice_nil w _ _ a n c n' c' underlying23;go_enter func63,ntmps63;go_wp2_with(at_builtin;refine wpList_append_own _ rfl _ _ 23 rfl w.heap.size 3 i0 (.int .i64 0) 1 8 underlying23 hi hz0 hz1 hz2 rfl (by decide) _ _ _ rfl (Fs w) ad n cap (zs.map (Value.int .i64)) rfl (by simpa using hl) (Ct ((AA H).alloc _)) (DQ zs) (by unfold maxLen;omega) (by omega) (by simp) ?_;intro v1 w1 BJ An hnil);clear hnil;have BL:w1.ownsRow w.heap.size 3 1 v1 n (zs.map (Value.int .i64)):=by simpa using BJ
 obtain⟨a',Ak,rfl⟩:=CU BL;have hbel:Below w.heap.size w w1:=(AG.alloc AC _).grown An (by simp) (by intro k hk;cases hk;exact AC);have HO:=AD BL;clear BJ An BL
 go_wp2
 go_ret;exact⟨_,_,rfl,AA HO,hbel⟩
def II{c d:Bool}{sh dt sh' dt':List Int}(h:AJ c sh dt=false):Ap c d sh dt sh' dt'=3:=by unfold Ap;rw[AH (by simp[h])]
def IH{c d:Bool}{sh dt sh' dt':List Int}(h:AJ d sh' dt'=false):Ap c d sh dt sh' dt'=3:=by unfold Ap;rw[AH (by simp[h])]
def Jv{c d:Bool}{sh dt sh' dt':List Int}(h:AJ c sh dt=true)(h':AJ d sh' dt'=true):Ap c d sh dt sh' dt'=Ae c sh.length:=by unfold Ap;rw[AI ⟨h,h'⟩]
section
variable {lim:Bool}{Z S:List Int->List Int->List Int}{c d:Bool}{sh dt sh' dt':List Int}
def ZM(h1:AJ c sh dt=true)(h2:AJ d sh' dt'=true)(h0:Ae c sh.length=0)(h:(Al dt.length sh').length≠dt.length):Dx lim Z S c d sh dt sh' dt'=AT 5:=by
 refine EA h1 h2 5 ?_ (by omega);rw[Gz h0];unfold Al at h;by_cases e:sh'= []
 .rw[AI e]at h;simp at h
 .rw[AH e]at h;rw[AH (fun h=>e (Af.1 h)),AI (fun h'=>h h'.symm)]
def Od(h0:Ae c sh.length=0)(h:(Al dt.length sh').length=dt.length)(h5:dt.length<=5):Bv c sh.length dt.length sh'.length=0:=by
 rw[Gz h0];unfold Al at h;by_cases e:sh'= []
 .subst e;rw[AI (show([]:List Int).length=0 from rfl),AH (by omega)]
 .rw[AH e]at h;rw[AH (fun h=>e (Af.1 h)),AH (by omega)]
def RE(h1:AJ c sh dt=true)(h2:AJ d sh' dt'=true)(h0:Ae c sh.length=0)(h:(Al dt.length sh').length=dt.length)(h5:5<dt.length):Dx lim Z S c d sh dt sh' dt'=AT 7:=by
 refine EA h1 h2 7 ?_ (by omega);rw[Gz h0];unfold Al at h;by_cases e:sh'= []
 .subst e;rw[AI (show([]:List Int).length=0 from rfl),AI h5]
 .rw[AH e]at h;have:=(AW h2).2.2;omega
def Xe(h1:AJ c sh dt=true)(h2:AJ d sh' dt'=true)(h0:Ae c sh.length=0)(h:(Al dt.length sh').length=dt.length)(hz:Am (Z (Al dt.length sh') dt)=true)(hl:(Z (Al dt.length sh') dt).length=dt.length):Dx lim Z S c d sh dt sh' dt'=⟨d,Z (Al dt.length sh') dt,Bg (BP d (Al dt.length sh') dt' (IG (S (Al dt.length sh') dt)) (Z (Al dt.length sh') dt)) (Ac (Z (Al dt.length sh') dt)).toNat,0⟩:=by have h5:=(DE hz).2;rw[hl]at h5;have hc:=CS hz;rw[J0 h1 h2 (Od h0 h h5) (fun _=>hz) (Ac (Z (Al dt.length sh') dt)).toNat (by omega),Xd (by rw[hl,h])]
end
def U2{d:Bool}{dt sh' dt':List Int}(h2:AJ d sh' dt'=true)(h:(Al dt.length sh').length=dt.length)(h5:dt.length<=5):Am (Hb (Al dt.length sh') dt)=true:=by
 have hin:Aq (Al dt.length sh'):=by unfold Al;split;exact(IU _).1;exact(AW h2).1
 refine N9 (MC hin (by rw[IZ,h]) ?_) (by rw[IZ];exact h5);intro k hk;have hc:=hin.cell k;rw[KZ _ _ _ (by omega)];have ha:0<=Eg (dt.getD k 0):=by unfold Eg;split<;>omega
 split<;>omega
section
open Go.Shelf
def GM(w:World)(code:Int)(shape:List Int)(e:Ending)(w':World):Prop:=((code=0/\∃a' k Ak,e=.returned (.tuple #[.slice a' k Ak,.int .i64 0])/\Bt w' (w.heap.size+2) a' k shape)\/(code≠0/\e=.returned (.tuple #[.slice none 0 0,.int .i64 code])))/\Below w.heap.size w w'
def Z0(c d:Bool)(a1 a2 b1 b2:Option Addr)(n1 n2 m1 m2 c1 c2 d1 d2:Nat)(sh sh':List Int)(w:World)(h1:AO w a1 n1 sh)(k1:AO w b1 m1 sh')(_hn2:n2<=17592186044416)(_hm2:m2<=17592186044416)(hA:n2=1)(hB:m2≠1):Calls prog 304 #[.agg #[.bool c,.slice a1 n1 c1,.slice a2 n2 c2],.agg #[.bool d,.slice b1 m1 d1,.slice b2 m2 d2]] w (GM w 0 sh'):=by
 have hs1:=h1.small;have hs2:=k1.small;have H1:=AD h1;have K1:=AD k1;clear h1 k1;subst hA;have qb:((m2:Int)==1)=false:=by simp;omega
 have HB:Hid (∀(o1 o2:Obj)(q:Nat),Below w.heap.size w (((w.alloc o1).alloc o2).drewN q)):=fun o1 o2 q=>Below.drewN ((AG.alloc AC _).alloc (by simp) _) q;go_enter func304,ntmps304
 go_wp2
 go_quiet(fail);go_wp2_with(first|(go_at_call 63;refine(Gg b1 m1 d1 sh' _ (((AA K1).alloc _).alloc _|>.drewN _)).mono ?_;rintro e w3⟨ash,csh,rfl,hcs,hO,hb3⟩;have HO:Hid (Bt w3 (w.heap.size+2) ash m1 sh'):=hO.mono (by simp);have HL:Hid (Below w.heap.size w w3):=(AA HB _ _ _).trans (hb3.mono (by simp;omega));clear hO hb3));go_ret2;exact⟨.inl ⟨rfl,_,_,_,rfl,AA HO⟩,AA HL⟩
def Zz(c d:Bool)(a1 a2 b1 b2:Option Addr)(n1 n2 m1 m2 c1 c2 d1 d2:Nat)(sh sh':List Int)(w:World)(h1:AO w a1 n1 sh)(k1:AO w b1 m1 sh')(_hn2:n2<=17592186044416)(_hm2:m2<=17592186044416)(hA:n2=1)(hB:m2=1)(hlt:n1<m1):Calls prog 304 #[.agg #[.bool c,.slice a1 n1 c1,.slice a2 n2 c2],.agg #[.bool d,.slice b1 m1 d1,.slice b2 m2 d2]] w (GM w 0 sh'):=by
 have hs1:=h1.small;have hs2:=k1.small;have H1:=AD h1;have K1:=AD k1;clear h1 k1;subst hA hB;have hlt':(n1:Int)<m1:=by omega
 clear hlt;have HB:Hid (∀(o1 o2:Obj)(q:Nat),Below w.heap.size w (((w.alloc o1).alloc o2).drewN q)):=fun o1 o2 q=>Below.drewN ((AG.alloc AC _).alloc (by simp) _) q;go_enter func304,ntmps304
 go_wp2
 go_quiet(fail);go_wp2_with(first|(go_at_call 63;refine(Gg b1 m1 d1 sh' _ (((AA K1).alloc _).alloc _|>.drewN _)).mono ?_;rintro e w3⟨ash,csh,rfl,hcs,hO,hb3⟩;have HO:Hid (Bt w3 (w.heap.size+2) ash m1 sh'):=hO.mono (by simp);have HL:Hid (Below w.heap.size w w3):=(AA HB _ _ _).trans (hb3.mono (by simp;omega));clear hO hb3));go_ret2;exact⟨.inl ⟨rfl,_,_,_,rfl,AA HO⟩,AA HL⟩
def Zy(c d:Bool)(a1 a2 b1 b2:Option Addr)(n1 n2 m1 m2 c1 c2 d1 d2:Nat)(sh sh':List Int)(w:World)(h1:AO w a1 n1 sh)(k1:AO w b1 m1 sh')(_hn2:n2<=17592186044416)(_hm2:m2<=17592186044416)(hA:n2=1)(hB:m2=1)(hlt:¬ n1<m1):Calls prog 304 #[.agg #[.bool c,.slice a1 n1 c1,.slice a2 n2 c2],.agg #[.bool d,.slice b1 m1 d1,.slice b2 m2 d2]] w (GM w 0 sh):=by
 have hs1:=h1.small;have hs2:=k1.small;have H1:=AD h1;have K1:=AD k1;clear h1 k1;subst hA hB;have hlt':¬(n1:Int)<m1:=by omega
 clear hlt;have HB:Hid (∀(o1 o2:Obj)(q:Nat),Below w.heap.size w (((w.alloc o1).alloc o2).drewN q)):=fun o1 o2 q=>Below.drewN ((AG.alloc AC _).alloc (by simp) _) q;go_enter func304,ntmps304
 go_wp2
 go_quiet(fail);go_wp2_with(first|(go_at_call 63;refine(Gg a1 n1 c1 sh _ (by first|exact(((AA H1).alloc _).alloc _).drewN _|exact((((AA H1).alloc _).alloc _).drewN _).drewN _)).mono ?_;rintro e w3⟨ash,csh,rfl,hcs,hO,hb3⟩;have HO:Hid (Bt w3 (w.heap.size+2) ash n1 sh):=hO.mono (by simp);have HL:Hid (Below w.heap.size w w3):=(by first|exact(AA HB _ _ _).trans (hb3.mono (by simp;omega))|exact(Below.drewN (AA HB _ _ _) _).trans (hb3.mono (by simp;omega)));clear hO hb3));go_ret2;exact⟨.inl ⟨rfl,_,_,_,rfl,AA HO⟩,AA HL⟩
def Zx(c d:Bool)(a1 a2 b1 b2:Option Addr)(n1 n2 m1 m2 c1 c2 d1 d2:Nat)(sh sh':List Int)(w:World)(h1:AO w a1 n1 sh)(k1:AO w b1 m1 sh')(_hn2:n2<=17592186044416)(_hm2:m2<=17592186044416)(hA:n2≠1)(hB:m2=1):Calls prog 304 #[.agg #[.bool c,.slice a1 n1 c1,.slice a2 n2 c2],.agg #[.bool d,.slice b1 m1 d1,.slice b2 m2 d2]] w (GM w 0 sh):=by
 have hs1:=h1.small;have hs2:=k1.small;have H1:=AD h1;have K1:=AD k1;clear h1 k1;subst hB;have qa:((n2:Int)==1)=false:=by simp;omega
 have HB:Hid (∀(o1 o2:Obj)(q:Nat),Below w.heap.size w (((w.alloc o1).alloc o2).drewN q)):=fun o1 o2 q=>Below.drewN ((AG.alloc AC _).alloc (by simp) _) q;go_enter func304,ntmps304
 go_wp2
 go_quiet(fail);go_wp2_with(first|(go_at_call 63;refine(Gg a1 n1 c1 sh _ (by first|exact(((AA H1).alloc _).alloc _).drewN _|exact((((AA H1).alloc _).alloc _).drewN _).drewN _)).mono ?_;rintro e w3⟨ash,csh,rfl,hcs,hO,hb3⟩;have HO:Hid (Bt w3 (w.heap.size+2) ash n1 sh):=hO.mono (by simp);have HL:Hid (Below w.heap.size w w3):=(by first|exact(AA HB _ _ _).trans (hb3.mono (by simp;omega))|exact(Below.drewN (AA HB _ _ _) _).trans (hb3.mono (by simp;omega)));clear hO hb3));go_ret2;exact⟨.inl ⟨rfl,_,_,_,rfl,AA HO⟩,AA HL⟩
def Zw(c d:Bool)(a1 a2 b1 b2:Option Addr)(n1 n2 m1 m2 c1 c2 d1 d2:Nat)(sh sh':List Int)(w:World)(h1:AO w a1 n1 sh)(k1:AO w b1 m1 sh')(_hn2:n2<=17592186044416)(_hm2:m2<=17592186044416)(hA:n2≠1)(hB:m2≠1)(hn:n1≠m1):Calls prog 304 #[.agg #[.bool c,.slice a1 n1 c1,.slice a2 n2 c2],.agg #[.bool d,.slice b1 m1 d1,.slice b2 m2 d2]] w (GM w 4 sh):=by
 have hs1:=h1.small;have hs2:=k1.small;have H1:=AD h1;have K1:=AD k1;clear h1 k1;have qa:((n2:Int)==1)=false:=by simp;omega
 have qb:((m2:Int)==1)=false:=by simp;omega
 have qn:((n1:Int) !=(m1:Int))=true:=by simp;omega
 have HB:Hid (∀(o1 o2:Obj)(q:Nat),Below w.heap.size w (((w.alloc o1).alloc o2).drewN q)):=fun o1 o2 q=>Below.drewN ((AG.alloc AC _).alloc (by simp) _) q;go_enter func304,ntmps304
 go_wp2
 go_quiet(fail)
 go_wp2
 go_ret2;exact⟨.inr ⟨by decide,rfl⟩,by first|exact AA HB _ _ _|exact Below.drewN (AA HB _ _ _) _⟩
def Zv(c d:Bool)(a1 a2 b1 b2:Option Addr)(n1 n2 m1 m2 c1 c2 d1 d2:Nat)(sh sh':List Int)(w:World)(h1:AO w a1 n1 sh)(k1:AO w b1 m1 sh')(_hn2:n2<=17592186044416)(_hm2:m2<=17592186044416)(hA:n2≠1)(hB:m2≠1)(hn:n1=m1)(hs:sh≠sh'):Calls prog 304 #[.agg #[.bool c,.slice a1 n1 c1,.slice a2 n2 c2],.agg #[.bool d,.slice b1 m1 d1,.slice b2 m2 d2]] w (GM w 5 sh):=by
 have hs1:=h1.small;have hs2:=k1.small;have H1:=AD h1;have K1:=AD k1;clear h1 k1;have qa:((n2:Int)==1)=false:=by simp;omega
 have qb:((m2:Int)==1)=false:=by simp;omega
 subst hn;have qn:((n1:Int) !=(n1:Int))=false:=by simp
 have HQ:Hid (decide (sh=sh')=false):=AK hs;clear hs;have HB:Hid (∀(o1 o2:Obj)(q:Nat),Below w.heap.size w (((w.alloc o1).alloc o2).drewN q)):=fun o1 o2 q=>Below.drewN ((AG.alloc AC _).alloc (by simp) _) q;go_enter func304,ntmps304
 go_wp2
 go_quiet(fail);go_wp2_with(first|(go_at_call 324;refine(Kf a1 b1 _ _ _ _ sh sh' _ (((AA H1).alloc _).alloc _|>.drewN _) (((AA K1).alloc _).alloc _|>.drewN _)).mono ?_;rintro e w2⟨rfl,q',rfl⟩;rw[AA HQ]));go_ret2;exact⟨.inr ⟨by decide,rfl⟩,by first|exact AA HB _ _ _|exact Below.drewN (AA HB _ _ _) _⟩
def Zu(c d:Bool)(a1 a2 b1 b2:Option Addr)(n1 n2 m1 m2 c1 c2 d1 d2:Nat)(sh sh':List Int)(w:World)(h1:AO w a1 n1 sh)(k1:AO w b1 m1 sh')(_hn2:n2<=17592186044416)(_hm2:m2<=17592186044416)(hA:n2≠1)(hB:m2≠1)(hn:n1=m1)(hs:sh=sh'):Calls prog 304 #[.agg #[.bool c,.slice a1 n1 c1,.slice a2 n2 c2],.agg #[.bool d,.slice b1 m1 d1,.slice b2 m2 d2]] w (GM w 0 sh):=by
 have hs1:=h1.small;have hs2:=k1.small;have H1:=AD h1;have K1:=AD k1;clear h1 k1;have qa:((n2:Int)==1)=false:=by simp;omega
 have qb:((m2:Int)==1)=false:=by simp;omega
 subst hn;have qn:((n1:Int) !=(n1:Int))=false:=by simp
 have HQ:Hid (decide (sh=sh')=true):=AL hs;clear hs;have HB:Hid (∀(o1 o2:Obj)(q:Nat),Below w.heap.size w (((w.alloc o1).alloc o2).drewN q)):=fun o1 o2 q=>Below.drewN ((AG.alloc AC _).alloc (by simp) _) q;go_enter func304,ntmps304
 go_wp2
 go_quiet(fail);go_wp2_with(first|(go_at_call 324;refine(Kf a1 b1 _ _ _ _ sh sh' _ (((AA H1).alloc _).alloc _|>.drewN _) (((AA K1).alloc _).alloc _|>.drewN _)).mono ?_;rintro e w2⟨rfl,q',rfl⟩;rw[AA HQ])|(go_at_call 63;refine(Gg a1 n1 c1 sh _ (by first|exact(((AA H1).alloc _).alloc _).drewN _|exact((((AA H1).alloc _).alloc _).drewN _).drewN _)).mono ?_;rintro e w3⟨ash,csh,rfl,hcs,hO,hb3⟩;have HO:Hid (Bt w3 (w.heap.size+2) ash n1 sh):=hO.mono (by simp);have HL:Hid (Below w.heap.size w w3):=(by first|exact(AA HB _ _ _).trans (hb3.mono (by simp;omega))|exact(Below.drewN (AA HB _ _ _) _).trans (hb3.mono (by simp;omega)));clear hO hb3));go_ret2;exact⟨.inl ⟨rfl,_,_,_,rfl,AA HO⟩,AA HL⟩
def BT(n1 n2 m1 m2:Nat)(sh sh':List Int):Int:=if Cb n1 n2 m1 m2=true\/m2=1 then 0 else if n1≠m1 then 4 else if sh≠sh' then 5 else 0
def Ba(n1 n2 m1 m2:Nat)(sh sh':List Int):List Int:=if Cb n1 n2 m1 m2=true then sh' else sh
def DR(c d:Bool)(a1 a2 b1 b2:Option Addr)(n1 n2 m1 m2 c1 c2 d1 d2:Nat)(sh sh':List Int)(w:World)(h1:AO w a1 n1 sh)(k1:AO w b1 m1 sh')(hn2:n2<=17592186044416)(hm2:m2<=17592186044416):Calls prog 304 #[.agg #[.bool c,.slice a1 n1 c1,.slice a2 n2 c2],.agg #[.bool d,.slice b1 m1 d1,.slice b2 m2 d2]] w (GM w (BT n1 n2 m1 m2 sh sh') (Ba n1 n2 m1 m2 sh sh')):=by
 by_cases hA:n2=1
 .by_cases hB:m2=1
  .by_cases hlt:n1<m1
   .have e:Cb n1 n2 m1 m2=true:=by simp[Cb,hA,hlt]
    have e1:BT n1 n2 m1 m2 sh sh'=0:=by unfold BT;rw[AI (.inl e)]
    have e2:Ba n1 n2 m1 m2 sh sh'=sh':=by unfold Ba;rw[AI e]
    rw[e1,e2];exact Zz c d a1 a2 b1 b2 n1 n2 m1 m2 c1 c2 d1 d2 sh sh' w h1 k1 hn2 hm2 hA hB hlt
   .have e:Cb n1 n2 m1 m2=false:=by simp[Cb,hA,hB];omega
    have e1:BT n1 n2 m1 m2 sh sh'=0:=by unfold BT;rw[AI (.inr hB)]
    have e2:Ba n1 n2 m1 m2 sh sh'=sh:=by unfold Ba;rw[AH (by rw[e];simp)]
    rw[e1,e2];exact Zy c d a1 a2 b1 b2 n1 n2 m1 m2 c1 c2 d1 d2 sh sh' w h1 k1 hn2 hm2 hA hB hlt
  .have e:Cb n1 n2 m1 m2=true:=by simp[Cb,hA,hB]
   have e1:BT n1 n2 m1 m2 sh sh'=0:=by unfold BT;rw[AI (.inl e)]
   have e2:Ba n1 n2 m1 m2 sh sh'=sh':=by unfold Ba;rw[AI e]
   rw[e1,e2];exact Z0 c d a1 a2 b1 b2 n1 n2 m1 m2 c1 c2 d1 d2 sh sh' w h1 k1 hn2 hm2 hA hB
 .have e:Cb n1 n2 m1 m2=false:=by simp[Cb,hA]
  have e2:Ba n1 n2 m1 m2 sh sh'=sh:=by unfold Ba;rw[AH (by rw[e];simp)]
  rw[e2];by_cases hB:m2=1
  .have e1:BT n1 n2 m1 m2 sh sh'=0:=by unfold BT;rw[AI (.inr hB)]
   rw[e1];exact Zx c d a1 a2 b1 b2 n1 n2 m1 m2 c1 c2 d1 d2 sh sh' w h1 k1 hn2 hm2 hA hB
  .by_cases hn:n1=m1
   .by_cases hs:sh=sh'
    .have e1:BT n1 n2 m1 m2 sh sh'=0:=by unfold BT;rw[AH (by rw[e];simp[hB]),AH (by simp[hn]),AH (by simp[hs])]
     rw[e1];exact Zu c d a1 a2 b1 b2 n1 n2 m1 m2 c1 c2 d1 d2 sh sh' w h1 k1 hn2 hm2 hA hB hn hs
    .have e1:BT n1 n2 m1 m2 sh sh'=5:=by unfold BT;rw[AH (by rw[e];simp[hB]),AH (by simp[hn]),AI hs]
     rw[e1];exact Zv c d a1 a2 b1 b2 n1 n2 m1 m2 c1 c2 d1 d2 sh sh' w h1 k1 hn2 hm2 hA hB hn hs
   .have e1:BT n1 n2 m1 m2 sh sh'=4:=by unfold BT;rw[AH (by rw[e];simp[hB]),AI hn]
    rw[e1];exact Zw c d a1 a2 b1 b2 n1 n2 m1 m2 c1 c2 d1 d2 sh sh' w h1 k1 hn2 hm2 hA hB hn
end
def Kw(c ch:Bool)(v1:Value)(a2:Option Addr)(n2 c2:Nat)(dt:List Int)(v:Int)(w:World)(h2:AO w a2 n2 dt):Calls prog 193 #[.agg #[.bool c,v1,.slice a2 n2 c2],.int .i64 v,.bool ch] w fun e w'=>e=.returned (.int .i64 (CM c dt v ch))/\Below w.heap.size w w':=by
 have Bq:=AD h2.len;have hsm:=h2.small;have H2:=AD h2;clear h2;have hW:∀o,Below w.heap.size w (w.alloc o):=fun o=>AG.alloc AC _;by_cases hc:c=ch
 .subst hc;have HF:Hid (CM c dt v c=dt.findIdx (fun x=>decide (x=v))):=by show _=_;unfold CM;rw[AI rfl]
  cases c;all_goals
   go_enter func193,ntmps193
   go_wp2
   go_loop [7] (fun i=>∃k:Nat,k<=n2/\i=.int .i64 k/\Hid (∀j,j<k->dt.getD j 0≠v)) (fun i=>n2- (intOf i).toNat)
   case atStart=>exact⟨0,AS _,rfl,fun j hj=>absurd hj (ET _)⟩
   case round=>
    obtain⟨k,hk,rfl,hne⟩:=hrel;by_cases hlt:k<n2
    .obtain⟨b,off,rfl,hblt,hc⟩:=(AA H2).get hlt;obtain⟨x,hx⟩:∃x,x=dt.getD k 0:=⟨_,rfl⟩
     rw[<-hx]at hc;by_cases hxv:x=v
     .have hb:(x !=v)=false:=by simp[hxv]
      have HE:Hid (dt.findIdx (fun x=>decide (x=v))=k):=Mq (AA hne) (by rw[AA Bq];exact hlt) (by rw[<-hx];exact hxv);clear hxv hx
      go_wp2
      go_ret;exact⟨BM (by rw[AA HF,AA HE]),hW _⟩
     .have hb:(x !=v)=true:=by simp[hxv]
      have HN:Hid (∀j,j<k+1->dt.getD j 0≠v):=by
       intro j hj;by_cases e:j=k
       .rw[e,<-hx];exact hxv
       .exact AA hne j (by omega)
      clear hxv hx
      go_wp2
      go_round
      case rel=>exact⟨k+1,by omega,by go_num,HN⟩
      case measure=>simp[intOf];omega
    .have hkn:k=n2:=by omega
     subst hkn;have HE:Hid (dt.findIdx (fun x=>decide (x=v))=k):=by show _=_;rw[Mo (by rw[AA Bq];exact AA hne)];exact AA Bq
     go_wp2
     go_ret;exact⟨BM (by rw[AA HF,AA HE]),hW _⟩
 .have HF:Hid (CM c dt v ch=n2):=by show _=_;unfold CM;rw[AH hc];exact AA Bq
  have hcd:(c=true/\ch=false)\/(c=false/\ch=true):=by cases c<;>cases ch<;>simp_all
  clear hc;rcases hcd with⟨rfl,rfl⟩|⟨rfl,rfl⟩;all_goals
   go_enter func193,ntmps193
   go_wp2
   go_loop [7] (fun i=>∃k:Nat,k<=n2/\i=.int .i64 k) (fun i=>n2- (intOf i).toNat)
   case atStart=>exact⟨0,AS _,rfl⟩
   case round=>
    obtain⟨k,hk,rfl⟩:=hrel;by_cases hlt:k<n2
    .go_wp2
     go_round
     case rel=>exact⟨k+1,by omega,by go_num⟩
     case measure=>simp[intOf];omega
    .have hkn:k=n2:=by omega
     subst hkn
     go_wp2
     go_ret;exact⟨BM (by rw[AA HF]),hW _⟩
def cH:Array Oper:= #[{dst:=some 29,op:=Op.fieldAddr 25 (Operand.tmp 6) 2,type:=0,pos:= "l6_prim.go:94",after:= #[],guard:=none},{dst:=some 30,op:=Op.load 23 (Operand.tmp 29),type:=23,pos:= "l6_prim.go:94",after:= #[{on:=0,ground:=Ground.data}],guard:=none},{dst:=some 31,op:=Op.load 25 (Operand.tmp 3),type:=25,pos:= "l6_prim.go:94",after:= #[],guard:=none},{dst:=some 32,op:=Op.fieldAddr 25 (Operand.tmp 2) 2,type:=0,pos:= "l6_prim.go:94",after:= #[],guard:=none},{dst:=some 33,op:=Op.load 23 (Operand.tmp 32),type:=23,pos:= "l6_prim.go:94",after:= #[{on:=3,ground:=Ground.data}],guard:=none},{dst:=some 34,op:=Op.move (Operand.tmp 7),type:=3,pos:= "l6_prim.go:94",after:= #[],guard:=none},{dst:=some 35,op:=Op.indexAddr 23 (Operand.tmp 33) (Operand.tmp 34),type:=0,pos:= "l6_prim.go:94",after:= #[{on:=4,ground:=Ground.data},{on:=5,ground:=Ground.data}],guard:=none},{dst:=some 36,op:=Op.load 3 (Operand.tmp 35),type:=3,pos:= "l6_prim.go:94",after:= #[{on:=6,ground:=Ground.data}],guard:=none},{dst:=some 37,op:=Op.fieldAddr 25 (Operand.tmp 2) 0,type:=0,pos:= "l6_prim.go:94",after:= #[],guard:=none},{dst:=some 38,op:=Op.load 4 (Operand.tmp 37),type:=4,pos:= "l6_prim.go:94",after:= #[{on:=8,ground:=Ground.data}],guard:=none},{dst:=some 39,op:=Op.call {callee:=Callee.value (Operand.func 193),args:= #[Operand.tmp 31,Operand.tmp 36,Operand.tmp 38],argTypes:= #[25,3,4]},type:=3,pos:= "l6_prim.go:94",after:= #[{on:=2,ground:=Ground.data},{on:=7,ground:=Ground.data},{on:=9,ground:=Ground.data}],guard:=none},{dst:=some 40,op:=Op.fieldAddr 25 (Operand.tmp 3) 2,type:=0,pos:= "l6_prim.go:94",after:= #[],guard:=none},{dst:=some 41,op:=Op.load 23 (Operand.tmp 40),type:=23,pos:= "l6_prim.go:94",after:= #[{on:=11,ground:=Ground.data}],guard:=none},{dst:=some 42,op:=Op.call {callee:=Callee.builtin Builtin.len,args:= #[Operand.tmp 41],argTypes:= #[23]},type:=3,pos:= "l6_prim.go:94",after:= #[{on:=12,ground:=Ground.data}],guard:=none},{dst:=some 43,op:=Op.binOp BinOp.lss 3 (Operand.tmp 39) (Operand.tmp 42) 3,type:=4,pos:= "l6_prim.go:94",after:= #[{on:=10,ground:=Ground.data},{on:=13,ground:=Ground.data}],guard:=none},{dst:=some 44,op:=Op.call {callee:=Callee.value (Operand.func 200),args:= #[Operand.tmp 43],argTypes:= #[4]},type:=3,pos:= "l6_prim.go:94",after:= #[{on:=14,ground:=Ground.data},{on:=10,ground:=Ground.chain}],guard:=none},{dst:=some 45,op:=Op.buildSlice 23 1 #[(0,Operand.tmp 44)],type:=23,pos:= "l6_prim.go:94",after:= #[{on:=15,ground:=Ground.data}],guard:=none},{dst:=some 46,op:=Op.call {callee:=Callee.builtin Builtin.append,args:= #[Operand.tmp 30,Operand.tmp 45],argTypes:= #[23,23]},type:=23,pos:= "l6_prim.go:94",after:= #[{on:=1,ground:=Ground.data},{on:=16,ground:=Ground.data},{on:=15,ground:=Ground.chain}],guard:=none},{dst:=some 47,op:=Op.fieldAddr 25 (Operand.tmp 6) 2,type:=0,pos:= "l6_prim.go:94",after:= #[{on:=0,ground:=Ground.phase},{on:=1,ground:=Ground.phase},{on:=2,ground:=Ground.phase},{on:=3,ground:=Ground.phase},{on:=4,ground:=Ground.phase},{on:=5,ground:=Ground.phase},{on:=6,ground:=Ground.phase},{on:=7,ground:=Ground.phase},{on:=8,ground:=Ground.phase},{on:=9,ground:=Ground.phase},{on:=10,ground:=Ground.phase},{on:=11,ground:=Ground.phase},{on:=12,ground:=Ground.phase},{on:=13,ground:=Ground.phase},{on:=14,ground:=Ground.phase},{on:=15,ground:=Ground.phase},{on:=16,ground:=Ground.phase},{on:=17,ground:=Ground.phase}],guard:=none},{dst:=none,op:=Op.store 23 (Operand.tmp 47) (Operand.tmp 46),type:=0,pos:= "l6_prim.go:94",after:= #[{on:=18,ground:=Ground.data},{on:=17,ground:=Ground.data},{on:=17,ground:=Ground.chain},{on:=0,ground:=Ground.phase},{on:=1,ground:=Ground.phase},{on:=2,ground:=Ground.phase},{on:=3,ground:=Ground.phase},{on:=4,ground:=Ground.phase},{on:=5,ground:=Ground.phase},{on:=6,ground:=Ground.phase},{on:=7,ground:=Ground.phase},{on:=8,ground:=Ground.phase},{on:=9,ground:=Ground.phase},{on:=10,ground:=Ground.phase},{on:=11,ground:=Ground.phase},{on:=12,ground:=Ground.phase},{on:=13,ground:=Ground.phase},{on:=14,ground:=Ground.phase},{on:=15,ground:=Ground.phase},{on:=16,ground:=Ground.phase},{on:=17,ground:=Ground.phase}],guard:=none}]
section
variable {o:Oper}{a:Act}
def mF(x:Operand)(b k:Nat)(hk:k=2)(ho:o.op=.fieldAddr 25 x k)(hx:a.eval x=.pointer (some ⟨b,0,none⟩))(w:World):(execOp a.eval o).run prog w=.ok (.value (.pointer (some ⟨b,k,none⟩))) w:=by
 subst hk;unfold execOp;simp only[ho,hx]
 go_simp
def cw(x:Operand)(b:Nat)(ho:o.op=.fieldAddr 25 x 0)(hx:a.eval x=.pointer (some ⟨b,0,none⟩))(w:World):(execOp a.eval o).run prog w=.ok (.value (.pointer (some ⟨b,0,none⟩))) w:=by
 unfold execOp;simp only[ho,hx]
 go_simp
def mL(x:Operand)(p:Addr){s:Option Addr}{l c:Nat}(ho:o.op=.load 23 x)(hx:a.eval x=.pointer (some p))(w:World)(hc:w.cell? p=some (.slice s l c)):(execOp a.eval o).run prog w=.ok (.value (.slice s l c)) w:=by
 unfold execOp;simp only[ho,hx]
 go_simp
def mB(x:Operand)(p:Addr){z:Bool}(ho:o.op=.load 4 x)(hx:a.eval x=.pointer (some p))(w:World)(hc:w.cell? p=some (.bool z)):(execOp a.eval o).run prog w=.ok (.value (.bool z)) w:=by
 unfold execOp;simp only[ho,hx]
 go_simp
def mA(x:Operand)(p:Nat){z:Bool}{s1 s2:Option Addr}{l1 e1 l2 e2:Nat}(ho:o.op=.load 25 x)(hx:a.eval x=.pointer (some ⟨p,0,none⟩))(w:World)(c0:w.cell? ⟨p,0,none⟩=some (.bool z))(c1:w.cell? ⟨p,1,none⟩=some (.slice s1 l1 e1))(c2:w.cell? ⟨p,2,none⟩=some (.slice s2 l2 e2)):(execOp a.eval o).run prog w=.ok (.value (.agg #[.bool z,.slice s1 l1 e1,.slice s2 l2 e2])) w:=by
 unfold execOp;simp only[ho,hx]
 go_simp
def mI(x:Operand)(p:Addr){z:Int}(ho:o.op=.load 3 x)(hx:a.eval x=.pointer (some p))(w:World)(hc:w.cell? p=some (.int .i64 z)):(execOp a.eval o).run prog w=.ok (.value (.int .i64 z)) w:=by
 unfold execOp;simp only[ho,hx]
 go_simp
def mM(x:Operand){v:Value}(ho:o.op=.move x)(hx:a.eval x=v)(w:World):(execOp a.eval o).run prog w=.ok (.value v) w:=by
 unfold execOp;simp only[ho,hx]
 go_simp
def mN(t:Nat){s:Option Addr}{l c:Nat}(ho:o.op=.call {callee:=.builtin .len,args:= #[.tmp t],argTypes:= #[23]})(hx:a.eval (.tmp t)=.slice s l c)(w:World):(execOp a.eval o).run prog w=.ok (.value (.int .i64 (l:Nat))) w:=by
 have hx':a.tmps[t]?.getD undef=.slice s l c:=by simpa[Act.eval]using hx
 unfold execOp;simp only[ho]
 go_simp
def cu(x y:Operand){u v:Nat}{r:Bool}(ho:o.op=.binOp .lss 3 x y 3)(hx:a.eval x=.int .i64 (u:Nat))(hy:a.eval y=.int .i64 (v:Nat))(hr:decide (u<v)=r)(w:World):(execOp a.eval o).run prog w=.ok (.value (.bool r)) w:=by
 unfold execOp;simp only[ho,hx,hy]
 go_simp
def mX(x y:Operand){b off m c J:Nat}(ho:o.op=.indexAddr 23 x y)(hx:a.eval x=.slice (some ⟨b,off,none⟩) m c)(hy:a.eval y=.int .i64 (J:Nat))(hJ:J<m)(w:World):(execOp a.eval o).run prog w=.ok (.value (.pointer (some ⟨b,off+J,none⟩))) w:=by
 have h1:(J:Int)<(m:Int):=by omega
 unfold execOp;simp only[ho,hx,hy]
 go_simp
def ct(t:Nat){z:Int}(ho:o.op=.buildSlice 23 1 #[(0,.tmp t)])(hx:a.eval (.tmp t)=.int .i64 z)(w:World):(execOp a.eval o).run prog w=.ok (.value (.slice (some ⟨w.heap.size,0,none⟩) 1 1)) (w.alloc (.cells #[.int .i64 z] 3)):=by
 have hx':a.tmps[t]?.getD undef=.int .i64 z:=by simpa[Act.eval]using hx
 unfold execOp;simp only[ho]
 go_simp
def cq(x y:Operand)(p:Nat){v1:Value}{s:Option Addr}{l c:Nat}(ho:o.op=.store 23 x y)(hx:a.eval x=.pointer (some ⟨p,2,none⟩))(hy:a.eval y=.slice s l c)(w:World)(hc:w.cell? ⟨p,2,none⟩=some v1)(hf:w.frozen? ⟨p,2,none⟩=false):(execOp a.eval o).run prog w=.ok .skip (w.setCell ⟨p,2,none⟩ (.slice s l c)):=by
 unfold execOp;simp only[ho,hx,hy]
 go_simp
end
def Zr{K:Act->World->Prop}{Q:Exit->Act->World->Prop}{o:Oper}{a:Act}{w:World}(x y z:Nat){u v s:Value}(ho:o.op=.call {callee:=.value (.func 193),args:= #[.tmp x,.tmp y,.tmp z],argTypes:= #[25,3,4]})(hx:a.eval (.tmp x)=u)(hy:a.eval (.tmp y)=v)(hz:a.eval (.tmp z)=s)(h:Calls prog 193 #[u,v,s] w fun|.returned r,w'=>K (a.put o.dst r) w'|.panicked c,w'=>Q (.panic c) a w'|.outgrown,_=>LetsOut Q):o.wp prog a w K Q:=by
 have hx':a.tmps[x]?.getD undef=u:=by simpa[Act.eval]using hx
 have hy':a.tmps[y]?.getD undef=v:=by simpa[Act.eval]using hy
 have hz':a.tmps[z]?.getD undef=s:=by simpa[Act.eval]using hz
 have e:(execOp a.eval o).run prog w=.ok (.enter 193 #[u,v,s]) w:=by
  unfold execOp;simp only[ho]
  go_simp
 unfold Oper.wp;rw[e];exact h
def Zs{K:Act->World->Prop}{Q:Exit->Act->World->Prop}{o:Oper}{a:Act}{w:World}(x:Nat){u:Value}(ho:o.op=.call {callee:=.value (.func 200),args:= #[.tmp x],argTypes:= #[4]})(hx:a.eval (.tmp x)=u)(h:Calls prog 200 #[u] w fun|.returned r,w'=>K (a.put o.dst r) w'|.panicked c,w'=>Q (.panic c) a w'|.outgrown,_=>LetsOut Q):o.wp prog a w K Q:=by
 have hx':a.tmps[x]?.getD undef=u:=by simpa[Act.eval]using hx
 have e:(execOp a.eval o).run prog w=.ok (.enter 200 #[u]) w:=by
  unfold execOp;simp only[ho]
  go_simp
 unfold Oper.wp;rw[e];exact h
def Za(a:Act)(p pa pb:Nat)(c d:Bool)(b1 b2:Option Addr)(g P cap bd od n2 c2 m1 d1 m2 d2:Nat)(x:Int)(q:Nat)(r:Bool)(hb:Nat)(v':Value):Act:=(((((((((((((((((((a.put (some 29) (.pointer (some ⟨p,2,none⟩))).put (some 30) (.slice (some ⟨g,0,none⟩) P cap)).put (some 31) (.agg #[.bool d,.slice b1 m1 d1,.slice b2 m2 d2])).put (some 32) (.pointer (some ⟨pa,2,none⟩))).put (some 33) (.slice (some ⟨bd,od,none⟩) n2 c2)).put (some 34) (.int .i64 (P:Nat))).put (some 35) (.pointer (some ⟨bd,od+P,none⟩))).put (some 36) (.int .i64 x)).put (some 37) (.pointer (some ⟨pa,0,none⟩))).put (some 38) (.bool c)).put (some 40) (.pointer (some ⟨pb,2,none⟩))).put (some 41) (.slice b2 m2 d2)).put (some 42) (.int .i64 (m2:Nat))).put (some 39) (.int .i64 (q:Nat))).put (some 43) (.bool r)).put (some 44) (.int .i64 (Bh r))).put (some 45) (.slice (some ⟨hb,0,none⟩) 1 1)).put (some 46) (v')).put (some 47) (.pointer (some ⟨p,2,none⟩))).put none undef
def YQ{Q:Exit->Act->World->Prop}(a:Act)(W:World)(hsz:49<=a.tmps.size)(p pa pb:Nat)(h6:a.eval (.tmp 6)=.pointer (some ⟨p,0,none⟩))(h2:a.eval (.tmp 2)=.pointer (some ⟨pa,0,none⟩))(h3:a.eval (.tmp 3)=.pointer (some ⟨pb,0,none⟩))(c d:Bool)(b1 b2:Option Addr)(g P cap bd od n2 c2 m1 d1 m2 d2:Nat)(h7:a.eval (.tmp 7)=.int .i64 (P:Nat))(xs:List Value)(x:Int)(base q:Nat)(r:Bool)(hr:decide (q<m2)=r)(hP:P<n2)(hPb:P<=1000000)(S:World->Prop)(hS:∀wx,S wx->wx.cell? ⟨p,2,none⟩=some (.slice (some ⟨g,0,none⟩) P cap)/\wx.frozen? ⟨p,2,none⟩=false/\wx.cell? ⟨pb,0,none⟩=some (.bool d)/\wx.cell? ⟨pb,1,none⟩=some (.slice b1 m1 d1)/\wx.cell? ⟨pb,2,none⟩=some (.slice b2 m2 d2)/\wx.cell? ⟨pa,2,none⟩=some (.slice (some ⟨bd,od,none⟩) n2 c2)/\wx.cell? ⟨pa,0,none⟩=some (.bool c)/\wx.cell? ⟨bd,od+P,none⟩=some (.int .i64 x))(HK:∀wx,Below W.heap.size W wx->S wx)(HC:∀wx,Below W.heap.size W wx->Calls prog 193 #[.agg #[.bool d,.slice b1 m1 d1,.slice b2 m2 d2],.int .i64 x,.bool c] wx fun e w'=>e=.returned (.int .i64 (q:Nat))/\Below wx.heap.size wx w')(BJ:W.ownsRow base 3 1 (.slice (some ⟨g,0,none⟩) P cap) P xs)(hbase:base<=W.heap.size)(HA:∀wx w7,Below W.heap.size W wx->(wx.alloc (.cells #[.int .i64 (Bh r)] 3)).grownBy w7 (some g)->S w7)(hQ:∀c a(d:Nat)v w,Q (.panic c) (a.put (some d) v) w->Q (.panic c) a w)(hend:∀wx g' Ak w7,Below W.heap.size W wx->w7.ownsRow base 3 1 (.slice (some ⟨g',0,none⟩) (P+1) Ak) (P+1) (xs++ [.int .i64 (Bh r)])->(wx.alloc (.cells #[.int .i64 (Bh r)] 3)).grownBy w7 (Value.ownBlock (.slice (some ⟨g,0,none⟩) P cap))->(Value.ownBlock (.slice (some ⟨g,0,none⟩) P cap)=some g'\/g'=wx.heap.size+1)->Q .normal (Za a p pa pb c d b1 b2 g P cap bd od n2 c2 m1 d1 m2 d2 x q r wx.heap.size (.slice (some ⟨g',0,none⟩) (P+1) Ak)) (w7.setCell ⟨p,2,none⟩ (.slice (some ⟨g',0,none⟩) (P+1) Ak))):(Code.region 7 cH true).wp prog Q a W:=by
 have hb0:Below W.heap.size W {W with drawn:=W.drawn+1}:=AG.drew;have hS0:=HK _ hb0;obtain⟨i0,hi,hz0,hz1,hz2⟩:=info_parts A6;refine FL S 19 (by kernel_rfl) ?_;show CN _ _ _ _ _ _ (19+1) _ _ _;refine AQ 0 29 (.pointer (some ⟨p,2,none⟩)) rfl rfl (by kernel_rfl) (by kernel_rfl) (by kernel_rfl) (by kernel_rfl) hQ rfl (fun w hw=>mF (.tmp 6) p 2 (by omega) rfl h6 w) hS0 ?_;refine AQ 1 30 (.slice (some ⟨g,0,none⟩) P cap) rfl rfl (by kernel_rfl) (by kernel_rfl) (by kernel_rfl) (by kernel_rfl) hQ rfl (fun w hw=>mL (.tmp 29) _ rfl (Ad (by omega)) w (hS w hw).1) hS0 ?_;refine AQ 2 31 (.agg #[.bool d,.slice b1 m1 d1,.slice b2 m2 d2]) rfl rfl (by kernel_rfl) (by kernel_rfl) (by kernel_rfl) (by kernel_rfl) hQ rfl (fun w hw=>mA (.tmp 3) pb rfl (by rw[AF (by decide),AF (by decide)];exact h3) w (hS w hw).2.2.1 (hS w hw).2.2.2.1 (hS w hw).2.2.2.2.1) hS0 ?_;refine AQ 3 32 (.pointer (some ⟨pa,2,none⟩)) rfl rfl (by kernel_rfl) (by kernel_rfl) (by kernel_rfl) (by kernel_rfl) hQ rfl (fun w hw=>mF (.tmp 2) pa 2 (by omega) rfl (by rw[AF (by decide),AF (by decide),AF (by decide)];exact h2) w) hS0 ?_;refine AQ 4 33 (.slice (some ⟨bd,od,none⟩) n2 c2) rfl rfl (by kernel_rfl) (by kernel_rfl) (by kernel_rfl) (by kernel_rfl) hQ rfl (fun w hw=>mL (.tmp 32) _ rfl (Ad (by rw[AE,AE,AE];omega)) w (hS w hw).2.2.2.2.2.1) hS0 ?_;refine AQ 5 34 (.int .i64 (P:Nat)) rfl rfl (by kernel_rfl) (by kernel_rfl) (by kernel_rfl) (by kernel_rfl) hQ rfl (fun w hw=>mM (.tmp 7) rfl (by rw[AF (by decide),AF (by decide),AF (by decide),AF (by decide),AF (by decide)];exact h7) w) hS0 ?_;refine AQ 6 35 (.pointer (some ⟨bd,od+P,none⟩)) rfl rfl (by kernel_rfl) (by kernel_rfl) (by kernel_rfl) (by kernel_rfl) hQ rfl (fun w hw=>mX (.tmp 33) (.tmp 34) rfl (by rw[AF (by decide)];exact Ad (by rw[AE,AE,AE,AE];omega)) (Ad (by rw[AE,AE,AE,AE,AE];omega)) hP w) hS0 ?_;refine AQ 7 36 (.int .i64 x) rfl rfl (by kernel_rfl) (by kernel_rfl) (by kernel_rfl) (by kernel_rfl) hQ rfl (fun w hw=>mI (.tmp 35) _ rfl (Ad (by rw[AE,AE,AE,AE,AE,AE];omega)) w (hS w hw).2.2.2.2.2.2.2) hS0 ?_;refine AQ 8 37 (.pointer (some ⟨pa,0,none⟩)) rfl rfl (by kernel_rfl) (by kernel_rfl) (by kernel_rfl) (by kernel_rfl) hQ rfl (fun w hw=>cw (.tmp 2) pa rfl (by rw[AF (by decide),AF (by decide),AF (by decide),AF (by decide),AF (by decide),AF (by decide),AF (by decide),AF (by decide)];exact h2) w) hS0 ?_;refine AQ 9 38 (.bool c) rfl rfl (by kernel_rfl) (by kernel_rfl) (by kernel_rfl) (by kernel_rfl) hQ rfl (fun w hw=>mB (.tmp 37) _ rfl (Ad (by rw[AE,AE,AE,AE,AE,AE,AE,AE];omega)) w (hS w hw).2.2.2.2.2.2.1) hS0 ?_;refine AQ 11 40 (.pointer (some ⟨pb,2,none⟩)) rfl rfl (by kernel_rfl) (by kernel_rfl) (by kernel_rfl) (by kernel_rfl) hQ rfl (fun w hw=>mF (.tmp 3) pb 2 (by omega) rfl (by rw[AF (by decide),AF (by decide),AF (by decide),AF (by decide),AF (by decide),AF (by decide),AF (by decide),AF (by decide),AF (by decide),AF (by decide)];exact h3) w) hS0 ?_;refine AQ 12 41 (.slice b2 m2 d2) rfl rfl (by kernel_rfl) (by kernel_rfl) (by kernel_rfl) (by kernel_rfl) hQ rfl (fun w hw=>mL (.tmp 40) _ rfl (Ad (by rw[AE,AE,AE,AE,AE,AE,AE,AE,AE,AE];omega)) w (hS w hw).2.2.2.2.1) hS0 ?_;refine AQ 13 42 (.int .i64 (m2:Nat)) rfl rfl (by kernel_rfl) (by kernel_rfl) (by kernel_rfl) (by kernel_rfl) hQ rfl (fun w hw=>mN 41 rfl (Ad (by rw[AE,AE,AE,AE,AE,AE,AE,AE,AE,AE,AE];omega)) w) hS0 ?_;refine B9 (i:=10) (by kernel_rfl) ?_;refine FP rfl rfl ?_;have q1:(((((((((((((a.put (some 29) (.pointer (some ⟨p,2,none⟩))).put (some 30) (.slice (some ⟨g,0,none⟩) P cap)).put (some 31) (.agg #[.bool d,.slice b1 m1 d1,.slice b2 m2 d2])).put (some 32) (.pointer (some ⟨pa,2,none⟩))).put (some 33) (.slice (some ⟨bd,od,none⟩) n2 c2)).put (some 34) (.int .i64 (P:Nat))).put (some 35) (.pointer (some ⟨bd,od+P,none⟩))).put (some 36) (.int .i64 x)).put (some 37) (.pointer (some ⟨pa,0,none⟩))).put (some 38) (.bool c)).put (some 40) (.pointer (some ⟨pb,2,none⟩))).put (some 41) (.slice b2 m2 d2)).put (some 42) (.int .i64 (m2:Nat))).eval (.tmp 31)=.agg #[.bool d,.slice b1 m1 d1,.slice b2 m2 d2]:=(by rw[AF (by decide),AF (by decide),AF (by decide),AF (by decide),AF (by decide),AF (by decide),AF (by decide),AF (by decide),AF (by decide),AF (by decide)];exact Ad (by rw[AE,AE];omega))
 have q2:(((((((((((((a.put (some 29) (.pointer (some ⟨p,2,none⟩))).put (some 30) (.slice (some ⟨g,0,none⟩) P cap)).put (some 31) (.agg #[.bool d,.slice b1 m1 d1,.slice b2 m2 d2])).put (some 32) (.pointer (some ⟨pa,2,none⟩))).put (some 33) (.slice (some ⟨bd,od,none⟩) n2 c2)).put (some 34) (.int .i64 (P:Nat))).put (some 35) (.pointer (some ⟨bd,od+P,none⟩))).put (some 36) (.int .i64 x)).put (some 37) (.pointer (some ⟨pa,0,none⟩))).put (some 38) (.bool c)).put (some 40) (.pointer (some ⟨pb,2,none⟩))).put (some 41) (.slice b2 m2 d2)).put (some 42) (.int .i64 (m2:Nat))).eval (.tmp 36)=.int .i64 x:=(by rw[AF (by decide),AF (by decide),AF (by decide),AF (by decide),AF (by decide)];exact Ad (by rw[AE,AE,AE,AE,AE,AE,AE];omega))
 have q3:(((((((((((((a.put (some 29) (.pointer (some ⟨p,2,none⟩))).put (some 30) (.slice (some ⟨g,0,none⟩) P cap)).put (some 31) (.agg #[.bool d,.slice b1 m1 d1,.slice b2 m2 d2])).put (some 32) (.pointer (some ⟨pa,2,none⟩))).put (some 33) (.slice (some ⟨bd,od,none⟩) n2 c2)).put (some 34) (.int .i64 (P:Nat))).put (some 35) (.pointer (some ⟨bd,od+P,none⟩))).put (some 36) (.int .i64 x)).put (some 37) (.pointer (some ⟨pa,0,none⟩))).put (some 38) (.bool c)).put (some 40) (.pointer (some ⟨pb,2,none⟩))).put (some 41) (.slice b2 m2 d2)).put (some 42) (.int .i64 (m2:Nat))).eval (.tmp 38)=.bool c:=(by rw[AF (by decide),AF (by decide),AF (by decide)];exact Ad (by rw[AE,AE,AE,AE,AE,AE,AE,AE,AE];omega))
 have q4:(((((((((((((a.put (some 29) (.pointer (some ⟨p,2,none⟩))).put (some 30) (.slice (some ⟨g,0,none⟩) P cap)).put (some 31) (.agg #[.bool d,.slice b1 m1 d1,.slice b2 m2 d2])).put (some 32) (.pointer (some ⟨pa,2,none⟩))).put (some 33) (.slice (some ⟨bd,od,none⟩) n2 c2)).put (some 34) (.int .i64 (P:Nat))).put (some 35) (.pointer (some ⟨bd,od+P,none⟩))).put (some 36) (.int .i64 x)).put (some 37) (.pointer (some ⟨pa,0,none⟩))).put (some 38) (.bool c)).put (some 40) (.pointer (some ⟨pb,2,none⟩))).put (some 41) (.slice b2 m2 d2)).put (some 42) (.int .i64 (m2:Nat))).eval (.tmp 30)=.slice (some ⟨g,0,none⟩) P cap:=(by rw[AF (by decide),AF (by decide),AF (by decide),AF (by decide),AF (by decide),AF (by decide),AF (by decide),AF (by decide),AF (by decide),AF (by decide),AF (by decide)];exact Ad (by rw[AE];omega))
 have q5:(((((((((((((a.put (some 29) (.pointer (some ⟨p,2,none⟩))).put (some 30) (.slice (some ⟨g,0,none⟩) P cap)).put (some 31) (.agg #[.bool d,.slice b1 m1 d1,.slice b2 m2 d2])).put (some 32) (.pointer (some ⟨pa,2,none⟩))).put (some 33) (.slice (some ⟨bd,od,none⟩) n2 c2)).put (some 34) (.int .i64 (P:Nat))).put (some 35) (.pointer (some ⟨bd,od+P,none⟩))).put (some 36) (.int .i64 x)).put (some 37) (.pointer (some ⟨pa,0,none⟩))).put (some 38) (.bool c)).put (some 40) (.pointer (some ⟨pb,2,none⟩))).put (some 41) (.slice b2 m2 d2)).put (some 42) (.int .i64 (m2:Nat))).eval (.tmp 42)=.int .i64 (m2:Nat):=(Ad (by rw[AE,AE,AE,AE,AE,AE,AE,AE,AE,AE,AE,AE];omega))
 have q6:(((((((((((((a.put (some 29) (.pointer (some ⟨p,2,none⟩))).put (some 30) (.slice (some ⟨g,0,none⟩) P cap)).put (some 31) (.agg #[.bool d,.slice b1 m1 d1,.slice b2 m2 d2])).put (some 32) (.pointer (some ⟨pa,2,none⟩))).put (some 33) (.slice (some ⟨bd,od,none⟩) n2 c2)).put (some 34) (.int .i64 (P:Nat))).put (some 35) (.pointer (some ⟨bd,od+P,none⟩))).put (some 36) (.int .i64 x)).put (some 37) (.pointer (some ⟨pa,0,none⟩))).put (some 38) (.bool c)).put (some 40) (.pointer (some ⟨pb,2,none⟩))).put (some 41) (.slice b2 m2 d2)).put (some 42) (.int .i64 (m2:Nat))).eval (.tmp 6)=.pointer (some ⟨p,0,none⟩):=(by rw[AF (by decide),AF (by decide),AF (by decide),AF (by decide),AF (by decide),AF (by decide),AF (by decide),AF (by decide),AF (by decide),AF (by decide),AF (by decide),AF (by decide),AF (by decide)];exact h6)
 have q7:49<=(((((((((((((a.put (some 29) (.pointer (some ⟨p,2,none⟩))).put (some 30) (.slice (some ⟨g,0,none⟩) P cap)).put (some 31) (.agg #[.bool d,.slice b1 m1 d1,.slice b2 m2 d2])).put (some 32) (.pointer (some ⟨pa,2,none⟩))).put (some 33) (.slice (some ⟨bd,od,none⟩) n2 c2)).put (some 34) (.int .i64 (P:Nat))).put (some 35) (.pointer (some ⟨bd,od+P,none⟩))).put (some 36) (.int .i64 x)).put (some 37) (.pointer (some ⟨pa,0,none⟩))).put (some 38) (.bool c)).put (some 40) (.pointer (some ⟨pb,2,none⟩))).put (some 41) (.slice b2 m2 d2)).put (some 42) (.int .i64 (m2:Nat))).tmps.size:=by rw[AE,AE,AE,AE,AE,AE,AE,AE,AE,AE,AE,AE,AE];exact hsz
 unfold Za at hend;generalize (((((((((((((a.put (some 29) (.pointer (some ⟨p,2,none⟩))).put (some 30) (.slice (some ⟨g,0,none⟩) P cap)).put (some 31) (.agg #[.bool d,.slice b1 m1 d1,.slice b2 m2 d2])).put (some 32) (.pointer (some ⟨pa,2,none⟩))).put (some 33) (.slice (some ⟨bd,od,none⟩) n2 c2)).put (some 34) (.int .i64 (P:Nat))).put (some 35) (.pointer (some ⟨bd,od+P,none⟩))).put (some 36) (.int .i64 x)).put (some 37) (.pointer (some ⟨pa,0,none⟩))).put (some 38) (.bool c)).put (some 40) (.pointer (some ⟨pb,2,none⟩))).put (some 41) (.slice b2 m2 d2)).put (some 42) (.int .i64 (m2:Nat)))=A at*;refine Zr 31 36 38 rfl q1 q2 q3 ((HC _ hb0).mono ?_);rintro e w2⟨rfl,hb2⟩;have hbw:Below W.heap.size W w2:=hb0.trans hb2;have hS2:=HK _ hbw;refine⟨fun _=>hS2,?_⟩;show CN _ _ _ _ _ _ (5+1) _ (A.put (some 39) _) _;refine AQ 14 43 (.bool r) rfl rfl (by kernel_rfl) (by kernel_rfl) (by kernel_rfl) (by kernel_rfl) hQ rfl (fun w hw=>cu (.tmp 39) (.tmp 42) rfl (Ad (by omega)) (by rw[AF (by decide)];exact q5) hr w) hS2 ?_;refine B9 (i:=15) (by kernel_rfl) ?_;refine FP rfl rfl ?_;refine Zs 43 rfl (Ad (by rw[AE];omega)) ((Qg r w2).mono ?_);rintro e w3⟨rfl,rfl⟩;refine⟨fun _=>hS2,?_⟩;show CN _ _ _ _ _ _ (3+1) _ (((A.put (some 39) _).put (some 43) _).put (some 44) _) _;refine B9 (i:=16) (by kernel_rfl) ?_;refine FP rfl rfl ?_;unfold Oper.wp;rw[ct 44 rfl (Ad (by rw[AE,AE];omega)) w3];have hbx:Below W.heap.size W (w3.alloc (.cells #[.int .i64 (Bh r)] 3)):=hbw.alloc hbw.size _;refine⟨fun _=>HK _ hbx,?_⟩;show CN _ _ _ _ _ _ (2+1) _ ((((A.put (some 39) _).put (some 43) _).put (some 44) _).put (some 45) _) _;refine B9 (i:=17) (by kernel_rfl) ?_;refine FP rfl rfl ?_;refine wp_append_lies _ (.tmp 30) (.tmp 45) 23 rfl base 3 i0 (.int .i64 0) 1 8 underlying23 hi hz0 hz1 hz2 rfl (by decide) (.slice (some ⟨g,0,none⟩) P cap) P xs (by rw[AF (by decide),AF (by decide),AF (by decide),AF (by decide)];exact q4) (BN BJ AC hbx) ⟨w3.heap.size,0,none⟩ 1 1 [.int .i64 (Bh r)] (Ad (by rw[AE,AE,AE];omega)) rfl (Bp _ _) (CD _) (by omega) (by unfold maxLen;omega) (by omega) (by have:=hbw.size;simp;omega) (w3.heap.size+1) (by simp) ?_;intro g' Ak w7 hown7 An hat hlt;have hS7:=HA w3 w7 hbw An;refine⟨fun _=>hS7,?_⟩;show CN _ _ _ _ _ _ (1+1) _ (((((A.put (some 39) _).put (some 43) _).put (some 44) _).put (some 45) _).put (some 46) _) _;refine AQ 18 47 (.pointer (some ⟨p,2,none⟩)) rfl rfl (by kernel_rfl) (by kernel_rfl) (by kernel_rfl) (by kernel_rfl) hQ rfl (fun w hw=>mF (.tmp 6) p 2 (by omega) rfl (by rw[AF (by decide),AF (by decide),AF (by decide),AF (by decide),AF (by decide)];exact q6) w) hS7 ?_;refine B9 (i:=19) (by kernel_rfl) ?_;refine FP rfl rfl ?_;unfold Oper.wp;rw[cq (.tmp 47) (.tmp 46) p (s:=some ⟨g',0,none⟩) (l:=P+1) (c:=Ak) rfl (Ad (by rw[AE,AE,AE,AE,AE];omega)) (by rw[AF (by decide)];exact Ad (by rw[AE,AE,AE,AE];omega)) w7 (hS w7 hS7).1 (hS w7 hS7).2.1];refine⟨fun h=>absurd rfl h,?_⟩;refine Eh (by kernel_rfl) ?_ _;exact hend w3 g' Ak w7 hbw hown7 An hat
def PI(a b:Addr)(n m ca cb:Nat)(xs ys:List Int)(w:World)(hx:AO w (some a) n xs)(hy:AO w (some b) m ys)(hn:n<=10000)(hm:m<=10000)(r:Bool)(hr:Hid (Am (xs++ys)=r)):Calls prog 104 #[.slice (some a) n ca,.slice (some b) m cb] w fun e w'=>∃a' Ak,e=.returned (.tuple #[.slice a' (n+m) Ak,.bool r])/\Bt w' w.heap.size a' (n+m) (xs++ys)/\Below w.heap.size w w':=by
 have HX:=AD hx;have HY:=AD hy;have hly:=hy.len;clear hx hy;obtain⟨i0,hi,hz0,hz1,hz2⟩:=info_parts A6;go_enter func104,ntmps104;go_wp2_with fail;refine(FT _ _ _ xs _ (AA HX)).mono ?_;rintro e w1⟨a',Ak,rfl,ho,hb1⟩;have hs1:=hb1.size;have HB1:=AD hb1;have HY1:=AD ((AA HY).below AC hb1);clear hb1;go_wp2_with(at_builtin;refine wpList_append_own _ rfl _ _ 23 rfl w.heap.size 3 i0 (.int .i64 0) 1 8 underlying23 hi hz0 hz1 hz2 rfl (by decide) _ _ _ rfl ho b m cb (ys.map (Value.int .i64)) rfl (by simpa using hly) (Ct (AA HY1)) (DQ ys) (by unfold maxLen;omega) (by omega) (by omega) ?_;intro v1 w2 BJ An hnil;clear hnil;(have BL:w2.ownsRow w.heap.size 3 1 v1 (n+m) ((xs++ys).map (Value.int .i64)):=by rw[Bf];exact BJ);obtain⟨a2,cap2,rfl,ho2⟩:=Bt.of_owns BL (by omega);have HO2:=AD ho2;(have HB2:Hid (Below w.heap.size w w2):=(AA HB1).grown An (by omega) (by intro k hk;rcases ho.2 with⟨e,_⟩|⟨g,c',cur,e,hg,_⟩;(cases e;cases hk);(cases e;cases hk;exact hg)));clear BJ BL An ho2);refine(Db _ _ _ (xs++ys) _ (AA HO2).row r hr).mono ?_;rintro e w2⟨rfl,rfl⟩
 go_wp2
 refine bodyPost_ret (v:=.tuple #[.slice a2 (n+m) cap2,.bool r]) (by simp[results,results104,go_sem]) rfl ?_;exact⟨a2,cap2,rfl,AA HO2,AA HB2⟩
def Ql(op:Int)(w:World):Calls prog 180 #[.int .i64 op] w fun e w'=>e=.returned (.bool (GA op))/\w'=w:=by
 by_cases h1:op=9
 .have q1:(op==9)=true:=by simp[h1]
  have HE:Hid (GA op=true):=AL (.inl h1);clear h1;go_enter func180,ntmps180
  go_wp2
  go_ret;exact⟨Av HE.out.symm,rfl⟩
 .have q1:(op==9)=false:=by simp[h1]
  by_cases h2:op=10
  .have q2:(op==10)=true:=by simp[h2]
   have HE:Hid (GA op=true):=AL (.inr h2);clear h1 h2;go_enter func180,ntmps180
   go_wp2
   go_ret;exact⟨Av HE.out.symm,rfl⟩
  .have q2:(op==10)=false:=by simp[h2]
   have HE:Hid (GA op=false):=AK (by omega);clear h1 h2;go_enter func180,ntmps180
   go_wp2
   go_ret;exact⟨Av HE.out.symm,rfl⟩
def Wy{a b:Int}(ha: -1000000000000000<=a/\a<=1000000000000000)(hb: -1000000000000000<=b/\b<=1000000000000000)(op:Int)(hop:Gb op=true)(w:World)(r1 r2:Int)(hr:Hid (BQ op a b=(r1,r2))):Calls prog 183 #[.int .i64 op,.int .i64 a,.int .i64 b] w fun e w'=>e=.returned (.tuple #[.int .i64 r1,.int .i64 r2])/\w'=w:=by have:=Ug ha hb op (BB hop) w;rw[AA hr]at this;exact this
def Xu{c:Bool}{sh dt:List Int}(h:AJ c sh dt=true)(k:Nat): -1000000000000000<=dt.getD k 0/\dt.getD k 0<=1000000000000000:=by
 by_cases hk:k<dt.length
 .have h1:dt.all (BY c)=true:=by simp[AJ]at h;simpa using h.2.2
  have h2:=A7.mp h1 (dt.getD k 0) (by simp[hk]);simp[BY]at h2;simpa using h2.2
 .have e:dt.getD k 0=0:=by simp[List.getD,List.getElem?_eq_none (by omega:dt.length<=k)]
  rw[e];omega
def Mb(op:Int)(c d:Bool)(v1 v2:Value)(a2 b2:Option Addr)(n2 m2 c2 d2:Nat)(dt dt':List Int)(i j:Nat)(w:World)(h2:AO w a2 n2 dt)(k2:AO w b2 m2 dt')(hi:i<n2)(hj:j<m2)(hop:Gb op=true)(hA:∀k,-1000000000000000<=dt.getD k 0/\dt.getD k 0<=1000000000000000)(hB:∀k,-1000000000000000<=dt'.getD k 0/\dt'.getD k 0<=1000000000000000)(r1 r2:Int)(hr:Hid (E9 op c dt i d dt' j=(r1,r2))):Calls prog 181 #[.int .i64 op,.agg #[.bool c,v1,.slice a2 n2 c2],.int .i64 i,.agg #[.bool d,v2,.slice b2 m2 d2],.int .i64 j] w fun e w'=>e=.returned (.tuple #[.int .i64 r1,.int .i64 r2])/\Below w.heap.size w w':=by
 have hs2:=h2.small;have ks2:=k2.small;obtain⟨ba,oa,rfl,hla,hca⟩:=h2.get hi;obtain⟨bb,ob,rfl,hlb,hcb⟩:=k2.get hj;have hA':=hA i;have hB':=hB j;have HOP:=AD hop;clear h2 k2 hA hB hop;obtain⟨x,hx⟩:∃x,x=dt.getD i 0:=⟨_,rfl⟩
 obtain⟨y,hy⟩:∃y,y=dt'.getD j 0:=⟨_,rfl⟩
 rw[<-hx]at hca hA';rw[<-hy]at hcb hB';have hW:∀o1 o2,Below w.heap.size w ((w.alloc o1).alloc o2):=fun o1 o2=>(AG.alloc AC _).alloc (by simp) _;by_cases hcd:c=d
 .subst hcd;have HR:Hid (BQ op x y=(r1,r2)):=by have:=AA hr;unfold E9 at this;rw[AH (by simp),<-hx,<-hy]at this;exact this
  clear hr hx hy;cases c;all_goals
   go_enter func181,ntmps181
   go_wp2
   go_quiet((go_at_call 183;exact Calls.quiet_of_same (Wy hA' hB' op (AA HOP) _ r1 r2 HR)))
   go_wp2
   go_ret2;exact⟨rfl,Below.drewN (hW _ _) _⟩
 .have HR:Hid ((Bh (op==10),(0:Int))=(r1,r2)):=by have:=AA hr;unfold E9 at this;rw[AI hcd]at this;exact this
  clear hr hx hy hA' hB';obtain⟨q,hq⟩:∃q,(op==10)=q:=⟨_,rfl⟩
  rw[hq]at HR;have hcd':(c=true/\d=false)\/(c=false/\d=true):=by cases c<;>cases d<;>simp_all
  clear hcd;rcases hcd' with⟨rfl,rfl⟩|⟨rfl,rfl⟩;all_goals
   go_enter func181,ntmps181;go_wp2_with(go_at_call 200;refine(Dy _ _).mono ?_;rintro e w1⟨rfl,rfl⟩);go_ret2;have e:=AA HR;simp only[Prod.mk.injEq]at e;exact⟨CH e.1 e.2,hW _ _⟩
def SG(cap:Nat)(w:World):Calls prog 71 #[.slice none 0 cap] w fun e w'=>∃a' Ak,e=.returned (.slice a' 0 Ak)/\Bt w' w.heap.size a' 0 []/\Below w.heap.size w w':=by obtain⟨i0,hi,hz0,hz1,hz2⟩:=info_parts A6;have BJ:=Fs w;go_enter func71,ntmps71;go_wp2_with(at_builtin;refine Cw rfl _ _ 23 rfl w.heap.size 3 i0 1 underlying23 hi _ 0 [] rfl BJ 0 rfl cap rfl ?_);go_ret;exact⟨_,_,rfl,⟨rfl,by omega,.inl rfl⟩,AG.alloc AC _⟩
def SF(ad:Option Addr)(n cap:Nat)(zs:List Int)(w:World)(h:AO w ad n zs):Calls prog 71 #[.slice ad n cap] w fun e w'=>∃a' Ak,e=.returned (.slice a' n Ak)/\Bt w' w.heap.size a' n zs/\Below w.heap.size w w':=by
 cases ad with
 |some a=>exact D3 a n cap zs w h
 |none=>
  obtain⟨rfl,rfl⟩:=Hp h;exact SG cap w
