import Derived.Test.YtgjpchnkodnieaaGreatDoorZ37
import Derived.Test.YtgjpchnkodnieaaGreatDoorZ22
import Derived.Test.YtgjpchnkodnieaaGreatDoorZ23
import Derived.Test.YtgjpchnkodnieaaGreatDoorZ40
set_option maxRecDepth 20000
set_option maxHeartbeats 4000000
set_option linter.defProp false
namespace Go.Proofs.YtgjpchnkodnieaaGreatDoor
open Go.RowKit Tryz
section
open Go.Shelf
def VA(c:Bool)(a1 a2:Addr)(n1 n2 c1 c2:Nat)(o1:Addr)(m1 d1:Nat)(w:World)(h0:n1≠0)(h1:n1+1≠m1)(hm:m1<=10000):Calls prog 288 #[.agg #[.bool c,.slice (some a1) n1 c1,.slice (some a2) n2 c2],.slice (some o1) m1 d1] w fun e w'=>e=.returned (.agg #[.bool c,.slice (some a1) n1 c1,.slice (some a2) n2 c2])/\Below w.heap.size w w':=by
 have g1:((n1:Int)==0)=false:=by simp;omega
 have g2:((n1:Int)==(m1:Int)- 1)=false:=by simp;omega
 have g3:IntKind.i64.wrap ((m1:Int)- 1)=(m1:Int)- 1:=by rw[IntKind.wrap_i64];omega
 clear h0 h1;go_enter func288,ntmps288
 go_wp2
 refine bodyPost_ret (v:=.agg #[.bool c,.slice (some a1) n1 c1,.slice (some a2) n2 c2]) (by simp[results,results288,go_sem]) rfl ?_;exact⟨rfl,((AN _ w).alloc AC _).alloc (by simp) _⟩
def RL(c:Bool)(a1 a2:Addr)(n1 n2 c1 c2:Nat)(o1:Addr)(m1 d1:Nat)(sh:List Int)(w:World)(h1:AO w (some a1) n1 sh)(h0:n1≠0)(hm:n1+1=m1)(hn:n1<=10000):Calls prog 288 #[.agg #[.bool c,.slice (some a1) n1 c1,.slice (some a2) n2 c2],.slice (some o1) m1 d1] w fun e w'=>∃g cap,e=.returned (.agg #[.bool c,.slice (some ⟨g,0,none⟩) (n1+1) cap,.slice (some a2) n2 c2])/\w'.ownsRow w.heap.size 3 1 (.slice (some ⟨g,0,none⟩) (n1+1) cap) (n1+1) ((sh++ [1]).map (Value.int .i64))/\Below w.heap.size w w':=by
 obtain⟨i0,hi,hz0,hz1,hz2⟩:=info_parts A6;subst hm;have g1:((n1:Int)==0)=false:=by simp;omega
 have g3:IntKind.i64.wrap (((n1+1:Nat):Int)- 1)=(n1:Int):=by rw[IntKind.wrap_i64];omega
 obtain⟨m,hm⟩:∃m,m=n1+1:=⟨_,rfl⟩
 rw[<-hm]at g3;clear hm h0;obtain⟨W,hW⟩:∃W,W=(w.alloc (.cells #[.bool c,.slice (some a1) n1 c1,.slice (some a2) n2 c2] 25)).alloc (.cells #[.bool false,.slice none 0 0,.slice none 0 0] 25):=⟨_,rfl⟩
 have hz:w.heap.size+1<W.heap.size:=by rw[hW];simp
 have HBW:Hid (Below w.heap.size w W):=by rw[hW];exact((AN _ w).alloc AC _).alloc (by simp) _
 have HX0:Hid (Ai W w.heap.size c (.slice (some a1) n1 c1) (.slice (some a2) n2 c2)):=by rw[hW];exact(Ai.new w _ _ _).alloc _
 have HX1:Hid (Ai W (w.heap.size+1) false (.slice none 0 0) (.slice none 0 0)):=by rw[hW];exact RK _ _ _ _ _ (by simp)
 have H1:=AD (h1.below AC HBW.out);have HW:=AD hW;clear hW h1;go_enter func288,ntmps288;go_upto_region 5 with fail;rw[<-HW.out];clear HW;have HKEEP:∀wx,BS (fun k=>k=w.heap.size+1) W wx->wx.cell? ⟨w.heap.size,0,none⟩=some (.bool c)/\wx.cell? ⟨w.heap.size,1,none⟩=some (.slice (some a1) n1 c1)/\wx.cell? ⟨w.heap.size,2,none⟩=some (.slice (some a2) n2 c2):=fun wx hwx=>by obtain⟨y0,y1,y2,_,_,_⟩:=HX0.out.all;exact⟨(hwx.cellAt (by omega) (by omega)).trans y0,(hwx.cellAt (by omega) (by omega)).trans y1,(hwx.cellAt (by omega) (by omega)).trans y2⟩
 obtain⟨y0,y1,y2⟩:=HKEEP _ (BS.refl _ _);obtain⟨r0,r1,r2,r3,r4,r5,r6⟩:=HX1.out.all
 go_region_held3 (fun wx=>wx.cell? ⟨w.heap.size,0,none⟩=some (.bool c)/\wx.cell? ⟨w.heap.size,1,none⟩=some (.slice (some a1) n1 c1)/\wx.cell? ⟨w.heap.size,2,none⟩=some (.slice (some a2) n2 c2)) (first|exact HKEEP _ (BS.refl _ _).drew|exact HKEEP _ (BS.of_below hK8)|exact HKEEP _ ((((BS.of_below (S:=fun k=>k=w.heap.size+1) hK8).setCell (p:=⟨w.heap.size+1,0,none⟩) rfl _).setCell (p:=⟨w.heap.size+1,1,none⟩) rfl _).setCell (p:=⟨w.heap.size+1,2,none⟩) rfl _)|exact HKEEP _ (BS.of_below hKI)|exact HKEEP _ ((BS.of_below (S:=fun k=>k=w.heap.size+1) hKI).alloc _)|exact HKEEP _ ((BS.refl _ _).drew.alloc _)|exact HKEEP _ ((BS.refl _ _).alloc _).drew) (first
  |(go_at_call 63;refine(TK a1 n1 c1 sh _ (by first|exact H1.out.below AC (AN _ W).drew|exact H1.out.below AC ((AN _ W).alloc AC _).drew|exact(H1.out.below AC (AN _ W).drew).alloc _)).mono ?_;rintro e wI⟨aI,cI,rfl,hoI,hbI⟩;have hKI:Below W.heap.size W wI:=(by first|exact(AN _ W).drew.trans (hbI.mono AC)|exact((AN _ W).alloc AC _).drew.trans (hbI.mono (by simp))|exact((AN _ W).drew.alloc AC _).trans (hbI.mono (by simp)));have hoI':=DG (base':=W.heap.size) hoI (by simp);(first|(have hE1:=QV W 1 hbI)|(have hE1:=QW W 1 hbI)|skip);have hzI:=hKI.size;clear y0 y1 y2 r0 r1 r2 r3 r4 r5 r6;obtain⟨y0,y1,y2⟩:=HKEEP _ (BS.of_below hKI);obtain⟨r0,r1,r2,r3,r4,r5,r6⟩:=(HX1.out.below AC hKI).all)
  |(refine step_append_lies _ (by rfl) _ _ _ (by rfl) W.heap.size 3 i0 _ 1 8 underlying23 hi hz0 hz1 hz2 rfl (by omega) (.slice aI n1 cI) n1 (sh.map (Value.int .i64)) (by rfl) (hoI'.alloc _) ⟨wI.heap.size,0,none⟩ 1 1 [.int .i64 1] (by rfl) (by rfl) (Bp wI _) (CD _) (by omega) (by unfold maxLen;omega) (by omega) (by first|omega|(simp;omega)) _ rfl ?_;intro g8 p8 w8 BL An hat hlt8;have hK8:Below W.heap.size W w8:=hKI.trans (Co _ hoI' hzI An);have HO8:=AD BL;clear BL An hat y0 y1 y2 r0 r1 r2 r3 r4 r5 r6;obtain⟨y0,y1,y2⟩:=HKEEP _ (BS.of_below hK8);obtain⟨r0,r1,r2,r3,r4,r5,r6⟩:=(HX1.out.below AC hK8).all)
  |(refine step_append_lies _ (by rfl) _ _ _ (by rfl) W.heap.size 3 i0 _ 1 8 underlying23 hi hz0 hz1 hz2 rfl (by omega) (.slice aI n1 cI) n1 (sh.map (Value.int .i64)) (by rfl) hoI' ⟨W.heap.size,0,none⟩ 1 1 [.int .i64 1] (by rfl) (by rfl) (FJ hE1) (CD _) (by omega) (by unfold maxLen;omega) (by omega) (by first|omega|(simp;omega)) _ rfl ?_;intro g8 p8 w8 BL An hat hlt8;have hK8:Below W.heap.size W w8:=hKI.grown An hzI (IT hoI');have HO8:=AD BL;clear BL An hat y0 y1 y2 r0 r1 r2 r3 r4 r5 r6;obtain⟨y0,y1,y2⟩:=HKEEP _ (BS.of_below hK8);obtain⟨r0,r1,r2,r3,r4,r5,r6⟩:=(HX1.out.below AC hK8).all))
 all_goals
  go_wp2_with fail;have hx:=(HX1.out.below AC hK8).sets (c':=c) (u1:=.slice (some ⟨g8,0,none⟩) (n1+1) p8) (u2:=.slice (some a2) n2 c2);obtain⟨q0,q1,q2,_,_,_⟩:=hx.all;refine bodyPost_ret (v:=.agg #[.bool c,.slice (some ⟨g8,0,none⟩) (n1+1) p8,.slice (some a2) n2 c2]) (by simp[results,results288,go_sem,q0,q1,q2]) rfl ?_;have e:(sh++ [1]).map (Value.int .i64)=sh.map (Value.int .i64)++ [.int .i64 1]:=by simp
  rw[e];refine⟨g8,p8,rfl,DG (CC (CC (CC HO8.out (by omega) _) (by omega) _) (by omega) _) (by omega),((((HBW.out.trans (hK8.mono (by omega))).setCell (p:=⟨w.heap.size+1,0,none⟩) (by simp) _).setCell (p:=⟨w.heap.size+1,1,none⟩) (by simp) _).setCell (p:=⟨w.heap.size+1,2,none⟩) (by simp) _)⟩
def OO{w:World}{base e size n cap:Nat}{a:Addr}{xs:List Value}(h:w.ownsRow base e size (.slice (some a) n cap) n xs):n<=cap:=by
 rcases h.2 with⟨h0,_⟩|⟨g,Ak,cur,h0,_,_,h1,_⟩
 .cases h0
 .cases h0;exact h1
def PT(B N A:Int)(v:Value)(w:World):(Instr.field 133 (.agg #[.int .i64 B,.int .i64 N,.int .i64 A,v]) 3).run prog w=.ok v w:=by kernel_rfl
def S3(c:Bool)(a1 a2:Addr)(c1 c2:Nat)(o1:Addr)(m1 d1:Nat)(x B K A:Int)(fr:List Int)(N:Nat)(w:World)(h2:AO w (some a2) 1 [x])(hax:∀wx,Below w.heap.size w wx->Calls prog 112 #[.slice (some o1) m1 d1,.bool false] wx (Jz wx B K A fr))(hf:fr.length<=5)(hsi:Aq (fr++ [1]))(hN:AM (fr++ [1])=(N:Int))(hNb:N<=10000):Calls prog 288 #[.agg #[.bool c,.slice (some a1) 0 c1,.slice (some a2) 1 c2],.slice (some o1) m1 d1] w fun e w'=>∃g cap gd,e=.returned (.agg #[.bool c,.slice (some ⟨g,0,none⟩) (fr.length+1) cap,.slice (some ⟨gd,0,none⟩) N N])/\fr.length+1<=cap/\AO w' (some ⟨g,0,none⟩) (fr.length+1) (fr++ [1])/\AO w' (some ⟨gd,0,none⟩) N (List.replicate N x)/\w.heap.size<=g/\w.heap.size<=gd/\Below w.heap.size w w':=by
 obtain⟨i0,hi,hz0,hz1,hz2⟩:=info_parts A6;obtain⟨W,hW⟩:∃W,W=(w.alloc (.cells #[.bool c,.slice (some a1) 0 c1,.slice (some a2) 1 c2] 25)).alloc (.cells #[.bool false,.slice none 0 0,.slice none 0 0] 25):=⟨_,rfl⟩
 have hz:w.heap.size+1<W.heap.size:=by rw[hW];simp
 have HBW:Hid (Below w.heap.size w W):=by rw[hW];exact((AN _ w).alloc AC _).alloc (by simp) _
 have HX0:Hid (Ai W w.heap.size c (.slice (some a1) 0 c1) (.slice (some a2) 1 c2)):=by rw[hW];exact(Ai.new w _ _ _).alloc _
 have HX1:Hid (Ai W (w.heap.size+1) false (.slice none 0 0) (.slice none 0 0)):=by rw[hW];exact RK _ _ _ _ _ (by simp)
 have H2:=AD (h2.below AC HBW.out);have HW:=AD hW;have HAX:=AD (hax W HBW.out);have HSI:=AD hsi;have HN:=AD hN;obtain⟨fl,hfl⟩:∃fl,fr.length=fl:=⟨_,rfl⟩
 have HFL:=AD hfl;rw[hfl]at hf ⊢;clear hW h2 hax hsi hN hfl;go_enter func288,ntmps288;go_upto_region 3 with(first
  |(go_at_call 112;rw[<-HW.out];refine HAX.out.mono ?_;rintro e wA⟨oa,ol,oc,rfl,hoA,hbA⟩;obtain rfl:ol=fl:=(by have:=hoA.1;simp at this;rw[<-this,HFL.out]);have HOA:=AD hoA;have HBA:=AD hbA;have hfd:=PT B K A (.slice oa ol oc);have hzA:=HBA.out.size;clear hbA hoA)
  |(at_builtin;refine wpList_append_lies _ rfl _ _ 23 rfl W.heap.size 3 i0 (.int .i64 0) 1 8 underlying23 hi hz0 hz1 hz2 rfl (by decide) _ _ _ rfl (DG (base':=W.heap.size) (HOA.out.alloc _) (by omega)) ⟨wA.heap.size,0,none⟩ 1 1 [.int .i64 1] rfl rfl (Bp _ _) (CD _) (by omega) (by unfold maxLen;omega) (by omega) (by simp;omega) (wA.heap.size+1) (by simp) ?_;intro g cap w7 BJ An hat hlt;have HO7:=AD BJ;have HB7:=AD (HBA.out.trans (Co _ (DG (base':=W.heap.size) HOA.out (by omega)) hzA An));clear BJ An hat hlt hfd))
 have hz7:=HB7.out.size;have hR7:w7.ownsRow W.heap.size 3 1 (.slice (some ⟨g,0,none⟩) (ol+1) cap) (ol+1) ((fr++ [1]).map (Value.int .i64)):=by rw[Bf];exact HO7.out
 obtain⟨_,_,ev,hO7⟩:=Bt.of_owns hR7 (by omega);cases ev;have hcap:=OO hR7;have hgg:=IT hR7 g rfl;have HRS:=AD hO7.row;clear hR7 hO7 HO7 HOA HAX;have HKEEP:∀wx,BS (fun k=>k=w.heap.size+1) w7 wx->wx.cell? ⟨w.heap.size,0,none⟩=some (.bool c)/\wx.cell? ⟨w.heap.size,2,none⟩=some (.slice (some a2) 1 c2):=fun wx hwx=>by obtain⟨y0,y1,y2,_,_,_⟩:=(HX0.out.below AC HB7.out).all;exact⟨(hwx.cellAt (by omega) (by omega)).trans y0,(hwx.cellAt (by omega) (by omega)).trans y2⟩
 obtain⟨r0,r1,r2,r3,r4,r5,r6⟩:=(HX1.out.below AC HB7.out).all;have HR2:=AD (H2.out.below AC HB7.out)
 go_region_held3 (fun wx=>wx.cell? ⟨w.heap.size,0,none⟩=some (.bool c)/\wx.cell? ⟨w.heap.size,2,none⟩=some (.slice (some a2) 1 c2)) (first|exact HKEEP _ (BS.refl _ _).drew|exact HKEEP _ (BS.of_below hKR)|exact HKEEP _ ((((BS.of_below (S:=fun k=>k=w.heap.size+1) hKR).setCell (p:=⟨w.heap.size+1,0,none⟩) rfl _).setCell (p:=⟨w.heap.size+1,1,none⟩) rfl _).setCell (p:=⟨w.heap.size+1,2,none⟩) rfl _)) (first
  |(go_at_call 116;refine(FA _ _ _ (fr++ [1]) _ (HRS.out.below AC (AN _ w7).drew) HSI.out N HN).mono ?_;rintro e wB⟨rfl,rfl⟩)
  |(go_at_call 148;refine(Fx a2 c2 N x _ (HR2.out.below AC (AN _ w7).drew) hNb).mono ?_;rintro e wR⟨rfl,hR1,hR2⟩;have hKR:Below w7.heap.size w7 wR:=(AN _ w7).drew.trans hR2;clear r0 r1 r2 r3 r4 r5 r6;obtain⟨r0,r1,r2,r3,r4,r5,r6⟩:=(HX1.out.below AC (HB7.out.trans (hKR.mono hz7))).all))
 all_goals
  go_wp2_with fail;have hBR:=HB7.out.trans (hKR.mono hz7);have hX:=(HX1.out.below AC hBR)
  have hx:=hX.sets (c':=c) (u1:=.slice (some ⟨g,0,none⟩) (ol+1) cap) (u2:=.slice (some ⟨w7.heap.size,0,none⟩) N N);obtain⟨q0,q1,q2,_,_,_⟩:=hx.all;refine bodyPost_ret (v:=.agg #[.bool c,.slice (some ⟨g,0,none⟩) (ol+1) cap,.slice (some ⟨w7.heap.size,0,none⟩) N N]) (by simp[results,results288,go_sem,q0,q1,q2]) rfl ?_;refine⟨g,cap,w7.heap.size,rfl,hcap,(HRS.out.below AC hKR).sets hX _ _ _,(BA.row hR1 (by simp) (by omega)).sets hX _ _ _,by omega,by omega,(((HBW.out.trans (hBR.mono (by omega))).setCell (by simp) _).setCell (by simp) _).setCell (by simp) _⟩
end
section
open Go.Shelf
def MA(sh':List Int):Ar [] sh'=A9 sh'++ [1]:=by unfold Ar;rw[AI rfl]
def Px{sh sh':List Int}(h0:sh≠ [])(h:sh.length+1=sh'.length):Ar sh sh'=sh++ [1]:=by unfold Ar;rw[AH h0,AI h]
def UH{sh sh':List Int}(h0:sh≠ [])(h:sh.length+1≠sh'.length):Ar sh sh'=sh:=by unfold Ar;rw[AH h0,AH h]
def UI{sh dt sh':List Int}(h0:sh≠ []):BR sh dt sh'=dt:=by unfold BR;rw[AH h0]
def Rn(dt sh':List Int):BR [] dt sh'=List.replicate (Ac (A9 sh'++ [1])).toNat (dt.getD 0 0):=by unfold BR;rw[AI rfl,MA]
def X0(w:World)(c:Bool)(L X:List Int)(e:Ending)(w':World):Prop:=∃ba oa p1 e1 A2 p2 e2,e=.returned (.agg #[.bool c,.slice (some ⟨ba,oa,none⟩) (p1+1) e1,.slice (some A2) p2 e2])/\AO w' (some ⟨ba,oa,none⟩) (p1+1) L/\AO w' (some A2) p2 X/\p1+1<=e1/\p2<=e2/\Below w.heap.size w w'
def S5(c d:Bool)(a1 a2:Addr)(n1 n2 c1 c2:Nat)(o1:Addr)(m1 d1:Nat)(sh dt sh' dt':List Int)(w:World)(h1:AO w (some a1) n1 sh)(h2:AO w (some a2) n2 dt)(k1:AO w (some o1) m1 sh')(ok1:AJ c sh dt=true)(ok2:AJ d sh' dt'=true)(hc1:n1<=c1)(hc2:n2<=c2)(hd1:m1<=d1):Calls prog 288 #[.agg #[.bool c,.slice (some a1) n1 c1,.slice (some a2) n2 c2],.slice (some o1) m1 d1] w (X0 w c (Ar sh sh') (BR sh dt sh')):=by
 obtain⟨i1,p1,l1⟩:=AW ok1;obtain⟨i2,_,l2⟩:=AW ok2;have e1:=h1.len;have e2:=h2.len;have e3:=k1.len;by_cases h0:n1=0
 .subst h0;obtain rfl:sh= []:=Af.mp e1;have hn2:n2=1:=by simp[AM]at p1;omega
  subst hn2;obtain⟨x,rfl⟩:∃x,dt= [x]:=by
   match dt,e2 with
   | [x],_=>exact⟨x,rfl⟩
  have hsi:Aq (A9 sh'++ [1]):=FG (i2.take _);have hfl:(A9 sh').length<=4:=by simp[A9];omega
  have hb:Am (A9 sh'++ [1])=true:=by obtain⟨ha,m,hm⟩:=hsi;exact Ex (n:=(A9 sh'++ [1]).length) rfl (by simp;omega) m ha hm
  have hcb:=CS hb;obtain⟨N,hN⟩:∃N:Nat,Ac (A9 sh'++ [1])=(N:Int):=⟨(Ac (A9 sh'++ [1])).toNat,by omega⟩
  have hpN:AM (A9 sh'++ [1])=(N:Int):=by rw[Bs _ hb];exact hN
  rw[MA,Rn,hN];have fin:∀(B K A:Int),(∀wx,Below w.heap.size w wx->Calls prog 112 #[.slice (some o1) m1 d1,.bool false] wx (Jz wx B K A (A9 sh')))->Calls prog 288 #[.agg #[.bool c,.slice (some a1) 0 c1,.slice (some a2) 1 c2],.slice (some o1) m1 d1] w (X0 w c (A9 sh'++ [1]) (List.replicate ((N:Int)).toNat (List.getD [x] 0 0))):=fun B K A hax=>by refine(S3 c a1 a2 c1 c2 o1 m1 d1 x B K A (A9 sh') N w h2 hax (by omega) hsi hpN (by omega)).mono ?_;rintro e w'⟨g,cap,gd,rfl,hcap,r1,r2,_,_,hb⟩;exact⟨g,0,(A9 sh').length,cap,⟨gd,0,none⟩,N,N,rfl,r1,by simpa using r2,hcap,AC,hb⟩
  by_cases hm:m1=0
  .subst hm;obtain rfl:sh'= []:=Af.mp e3;exact fin 1 1 1 (fun wx _=>Pf false o1 d1 wx)
  .obtain⟨m,rfl⟩:∃m,m1=m+1:=⟨m1- 1,by omega⟩
   obtain⟨b,off,eo,_,_⟩:=k1.get (show 0<m+1 by omega);cases eo;refine fin (AM (sh'.take m)) (AM ((sh'.drop m).take 1)) (AM (sh'.drop (m+1))) (fun wx hwx=> ?_);rw[<-Jr sh' m e3];exact RO false b off m d1 m sh' _ _ _ wx (k1.below AC hwx) hd1 i2 (by omega) (.inr ⟨rfl,rfl⟩) rfl rfl rfl
 .have hne:sh≠ []:=fun e=>h0 (by rw[<-e1,e];rfl);obtain⟨b,off,eo,_,_⟩:=h1.get (show 0<n1 by omega);cases eo;obtain⟨k,rfl⟩:∃k,n1=k+1:=⟨n1- 1,by omega⟩
  rw[UI hne];by_cases hm:k+1+1=m1
  .rw[Px hne (by rw[e1,e3];exact hm)];refine(RL c ⟨b,off,none⟩ a2 (k+1) n2 c1 c2 o1 m1 d1 sh w h1 h0 hm (by omega)).mono ?_;rintro e w'⟨g,cap,rfl,ho,hb⟩;obtain⟨_,_,ev,hO⟩:=Bt.of_owns ho (by omega);cases ev;exact⟨g,0,k+1,cap,a2,n2,c2,rfl,hO.row,h2.below AC hb,OO ho,hc2,hb⟩
  .rw[UH hne (by rw[e1,e3];exact hm)];refine(VA c ⟨b,off,none⟩ a2 (k+1) n2 c1 c2 o1 m1 d1 w h0 hm (by omega)).mono ?_;rintro e w'⟨rfl,hb⟩;exact⟨b,off,k,c1,a2,n2,c2,rfl,h1.below AC hb,h2.below AC hb,hc1,hc2,hb⟩
def Ng(c d:Bool)(v1 v2:Value)(a2 b2:Option Addr)(n2 m2 c2 d2:Nat)(w:World)(hn:n2<=10000)(hm:m2<=10000):Calls prog 290 #[.agg #[.bool c,v1,.slice a2 n2 c2],.agg #[.bool d,v2,.slice b2 m2 d2]] w fun e w'=>e=.returned (.bool (if n2=0/\0<m2 then d else c))/\Below w.heap.size w w':=by
 have hb:Below w.heap.size w ((w.alloc (.cells #[.bool c,v1,.slice a2 n2 c2] 25)).alloc (.cells #[.bool d,v2,.slice b2 m2 d2] 25)):=((AN _ w).alloc AC _).alloc (by simp) _;by_cases h1:n2=0
 .by_cases h2:0<m2
  .rw[AI ⟨h1,h2⟩];subst h1;go_enter func290,ntmps290
   go_wp2
   go_ret;exact⟨rfl,hb⟩
  .rw[AH (by omega)];subst h1;obtain rfl:m2=0:=by omega
   clear h2;go_enter func290,ntmps290
   go_wp2
   go_ret;exact⟨rfl,hb⟩
 .rw[AH (by omega)];have g1:((n2:Int)==0)=false:=by simp;omega
  clear h1;go_enter func290,ntmps290
  go_wp2
  go_ret;exact⟨rfl,hb⟩
end
section
open Go.Shelf
def Pz{L:Nat}(h:L<=10000):Aq [(L:Int)]/\AM [(L:Int)]=(L:Int):=by
 refine⟨⟨by simp[Be];omega,?_⟩,by simp[AM]⟩;by_cases h0:L=0
 .exact⟨1,by simp[Aj,h0]⟩
 .exact⟨(L:Int),by unfold Aj;rw[AH (by omega),AH (by omega)];simp[Aj]⟩
def Mc(c:Bool)(a1 a2 b1 b2:Option Addr)(n1 n2 c1 c2 L d1 d2:Nat)(sh dt:List Int)(w:World)(h1:AO w a1 n1 sh)(hk1:AO w b1 1 [(L:Int)])(hok:AJ c sh dt=true)(hl:dt.length=n2)(hr:n1<=1)(hL:L<=10000)(code:Int)(hc:Hid ((if L≠1/\n2≠1/\n2≠L then 5 else 0)=code)):Calls prog 296 #[.agg #[.bool c,.slice a1 n1 c1,.slice a2 n2 c2],.agg #[.bool false,.slice b1 1 d1,.slice b2 L d2]] w fun e w'=>∃cnt:Nat,e=.returned (.tuple #[.int .i64 (cnt:Nat),.int .i64 code])/\(code=0->cnt=GX L n2)/\Below w.heap.size w w':=by
 obtain⟨hin,hpr,h5⟩:=AW hok;have hbd:=hin.bd;rw[hpr,hl]at hbd;have Bq:=h1.len;have hone:n1=1->sh= [(n2:Int)]:=fun h=>by obtain⟨x,rfl⟩:=List.length_eq_one_iff.1 (Bq.trans h);rw[hl]at hpr;simp[AM]at hpr;rw[hpr]
 have hnone:n1=0->sh= []/\n2=1:=fun h=>by have e:=Af.1 (Bq.trans h);subst e;rw[hl]at hpr;simp[AM]at hpr;exact⟨rfl,by omega⟩
 have HJC:Hid (BT n1 n2 1 L sh [(L:Int)]=code):=by
  show _=_;rw[<-AA hc];unfold BT Cb;rcases Bz n1 1 with h|h
  .obtain⟨_,hn2⟩:=hnone (by omega);subst hn2;rw[AI (by left;simp;omega),AH (by omega)]
  .have e1:n1=1:=by omega
   have e2:=hone e1;by_cases hL1:L=1
   .rw[AI (.inr hL1),AH (by omega)]
   .by_cases hn2:n2=1
    .rw[AI (by left;simp[hn2,hL1]),AH (by omega)]
    .rw[AH (by simp[hn2,hL1]),AH (by omega)];by_cases hnl:n2=L
     .rw[AH (by rw[e2,hnl];simp),AH (by omega)]
     .rw[AI (by rw[e2];simp;omega),AI ⟨hL1,hn2,hnl⟩]
 have HJS:Hid (code=0->Aq (Ba n1 n2 1 L sh [(L:Int)])/\AM (Ba n1 n2 1 L sh [(L:Int)])=((GX L n2:Nat):Int)):=fun h0=>by
  have hnc:¬(L≠1/\n2≠1/\n2≠L):=fun hh=>by have:=AA hc;rw[AI hh]at this;omega
  obtain⟨s1,s2⟩:=Pz hL;unfold Ba Cb;by_cases hw:(decide (n2=1)&&(decide (L≠1)||decide (n1<1)))=true
  .rw[AI hw];refine⟨s1,?_⟩;rw[s2];unfold GX;simp at hw;split<;>omega
  .rw[AH hw];refine⟨hin,?_⟩;rw[hpr,hl];unfold GX;simp at hw;split<;>omega
 have HJ:=AD (DR c false a1 a2 b1 b2 n1 n2 1 L c1 c2 d1 d2 sh [(L:Int)]);have H1:=AD h1;have K1:=AD hk1;clear h1 hk1 hok hin hpr h5 hone hnone hc Bq hl;go_enter func296,ntmps296;go_wp2_with fail;refine(AA HJ _ (((AA H1).alloc _).alloc _) (((AA K1).alloc _).alloc _) (by omega) (by omega)).mono ?_;rintro e w1⟨hcase,hb1⟩;rw[AA HJC]at hcase;have HB1:Hid (Below w.heap.size w w1):=((((AN _ w).alloc AC _).alloc (by simp) _).trans (hb1.mono (by simp;omega)))
 clear hb1;rcases hcase with⟨h0,a',k,Ak,rfl,hO⟩|⟨h0,rfl⟩
 .subst h0;obtain⟨s1,s2⟩:=AA HJS rfl;have HP:=AD s2;have HO:=AD hO;clear hO s2;go_wp2_with(go_at_call 116;refine(FA _ _ _ _ _ (AA HO).row s1 _ HP).mono ?_;rintro e w2⟨rfl,hw⟩;obtain rfl:=hw.symm);go_ret2;first|exact⟨_,rfl,rfl,AA HB1⟩|exact⟨_,rfl,fun _=>rfl,AA HB1⟩
 .have s1:Aq []:=⟨rfl,1,rfl⟩
  have HP:Hid (AM []=((1:Nat):Int)):=AD rfl;go_wp2_with(go_at_call 116;refine(FA none 0 0 [] _ (AP _ _) s1 _ HP).mono ?_;rintro e w2⟨rfl,hw⟩;obtain rfl:=hw.symm);go_ret2;exact⟨1,rfl,fun h=>absurd h h0,AA HB1⟩
def KM(s:Int):Int:=min s 10001
def Ws{s x:Int}(hx:0<=x):min (KM s+x) 10001=KM (s+x):=by unfold KM;omega
def Ma(a2:Option Addr)(n2 c2 st step m:Nat)(dt:List Int)(w:World)(h2:AO w a2 n2 dt)(hm:m<=10000)(ht:∀k,k<m->st+k*step<n2/\dt.getD (st+k*step) 0=Br dt k/\0<=Br dt k/\Br dt k<=1000000000000000)(hn:dt.all BE=true):Calls prog 297 #[.agg #[.slice a2 n2 c2,.int .i64 (st:Nat),.int .i64 (step:Nat),.int .i64 (m:Nat)]] w fun e w'=>e=.returned (.int .i64 (KM (A5 dt m)))/\Below w.heap.size w w':=by
 have H2:=AD h2;have HT:=AD ht;have HN:=AD hn;clear h2 ht hn;have HX0:Hid (Dt (w.alloc (.cells #[.slice a2 n2 c2,.int .i64 (st:Nat),.int .i64 (step:Nat),.int .i64 (m:Nat)] 145)) w.heap.size a2 n2 c2 st step m):=Dt.new w _ _ _ _ _ _;have HB0:Hid (Below w.heap.size w (w.alloc (.cells #[.slice a2 n2 c2,.int .i64 (st:Nat),.int .i64 (step:Nat),.int .i64 (m:Nat)] 145))):=(AN _ w).alloc AC _;go_enter func297,ntmps297;go_wp2_with fail;generalize hW:w.alloc (.cells #[.slice a2 n2 c2,.int .i64 (st:Nat),.int .i64 (step:Nat),.int .i64 (m:Nat)] 145)=W at*;clear hW;go_loopw[3,7] (fun s i wr=>∃k:Nat,k<=m/\i=.int .i64 (k:Nat)/\s=.int .i64 (KM (A5 dt k))/\Hid (Below W.heap.size W wr)) (fun _ i _=>m- (intOf i).toNat);case atStart=>exact⟨0,AS _,rfl,rfl,AD AG⟩
 case round=>
  obtain⟨k,hk,rfl,rfl,hbr⟩:=hrel;by_cases hlt:k<m
  .obtain⟨x0,x1,x2,x3⟩:=((AA HX0).below AC (AA hbr)).cells;obtain⟨t1,t2,t3,t4⟩:=AA HT k hlt;have hxl:=((AA HX0).below AC (AA hbr)).lt;have hkz:(k:Int)<(m:Int):=by omega
   obtain⟨s,hs⟩:∃s,s=KM (A5 dt k):=⟨_,rfl⟩
   have hs0:0<=s/\s<=10001:=by rw[hs];have:=Om (AA HN) k;unfold KM;omega
   obtain⟨x,hx⟩:∃x,x=Br dt k:=⟨_,rfl⟩
   have hcall:=IM a2 n2 c2 st step m k dt wr ((AA H2).below AC ((AA HB0).trans ((AA hbr).mono (AA HB0).size))) (by omega);rw[t2,<-hx]at hcall;rw[<-hx]at t3 t4;rw[<-hs];have hw1:IntKind.i64.wrap (s+x)=s+x:=by rw[IntKind.wrap_i64];omega
   have HNX:Hid (min (s+x) 10001=KM (A5 dt (k+1))):=by show _=KM (A5 dt k+Br dt k);rw[hs,hx];exact Ws (by rw[<-hx];exact t3)
   clear hs hx t1 t2;go_wp2_with(go_at_call 192;refine hcall.mono ?_;rintro e w3⟨rfl,hb3⟩;have HB3:=AD ((AA hbr).trans (hb3.mono (AA hbr).size));clear hb3);go_roundw;case rel=>exact⟨k+1,by omega,by go_num,by rw[<-AA HNX],HB3⟩
   case measure=>simp[intOf];omega
  .have e:k=m:=by omega
   subst k;clear hlt;go_wp2_with fail;go_ret;exact⟨rfl,(AA HB0).trans ((AA hbr).mono (AA HB0).size)⟩
end
