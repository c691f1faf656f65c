import Derived.Test.YtgjpchnkodnieaaGreatDoorZ43
import Derived.Test.YtgjpchnkodnieaaGreatDoorZ36
set_option maxRecDepth 20000
set_option maxHeartbeats 4000000
set_option linter.defProp false
namespace Go.Proofs.YtgjpchnkodnieaaGreatDoor
open Go.RowKit Tryz
section
open Go.Shelf
def E1(c d:Bool)(a1 a2 b1 b2:Addr)(n1 n2 m1 m2 c1 c2 d1 d2:Nat)(sh dt sh' dt':List Int)(w:World)(h1:AO w (some a1) n1 sh)(h2:AO w (some a2) n2 dt)(k1:AO w (some b1) m1 sh')(k2:AO w (some b2) m2 dt')(r:Int)(hrc:Ap c d sh dt sh' dt'=r)(hr:r≠0):Calls prog 98 #[.agg #[.bool c,.slice (some a1) n1 c1,.slice (some a2) n2 c2],.agg #[.bool d,.slice (some b1) m1 d1,.slice (some b2) m2 d2]] w (Ag w (AT r)):=by
 have HRC:=AD hrc;have hs2:=h2.small;have hs4:=k2.small;have H1:=AD h1;have H2:=AD h2;have K1:=AD k1;have K2:=AD k2;have q:(r !=0)=true:=by simp[hr]
 clear h1 h2 k1 k2 hrc hr;go_enter func98,ntmps98;go_wp2_with(first|(go_at_call 57;refine(Ao c d (some a1) (some a2) (some b1) (some b2) n1 n2 m1 m2 c1 c2 d1 d2 sh dt sh' dt' _ ((((AA H1).alloc _).alloc _).alloc _) ((((AA H2).alloc _).alloc _).alloc _) ((((AA K1).alloc _).alloc _).alloc _) ((((AA K2).alloc _).alloc _).alloc _) _ HRC).mono ?_;rintro e w1⟨rfl,hb1⟩;obtain⟨B0,B1,B2,hB1⟩:=Az hb1;have HB0:=AD B0;have HB1:=AD B1;have HB2:=AD B2;have HB:=AD hB1;obtain⟨x0,x1,x2,x3,x4,x5,x6⟩:=B0.all;obtain⟨y0,y1,y2,y3,y4,y5,y6⟩:=B1.all;obtain⟨q0,q1,q2,q3,q4,q5,q6⟩:=B2.all;clear hb1 hB1 B0 B1 B2));refine bodyPost_ret (v:=.tuple #[.agg #[.bool false,.slice none 0 0,.slice none 0 0],.int .i64 r]) (by simp[results,results98,go_sem,q0,q1,q2]) rfl ?_;exact As ((((AA HB).setCell (by simp<;>omega) _).setCell (by simp<;>omega) _).setCell (by simp<;>omega) _)
def LU(c d:Bool)(a1 a2 b1 b2:Addr)(n1 n2 m1 m2 c1 c2 d1 d2:Nat)(sh dt sh' dt':List Int)(w:World)(h1:AO w (some a1) n1 sh)(h2:AO w (some a2) n2 dt)(k1:AO w (some b1) m1 sh')(k2:AO w (some b2) m2 dt')(hrc:Ap c d sh dt sh' dt'=0)(hn:dt.all BE=false):Calls prog 98 #[.agg #[.bool c,.slice (some a1) n1 c1,.slice (some a2) n2 c2],.agg #[.bool d,.slice (some b1) m1 d1,.slice (some b2) m2 d2]] w (Ag w (AT 3)):=by
 have HRC:=AD hrc;have HNG:Hid ((!dt.all BE)=true):=by rw[hn];exact AD rfl
 have hs2:=h2.small;have hs4:=k2.small;have H1:=AD h1;have H2:=AD h2;have K1:=AD k1;have K2:=AD k2;clear h1 h2 k1 k2 hrc hn;go_enter func98,ntmps98;go_wp2_with(first|(go_at_call 57;refine(Ao c d (some a1) (some a2) (some b1) (some b2) n1 n2 m1 m2 c1 c2 d1 d2 sh dt sh' dt' _ ((((AA H1).alloc _).alloc _).alloc _) ((((AA H2).alloc _).alloc _).alloc _) ((((AA K1).alloc _).alloc _).alloc _) ((((AA K2).alloc _).alloc _).alloc _) _ HRC).mono ?_;rintro e w1⟨rfl,hb1⟩;obtain⟨B0,B1,B2,hB1⟩:=Az hb1;have HB0:=AD B0;have HB1:=AD B1;have HB2:=AD B2;have HB:=AD hB1;obtain⟨x0,x1,x2,x3,x4,x5,x6⟩:=B0.all;obtain⟨y0,y1,y2,y3,y4,y5,y6⟩:=B1.all;obtain⟨q0,q1,q2,q3,q4,q5,q6⟩:=B2.all;clear hb1 hB1 B0 B1 B2)|(go_at_call 169;refine(DJ _ _ _ dt _ ((AA H2).below AC (AA HB)) _ HNG).mono ?_;rintro e w2⟨rfl,hw⟩;obtain rfl:=hw.symm));refine bodyPost_ret (v:=.tuple #[.agg #[.bool false,.slice none 0 0,.slice none 0 0],.int .i64 3]) (by simp[results,results98,go_sem,q0,q1,q2]) rfl ?_;exact As ((((AA HB).setCell (by simp<;>omega) _).setCell (by simp<;>omega) _).setCell (by simp<;>omega) _)
def LV(c d:Bool)(a1 a2 b1 b2:Addr)(n1 n2 m1 m2 c1 c2 d1 d2:Nat)(sh dt sh' dt':List Int)(w:World)(h1:AO w (some a1) n1 sh)(h2:AO w (some a2) n2 dt)(k1:AO w (some b1) m1 sh')(k2:AO w (some b2) m2 dt')(hrc:Ap c d sh dt sh' dt'=0)(hn:dt.all BE=true)(hs:Am dt=false):Calls prog 98 #[.agg #[.bool c,.slice (some a1) n1 c1,.slice (some a2) n2 c2],.agg #[.bool d,.slice (some b1) m1 d1,.slice (some b2) m2 d2]] w (Ag w (AT 7)):=by
 have HRC:=AD hrc;have HNG:Hid ((!dt.all BE)=false):=by rw[hn];exact AD rfl
 have HSB:=AD hs;have hs2:=h2.small;have hs4:=k2.small;have H1:=AD h1;have H2:=AD h2;have K1:=AD k1;have K2:=AD k2;clear h1 h2 k1 k2 hrc hn hs;go_enter func98,ntmps98;go_wp2_with(first|(go_at_call 57;refine(Ao c d (some a1) (some a2) (some b1) (some b2) n1 n2 m1 m2 c1 c2 d1 d2 sh dt sh' dt' _ ((((AA H1).alloc _).alloc _).alloc _) ((((AA H2).alloc _).alloc _).alloc _) ((((AA K1).alloc _).alloc _).alloc _) ((((AA K2).alloc _).alloc _).alloc _) _ HRC).mono ?_;rintro e w1⟨rfl,hb1⟩;obtain⟨B0,B1,B2,hB1⟩:=Az hb1;have HB0:=AD B0;have HB1:=AD B1;have HB2:=AD B2;have HB:=AD hB1;obtain⟨x0,x1,x2,x3,x4,x5,x6⟩:=B0.all;obtain⟨y0,y1,y2,y3,y4,y5,y6⟩:=B1.all;obtain⟨q0,q1,q2,q3,q4,q5,q6⟩:=B2.all;clear hb1 hB1 B0 B1 B2)|(go_at_call 169;refine(DJ _ _ _ dt _ ((AA H2).below AC (AA HB)) _ HNG).mono ?_;rintro e w2⟨rfl,hw⟩;obtain rfl:=hw.symm)|(go_at_call 114;refine(CR _ _ _ dt _ ((AA H2).below AC (AA HB)) _ HSB).mono ?_;rintro e w3⟨rfl,hw⟩;obtain rfl:=hw.symm));refine bodyPost_ret (v:=.tuple #[.agg #[.bool false,.slice none 0 0,.slice none 0 0],.int .i64 7]) (by simp[results,results98,go_sem,q0,q1,q2]) rfl ?_;exact As ((((AA HB).setCell (by simp<;>omega) _).setCell (by simp<;>omega) _).setCell (by simp<;>omega) _)
def Ue(wz:World){wL:World}(h:Below (wz.drew.alloc (.cells #[.bool false,.slice none 0 0,.slice none 0 0] 25)).heap.size (wz.drew.alloc (.cells #[.bool false,.slice none 0 0,.slice none 0 0] 25)) wL):Ai wL wz.heap.size false (.slice none 0 0) (.slice none 0 0):=(Ai.new wz.drew false _ _).below AC h
def Ud(wz:World){wL:World}(h:Below ((wz.alloc (.cells #[.bool false,.slice none 0 0,.slice none 0 0] 25)).drew).heap.size ((wz.alloc (.cells #[.bool false,.slice none 0 0,.slice none 0 0] 25)).drew) wL):Ai wL wz.heap.size false (.slice none 0 0) (.slice none 0 0):=(Ai.new wz false _ _).drew.below AC h
def RZ(wz:World)(d:Bool)(ys:List Int)(N:Nat)(v:Value)(wx:World):Prop:=∃pb gd u,v=.pointer (some ⟨pb,0,none⟩)/\wz.heap.size<=pb/\Ai wx pb d u (.slice (some ⟨gd,0,none⟩) N N)/\wz.heap.size<=gd/\gd≠pb/\BA wx gd ys/\Below wz.heap.size wz wx
def Ai.setG1{w:World}{p:Nat}{c:Bool}{v1 v2:Value}(h:Ai w p c v1 v2)(v:Value):Ai (w.setCell ⟨p,1,none⟩ v) p c v v2:=by unfold Ai at h ⊢;rw[Bj w p 1 _ _ _ h];simp
def RZ.new{wz W:World}{d:Bool}{ys:List Int}{N gd:Nat}{u:Value}(hpb:wz.heap.size<=W.heap.size)(hg:wz.heap.size<=gd)(hB:BA W gd ys)(hbl:Below wz.heap.size wz W):RZ wz d ys N (.pointer (some ⟨W.heap.size,0,none⟩)) (W.alloc (.cells #[.bool d,u,.slice (some ⟨gd,0,none⟩) N N] 25)):=⟨W.heap.size,gd,u,rfl,hpb,Ai.new W _ _ _,hg,by have:=hB.lt;omega,hB.alloc _,hbl.alloc hpb _⟩
def RZ.set{wz W:World}{d c:Bool}{ys:List Int}{N pb gd:Nat}{v1 v2 u:Value}(hb:Ai W pb c v1 v2)(hpb:wz.heap.size<=pb)(hg:wz.heap.size<=gd)(hne:gd≠pb)(hB:BA W gd ys)(hbl:Below wz.heap.size wz W):RZ wz d ys N (.pointer (some ⟨pb,0,none⟩)) (((W.setCell ⟨pb,0,none⟩ (.bool d)).setCell ⟨pb,1,none⟩ u).setCell ⟨pb,2,none⟩ (.slice (some ⟨gd,0,none⟩) N N)):=⟨pb,gd,u,rfl,hpb,hb.sets,hg,hne,((hB.other (p:=⟨pb,0,none⟩) hne _).other (p:=⟨pb,1,none⟩) hne _).other (p:=⟨pb,2,none⟩) hne _,((hbl.setCell (p:=⟨pb,0,none⟩) hpb _).setCell (p:=⟨pb,1,none⟩) hpb _).setCell (p:=⟨pb,2,none⟩) hpb _⟩
def AO.one'(w:World)(x:Int)(g:Nat)(hg:g=w.heap.size):AO (w.alloc (.cells #[.int .i64 x] 3)) (some ⟨g,0,none⟩) 1 [x]:=by subst hg;exact AO.one w x
def KV(c d:Bool)(a1 a2 b1 b2:Addr)(n1 n2 m1 m2 c1 c2 d1 d2:Nat)(sh dt sh' dt':List Int)(w:World)(h1:AO w (some a1) n1 sh)(h2:AO w (some a2) n2 dt)(k1:AO w (some b1) m1 sh')(k2:AO w (some b2) m2 dt')(hrc:Ap c d sh dt sh' dt'=0)(hn:dt.all BE=true)(hs:Am dt=true)(N:Nat)(hN:AM dt=(N:Int))(hm:m2<=10000):Calls prog 98 #[.agg #[.bool c,.slice (some a1) n1 c1,.slice (some a2) n2 c2],.agg #[.bool d,.slice (some b1) m1 d1,.slice (some b2) m2 d2]] w (Ag w ⟨d,dt,Bg (BP d [(m2:Int)] dt' (MV (max m2 1)) [(N:Int)]) N,0⟩):=by
 have HRC:=AD hrc;have HNG:Hid ((!dt.all BE)=false):=by rw[hn];exact AD rfl
 have HSB:=AD hs;have HN:=AD hN;have HIN:=AD (DE hs).1;have hNb:N<=10000:=by have:=HIN.out.bd;omega
 have hs2:=h2.small;have hs4:=k2.small;have H1:=AD h1;have H2:=AD h2;have K1:=AD k1;have K2:=AD k2;clear h1 h2 k1 k2 hrc hn hs hN;go_enter func98,ntmps98;go_upto_region 9 with(first|(go_at_call 57;refine(Ao c d (some a1) (some a2) (some b1) (some b2) n1 n2 m1 m2 c1 c2 d1 d2 sh dt sh' dt' _ ((((AA H1).alloc _).alloc _).alloc _) ((((AA H2).alloc _).alloc _).alloc _) ((((AA K1).alloc _).alloc _).alloc _) ((((AA K2).alloc _).alloc _).alloc _) _ HRC).mono ?_;rintro e w1⟨rfl,hb1⟩;obtain⟨B0,B1,B2,hB1⟩:=Az hb1;have HB0:=AD B0;have HB1:=AD B1;have HB2:=AD B2;have HB:=AD hB1;obtain⟨x0,x1,x2,x3,x4,x5,x6⟩:=B0.all;obtain⟨y0,y1,y2,y3,y4,y5,y6⟩:=B1.all;obtain⟨q0,q1,q2,q3,q4,q5,q6⟩:=B2.all;clear hb1 hB1 B0 B1 B2)|(go_at_call 169;refine(DJ _ _ _ dt _ ((AA H2).below AC (AA HB)) _ HNG).mono ?_;rintro e w2⟨rfl,hw⟩;obtain rfl:=hw.symm)|(go_at_call 114;refine(CR _ _ _ dt _ ((AA H2).below AC (AA HB)) _ HSB).mono ?_;rintro e w3⟨rfl,hw⟩;obtain rfl:=hw.symm));obtain⟨cnt,hcnt⟩:∃cnt:Nat,cnt=max m2 1:=⟨_,rfl⟩
 have hmx:(if(m2:Int)<1 then 1 else(m2:Int))=(cnt:Int):=by rw[hcnt];split<;>omega
 have hc0:0<cnt:=by omega
 have hcb:cnt<=10000:=by omega
 simp only[hmx];have HCNT:=AD hcnt;clear hcnt hmx;obtain⟨pc,hpc⟩:∃pc,pc=w1.heap.size:=⟨_,rfl⟩
 obtain⟨bx,hbx⟩:∃bx,bx=w.heap.size+1+1:=⟨_,rfl⟩
 obtain⟨wz,hwz⟩:∃wz,wz=w1.alloc (.cells #[.int .i64 (cnt:Nat)] 3):=⟨_,rfl⟩
 have hzz:wz.heap.size=pc+1:=by rw[hwz,hpc];simp
 have hzb:bx<pc:=by rw[hbx,hpc];exact q6
 have HZ0:Hid (Ai wz w.heap.size c (.slice (some a1) n1 c1) (.slice (some a2) n2 c2)):=by rw[hwz];exact(AA HB0).alloc _
 have HZ1:Hid (Ai wz (w.heap.size+1) d (.slice (some b1) m1 d1) (.slice (some b2) m2 d2)):=by rw[hwz];exact(AA HB1).alloc _
 have HZ2:Hid (Ai wz bx false (.slice none 0 0) (.slice none 0 0)):=by rw[hwz,hbx];exact(AA HB2).alloc _
 have HZT:Hid (wz.cell? ⟨pc,0,none⟩=some (.int .i64 (cnt:Nat))):=by have h3:=World.alloc_heap_new w1 (.cells #[.int .i64 (cnt:Nat)] 3);rw[<-hwz,<-hpc]at h3;show _=_;simp[World.cell?,h3]
 have HBZ:Hid (Below w.heap.size w wz):=by rw[hwz];exact(AA HB).alloc (by omega) _
 rw[<-hwz,<-hpc,<-hbx];have hwb:w.heap.size+1<bx:=by omega
 have hzp:pc<wz.heap.size:=by omega
 clear hzz;clear hwz hpc hbx HB0 HB1 HB2 HB x0 x1 x2 x3 x4 x5 x6 y0 y1 y2 y3 y4 y5 y6 q0 q1 q2 q3 q4 q5 q6 HRC HNG HSB;have K2Z:=AD ((AA K2).below AC (AA HBZ));have H2Z:=AD ((AA H2).below AC (AA HBZ));clear H1 H2 K1 K2;go_cut[8] (fun v wx=>RZ wz d (Bg (BP d [(m2:Int)] dt' (MV cnt) [(N:Int)]) N) N v wx);case first=>
  have HKEEP:∀wx,Below wz.heap.size wz wx->wx.cell? ⟨w.heap.size+1,0,none⟩=some (.bool d)/\wx.cell? ⟨w.heap.size+1,1,none⟩=some (.slice (some b1) m1 d1)/\wx.cell? ⟨w.heap.size+1,2,none⟩=some (.slice (some b2) m2 d2)/\wx.cell? ⟨w.heap.size,2,none⟩=some (.slice (some a2) n2 c2):=fun wx hwx=>by obtain⟨y0,y1,y2,_,_,_⟩:=(AA HZ1).all;obtain⟨x0,x1,x2,_,_,_⟩:=(AA HZ0).all;exact⟨(hwx.cell (p:=⟨w.heap.size+1,0,none⟩) (by show w.heap.size+1<_;omega)).trans y0,(hwx.cell (p:=⟨w.heap.size+1,1,none⟩) (by show w.heap.size+1<_;omega)).trans y1,(hwx.cell (p:=⟨w.heap.size+1,2,none⟩) (by show w.heap.size+1<_;omega)).trans y2,(hwx.cell (p:=⟨w.heap.size,2,none⟩) (by show w.heap.size<_;omega)).trans x2⟩
  obtain⟨y0,y1,y2,x2⟩:=HKEEP _ AG
  go_region_held3 (fun wx=>wx.cell? ⟨w.heap.size+1,0,none⟩=some (.bool d)/\wx.cell? ⟨w.heap.size+1,1,none⟩=some (.slice (some b1) m1 d1)/\wx.cell? ⟨w.heap.size+1,2,none⟩=some (.slice (some b2) m2 d2)/\wx.cell? ⟨w.heap.size,2,none⟩=some (.slice (some a2) n2 c2)) (first|(refine HKEEP _ ?_;repeat(first|exact hKG|exact hKL|exact AG|refine BF ?_|refine BD ?_ (by first|exact AC|exact hKL.size|exact hKG.size|(simp<;>omega)) _|refine BU ?_ (by first|exact hPg|(simp<;>omega)) _))) (first
   |(go_at_call 170;go_loud (refine(MY d _ (some b2) m2 d2 _).mono ?_);rintro e wL⟨s,rfl,hsl,hBs,hbL⟩;have hKL:Below wz.heap.size wz wL:=(by refine DZ ?_ (hbL.mono (by first|exact AC|(simp<;>omega)));repeat(first|exact AG|refine BF ?_|refine BD ?_ (by first|exact AC|(simp<;>omega)) _));have hzL:=hKL.size;have HBS:=AD hBs;(first|(have hPL:=AD (Ue wz hbL))|(have hPL:=AD (Ud wz hbL))|skip);clear hBs hbL hsl y0 y1 y2 x2;obtain⟨y0,y1,y2,x2⟩:=HKEEP _ hKL)
   |(go_at_call 116;go_loud (refine(FA _ _ _ dt _ (by first|exact(AA H2Z).below AC hKL|exact((AA H2Z).below AC hKL).alloc _) (AA HIN) N HN).mono ?_);rintro e wN⟨rfl,hwN⟩;obtain rfl:=hwN.symm)
   |(go_at_call 59;go_loud (refine(EG d (some ⟨s,0,none⟩) (some b2) _ 1 m2 1 d2 1 1 [(m2:Int)] dt' [(N:Int)] 171 _ aQ (MV cnt) _ N (by first|exact((AA HBS).alloc _).row rfl (by omega)|exact(((AA HBS).alloc _).alloc _).row rfl (by omega)) (by first|exact((AA K2Z).below AC hKL).alloc _|exact(((AA K2Z).below AC hKL).alloc _).alloc _) (by first|exact AO.one' _ _ _ rfl|exact(AO.one' _ _ _ rfl).alloc _|exact AO.one' _ _ _ (by simp)|exact(AO.one' _ _ _ (by simp)).alloc _) (JI (by omega)) (JI (by omega)) (by omega) (JU _) (JU _) (Zp pc cnt N _ (by first|exact((hKL.alloc hKL.size _).cell (p:=⟨pc,0,none⟩) (by show pc<_;omega)).trans (AA HZT)|exact(((hKL.alloc hKL.size _).alloc (by have:=hKL.size;simp;omega) _).cell (p:=⟨pc,0,none⟩) (by show pc<_;omega)).trans (AA HZT)) hc0 hcb 1 AC)).mono ?_);rintro e wG⟨gd,rfl,hgd,hBG,hbG⟩;have hKG:Below wz.heap.size wz wG:=(by refine DZ ?_ (hbG.mono (by have:=hKL.size;simp;omega));repeat(first|exact hKL|refine BD ?_ (by have:=hKL.size;first|exact hKL.size|(simp<;>omega)) _));have hzG:=hKG.size;have hgz:wz.heap.size<=gd:=(by have:=hKL.size;simp at hgd;omega);have HBG:=AD hBG;(first|(have hPG0:=((AA hPL).alloc _).below AC hbG)|(have hPG0:=(Ai.new _ _ _ _).below AC hbG)|(have hPG0:=((Ai.new _ _ _ _).alloc _).below AC hbG)|skip);(first|(simp only[World.size_alloc]at hPG0;have hPG:=AD hPG0;clear hPG0)|(have hPG:=AD hPG0;clear hPG0)|skip);(first|(obtain⟨r0,r1,r2,r3,r4,r5,r6⟩:=(AA hPG).all;(try simp at r0 r1 r2 r3 r4 r5 r6))|skip);clear hBG hbG y0 y1 y2 x2;obtain⟨y0,y1,y2,x2⟩:=HKEEP _ hKG))
  all_goals go_wp2_with fail
  all_goals(go_meet;case rel=>first|exact RZ.set (AA hPG) (by omega) hgz (by simp at hgd;omega) (AA HBG) hKG|exact RZ.new hKG.size hgz (AA HBG) hKG|exact RZ.set (Ai.new _ _ _ _) hKG.size hgz (by have:=(AA HBG).lt;omega) ((AA HBG).alloc _) (hKG.alloc hKG.size _))
 case rest=>
  obtain⟨w3,hw3⟩:∃x,x=wc:=⟨_,rfl⟩
  subst hw3;obtain⟨pb,gd,u,rfl,hpb,hbx,hgz,hne,hB,hbl⟩:=hcut;obtain⟨x0,x1,x2,_,_,_⟩:=((AA HZ0).below AC hbl).all;have H23:=AD ((AA H2Z).below AC hbl);have HBL:=AD hbl;have HBX:=AD hbx;have HB:=AD hB;have hz3:=hbl.size;have hlb:=hbx.all.2.2.2.2.2.2;have hlg:=hB.lt;clear hbl hbx hB;go_wp2_with(go_at_call 63;refine(Fo a2 n2 c2 dt _ (AA H23)).mono ?_;rintro e wC⟨ash,csh,rfl,hcap,hO,hbC⟩;have HO:=AD hO;have HKC:=AD hbC;have HXC:=AD ((AA HBX).below AC hbC);have HX1:=AD ((AA HXC).setG1 (.slice ash n2 csh));have HZC:=AD (((AA HZ2).below AC (AA HBL)).below AC hbC);have HZX:=AD ((AA HZC).other (q:=⟨pb,1,none⟩) (by show bx≠pb;omega) (.slice ash n2 csh));obtain⟨b0,b1,b2,b3,b4,b5,b6⟩:=(AA HXC).all;obtain⟨e0,e1,e2,e3,e4,e5,e6⟩:=(AA HX1).all;obtain⟨r0,r1,r2,r3,r4,r5,r6⟩:=(AA HZX).all;clear hcap hO hbC);have HKC':=AA HKC;have hsz:=HKC'.size;have hres:=I3.set (w:=w) (W:=wC.setCell ⟨pb,1,none⟩ (.slice ash n2 csh)) (d:=d) (zs:=dt) (ys:=Bg (BP d [(m2:Int)] dt' (MV cnt) [(N:Int)]) N) (n:=n2) (N:=N) (box:=bx) (gd:=gd) (csh:=csh) (ash:=ash) (AA HZX) (((AA HO).mono (by omega)).other (fun k hk=>by have:=(AA HO).low hk;show k≠pb;omega) _) (by omega) (((AA HB).below AC HKC').other (p:=⟨pb,1,none⟩) hne _) (fun h=>by have:=(AA HO).low h;omega) (((AA HBZ).trans (((AA HBL).mono (by omega)).trans (HKC'.mono (by omega)))).setCell (p:=⟨pb,1,none⟩) (by show w.heap.size<=pb;omega) _) (fun h=>by have:=(AA HO).low h;omega) (by omega) (by omega);obtain⟨ash',csh',gd',hb,hO',hgd',hB',hne',hbl'⟩:=hres;obtain⟨q0,q1,q2,q3,q4,q5,q6⟩:=hb.all;refine bodyPost_ret (v:=.tuple #[.agg #[.bool d,.slice ash' n2 csh',.slice (some ⟨gd',0,none⟩) N N],.int .i64 0]) (by simp[results,results98,go_sem,q0,q1,q2]) rfl ?_;rw[<-HCNT.out];exact Ej (by simp[Bg]) (by omega) hO' hgd' hB' hne' hbl'
end
def Ns{c d:Bool}{sh dt sh' dt':List Int}(h:AJ c sh dt=false):Ap c d sh dt sh' dt'=3:=by unfold Ap;rw[AH (by simp[h])]
def Nr{c d:Bool}{sh dt sh' dt':List Int}(h:AJ d sh' dt'=false):Ap c d sh dt sh' dt'=3:=by unfold Ap;rw[AH (by simp[h])]
def RG{c d:Bool}{sh dt sh' dt':List Int}(h:AJ c sh dt=true)(h':AJ d sh' dt'=true):Ap c d sh dt sh' dt'=Ae c sh.length:=by unfold Ap;rw[AI ⟨h,h'⟩]
def LW(c d:Bool)(a1 a2 b1 b2:Addr)(n1 n2 m1 m2 c1 c2 d1 d2:Nat)(sh dt sh' dt':List Int)(w:World)(h1:AO w (some a1) n1 sh)(h2:AO w (some a2) n2 dt)(k1:AO w (some b1) m1 sh')(k2:AO w (some b2) m2 dt'):Calls prog 98 #[.agg #[.bool c,.slice (some a1) n1 c1,.slice (some a2) n2 c2],.agg #[.bool d,.slice (some b1) m1 d1,.slice (some b2) m2 d2]] w (Ag w (Ca c d sh dt sh' dt')):=by
 cases hok:AJ c sh dt with
 |false=>rw[JR hok];exact E1 c d a1 a2 b1 b2 n1 n2 m1 m2 c1 c2 d1 d2 sh dt sh' dt' w h1 h2 k1 k2 3 (Ns hok) (by omega)
 |true=>
  cases hok':AJ d sh' dt' with
  |false=>rw[JQ hok'];exact E1 c d a1 a2 b1 b2 n1 n2 m1 m2 c1 c2 d1 d2 sh dt sh' dt' w h1 h2 k1 k2 3 (Nr hok') (by omega)
  |true=>
   have hcl:=RG hok hok';by_cases h0:Ae c sh.length=0
   .rw[h0]at hcl;cases hn:dt.all BE with
    |false=>rw[Kn hok hok' h0 hn];exact LU c d a1 a2 b1 b2 n1 n2 m1 m2 c1 c2 d1 d2 sh dt sh' dt' w h1 h2 k1 k2 hcl hn
    |true=>
     cases hs:Am dt with
     |false=>rw[Ko hok hok' h0 hn hs];exact LV c d a1 a2 b1 b2 n1 n2 m1 m2 c1 c2 d1 d2 sh dt sh' dt' w h1 h2 k1 k2 hcl hn hs
     |true=>
      have hc:=CS hs;obtain⟨N,hN⟩:∃N:Nat,Ac dt=(N:Int):=⟨(Ac dt).toNat,by omega⟩
      obtain⟨hin,hpr,_⟩:=AW hok';have hb:=hin.bd;rw[hpr,k2.len]at hb;rw[ME hok hok' h0 hn hs m2 N k2.len hN,<-UM];exact KV c d a1 a2 b1 b2 n1 n2 m1 m2 c1 c2 d1 d2 sh dt sh' dt' w h1 h2 k1 k2 hcl hn hs N (by rw[Bs dt hs];exact hN) (by omega)
   .rw[JP hok hok' _ rfl h0];exact E1 c d a1 a2 b1 b2 n1 n2 m1 m2 c1 c2 d1 d2 sh dt sh' dt' w h1 h2 k1 k2 _ hcl h0
section
open Go.Shelf
namespace Cutdropping
def FC(w:World)(p:Nat)(c:Bool)(v1 v2:Value)(hp:p=w.heap.size):Ai (w.alloc (.cells #[.bool c,v1,v2] 25)) p c v1 v2:=by subst hp;exact Ai.new w c v1 v2
def Vd{w:World}{p:Nat}{c:Bool}{v1 v2:Value}(h:Ai w p c v1 v2)(v:Value):Ai (w.setCell ⟨p,1,none⟩ v) p c v v2:=by unfold Ai at h ⊢;rw[Bj w p 1 _ _ _ h];simp
def code(c d:Bool)(a1 a2 b1 b2:Option Addr)(n1 n2 m1 m2 c1 c2 d1 d2:Nat)(sh dt sh' dt':List Int)(w:World)(h1:AO w a1 n1 sh)(h2:AO w a2 n2 dt)(k1:AO w b1 m1 sh')(k2:AO w b2 m2 dt')(r:Int)(hrc:Ap c d sh dt sh' dt'=r)(hr:r≠0):Calls prog 92 #[.agg #[],.agg #[.bool c,.slice a1 n1 c1,.slice a2 n2 c2],.agg #[.bool d,.slice b1 m1 d1,.slice b2 m2 d2]] w (Dm w (AT r)):=by
 have q:(r !=0)=true:=by simp[hr]
 have HCN:=AD hr;clear hr;obtain⟨W0,hW0⟩:∃W0,W0=(((w.alloc (.cells #[] 113)).alloc (.cells #[.bool c,.slice a1 n1 c1,.slice a2 n2 c2] 25)).alloc (.cells #[.bool d,.slice b1 m1 d1,.slice b2 m2 d2] 25)).alloc (.cells #[.bool false,.slice none 0 0,.slice none 0 0] 25):=⟨_,rfl⟩
 have hz0:w.heap.size+4<=W0.heap.size:=by rw[hW0];simp
 have HB0:Hid (Below w.heap.size w W0):=by rw[hW0];exact((((AN _ w).alloc AC _).alloc (by simp) _).alloc (by simp;omega) _).alloc (by simp;omega) _
 have HXH:Hid (W0.heap[w.heap.size]? =some (.cells #[] 113 (0,0))):=by rw[hW0];exact(Ab _ _ _ (by simp;omega)).trans ((Ab _ _ _ (by simp;omega)).trans ((Ab _ _ _ (by simp)).trans (World.alloc_heap_new w _)))
 have HX0:Hid (Ai W0 (w.heap.size+1) c (.slice a1 n1 c1) (.slice a2 n2 c2)):=by rw[hW0];exact((FC _ _ _ _ _ (by simp)).alloc _).alloc _
 have HX1:Hid (Ai W0 (w.heap.size+1+1) d (.slice b1 m1 d1) (.slice b2 m2 d2)):=by rw[hW0];exact(FC _ _ _ _ _ (by simp)).alloc _
 have HX2:Hid (Ai W0 (w.heap.size+1+1+1) false (.slice none 0 0) (.slice none 0 0)):=by rw[hW0];exact FC _ _ _ _ _ (by simp)
 have H1:=AD (h1.below AC HB0.out);have H2:=AD (h2.below AC HB0.out);have K1:=AD (k1.below AC HB0.out);have K2:=AD (k2.below AC HB0.out);have HP2:Hid (∀k,At a2 n2 k->k<w.heap.size):=fun k h=>h2.hi h;have HP4:Hid (∀k,At b2 m2 k->k<w.heap.size):=fun k h=>k2.hi h;have hs2:=h2.small;have hs4:=k2.small;have hs3:=k1.small;have HW0:=AD hW0;have HRC:=AD hrc;clear h1 h2 k1 k2 hrc hW0;go_enter func92,ntmps92;go_wp2_with(first|(go_at_call 57;rw[<-HW0.out];refine(Ao c d a1 a2 b1 b2 n1 n2 m1 m2 c1 c2 d1 d2 sh dt sh' dt' _ H1.out H2.out K1.out K2.out _ HRC).mono ?_;rintro e w1⟨rfl,hb1⟩;have HE1:=AD hb1;clear hb1;obtain⟨x0,x1,x2,x3,x4,x5,x6⟩:=(HX0.out.below AC HE1.out).all;obtain⟨y0,y1,y2,y3,y4,y5,y6⟩:=(HX1.out.below AC HE1.out).all;obtain⟨q0,q1,q2,q3,q4,q5,q6⟩:=(HX2.out.below AC HE1.out).all));refine bodyPost_ret (v:=.tuple #[.agg #[.bool false,.slice none 0 0,.slice none 0 0],.int .i64 r]) (by simp[results,results92,go_sem,q0,q1,q2]) rfl ?_;exact Gf HCN.out ((((HB0.out.trans (HE1.out.mono (by omega))).setCell (by simp<;>omega) _).setCell (by simp<;>omega) _).setCell (by simp<;>omega) _)
def rest(c d:Bool)(a1 a2 b1 b2:Option Addr)(n1 n2 m1 m2 c1 c2 d1 d2:Nat)(sh dt sh' dt':List Int)(w:World)(h1:AO w a1 n1 sh)(h2:AO w a2 n2 dt)(k1:AO w b1 m1 sh')(k2:AO w b2 m2 dt')(hrc:Ap c d sh dt sh' dt'=0)(hok:AJ c sh dt=true)(hok':AJ d sh' dt'=true)(bs:List Int)(hbs:bs=Al n2 sh')(R:Ic)(hR5:bs.length≠n2->R=AT 5)(hR7:bs.length=n2->Am (Cs Bx dt bs n2)=false->R=AT 7)(hRG:bs.length=n2->Am (Cs Bx dt bs n2)=true->R=⟨d,Cs Bx dt bs n2,Bg (BP d bs dt' (IG (Cs Cu dt bs n2)) (Cs Bx dt bs n2)) (Ac (Cs Bx dt bs n2)).toNat,0⟩):Calls prog 92 #[.agg #[],.agg #[.bool c,.slice a1 n1 c1,.slice a2 n2 c2],.agg #[.bool d,.slice b1 m1 d1,.slice b2 m2 d2]] w (Dm w R):=by
 have HR5:Hid (bs.length≠n2->R=AT 5):=hR5;have HR7:Hid (bs.length=n2->Am (Cs Bx dt bs n2)=false->R=AT 7):=hR7;have HRG:Hid (bs.length=n2->Am (Cs Bx dt bs n2)=true->R=⟨d,Cs Bx dt bs n2,Bg (BP d bs dt' (IG (Cs Cu dt bs n2)) (Cs Bx dt bs n2)) (Ac (Cs Bx dt bs n2)).toNat,0⟩):=hRG;clear hR5 hR7 hRG;have hl1:=k1.len;have HPB:Hid (AM bs=(m2:Int)):=by
  obtain⟨_,hpr,_⟩:=AW hok';rw[k2.len]at hpr;rw[hbs];unfold Al;split
  .rename_i e;rw[e]at hpr;rw[(IU n2).2];exact hpr
  .exact hpr
 have HSI:Hid (Aq bs):=by rw[hbs];unfold Al;split;exact(IU n2).1;exact(AW hok').1
 have hn2:n2<=10000:=by obtain⟨hin,hp,_⟩:=AW hok;have:=hin.bd;rw[hp,h2.len]at this;omega
 obtain⟨W0,hW0⟩:∃W0,W0=(((w.alloc (.cells #[] 113)).alloc (.cells #[.bool c,.slice a1 n1 c1,.slice a2 n2 c2] 25)).alloc (.cells #[.bool d,.slice b1 m1 d1,.slice b2 m2 d2] 25)).alloc (.cells #[.bool false,.slice none 0 0,.slice none 0 0] 25):=⟨_,rfl⟩
 have hz0:w.heap.size+4<=W0.heap.size:=by rw[hW0];simp
 have HB0:Hid (Below w.heap.size w W0):=by rw[hW0];exact((((AN _ w).alloc AC _).alloc (by simp) _).alloc (by simp;omega) _).alloc (by simp;omega) _
 have HXH:Hid (W0.heap[w.heap.size]? =some (.cells #[] 113 (0,0))):=by rw[hW0];exact(Ab _ _ _ (by simp;omega)).trans ((Ab _ _ _ (by simp;omega)).trans ((Ab _ _ _ (by simp)).trans (World.alloc_heap_new w _)))
 have HX0:Hid (Ai W0 (w.heap.size+1) c (.slice a1 n1 c1) (.slice a2 n2 c2)):=by rw[hW0];exact((FC _ _ _ _ _ (by simp)).alloc _).alloc _
 have HX1:Hid (Ai W0 (w.heap.size+1+1) d (.slice b1 m1 d1) (.slice b2 m2 d2)):=by rw[hW0];exact(FC _ _ _ _ _ (by simp)).alloc _
 have HX2:Hid (Ai W0 (w.heap.size+1+1+1) false (.slice none 0 0) (.slice none 0 0)):=by rw[hW0];exact FC _ _ _ _ _ (by simp)
 have H1:=AD (h1.below AC HB0.out);have H2:=AD (h2.below AC HB0.out);have K1:=AD (k1.below AC HB0.out);have K2:=AD (k2.below AC HB0.out);have HP2:Hid (∀k,At a2 n2 k->k<w.heap.size):=fun k h=>h2.hi h;have HP4:Hid (∀k,At b2 m2 k->k<w.heap.size):=fun k h=>k2.hi h;have hs2:=h2.small;have hs4:=k2.small;have hs3:=k1.small;have HW0:=AD hW0;have HRC:=AD hrc;clear h1 h2 k1 k2 hrc hW0;go_enter func92,ntmps92
 go_upto_if 21 with(first|(go_at_call 57;rw[<-HW0.out];refine(Ao c d a1 a2 b1 b2 n1 n2 m1 m2 c1 c2 d1 d2 sh dt sh' dt' _ H1.out H2.out K1.out K2.out _ HRC).mono ?_;rintro e w1⟨rfl,hb1⟩;have HE1:=AD hb1;clear hb1;obtain⟨x0,x1,x2,x3,x4,x5,x6⟩:=(HX0.out.below AC HE1.out).all;obtain⟨y0,y1,y2,y3,y4,y5,y6⟩:=(HX1.out.below AC HE1.out).all;obtain⟨q0,q1,q2,q3,q4,q5,q6⟩:=(HX2.out.below AC HE1.out).all))
 obtain⟨L,hL⟩:∃L,L=bs.length:=⟨_,rfl⟩
 go_cut[] (fun wx=>∃sa ca,Ai wx (w.heap.size+1+1) d (.slice sa L ca) (.slice b2 m2 d2)/\AO wx sa L bs/\BS (fun k=>k=w.heap.size+1+1) w1 wx);case first=>
  by_cases hm0:m1=0
  .have hb2:bs=List.replicate n2 1:=by rw[hbs];unfold Al;rw[AI (Af.1 (by rw[hl1];exact hm0))]
   have hL2:L=n2:=by rw[hL,hb2];simp
   have hq:((m1:Int)==0)=true:=by simp[hm0]
   have HB2:=AD hb2;have HL2:=AD hL2;clear hb2 hL2 hL hbs hm0;go_wp2_with(go_at_call 148;refine(Fx ⟨w1.heap.size,0,none⟩ _ n2 1 _ (AO.one w1 1) hn2).mono ?_;rintro e wR⟨rfl,hR1,hR2⟩;have HR1:=AD hR1;have HR2:=AD (((AN _ w1).alloc AC _).trans (hR2.mono (by simp)));clear hR1 hR2 y0 y1 y2 y3 y4 y5;obtain⟨y0,y1,y2,y3,y4,y5,y7⟩:=((HX1.out.below AC HE1.out).below AC HR2.out).all)
   go_meet
   case rel=>
    have hbox:=(HX1.out.below AC HE1.out).below AC HR2.out;refine⟨some ⟨w1.heap.size+1,0,none⟩,n2,?_,?_,?_⟩
    .rw[HL2.out];exact Vd hbox _
    .rw[HL2.out,HB2.out];have h3:=HR1.out;rw[World.size_alloc]at h3;exact(h3.other (p:=⟨w.heap.size+1+1,1,none⟩) (by have:=HE1.out.size;show w1.heap.size+1≠w.heap.size+1+1;omega) _).row (by simp) (by omega)
    .exact(BS.of_below (S:=fun k=>k=w.heap.size+1+1) HR2.out).setCell (p:=⟨w.heap.size+1+1,1,none⟩) rfl _
  .have hb2:bs=sh':=by rw[hbs];unfold Al;rw[AH (fun e=>hm0 (by rw[<-hl1,e];rfl))]
   have hL2:L=m1:=by rw[hL,hb2,hl1]
   have hq:((m1:Int)==0)=false:=by simp[hm0]
   have HB2:=AD hb2;have HL2:=AD hL2;clear hb2 hL2 hL hbs hm0;go_wp2_with fail
   go_meet
   case rel=>exact⟨b1,d1,by rw[HL2.out];exact HX1.out.below AC HE1.out,by rw[HL2.out,HB2.out];exact K1.out.below AC HE1.out,BS.refl _ _⟩
 case rest=>
  obtain⟨w2,hw2⟩:∃x,x=wc:=⟨_,rfl⟩
  subst hw2;obtain⟨sa,ca,hbox,E2,hbut⟩:=hcut;clear x0 x1 x2 x3 x4 x5 x6 y0 y1 y2 y3 y4 y5 y6 q0 q1 q2 q3 q4 q5 q6;have hz1:=HE1.out.size;have hz2:=hbut.size;have hb2:BS (fun k=>k=w.heap.size+1+1) W0 w2:=((BS.of_below (S:=fun k=>k=w.heap.size+1+1) HE1.out).trans hbut).mono (by rintro k(h|h)<;>exact h);have HY0:Hid (Ai w2 (w.heap.size+1) c (.slice a1 n1 c1) (.slice a2 n2 c2)):=(hb2.block _ (by omega) (by omega)).trans HX0.out;have HY2:Hid (Ai w2 (w.heap.size+1+1+1) false (.slice none 0 0) (.slice none 0 0)):=(hb2.block _ (by omega) (by omega)).trans HX2.out;have HYH:Hid (w2.heap[w.heap.size]? =some (.cells #[] 113 (0,0))):=(hb2.block _ (by omega) (by omega)).trans HXH.out;have HB2:Hid (Below w.heap.size w w2):=HB0.out.trans (hb2.below (by omega) (by rintro k rfl;omega));have H22:=AD (hb2.row H2.out (by rintro k rfl h;have:=HP2.out _ h;omega));have K22:=AD (hb2.row K2.out (by rintro k rfl h;have:=HP4.out _ h;omega));have hzz:w.heap.size+4<=w2.heap.size:=by omega
  have HY1:=AD hbox;have HROW:=AD E2;obtain⟨bx,hbx⟩:∃bx,bx=w.heap.size+1+1+1:=⟨_,rfl⟩
  rw[<-hbx]at HY2 ⊢;have hwb:w.heap.size+1+1<bx:=by omega
  have hbz:bx<w2.heap.size:=by omega
  have hbxl:bx=w.heap.size+3:=by omega
  have HBXL:=AD hbxl;obtain⟨x0,x1,x2,x3,x4,x5,x6⟩:=HY0.out.all;obtain⟨y0,y1,y2,y3,y4,y5,y6⟩:=HY1.out.all;obtain⟨q0,q1,q2,q3,q4,q5,q6⟩:=HY2.out.all;have hsL:=E2.small;have HLEN:=AD E2.len;clear hbxl hbx hbox E2 hbut hb2 HX0 HX1 HX2 HXH HB0 HE1 H1 H2 K1 K2 HW0 HP2 HP4 HRC hz0 hz1 hz2 hbs hL hl1;by_cases hne:L=n2
  .subst hne;clear HR5;have HDB:Hid (∀k,k<L→-1000000000000000<=dt.getD k 0/\dt.getD k 0<=1000000000000000):=fun k hk=>Bl hok (by rw[H22.out.len];exact hk);have HSB:Hid (∀k,0<=bs.getD k 0/\bs.getD k 0<=10000):=fun k=>HSI.out.cell k;have hyh:=HYH.out;go_upto_region 9 with(go_at_call 163;refine(Spansdropping.cy a2 sa L c2 ca dt bs _ H22.out HROW.out hn2 HDB.out HSB.out).mono ?_;rintro e wS⟨gf,gs,rfl,hf,hs,bgf,bgs,nfs,hbl⟩;have HFS:=AD hf;have HGSS:=AD hs;have HBS:=AD hbl;have HB1:=AD bgf;have HB3:=AD bgs;have HNF:=AD nfs;clear hf hs hbl bgf bgs nfs);have bgf:=HB1.out;have bgs:=HB3.out;have nfs:=HNF.out;obtain⟨pf,hpf⟩:∃p,p=wS.heap.size:=⟨_,rfl⟩
   obtain⟨w3,hw3⟩:∃W,W=wS.alloc (.cells #[.slice (some ⟨gf,0,none⟩) L L] 23):=⟨_,rfl⟩
   have HPFR:Hid (w3.heap[pf]? =some (.cells #[.slice (some ⟨gf,0,none⟩) L L] 23 (0,0))):=by rw[hw3,hpf];exact World.alloc_heap_new wS _
   have HFF:Hid (BA w3 gf (Cs Cu dt bs L)):=by rw[hw3];exact HFS.out.alloc _
   have HGG:Hid (BA w3 gs (Cs Bx dt bs L)):=by rw[hw3];exact HGSS.out.alloc _
   have HBW:Hid (Below w2.heap.size w2 w3):=by rw[hw3];exact HBS.out.alloc HBS.out.size _
   have hzr:=HBW.out.size;rw[<-hw3,<-hpf];clear hw3 hpf HFS HGSS HBS HB1 HB3 HNF hyh x0 x1 x2 x3 x4 x5 x6 y0 y1 y2 y3 y4 y5 y6 q0 q1 q2 q3 q4 q5 q6;obtain⟨zz,hzz'⟩:∃zz,zz=Cs Bx dt bs L:=⟨_,rfl⟩
   obtain⟨ss,hss⟩:∃ss,ss=Cs Cu dt bs L:=⟨_,rfl⟩
   have HG:Hid (BA w3 gs zz):=by rw[hzz'];exact HGG.out
   have HF:Hid (BA w3 gf ss):=by rw[hss];exact HFF.out
   have HZL:Hid (zz.length=L):=by rw[hzz'];exact Jd _ _ _ _
   have HSL:Hid (ss.length=L):=by rw[hss];exact Jd _ _ _ _
   have HSBD:Hid (∀i,i<L→-1000000000010000<=ss.getD i 0/\ss.getD i 0<=1000000000010000):=fun i hi=>by rw[hss,Qa _ _ _ _ _ hi];exact Nw (HDB.out i hi) (HSB.out i)
   have HA1:Hid (Ai w3 (w.heap.size+1+1) d (.slice sa L ca) (.slice b2 m2 d2)):=HY1.out.below AC HBW.out;have HA2:Hid (Ai w3 bx false (.slice none 0 0) (.slice none 0 0)):=HY2.out.below AC HBW.out;have HRB:=AD (HROW.out.below AC HBW.out);have HRD:=AD (K22.out.below AC HBW.out);obtain⟨z0,z1,z2,z3,z4,z5,z6⟩:=HA1.out.all;obtain⟨q0,q1,q2,q3,q4,q5,q6⟩:=HA2.out.all;rw[<-hzz']at HR7 HRG;rw[<-hss]at HRG;clear hzz' hss HFF HGG;cases hsb:Am zz with
   |false=>
    have HR:=AD (HR7.out HLEN.out hsb);have HSBQ:=AD hsb;clear hsb HR7 HRG;go_wp2_with(go_at_call 114;refine(CR _ _ _ zz _ (HG.out.row HZL.out (by omega)) _ HSBQ).mono ?_;rintro e w5⟨rfl,hw⟩;obtain rfl:=hw.symm);refine bodyPost_ret (v:=.tuple #[.agg #[.bool false,.slice none 0 0,.slice none 0 0],.int .i64 7]) (by simp[results,results92,go_sem,q0,q1,q2]) rfl ?_;rw[HR.out];exact Gf (by decide) ((((HB2.out.trans (HBW.out.mono (by omega))).setCell (by simp<;>omega) _).setCell (by simp<;>omega) _).setCell (by simp<;>omega) _)
   |true=>
    have HR:=AD (HRG.out HLEN.out hsb);have HSBQ:=AD hsb;obtain⟨hzi,hz5⟩:=DE hsb;have hcn:=CS hsb;obtain⟨N,hN⟩:∃N:Nat,Ac zz=(N:Int):=⟨(Ac zz).toNat,by omega⟩
    have HPN:Hid (AM zz=(N:Int)):=by rw[Bs zz hsb];exact hN
    have hNb:N<=10000:=by omega
    have HTN:Hid ((Ac zz).toNat=N):=by rw[hN];exact DL N
    have HZI:=AD hzi;have h5:L<=5:=by rw[<-HZL.out];exact hz5
    clear hsb HR7 HRG hzi hz5 hcn hN;go_wp2_with(first|(go_at_call 114;refine(CR _ _ _ zz _ (HG.out.row HZL.out (by omega)) _ HSBQ).mono ?_;rintro e w5⟨rfl,hw⟩;obtain rfl:=hw.symm)|(go_at_call 59;refine(EG d sa b2 (some ⟨gs,0,none⟩) L m2 ca d2 L L bs dt' zz 164 _ My (IG ss) _ N HRB.out HRD.out (HG.out.row HZL.out (by omega)) HSI.out HZI.out h5 HPN.out HPB.out (M8 pf L L (some ⟨gf,0,none⟩) ss zz _ (by simp[World.cell?,HPFR.out]) (HF.out.row HSL.out (by omega)) HSBD.out HZL.out (fun i=>(HZI.out.cell i).2))).mono ?_;rintro e wG⟨gd,rfl,hgd,hBG,hbG⟩;have HKG:=AD hbG;have HBG:=AD hBG;have HGD:=AD hgd;clear hgd hBG hbG z0 z1 z2 z3 z4 z5 q0 q1 q2 q3 q4 q5 q6;obtain⟨q0,q1,q2,q3,q4,q5,q6⟩:=(HA2.out.below AC HKG.out).all));have hGl:=HG.out.lt;have hzG:=HKG.out.size;have hres:=I3.setC (w:=w) (d:=d) (zs:=zz) (n:=L) (N:=N) (csh:=L) (ash:=some ⟨gs,0,none⟩) (HA2.out.below AC HKG.out) (((HG.out.below AC HKG.out).own HZL.out (by omega) (by omega))) (by have:=HGD.out;omega) HBG.out (fun h=>by have:=DT h;have:=HGD.out;omega) ((HB2.out.trans (HBW.out.mono (by omega))).trans (HKG.out.mono (by omega))) (fun h=>by have:=DT h;omega) (by have:=HGD.out;omega) (by omega) AC;obtain⟨ash',csh',gd',hb,hO',hgd',hB',hne',hbl',hcp'⟩:=hres;obtain⟨r0,r1,r2,r3,r4,r5,r6⟩:=hb.all;refine bodyPost_ret (v:=.tuple #[.agg #[.bool d,.slice ash' L csh',.slice (some ⟨gd',0,none⟩) N N],.int .i64 0]) (by simp[results,results92,go_sem,r0,r1,r2]) rfl ?_;rw[HR.out,HTN.out];exact Tv (by simp[Bg]) (by omega) hO' hgd' hB' hne' hbl' hcp'
  .have HR:=AD (HR5.out (by rw[HLEN.out];exact hne));have hq:((n2:Int) !=(L:Int))=true:=by simp;omega
   go_wp2_with fail;refine bodyPost_ret (v:=.tuple #[.agg #[.bool false,.slice none 0 0,.slice none 0 0],.int .i64 5]) (by simp[results,results92,go_sem,q0,q1,q2]) rfl ?_;rw[HR.out];exact Gf (by decide) (((HB2.out.setCell (by simp<;>omega) _).setCell (by simp<;>omega) _).setCell (by simp<;>omega) _)
end Cutdropping
end
def Pb(c d:Bool)(a1 a2 b1 b2:Option Addr)(n1 n2 m1 m2 c1 c2 d1 d2:Nat)(sh dt sh' dt':List Int)(w:World)(h1:AO w a1 n1 sh)(h2:AO w a2 n2 dt)(k1:AO w b1 m1 sh')(k2:AO w b2 m2 dt'):Calls prog 92 #[.agg #[],.agg #[.bool c,.slice a1 n1 c1,.slice a2 n2 c2],.agg #[.bool d,.slice b1 m1 d1,.slice b2 m2 d2]] w (Dm w (I0 c d sh dt sh' dt')):=by
 unfold I0;cases hok:AJ c sh dt with
 |false=>rw[GE hok];exact Cutdropping.code c d a1 a2 b1 b2 n1 n2 m1 m2 c1 c2 d1 d2 sh dt sh' dt' w h1 h2 k1 k2 3 (II hok) (by omega)
 |true=>
  cases hok':AJ d sh' dt' with
  |false=>rw[GD hok'];exact Cutdropping.code c d a1 a2 b1 b2 n1 n2 m1 m2 c1 c2 d1 d2 sh dt sh' dt' w h1 h2 k1 k2 3 (IH hok') (by omega)
  |true=>
   have hcl:=Jv hok hok';by_cases h0:Ae c sh.length=0
   .rw[h0]at hcl;have hl:=h2.len;subst hl;refine Cutdropping.rest c d a1 a2 b1 b2 n1 dt.length m1 m2 c1 c2 d1 d2 sh dt sh' dt' w h1 h2 k1 k2 hcl hok hok' _ rfl _ (fun h=>ZM hok hok' h0 h) (fun h hz=> ?_) (fun h hz=> ?_)
    .show Dx false Hb (fun _=>Fa) c d sh dt sh' dt'=_;by_cases h5:dt.length<=5
     .have:=U2 hok' h h5;rw[XX]at this;rw[this]at hz;cases hz
     .exact RE hok hok' h0 h (by omega)
    .have hz':Am (Hb (Al dt.length sh') dt)=true:=hz;rw[Xe hok hok' h0 h hz' (IZ _ dt),<-XX,<-Yr]
   .rw[EA hok hok' _ (Gy rfl h0) h0];exact Cutdropping.code c d a1 a2 b1 b2 n1 n2 m1 m2 c1 c2 d1 d2 sh dt sh' dt' w h1 h2 k1 k2 _ hcl h0
def PP(c d:Bool)(a1 a2 b1 b2:Option Addr)(n1 n2 m1 m2 c1 c2 d1 d2:Nat)(sh dt sh' dt':List Int)(w:World)(h1:AO w a1 n1 sh)(h2:AO w a2 n2 dt)(k1:AO w b1 m1 sh')(k2:AO w b2 m2 dt'):Calls prog 33 #[.agg #[.bool c,.slice a1 n1 c1,.slice a2 n2 c2],.agg #[.bool d,.slice b1 m1 d1,.slice b2 m2 d2]] w (Dm w (I0 c d sh dt sh' dt')):=by
 obtain⟨R,hR⟩:∃R,I0 c d sh dt sh' dt'=R:=⟨_,rfl⟩
 have HC:Hid (∀W,Below w.heap.size w W->Calls prog 92 #[.agg #[],.agg #[.bool c,.slice a1 n1 c1,.slice a2 n2 c2],.agg #[.bool d,.slice b1 m1 d1,.slice b2 m2 d2]] W (Dm W R)):=fun W hW=>by rw[<-hR];exact Pb c d a1 a2 b1 b2 n1 n2 m1 m2 c1 c2 d1 d2 sh dt sh' dt' W (h1.below AC hW) (h2.below AC hW) (k1.below AC hW) (k2.below AC hW)
 rw[hR];clear hR h1 h2 k1 k2;obtain⟨W0,hW0⟩:∃W0,W0=((w.alloc (.cells #[.bool c,.slice a1 n1 c1,.slice a2 n2 c2] 25)).alloc (.cells #[.bool d,.slice b1 m1 d1,.slice b2 m2 d2] 25)).alloc (.cells #[.bool false,.slice none 0 0,.slice none 0 0] 25):=⟨_,rfl⟩
 have hz0:W0.heap.size=w.heap.size+1+1+1:=by rw[hW0];simp
 have HB0:Hid (Below w.heap.size w W0):=by rw[hW0];exact(((AN _ w).alloc AC _).alloc (by simp) _).alloc (by simp;omega) _
 have HX2:Hid (Ai W0 (w.heap.size+1+1) false (.slice none 0 0) (.slice none 0 0)):=by rw[hW0];exact Cutdropping.FC _ _ _ _ _ (by simp)
 have HW0:=AD hW0;have hzz:w.heap.size+1+1<W0.heap.size:=by omega
 clear hW0 hz0;obtain⟨r,rs,rd,rc⟩:=R;go_enter func33,ntmps33;go_wp2_with(go_at_call 92;rw[<-HW0.out];refine(HC.out _ HB0.out).mono ?_;rintro e w1⟨e1,l1,f1,e2,l2,f2,rfl,hO1,hO2,hap,hb1,hcp⟩;have HCP:=AD hcp;clear hcp;have HO1:=AD hO1;have HO2:=AD hO2;have HAP:Hid (Ip e1 l1 e2 l2):=hap;have HB1:=AD hb1;clear hO1 hO2 hap hb1;obtain⟨q0,q1,q2,q3,q4,q5,q6⟩:=(HX2.out.below AC HB1.out).all);have hx:=(HX2.out.below AC HB1.out).sets (c':=r) (u1:=.slice e1 l1 f1) (u2:=.slice e2 l2 f2);obtain⟨r0,r1,r2,_,_,_⟩:=hx.all;refine bodyPost_ret (v:=.tuple #[.agg #[.bool r,.slice e1 l1 f1,.slice e2 l2 f2],.int .i64 rc]) (by simp[results,results33,go_sem,r0,r1,r2]) rfl ?_;have hk1:∀k,At e1 l1 k->k≠w.heap.size+1+1:=fun k hk=>by have:=HO1.out.low hk;omega
 have hk2:∀k,At e2 l2 k->k≠w.heap.size+1+1:=fun k hk=>by have:=HO2.out.low hk;omega
 exact⟨e1,l1,f1,e2,l2,f2,rfl,(((HO1.out.mono (by omega)).other (q:=⟨w.heap.size+1+1,0,none⟩) hk1 _).other (q:=⟨w.heap.size+1+1,1,none⟩) hk1 _).other (q:=⟨w.heap.size+1+1,2,none⟩) hk1 _,(((HO2.out.mono (by omega)).other (q:=⟨w.heap.size+1+1,0,none⟩) hk2 _).other (q:=⟨w.heap.size+1+1,1,none⟩) hk2 _).other (q:=⟨w.heap.size+1+1,2,none⟩) hk2 _,HAP.out,(((HB0.out.trans (HB1.out.mono (by omega))).setCell (p:=⟨w.heap.size+1+1,0,none⟩) (by simp;omega) _).setCell (p:=⟨w.heap.size+1+1,1,none⟩) (by simp;omega) _).setCell (p:=⟨w.heap.size+1+1,2,none⟩) (by simp;omega) _,HCP.out⟩
