import Derived.Test.YtgjpchnkodnieaaGreatDoorZ14
import Derived.Test.YtgjpchnkodnieaaGreatDoorZ18
import Derived.Test.YtgjpchnkodnieaaGreatDoorZ21
import Derived.Deep.RegionHeld3
set_option maxRecDepth 20000
set_option maxHeartbeats 8000000
set_option linter.defProp false
namespace Go.Proofs.YtgjpchnkodnieaaGreatDoor
open Go.RowKit Tryz
section
open Go.Shelf
def AO.takeS{w:World}{b off n k:Nat}{zs:List Int}(h:AO w (some ⟨b,off,none⟩) n zs)(hk:k<=n):AO w (some ⟨b,off,none⟩) k (zs.take k):=by
 have hl:=h.len;refine⟨by simp;omega,by have:=h.small;omega,?_⟩;rcases h.at_ with h0|⟨b',o',e,hlt,hc⟩
 .exact .inl (by omega)
 .cases e;refine .inr ⟨b,off,rfl,hlt,fun i hi=> ?_⟩;rw[hc i (by omega)];simp[List.getD_eq_getElem?_getD,hi]
def AO.dropS{w:World}{b off n k:Nat}{zs:List Int}(h:AO w (some ⟨b,off,none⟩) n zs)(hk:k<=n):AO w (some ⟨b,off+k,none⟩) (n- k) (zs.drop k):=by
 have hl:=h.len;refine⟨by simp;omega,by have:=h.small;omega,?_⟩;rcases h.at_ with h0|⟨b',o',e,hlt,hc⟩
 .exact .inl (by omega)
 .cases e;refine .inr ⟨b,off+k,rfl,hlt,fun i hi=> ?_⟩;rw[show off+k+i=off+(k+i) by omega,hc (k+i) (by omega)];simp[List.getD_eq_getElem?_getD,List.getElem?_drop]
def AO.zeroS{w:World}{a:Option Addr}{zs:List Int}(h:zs= []):AO w a 0 zs:=⟨by rw[h];rfl,by omega,.inl rfl⟩
def AO.zeroS'{w:World}{a:Option Addr}{zs:List Int}{n:Nat}(h:zs.length=n+1):AO w a (n+1- (n+1)) (zs.drop (n+1)):=by rw[Nat.sub_self];exact AO.zeroS (List.drop_of_length_le (by omega))
def D9(a:Option Addr)(n cap:Nat)(sh:List Int)(w:World)(h:AO w a n sh)(hin:Aq sh)(r:Int)(hr:Hid (AM sh=r)):Calls prog 116 #[.slice a n cap] w fun e w'=>e=.returned (.int .i64 r)/\w'=w:=by rw[<-AA hr];exact GK a n cap sh w h (fun k=>(hin.take k).bd)
def NO(w:World)(B N A:Int)(others:List Int)(e:Ending)(w':World):Prop:=∃oa ol oc,e=.returned (.agg #[.int .i64 B,.int .i64 N,.int .i64 A,.slice oa ol oc])/\Bt w' (w.heap.size+1) oa ol others/\Below w.heap.size w w'
end
section
open Go.Shelf
def Xq{w wD:World}{B N A:Int}{oa:Option Addr}{ol oc:Nat}{zs:List Int}{x0 x1 x2 x3:Value}(hO:Bt wD (w.heap.size+1) oa ol zs)(hb:Below w.heap.size w wD):NO w B N A zs (.returned (.agg #[.int .i64 B,.int .i64 N,.int .i64 A,.slice oa ol oc])) ((((wD.setCell ⟨w.heap.size,0,none⟩ x0).setCell ⟨w.heap.size,1,none⟩ x1).setCell ⟨w.heap.size,2,none⟩ x2).setCell ⟨w.heap.size,3,none⟩ x3):=by
 have hk:∀k,At oa ol k->k≠w.heap.size:=fun k hk=>by have:=hO.low hk;omega
 exact⟨oa,ol,oc,rfl,(((hO.other hk _).other hk _).other hk _).other hk _,(((hb.setCell AC _).setCell AC _).setCell AC _).setCell AC _⟩
def NJ{w W0:World}(h:W0.heap[w.heap.size]? =some (.cells #[.int .i64 0,.int .i64 0,.int .i64 0,.slice none 0 0] 133 (0,0)))(wx:World)(hx:Below W0.heap.size W0 wx):w.heap.size<wx.heap.size/\(wx.cell? ⟨w.heap.size,0,none⟩=some (.int .i64 0)/\wx.cell? ⟨w.heap.size,1,none⟩=some (.int .i64 0)/\wx.cell? ⟨w.heap.size,2,none⟩=some (.int .i64 0)/\wx.cell? ⟨w.heap.size,3,none⟩=some (.slice none 0 0))/\wx.frozen? ⟨w.heap.size,0,none⟩=false/\wx.frozen? ⟨w.heap.size,1,none⟩=false/\wx.frozen? ⟨w.heap.size,2,none⟩=false/\wx.frozen? ⟨w.heap.size,3,none⟩=false:=by have hAB:=(hx.block _ (lt_of_block h)).trans h;exact⟨lt_of_block hAB,⟨cell_of_row _ _ 0 _ _ _ hAB,cell_of_row _ _ 1 _ _ _ hAB,cell_of_row _ _ 2 _ _ _ hAB,cell_of_row _ _ 3 _ _ _ hAB⟩,CB _ _ 0 _ _ hAB,CB _ _ 1 _ _ hAB,CB _ _ 2 _ _ hAB,CB _ _ 3 _ _ hAB⟩
def S7(fl:Bool)(b off n c bg:Nat)(sh:List Int)(B N A:Int)(w:World)(h:AO w (some ⟨b,off,none⟩) (n+1) sh)(hc:n+1<=c)(hin:Aq sh)(hl5:n+1<=5)(hbg:(fl=true/\bg=0)\/(fl=false/\bg=n))(hB:AM (sh.take bg)=B)(hN:AM ((sh.drop bg).take 1)=N)(hA:AM (sh.drop (bg+1))=A):Calls prog 112 #[.slice (some ⟨b,off,none⟩) (n+1) c,.bool fl] w (NO w B N A (sh.take bg++sh.drop (bg+1))):=by
 have hs:=h.small;have hbn:bg<=n:=by omega
 have HIF:Hid (Aq (sh.take bg)):=hin.take _;have HIM:Hid (Aq ((sh.drop bg).take 1)):=(hin.drop _).take _;have HIB:Hid (Aq (sh.drop (bg+1))):=hin.drop _;have HRF:Hid (AO w (some ⟨b,off,none⟩) bg (sh.take bg)):=h.takeS (by omega);have HRM:Hid (AO w (some ⟨b,off+bg,none⟩) 1 ((sh.drop bg).take 1)):=(h.dropS (by omega)).takeS (by omega);have HRD:Hid (AO w (some ⟨b,off+(bg+1),none⟩) (n+1- (bg+1)) (sh.drop (bg+1))):=h.dropS (by omega);have HPB:=AD hB;have HPN:=AD hN;have HPA:=AD hA;have HLN:=AD h.len;clear h hB hN hA;have hf5:bg<=1000000:=by omega
 have hk5:n+1- (bg+1)<=1000000:=by omega
 go_enter func112,ntmps112
 go_upto_if 15 with fail
 go_cut[5,6] (fun s5 s6 wr=>s5=.int .i64 (bg:Nat)/\s6=.int .i64 ((bg:Int)+1)/\wr=(w.alloc (.cells #[.int .i64 0,.int .i64 0,.int .i64 0,.slice none 0 0] 133)));case first=>
  rcases hbg with⟨rfl,rfl⟩|⟨rfl,rfl⟩
  .go_wp2
   all_goals(go_meet;case rel=>exact⟨rfl,by go_num,rfl⟩)
  .go_wp2
   all_goals(go_meet;case rel=>exact⟨rfl,by go_num,rfl⟩)
 case rest=>
  obtain⟨rfl,rfl,rfl⟩:=hcut;clear hbg;go_upto_region 4 with fail;go_cut[7,8] (fun s7 s8 wr=>s7=.slice (some ⟨b,off,none⟩) bg c/\(∃pb cb,s8=.slice (some pb) (n+1- (bg+1)) cb/\Hid (AO w (some pb) (n+1- (bg+1)) (sh.drop (bg+1))))/\∃nq,wr=((w.alloc (.cells #[.int .i64 0,.int .i64 0,.int .i64 0,.slice none 0 0] 133)).drewN nq));case first=>
   by_cases hc1:c=bg+1
   .subst hc1;have hbn':n=bg:=by omega
    subst hbn';go_quiet(fail)
    go_wp2
    all_goals(go_meet;case rel=>exact⟨rfl,⟨⟨b,off,none⟩,0,by simp,AO.zeroS' (AA HLN)⟩,_,rfl⟩)
   .have hc2:bg+1<c:=by omega
    clear hc1;go_quiet(fail)
    go_wp2
    all_goals(go_meet;case rel=>exact⟨rfl,⟨⟨b,off+(bg+1),none⟩,c- (bg+1),by simp,HRD⟩,_,rfl⟩)
  case rest=>
   obtain⟨rfl,⟨pb,cb,rfl,HRB⟩,nq,rfl⟩:=hcut;clear HRD;obtain⟨kn,hkn⟩:∃kn,n+1- (bg+1)=kn:=⟨_,rfl⟩
   rw[hkn]at hk5 HRB ⊢;have hcb:bg+1<=c:=by omega
   have hcb2:bg<c:=by omega
   clear hkn;go_upto_region 5 with fail;obtain⟨W0,hW0⟩:∃W0,W0=((w.alloc (.cells #[.int .i64 0,.int .i64 0,.int .i64 0,.slice none 0 0] 133)).drewN nq):=⟨_,rfl⟩
   have hK0:Below w.heap.size w W0:=by rw[hW0];exact Below.drewN (AG.alloc AC _) _
   have hz0:W0.heap.size=w.heap.size+1:=by rw[hW0];simp
   have AB:=AD (NJ (w:=w) (W0:=W0) (by rw[hW0];exact heap_alloc_last w _));rw[<-hW0];clear hW0
   go_region_held (fun wx=>Below w.heap.size W0 wx) (first|(repeat(first|exact hKD.mono (by omega)|exact AG|refine BF ?_|refine BU ?_ (by first|omega|(simp<;>omega)) _|refine BD ?_ (by first|omega|(simp<;>omega)) _))) (first
    |(go_at_call_of 116 (Value.slice (some ⟨b,off,none⟩) bg c);refine(D9 _ _ _ (sh.take bg) _ (by first|exact(AA HRF).below AC hK0.drew|exact(AA HRF).below AC (hK0.alloc (by omega) _).drew) (AA HIF) _ HPB).mono ?_;rintro e wA⟨rfl,rfl⟩)
    |(go_at_call_of 116 (Value.slice (some ⟨b,off+bg,none⟩) 1 (c- bg));refine(D9 _ _ _ ((sh.drop bg).take 1) _ (by first|exact(AA HRM).below AC hK0.drew|exact(AA HRM).below AC (hK0.alloc (by omega) _).drew) (AA HIM) _ HPN).mono ?_;rintro e wA⟨rfl,rfl⟩)
    |(go_at_call 116;refine(D9 _ _ _ (sh.drop (bg+1)) _ (by first|exact(AA HRB).below AC hK0.drew|exact(AA HRB).below AC (hK0.alloc (by omega) _).drew) (AA HIB) _ HPA).mono ?_;rintro e wA⟨rfl,rfl⟩)
    |(go_at_call 113;rw[<-hz0];refine(LI W0.heap.size _ _ _ _ _ _ (sh.take bg) (sh.drop (bg+1)) _ (cell_of_row _ _ 0 _ _ (0,0) (heap_alloc_last W0 _)) (cell_of_row _ _ 1 _ _ (0,0) (heap_alloc_last W0 _)) ((AA HRF).below AC (hK0.alloc (by omega) _).drew) ((AA HRB).below AC (hK0.alloc (by omega) _).drew) hf5 hk5).mono ?_;rintro e wD⟨oa,oc,rfl,hO,hbD⟩;have hKD:Below W0.heap.size W0 wD:=(AG.alloc AC _).drew.trans (hbD.mono (by simp));have HO:=AD (hO.mono (B':=w.heap.size+1) (by simp;omega));obtain⟨hwl,⟨q0,q1,q2,q3⟩,f0,f1,f2,f3⟩:=AA AB _ hKD;clear hbD hO))
   all_goals go_wp2
   all_goals refine bodyPost_ret (v:=.agg #[.int .i64 B,.int .i64 N,.int .i64 A,.slice oa _ oc]) (by simp[results,results112,go_sem,q0,q1,q2,q3];try rfl) rfl ?_
   all_goals exact Xq (AA HO) (hK0.trans (hKD.mono (by omega)))
end
section
open Go.Shelf
def P0:Aq []:=by
 have h:AJ false [] [0]=true:=by decide
 exact(AW h).1
end
section
open Go.Shelf
def Ii(c d:Bool)(L X R Y:List Int):Int:=if L.length≠R.length then 4 else if A9 L≠A9 R then 5 else if c≠d/\X≠ []/\Y≠ []then 3 else 0
def Jr(sh:List Int)(n:Nat)(h:sh.length=n+1):sh.take n++sh.drop (n+1)=A9 sh:=by unfold A9;rw[h,List.drop_of_length_le (by omega)];simp
def LG(b off n c:Nat)(sh:List Int)(w:World)(h:AO w (some ⟨b,off,none⟩) (n+1) sh)(hc:n+1<=c)(hin:Aq sh)(hl5:n+1<=5):Calls prog 112 #[.slice (some ⟨b,off,none⟩) (n+1) c,.bool false] w (NO w (AM (sh.take n)) (AM ((sh.drop n).take 1)) (AM (sh.drop (n+1))) (A9 sh)):=by rw[<-Jr sh n h.len];exact S7 false b off n c n sh _ _ _ w h hc hin hl5 (.inr ⟨rfl,rfl⟩) rfl rfl rfl
def K7(B N A:Int)(v:Value)(w:World):(Instr.field 133 (.agg #[.int .i64 B,.int .i64 N,.int .i64 A,v]) 3).run prog w=.ok v w:=by kernel_rfl
def PK(c d:Bool)(ba oa bb ob:Nat)(a2 b2:Addr)(n1 n2 m1 m2 c1 c2 d1 d2:Nat)(L X R Y:List Int)(w:World)(h1:AO w (some ⟨ba,oa,none⟩) (n1+1) L)(h2:X.length=n2)(k1:AO w (some ⟨bb,ob,none⟩) (m1+1) R)(k2:Y.length=m2)(i1:Aq L)(i2:Aq R)(l1:n1+1<=c1)(l2:m1+1<=d1)(s1:n1+1<=5)(s2:m1+1<=5)(hn2:n2<=10000)(hm2:m2<=10000):Calls prog 289 #[.agg #[.bool c,.slice (some ⟨ba,oa,none⟩) (n1+1) c1,.slice (some a2) n2 c2],.agg #[.bool d,.slice (some ⟨bb,ob,none⟩) (m1+1) d1,.slice (some b2) m2 d2]] w fun e w'=>e=.returned (.int .i64 (Ii c d L X R Y))/\Below w.heap.size w w':=by
 have hl1:=h1.len;have hl2:=k1.len;obtain⟨W,hW⟩:∃W,W=(w.alloc (.cells #[.bool c,.slice (some ⟨ba,oa,none⟩) (n1+1) c1,.slice (some a2) n2 c2] 25)).alloc (.cells #[.bool d,.slice (some ⟨bb,ob,none⟩) (m1+1) d1,.slice (some b2) m2 d2] 25):=⟨_,rfl⟩
 have HBW:Hid (Below w.heap.size w W):=by rw[hW];exact((AN _ w).alloc AC _).alloc (by simp) _
 have HX0:Hid (Ai W w.heap.size c (.slice (some ⟨ba,oa,none⟩) (n1+1) c1) (.slice (some a2) n2 c2)):=by rw[hW];exact(Ai.new w _ _ _).alloc _
 have HX1:Hid (Ai W (w.heap.size+1) d (.slice (some ⟨bb,ob,none⟩) (m1+1) d1) (.slice (some b2) m2 d2)):=by
  rw[hW];have:=Ai.new (w.alloc (.cells #[.bool c,.slice (some ⟨ba,oa,none⟩) (n1+1) c1,.slice (some a2) n2 c2] 25)) d (.slice (some ⟨bb,ob,none⟩) (m1+1) d1) (.slice (some b2) m2 d2)
  rwa [World.size_alloc]at this
 have H1:=AD (h1.below AC HBW.out);have K1:=AD (k1.below AC HBW.out);have HI1:=AD i1;have HI2:=AD i2;have HW:=AD hW;obtain⟨p,hp⟩:∃p,p=n1+1:=⟨_,rfl⟩
 obtain⟨q,hq⟩:∃q,q=m1+1:=⟨_,rfl⟩
 rw[<-hp]at HX0 H1 l1 s1 hl1 HW ⊢;rw[<-hq]at HX1 K1 l2 s2 hl2 HW ⊢;obtain⟨J,hJ⟩:∃J,Ii c d L X R Y=J:=⟨_,rfl⟩
 rw[hJ];by_cases hpq:p=q
 .have HAX:Hid (∀wx,Below W.heap.size W wx->Calls prog 112 #[.slice (some ⟨ba,oa,none⟩) p c1,.bool false] wx (NO wx (AM (L.take n1)) (AM ((L.drop n1).take 1)) (AM (L.drop (n1+1))) (A9 L))):=fun wx hwx=>by rw[hp];rw[hp]at H1 l1 s1;exact LG ba oa n1 c1 L wx (H1.out.below AC hwx) l1 HI1.out s1
  have HAY:Hid (∀wx,Below W.heap.size W wx->Calls prog 112 #[.slice (some ⟨bb,ob,none⟩) q d1,.bool false] wx (NO wx (AM (R.take m1)) (AM ((R.drop m1).take 1)) (AM (R.drop (m1+1))) (A9 R))):=fun wx hwx=>by rw[hq];rw[hq]at K1 l2 s2;exact LG bb ob m1 d1 R wx (K1.out.below AC hwx) l2 HI2.out s2
  obtain⟨B1,hB1⟩:∃x,AM (L.take n1)=x:=⟨_,rfl⟩
  obtain⟨N1,hN1⟩:∃x,AM ((L.drop n1).take 1)=x:=⟨_,rfl⟩
  obtain⟨A1,hA1⟩:∃x,AM (L.drop (n1+1))=x:=⟨_,rfl⟩
  obtain⟨B2,hB2⟩:∃x,AM (R.take m1)=x:=⟨_,rfl⟩
  obtain⟨N2,hN2⟩:∃x,AM ((R.drop m1).take 1)=x:=⟨_,rfl⟩
  obtain⟨A2,hA2⟩:∃x,AM (R.drop (m1+1))=x:=⟨_,rfl⟩
  rw[hB1,hN1,hA1]at HAX;rw[hB2,hN2,hA2]at HAY;obtain⟨rf,hrf⟩:∃r,decide (A9 L=A9 R)=r:=⟨_,rfl⟩
  have HRF:=AD hrf;have HLE:Hid (L.length=R.length):=by show _=_;rw[hl1,hl2,hpq]
  have g0:((p:Int) !=(q:Int))=false:=by simp[hpq]
  have HJ:Hid (J=if rf=false then 5 else if c≠d/\0<n2/\0<m2 then 3 else 0):=by
   show _=_;rw[<-hJ];unfold Ii;rw[AH (by simp[HLE.out]),<-hrf,<-h2,<-k2];by_cases hf:A9 L=A9 R
   .simp[hf,List.length_pos_iff]
   .simp[hf]
  clear hpq hrf hB1 hN1 hA1 hB2 hN2 hA2 hl1 hl2 h1 k1 i1 i2 h2 k2 hW hp hq hJ H1 K1 HI1 HI2 HLE;obtain⟨x0,x1,x2,x3,x4,x5,x6⟩:=HX0.out.all;obtain⟨y0,y1,y2,y3,y4,y5,y6⟩:=HX1.out.all;go_enter func289,ntmps289;go_upto_region 3 with fail;rw[<-HW.out];clear HW;go_cut[13] (fun v wx=>v=.bool (!rf)/\Below W.heap.size W wx);case first=>
   have HKEEP:∀wx,Below W.heap.size W wx->Below W.heap.size W wx/\wx.cell? ⟨w.heap.size,1,none⟩=some (.slice (some ⟨ba,oa,none⟩) p c1)/\wx.cell? ⟨w.heap.size+1,1,none⟩=some (.slice (some ⟨bb,ob,none⟩) q d1):=fun wx hwx=>⟨hwx,(HX0.out.below AC hwx).cells.2.1,(HX1.out.below AC hwx).cells.2.1⟩
   have hf1:=K7 B1 N1 A1;have hf2:=K7 B2 N2 A2
   go_region_held3 (fun wx=>Below W.heap.size W wx/\wx.cell? ⟨w.heap.size,1,none⟩=some (.slice (some ⟨ba,oa,none⟩) p c1)/\wx.cell? ⟨w.heap.size+1,1,none⟩=some (.slice (some ⟨bb,ob,none⟩) q d1)) (first|(refine HKEEP _ ?_;first|exact hKC|exact hKB|exact hKA|exact AG.drew)) (first
    |(go_at_call_of 112 (Value.slice (some ⟨ba,oa,none⟩) p c1);refine(HAX.out _ AG.drew).mono ?_;rintro e wA⟨ga,la,ca,rfl,hOA,hbA⟩;have hKA:Below W.heap.size W wA:=AG.drew.trans (hbA.mono (by first|exact AC|(simp<;>omega))))
    |(go_at_call_of 112 (Value.slice (some ⟨bb,ob,none⟩) q d1);refine(HAY.out _ hKA).mono ?_;rintro e wB⟨gb,lb,cb,rfl,hOB,hbB⟩;have hKB:Below W.heap.size W wB:=hKA.trans (hbB.mono hKA.size);have hOA':=hOA.below AC hbB)
    |(go_at_call 324;refine(X3 _ _ _ _ _ _ (A9 L) (A9 R) _ hOA'.row hOB.row rf HRF).mono ?_;rintro e wC⟨rfl,qq,rfl⟩;have hKC:Below W.heap.size W (wB.drewN qq):=Below.drewN hKB qq))
   all_goals go_wp2_with fail
   all_goals go_meet
   all_goals case rel=>exact⟨rfl,hKC⟩
  case rest=>
   obtain⟨w5,hw5⟩:∃x,x=wc:=⟨_,rfl⟩
   subst hw5;obtain⟨rfl,hb5⟩:=hcut;have HB5:=AD (HBW.out.trans (hb5.mono HBW.out.size));clear x0 x1 x2 x3 x4 x5 x6 y0 y1 y2 y3 y4 y5 y6;obtain⟨x0,x1,x2,x3,x4,x5,x6⟩:=(HX0.out.below AC hb5).all;obtain⟨y0,y1,y2,y3,y4,y5,y6⟩:=(HX1.out.below AC hb5).all;clear hb5;cases rf with
   |false=>
    have HJ5:Hid (J=5):=by show _=_;rw[HJ.out];rfl
    clear HJ HRF;go_wp2_with fail;go_ret;exact⟨BM HJ5.out.symm,HB5.out⟩
   |true=>
    by_cases hcd:c=d
    .have HJ0:Hid (J=0):=by show _=_;rw[HJ.out];simp[hcd]
     have g1:(c==d)=true:=by simp[hcd]
     clear HJ hcd HRF;go_wp2_with fail;go_ret;exact⟨BM HJ0.out.symm,HB5.out⟩
    .have g1:(c==d)=false:=by simp[hcd]
     by_cases h2:0<n2
     .by_cases h3:0<m2
      .have HJ3:Hid (J=3):=by show _=_;rw[HJ.out];simp[hcd,h2,h3]
       clear HJ hcd HRF;go_wp2_with fail;go_ret;exact⟨BM HJ3.out.symm,HB5.out⟩
      .have HJ0:Hid (J=0):=by show _=_;rw[HJ.out];simp[h3]
       obtain rfl:m2=0:=by omega
       clear HJ hcd h3 HRF;go_wp2_with fail;go_ret;exact⟨BM HJ0.out.symm,HB5.out⟩
     .have HJ0:Hid (J=0):=by show _=_;rw[HJ.out];simp[h2]
      obtain rfl:n2=0:=by omega
      clear HJ hcd h2 HRF;go_wp2_with fail;go_ret;exact⟨BM HJ0.out.symm,HB5.out⟩
 .have g0:((p:Int) !=(q:Int))=true:=by simp;omega
  have HJ:Hid (J=4):=by show _=_;rw[<-hJ];unfold Ii;rw[AI (by rw[hl1,hl2];exact hpq)]
  clear hpq hl1 hl2 h1 k1 i1 i2 h2 k2 hW hJ H1 K1 HI1 HI2 hp hq;go_enter func289,ntmps289;go_wp2_with fail;go_ret;exact⟨BM HJ.out.symm,((AN _ w).alloc AC _).alloc (by simp) _⟩
end
