import Derived.Test.YtgjpchnkodnieaaGreatDoorZ25
import Derived.Test.YtgjpchnkodnieaaGreatDoorZ35
set_option maxRecDepth 20000
set_option maxHeartbeats 8000000
set_option linter.defProp false
namespace Go.Proofs.YtgjpchnkodnieaaGreatDoor
open Go.RowKit Tryz
section
open Go.Shelf
def Jz(w:World)(B N A:Int)(others:List Int)(e:Ending)(w':World):Prop:=∃oa ol oc,e=.returned (.agg #[.int .i64 B,.int .i64 N,.int .i64 A,.slice oa ol oc])/\w'.ownsRow (w.heap.size+1) 3 1 (.slice oa ol oc) ol (others.map (Value.int .i64))/\Below w.heap.size w w'
def Kc{w wD:World}{B N A:Int}{oa:Option Addr}{ol oc:Nat}{zs:List Int}{x0 x1 x2 x3:Value}(hO:wD.ownsRow (w.heap.size+1) 3 1 (.slice oa ol oc) ol (zs.map (Value.int .i64)))(hb:Below w.heap.size w wD):Jz w B N A zs (.returned (.agg #[.int .i64 B,.int .i64 N,.int .i64 A,.slice oa ol oc])) ((((wD.setCell ⟨w.heap.size,0,none⟩ x0).setCell ⟨w.heap.size,1,none⟩ x1).setCell ⟨w.heap.size,2,none⟩ x2).setCell ⟨w.heap.size,3,none⟩ x3):=⟨oa,ol,oc,rfl,CC (CC (CC (CC hO (by omega) _) (by omega) _) (by omega) _) (by omega) _,(((hb.setCell AC _).setCell AC _).setCell AC _).setCell AC _⟩
def RO(fl:Bool)(b off n c bg:Nat)(sh:List Int)(B N A:Int)(w:World)(h:AO w (some ⟨b,off,none⟩) (n+1) sh)(hc:n+1<=c)(hin:Aq sh)(hl5:n+1<=5)(hbg:(fl=true/\bg=0)\/(fl=false/\bg=n))(hB:AM (sh.take bg)=B)(hN:AM ((sh.drop bg).take 1)=N)(hA:AM (sh.drop (bg+1))=A):Calls prog 112 #[.slice (some ⟨b,off,none⟩) (n+1) c,.bool fl] w (Jz w B N A (sh.take bg++sh.drop (bg+1))):=by
 have hs:=h.small;have hbn:bg<=n:=by omega
 have HIF:Hid (Aq (sh.take bg)):=hin.take _;have HIM:Hid (Aq ((sh.drop bg).take 1)):=(hin.drop _).take _;have HIB:Hid (Aq (sh.drop (bg+1))):=hin.drop _;have HRF:Hid (AO w (some ⟨b,off,none⟩) bg (sh.take bg)):=h.takeS (by omega);have HRM:Hid (AO w (some ⟨b,off+bg,none⟩) 1 ((sh.drop bg).take 1)):=(h.dropS (by omega)).takeS (by omega);have HRD:Hid (AO w (some ⟨b,off+(bg+1),none⟩) (n+1- (bg+1)) (sh.drop (bg+1))):=h.dropS (by omega);have HPB:=AD hB;have HPN:=AD hN;have HPA:=AD hA;have HLN:=AD h.len;clear h hB hN hA;have hf5:bg<=1000000:=by omega
 have hk5:n+1- (bg+1)<=1000000:=by omega
 go_enter func112,ntmps112
 go_upto_if 15 with fail
 go_cut[5,6] (fun s5 s6 wr=>s5=.int .i64 (bg:Nat)/\s6=.int .i64 ((bg:Int)+1)/\wr=(w.alloc (.cells #[.int .i64 0,.int .i64 0,.int .i64 0,.slice none 0 0] 133)));case first=>
  rcases hbg with⟨rfl,rfl⟩|⟨rfl,rfl⟩
  .go_wp2
   all_goals(go_meet;case rel=>exact⟨rfl,by go_num,rfl⟩)
  .go_wp2
   all_goals(go_meet;case rel=>exact⟨rfl,by go_num,rfl⟩)
 case rest=>
  obtain⟨rfl,rfl,rfl⟩:=hcut;clear hbg;go_upto_region 4 with fail;go_cut[7,8] (fun s7 s8 wr=>s7=.slice (some ⟨b,off,none⟩) bg c/\(∃pb cb,s8=.slice (some pb) (n+1- (bg+1)) cb/\Hid (AO w (some pb) (n+1- (bg+1)) (sh.drop (bg+1))))/\∃nq,wr=((w.alloc (.cells #[.int .i64 0,.int .i64 0,.int .i64 0,.slice none 0 0] 133)).drewN nq));case first=>
   by_cases hc1:c=bg+1
   .subst hc1;have hbn':n=bg:=by omega
    subst hbn';go_quiet(fail)
    go_wp2
    all_goals(go_meet;case rel=>exact⟨rfl,⟨⟨b,off,none⟩,0,by simp,AO.zeroS' (AA HLN)⟩,_,rfl⟩)
   .have hc2:bg+1<c:=by omega
    clear hc1;go_quiet(fail)
    go_wp2
    all_goals(go_meet;case rel=>exact⟨rfl,⟨⟨b,off+(bg+1),none⟩,c- (bg+1),by simp,HRD⟩,_,rfl⟩)
  case rest=>
   obtain⟨rfl,⟨pb,cb,rfl,HRB⟩,nq,rfl⟩:=hcut;clear HRD;obtain⟨kn,hkn⟩:∃kn,n+1- (bg+1)=kn:=⟨_,rfl⟩
   rw[hkn]at hk5 HRB ⊢;have hcb:bg+1<=c:=by omega
   have hcb2:bg<c:=by omega
   clear hkn;go_upto_region 5 with fail;obtain⟨W0,hW0⟩:∃W0,W0=((w.alloc (.cells #[.int .i64 0,.int .i64 0,.int .i64 0,.slice none 0 0] 133)).drewN nq):=⟨_,rfl⟩
   have hK0:Below w.heap.size w W0:=by rw[hW0];exact Below.drewN (AG.alloc AC _) _
   have hz0:W0.heap.size=w.heap.size+1:=by rw[hW0];simp
   have AB:=AD (NJ (w:=w) (W0:=W0) (by rw[hW0];exact heap_alloc_last w _));rw[<-hW0];clear hW0
   go_region_held (fun wx=>Below w.heap.size W0 wx) (first|(repeat(first|exact hKD.mono (by omega)|exact AG|refine BF ?_|refine BU ?_ (by first|omega|(simp<;>omega)) _|refine BD ?_ (by first|omega|(simp<;>omega)) _))) (first
    |(go_at_call_of 116 (Value.slice (some ⟨b,off,none⟩) bg c);refine(D9 _ _ _ (sh.take bg) _ (by first|exact(AA HRF).below AC hK0.drew|exact(AA HRF).below AC (hK0.alloc (by omega) _).drew) (AA HIF) _ HPB).mono ?_;rintro e wA⟨rfl,rfl⟩)
    |(go_at_call_of 116 (Value.slice (some ⟨b,off+bg,none⟩) 1 (c- bg));refine(D9 _ _ _ ((sh.drop bg).take 1) _ (by first|exact(AA HRM).below AC hK0.drew|exact(AA HRM).below AC (hK0.alloc (by omega) _).drew) (AA HIM) _ HPN).mono ?_;rintro e wA⟨rfl,rfl⟩)
    |(go_at_call 116;refine(D9 _ _ _ (sh.drop (bg+1)) _ (by first|exact(AA HRB).below AC hK0.drew|exact(AA HRB).below AC (hK0.alloc (by omega) _).drew) (AA HIB) _ HPA).mono ?_;rintro e wA⟨rfl,rfl⟩)
    |(go_at_call 113;rw[<-hz0];refine(G2 W0.heap.size _ _ _ _ _ _ (sh.take bg) (sh.drop (bg+1)) _ (cell_of_row _ _ 0 _ _ (0,0) (heap_alloc_last W0 _)) (cell_of_row _ _ 1 _ _ (0,0) (heap_alloc_last W0 _)) ((AA HRF).below AC (hK0.alloc (by omega) _).drew) ((AA HRB).below AC (hK0.alloc (by omega) _).drew) hf5 hk5).mono ?_;rintro e wD⟨oa,oc,rfl,hO,hbD⟩;have hKD:Below W0.heap.size W0 wD:=(AG.alloc AC _).drew.trans (hbD.mono (by simp));have HO:=AD (DG (base':=w.heap.size+1) hO (by simp;omega));obtain⟨hwl,⟨q0,q1,q2,q3⟩,f0,f1,f2,f3⟩:=AA AB _ hKD;clear hbD hO))
   all_goals go_wp2
   all_goals refine bodyPost_ret (v:=.agg #[.int .i64 B,.int .i64 N,.int .i64 A,.slice oa _ oc]) (by simp[results,results112,go_sem,q0,q1,q2,q3];try rfl) rfl ?_
   all_goals exact Kc (AA HO) (hK0.trans (hKD.mono (by omega)))
end
section
open Go.Shelf
def Pf(fl:Bool)(a:Addr)(c:Nat)(w:World):Calls prog 112 #[.slice (some a) 0 c,.bool fl] w (Jz w 1 1 1 []):=by
 obtain⟨b,off,sp⟩:=a;have HP:Hid (AM []=1):=rfl;have HI:=AD P0;go_enter func112,ntmps112
 go_upto_if 15 with fail
 go_cut[5,6] (fun s5 s6 wr=>s5=.int .i64 0/\s6=.int .i64 0/\wr=(w.alloc (.cells #[.int .i64 0,.int .i64 0,.int .i64 0,.slice none 0 0] 133)));case first=>
  cases fl;all_goals go_wp2
  all_goals(go_meet;case rel=>exact⟨rfl,rfl,rfl⟩)
 case rest=>
  obtain⟨rfl,rfl,rfl⟩:=hcut;go_upto_region 4 with fail;go_cut[7,8] (fun s7 s8 wr=>(∃pf cf,s7=.slice (some pf) 0 cf)/\(∃pb cb,s8=.slice (some pb) 0 cb)/\∃nq,wr=((w.alloc (.cells #[.int .i64 0,.int .i64 0,.int .i64 0,.slice none 0 0] 133)).drewN nq));case first=>
   by_cases hc:c=0
   .subst hc;go_quiet(fail)
    go_wp2
    all_goals(go_meet;case rel=>exact⟨⟨_,_,rfl⟩,⟨_,_,rfl⟩,_,rfl⟩)
   .have hc2:0<c:=by omega
    go_quiet(fail)
    go_wp2
    all_goals(go_meet;case rel=>exact⟨⟨_,_,rfl⟩,⟨_,_,rfl⟩,_,rfl⟩)
  case rest=>
   obtain⟨⟨pf,cf,rfl⟩,⟨pb,cb,rfl⟩,nq,rfl⟩:=hcut;obtain⟨W0,hW0⟩:∃W0,W0=((w.alloc (.cells #[.int .i64 0,.int .i64 0,.int .i64 0,.slice none 0 0] 133)).drewN nq):=⟨_,rfl⟩
   have hK0:Below w.heap.size w W0:=by rw[hW0];exact Below.drewN (AG.alloc AC _) _
   have hz0:W0.heap.size=w.heap.size+1:=by rw[hW0];simp
   have AB:=AD (NJ (w:=w) (W0:=W0) (by rw[hW0];exact heap_alloc_last w _));rw[<-hW0];clear hW0;go_upto_region 5 with fail;by_cases hc:c=0
   .subst hc
    go_region_held (fun wx=>Below w.heap.size W0 wx) (first|(repeat(first|exact hKD.mono (by omega)|exact AG|refine BF ?_|refine BU ?_ (by first|omega|(simp<;>omega)) _|refine BD ?_ (by first|omega|(simp<;>omega)) _))) (first
     |(go_at_call 116;refine(D9 _ _ _ [] _ (AO.zeroS rfl) (AA HI) _ HP).mono ?_;rintro e wA⟨rfl,rfl⟩)
     |(go_at_call 113;rw[<-hz0];refine(G2 W0.heap.size _ _ _ _ _ _ [] [] _ (cell_of_row _ _ 0 _ _ (0,0) (heap_alloc_last W0 _)) (cell_of_row _ _ 1 _ _ (0,0) (heap_alloc_last W0 _)) (AO.zeroS rfl) (AO.zeroS rfl) (by omega) (by omega)).mono ?_;rintro e wD⟨oa,oc,rfl,hO,hbD⟩;have hKD:Below W0.heap.size W0 wD:=(AG.alloc AC _).drew.trans (hbD.mono (by simp));have HO:=AD (DG (base':=w.heap.size+1) hO (by simp;omega));obtain⟨hwl,⟨q0,q1,q2,q3⟩,f0,f1,f2,f3⟩:=AA AB _ hKD;clear hbD hO))
    all_goals go_wp2
    all_goals refine bodyPost_ret (v:=.agg #[.int .i64 1,.int .i64 1,.int .i64 1,.slice oa _ oc]) (by simp[results,results112,go_sem,q0,q1,q2,q3];try rfl) rfl ?_
    all_goals exact Kc (AA HO) (hK0.trans (hKD.mono (by omega)))
   .have hc2:0<c:=by omega
    go_region_held (fun wx=>Below w.heap.size W0 wx) (first|(repeat(first|exact hKD.mono (by omega)|exact AG|refine BF ?_|refine BU ?_ (by first|omega|(simp<;>omega)) _|refine BD ?_ (by first|omega|(simp<;>omega)) _))) (first
     |(go_at_call 116;refine(D9 _ _ _ [] _ (AO.zeroS rfl) (AA HI) _ HP).mono ?_;rintro e wA⟨rfl,rfl⟩)
     |(go_at_call 113;rw[<-hz0];refine(G2 W0.heap.size _ _ _ _ _ _ [] [] _ (cell_of_row _ _ 0 _ _ (0,0) (heap_alloc_last W0 _)) (cell_of_row _ _ 1 _ _ (0,0) (heap_alloc_last W0 _)) (AO.zeroS rfl) (AO.zeroS rfl) (by omega) (by omega)).mono ?_;rintro e wD⟨oa,oc,rfl,hO,hbD⟩;have hKD:Below W0.heap.size W0 wD:=(AG.alloc AC _).drew.trans (hbD.mono (by simp));have HO:=AD (DG (base':=w.heap.size+1) hO (by simp;omega));obtain⟨hwl,⟨q0,q1,q2,q3⟩,f0,f1,f2,f3⟩:=AA AB _ hKD;clear hbD hO))
    all_goals go_wp2
    all_goals refine bodyPost_ret (v:=.agg #[.int .i64 1,.int .i64 1,.int .i64 1,.slice oa _ oc]) (by simp[results,results112,go_sem,q0,q1,q2,q3];try rfl) rfl ?_
    all_goals exact Kc (AA HO) (hK0.trans (hKD.mono (by omega)))
end
