import Derived.Test.YtinndpnilmmmjaaGreatDoorMFit0
import Derived.Test.YtinndpnilmmmjaaGreatDoorMFit0
import Derived.Test.YtinndpnilmmmjaaGreatDoorSpecTree
import Derived.Test.YtinndpnilmmmjaaGreatDoorSpecFieldsB
import Derived.Test.YtinndpnilmmmjaaGreatDoorNRowNew
namespace Go.Proofs.YtinndpnilmmmjaaGreatDoor
open Go.RowKit

theorem specTree_any (a : Option Addr) (n cap : Nat) (ns : List NodeD) (w : World) (h : NRow w a n ns) (hsm : SmallD ns n) :
    Calls Tryz.prog 8 #[.agg #[.slice a n cap]] w fun e w' => e = .returned (.bool (treeB txtB ns)) ∧ Below w.heap.size w w' := specTree_of l2FieldsOk_any a n cap ns w h hsm

namespace LawTree

set_option maxRecDepth 20000 in
set_option maxHeartbeats 4000000 in
theorem law_any (a : Option Addr) (n cap : Nat) (ns : List NodeD) (w : World) (h : NRaw w a n ns) (hG : GlTree w) :
    Calls Tryz.prog 3 #[.agg #[.slice a n cap]] w fun e w' => e = .returned (.bool true) ∧ Below w.heap.size w w' := by
  obtain ⟨Q, hQ⟩ : ∃ Q, Q = w.alloc (.cells #[.slice a n cap] 24) := ⟨_, rfl⟩
  have HQ := hide hQ
  have HBQ : Hid (Below w.heap.size w Q) := by rw [hQ]; exact (Below.refl _ _).alloc (Nat.le_refl _) _
  have hQlt : w.heap.size < Q.heap.size := by rw [hQ]; simp
  have HQC : Hid (Q.cell? ⟨w.heap.size, 0, none⟩ = some (.slice a n cap)) := by rw [hQ]; show (w.alloc _).cell? _ = _; simp
  have HG : Hid (∀ v, Below w.heap.size w v → GlTree v) := fun v hv => hG.below hv
  have HSZ := hide (szTree_any a n cap ns 1048576 Q (h.below (Nat.le_refl _) (unhide HBQ)) (by omega) (by omega))
  have H := hide h
  have HPO : Hid (∀ v, Below Q.heap.size Q v → v.cell? ⟨w.heap.size, 0, none⟩ = some (.slice a n cap) ∧ Below w.heap.size w v) := fun v hv => ⟨(hv.cell (p := ⟨w.heap.size, 0, none⟩) hQlt).trans (unhide HQC), (unhide HBQ).trans (hv.mono (unhide HBQ).size)⟩
  clear hQ h hG
  go_enter Tryz.func3, Tryz.ntmps3
  go_wp2_with fail
  rw [← unhide HQ]
  refine (unhide HSZ).mono ?_
  rintro e w1 ⟨r, rfl, hr, hb1⟩
  have HB1 := hide hb1
  obtain ⟨ct1, hbw1⟩ := unhide HPO _ hb1
  have HW1 := hide hbw1
  clear hb1 hbw1 HSZ
  rcases hr with rfl | ⟨q0, q1, q2, q3⟩
  · go_wp2_with fail
    go_ret
    exact ⟨rfl, unhide HW1⟩
  have hr0 : ¬ r < 0 := by omega
  have HROW := hide ((unhide H).row q2 q3)
  have HSM := hide q3
  clear q0 q1 q3
  go_wp2_with fail
  refine (toTree_any a n cap ns w1 (by exact (unhide HROW).below (Nat.le_refl _) (unhide HW1)) (unhide HSM)).mono ?_
  rintro e w2 ⟨g2, rfl, hg2, hN2, hb2⟩
  have HB2 := hide ((unhide HB1).trans (hb2.mono (unhide HB1).size))
  clear hb2 ct1 HB1 HW1 hg2
  go_wp2_with fail
  refine (specTree_any (some ⟨g2, 0, none⟩) n n ns w2 hN2.row (unhide HSM)).mono ?_
  rintro e w3 ⟨rfl, hb3⟩
  have HB3 := hide ((unhide HB2).trans (hb3.mono (unhide HB2).size))
  obtain ⟨ct3, hbw3⟩ := unhide HPO _ (unhide HB3)
  have HW3 := hide hbw3
  clear hb3 HB2 hN2 hbw3 w2
  generalize hS : treeB txtB ns = S at *
  have HS := hide hS
  clear hS
  go_wp2_with fail
  refine (toTree_any a n cap ns w3 (by exact (unhide HROW).below (Nat.le_refl _) (unhide HW3)) (unhide HSM)).mono ?_
  rintro e w4 ⟨g4, rfl, hg4, hN4, hb4⟩
  have HB4 := hide ((unhide HB3).trans (hb4.mono (unhide HB3).size))
  have hz3 := (unhide HB3).size
  have hz4 := hb4.size
  have HN4 := hide (hN4.alloc (.cells #[.slice (some ⟨g4, 0, none⟩) n n] 29))
  have HB4a := hide ((unhide HB4).alloc (unhide HB4).size (.cells #[.slice (some ⟨g4, 0, none⟩) n n] 29))
  clear hb4 ct3 HB3 HW3 hN4
  go_wp2_with fail
  refine (implTree_any (some ⟨g4, 0, none⟩) n n ns _ (by exact (unhide HN4).rowC) (unhide HSM) (by exact unhide HG _ (unhide HPO _ (unhide HB4a)).2)).mono ?_
  rintro e w5 ⟨rfl, hb5⟩
  rw [unhide HS]
  have HB5 := hide ((unhide HB4a).trans (hb5.mono (unhide HB4a).size))
  have HN5 := hide ((unhide HN4).below (Nat.le_refl _) hb5)
  obtain ⟨ct5, hbw5⟩ := unhide HPO _ (unhide HB5)
  have HW5 := hide hbw5
  have cx5 : w5.cell? ⟨w4.heap.size, 0, none⟩ = some (.slice (some ⟨g4, 0, none⟩) n n) := (hb5.cell (p := ⟨w4.heap.size, 0, none⟩) (by simp)).trans (by simp)
  have hz5 : w4.heap.size < w5.heap.size := by have := hb5.size; simp at this; omega
  have hbS : (S != S) = false := by simp
  clear hb5 HN4 HB4 HB4a hbw5 HB5
  go_wp2_with fail
  go_cut [26] (fun rr wx => rr = .bool false ∧ Hid (Below w.heap.size w wx))
  case first =>
    first | (go_region_with (first
      | (go_at_call 9; refine (toTree_any a n cap ns _ (by exact (unhide HROW).below (Nat.le_refl _) (unhide HW5).drew) (unhide HSM)).mono ?_; rintro e w6 ⟨g6, rfl, hg6, hN6, hb6⟩; have cx6 : w6.cell? ⟨w4.heap.size, 0, none⟩ = some (.slice (some ⟨g4, 0, none⟩) n n) := (hb6.cell (p := ⟨w4.heap.size, 0, none⟩) (by simpa using hz5)).trans cx5; have HN6 := hide hN6.row; have HN56 := hide ((unhide HN5).row.drew.below (Nat.le_refl _) hb6); have HW6 := hide ((unhide HW5).drew.trans (hb6.mono (unhide HW5).size)); clear hb6 hN6)
      | (go_at_call 11; refine (eqTree_refl (some ⟨g4, 0, none⟩) (some ⟨g6, 0, none⟩) n n n ns _ (unhide HN56) (unhide HN6)).mono ?_; rintro e w7 ⟨rfl, hb7⟩; have HW7 := hide ((unhide HW6).trans (hb7.mono (unhide HW6).size)); clear hb7))) | fail
    all_goals go_wp2_with fail
    all_goals (go_meet; case rel => exact ⟨rfl, HW7⟩)
  case rest =>
    obtain ⟨rfl, HWC⟩ := hcut
    go_wp2_with fail
    go_ret
    exact ⟨rfl, unhide HWC⟩

end LawTree
end Go.Proofs.YtinndpnilmmmjaaGreatDoor
