import Derived.Test.YtadbhidpmihghaaImplLays
namespace Go.Proofs.Ytadbhidpmihghaa
open Go.RowKit

set_option maxRecDepth 20000 in
set_option maxHeartbeats 1000000 in
theorem count_eq (c : Int) (sh st : List Int) (hs : shapeB sh = true) (f : Nat → Int) (hf : Hid (fl c sh st = f)) (cn : Int) (hc : Hid (countOf sh = cn)) (w : World) :
    Calls Try.prog 40 #[lay f] w fun e w' => e = .returned (.int .i64 cn) ∧ Below w.heap.size w w' := by
  obtain ⟨_, h5⟩ := shapeB_in hs
  obtain ⟨n, hn⟩ : ∃ n, sh.length = n := ⟨_, rfl⟩
  rw [hn] at h5
  have HB : Hid (Below w.heap.size w (w.alloc (objL f))) := (Below.refl _ _).alloc (Nat.le_refl _) _
  have HR : Hid (Row (w.alloc (objL f)) (some ⟨w.heap.size, 2, none⟩) n sh) := (LBox.new w f).row sh hn 2 (by omega) (fun i hi => by rw [← unhide hf]; exact fl_len c sh st (by omega))
  have hc1' : (w.alloc (objL f)).cell? ⟨w.heap.size, 1, none⟩ = some (.int .i64 n) := by rw [(LBox.new w f).at (by omega), ← unhide hf, fl_1, hn]
  have h5i : (n : Int) ≤ 5 := by omega
  have h0i : (0 : Int) ≤ n := by omega
  have HC := hide (cellsOf_count (some ⟨w.heap.size, 2, none⟩) n 5 sh (w.alloc (objL f)) (unhide HR) hs cn hc)
  have hlt := (LBox.new w f).lt
  obtain ⟨W, hW⟩ : ∃ W, w.alloc (objL f) = W := ⟨_, rfl⟩
  rw [hW] at HB HC hc1' hlt
  have HWE := hide hW
  clear hs hn hW HR
  go_enter Try.func40, Try.ntmps40
  go_upto_region 1 with fail
  rw [unhide HWE]
  clear HWE
  go_wp2_with (go_at_call 57; refine (unhide HC).mono ?_; rintro e wq ⟨rfl, hw⟩; obtain rfl := hw.symm)
  go_ret
  exact ⟨rfl, unhide HB⟩

end Go.Proofs.Ytadbhidpmihghaa
