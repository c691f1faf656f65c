import Derived.Test.YtpondlabofeohaaDoorImplChange
import Derived.Test.YtpondlabofeohaaDoorImplClone
import Derived.Test.YtpondlabofeohaaDoorImplOkW
namespace Go.Proofs.YtpondlabofeohaaDoor
open Go.RowKit Go.Shelf

/-- The function that changeOf answers gives oneOf. -/
theorem change_calls (op x : Int) (a b : Addr) (w : World) (hop : oneOp op = true) (hG : Gl w a b) (hx : -1000000000000000 ≤ x ∧ x ≤ 1000000000000000) :
    ∃ g, chV op = .func (.func g) #[] #[] ∧ (∀ args w, (callFunc g args).run Tryd.prog w = .ok (.enter g args) w) ∧ Calls Tryd.prog g #[.int .i64 x] w fun e w' => e = .returned (.tuple #[.int .i64 (oneOf op x).1, errV a b (oneOf op x).2]) ∧ ∃ q, w' = w.drewN q := by
  have hop' : op = 1 ∨ op = 2 ∨ op = 3 ∨ op = 7 ∨ op = 17 := by simpa [oneOp] using hop
  rcases hop' with rfl | rfl | rfl | rfl | rfl
  · exact ⟨64, rfl, enters_of Tryd.func64 (by kernel_rfl) rfl, change1 x a b w⟩
  · exact ⟨65, rfl, enters_of Tryd.func65 (by kernel_rfl) rfl, change2 x a b w hx⟩
  · exact ⟨66, rfl, enters_of Tryd.func66 (by kernel_rfl) rfl, change3 x a b w hx⟩
  · exact ⟨67, rfl, enters_of Tryd.func67 (by kernel_rfl) rfl, change7 x a b w hx⟩
  · exact ⟨69, rfl, enters_of Tryd.func69 (by kernel_rfl) rfl, change17 x a b w hG hx⟩

set_option maxHeartbeats 1000000 in
theorem clo1 (op : Int) (a b a2 : Addr) (p6 pA n2 c2 k : Nat) (v1 : Value) (dt : List Int) (W : World) (hop : oneOp op = true) (hG : Gl W a b) (hc : W.cell? ⟨p6, 0, none⟩ = some (chV op)) (hB : Box W pA false v1 (.slice (some a2) n2 c2)) (h2 : Row W (some a2) n2 dt) (hk : k < n2) (hx : -1000000000000000 ≤ dt.getD k 0 ∧ dt.getD k 0 ≤ 1000000000000000) :
    Calls Tryd.prog 33 #[.int .i64 (k : Nat), .pointer (some ⟨p6, 0, none⟩), .pointer (some ⟨pA, 0, none⟩)] W fun e w' => e = .returned (.tuple #[.int .i64 (oneOf op (dt.getD k 0)).1, errV a b (oneOf op (dt.getD k 0)).2]) ∧ Below W.heap.size W w' := by
  obtain ⟨bb, off, hab, hblt, hcx⟩ := h2.get hk
  cases hab
  have hsm := h2.small
  obtain ⟨q0, q1, q2⟩ := hB.cells
  obtain ⟨x, hxe⟩ : ∃ x, x = dt.getD k 0 := ⟨_, rfl⟩
  rw [← hxe] at hcx hx ⊢
  clear hxe hB
  have HC : Hid (∀ n, ∃ g, chV op = .func (.func g) #[] #[] ∧ (∀ args w, (callFunc g args).run Tryd.prog w = .ok (.enter g args) w) ∧ Calls Tryd.prog g #[.int .i64 x] (W.drewN n) fun e w' => e = .returned (.tuple #[.int .i64 (oneOf op x).1, errV a b (oneOf op x).2]) ∧ ∃ q, w' = (W.drewN n).drewN q) := fun n => change_calls op x a b _ hop (hG.drewN n) hx
  obtain ⟨g, hg, eg, _⟩ := unhide HC 0
  rw [hg] at hc
  have HD : Hid (∀ n, Calls Tryd.prog g #[.int .i64 x] (W.drewN n) fun e w' => e = .returned (.tuple #[.int .i64 (oneOf op x).1, errV a b (oneOf op x).2]) ∧ ∃ q, w' = (W.drewN n).drewN q) := fun n => by
    obtain ⟨g', hg', _, h⟩ := unhide HC n
    rw [hg] at hg'
    cases hg'
    exact h
  clear HC hg hop hG h2 hx
  obtain ⟨r, hr⟩ : ∃ r, r = oneOf op x := ⟨_, rfl⟩
  rw [← hr] at HD ⊢
  clear hr
  obtain ⟨r1, r2⟩ := r
  obtain ⟨ev, hev⟩ : ∃ ev, ev = errV a b r2 := ⟨_, rfl⟩
  simp only [← hev] at HD ⊢
  clear hev
  go_enter Tryd.func33, Tryd.ntmps33
  go_wp2
  go_quiet (first | (go_at_fn g; exact Calls.quiet_of (unhide HD _)))
  go_wp2
  go_ret2
  exact ⟨rfl, Below.drewN (Below.refl _ _) _⟩

end Go.Proofs.YtpondlabofeohaaDoor
