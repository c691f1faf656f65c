import Derived.Test.YtkgcmpmgaghdhaaGreatDoorImplReck
import Derived.Test.YtkgcmpmgaghdhaaGreatDoorMFit0
import Derived.BigQuiet
namespace Go.Proofs.YtkgcmpmgaghdhaaGreatDoor
open Go.RowKit Go.Shelf

theorem limD_ok {v : Int} (h : inM v = true) : limited (v, true) = (v, 0) := by simp [limited, h]
theorem limD_no {v : Int} (h : inM v = false) : limited (v, true) = (0, 7) := by simp [limited, h]
theorem limD_bad {v : Int} : limited (v, false) = (0, 7) := by simp [limited]

theorem prod_signD {a b x y : Int} (hx : x = a ∨ x = -a) (hy : y = b ∨ y = -b) : x * y = a * b ∨ x * y = -(a * b) := by
  rcases hx with rfl | rfl <;> rcases hy with rfl | rfl <;> simp [Int.neg_mul, Int.mul_neg]

set_option maxHeartbeats 400000 in
theorem magnitude_anyD (v : Int) (w : World) (hv : -1000000000000000 ≤ v ∧ v ≤ 1000000000000000) : Calls Tryz.prog 171 #[.int .i64 v] w fun e w' => e = .returned (.int .i64 (if v < 0 then -v else v)) ∧ w' = w := by
  obtain ⟨h1, h2⟩ := hv
  by_cases h : v < 0
  · rw [if_pos h]
    go_enter Tryz.func171, Tryz.ntmps171
    go_wp2
    go_ret
    exact ⟨by first | rfl | (simp; omega), rfl⟩
  · rw [if_neg h]
    go_enter Tryz.func171, Tryz.ntmps171
    go_wp2
    go_ret
    exact ⟨by first | rfl | (simp; omega), rfl⟩

theorem ret_elD {a b : Addr} {r : Int × Int} {x c : Int} (h : r = (x, c)) : Ending.returned (.tuple #[.int .i64 x, errV a b c]) = Ending.returned (.tuple #[.int .i64 r.1, errV a b r.2]) := by rw [h]

/-- A number and an error as an element's function gives them; only draws. -/
def GivesElD (ga gb : Addr) (r : Int × Int) (w : World) (e : Ending) (w' : World) : Prop := e = .returned (.tuple #[.int .i64 r.1, errV ga gb r.2]) ∧ ∃ q, w' = w.drewN q

theorem gives_elD {ga gb : Addr} {r : Int × Int} {x c : Int} {w w' : World} {q : Nat} (h : r = (x, c)) (hw : w' = w.drewN q) : GivesElD ga gb r w (.returned (.tuple #[.int .i64 x, errV ga gb c])) w' := ⟨ret_elD h, q, hw⟩

theorem isNumber_eqD (v : Int) (w : World) (r : Bool) (h : Hid (inM v = r)) : Calls Tryz.prog 142 #[.int .i64 v] w fun e w' => e = .returned (.bool r) ∧ w' = w := by
  have e : dataOk false v = r := by rw [← unhide h]; simp [dataOk, inM]
  rw [← e]; exact isNumber_any v w

theorem magnitude_eqD (v : Int) (w : World) (hv : -1000000000000000 ≤ v ∧ v ≤ 1000000000000000) (m : Int) (h : Hid ((if v < 0 then -v else v) = m)) : Calls Tryz.prog 171 #[.int .i64 v] w fun e w' => e = .returned (.int .i64 m) ∧ w' = w := by
  rw [← unhide h]; exact magnitude_anyD v w hv

end Go.Proofs.YtkgcmpmgaghdhaaGreatDoor
