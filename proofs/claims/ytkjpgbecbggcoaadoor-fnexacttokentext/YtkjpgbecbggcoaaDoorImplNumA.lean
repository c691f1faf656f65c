import Derived.Test.YtkjpgbecbggcoaaDoorAtoiMath
import Derived.Test.YtkjpgbecbggcoaaDoorPrefixMath
import Derived.Test.YtkjpgbecbggcoaaDoorMFit1
import Derived.Test.YtkjpgbecbggcoaaDoorShelfHasPre
import Derived.Test.YtkjpgbecbggcoaaDoorShelfTrimPre
import Derived.Test.YtkjpgbecbggcoaaDoorShelfAtoi
namespace Go.Proofs.YtkjpgbecbggcoaaDoor
open Go.RowKit

theorem trimPre_any (t : ByteArray) (w : World) : Calls Tryd.prog 47 #[.string t, .string ⟨#[194, 175]⟩] w fun e w' => e = .returned (.string (if high t 0 = true then t.extract 2 t.size else t)) ∧ w' = w := by
  have h := Any.strings_TrimPrefix Tryd.trimPreS t ⟨#[194, 175]⟩ w
  rw [trim_starts, starts_high] at h
  exact h

theorem hasPre_any (t : ByteArray) (w : World) : Calls Tryd.prog 49 #[.string t, .string ⟨#[194, 175]⟩] w fun e w' => e = .returned (.bool (high t 0)) ∧ w' = w := by
  have h := Any.strings_HasPrefix Tryd.hasPreS t ⟨#[194, 175]⟩ w
  rw [pre_starts, starts_high] at h
  exact h

/-- Where strconv.ErrRange lies. -/
def RangeAt (w : World) : Prop := ∃ ev, w.cell? ⟨Tryd.atoiS_ren.g 16, 0, none⟩ = some ev ∧ (ev = .nilIface ∨ ∃ te pe, ev = .iface te pe)

theorem RangeAt.below {w w' : World} (h : RangeAt w) (hb : Below w.heap.size w w') : RangeAt w' := by
  obtain ⟨ev, h1, h2⟩ := h
  exact ⟨ev, (hb.cell (show (⟨Tryd.atoiS_ren.g 16, 0, none⟩ : Addr).block < w.heap.size from Lib.lt_of_cell h1)).trans h1, h2⟩

theorem atoi_ok (x : ByteArray) (n : Nat) (hs : x.size ≤ 17592186044416) (h : Lib.atoiAll x.data.toList = .ok (n : Int)) (w : World) : Calls Tryd.prog 50 #[.string x] w fun e w' => e = .returned (.tuple #[.int .i64 (n : Int), .nilIface]) ∧ Below w.heap.size w w' := by
  refine (Any.strconv_Atoi_ok Tryd.atoiS x (by omega) n h w).mono ?_
  rintro e w' ⟨rfl, hw⟩
  refine ⟨rfl, ?_⟩
  rcases hw with rfl | ⟨t, rfl⟩
  · exact Below.refl _ _
  · exact Lib.bytesWorld_below _ _ _

theorem atoi_range (x : ByteArray) (hs : x.size ≤ 17592186044416) (h : Lib.atoiAll x.data.toList = .range) (w : World) (hR : RangeAt w) : Calls Tryd.prog 50 #[.string x] w fun e w' => ∃ n ty p, e = .returned (.tuple #[.int .i64 n, .iface ty p]) ∧ Below w.heap.size w w' := by
  obtain ⟨ev, h1, h2⟩ := hR
  refine (Any.strconv_Atoi_range Tryd.atoiS x (by omega) h ev w h1 h2).mono ?_
  rintro e w' ⟨N, rfl, -, -, hb⟩
  exact ⟨_, _, _, rfl, hb⟩

theorem run_sub1 {s : ByteArray} {q : Nat} (h2 : q ≤ s.size) (W : World) : (Instr.slice 9 (.string s) (some (.int .i64 (q : Nat))) none none).run Tryd.prog W = .ok (.string (s.extract q s.size)) W := by
  have h3 : (q : Int) ≤ (s.size : Int) := by omega
  go_simp

end Go.Proofs.YtkjpgbecbggcoaaDoor
