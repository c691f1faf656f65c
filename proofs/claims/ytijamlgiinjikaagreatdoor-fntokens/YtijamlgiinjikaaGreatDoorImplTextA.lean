import Derived.Test.YtijamlgiinjikaaGreatDoorImplNumber
import Derived.Test.YtijamlgiinjikaaGreatDoorImplReader
import Derived.Test.YtijamlgiinjikaaGreatDoorShelfCutPre
import Derived.Test.YtijamlgiinjikaaGreatDoorShelfDecode
import Derived.Test.YtijamlgiinjikaaGreatDoorShelfValid
namespace Go.Proofs.YtijamlgiinjikaaGreatDoor
open Go.RowKit

theorem starts_quote1 (s : ByteArray) (i : Nat) : startsB s i ⟨#[39]⟩ = quote1 s i := by
  unfold startsB quote1
  rw [show (ByteArray.mk #[39]).size = 1 from rfl, Lib.extract_toList, show (ByteArray.mk #[39]).toList = [UInt8.ofNat 39] by rw [Lib.toList_data]; rfl, show i + 1 - i = 0 + 1 by omega]
  by_cases h : i + 1 ≤ s.size
  · rw [start_step (by omega) (by omega)]
    simp [h]
  · rw [decide_eq_false h, decide_eq_false (fun hh => h hh.1)]; rfl

theorem tail_quote1 {s : ByteArray} {i : Nat} (h : i ≤ s.size) : quote1 (s.extract i s.size) 0 = quote1 s i := by
  unfold quote1
  rw [tail_size]
  by_cases h2 : i + 1 ≤ s.size
  · rw [tail_bt (by omega), Nat.add_zero]
    exact decide_eq_decide.2 ⟨fun ⟨_, b⟩ => ⟨h2, b⟩, fun ⟨_, b⟩ => ⟨by omega, b⟩⟩
  · rw [decide_eq_false (fun hh => h2 (by omega)), decide_eq_false (fun hh => h2 hh.1)]

theorem cutPre_any (t : ByteArray) (w : World) : Calls Tryz.prog 47 #[.string t, .string ⟨#[39]⟩] w fun e w' => e = .returned (.tuple #[.string (if quote1 t 0 = true then t.extract 1 t.size else t), .bool (quote1 t 0)]) ∧ w' = w := by
  have h := Any.strings_CutPrefix Tryz.cutPreS t ⟨#[39]⟩ w
  rw [trim_starts, pre_starts, starts_quote1] at h
  exact h

/-- The same, of the rest of a text. -/
theorem cutPre_at (s : ByteArray) (i : Nat) (hi : i ≤ s.size) (w : World) : Calls Tryz.prog 47 #[.string (s.extract i s.size), .string ⟨#[39]⟩] w fun e w' => e = .returned (.tuple #[.string (s.extract (if quote1 s i = true then i + 1 else i) s.size), .bool (quote1 s i)]) ∧ w' = w := by
  have h := cutPre_any (s.extract i s.size) w
  rw [tail_quote1 hi] at h
  have e : (if quote1 s i = true then (s.extract i s.size).extract 1 (s.extract i s.size).size else s.extract i s.size) = s.extract (if quote1 s i = true then i + 1 else i) s.size := by
    by_cases hq : quote1 s i = true
    · rw [if_pos hq, if_pos hq, tail_tail]
    · rw [if_neg hq, if_neg hq]
  rw [e] at h
  exact h

/-- utf8's two tables lie as laid. -/
def TabsAt (w : World) : Prop := Lib.Utf8Tabs (Tryz.decodeS_ren.g 3) (Tryz.decodeS_ren.g 4) w

theorem TabsAt.below {w w' : World} (h : TabsAt w) (hb : Below w.heap.size w w') : TabsAt w' := Utf8Tabs_below h hb

theorem decode_any (t : ByteArray) (h0 : 0 < t.size) (w : World) (hT : TabsAt w) : Calls Tryz.prog 51 #[.string t] w fun e w' => e = .returned (.tuple #[.int .i32 ((Utf8.decode t 0).1 : Nat), .int .i64 ((Utf8.decode t 0).2 : Nat)]) ∧ Below w.heap.size w w' := by
  have h := Any.utf8_DecodeRuneInString Tryz.decodeS t w hT
  have e : Lib.decodeGo t = Utf8.decode t 0 := by unfold Lib.decodeGo; rw [if_neg (by omega)]
  rw [e] at h
  exact h

theorem valid_any (t : ByteArray) (hs : t.size ≤ 17592186044416) (w : World) (hT : TabsAt w) : Calls Tryz.prog 48 #[.string t] w fun e w' => e = .returned (.bool (Lib.validD t.data.toList)) ∧ Below w.heap.size w w' :=
  Any.utf8_ValidString Tryz.validS t w (by omega) hT

end Go.Proofs.YtijamlgiinjikaaGreatDoor
