import Derived.Test.YtmgjicgojlkpcaaGreatDoorSpecGot
import Derived.Test.YtmgjicgojlkpcaaGreatDoorTextGrow
import Derived.Test.YtmgjicgojlkpcaaGreatDoorRuneMath2
import Derived.Laws.IdiomStrings
namespace Go.Proofs.YtmgjicgojlkpcaaGreatDoor
open Go.RowKit

/-- Bytes as numbers. -/
def uz (l : List UInt8) : List Int := l.map fun b => ((b.toNat : Nat) : Int)

theorem uz_len (l : List UInt8) : (uz l).length = l.length := by unfold uz; simp
theorem uz_app (l m : List UInt8) : uz (l ++ m) = uz l ++ uz m := by unfold uz; simp
theorem bz_uz (s : ByteArray) : bz s = uz s.data.toList := rfl

/-- '[]byte(s)'. -/
theorem conv_str (w : World) (s : ByteArray) : ∃ cap W1, (convert 9 33 (.string s)).run Tryz.prog w = .ok (.slice (some ⟨w.heap.size, 0, none⟩) s.size cap) W1 ∧ s.size ≤ cap ∧ RowB W1 (some ⟨w.heap.size, 0, none⟩) s.size (bz s) ∧ Below w.heap.size w W1 ∧ w.heap.size < W1.heap.size := by
  have h := run_bytes_of_string (P := Tryz.prog) w 9 33 5 s Tryz.underlying9 Tryz.underlying33 Tryz.underlying5
  refine ⟨_, _, h, grownCap_ge w _ 0 _, ?_, (Below.refl _ w).drew.alloc (by simp) _, by simp⟩
  refine ⟨bz_len s, .inr ⟨w.heap.size, 0, rfl, by simp, fun i hi => ?_⟩⟩
  obtain ⟨C, hC⟩ : ∃ C, bytesRow s (grownCap w s.size 0 5) = C := ⟨_, rfl⟩
  have hCi : C[i]? = some (.int .u8 ((bz s).getD i 0)) := by
    rw [← hC, bz_get hi]
    unfold bytesRow
    have hi' : i < s.data.size := hi
    have hsz : i < (s.data.map (fun b => Value.int .u8 b.toNat)).size := by simpa using hi'
    rw [Array.getElem?_append_left hsz, bt_get hi, ByteArray.getElem_eq_getElem_data]
    rw [Array.getElem?_map, Array.getElem?_eq_getElem hi']
    rfl
  rw [hC]
  show (World.alloc _ _).cell? _ = _
  have hb : (w.drew.alloc (.cells C 5 (C.size, C.size + 1))).heap[w.heap.size]? = some (.cells C 5 (C.size, C.size + 1)) := by
    show (w.heap.push _)[w.heap.size]? = _
    simp
  unfold World.cell?
  rw [Nat.zero_add]
  show (match (w.drew.alloc (.cells C 5 (C.size, C.size + 1))).heap[w.heap.size]? with | some (Obj.cells c _ _) => c[i]? | _ => none) = _
  rw [hb]
  exact hCi

/-- 'string(b)'. -/
theorem conv_back {w : World} {b off cap : Nat} {l : List UInt8} (h : RowB w (some ⟨b, off, none⟩) l.length (uz l)) : (convert 33 9 (.slice (some ⟨b, off, none⟩) l.length cap)).run Tryz.prog w = .ok (.string ⟨l.toArray⟩) w := by
  refine run_convert_bytes_back (P := Tryz.prog) w 33 9 5 ⟨b, off, none⟩ cap l Tryz.underlying33 Tryz.underlying5 Tryz.underlying9 (fun j hj => ?_)
  have h2 : (⟨b, off, none⟩ : Addr).add j = ⟨b, off + j, none⟩ := by by_cases h : j = 0 <;> simp [Addr.add, h]
  rcases h.at_ with h0 | ⟨b', o', e, _, hc⟩
  · omega
  · cases e
    rw [h2, hc j hj]
    simp [uz, hj]

/-- A character's bytes end within the text. -/
theorem rune_end {s : ByteArray} {i : Nat} (h : i < s.size) : i + (runeAt s i).2 ≤ s.size ∧ (runeAt s i).2 ≤ 4 := by
  have hb := bt_lt s i
  by_cases h1 : bt s i < 128
  · rw [rune_ascii h1]; exact ⟨by simp; omega, by simp⟩
  · by_cases h2 : bt s i < 192 ∨ 248 ≤ bt s i
    · rw [rune_0 (by omega) h2]; exact ⟨by simp; omega, by simp⟩
    · by_cases h3 : bt s i < 224
      · rw [rune_2 (by omega) h3]
        split
        · rename_i h'; have := tl_bd h'.1; exact ⟨by simp; omega, by simp⟩
        · exact ⟨by simp; omega, by simp⟩
      · by_cases h4 : bt s i < 240
        · rw [rune_3 (by omega) h4]
          split
          · rename_i h'; have := tl_bd h'.2.1; exact ⟨by simp; omega, by simp⟩
          · exact ⟨by simp; omega, by simp⟩
        · rw [rune_4 (by omega) (by omega)]
          split
          · rename_i h'; have := tl_bd h'.2.2.1; exact ⟨by simp; omega, by simp⟩
          · exact ⟨by simp; omega, by simp⟩

/-- A piece of a text in memory. -/
theorem RowB.piece {w : World} {b off : Nat} {s : ByteArray} (h : RowB w (some ⟨b, off, none⟩) s.size (bz s)) {i n : Nat} (hn : i + n ≤ s.size) : RowB w (some ⟨b, off + i, none⟩) n (uz (s.extract i (i + n)).data.toList) := by
  have hl : (s.extract i (i + n)).data.toList.length = n := by rw [sub_list, List.length_take, List.length_drop, ← Lib.size_eq]; omega
  refine ⟨by rw [uz_len, hl], ?_⟩
  by_cases h0 : n = 0
  · exact .inl h0
  · rcases h.at_ with h' | ⟨b', o', e, hlt, hc⟩
    · omega
    · cases e
      refine .inr ⟨b, _, rfl, hlt, fun k hk => ?_⟩
      rw [Nat.add_assoc, hc (i + k) (by omega), bz_uz, sub_list]
      unfold uz
      have hik : i + k < s.data.toList.length := by rw [← Lib.size_eq]; omega
      simp only [List.getD_eq_getElem?_getD, List.getElem?_map, List.getElem?_take, List.getElem?_drop]
      rw [if_pos (by omega)]

end Go.Proofs.YtmgjicgojlkpcaaGreatDoor
