import Derived.Test.YtagomkpnmdpaiaaGreatDoorMBase
import Derived.Test.YtagomkpnmdpaiaaGreatDoorMRune
import Derived.Test.YtagomkpnmdpaiaaGreatDoorMGet
import Derived.Laws.IdiomStrings
namespace Go.Proofs.YtagomkpnmdpaiaaGreatDoor
open Go.RowKit

theorem own_block {w : World} {B e size n : Nat} {v : Value} {xs : List Value} (h : w.ownsRow B e size v n xs) : ∀ k, v.ownBlock = some k → B ≤ k := by
  intro k hk
  rcases h.2 with ⟨h', _⟩ | ⟨g, cap, cur, h', hb, _⟩
  · rw [h'] at hk; simp [Value.ownBlock] at hk
  · rw [h'] at hk; simp [Value.ownBlock] at hk; omega

/-- A text of the call's own from block B on, and what stood below B is as it was. -/
structure TextG (B : Nat) (w wr : World) (v : Value) (n : Nat) (zs : List Int) : Prop where
  own : wr.ownsRow B 5 1 v n (zs.map (Value.int .u8))
  low : Below B w wr
  le : B ≤ wr.heap.size

theorem TextG.step {B n n' : Nat} {w wr w' : World} {v v' : Value} {o : Obj} {zs ys : List Int} (h : TextG B w wr v n zs) (hown : w'.ownsRow B 5 1 v' n' (zs.map (Value.int .u8) ++ ys.map (Value.int .u8))) (hg : (wr.alloc o).grownBy w' v.ownBlock) : TextG B w w' v' n' (zs ++ ys) := by
  have hb : Below B w w' := (h.low.alloc h.le o).grown hg (by have := h.le; simp; omega) (own_block h.own)
  refine ⟨by rw [List.map_append]; exact hown, hb, ?_⟩
  have h1 : Below B wr w' := ((Below.refl _ _).alloc h.le o).grown hg (by have := h.le; simp; omega) (own_block h.own)
  have := h1.size
  have := h.le
  omega

theorem TextG.keep {B n : Nat} {w wr wx : World} {v : Value} {zs : List Int} (h : TextG B w wr v n zs) (hb : Below wr.heap.size wr wx) : TextG B w wx v n zs :=
  ⟨ownsB_below h.own (Nat.le_refl _) hb, h.low.trans (hb.mono h.le), Nat.le_trans h.le hb.size⟩

theorem TextG.grow {B n n' : Nat} {w wr w' : World} {v v' : Value} {zs ys : List Int} (h : TextG B w wr v n zs) (hown : w'.ownsRow B 5 1 v' n' (zs.map (Value.int .u8) ++ ys.map (Value.int .u8))) (hg : wr.grownBy w' v.ownBlock) : TextG B w w' v' n' (zs ++ ys) := by
  have h1 : Below B wr w' := (Below.refl _ _).grown hg h.le (own_block h.own)
  refine ⟨by rw [List.map_append]; exact hown, h.low.grown hg h.le (own_block h.own), ?_⟩
  have := h1.size
  have := h.le
  omega

end Go.Proofs.YtagomkpnmdpaiaaGreatDoor
namespace Go.Proofs.YtagomkpnmdpaiaaGreatDoor
open Go

/-- The number behind k bytes that go on. -/
def vP (s : ByteArray) (i b : Nat) : Nat → Nat
  | 0 => b
  | k + 1 => vP s i b k * 64 + (bt s (i + (k + 1)) - 128)

theorem valid_ok (v : Nat) : Utf8.valid (v : Nat) = runeOk (v : Int) := by
  unfold Utf8.valid runeOk
  by_cases h : 0 ≤ (v : Int) ∧ (v : Int) ≤ 1114111 ∧ ((v : Int) < 55296 ∨ 57343 < (v : Int))
  · rw [decide_eq_true h]
    simp
    omega
  · rw [decide_eq_false h]
    simp
    omega

theorem encZ_cnt (v : Nat) : (encZ (v : Int)).length = if v < 128 then 1 else if v < 2048 then 2 else if v < 65536 then 3 else 4 := by
  unfold encZ
  by_cases a : v < 128
  · rw [if_pos a, if_pos (by omega)]; rfl
  · rw [if_neg a, if_neg (by omega)]
    by_cases b : v < 2048
    · rw [if_pos b, if_pos (by omega)]; rfl
    · rw [if_neg b, if_neg (by omega)]
      by_cases d : v < 65536
      · rw [if_pos d, if_pos (by omega)]; rfl
      · rw [if_neg d, if_neg (by omega)]; rfl

theorem tl_bd {s : ByteArray} {j : Nat} (h : tl s j = true) : j < s.size ∧ 128 ≤ bt s j ∧ bt s j < 192 := by
  unfold tl at h
  simpa using h

theorem vP_2 {s : ByteArray} {i : Nat} (h0 : 192 ≤ bt s i) (h1 : bt s i < 224) (t1 : tl s (i + 1) = true) : vP s i (bt s i - 192) 1 = v2 s i := by
  have := tl_bd t1
  show (bt s i - 192) * 64 + (bt s (i + 1) - 128) = _
  unfold v2
  omega

theorem vP_3 {s : ByteArray} {i : Nat} (h0 : 224 ≤ bt s i) (h1 : bt s i < 240) (t1 : tl s (i + 1) = true) (t2 : tl s (i + 2) = true) : vP s i (bt s i - 224) 2 = v3 s i := by
  have := tl_bd t1
  have := tl_bd t2
  show ((bt s i - 224) * 64 + (bt s (i + 1) - 128)) * 64 + (bt s (i + 2) - 128) = _
  unfold v3
  omega

theorem vP_4 {s : ByteArray} {i : Nat} (h0 : 240 ≤ bt s i) (h1 : bt s i < 248) (t1 : tl s (i + 1) = true) (t2 : tl s (i + 2) = true) (t3 : tl s (i + 3) = true) : vP s i (bt s i - 240) 3 = v4 s i := by
  have := tl_bd t1
  have := tl_bd t2
  have := tl_bd t3
  show (((bt s i - 240) * 64 + (bt s (i + 1) - 128)) * 64 + (bt s (i + 2) - 128)) * 64 + (bt s (i + 3) - 128) = _
  unfold v4
  omega

/-- A lead byte of n bytes: its class, and the number in it. -/
def cls (c n b : Nat) : Prop := (n = 2 ∧ 192 ≤ c ∧ c < 224 ∧ b = c - 192) ∨ (n = 3 ∧ 224 ≤ c ∧ c < 240 ∧ b = c - 224) ∨ (n = 4 ∧ 240 ≤ c ∧ c < 248 ∧ b = c - 240)

theorem rune_cut {s : ByteArray} {i n b k : Nat} (h : cls (bt s i) n b) (hk : 1 ≤ k) (hn : k < n) (ht : tl s (i + k) = false) : runeAt s i = (0, 0) := by
  rcases h with ⟨rfl, h0, h1, _⟩ | ⟨rfl, h0, h1, _⟩ | ⟨rfl, h0, h1, _⟩
  · obtain rfl : k = 1 := by omega
    rw [rune_2 h0 h1, if_neg (fun h => by rw [ht] at h; cases h.1)]
  · rw [rune_3 h0 h1, if_neg]
    rintro ⟨t1, t2, _⟩
    rcases (show k = 1 ∨ k = 2 by omega) with rfl | rfl
    · rw [ht] at t1; cases t1
    · rw [ht] at t2; cases t2
  · rw [rune_4 h0 h1, if_neg]
    rintro ⟨t1, t2, t3, _⟩
    rcases (show k = 1 ∨ k = 2 ∨ k = 3 by omega) with rfl | rfl | rfl
    · rw [ht] at t1; cases t1
    · rw [ht] at t2; cases t2
    · rw [ht] at t3; cases t3

set_option maxRecDepth 20000 in
theorem rune_fin {s : ByteArray} {i n b : Nat} (h : cls (bt s i) n b) (ht : ∀ k, 1 ≤ k → k < n → tl s (i + k) = true) :
    vP s i b (n - 1) ≤ 2097151 ∧ runeAt s i = if (encZ (vP s i b (n - 1) : Nat)).length = n ∧ runeOk (vP s i b (n - 1) : Nat) = true then (vP s i b (n - 1), n) else (0, 0) := by
  obtain ⟨Z, hZ⟩ : ∃ Z, Z = 2097151 := ⟨_, rfl⟩
  rw [← hZ]
  rcases h with ⟨hn, h0, h1, hb0⟩ | ⟨hn, h0, h1, hb0⟩ | ⟨hn, h0, h1, hb0⟩ <;> subst hn <;> subst hb0
  · have t1 := ht 1 (by omega) (by omega)
    have hv := vP_2 h0 h1 t1
    have hb := tl_bd t1
    have hlt : v2 s i < 2048 := by unfold v2; omega
    rw [show 2 - 1 = 1 from rfl, hv]
    refine ⟨by omega, ?_⟩
    rw [rune_2 h0 h1, encZ_cnt]
    by_cases hc : 128 ≤ v2 s i
    · rw [if_pos ⟨t1, hc⟩, if_neg (show ¬ v2 s i < 128 by omega), if_pos hlt, if_pos ⟨rfl, decide_eq_true (by omega)⟩]
    · rw [if_neg (fun h => hc h.2), if_pos (show v2 s i < 128 by omega), if_neg (fun h => by have := h.1; omega)]
  · have t1 := ht 1 (by omega) (by omega)
    have t2 := ht 2 (by omega) (by omega)
    have hv := vP_3 h0 h1 t1 t2
    have hlt : v3 s i < 65536 := by unfold v3; omega
    rw [show 3 - 1 = 2 from rfl, hv]
    refine ⟨by omega, ?_⟩
    rw [rune_3 h0 h1, encZ_cnt, valid_ok]
    by_cases hc : 2048 ≤ v3 s i
    · rw [if_neg (show ¬ v3 s i < 128 by omega), if_neg (show ¬ v3 s i < 2048 by omega), if_pos hlt]
      by_cases ho : runeOk (v3 s i : Nat) = true
      · rw [if_pos ⟨t1, t2, hc, ho⟩, if_pos ⟨rfl, ho⟩]
      · rw [if_neg (fun h => ho h.2.2.2), if_neg (fun h => ho h.2)]
    · rw [if_neg (fun h => hc h.2.2.1), if_neg]
      rintro ⟨h, _⟩
      split at h
      · omega
      · rw [if_pos (by omega)] at h; omega
  · have t1 := ht 1 (by omega) (by omega)
    have t2 := ht 2 (by omega) (by omega)
    have t3 := ht 3 (by omega) (by omega)
    have hv := vP_4 h0 h1 t1 t2 t3
    have hlt : v4 s i < 2097152 := by unfold v4; omega
    rw [show 4 - 1 = 3 from rfl, hv]
    refine ⟨by omega, ?_⟩
    rw [rune_4 h0 h1, encZ_cnt, valid_ok]
    by_cases hc : 65536 ≤ v4 s i
    · rw [if_neg (show ¬ v4 s i < 128 by omega), if_neg (show ¬ v4 s i < 2048 by omega), if_neg (show ¬ v4 s i < 65536 by omega)]
      by_cases ho : runeOk (v4 s i : Nat) = true
      · rw [if_pos ⟨t1, t2, t3, hc, ho⟩, if_pos ⟨rfl, ho⟩]
      · rw [if_neg (fun h => ho h.2.2.2.2), if_neg (fun h => ho h.2)]
    · rw [if_neg (fun h => hc h.2.2.2.1), if_neg]
      rintro ⟨h, _⟩
      split at h
      · omega
      · split at h
        · omega
        · rw [if_pos (by omega)] at h; omega

end Go.Proofs.YtagomkpnmdpaiaaGreatDoor
namespace Go.Proofs.YtagomkpnmdpaiaaGreatDoor
open Go.RowKit

/-- Bytes as numbers. -/
def uz (l : List UInt8) : List Int := l.map fun b => ((b.toNat : Nat) : Int)

theorem uz_len (l : List UInt8) : (uz l).length = l.length := by unfold uz; simp
theorem uz_app (l m : List UInt8) : uz (l ++ m) = uz l ++ uz m := by unfold uz; simp
theorem bz_uz (s : ByteArray) : bz s = uz s.data.toList := rfl

/-- '[]byte(s)'. -/
theorem conv_str (w : World) (s : ByteArray) : ∃ cap W1, (convert 9 22 (.string s)).run Tryz.prog w = .ok (.slice (some ⟨w.heap.size, 0, none⟩) s.size cap) W1 ∧ s.size ≤ cap ∧ RowB W1 (some ⟨w.heap.size, 0, none⟩) s.size (bz s) ∧ Below w.heap.size w W1 ∧ w.heap.size < W1.heap.size := by
  have h := run_bytes_of_string (P := Tryz.prog) w 9 22 5 s Tryz.underlying9 Tryz.underlying22 Tryz.underlying5
  refine ⟨_, _, h, grownCap_ge w _ 0 _, ?_, (Below.refl _ w).drew.alloc (by simp) _, by simp⟩
  refine ⟨bz_len s, .inr ⟨w.heap.size, 0, rfl, by simp, fun i hi => ?_⟩⟩
  obtain ⟨C, hC⟩ : ∃ C, bytesRow s (grownCap w s.size 0 5) = C := ⟨_, rfl⟩
  have hCi : C[i]? = some (.int .u8 ((bz s).getD i 0)) := by
    rw [← hC, bz_get hi]
    unfold bytesRow
    have hi' : i < s.data.size := hi
    have hsz : i < (s.data.map (fun b => Value.int .u8 b.toNat)).size := by simpa using hi'
    rw [Array.getElem?_append_left hsz, bt_get hi, ByteArray.getElem_eq_getElem_data]
    rw [Array.getElem?_map, Array.getElem?_eq_getElem hi']
    rfl
  rw [hC]
  show (World.alloc _ _).cell? _ = _
  have hb : (w.drew.alloc (.cells C 5 (C.size, C.size + 1))).heap[w.heap.size]? = some (.cells C 5 (C.size, C.size + 1)) := by
    show (w.heap.push _)[w.heap.size]? = _
    simp
  unfold World.cell?
  rw [Nat.zero_add]
  show (match (w.drew.alloc (.cells C 5 (C.size, C.size + 1))).heap[w.heap.size]? with | some (Obj.cells c _ _) => c[i]? | _ => none) = _
  rw [hb]
  exact hCi

/-- 'string(b)'. -/
theorem conv_back {w : World} {b off cap : Nat} {l : List UInt8} (h : RowB w (some ⟨b, off, none⟩) l.length (uz l)) : (convert 22 9 (.slice (some ⟨b, off, none⟩) l.length cap)).run Tryz.prog w = .ok (.string ⟨l.toArray⟩) w := by
  refine run_convert_bytes_back (P := Tryz.prog) w 22 9 5 ⟨b, off, none⟩ cap l Tryz.underlying22 Tryz.underlying5 Tryz.underlying9 (fun j hj => ?_)
  have h2 : (⟨b, off, none⟩ : Addr).add j = ⟨b, off + j, none⟩ := by by_cases h : j = 0 <;> simp [Addr.add, h]
  rcases h.at_ with h0 | ⟨b', o', e, _, hc⟩
  · omega
  · cases e
    rw [h2, hc j hj]
    simp [uz, hj]

/-- A character's bytes end within the text. -/
theorem rune_end {s : ByteArray} {i : Nat} (h : i < s.size) : i + (runeAt s i).2 ≤ s.size ∧ (runeAt s i).2 ≤ 4 := by
  have hb := bt_lt s i
  by_cases h1 : bt s i < 128
  · rw [rune_ascii h1]; exact ⟨by simp; omega, by simp⟩
  · by_cases h2 : bt s i < 192 ∨ 248 ≤ bt s i
    · rw [rune_0 (by omega) h2]; exact ⟨by simp; omega, by simp⟩
    · by_cases h3 : bt s i < 224
      · rw [rune_2 (by omega) h3]
        split
        · rename_i h'; have := tl_bd h'.1; exact ⟨by simp; omega, by simp⟩
        · exact ⟨by simp; omega, by simp⟩
      · by_cases h4 : bt s i < 240
        · rw [rune_3 (by omega) h4]
          split
          · rename_i h'; have := tl_bd h'.2.1; exact ⟨by simp; omega, by simp⟩
          · exact ⟨by simp; omega, by simp⟩
        · rw [rune_4 (by omega) (by omega)]
          split
          · rename_i h'; have := tl_bd h'.2.2.1; exact ⟨by simp; omega, by simp⟩
          · exact ⟨by simp; omega, by simp⟩

/-- A piece of a text in memory. -/
theorem RowB.piece {w : World} {b off : Nat} {s : ByteArray} (h : RowB w (some ⟨b, off, none⟩) s.size (bz s)) {i n : Nat} (hn : i + n ≤ s.size) : RowB w (some ⟨b, off + i, none⟩) n (uz (s.extract i (i + n)).data.toList) := by
  have hl : (s.extract i (i + n)).data.toList.length = n := by rw [sub_list, List.length_take, List.length_drop, ← Lib.size_eq]; omega
  refine ⟨by rw [uz_len, hl], ?_⟩
  by_cases h0 : n = 0
  · exact .inl h0
  · rcases h.at_ with h' | ⟨b', o', e, hlt, hc⟩
    · omega
    · cases e
      refine .inr ⟨b, _, rfl, hlt, fun k hk => ?_⟩
      rw [Nat.add_assoc, hc (i + k) (by omega), bz_uz, sub_list]
      unfold uz
      have hik : i + k < s.data.toList.length := by rw [← Lib.size_eq]; omega
      simp only [List.getD_eq_getElem?_getD, List.getElem?_map, List.getElem?_take, List.getElem?_drop]
      rw [if_pos (by omega)]

end Go.Proofs.YtagomkpnmdpaiaaGreatDoor
