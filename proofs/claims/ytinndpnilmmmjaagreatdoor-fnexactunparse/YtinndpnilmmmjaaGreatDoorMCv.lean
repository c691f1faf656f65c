import Derived.Test.YtinndpnilmmmjaaGreatDoorMBase
import Derived.Test.YtinndpnilmmmjaaGreatDoorMRune
import Derived.Laws.IdiomStrings
import Derived.Deep.DeepCutAuto
namespace Go.Proofs.YtinndpnilmmmjaaGreatDoor
open Go.RowKit

theorem own_block {w : World} {B e size n : Nat} {v : Value} {xs : List Value} (h : w.ownsRow B e size v n xs) : ∀ k, v.ownBlock = some k → B ≤ k := by
  intro k hk
  rcases h.2 with ⟨h', _⟩ | ⟨g, cap, cur, h', hb, _⟩
  · rw [h'] at hk; simp [Value.ownBlock] at hk
  · rw [h'] at hk; simp [Value.ownBlock] at hk; omega

/-- A text of the call's own from block B on, and what stood below B is as it was. -/
structure TextG (B : Nat) (w wr : World) (v : Value) (n : Nat) (zs : List Int) : Prop where
  own : wr.ownsRow B 5 1 v n (zs.map (Value.int .u8))
  low : Below B w wr
  le : B ≤ wr.heap.size

theorem TextG.step {B n n' : Nat} {w wr w' : World} {v v' : Value} {o : Obj} {zs ys : List Int} (h : TextG B w wr v n zs) (hown : w'.ownsRow B 5 1 v' n' (zs.map (Value.int .u8) ++ ys.map (Value.int .u8))) (hg : (wr.alloc o).grownBy w' v.ownBlock) : TextG B w w' v' n' (zs ++ ys) := by
  have hb : Below B w w' := (h.low.alloc h.le o).grown hg (by have := h.le; simp; omega) (own_block h.own)
  refine ⟨by rw [List.map_append]; exact hown, hb, ?_⟩
  have h1 : Below B wr w' := ((Below.refl _ _).alloc h.le o).grown hg (by have := h.le; simp; omega) (own_block h.own)
  have := h1.size
  have := h.le
  omega

theorem TextG.keep {B n : Nat} {w wr wx : World} {v : Value} {zs : List Int} (h : TextG B w wr v n zs) (hb : Below wr.heap.size wr wx) : TextG B w wx v n zs :=
  ⟨ownsB_below h.own (Nat.le_refl _) hb, h.low.trans (hb.mono h.le), Nat.le_trans h.le hb.size⟩

theorem TextG.grow {B n n' : Nat} {w wr w' : World} {v v' : Value} {zs ys : List Int} (h : TextG B w wr v n zs) (hown : w'.ownsRow B 5 1 v' n' (zs.map (Value.int .u8) ++ ys.map (Value.int .u8))) (hg : wr.grownBy w' v.ownBlock) : TextG B w w' v' n' (zs ++ ys) := by
  have h1 : Below B wr w' := (Below.refl _ _).grown hg h.le (own_block h.own)
  refine ⟨by rw [List.map_append]; exact hown, h.low.grown hg h.le (own_block h.own), ?_⟩
  have := h1.size
  have := h.le
  omega

end Go.Proofs.YtinndpnilmmmjaaGreatDoor
namespace Go.Proofs.YtinndpnilmmmjaaGreatDoor
open Go

/-- The number behind k bytes that go on. -/
def vP (s : ByteArray) (i b : Nat) : Nat → Nat
  | 0 => b
  | k + 1 => vP s i b k * 64 + (bt s (i + (k + 1)) - 128)

theorem valid_ok (v : Nat) : Utf8.valid (v : Nat) = runeOk (v : Int) := by
  unfold Utf8.valid runeOk
  by_cases h : 0 ≤ (v : Int) ∧ (v : Int) ≤ 1114111 ∧ ((v : Int) < 55296 ∨ 57343 < (v : Int))
  · rw [decide_eq_true h]
    simp
    omega
  · rw [decide_eq_false h]
    simp
    omega

theorem encZ_cnt (v : Nat) : (encZ (v : Int)).length = if v < 128 then 1 else if v < 2048 then 2 else if v < 65536 then 3 else 4 := by
  unfold encZ
  by_cases a : v < 128
  · rw [if_pos a, if_pos (by omega)]; rfl
  · rw [if_neg a, if_neg (by omega)]
    by_cases b : v < 2048
    · rw [if_pos b, if_pos (by omega)]; rfl
    · rw [if_neg b, if_neg (by omega)]
      by_cases d : v < 65536
      · rw [if_pos d, if_pos (by omega)]; rfl
      · rw [if_neg d, if_neg (by omega)]; rfl

theorem tl_bd {s : ByteArray} {j : Nat} (h : tl s j = true) : j < s.size ∧ 128 ≤ bt s j ∧ bt s j < 192 := by
  unfold tl at h
  simpa using h

theorem vP_2 {s : ByteArray} {i : Nat} (h0 : 192 ≤ bt s i) (h1 : bt s i < 224) (t1 : tl s (i + 1) = true) : vP s i (bt s i - 192) 1 = v2 s i := by
  have := tl_bd t1
  show (bt s i - 192) * 64 + (bt s (i + 1) - 128) = _
  unfold v2
  omega

theorem vP_3 {s : ByteArray} {i : Nat} (h0 : 224 ≤ bt s i) (h1 : bt s i < 240) (t1 : tl s (i + 1) = true) (t2 : tl s (i + 2) = true) : vP s i (bt s i - 224) 2 = v3 s i := by
  have := tl_bd t1
  have := tl_bd t2
  show ((bt s i - 224) * 64 + (bt s (i + 1) - 128)) * 64 + (bt s (i + 2) - 128) = _
  unfold v3
  omega

theorem vP_4 {s : ByteArray} {i : Nat} (h0 : 240 ≤ bt s i) (h1 : bt s i < 248) (t1 : tl s (i + 1) = true) (t2 : tl s (i + 2) = true) (t3 : tl s (i + 3) = true) : vP s i (bt s i - 240) 3 = v4 s i := by
  have := tl_bd t1
  have := tl_bd t2
  have := tl_bd t3
  show (((bt s i - 240) * 64 + (bt s (i + 1) - 128)) * 64 + (bt s (i + 2) - 128)) * 64 + (bt s (i + 3) - 128) = _
  unfold v4
  omega

/-- A lead byte of n bytes: its class, and the number in it. -/
def cls (c n b : Nat) : Prop := (n = 2 ∧ 192 ≤ c ∧ c < 224 ∧ b = c - 192) ∨ (n = 3 ∧ 224 ≤ c ∧ c < 240 ∧ b = c - 224) ∨ (n = 4 ∧ 240 ≤ c ∧ c < 248 ∧ b = c - 240)

theorem rune_cut {s : ByteArray} {i n b k : Nat} (h : cls (bt s i) n b) (hk : 1 ≤ k) (hn : k < n) (ht : tl s (i + k) = false) : runeAt s i = (0, 0) := by
  rcases h with ⟨rfl, h0, h1, _⟩ | ⟨rfl, h0, h1, _⟩ | ⟨rfl, h0, h1, _⟩
  · obtain rfl : k = 1 := by omega
    rw [rune_2 h0 h1, if_neg (fun h => by rw [ht] at h; cases h.1)]
  · rw [rune_3 h0 h1, if_neg]
    rintro ⟨t1, t2, _⟩
    rcases (show k = 1 ∨ k = 2 by omega) with rfl | rfl
    · rw [ht] at t1; cases t1
    · rw [ht] at t2; cases t2
  · rw [rune_4 h0 h1, if_neg]
    rintro ⟨t1, t2, t3, _⟩
    rcases (show k = 1 ∨ k = 2 ∨ k = 3 by omega) with rfl | rfl | rfl
    · rw [ht] at t1; cases t1
    · rw [ht] at t2; cases t2
    · rw [ht] at t3; cases t3

set_option maxRecDepth 20000 in
theorem rune_fin {s : ByteArray} {i n b : Nat} (h : cls (bt s i) n b) (ht : ∀ k, 1 ≤ k → k < n → tl s (i + k) = true) :
    vP s i b (n - 1) ≤ 2097151 ∧ runeAt s i = if (encZ (vP s i b (n - 1) : Nat)).length = n ∧ runeOk (vP s i b (n - 1) : Nat) = true then (vP s i b (n - 1), n) else (0, 0) := by
  obtain ⟨Z, hZ⟩ : ∃ Z, Z = 2097151 := ⟨_, rfl⟩
  rw [← hZ]
  rcases h with ⟨hn, h0, h1, hb0⟩ | ⟨hn, h0, h1, hb0⟩ | ⟨hn, h0, h1, hb0⟩ <;> subst hn <;> subst hb0
  · have t1 := ht 1 (by omega) (by omega)
    have hv := vP_2 h0 h1 t1
    have hb := tl_bd t1
    have hlt : v2 s i < 2048 := by unfold v2; omega
    rw [show 2 - 1 = 1 from rfl, hv]
    refine ⟨by omega, ?_⟩
    rw [rune_2 h0 h1, encZ_cnt]
    by_cases hc : 128 ≤ v2 s i
    · rw [if_pos ⟨t1, hc⟩, if_neg (show ¬ v2 s i < 128 by omega), if_pos hlt, if_pos ⟨rfl, decide_eq_true (by omega)⟩]
    · rw [if_neg (fun h => hc h.2), if_pos (show v2 s i < 128 by omega), if_neg (fun h => by have := h.1; omega)]
  · have t1 := ht 1 (by omega) (by omega)
    have t2 := ht 2 (by omega) (by omega)
    have hv := vP_3 h0 h1 t1 t2
    have hlt : v3 s i < 65536 := by unfold v3; omega
    rw [show 3 - 1 = 2 from rfl, hv]
    refine ⟨by omega, ?_⟩
    rw [rune_3 h0 h1, encZ_cnt, valid_ok]
    by_cases hc : 2048 ≤ v3 s i
    · rw [if_neg (show ¬ v3 s i < 128 by omega), if_neg (show ¬ v3 s i < 2048 by omega), if_pos hlt]
      by_cases ho : runeOk (v3 s i : Nat) = true
      · rw [if_pos ⟨t1, t2, hc, ho⟩, if_pos ⟨rfl, ho⟩]
      · rw [if_neg (fun h => ho h.2.2.2), if_neg (fun h => ho h.2)]
    · rw [if_neg (fun h => hc h.2.2.1), if_neg]
      rintro ⟨h, _⟩
      split at h
      · omega
      · rw [if_pos (by omega)] at h; omega
  · have t1 := ht 1 (by omega) (by omega)
    have t2 := ht 2 (by omega) (by omega)
    have t3 := ht 3 (by omega) (by omega)
    have hv := vP_4 h0 h1 t1 t2 t3
    have hlt : v4 s i < 2097152 := by unfold v4; omega
    rw [show 4 - 1 = 3 from rfl, hv]
    refine ⟨by omega, ?_⟩
    rw [rune_4 h0 h1, encZ_cnt, valid_ok]
    by_cases hc : 65536 ≤ v4 s i
    · rw [if_neg (show ¬ v4 s i < 128 by omega), if_neg (show ¬ v4 s i < 2048 by omega), if_neg (show ¬ v4 s i < 65536 by omega)]
      by_cases ho : runeOk (v4 s i : Nat) = true
      · rw [if_pos ⟨t1, t2, t3, hc, ho⟩, if_pos ⟨rfl, ho⟩]
      · rw [if_neg (fun h => ho h.2.2.2.2), if_neg (fun h => ho h.2)]
    · rw [if_neg (fun h => hc h.2.2.2.1), if_neg]
      rintro ⟨h, _⟩
      split at h
      · omega
      · split at h
        · omega
        · rw [if_pos (by omega)] at h; omega

end Go.Proofs.YtinndpnilmmmjaaGreatDoor
namespace Go.Proofs.YtinndpnilmmmjaaGreatDoor
open Go.RowKit

/-- Bytes as numbers. -/
def uz (l : List UInt8) : List Int := l.map fun b => ((b.toNat : Nat) : Int)

theorem uz_len (l : List UInt8) : (uz l).length = l.length := by unfold uz; simp
theorem uz_app (l m : List UInt8) : uz (l ++ m) = uz l ++ uz m := by unfold uz; simp
theorem bz_uz (s : ByteArray) : bz s = uz s.data.toList := rfl

/-- '[]byte(s)'. -/
theorem conv_str (w : World) (s : ByteArray) : ∃ cap W1, (convert 9 33 (.string s)).run Tryz.prog w = .ok (.slice (some ⟨w.heap.size, 0, none⟩) s.size cap) W1 ∧ s.size ≤ cap ∧ RowB W1 (some ⟨w.heap.size, 0, none⟩) s.size (bz s) ∧ Below w.heap.size w W1 ∧ w.heap.size < W1.heap.size := by
  have h := run_bytes_of_string (P := Tryz.prog) w 9 33 5 s Tryz.underlying9 Tryz.underlying33 Tryz.underlying5
  refine ⟨_, _, h, grownCap_ge w _ 0 _, ?_, (Below.refl _ w).drew.alloc (by simp) _, by simp⟩
  refine ⟨bz_len s, .inr ⟨w.heap.size, 0, rfl, by simp, fun i hi => ?_⟩⟩
  obtain ⟨C, hC⟩ : ∃ C, bytesRow s (grownCap w s.size 0 5) = C := ⟨_, rfl⟩
  have hCi : C[i]? = some (.int .u8 ((bz s).getD i 0)) := by
    rw [← hC, bz_get hi]
    unfold bytesRow
    have hi' : i < s.data.size := hi
    have hsz : i < (s.data.map (fun b => Value.int .u8 b.toNat)).size := by simpa using hi'
    rw [Array.getElem?_append_left hsz, bt_get hi, ByteArray.getElem_eq_getElem_data]
    rw [Array.getElem?_map, Array.getElem?_eq_getElem hi']
    rfl
  rw [hC]
  show (World.alloc _ _).cell? _ = _
  have hb : (w.drew.alloc (.cells C 5 (C.size, C.size + 1))).heap[w.heap.size]? = some (.cells C 5 (C.size, C.size + 1)) := by
    show (w.heap.push _)[w.heap.size]? = _
    simp
  unfold World.cell?
  rw [Nat.zero_add]
  show (match (w.drew.alloc (.cells C 5 (C.size, C.size + 1))).heap[w.heap.size]? with | some (Obj.cells c _ _) => c[i]? | _ => none) = _
  rw [hb]
  exact hCi

/-- 'string(b)'. -/
theorem conv_back {w : World} {b off cap : Nat} {l : List UInt8} (h : RowB w (some ⟨b, off, none⟩) l.length (uz l)) : (convert 33 9 (.slice (some ⟨b, off, none⟩) l.length cap)).run Tryz.prog w = .ok (.string ⟨l.toArray⟩) w := by
  refine run_convert_bytes_back (P := Tryz.prog) w 33 9 5 ⟨b, off, none⟩ cap l Tryz.underlying33 Tryz.underlying5 Tryz.underlying9 (fun j hj => ?_)
  have h2 : (⟨b, off, none⟩ : Addr).add j = ⟨b, off + j, none⟩ := by by_cases h : j = 0 <;> simp [Addr.add, h]
  rcases h.at_ with h0 | ⟨b', o', e, _, hc⟩
  · omega
  · cases e
    rw [h2, hc j hj]
    simp [uz, hj]

/-- A character's bytes end within the text. -/
theorem rune_end {s : ByteArray} {i : Nat} (h : i < s.size) : i + (runeAt s i).2 ≤ s.size ∧ (runeAt s i).2 ≤ 4 := by
  have hb := bt_lt s i
  by_cases h1 : bt s i < 128
  · rw [rune_ascii h1]; exact ⟨by simp; omega, by simp⟩
  · by_cases h2 : bt s i < 192 ∨ 248 ≤ bt s i
    · rw [rune_0 (by omega) h2]; exact ⟨by simp; omega, by simp⟩
    · by_cases h3 : bt s i < 224
      · rw [rune_2 (by omega) h3]
        split
        · rename_i h'; have := tl_bd h'.1; exact ⟨by simp; omega, by simp⟩
        · exact ⟨by simp; omega, by simp⟩
      · by_cases h4 : bt s i < 240
        · rw [rune_3 (by omega) h4]
          split
          · rename_i h'; have := tl_bd h'.2.1; exact ⟨by simp; omega, by simp⟩
          · exact ⟨by simp; omega, by simp⟩
        · rw [rune_4 (by omega) (by omega)]
          split
          · rename_i h'; have := tl_bd h'.2.2.1; exact ⟨by simp; omega, by simp⟩
          · exact ⟨by simp; omega, by simp⟩

/-- A piece of a text in memory. -/
theorem RowB.piece {w : World} {b off : Nat} {s : ByteArray} (h : RowB w (some ⟨b, off, none⟩) s.size (bz s)) {i n : Nat} (hn : i + n ≤ s.size) : RowB w (some ⟨b, off + i, none⟩) n (uz (s.extract i (i + n)).data.toList) := by
  have hl : (s.extract i (i + n)).data.toList.length = n := by rw [sub_list, List.length_take, List.length_drop, ← Lib.size_eq]; omega
  refine ⟨by rw [uz_len, hl], ?_⟩
  by_cases h0 : n = 0
  · exact .inl h0
  · rcases h.at_ with h' | ⟨b', o', e, hlt, hc⟩
    · omega
    · cases e
      refine .inr ⟨b, _, rfl, hlt, fun k hk => ?_⟩
      rw [Nat.add_assoc, hc (i + k) (by omega), bz_uz, sub_list]
      unfold uz
      have hik : i + k < s.data.toList.length := by rw [← Lib.size_eq]; omega
      simp only [List.getD_eq_getElem?_getD, List.getElem?_map, List.getElem?_take, List.getElem?_drop]
      rw [if_pos (by omega)]

end Go.Proofs.YtinndpnilmmmjaaGreatDoor
namespace Go.Proofs.YtinndpnilmmmjaaGreatDoor
open Go.RowKit

set_option maxHeartbeats 400000 in
theorem l1RuneOk_any (v : Int) (w : World) : Calls Tryz.prog 180 #[.int .i64 v] w fun e w' => e = .returned (.bool (runeOk v)) ∧ w' = w := by
  by_cases h1 : 0 ≤ v
  · by_cases h2 : v ≤ 1114111
    · by_cases h3 : v < 55296
      · have HE : Hid (runeOk v = true) := decide_eq_true ⟨h1, h2, .inl h3⟩
        go_enter Tryz.func180, Tryz.ntmps180
        go_wp2
        go_ret
        exact ⟨ret_bool HE.out.symm, rfl⟩
      · by_cases h4 : 57343 < v
        · have HE : Hid (runeOk v = true) := decide_eq_true ⟨h1, h2, .inr h4⟩
          go_enter Tryz.func180, Tryz.ntmps180
          go_wp2
          go_ret
          exact ⟨ret_bool HE.out.symm, rfl⟩
        · have HE : Hid (runeOk v = false) := decide_eq_false (fun h => by omega)
          go_enter Tryz.func180, Tryz.ntmps180
          go_wp2
          go_ret
          exact ⟨ret_bool HE.out.symm, rfl⟩
    · have HE : Hid (runeOk v = false) := decide_eq_false (fun h => by omega)
      go_enter Tryz.func180, Tryz.ntmps180
      go_wp2
      go_ret
      exact ⟨ret_bool HE.out.symm, rfl⟩
  · have HE : Hid (runeOk v = false) := decide_eq_false (fun h => by omega)
    go_enter Tryz.func180, Tryz.ntmps180
    go_wp2
    go_ret
    exact ⟨ret_bool HE.out.symm, rfl⟩

theorem l1RuneOk_eq (v : Int) (w : World) (b : Bool) (h : Hid (runeOk v = b)) : Calls Tryz.prog 180 #[.int .i64 v] w fun e w' => e = .returned (.bool b) ∧ w' = w := by
  rw [← h.out]; exact l1RuneOk_any v w

end Go.Proofs.YtinndpnilmmmjaaGreatDoor
namespace Go.Proofs.YtinndpnilmmmjaaGreatDoor
open Go.RowKit

/-- What l1Bytes gives: a slice of the call's own that reads as zs. -/
def GivesB (w : World) (zs : List Int) (e : Ending) (w' : World) : Prop := ∃ g, e = .returned (.slice (some ⟨g, 0, none⟩) zs.length zs.length) ∧ RowB w' (some ⟨g, 0, none⟩) zs.length zs ∧ Below w.heap.size w w'

theorem givesB_new (w : World) (zs : List Int) : GivesB w zs (.returned (.slice (some ⟨w.heap.size, 0, none⟩) zs.length zs.length)) (w.alloc (.cells (zs.map (Value.int .u8)).toArray 5)) :=
  ⟨w.heap.size, rfl, RowB.new w zs, (Below.refl _ _).alloc (Nat.le_refl _) _⟩

theorem byteN {a : Int} {b : Nat} (h : a = (b : Int)) (hb : b < 256) : IntKind.u8.wrap a = (b : Int) := by
  subst h
  unfold IntKind.wrap
  simp [IntKind.bits, IntKind.signed]
  omega

set_option maxHeartbeats 2000000 in
theorem l1Bytes_any (x : Nat) (hx : x ≤ 2097151) (w : World) : Calls Tryz.prog 179 #[.int .i64 (x : Nat)] w (GivesB w (encZ x)) := by
  by_cases h1 : x < 128
  · have e : encZ (x : Int) = [(x : Int)] := by unfold encZ; rw [if_pos (by omega)]
    rw [e]
    have k1 : (x : Int) < 128 := by omega
    have w1 : IntKind.u8.wrap (x : Int) = (x : Int) := byteN rfl (by omega)
    clear e
    go_enter Tryz.func179, Tryz.ntmps179
    go_wp2_with fail
    go_ret
    exact givesB_new w [(x : Int)]
  · have k1 : ¬ (x : Int) < 128 := by omega
    by_cases h2 : x < 2048
    · have k2 : (x : Int) < 2048 := by omega
      obtain ⟨a, ha⟩ : ∃ a, x / 64 = a := ⟨_, rfl⟩
      obtain ⟨b, hb⟩ : ∃ b, x % 64 = b := ⟨_, rfl⟩
      have e : encZ (x : Int) = [((192 + a : Nat) : Int), ((128 + b : Nat) : Int)] := by
        unfold encZ
        rw [if_neg k1, if_pos k2, show 192 + (x : Int) / 64 = ((192 + a : Nat) : Int) by omega, show 128 + (x : Int) % 64 = ((128 + b : Nat) : Int) by omega]
      rw [e]
      clear e
      obtain ⟨A, hA⟩ : ∃ A, 192 + a = A := ⟨_, rfl⟩
      obtain ⟨B, hB⟩ : ∃ B, 128 + b = B := ⟨_, rfl⟩
      rw [hA, hB]
      have q1 : (x : Int).tdiv 64 = (a : Int) := by rw [Int.tdiv_eq_ediv_of_nonneg (by omega)]; omega
      have q1' : (x : Int) / 64 = (a : Int) := by omega
      have q2 : (x : Int).tmod 64 = (b : Int) := by rw [Int.tmod_eq_emod_of_nonneg (by omega)]; omega
      have q2' : (x : Int) % 64 = (b : Int) := by omega
      have s1 : 192 + (a : Int) = (A : Int) := by omega
      have s2 : 128 + (b : Int) = (B : Int) := by omega
      have w1 : IntKind.u8.wrap (A : Int) = (A : Int) := byteN rfl (by omega)
      have w2 : IntKind.u8.wrap (B : Int) = (B : Int) := byteN rfl (by omega)
      clear ha hb hA hB
      go_enter Tryz.func179, Tryz.ntmps179
      go_wp2_with fail
      go_ret
      exact givesB_new w [(A : Int), (B : Int)]
    · have k2 : ¬ (x : Int) < 2048 := by omega
      by_cases h3 : x < 65536
      · have k3 : (x : Int) < 65536 := by omega
        obtain ⟨a, ha⟩ : ∃ a, x / 4096 = a := ⟨_, rfl⟩
        obtain ⟨m, hm⟩ : ∃ m, x / 64 = m := ⟨_, rfl⟩
        obtain ⟨b, hb⟩ : ∃ b, m % 64 = b := ⟨_, rfl⟩
        obtain ⟨c, hc⟩ : ∃ c, x % 64 = c := ⟨_, rfl⟩
        have e : encZ (x : Int) = [((224 + a : Nat) : Int), ((128 + b : Nat) : Int), ((128 + c : Nat) : Int)] := by
          unfold encZ
          rw [if_neg k1, if_neg k2, if_pos k3, show 224 + (x : Int) / 4096 = ((224 + a : Nat) : Int) by omega, show 128 + (x : Int) / 64 % 64 = ((128 + b : Nat) : Int) by omega, show 128 + (x : Int) % 64 = ((128 + c : Nat) : Int) by omega]
        rw [e]
        clear e
        obtain ⟨A, hA⟩ : ∃ A, 224 + a = A := ⟨_, rfl⟩
        obtain ⟨B, hB⟩ : ∃ B, 128 + b = B := ⟨_, rfl⟩
        obtain ⟨C, hC⟩ : ∃ C, 128 + c = C := ⟨_, rfl⟩
        rw [hA, hB, hC]
        have q1 : (x : Int).tdiv 4096 = (a : Int) := by rw [Int.tdiv_eq_ediv_of_nonneg (by omega)]; omega
        have q1' : (x : Int) / 4096 = (a : Int) := by omega
        have q3 : (x : Int).tdiv 64 = (m : Int) := by rw [Int.tdiv_eq_ediv_of_nonneg (by omega)]; omega
        have q3' : (x : Int) / 64 = (m : Int) := by omega
        have q4 : (m : Int).tmod 64 = (b : Int) := by rw [Int.tmod_eq_emod_of_nonneg (by omega)]; omega
        have q4' : (m : Int) % 64 = (b : Int) := by omega
        have q2 : (x : Int).tmod 64 = (c : Int) := by rw [Int.tmod_eq_emod_of_nonneg (by omega)]; omega
        have q2' : (x : Int) % 64 = (c : Int) := by omega
        have s1 : 224 + (a : Int) = (A : Int) := by omega
        have s2 : 128 + (b : Int) = (B : Int) := by omega
        have s3 : 128 + (c : Int) = (C : Int) := by omega
        have w1 : IntKind.u8.wrap (A : Int) = (A : Int) := byteN rfl (by omega)
        have w2 : IntKind.u8.wrap (B : Int) = (B : Int) := byteN rfl (by omega)
        have w3 : IntKind.u8.wrap (C : Int) = (C : Int) := byteN rfl (by omega)
        clear ha hb hc hm hA hB hC
        go_enter Tryz.func179, Tryz.ntmps179
        go_wp2_with fail
        go_ret
        exact givesB_new w [(A : Int), (B : Int), (C : Int)]
      · have k3 : ¬ (x : Int) < 65536 := by omega
        obtain ⟨a, ha⟩ : ∃ a, x / 262144 = a := ⟨_, rfl⟩
        obtain ⟨l, hl⟩ : ∃ l, x / 4096 = l := ⟨_, rfl⟩
        obtain ⟨b, hb⟩ : ∃ b, l % 64 = b := ⟨_, rfl⟩
        obtain ⟨m, hm⟩ : ∃ m, x / 64 = m := ⟨_, rfl⟩
        obtain ⟨c, hc⟩ : ∃ c, m % 64 = c := ⟨_, rfl⟩
        obtain ⟨d, hd⟩ : ∃ d, x % 64 = d := ⟨_, rfl⟩
        have e : encZ (x : Int) = [((240 + a : Nat) : Int), ((128 + b : Nat) : Int), ((128 + c : Nat) : Int), ((128 + d : Nat) : Int)] := by
          unfold encZ
          rw [if_neg k1, if_neg k2, if_neg k3, show 240 + (x : Int) / 262144 = ((240 + a : Nat) : Int) by omega, show 128 + (x : Int) / 4096 % 64 = ((128 + b : Nat) : Int) by omega, show 128 + (x : Int) / 64 % 64 = ((128 + c : Nat) : Int) by omega, show 128 + (x : Int) % 64 = ((128 + d : Nat) : Int) by omega]
        rw [e]
        clear e
        obtain ⟨A, hA⟩ : ∃ A, 240 + a = A := ⟨_, rfl⟩
        obtain ⟨B, hB⟩ : ∃ B, 128 + b = B := ⟨_, rfl⟩
        obtain ⟨C, hC⟩ : ∃ C, 128 + c = C := ⟨_, rfl⟩
        obtain ⟨E, hE⟩ : ∃ E, 128 + d = E := ⟨_, rfl⟩
        rw [hA, hB, hC, hE]
        have q1 : (x : Int).tdiv 262144 = (a : Int) := by rw [Int.tdiv_eq_ediv_of_nonneg (by omega)]; omega
        have q1' : (x : Int) / 262144 = (a : Int) := by omega
        have q5 : (x : Int).tdiv 4096 = (l : Int) := by rw [Int.tdiv_eq_ediv_of_nonneg (by omega)]; omega
        have q5' : (x : Int) / 4096 = (l : Int) := by omega
        have q6 : (l : Int).tmod 64 = (b : Int) := by rw [Int.tmod_eq_emod_of_nonneg (by omega)]; omega
        have q6' : (l : Int) % 64 = (b : Int) := by omega
        have q3 : (x : Int).tdiv 64 = (m : Int) := by rw [Int.tdiv_eq_ediv_of_nonneg (by omega)]; omega
        have q3' : (x : Int) / 64 = (m : Int) := by omega
        have q4 : (m : Int).tmod 64 = (c : Int) := by rw [Int.tmod_eq_emod_of_nonneg (by omega)]; omega
        have q4' : (m : Int) % 64 = (c : Int) := by omega
        have q2 : (x : Int).tmod 64 = (d : Int) := by rw [Int.tmod_eq_emod_of_nonneg (by omega)]; omega
        have q2' : (x : Int) % 64 = (d : Int) := by omega
        have s1 : 240 + (a : Int) = (A : Int) := by omega
        have s2 : 128 + (b : Int) = (B : Int) := by omega
        have s3 : 128 + (c : Int) = (C : Int) := by omega
        have s4 : 128 + (d : Int) = (E : Int) := by omega
        have w1 : IntKind.u8.wrap (A : Int) = (A : Int) := byteN rfl (by omega)
        have w2 : IntKind.u8.wrap (B : Int) = (B : Int) := byteN rfl (by omega)
        have w3 : IntKind.u8.wrap (C : Int) = (C : Int) := byteN rfl (by omega)
        have w4 : IntKind.u8.wrap (E : Int) = (E : Int) := byteN rfl (by omega)
        clear ha hb hc hd hm hl hA hB hC hE
        go_enter Tryz.func179, Tryz.ntmps179
        go_wp2_with fail
        go_ret
        exact givesB_new w [(A : Int), (B : Int), (C : Int), (E : Int)]

end Go.Proofs.YtinndpnilmmmjaaGreatDoor
namespace Go.Proofs.YtinndpnilmmmjaaGreatDoor
open Go.RowKit

/-- What l1Rune gives. -/
def GivesRune (w : World) (s : ByteArray) (i : Nat) (e : Ending) (w' : World) : Prop := e = .returned (.tuple #[.int .i64 ((runeAt s i).1 : Nat), .int .i64 ((runeAt s i).2 : Nat)]) ∧ Below w.heap.size w w'

set_option maxRecDepth 20000 in
set_option maxHeartbeats 2000000 in
theorem l1Rune_low (a : Option Addr) (cap : Nat) (s : ByteArray) (i : Nat) (w : World) (h : RowB w a s.size (bz s)) (hi : i < s.size) (hl : bt s i < 128) :
    Calls Tryz.prog 139 #[.slice a s.size cap, .int .i64 (i : Nat)] w (GivesRune w s i) := by
  have HE := hide (rune_ascii hl)
  have hii : (i : Int) < (s.size : Int) := by omega
  obtain ⟨b, off, rfl, -, hc⟩ := h.get hi
  rw [bz_get hi] at hc
  obtain ⟨c, hcc⟩ : ∃ c, bt s i = c := ⟨_, rfl⟩
  rw [hcc] at hc hl HE
  have hli : (c : Int) < 128 := by omega
  clear h hcc
  go_enter Tryz.func139, Tryz.ntmps139
  go_wp2
  go_ret2
  exact ⟨by rw [unhide HE]; rfl, Below.refl _ _⟩

set_option maxRecDepth 20000 in
set_option maxHeartbeats 2000000 in
theorem l1Rune_none (a : Option Addr) (cap : Nat) (s : ByteArray) (i : Nat) (w : World) (h : RowB w a s.size (bz s)) (hi : i < s.size) (hl : 128 ≤ bt s i) (hn : bt s i < 192 ∨ 248 ≤ bt s i) :
    Calls Tryz.prog 139 #[.slice a s.size cap, .int .i64 (i : Nat)] w (GivesRune w s i) := by
  have HE := hide (rune_0 hl hn)
  have hii : (i : Int) < (s.size : Int) := by omega
  obtain ⟨b, off, rfl, -, hc⟩ := h.get hi
  rw [bz_get hi] at hc
  obtain ⟨c, hcc⟩ : ∃ c, bt s i = c := ⟨_, rfl⟩
  rw [hcc] at hc hl hn
  have hli : ¬ (c : Int) < 128 := by omega
  have hcb : c < 256 := by rw [← hcc]; exact bt_lt s i
  clear h hcc
  rcases hn with hn | hn
  · have k1 : ¬ (192 : Int) ≤ (c : Int) := by omega
    have k2 : ¬ (224 : Int) ≤ (c : Int) := by omega
    have k3 : ¬ (240 : Int) ≤ (c : Int) := by omega
    go_enter Tryz.func139, Tryz.ntmps139
    go_wp2_with fail
    go_loopw [9] (fun k wr => k = .int .i64 1 ∧ wr = w) (fun _ _ => 0)
    case atStart => exact ⟨rfl, rfl⟩
    case round =>
      obtain ⟨rfl, rfl⟩ := hrel
      go_wp2_with fail
      go_ret2
      exact ⟨by rw [unhide HE]; rfl, Below.refl _ _⟩
  · have k1 : (192 : Int) ≤ (c : Int) := by omega
    have k2 : (224 : Int) ≤ (c : Int) := by omega
    have k3 : (240 : Int) ≤ (c : Int) := by omega
    have j1 : ¬ (c : Int) < 224 := by omega
    have j2 : ¬ (c : Int) < 240 := by omega
    have j3 : ¬ (c : Int) < 248 := by omega
    go_enter Tryz.func139, Tryz.ntmps139
    go_wp2_with fail
    go_loopw [9] (fun k wr => k = .int .i64 1 ∧ wr = w) (fun _ _ => 0)
    case atStart => exact ⟨rfl, rfl⟩
    case round =>
      obtain ⟨rfl, rfl⟩ := hrel
      go_wp2_with fail
      go_ret2
      exact ⟨by rw [unhide HE]; rfl, Below.refl _ _⟩

set_option maxRecDepth 20000 in
set_option maxHeartbeats 4000000 in
theorem l1Rune_2 (a : Option Addr) (cap : Nat) (s : ByteArray) (i : Nat) (w : World) (h : RowB w a s.size (bz s)) (hi : i < s.size) (hs : s.size ≤ 17592186044416) (hl : 192 ≤ bt s i) (hh : bt s i < 224) :
    Calls Tryz.prog 139 #[.slice a s.size cap, .int .i64 (i : Nat)] w (GivesRune w s i) := by
  obtain ⟨bs, hbs⟩ : ∃ b, b = bt s i - 192 := ⟨_, rfl⟩
  have HCL : Hid (cls (bt s i) 2 bs) := by show cls _ _ _; unfold cls; omega
  have hii : (i : Int) < (s.size : Int) := by omega
  have HROW := hide h
  obtain ⟨b, off, rfl, -, hc⟩ := h.get hi
  rw [bz_get hi] at hc
  obtain ⟨c, hcc⟩ : ∃ c, bt s i = c := ⟨_, rfl⟩
  rw [hcc] at hc hl hh hbs
  have hli : ¬ (c : Int) < 128 := by omega
  have k1 : (192 : Int) ≤ (c : Int) := by omega
  have j1 : (c : Int) < 224 := by omega
  have hbi : (c : Int) - 192 = (bs : Int) := by omega
  have HTL : Hid (∀ j W, Below w.heap.size w W → Calls Tryz.prog 178 #[.slice (some ⟨b, off, none⟩) s.size cap, .int .i64 (j : Nat)] W fun e w' => e = .returned (.bool (tl s j)) ∧ w' = W) := fun j W hb => l1Tail_any _ cap s j W (h.below (Nat.le_refl _) hb)
  clear h hcc hbs
  go_enter Tryz.func139, Tryz.ntmps139
  go_wp2_with fail
  go_loopw [8, 9] (fun v k wr => ∃ (x m : Nat), v = .int .i64 x ∧ k = .int .i64 m ∧ 1 ≤ m ∧ m ≤ 2 ∧ Hid (x = vP s i bs (m - 1)) ∧ Hid (∀ j, 1 ≤ j → j < m → tl s (i + j) = true) ∧ x ≤ 2097151 ∧ Hid (x < 32 * 64 ^ (m - 1)) ∧ wr = w) (fun _ k _ => 2 - (intOf k).toNat)
  case atStart => exact ⟨bs, 1, rfl, rfl, by omega, by omega, rfl, fun j h1 h2 => by omega, by omega, by show bs < 32 * 64 ^ 0; omega, rfl⟩
  case round =>
    obtain ⟨x, m, rfl, rfl, hm1, hm2, HX, HT, hxb, HXK, rfl⟩ := hrel
    by_cases hlt : m < 2
    case pos =>
      have hlti : (m : Int) < 2 := by omega
      have hw1 : IntKind.i64.wrap ((i : Int) + (m : Int)) = ((i + m : Nat) : Int) := by rw [IntKind.wrap_i64]; omega
      have hw2 : (i : Int) + (m : Int) = ((i + m : Nat) : Int) := by omega
      have HTJ := hide (unhide HTL (i + m) wr (Below.refl _ _))
      obtain ⟨q, hq⟩ : ∃ q, i + m = q := ⟨_, rfl⟩
      rw [hq] at hw1 hw2 HTJ
      have HQ := hide hq
      clear hq
      cases ht : tl s q with
      | false =>
        have HE := hide (rune_cut (unhide HCL) hm1 hlt (by rw [unhide HQ]; exact ht))
        rw [ht] at HTJ
        clear ht
        go_wp2_with fail
        refine (unhide HTJ).mono ?_
        rintro e w1 ⟨rfl, hw⟩
        obtain rfl := hw.symm
        go_wp2_with fail
        go_ret2
        exact ⟨by rw [unhide HE]; rfl, Below.refl _ _⟩
      | true =>
        have hb := tl_bd ht
        have hqi : (q : Int) < (s.size : Int) := by omega
        obtain ⟨_, _, e, -, hc2⟩ := (unhide HROW).get hb.1
        cases e
        rw [bz_get hb.1] at hc2
        obtain ⟨y, hy⟩ : ∃ y, bt s q = y := ⟨_, rfl⟩
        rw [hy] at hc2 hb
        rw [ht] at HTJ
        have HT2 : Hid (∀ j, 1 ≤ j → j < m + 1 → tl s (i + j) = true) := fun j h1 h2 => by
          by_cases hj : j = m
          · subst hj; rw [unhide HQ]; exact ht
          · exact unhide HT j h1 (by omega)
        have HX2 : Hid (x * 64 + (y - 128) = vP s i bs (m + 1 - 1)) := by
          show _ = _
          rw [show m + 1 - 1 = (m - 1) + 1 by omega]
          show _ = vP s i bs (m - 1) * 64 + (bt s (i + ((m - 1) + 1)) - 128)
          rw [← unhide HX, show i + (m - 1 + 1) = q by have := unhide HQ; omega, hy]
        have HK2 : Hid (x * 64 + (y - 128) < 32 * 64 ^ (m + 1 - 1)) := by
          have h1 := unhide HXK
          show _ < _
          rw [show m + 1 - 1 = (m - 1) + 1 by omega, Nat.pow_succ, ← Nat.mul_assoc]
          omega
        have hx2 : x * 64 + (y - 128) ≤ 2097151 := by
          have h1 := unhide HK2
          rcases (show m = 1 by omega) with rfl <;> simp at h1 <;> omega
        obtain ⟨z, hz⟩ : ∃ z, x * 64 + (y - 128) = z := ⟨_, rfl⟩
        rw [hz] at HX2 hx2 HK2
        have hzi : (x : Int) * 64 + (y : Int) - 128 = (z : Int) := by omega
        clear ht hy hz
        go_wp2_with fail
        refine (unhide HTJ).mono ?_
        rintro e w1 ⟨rfl, hw⟩
        obtain rfl := hw.symm
        go_wp2_with fail
        go_roundw
        case rel => exact ⟨z, m + 1, by go_num, by go_num, by omega, by omega, HX2, HT2, hx2, HK2, by first | trivial | rfl⟩
        case measure => simp [intOf]; omega
    case neg =>
      obtain rfl : m = 2 := by omega
      obtain ⟨hvb, hfin⟩ := rune_fin (unhide HCL) (unhide HT)
      rw [← unhide HX] at hfin
      have HF := hide hfin
      have HB := hide (fun W => l1Bytes_any x hxb W)
      have HO := hide (fun W => l1RuneOk_any (x : Int) W)
      obtain ⟨L, hL⟩ : ∃ L, encZ (x : Int) = L := ⟨_, rfl⟩
      rw [hL] at HB hfin HF
      obtain ⟨o, ho⟩ : ∃ o, runeOk (x : Int) = o := ⟨_, rfl⟩
      rw [ho] at HO HF
      clear hfin hvb hL ho HX HT HCL
      by_cases hLL : L.length = 2
      case pos =>
        have hLi : ((L.length : Nat) : Int) = 2 := by omega
        have HLL := hide hLL
        clear hLL
        cases o with
        | true =>
          have HE : Hid (runeAt s i = (x, 2)) := by show _ = _; rw [unhide HF, if_pos ⟨unhide HLL, rfl⟩]
          go_wp2_with (first | (go_at_call 179; refine (unhide HB _).mono ?_; rintro e w1 ⟨g, rfl, hrow, hb1⟩; have HB1 := hide hb1; clear hrow hb1) | (go_at_call 180; refine (unhide HO _).mono ?_; rintro e w2 ⟨rfl, hw⟩; obtain rfl := hw.symm))
          go_ret2
          exact ⟨by rw [unhide HE]; rfl, unhide HB1⟩
        | false =>
          have HE : Hid (runeAt s i = (0, 0)) := by show _ = _; rw [unhide HF, if_neg (fun h => by cases h.2)]
          go_wp2_with (first | (go_at_call 179; refine (unhide HB _).mono ?_; rintro e w1 ⟨g, rfl, hrow, hb1⟩; have HB1 := hide hb1; clear hrow hb1) | (go_at_call 180; refine (unhide HO _).mono ?_; rintro e w2 ⟨rfl, hw⟩; obtain rfl := hw.symm))
          go_ret2
          exact ⟨by rw [unhide HE]; rfl, unhide HB1⟩
      case neg =>
        have hLi : ¬ ((L.length : Nat) : Int) = 2 := by omega
        have HE : Hid (runeAt s i = (0, 0)) := by show _ = _; rw [unhide HF, if_neg (fun h => hLL h.1)]
        clear hLL
        go_wp2_with (go_at_call 179; refine (unhide HB _).mono ?_; rintro e w1 ⟨g, rfl, hrow, hb1⟩; have HB1 := hide hb1; clear hrow hb1)
        go_ret2
        exact ⟨by rw [unhide HE]; rfl, unhide HB1⟩

set_option maxRecDepth 20000 in
set_option maxHeartbeats 4000000 in
theorem l1Rune_3 (a : Option Addr) (cap : Nat) (s : ByteArray) (i : Nat) (w : World) (h : RowB w a s.size (bz s)) (hi : i < s.size) (hs : s.size ≤ 17592186044416) (hl : 224 ≤ bt s i) (hh : bt s i < 240) :
    Calls Tryz.prog 139 #[.slice a s.size cap, .int .i64 (i : Nat)] w (GivesRune w s i) := by
  obtain ⟨bs, hbs⟩ : ∃ b, b = bt s i - 224 := ⟨_, rfl⟩
  have HCL : Hid (cls (bt s i) 3 bs) := by show cls _ _ _; unfold cls; omega
  have hii : (i : Int) < (s.size : Int) := by omega
  have HROW := hide h
  obtain ⟨b, off, rfl, -, hc⟩ := h.get hi
  rw [bz_get hi] at hc
  obtain ⟨c, hcc⟩ : ∃ c, bt s i = c := ⟨_, rfl⟩
  rw [hcc] at hc hl hh hbs
  have hli : ¬ (c : Int) < 128 := by omega
  have k1 : (192 : Int) ≤ (c : Int) := by omega
  have j1 : ¬ (c : Int) < 224 := by omega
  have k2 : (224 : Int) ≤ (c : Int) := by omega
  have j2 : (c : Int) < 240 := by omega
  have hbi : (c : Int) - 224 = (bs : Int) := by omega
  have HTL : Hid (∀ j W, Below w.heap.size w W → Calls Tryz.prog 178 #[.slice (some ⟨b, off, none⟩) s.size cap, .int .i64 (j : Nat)] W fun e w' => e = .returned (.bool (tl s j)) ∧ w' = W) := fun j W hb => l1Tail_any _ cap s j W (h.below (Nat.le_refl _) hb)
  clear h hcc hbs
  go_enter Tryz.func139, Tryz.ntmps139
  go_wp2_with fail
  go_loopw [8, 9] (fun v k wr => ∃ (x m : Nat), v = .int .i64 x ∧ k = .int .i64 m ∧ 1 ≤ m ∧ m ≤ 3 ∧ Hid (x = vP s i bs (m - 1)) ∧ Hid (∀ j, 1 ≤ j → j < m → tl s (i + j) = true) ∧ x ≤ 2097151 ∧ Hid (x < 16 * 64 ^ (m - 1)) ∧ wr = w) (fun _ k _ => 3 - (intOf k).toNat)
  case atStart => exact ⟨bs, 1, rfl, rfl, by omega, by omega, rfl, fun j h1 h2 => by omega, by omega, by show bs < 16 * 64 ^ 0; omega, rfl⟩
  case round =>
    obtain ⟨x, m, rfl, rfl, hm1, hm2, HX, HT, hxb, HXK, rfl⟩ := hrel
    by_cases hlt : m < 3
    case pos =>
      have hlti : (m : Int) < 3 := by omega
      have hw1 : IntKind.i64.wrap ((i : Int) + (m : Int)) = ((i + m : Nat) : Int) := by rw [IntKind.wrap_i64]; omega
      have hw2 : (i : Int) + (m : Int) = ((i + m : Nat) : Int) := by omega
      have HTJ := hide (unhide HTL (i + m) wr (Below.refl _ _))
      obtain ⟨q, hq⟩ : ∃ q, i + m = q := ⟨_, rfl⟩
      rw [hq] at hw1 hw2 HTJ
      have HQ := hide hq
      clear hq
      cases ht : tl s q with
      | false =>
        have HE := hide (rune_cut (unhide HCL) hm1 hlt (by rw [unhide HQ]; exact ht))
        rw [ht] at HTJ
        clear ht
        go_wp2_with fail
        refine (unhide HTJ).mono ?_
        rintro e w1 ⟨rfl, hw⟩
        obtain rfl := hw.symm
        go_wp2_with fail
        go_ret2
        exact ⟨by rw [unhide HE]; rfl, Below.refl _ _⟩
      | true =>
        have hb := tl_bd ht
        have hqi : (q : Int) < (s.size : Int) := by omega
        obtain ⟨_, _, e, -, hc2⟩ := (unhide HROW).get hb.1
        cases e
        rw [bz_get hb.1] at hc2
        obtain ⟨y, hy⟩ : ∃ y, bt s q = y := ⟨_, rfl⟩
        rw [hy] at hc2 hb
        rw [ht] at HTJ
        have HT2 : Hid (∀ j, 1 ≤ j → j < m + 1 → tl s (i + j) = true) := fun j h1 h2 => by
          by_cases hj : j = m
          · subst hj; rw [unhide HQ]; exact ht
          · exact unhide HT j h1 (by omega)
        have HX2 : Hid (x * 64 + (y - 128) = vP s i bs (m + 1 - 1)) := by
          show _ = _
          rw [show m + 1 - 1 = (m - 1) + 1 by omega]
          show _ = vP s i bs (m - 1) * 64 + (bt s (i + ((m - 1) + 1)) - 128)
          rw [← unhide HX, show i + (m - 1 + 1) = q by have := unhide HQ; omega, hy]
        have HK2 : Hid (x * 64 + (y - 128) < 16 * 64 ^ (m + 1 - 1)) := by
          have h1 := unhide HXK
          show _ < _
          rw [show m + 1 - 1 = (m - 1) + 1 by omega, Nat.pow_succ, ← Nat.mul_assoc]
          omega
        have hx2 : x * 64 + (y - 128) ≤ 2097151 := by
          have h1 := unhide HK2
          rcases (show m = 1 ∨ m = 2 by omega) with rfl | rfl <;> simp at h1 <;> omega
        obtain ⟨z, hz⟩ : ∃ z, x * 64 + (y - 128) = z := ⟨_, rfl⟩
        rw [hz] at HX2 hx2 HK2
        have hzi : (x : Int) * 64 + (y : Int) - 128 = (z : Int) := by omega
        clear ht hy hz
        go_wp2_with fail
        refine (unhide HTJ).mono ?_
        rintro e w1 ⟨rfl, hw⟩
        obtain rfl := hw.symm
        go_wp2_with fail
        go_roundw
        case rel => exact ⟨z, m + 1, by go_num, by go_num, by omega, by omega, HX2, HT2, hx2, HK2, by first | trivial | rfl⟩
        case measure => simp [intOf]; omega
    case neg =>
      obtain rfl : m = 3 := by omega
      obtain ⟨hvb, hfin⟩ := rune_fin (unhide HCL) (unhide HT)
      rw [← unhide HX] at hfin
      have HF := hide hfin
      have HB := hide (fun W => l1Bytes_any x hxb W)
      have HO := hide (fun W => l1RuneOk_any (x : Int) W)
      obtain ⟨L, hL⟩ : ∃ L, encZ (x : Int) = L := ⟨_, rfl⟩
      rw [hL] at HB hfin HF
      obtain ⟨o, ho⟩ : ∃ o, runeOk (x : Int) = o := ⟨_, rfl⟩
      rw [ho] at HO HF
      clear hfin hvb hL ho HX HT HCL
      by_cases hLL : L.length = 3
      case pos =>
        have hLi : ((L.length : Nat) : Int) = 3 := by omega
        have HLL := hide hLL
        clear hLL
        cases o with
        | true =>
          have HE : Hid (runeAt s i = (x, 3)) := by show _ = _; rw [unhide HF, if_pos ⟨unhide HLL, rfl⟩]
          go_wp2_with (first | (go_at_call 179; refine (unhide HB _).mono ?_; rintro e w1 ⟨g, rfl, hrow, hb1⟩; have HB1 := hide hb1; clear hrow hb1) | (go_at_call 180; refine (unhide HO _).mono ?_; rintro e w2 ⟨rfl, hw⟩; obtain rfl := hw.symm))
          go_ret2
          exact ⟨by rw [unhide HE]; rfl, unhide HB1⟩
        | false =>
          have HE : Hid (runeAt s i = (0, 0)) := by show _ = _; rw [unhide HF, if_neg (fun h => by cases h.2)]
          go_wp2_with (first | (go_at_call 179; refine (unhide HB _).mono ?_; rintro e w1 ⟨g, rfl, hrow, hb1⟩; have HB1 := hide hb1; clear hrow hb1) | (go_at_call 180; refine (unhide HO _).mono ?_; rintro e w2 ⟨rfl, hw⟩; obtain rfl := hw.symm))
          go_ret2
          exact ⟨by rw [unhide HE]; rfl, unhide HB1⟩
      case neg =>
        have hLi : ¬ ((L.length : Nat) : Int) = 3 := by omega
        have HE : Hid (runeAt s i = (0, 0)) := by show _ = _; rw [unhide HF, if_neg (fun h => hLL h.1)]
        clear hLL
        go_wp2_with (go_at_call 179; refine (unhide HB _).mono ?_; rintro e w1 ⟨g, rfl, hrow, hb1⟩; have HB1 := hide hb1; clear hrow hb1)
        go_ret2
        exact ⟨by rw [unhide HE]; rfl, unhide HB1⟩

set_option maxRecDepth 20000 in
set_option maxHeartbeats 4000000 in
theorem l1Rune_4 (a : Option Addr) (cap : Nat) (s : ByteArray) (i : Nat) (w : World) (h : RowB w a s.size (bz s)) (hi : i < s.size) (hs : s.size ≤ 17592186044416) (hl : 240 ≤ bt s i) (hh : bt s i < 248) :
    Calls Tryz.prog 139 #[.slice a s.size cap, .int .i64 (i : Nat)] w (GivesRune w s i) := by
  obtain ⟨bs, hbs⟩ : ∃ b, b = bt s i - 240 := ⟨_, rfl⟩
  have HCL : Hid (cls (bt s i) 4 bs) := by show cls _ _ _; unfold cls; omega
  have hii : (i : Int) < (s.size : Int) := by omega
  have HROW := hide h
  obtain ⟨b, off, rfl, -, hc⟩ := h.get hi
  rw [bz_get hi] at hc
  obtain ⟨c, hcc⟩ : ∃ c, bt s i = c := ⟨_, rfl⟩
  rw [hcc] at hc hl hh hbs
  have hli : ¬ (c : Int) < 128 := by omega
  have k1 : (192 : Int) ≤ (c : Int) := by omega
  have j1 : ¬ (c : Int) < 224 := by omega
  have k2 : (224 : Int) ≤ (c : Int) := by omega
  have j2 : ¬ (c : Int) < 240 := by omega
  have k3 : (240 : Int) ≤ (c : Int) := by omega
  have j3 : (c : Int) < 248 := by omega
  have hbi : (c : Int) - 240 = (bs : Int) := by omega
  have HTL : Hid (∀ j W, Below w.heap.size w W → Calls Tryz.prog 178 #[.slice (some ⟨b, off, none⟩) s.size cap, .int .i64 (j : Nat)] W fun e w' => e = .returned (.bool (tl s j)) ∧ w' = W) := fun j W hb => l1Tail_any _ cap s j W (h.below (Nat.le_refl _) hb)
  clear h hcc hbs
  go_enter Tryz.func139, Tryz.ntmps139
  go_wp2_with fail
  go_loopw [8, 9] (fun v k wr => ∃ (x m : Nat), v = .int .i64 x ∧ k = .int .i64 m ∧ 1 ≤ m ∧ m ≤ 4 ∧ Hid (x = vP s i bs (m - 1)) ∧ Hid (∀ j, 1 ≤ j → j < m → tl s (i + j) = true) ∧ x ≤ 2097151 ∧ Hid (x < 8 * 64 ^ (m - 1)) ∧ wr = w) (fun _ k _ => 4 - (intOf k).toNat)
  case atStart => exact ⟨bs, 1, rfl, rfl, by omega, by omega, rfl, fun j h1 h2 => by omega, by omega, by show bs < 8 * 64 ^ 0; omega, rfl⟩
  case round =>
    obtain ⟨x, m, rfl, rfl, hm1, hm2, HX, HT, hxb, HXK, rfl⟩ := hrel
    by_cases hlt : m < 4
    case pos =>
      have hlti : (m : Int) < 4 := by omega
      have hw1 : IntKind.i64.wrap ((i : Int) + (m : Int)) = ((i + m : Nat) : Int) := by rw [IntKind.wrap_i64]; omega
      have hw2 : (i : Int) + (m : Int) = ((i + m : Nat) : Int) := by omega
      have HTJ := hide (unhide HTL (i + m) wr (Below.refl _ _))
      obtain ⟨q, hq⟩ : ∃ q, i + m = q := ⟨_, rfl⟩
      rw [hq] at hw1 hw2 HTJ
      have HQ := hide hq
      clear hq
      cases ht : tl s q with
      | false =>
        have HE := hide (rune_cut (unhide HCL) hm1 hlt (by rw [unhide HQ]; exact ht))
        rw [ht] at HTJ
        clear ht
        go_wp2_with fail
        refine (unhide HTJ).mono ?_
        rintro e w1 ⟨rfl, hw⟩
        obtain rfl := hw.symm
        go_wp2_with fail
        go_ret2
        exact ⟨by rw [unhide HE]; rfl, Below.refl _ _⟩
      | true =>
        have hb := tl_bd ht
        have hqi : (q : Int) < (s.size : Int) := by omega
        obtain ⟨_, _, e, -, hc2⟩ := (unhide HROW).get hb.1
        cases e
        rw [bz_get hb.1] at hc2
        obtain ⟨y, hy⟩ : ∃ y, bt s q = y := ⟨_, rfl⟩
        rw [hy] at hc2 hb
        rw [ht] at HTJ
        have HT2 : Hid (∀ j, 1 ≤ j → j < m + 1 → tl s (i + j) = true) := fun j h1 h2 => by
          by_cases hj : j = m
          · subst hj; rw [unhide HQ]; exact ht
          · exact unhide HT j h1 (by omega)
        have HX2 : Hid (x * 64 + (y - 128) = vP s i bs (m + 1 - 1)) := by
          show _ = _
          rw [show m + 1 - 1 = (m - 1) + 1 by omega]
          show _ = vP s i bs (m - 1) * 64 + (bt s (i + ((m - 1) + 1)) - 128)
          rw [← unhide HX, show i + (m - 1 + 1) = q by have := unhide HQ; omega, hy]
        have HK2 : Hid (x * 64 + (y - 128) < 8 * 64 ^ (m + 1 - 1)) := by
          have h1 := unhide HXK
          show _ < _
          rw [show m + 1 - 1 = (m - 1) + 1 by omega, Nat.pow_succ, ← Nat.mul_assoc]
          omega
        have hx2 : x * 64 + (y - 128) ≤ 2097151 := by
          have h1 := unhide HK2
          rcases (show m = 1 ∨ m = 2 ∨ m = 3 by omega) with rfl | rfl | rfl <;> simp at h1 <;> omega
        obtain ⟨z, hz⟩ : ∃ z, x * 64 + (y - 128) = z := ⟨_, rfl⟩
        rw [hz] at HX2 hx2 HK2
        have hzi : (x : Int) * 64 + (y : Int) - 128 = (z : Int) := by omega
        clear ht hy hz
        go_wp2_with fail
        refine (unhide HTJ).mono ?_
        rintro e w1 ⟨rfl, hw⟩
        obtain rfl := hw.symm
        go_wp2_with fail
        go_roundw
        case rel => exact ⟨z, m + 1, by go_num, by go_num, by omega, by omega, HX2, HT2, hx2, HK2, by first | trivial | rfl⟩
        case measure => simp [intOf]; omega
    case neg =>
      obtain rfl : m = 4 := by omega
      obtain ⟨hvb, hfin⟩ := rune_fin (unhide HCL) (unhide HT)
      rw [← unhide HX] at hfin
      have HF := hide hfin
      have HB := hide (fun W => l1Bytes_any x hxb W)
      have HO := hide (fun W => l1RuneOk_any (x : Int) W)
      obtain ⟨L, hL⟩ : ∃ L, encZ (x : Int) = L := ⟨_, rfl⟩
      rw [hL] at HB hfin HF
      obtain ⟨o, ho⟩ : ∃ o, runeOk (x : Int) = o := ⟨_, rfl⟩
      rw [ho] at HO HF
      clear hfin hvb hL ho HX HT HCL
      by_cases hLL : L.length = 4
      case pos =>
        have hLi : ((L.length : Nat) : Int) = 4 := by omega
        have HLL := hide hLL
        clear hLL
        cases o with
        | true =>
          have HE : Hid (runeAt s i = (x, 4)) := by show _ = _; rw [unhide HF, if_pos ⟨unhide HLL, rfl⟩]
          go_wp2_with (first | (go_at_call 179; refine (unhide HB _).mono ?_; rintro e w1 ⟨g, rfl, hrow, hb1⟩; have HB1 := hide hb1; clear hrow hb1) | (go_at_call 180; refine (unhide HO _).mono ?_; rintro e w2 ⟨rfl, hw⟩; obtain rfl := hw.symm))
          go_ret2
          exact ⟨by rw [unhide HE]; rfl, unhide HB1⟩
        | false =>
          have HE : Hid (runeAt s i = (0, 0)) := by show _ = _; rw [unhide HF, if_neg (fun h => by cases h.2)]
          go_wp2_with (first | (go_at_call 179; refine (unhide HB _).mono ?_; rintro e w1 ⟨g, rfl, hrow, hb1⟩; have HB1 := hide hb1; clear hrow hb1) | (go_at_call 180; refine (unhide HO _).mono ?_; rintro e w2 ⟨rfl, hw⟩; obtain rfl := hw.symm))
          go_ret2
          exact ⟨by rw [unhide HE]; rfl, unhide HB1⟩
      case neg =>
        have hLi : ¬ ((L.length : Nat) : Int) = 4 := by omega
        have HE : Hid (runeAt s i = (0, 0)) := by show _ = _; rw [unhide HF, if_neg (fun h => hLL h.1)]
        clear hLL
        go_wp2_with (go_at_call 179; refine (unhide HB _).mono ?_; rintro e w1 ⟨g, rfl, hrow, hb1⟩; have HB1 := hide hb1; clear hrow hb1)
        go_ret2
        exact ⟨by rw [unhide HE]; rfl, unhide HB1⟩

set_option maxHeartbeats 1000000 in
/-- spec.l1Rune. -/
theorem l1Rune_any (a : Option Addr) (cap : Nat) (s : ByteArray) (i : Nat) (w : World) (h : RowB w a s.size (bz s)) (hi : i < s.size) (hs : s.size ≤ 17592186044416) :
    Calls Tryz.prog 139 #[.slice a s.size cap, .int .i64 (i : Nat)] w (GivesRune w s i) := by
  by_cases h1 : bt s i < 128
  · exact l1Rune_low a cap s i w h hi h1
  · by_cases h2 : bt s i < 192 ∨ 248 ≤ bt s i
    · exact l1Rune_none a cap s i w h hi (by omega) h2
    · by_cases h3 : bt s i < 224
      · exact l1Rune_2 a cap s i w h hi hs (by omega) h3
      · by_cases h4 : bt s i < 240
        · exact l1Rune_3 a cap s i w h hi hs (by omega) h4
        · exact l1Rune_4 a cap s i w h hi hs (by omega) (by omega)

end Go.Proofs.YtinndpnilmmmjaaGreatDoor
namespace Go.Proofs.YtinndpnilmmmjaaGreatDoor
open Go.RowKit

theorem run_slice_byte (b o n c p q m : Nat) (hp : p ≤ q) (hq : q ≤ c) (hm : q - p = m) (hpc : p < c) (W : World) : (Instr.slice 33 (.slice (some ⟨b, o, none⟩) n c) (some (.int .i64 (p : Nat))) (some (.int .i64 (q : Nat))) none).run Tryz.prog W = .ok (.slice (some ⟨b, o + p, none⟩) m (c - p)) W := by
  have h1 : (q : Int) ≤ (c : Int) := by omega
  have h2 : (p : Int) ≤ (q : Int) := by omega
  have h3 : ¬ c = p := by omega
  have h5 : (⟨b, o, none⟩ : Addr).add p = ⟨b, o + p, none⟩ := by by_cases h : p = 0 <;> simp [Addr.add, h]
  go_simp

theorem text_end {s : ByteArray} {F k : Nat} {out : List UInt8} (h : ¬ k < s.size) : textTok s F k out = bad 1 := by
  cases F with
  | zero => rfl
  | succ F => rw [textTok, if_neg h]

theorem text_bad {s : ByteArray} {F k : Nat} {out : List UInt8} (h : k < s.size) (hq : bt s k ≠ 39) (hb : (runeAt s k).2 = 0 ∨ bt s k = 10) : textTok s F k out = bad 1 := by
  cases F with
  | zero => rfl
  | succ F => rw [textTok, if_pos h, if_neg hq, if_pos hb]

theorem text_quote {s : ByteArray} {F k : Nat} {out : List UInt8} (hF : s.size - k < F) (h : k < s.size) (hq : bt s k = 39) (hb : quotes s k = false) : textTok s F k out = ⟨2, 0, ⟨out.toArray⟩, k + 1, 0⟩ := by
  cases F with
  | zero => omega
  | succ F => rw [textTok, if_pos h, if_pos hq, if_neg (by rw [hb]; decide)]

theorem text_twice {s : ByteArray} {F k : Nat} {out : List UInt8} (hF : s.size - k < F) (h : k < s.size) (hq : bt s k = 39) (hb : quotes s k = true) : textTok s F k out = textTok s (F - 1) (k + 2) (out ++ [39]) := by
  cases F with
  | zero => omega
  | succ F => rw [textTok, if_pos h, if_pos hq, if_pos hb]; rfl

theorem text_rune {s : ByteArray} {F k : Nat} {out : List UInt8} (hF : s.size - k < F) (h : k < s.size) (hq : bt s k ≠ 39) (hb : ¬ ((runeAt s k).2 = 0 ∨ bt s k = 10)) : textTok s F k out = textTok s (F - 1) (k + (runeAt s k).2) (out ++ (s.extract k (k + (runeAt s k).2)).data.toList) := by
  cases F with
  | zero => omega
  | succ F => rw [textTok, if_pos h, if_neg hq, if_neg hb]; rfl

set_option maxRecDepth 20000 in
set_option maxHeartbeats 8000000 in
theorem l1Text_any (s : ByteArray) (i : Nat) (w : World) (hi : i < s.size) (hs : s.size ≤ 1000000000) :
    Calls Tryz.prog 138 #[.string s, .int .i64 (i : Nat)] w (GivesGot w (textTok s (s.size - i) (i + 1) [])) := by
  obtain ⟨tgt, htgt⟩ : ∃ tgt, textTok s (s.size - i) (i + 1) [] = tgt := ⟨_, rfl⟩
  rw [htgt]
  have HTG := hide htgt
  obtain ⟨Q, hQ⟩ : ∃ Q, Q = w.alloc (.cells #[.int .i64 0, .int .i64 0, .string ⟨#[]⟩, .int .i64 0, .int .i64 0, .int .i64 0] 119) := ⟨_, rfl⟩
  have HQ := hide hQ
  have HBX : Hid (GBox Q w.heap.size (.int .i64 0) (.int .i64 0) (.string ⟨#[]⟩) (.int .i64 0) (.int .i64 0) (.int .i64 0)) := by rw [hQ]; exact GBox.new w _ _ _ _ _ _
  have HBQ : Hid (Below w.heap.size w Q) := by rw [hQ]; exact (Below.refl _ _).alloc (Nat.le_refl _) _
  have hQs : Q.heap.size = w.heap.size + 1 := by rw [hQ]; simp
  clear hQ htgt
  obtain ⟨cap, W1, hcv, hcap, hrow, hbW, hzW⟩ := conv_str Q s
  rw [unhide HQ] at hcv
  have HROW : Hid (RowB W1 (some ⟨Q.heap.size, 0, none⟩) s.size (bz s)) := hrow
  have HBX1 := hide ((unhide HBX).below (Nat.le_refl _) hbW)
  have HBW : Hid (Below w.heap.size w W1) := (unhide HBQ).trans (hbW.mono (by omega))
  have hzl : w.heap.size < W1.heap.size := by omega
  have HG0 := hide (GrowB.start W1)
  have HST : Hid (∀ k W, k ≤ s.size → Calls Tryz.prog 88 #[.string s, .int .i64 (k : Nat), .string ⟨#[39, 39]⟩] W fun e w' => e = .returned (.bool (quotes s k)) ∧ w' = W) := fun k W hk => by
    rw [← starts_quotes]
    exact l1Starts_any s ⟨#[39, 39]⟩ k hk (by omega) (by decide) W
  obtain ⟨bb, hbb⟩ : ∃ b, Q.heap.size = b := ⟨_, rfl⟩
  rw [unhide HQ] at hbb
  have hbb' : w.heap.size + 1 = bb := by rw [← hbb]; simp
  have HBB : Hid (Q.heap.size = bb) := by show _ = _; rw [hQs]; exact hbb'
  rw [unhide HBB] at HROW
  rw [hbb] at hcv
  have hbl : bb < W1.heap.size := by have := unhide HBB; omega
  clear hrow hbW HBX hbb hzW hQs HBQ
  obtain ⟨i0, hii, hz0, hz1, hz2⟩ := info_parts info_byte
  obtain ⟨e0, he0⟩ : ∃ e, i + 1 = e := ⟨_, rfl⟩
  have hi1 : (i : Int) + 1 = (e0 : Int) := by omega
  rw [he0] at HTG
  have hei : i < e0 := by omega
  have hes : e0 ≤ s.size := by omega
  have HSE : Hid (s.size - e0 < s.size - i) := by show _ < _; omega
  clear he0 hbb'
  go_enter Tryz.func138, Tryz.ntmps138
  go_wp2_with fail
  go_loopw [6, 7] (fun u e wr => ∃ (g cp : Nat) (out : List UInt8) (k F : Nat), u = .slice (some ⟨g, 0, none⟩) out.length cp ∧ e = .int .i64 (k : Nat) ∧ k ≤ s.size ∧ out.length ≤ k ∧ s.size - k < F ∧ Hid (textTok s F k out = tgt) ∧ Hid (GrowB W1 wr g cp out.length (uz out))) (fun _ e _ => s.size - (intOf e).toNat)
  case atStart => exact ⟨W1.heap.size, 0, [], e0, s.size - i, rfl, rfl, hes, by simp, unhide HSE, HTG, HG0⟩
  case round =>
    obtain ⟨g, cp, out, k, F, rfl, rfl, hk, hol, hF, HTK, HG⟩ := hrel
    clear hcv HTG HG0
    have HLOW := hide (unhide HG).low
    have HBXr := hide ((unhide HBX1).below (Nat.le_refl _) (unhide HLOW))
    have hzr := (unhide HLOW).size
    have hzlr : w.heap.size < wr.heap.size := by omega
    have HBr : Hid (Below w.heap.size w wr) := (unhide HBW).trans ((unhide HLOW).mono (by omega))
    obtain ⟨nn, hnn⟩ : ∃ n, out.length = n := ⟨_, rfl⟩
    rw [hnn] at hol HG
    rw [hnn]
    have HNN := hide hnn
    clear hnn
    by_cases hlt : k < s.size
    case neg =>
      have hlti : ¬ (k : Int) < (s.size : Int) := by omega
      have HE : Hid (tgt = bad 1) := by show _ = _; rw [← unhide HTK, text_end hlt]
      obtain ⟨q0, q1, q2, q3, q4, q5, qf⟩ := (unhide HBXr).all
      have f0 := qf 0
      have f1 := qf 1
      have f2 := qf 2
      have f3 := qf 3
      have f4 := qf 4
      have f5 := qf 5
      clear qf
      go_wp2_with fail
      refine bodyPost_ret (v := gotV (bad 1)) (by simp [results, Tryz.results138, go_sem, q0, q1, q2, q3, q4, q5, gotV, bad]) rfl ?_
      exact ⟨by rw [unhide HE], (((((((unhide HBr)).setCell (Nat.le_refl _) _).setCell (Nat.le_refl _) _).setCell (Nat.le_refl _) _).setCell (Nat.le_refl _) _).setCell (Nat.le_refl _) _).setCell (Nat.le_refl _) _⟩
    case pos =>
      have hlti : (k : Int) < (s.size : Int) := by omega
      have hix := fun W => run_idx hlt W
      have hy8 := bt_lt s k
      obtain ⟨y, hy⟩ : ∃ y, bt s k = y := ⟨_, rfl⟩
      have HY := hide hy
      rw [hy] at hix hy8
      clear hy
      by_cases h39 : y = 39
      case pos =>
        subst h39
        have HSQ := hide (fun W => unhide HST k W hk)
        cases hq : quotes s k with
        | true =>
          rw [hq] at HSQ
          have hk2 : k + 2 ≤ s.size := by have := of_decide_eq_true hq; omega
          have HNX : Hid (textTok s (F - 1) (k + 2) (out ++ [39]) = tgt) := by show _ = _; rw [← text_twice hF hlt (unhide HY) hq]; exact unhide HTK
          clear hq
          go_wp2_with (first | (go_at_call 88; refine (unhide HSQ _).mono ?_; rintro e w5 ⟨rfl, hw⟩; obtain rfl := hw.symm) | (at_builtin; refine wpList_append_lies _ rfl _ _ 33 rfl W1.heap.size 5 i0 (.int .u8 0) 1 1 Tryz.underlying33 hii hz0 hz1 hz2 rfl (by decide) _ _ _ rfl ((unhide HG).below ((Below.refl _ _).alloc (Nat.le_refl _) _)).own ⟨wr.heap.size, 0, none⟩ 1 1 ([39].map (Value.int .u8)) rfl rfl (RowB.new wr [39]).news (one_bytes _) (by omega) (by unfold maxLen; omega) (by omega) (by have := (unhide HG).low.size; simp; omega) (wr.heap.size + 1) (by simp) ?_; intro g' cap' w7 hown' hgrow hat hlt7; have HF7 := hide (GrowB.push ((unhide HG).below ((Below.refl _ _).alloc (Nat.le_refl _) _)) hown' hgrow); clear hgrow hat hown' hlt7))
          go_roundw
          case rel =>
            refine ⟨g', cap', out ++ [39], k + 2, F - 1, ?_, by go_num, by omega, by rw [List.length_append, unhide HNN]; simp; omega, by omega, HNX, ?_⟩
            · rw [List.length_append, unhide HNN]; rfl
            · show GrowB _ _ _ _ _ _
              rw [List.length_append, unhide HNN, uz_app]
              exact unhide HF7
          case measure => simp [intOf]; omega
        | false =>
          rw [hq] at HSQ
          have HE : Hid (tgt = ⟨2, 0, ⟨out.toArray⟩, k + 1, 0⟩) := by show _ = _; rw [← unhide HTK, text_quote hF hlt (unhide HY) hq]
          have hcb : ∀ c, (convert 33 9 (.slice (some ⟨g, 0, none⟩) nn c)).run Tryz.prog wr = .ok (.string ⟨out.toArray⟩) wr := fun c => by
            have := conv_back (cap := c) (w := wr) (b := g) (off := 0) (l := out) (by rw [unhide HNN]; exact (unhide HG).row)
            rwa [unhide HNN] at this
          clear hq
          obtain ⟨q0, q1, q2, q3, q4, q5, qf⟩ := (unhide HBXr).all
          have f0 := qf 0
          have f1 := qf 1
          have f2 := qf 2
          have f3 := qf 3
          have f4 := qf 4
          have f5 := qf 5
          clear qf
          go_wp2_with (go_at_call 88; refine (unhide HSQ _).mono ?_; rintro e w5 ⟨rfl, hw⟩; obtain rfl := hw.symm)
          refine bodyPost_ret (v := gotV ⟨2, 0, ⟨out.toArray⟩, k + 1, 0⟩) (by simp [results, Tryz.results138, go_sem, q0, q1, q2, q3, q4, q5, gotV]) rfl ?_
          exact ⟨by rw [unhide HE], (((((((unhide HBr)).setCell (Nat.le_refl _) _).setCell (Nat.le_refl _) _).setCell (Nat.le_refl _) _).setCell (Nat.le_refl _) _).setCell (Nat.le_refl _) _).setCell (Nat.le_refl _) _⟩
      case neg =>
        have h39i : ¬ (y : Int) = 39 := by omega
        have HR := hide (l1Rune_any (some ⟨bb, 0, none⟩) cap s k wr ((unhide HROW).below (Nat.le_refl _) (unhide HLOW)) hlt (by omega))
        have hre := rune_end hlt
        have hnq : bt s k ≠ 39 := by rw [unhide HY]; exact h39
        have HNQ := hide hnq
        clear hnq h39
        obtain ⟨rv, hrv⟩ : ∃ v, (runeAt s k).1 = v := ⟨_, rfl⟩
        obtain ⟨rn, hrn⟩ : ∃ n, (runeAt s k).2 = n := ⟨_, rfl⟩
        have HR2 : Hid (Calls Tryz.prog 139 #[.slice (some ⟨bb, 0, none⟩) s.size cap, .int .i64 (k : Nat)] wr fun e w' => e = .returned (.tuple #[.int .i64 (rv : Nat), .int .i64 (rn : Nat)]) ∧ Below wr.heap.size wr w') := by
          have := unhide HR
          unfold GivesRune at this
          rw [hrv, hrn] at this
          exact this
        rw [hrn] at hre
        have HRN := hide hrn
        clear HR hrv hrn
        by_cases hbad : rn = 0 ∨ y = 10
        case pos =>
          have HE : Hid (tgt = bad 1) := by show _ = _; rw [← unhide HTK, text_bad hlt (unhide HNQ) (by rw [unhide HRN, unhide HY]; exact hbad)]
          have hb2 : (rn = 0) ∨ (¬ rn = 0 ∧ y = 10) := by omega
          rcases hb2 with hb2 | ⟨hb2, hb3⟩
          · subst hb2
            go_wp2_with (go_at_call 139; refine (unhide HR2).mono ?_; rintro e w5 ⟨rfl, hb5⟩; obtain ⟨q0, q1, q2, q3, q4, q5, qf⟩ := ((unhide HBXr).below (Nat.le_refl _) hb5).all; have f0 := qf 0; have f1 := qf 1; have f2 := qf 2; have f3 := qf 3; have f4 := qf 4; have f5 := qf 5; have HB5 := hide ((unhide HBr).trans (hb5.mono (unhide HBr).size)); clear qf hb5)
            refine bodyPost_ret (v := gotV (bad 1)) (by simp [results, Tryz.results138, go_sem, q0, q1, q2, q3, q4, q5, gotV, bad]) rfl ?_
            exact ⟨by rw [unhide HE], (((((((unhide HB5)).setCell (Nat.le_refl _) _).setCell (Nat.le_refl _) _).setCell (Nat.le_refl _) _).setCell (Nat.le_refl _) _).setCell (Nat.le_refl _) _).setCell (Nat.le_refl _) _⟩
          · subst hb3
            have hb2i : ¬ (rn : Int) = 0 := by omega
            go_wp2_with (go_at_call 139; refine (unhide HR2).mono ?_; rintro e w5 ⟨rfl, hb5⟩; obtain ⟨q0, q1, q2, q3, q4, q5, qf⟩ := ((unhide HBXr).below (Nat.le_refl _) hb5).all; have f0 := qf 0; have f1 := qf 1; have f2 := qf 2; have f3 := qf 3; have f4 := qf 4; have f5 := qf 5; have HB5 := hide ((unhide HBr).trans (hb5.mono (unhide HBr).size)); clear qf hb5)
            refine bodyPost_ret (v := gotV (bad 1)) (by simp [results, Tryz.results138, go_sem, q0, q1, q2, q3, q4, q5, gotV, bad]) rfl ?_
            exact ⟨by rw [unhide HE], (((((((unhide HB5)).setCell (Nat.le_refl _) _).setCell (Nat.le_refl _) _).setCell (Nat.le_refl _) _).setCell (Nat.le_refl _) _).setCell (Nat.le_refl _) _).setCell (Nat.le_refl _) _⟩
        case neg =>
          have hn0 : ¬ (rn : Int) = 0 := by omega
          have hy10 : ((y : Int) == 10) = false := by simp; omega
          obtain ⟨pc, hpc⟩ : ∃ l, (s.extract k (k + rn)).data.toList = l := ⟨_, rfl⟩
          have HPL : Hid (pc.length = rn) := by show _ = _; rw [← hpc, sub_list, List.length_take, List.length_drop, ← Lib.size_eq]; omega
          have HNX : Hid (textTok s (F - 1) (k + rn) (out ++ pc) = tgt) := by
            show _ = _
            have h1 := text_rune (out := out) hF hlt (unhide HNQ) (by rw [unhide HRN, unhide HY]; exact hbad)
            rw [unhide HRN, hpc] at h1
            rw [← h1]; exact unhide HTK
          have HPR := hide (RowB.piece (n := rn) (i := k) (unhide HROW) hre.1)
          rw [hpc, Nat.zero_add] at HPR
          obtain ⟨ke, hke⟩ : ∃ e, k + rn = e := ⟨_, rfl⟩
          have hki : (k : Int) + (rn : Int) = (ke : Int) := by omega
          have hsl := run_slice_byte bb 0 s.size cap k ke rn (by omega) (by omega) (by omega) (by omega)
          rw [Nat.zero_add] at hsl
          rw [hke] at HNX
          have hke1 : k < ke := by omega
          have hke2 : ke ≤ s.size := by omega
          have HKE := hide hke
          have hrn4 : rn ≤ 4 := hre.2
          have hrn0 : 0 < rn := by omega
          clear hpc hbad hke hre
          go_wp2_with (first | (go_at_call 139; refine (unhide HR2).mono ?_; rintro e w5 ⟨rfl, hb5⟩; have HG5 := hide ((unhide HG).below hb5); have HP5 := hide ((unhide HPR).below (Nat.le_refl _) ((unhide HLOW).trans (hb5.mono hzr))); clear hb5) | (at_builtin; refine wpList_append_lies _ rfl _ _ 33 rfl W1.heap.size 5 i0 (.int .u8 0) 1 1 Tryz.underlying33 hii hz0 hz1 hz2 rfl (by decide) _ _ _ rfl (unhide HG5).own ⟨bb, k, none⟩ rn (cap - k) ((uz pc).map (Value.int .u8)) rfl (by rw [List.length_map, uz_len, unhide HPL]; omega) (unhide HP5).news (one_bytes _) (by omega) (by unfold maxLen; omega) (by omega) (by have := (unhide HG5).low.size; simp; omega) w5.heap.size (by simp) ?_; intro g' cap' w7 hown' hgrow hat hlt7; have HF7 := hide (GrowB.push (unhide HG5) hown' hgrow); clear hgrow hat hown' hlt7))
          go_roundw
          case rel =>
            refine ⟨g', cap', out ++ pc, ke, F - 1, ?_, by go_num, hke2, by rw [List.length_append, unhide HNN, unhide HPL]; have := unhide HKE; omega, by omega, HNX, ?_⟩
            · rw [List.length_append, unhide HNN, unhide HPL]
            · show GrowB _ _ _ _ _ _
              rw [List.length_append, unhide HNN, unhide HPL, uz_app]
              exact unhide HF7
          case measure => simp [intOf]; omega

end Go.Proofs.YtinndpnilmmmjaaGreatDoor
