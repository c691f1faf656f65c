import Derived.Test.YtijamlgiinjikaaGreatDoorIdxMath
import Derived.Test.YtijamlgiinjikaaGreatDoorImplSgs
namespace Go.Proofs.YtijamlgiinjikaaGreatDoor
open Go

/-- What the bytes of a character of two to four bytes are. -/
structure Wide (v L : Nat) : Prop where
  size : (Utf8.encode (v : Int)).size = L + 1
  lo : 1 ≤ L
  hi : L ≤ 3
  last : 128 ≤ bt (Utf8.encode (v : Int)) L ∧ bt (Utf8.encode (v : Int)) L < 192
  reads : ∀ s i, i + L < s.size → (∀ t, t ≤ L → bt s (i + t) = bt (Utf8.encode (v : Int)) t) → Utf8.decode s i = (v, L + 1)
  len : (encZ (v : Int)).length = L + 1
  same : ∀ t, t ≤ L → bt (Utf8.encode (v : Int)) t = ((encZ (v : Int)).getD t 0).toNat

theorem u8n {x : Nat} (h : x < 256) : (UInt8.ofNat x).toNat = x := by rw [UInt8.toNat_ofNat']; omega

theorem wide_of {v : Nat} (hv : Utf8.valid (v : Int) = true) (h : 128 ≤ v) : ∃ L, Wide v L := by
  have hlt : v < 2097152 := by
    have := valid_ok v
    rw [hv] at this
    unfold runeOk at this
    have := of_decide_eq_true this.symm
    omega
  have n0 : ¬ v < 128 := by omega
  have z0 : ¬ (v : Int) < 128 := by omega
  by_cases h2 : v < 2048
  · have e : Utf8.encode (v : Int) = ⟨#[UInt8.ofNat (192 + v / 64), UInt8.ofNat (128 + v % 64)]⟩ := by
      unfold Utf8.encode
      simp only [hv, if_true, Int.toNat_natCast, if_neg n0, if_pos h2]
    have b0 : bt (Utf8.encode (v : Int)) 0 = 192 + v / 64 := by rw [e]; exact u8n (by omega)
    have b1 : bt (Utf8.encode (v : Int)) 1 = 128 + v % 64 := by rw [e]; exact u8n (by omega)
    have ez : encZ (v : Int) = [192 + (v : Int) / 64, 128 + (v : Int) % 64] := by unfold encZ; rw [if_neg z0, if_pos (by omega)]
    refine ⟨1, by rw [e]; rfl, by omega, by omega, by rw [b1]; omega, fun s i hi hb => ?_, by rw [ez]; rfl, fun t ht => ?_⟩
    · have c0 := hb 0 (by omega)
      have c1 := hb 1 (by omega)
      rw [b0, Nat.add_zero] at c0
      rw [b1] at c1
      have t1 : tl s (i + 1) = true := by unfold tl; exact decide_eq_true ⟨hi, by omega, by omega⟩
      have w : v2 s i = v := by unfold v2; rw [c0, c1]; omega
      rw [decode_is, if_neg (by omega), if_pos ⟨by omega, t1⟩, if_pos (by omega), w]
    · rw [ez]
      rcases (by omega : t = 0 ∨ t = 1) with rfl | rfl
      · rw [b0]; show _ = (192 + (v : Int) / 64).toNat; omega
      · rw [b1]; show _ = (128 + (v : Int) % 64).toNat; omega
  by_cases h3 : v < 65536
  · have e : Utf8.encode (v : Int) = ⟨#[UInt8.ofNat (224 + v / 4096), UInt8.ofNat (128 + v / 64 % 64), UInt8.ofNat (128 + v % 64)]⟩ := by
      unfold Utf8.encode
      simp only [hv, if_true, Int.toNat_natCast, if_neg n0, if_neg h2, if_pos h3]
    have b0 : bt (Utf8.encode (v : Int)) 0 = 224 + v / 4096 := by rw [e]; exact u8n (by omega)
    have b1 : bt (Utf8.encode (v : Int)) 1 = 128 + v / 64 % 64 := by rw [e]; exact u8n (by omega)
    have b2 : bt (Utf8.encode (v : Int)) 2 = 128 + v % 64 := by rw [e]; exact u8n (by omega)
    have ez : encZ (v : Int) = [224 + (v : Int) / 4096, 128 + (v : Int) / 64 % 64, 128 + (v : Int) % 64] := by unfold encZ; rw [if_neg z0, if_neg (by omega), if_pos (by omega)]
    refine ⟨2, by rw [e]; rfl, by omega, by omega, by rw [b2]; omega, fun s i hi hb => ?_, by rw [ez]; rfl, fun t ht => ?_⟩
    · have c0 := hb 0 (by omega)
      have c1 := hb 1 (by omega)
      have c2 := hb 2 (by omega)
      rw [b0, Nat.add_zero] at c0
      rw [b1] at c1
      rw [b2] at c2
      have t1 : tl s (i + 1) = true := by unfold tl; exact decide_eq_true ⟨by omega, by omega, by omega⟩
      have t2 : tl s (i + 2) = true := by unfold tl; exact decide_eq_true ⟨hi, by omega, by omega⟩
      have w : v3 s i = v := by unfold v3; rw [c0, c1, c2]; omega
      rw [decode_is, if_neg (by omega), if_neg (by omega), if_pos ⟨by omega, t1, t2⟩, w, if_pos ⟨by omega, hv⟩]
    · rw [ez]
      rcases (by omega : t = 0 ∨ t = 1 ∨ t = 2) with rfl | rfl | rfl
      · rw [b0]; show _ = (224 + (v : Int) / 4096).toNat; omega
      · rw [b1]; show _ = (128 + (v : Int) / 64 % 64).toNat; omega
      · rw [b2]; show _ = (128 + (v : Int) % 64).toNat; omega
  · have e : Utf8.encode (v : Int) = ⟨#[UInt8.ofNat (240 + v / 262144), UInt8.ofNat (128 + v / 4096 % 64), UInt8.ofNat (128 + v / 64 % 64), UInt8.ofNat (128 + v % 64)]⟩ := by
      unfold Utf8.encode
      simp only [hv, if_true, Int.toNat_natCast, if_neg n0, if_neg h2, if_neg h3]
    have b0 : bt (Utf8.encode (v : Int)) 0 = 240 + v / 262144 := by rw [e]; exact u8n (by omega)
    have b1 : bt (Utf8.encode (v : Int)) 1 = 128 + v / 4096 % 64 := by rw [e]; exact u8n (by omega)
    have b2 : bt (Utf8.encode (v : Int)) 2 = 128 + v / 64 % 64 := by rw [e]; exact u8n (by omega)
    have b3 : bt (Utf8.encode (v : Int)) 3 = 128 + v % 64 := by rw [e]; exact u8n (by omega)
    have ez : encZ (v : Int) = [240 + (v : Int) / 262144, 128 + (v : Int) / 4096 % 64, 128 + (v : Int) / 64 % 64, 128 + (v : Int) % 64] := by unfold encZ; rw [if_neg z0, if_neg (by omega), if_neg (by omega)]
    refine ⟨3, by rw [e]; rfl, by omega, by omega, by rw [b3]; omega, fun s i hi hb => ?_, by rw [ez]; rfl, fun t ht => ?_⟩
    · have c0 := hb 0 (by omega)
      have c1 := hb 1 (by omega)
      have c2 := hb 2 (by omega)
      have c3 := hb 3 (by omega)
      rw [b0, Nat.add_zero] at c0
      rw [b1] at c1
      rw [b2] at c2
      rw [b3] at c3
      have t1 : tl s (i + 1) = true := by unfold tl; exact decide_eq_true ⟨by omega, by omega, by omega⟩
      have t2 : tl s (i + 2) = true := by unfold tl; exact decide_eq_true ⟨by omega, by omega, by omega⟩
      have t3 : tl s (i + 3) = true := by unfold tl; exact decide_eq_true ⟨hi, by omega, by omega⟩
      have w : v4 s i = v := by unfold v4; rw [c0, c1, c2, c3]; omega
      rw [decode_is, if_neg (by omega), if_neg (by omega), if_neg (by omega), if_pos ⟨by omega, t1, t2, t3⟩, w, if_pos ⟨by omega, hv⟩]
    · rw [ez]
      rcases (by omega : t = 0 ∨ t = 1 ∨ t = 2 ∨ t = 3) with rfl | rfl | rfl | rfl
      · rw [b0]; show _ = (240 + (v : Int) / 262144).toNat; omega
      · rw [b1]; show _ = (128 + (v : Int) / 4096 % 64).toNat; omega
      · rw [b2]; show _ = (128 + (v : Int) / 64 % 64).toNat; omega
      · rw [b3]; show _ = (128 + (v : Int) % 64).toNat; omega

/-- What is read is a character. -/
theorem decode_valid (s : ByteArray) (i : Nat) : Utf8.valid ((Utf8.decode s i).1 : Int) = true := by
  have small : ∀ {v : Nat}, v < 2048 → Utf8.valid (v : Int) = true := fun {v} h => by
    rw [valid_ok]
    unfold runeOk
    exact decide_eq_true (by omega)
  have hbad : Utf8.valid ((65533 : Nat) : Int) = true := by decide
  rw [decode_is]
  by_cases c0 : bt s i < 128
  · rw [if_pos c0]; exact small (by show bt s i < 2048; omega)
  · rw [if_neg c0]
    by_cases c1 : bt s i / 32 = 6 ∧ tl s (i + 1) = true
    · rw [if_pos c1]
      by_cases c : 128 ≤ v2 s i
      · rw [if_pos c]; exact small (by show v2 s i < 2048; unfold v2; omega)
      · rw [if_neg c]; exact hbad
    · rw [if_neg c1]
      by_cases c2 : bt s i / 16 = 14 ∧ tl s (i + 1) = true ∧ tl s (i + 2) = true
      · rw [if_pos c2]
        by_cases c : 2048 ≤ v3 s i ∧ Utf8.valid (v3 s i : Nat) = true
        · rw [if_pos c]; exact c.2
        · rw [if_neg c]; exact hbad
      · rw [if_neg c2]
        by_cases c3 : bt s i / 8 = 30 ∧ tl s (i + 1) = true ∧ tl s (i + 2) = true ∧ tl s (i + 3) = true
        · rw [if_pos c3]
          by_cases c : 65536 ≤ v4 s i ∧ Utf8.valid (v4 s i : Nat) = true
          · rw [if_pos c]; exact c.2
          · rw [if_neg c]; exact hbad
        · rw [if_neg c3]; exact hbad

/-- The count of a byte, place by place. -/
def passes (c : Nat) : List UInt8 → Nat → Nat → Bool
  | [], _, _ => true
  | b :: t, i, n => decide (n ≤ (i + 16) / 8) && passes c t (i + 1) (n + if b.toNat = c then 1 else 0)

theorem passes_cnt {s : ByteArray} {c : Nat} : ∀ (d i : Nat), s.size - i = d → passes c (s.data.toList.drop i) i (cnt s c i) = true → ∀ j, i ≤ j → j < s.size → cnt s c j ≤ (j + 16) / 8
  | 0, i, hd, _, j, h1, h2 => by omega
  | d + 1, i, hd, hp, j, h1, h2 => by
    have hl : i < s.data.toList.length := by rw [← Lib.size_eq]; omega
    rw [List.drop_eq_getElem_cons hl, passes, Bool.and_eq_true] at hp
    by_cases e : j = i
    · rw [e]; exact of_decide_eq_true hp.1
    · refine passes_cnt d (i + 1) (by omega) ?_ j (by omega) h2
      have hb : (s.data.toList[i]).toNat = bt s i := by rw [bt_data (by omega), List.getD_eq_getElem?_getD, List.getElem?_eq_getElem hl, Option.getD_some]
      rw [cnt, ← hb]
      exact hp.2

set_option maxRecDepth 100000 in
theorem sgs_passes : (List.range 64).all (fun d => passes (128 + d) sgs.data.toList 0 0) = true := by kernel_rfl

theorem sgs_cnt {c : Nat} (h1 : 128 ≤ c) (h2 : c < 192) (j : Nat) (hj : j < sgs.size) : cnt sgs c j ≤ (j + 16) / 8 := by
  have h := List.all_eq_true.1 sgs_passes (c - 128) (List.mem_range.2 (by omega))
  rw [show 128 + (c - 128) = c by omega] at h
  exact passes_cnt (sgs.size - 0) 0 rfl h j (Nat.zero_le _) hj

set_option maxRecDepth 100000 in
theorem sgs_reads : (List.range sgs.size).all (fun i => decide ((Utf8.decode sgs i).1 ∈ signCs) || decide ((Utf8.decode sgs i).1 = 65533)) = true := by kernel_rfl

theorem sgs_list : sgs.data.toList = signCs.flatMap fun c => (encZ (c : Nat)).map fun x => x.toNat.toUInt8 := rfl

/-- A character of two bytes or more stands in the signs where it is one of them. -/
theorem sgs_has {v L : Nat} (hW : Wide v L) (hne : v ≠ 65533) : (∃ k, Mt sgs (Utf8.encode (v : Int)) L k) ↔ v ∈ signCs := by
  constructor
  · rintro ⟨k, h1, h2, h3⟩
    have hd : Utf8.decode sgs (k - L) = (v, L + 1) := hW.reads sgs (k - L) (by omega) fun t ht => by
      have := h3 (L - t) (by omega)
      rw [show k - (L - t) = k - L + t by omega, show L - (L - t) = t by omega] at this
      exact this
    have := List.all_eq_true.1 sgs_reads (k - L) (List.mem_range.2 (by omega))
    rw [hd] at this
    rcases Bool.or_eq_true _ _ ▸ this with h | h
    · exact of_decide_eq_true h
    · exact absurd (of_decide_eq_true h) hne
  · intro hm
    obtain ⟨l1, l2, hl⟩ := List.append_of_mem hm
    have hs : sgs.data.toList = (l1.flatMap fun c => (encZ (c : Nat)).map fun x => x.toNat.toUInt8) ++ ((encZ (v : Int)).map fun x => x.toNat.toUInt8) ++ (l2.flatMap fun c => (encZ (c : Nat)).map fun x => x.toNat.toUInt8) := by
      rw [sgs_list, hl, List.flatMap_append, List.flatMap_cons, List.append_assoc]
    generalize (l1.flatMap fun c => (encZ (c : Nat)).map fun x => x.toNat.toUInt8) = A at hs
    generalize (l2.flatMap fun c => (encZ (c : Nat)).map fun x => x.toNat.toUInt8) = B at hs
    have hsz : sgs.size = A.length + (L + 1) + B.length := by
      rw [Lib.size_eq, hs, List.length_append, List.length_append, List.length_map, hW.len]
    refine ⟨A.length + L, by omega, by omega, fun j hj => ?_⟩
    have hv : v ≤ 2097151 := by
      have : v ∈ signCs := hm
      have h : ∀ x ∈ signCs, x ≤ 2097151 := by decide
      exact h v this
    have hb := encZ_byte hv
    have hx : L - j < (encZ (v : Int)).length := by rw [hW.len]; omega
    rw [bt_data (by omega), hs, hW.same (L - j) (by omega), List.getD_eq_getElem?_getD, List.getElem?_append_left (by rw [List.length_append, List.length_map, hW.len]; omega), List.getElem?_append_right (by omega), show A.length + L - j - A.length = L - j by omega, List.getElem?_map, List.getD_eq_getElem?_getD, List.getElem?_eq_getElem hx]
    have h2 := hb _ (List.getElem_mem hx)
    simp only [Option.map_some, Option.getD_some]
    generalize (encZ (v : Int))[L - j] = y at h2
    have : y.toNat < 256 := by omega
    simp only [Nat.toUInt8]
    exact u8n this

end Go.Proofs.YtijamlgiinjikaaGreatDoor
