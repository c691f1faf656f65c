import Derived.Test.YtkjpgbecbggcoaaDoorMFit0
import Derived.Deep.RegionHeld
import Derived.BigQuiet
namespace Go.Proofs.YtkjpgbecbggcoaaDoor
open Go.RowKit

set_option maxRecDepth 20000 in
set_option maxHeartbeats 1000000 in
theorem eqToken_refl (k n : Int) (t : ByteArray) (p : Nat) (w : World) :
    Calls Tryd.prog 21 #[.agg #[.int .i64 k, .int .i64 n, .string t, .int .i64 (p : Nat)], .agg #[.int .i64 k, .int .i64 n, .string t, .int .i64 (p : Nat)]] w fun e w' => e = .returned (.bool true) ∧ Below w.heap.size w w' := by
  go_enter Tryd.func21, Tryd.ntmps21
  go_wp2
  go_ret
  refine ⟨rfl, ?_⟩
  exact ((Below.refl _ _).alloc (Nat.le_refl _) _).alloc (by simp) _

set_option maxRecDepth 20000 in
set_option maxHeartbeats 4000000 in
theorem eqTokenS_refl (a b : Option Addr) (n c d : Nat) (ts : List Tok) (w : World) (h : RowT w a n ts) (k : RowT w b n ts) (hn : n ≤ 1048576) :
    Calls Tryd.prog 8 #[.slice a n c, .slice b n d] w fun e w' => e = .returned (.bool true) ∧ Below w.heap.size w w' := by
  have H := hide h
  have K := hide k
  clear h k
  have hnn : ((n : Int) != (n : Int)) = false := by simp
  go_enter Tryd.func8, Tryd.ntmps8
  go_wp2_with fail
  go_loopw [5] (fun i wr => ∃ k : Nat, k ≤ n ∧ i = .int .i64 k ∧ Hid (Below w.heap.size w wr)) (fun i _ => n - (intOf i).toNat)
  case atStart => exact ⟨0, Nat.zero_le _, rfl, Below.refl _ _⟩
  case round =>
    obtain ⟨k, hk, rfl, HB⟩ := hrel
    by_cases hlt : k < n
    · obtain ⟨p1, o1, t1, rfl, hl1, e1, x1, x2, x3, x4⟩ := ((unhide H).below (Nat.le_refl _) (unhide HB)).get hlt
      obtain ⟨p2, o2, t2, rfl, hl2, e2, y1, y2, y3, y4⟩ := ((unhide K).below (Nat.le_refl _) (unhide HB)).get hlt
      obtain rfl : t1 = t2 := Option.some.inj (e1.symm.trans e2)
      obtain ⟨tk, tn, tt, tp⟩ := t1
      clear e1 e2
      have HE := hide (fun W => eqToken_refl tk tn tt tp W)
      go_wp2_with fail
      go_region_with (go_at_call 21; refine (unhide HE _).mono ?_; rintro e w1 ⟨rfl, hb1⟩; have HB1 := hide ((unhide HB).trans ((((Below.refl _ _).drew).trans hb1).mono (unhide HB).size)); clear hb1)
      all_goals go_wp2_with fail
      all_goals (go_roundw; (case rel => exact ⟨k + 1, by omega, by go_num, unhide HB1⟩); (case measure => simp [intOf]; omega))
    · have hkn : k = n := by omega
      subst hkn
      go_wp2
      go_ret
      exact ⟨rfl, unhide HB⟩

end Go.Proofs.YtkjpgbecbggcoaaDoor
namespace Go.Proofs.YtkjpgbecbggcoaaDoor
open Go.RowKit

end Go.Proofs.YtkjpgbecbggcoaaDoor
namespace Go.Proofs.YtkjpgbecbggcoaaDoor
open Go.RowKit

set_option maxRecDepth 20000 in
set_option maxHeartbeats 2000000 in
theorem l1Dec_pos (m : Nat) (hm : m ≤ 1000000000000000) (w : World) : Calls Tryd.prog 23 #[.int .i64 (m : Nat)] w fun e w' => e = .returned (.string (bstr (decZ m))) ∧ Below w.heap.size w w' := by
  have h0 : ¬ (m : Int) < 0 := by omega
  go_enter Tryd.func23, Tryd.ntmps23
  go_wp2_with fail
  go_loopw [0, 3] (fun a b wr => ∃ (x : Nat) (l : List Int), a = .int .i64 x ∧ b = .string (bstr l) ∧ x ≤ 1000000000000000 ∧ Hid (decZ m = decZ x ++ l) ∧ Hid (Below w.heap.size w wr)) (fun a _ _ => (intOf a).toNat)
  case atStart => exact ⟨m, [], rfl, rfl, hm, (by show _ = _; simp), Below.refl _ _⟩
  case round =>
    obtain ⟨x, l, rfl, rfl, hx, HK, HB⟩ := hrel
    by_cases h10 : x < 10
    · have h10i : ¬ (10 : Int) ≤ (x : Int) := by omega
      obtain ⟨A, hA⟩ : ∃ A, 48 + x = A := ⟨_, rfl⟩
      have eA : 48 + (x : Int) = (A : Int) := by omega
      have hA8 : A < 256 := by omega
      have wA : IntKind.u8.wrap (A : Int) = (A : Int) := byteN rfl hA8
      have hcv := conv_one wr A hA8
      have hln : l.length ≤ 16 := by
        have h1 := congrArg List.length (unhide HK)
        have h2 := decZ_le 15 m (by omega)
        rw [List.length_append] at h1
        omega
      have hno : ¬ 9223372036854775807 < (bstr [(A : Int)]).size + (bstr l).size := by rw [bstr_size, bstr_size]; simp; omega
      have hap : bstr [(A : Int)] ++ bstr l = bstr ((A : Int) :: l) := bstr_app _ _
      have HR : Hid (bstr ((A : Int) :: l) = bstr (decZ m)) := by show _ = _; rw [unhide HK, decZ_small h10, eA]; rfl
      have hsz := (unhide HB).size
      clear hA
      go_wp2_with fail
      go_ret
      exact ⟨by rw [unhide HR]; rfl, (unhide HB).alloc hsz _⟩
    · have h10i : (10 : Int) ≤ (x : Int) := by omega
      obtain ⟨y, hy⟩ : ∃ y, x / 10 = y := ⟨_, rfl⟩
      obtain ⟨r, hr⟩ : ∃ r, x % 10 = r := ⟨_, rfl⟩
      have ey : (x : Int).tdiv 10 = (y : Int) := by rw [Int.tdiv_eq_ediv_of_nonneg (by omega)]; omega
      have ey2 : (x : Int) / 10 = (y : Int) := by omega
      have er : (x : Int).tmod 10 = (r : Int) := by rw [Int.tmod_eq_emod_of_nonneg (by omega)]; omega
      have er2 : (x : Int) % 10 = (r : Int) := by omega
      obtain ⟨A, hA⟩ : ∃ A, 48 + r = A := ⟨_, rfl⟩
      have eA : 48 + (r : Int) = (A : Int) := by omega
      have hA8 : A < 256 := by omega
      have wA : IntKind.u8.wrap (A : Int) = (A : Int) := byteN rfl hA8
      have hcv := conv_one wr A hA8
      have hln : l.length ≤ 16 := by
        have h1 := congrArg List.length (unhide HK)
        have h2 := decZ_le 15 m (by omega)
        rw [List.length_append] at h1
        omega
      have hno : ¬ 9223372036854775807 < (bstr [(A : Int)]).size + (bstr l).size := by rw [bstr_size, bstr_size]; simp; omega
      have hap : bstr [(A : Int)] ++ bstr l = bstr ((A : Int) :: l) := bstr_app _ _
      have HN : Hid (decZ m = decZ y ++ ((A : Int) :: l)) := by show _ = _; rw [unhide HK, decZ_big h10, hy, hr, eA]; simp
      have hsz := (unhide HB).size
      have hyx : y < x := by omega
      clear hA hy hr
      go_wp2_with fail
      go_roundw
      case rel => exact ⟨y, (A : Int) :: l, by go_num, rfl, by omega, HN, (unhide HB).alloc hsz _⟩
      case measure => simp [intOf]; omega

theorem l1HighD_any (w : World) : Calls Tryd.prog 27 #[] w fun e w' => e = .returned (.string ⟨#[194, 175]⟩) ∧ w' = w := by
  go_enter Tryd.func27, Tryd.ntmps27
  go_wp2
  go_ret
  exact ⟨rfl, rfl⟩

set_option maxRecDepth 20000 in
set_option maxHeartbeats 2000000 in
theorem l1Dec_any (v : Int) (hv : -1000000000000000 ≤ v ∧ v ≤ 1000000000000000) (w : World) : Calls Tryd.prog 23 #[.int .i64 v] w fun e w' => e = .returned (.string (bstr (numT v))) ∧ Below w.heap.size w w' := by
  by_cases hn : v < 0
  · obtain ⟨m, rfl⟩ : ∃ m : Nat, v = -(m : Int) := ⟨v.natAbs, by omega⟩
    have hw : IntKind.i64.wrap (-(-(m : Int))) = (m : Int) := by rw [IntKind.wrap_i64]; omega
    have HR : Hid (bstr [194, 175] ++ bstr (decZ m) = bstr (numT (-(m : Int)))) := by
      show _ = _
      rw [bstr_app]
      unfold numT
      rw [if_pos hn]
      congr 2
      simp
    have hhigh : bstr [194, 175] = ⟨#[194, 175]⟩ := rfl
    have hno : ¬ 9223372036854775807 < (⟨#[194, 175]⟩ : ByteArray).size + (bstr (decZ m)).size := by
      have h2 := decZ_le 15 m (by omega)
      rw [← hhigh, bstr_size, bstr_size]
      simp
      omega
    have hc := l1Dec_pos m (by omega) w
    rw [hhigh] at HR
    have hmb : m ≤ 1000000000000000 := by omega
    clear hhigh hv
    go_enter Tryd.func23, Tryd.ntmps23
    go_wp2_with fail
    refine (l1HighD_any _).mono ?_
    rintro e w1 ⟨he, hw⟩
    subst hw
    subst he
    go_wp2_with fail
    refine hc.mono ?_
    rintro e w2 ⟨he, hb⟩
    subst he
    have HB := hide hb
    clear hb hc
    go_wp2_with fail
    go_ret
    exact ⟨by rw [← unhide HR]; rfl, unhide HB⟩
  · obtain ⟨m, rfl⟩ : ∃ m : Nat, v = (m : Int) := ⟨v.toNat, by omega⟩
    have e : numT (m : Int) = decZ m := by unfold numT; rw [if_neg hn]; simp
    rw [e]
    exact l1Dec_pos m (by omega) w

end Go.Proofs.YtkjpgbecbggcoaaDoor
namespace Go.Proofs.YtkjpgbecbggcoaaDoor
open Go.RowKit

theorem lexR_len {s : ByteArray} : ∀ (F i : Nat) (acc : List Tok), i ≤ s.size → (lexR s F i acc).1.length ≤ acc.length + (s.size - i)
  | 0, i, acc, _ => by rw [lexR]; show acc.length ≤ _; omega
  | F + 1, i, acc, hi => by
    rw [lexR]
    by_cases h : i < s.size ∧ remark s i = false
    · rw [if_pos h]
      by_cases hb : bt s i = 32 ∨ bt s i = 9
      · rw [if_pos hb]
        have := lexR_len (s := s) F (i + 1) acc (by omega)
        omega
      · rw [if_neg hb]
        by_cases hc : (tokAt s i).c ≠ 0
        · rw [if_pos hc]; show 0 ≤ _; omega
        · rw [if_neg hc]
          have ht := tok_end h.1 (Classical.not_not.1 hc)
          have := lexR_len F (tokAt s i).e (acc ++ [⟨(tokAt s i).k, (tokAt s i).n, (tokAt s i).t, i⟩]) ht.2
          rw [List.length_append] at this
          simp only [List.length_cons, List.length_nil] at this
          omega
    · rw [if_neg h]; show acc.length ≤ _; omega

theorem lexT_len (s : ByteArray) : (lexT s).1.length ≤ s.size := by
  unfold lexT
  split
  · exact Nat.zero_le _
  · have := lexR_len (s := s) (s.size + 1) 0 [] (Nat.zero_le _)
    simpa using this

end Go.Proofs.YtkjpgbecbggcoaaDoor
namespace Go.Proofs.YtkjpgbecbggcoaaDoor
open Go.RowKit

/-- A text between its marks. -/
def quoteL (l : List UInt8) : List UInt8 := 39 :: (l.flatMap (fun b => if b = 39 then [39, 39] else [b]) ++ [39])

/-- How a token is written. -/
def spellT (k n : Int) (t : ByteArray) : ByteArray := if k = 1 then bstr (numT n) else if k = 2 then ⟨(quoteL t.data.toList).toArray⟩ else t

/-- What is read again of a token's text is the token. -/
def readsBack (k n : Int) (t : ByteArray) (r : List Tok × Int × Nat) : Prop := r.2.1 = 0 ∧ ∃ y, r.1 = [y] ∧ y.k = k ∧ y.n = n ∧ y.t = t

theorem lexR_pre {s : ByteArray} : ∀ (F i : Nat) (acc : List Tok), i ≤ s.size → (lexR s F i acc).2.1 = 0 → ∃ more, (lexR s F i acc).1 = acc ++ more ∧ ∀ x ∈ more, x.p < s.size ∧ (tokAt s x.p).c = 0 ∧ x = ⟨(tokAt s x.p).k, (tokAt s x.p).n, (tokAt s x.p).t, x.p⟩
  | 0, i, acc, _, _ => ⟨[], by rw [lexR]; simp, fun x hx => by cases hx⟩
  | F + 1, i, acc, hi, hc => by
    rw [lexR] at hc ⊢
    by_cases h : i < s.size ∧ remark s i = false
    · rw [if_pos h] at hc ⊢
      by_cases hb : bt s i = 32 ∨ bt s i = 9
      · rw [if_pos hb] at hc ⊢
        exact lexR_pre F (i + 1) acc (by omega) hc
      · rw [if_neg hb] at hc ⊢
        by_cases hk : (tokAt s i).c ≠ 0
        · rw [if_pos hk] at hc
          exact absurd hc hk
        · rw [if_neg hk] at hc ⊢
          have hk0 := Classical.not_not.1 hk
          have ht := tok_end h.1 hk0
          obtain ⟨more, hm, hx⟩ := lexR_pre F (tokAt s i).e _ ht.2 hc
          refine ⟨⟨(tokAt s i).k, (tokAt s i).n, (tokAt s i).t, i⟩ :: more, by rw [hm, List.append_assoc]; rfl, fun x hxm => ?_⟩
          rcases List.mem_cons.1 hxm with e | e
          · subst e
            exact ⟨h.1, hk0, rfl⟩
          · exact hx x e
    · rw [if_neg h]
      exact ⟨[], by simp, fun x hx => by cases hx⟩

/-- Where a token stands at a text's beginning it is read there. -/
theorem first_zero {s : ByteArray} {F : Nat} {y : Tok} (h0 : 0 < s.size) (hr : remark s 0 = false) (hb : ¬ (bt s 0 = 32 ∨ bt s 0 = 9)) (hc : (lexR s (F + 1) 0 []).2.1 = 0) (hy : (lexR s (F + 1) 0 []).1 = [y]) : y.p = 0 := by
  rw [lexR, if_pos ⟨h0, hr⟩, if_neg hb] at hc hy
  by_cases hk : (tokAt s 0).c ≠ 0
  · rw [if_pos hk] at hc
    exact absurd hc hk
  · rw [if_neg hk] at hc hy
    have ht := tok_end h0 (Classical.not_not.1 hk)
    obtain ⟨more, hm, _⟩ := lexR_pre F (tokAt s 0).e _ ht.2 hc
    rw [hm] at hy
    have := congrArg List.head? hy
    simp at this
    rw [← this]

/-- What a token's text is that is no number and no text. -/
theorem tok_piece {s : ByteArray} {i : Nat} (hi : i < s.size) (hc : (tokAt s i).c = 0) (h1 : (tokAt s i).k ≠ 1) (h2 : (tokAt s i).k ≠ 2) : ∃ e, e ≤ s.size ∧ (tokAt s i).t = s.extract i e := by
  have he := tok_end hi hc
  refine ⟨(tokAt s i).e, he.2, ?_⟩
  unfold tokAt at hc h1 h2 ⊢
  by_cases c1 : isD (bt s i) = true ∨ high s i = true
  · rw [if_pos c1] at hc h1 ⊢
    exfalso
    obtain ⟨f, hf⟩ : ∃ f, (if high s i = true then i + 2 else i) = f := ⟨_, rfl⟩
    obtain ⟨e, he⟩ : ∃ e, endOf isD s f = e := ⟨_, rfl⟩
    by_cases hb : e = f ∨ (e < s.size ∧ isL (bt s e) = true) ∨ high s e = true
    · rw [numTok_bad hf he hb] at hc; simp [bad] at hc
    · by_cases hv : 1000000000000000 < decV s f (e - f)
      · rw [numTok_big hf he hb hv] at hc; simp [bad] at hc
      · rw [numTok_ok hf he hb hv] at h1
        exact h1 rfl
  · rw [if_neg c1] at hc h1 h2 ⊢
    by_cases c2 : bt s i = 39
    · rw [if_pos c2] at hc h2 ⊢
      exfalso
      have key : ∀ (f p : Nat) (out : List UInt8), (textTok s f p out).c = 0 → (textTok s f p out).k = 2 := by
        intro f
        induction f with
        | zero => intro p out h; rw [textTok] at h; simp [bad] at h
        | succ f ih =>
          intro p out h
          rw [textTok] at h ⊢
          by_cases d1 : p < s.size
          · rw [if_pos d1] at h ⊢
            by_cases d2 : bt s p = 39
            · rw [if_pos d2] at h ⊢
              by_cases d3 : quotes s p = true
              · rw [if_pos d3] at h ⊢; exact ih _ _ h
              · rw [if_neg d3]
            · rw [if_neg d2] at h ⊢
              by_cases d3 : (runeAt s p).2 = 0 ∨ bt s p = 10
              · rw [if_pos d3] at h; simp [bad] at h
              · rw [if_neg d3] at h ⊢; exact ih _ _ h
          · rw [if_neg d1] at h; simp [bad] at h
      exact h2 (key _ _ _ hc)
    · rw [if_neg c2] at hc ⊢
      by_cases c3 : isL (bt s i) = true
      · rw [if_pos c3] at hc ⊢
        unfold nameTok at hc ⊢
        by_cases c4 : 20 < endOf isLD s i - i
        · rw [if_pos c4] at hc; simp [bad] at hc
        · rw [if_neg c4]
      · rw [if_neg c3] at hc ⊢
        unfold signTok at hc ⊢
        by_cases c4 : 0 < (runeAt s i).2 ∧ (runeAt s i).1 ∈ signCs
        · rw [if_pos c4]
        · rw [if_neg c4] at hc; simp [bad] at hc

theorem decZ_digit : ∀ (k m : Nat), m < 10 ^ k → ∀ z ∈ decZ m, 48 ≤ z ∧ z ≤ 57
  | 0, m, h, z, hz => by
    have : m = 0 := by simpa using h
    subst this
    rw [decZ_small (by omega)] at hz
    simp at hz
    omega
  | k + 1, m, h, z, hz => by
    by_cases h10 : m < 10
    · rw [decZ_small h10] at hz
      simp at hz
      omega
    · rw [decZ_big h10] at hz
      rcases List.mem_append.1 hz with e | e
      · exact decZ_digit k (m / 10) (by rw [Nat.pow_succ] at h; omega) z e
      · simp at e
        omega

theorem decV_dec {s : ByteArray} {f : Nat} : ∀ (k m : Nat), m < 10 ^ k → (∀ j, j < (decZ m).length → (bt s (f + j) : Int) = (decZ m).getD j 0) → decV s f (decZ m).length = m
  | 0, m, h, hb => by
    have : m = 0 := by simpa using h
    subst this
    have h0 := hb 0 (by rw [decZ_small (by omega)]; simp)
    rw [decZ_small (by omega)] at h0 ⊢
    simp at h0
    show 0 * 10 + (bt s (f + 0) - 48) = 0
    rw [Nat.add_zero]
    omega
  | k + 1, m, h, hb => by
    by_cases h10 : m < 10
    · have h0 := hb 0 (by rw [decZ_small h10]; simp)
      rw [decZ_small h10] at h0 ⊢
      simp at h0
      show 0 * 10 + (bt s (f + 0) - 48) = m
      rw [Nat.add_zero]
      omega
    · have hd := decZ_big h10
      have hl : (decZ m).length = (decZ (m / 10)).length + 1 := by rw [hd]; simp
      have ih := decV_dec k (m / 10) (by rw [Nat.pow_succ] at h; omega) (fun j hj => by
        rw [hb j (by omega), hd]
        simp only [List.getD_eq_getElem?_getD]
        rw [List.getElem?_append_left hj])
      have hlast := hb (decZ (m / 10)).length (by omega)
      rw [hd] at hlast
      simp only [List.getD_eq_getElem?_getD] at hlast
      rw [List.getElem?_append_right (Nat.le_refl _), Nat.sub_self] at hlast
      simp at hlast
      rw [hl, decV, ih]
      omega

theorem bstr_at {l : List Int} (hl : ∀ z ∈ l, 0 ≤ z ∧ z < 256) {j : Nat} (hj : j < l.length) : (bt (bstr l) j : Int) = l.getD j 0 := by
  rw [bt_data (by rw [bstr_size]; exact hj)]
  unfold bstr
  have h := hl l[j] (List.getElem_mem hj)
  simp only [List.getD_eq_getElem?_getD, List.getElem?_map, List.getElem?_eq_getElem hj, Option.map_some, Option.getD_some]
  rw [Nat.toUInt8, UInt8.toNat_ofNat']
  omega

/-- The number's text, byte for byte. -/
theorem numT_parts (n : Int) (hn : n.natAbs < 10 ^ 19) : (numT n).length ≤ 21 ∧ (∀ z ∈ numT n, 0 ≤ z ∧ z < 256) ∧
    ∃ f, (f = if n < 0 then 2 else 0) ∧ (numT n).length = f + (decZ n.natAbs).length ∧ (∀ j, j < (decZ n.natAbs).length → (bt (bstr (numT n)) (f + j) : Int) = (decZ n.natAbs).getD j 0) ∧ (high (bstr (numT n)) 0 = true ↔ n < 0) := by
  have hd := decZ_digit 19 n.natAbs hn
  have hp := decZ_pos n.natAbs
  have hl := decZ_le 18 n.natAbs hn
  have hz : ∀ z ∈ numT n, 0 ≤ z ∧ z < 256 := by
    intro z hz
    unfold numT at hz
    rcases List.mem_append.1 hz with e | e
    · split at e
      · simp at e; omega
      · cases e
    · have := hd z e; omega
  refine ⟨?_, hz, _, rfl, ?_, ?_, ?_⟩
  · unfold numT; split <;> simp <;> omega
  · unfold numT; split <;> simp <;> omega
  · intro j hj
    rw [bstr_at hz (by unfold numT; split <;> simp <;> omega)]
    unfold numT
    split
    · simp only [List.getD_eq_getElem?_getD]
      have e2 : 2 + j - ([194, 175] : List Int).length = j := by simp
      rw [List.getElem?_append_right (by simp), e2]
    · simp
  · by_cases h0 : n < 0
    · refine ⟨fun _ => h0, fun _ => ?_⟩
      have e : numT n = 194 :: 175 :: decZ n.natAbs := by unfold numT; rw [if_pos h0]; rfl
      have a := bstr_at hz (j := 0) (by rw [e]; simp)
      have b := bstr_at hz (j := 1) (by rw [e]; simp)
      rw [e] at a b
      simp at a b
      unfold high
      rw [e]
      exact decide_eq_true ⟨by rw [bstr_size]; simp, by omega, by show bt _ 1 = 175; omega⟩
    · refine ⟨fun h => ?_, fun h => absurd h h0⟩
      have e : numT n = decZ n.natAbs := by unfold numT; rw [if_neg h0]; rfl
      have a := bstr_at hz (j := 0) (by rw [e]; omega)
      unfold high at h
      have h2 := (of_decide_eq_true h).2.1
      rw [e] at a h2
      have h3 := hd _ (by
        have : (decZ n.natAbs).getD 0 0 ∈ decZ n.natAbs := by
          rw [List.getD_eq_getElem?_getD, List.getElem?_eq_getElem (by omega)]
          exact List.getElem_mem _
        exact this)
      omega

/-- A number's text begins with no blank and no comment. -/
theorem num_starts (n : Int) (hn : n.natAbs < 10 ^ 19) : 0 < (bstr (numT n)).size ∧ remark (bstr (numT n)) 0 = false ∧ ¬ (bt (bstr (numT n)) 0 = 32 ∨ bt (bstr (numT n)) 0 = 9) ∧ (isD (bt (bstr (numT n)) 0) = true ∨ high (bstr (numT n)) 0 = true) := by
  obtain ⟨hl, hz, f, hf, hlen, hb, hh⟩ := numT_parts n hn
  have hp := decZ_pos n.natAbs
  have hd := decZ_digit 19 n.natAbs hn
  have hfirst : (bt (bstr (numT n)) 0 = 194 ∧ high (bstr (numT n)) 0 = true) ∨ (48 ≤ bt (bstr (numT n)) 0 ∧ bt (bstr (numT n)) 0 ≤ 57) := by
    by_cases h0 : n < 0
    · left
      have h1 := hh.2 h0
      have h2 := h1
      unfold high at h2
      exact ⟨(of_decide_eq_true h2).2.1, h1⟩
    · right
      rw [if_neg h0] at hf
      subst hf
      have := hb 0 (by omega)
      have h3 := hd _ (by
        have : (decZ n.natAbs).getD 0 0 ∈ decZ n.natAbs := by
          rw [List.getD_eq_getElem?_getD, List.getElem?_eq_getElem (by omega)]
          exact List.getElem_mem _
        exact this)
      rw [Nat.zero_add] at this
      omega
  refine ⟨by rw [bstr_size]; omega, ?_, by omega, ?_⟩
  · unfold remark
    exact decide_eq_false (fun h => by omega)
  · rcases hfirst with h | h
    · exact .inr h.2
    · left; unfold isD; exact decide_eq_true h

/-- A number that is too great is not read again. -/
theorem num_big (n : Int) (hn : n.natAbs < 10 ^ 19) (hb : 1000000000000000 < n.natAbs) : (lexT (bstr (numT n))).2.1 = 7 := by
  obtain ⟨hs0, hrm, hbl, hst⟩ := num_starts n hn
  obtain ⟨hl, hz, f, hf, hlen, hbb, hh⟩ := numT_parts n hn
  have hp := decZ_pos n.natAbs
  have hd := decZ_digit 19 n.natAbs hn
  have hsz : (bstr (numT n)).size = f + (decZ n.natAbs).length := by rw [bstr_size]; exact hlen
  have hsz2 : (bstr (numT n)).size ≤ 21 := by rw [bstr_size]; exact hl
  generalize bstr (numT n) = x at *
  have hfx : (if high x 0 = true then 0 + 2 else 0) = f := by
    by_cases h0 : n < 0
    · rw [if_pos (hh.2 h0), hf, if_pos h0]
    · rw [if_neg (fun h => h0 (hh.1 h)), hf, if_neg h0]
  have hdig : ∀ j, j < (decZ n.natAbs).length → 48 ≤ bt x (f + j) ∧ bt x (f + j) ≤ 57 := fun j hj => by
    have h1 := hbb j hj
    have h2 := hd _ (by
      have : (decZ n.natAbs).getD j 0 ∈ decZ n.natAbs := by
        rw [List.getD_eq_getElem?_getD, List.getElem?_eq_getElem hj]
        exact List.getElem_mem _
      exact this)
    omega
  have he : endOf isD x f = x.size := by
    rw [hsz]
    refine endOf_is _ f (fun j hj => ⟨by omega, ?_⟩) (by omega)
    unfold isD
    exact decide_eq_true (hdig j hj)
  have hbad : ¬ (x.size = f ∨ (x.size < x.size ∧ isL (bt x x.size) = true) ∨ high x x.size = true) := by
    rintro (h | h | h)
    · omega
    · omega
    · unfold high at h; have := of_decide_eq_true h; omega
  have hv : decV x f (x.size - f) = n.natAbs := by
    rw [show x.size - f = (decZ n.natAbs).length by omega]
    exact decV_dec 19 _ hn hbb
  have ht : tokAt x 0 = bad 7 := by
    unfold tokAt
    rw [if_pos hst]
    exact numTok_big hfx he hbad (by omega)
  unfold lexT
  rw [if_neg (by omega), lexR, if_pos ⟨hs0, hrm⟩, if_neg hbl, ht]
  rfl

/-- Where a token's text gives the token again it is read at the text's beginning. -/
theorem back_zero {k n : Int} {t : ByteArray} {y : Tok} (hn : n.natAbs < 10 ^ 19) (hc : (lexT (spellT k n t)).2.1 = 0) (hy : (lexT (spellT k n t)).1 = [y]) (hk : y.k = k) (ht : y.t = t) : y.p = 0 := by
  unfold lexT at hc hy
  by_cases hs : 2000 < (spellT k n t).size
  · rw [if_pos hs] at hc; exact absurd hc (by decide)
  · rw [if_neg hs] at hc hy
    by_cases k1 : k = 1
    · have e : spellT k n t = bstr (numT n) := by unfold spellT; rw [if_pos k1]
      rw [e] at hc hy
      obtain ⟨h0, hr, hb, _⟩ := num_starts n hn
      exact first_zero h0 hr hb hc hy
    · by_cases k2 : k = 2
      · have e : spellT k n t = ⟨(quoteL t.data.toList).toArray⟩ := by unfold spellT; rw [if_neg k1, if_pos k2]
        have hb0 : bt (spellT k n t) 0 = 39 := by rw [e]; rfl
        have h0 : 0 < (spellT k n t).size := by rw [e]; simp [ByteArray.size, quoteL]
        exact first_zero h0 (by unfold remark; exact decide_eq_false (fun h => by omega)) (by omega) hc hy
      · have e : spellT k n t = t := by unfold spellT; rw [if_neg k1, if_neg k2]
        rw [e] at hc hy
        obtain ⟨more, hm, hx⟩ := lexR_pre (s := t) (t.size + 1) 0 [] (Nat.zero_le _) hc
        rw [hm, List.nil_append] at hy
        obtain ⟨hp, hpc, hyx⟩ := hx y (by rw [hy]; simp)
        have ek : (tokAt t y.p).k = k := (congrArg Tok.k hyx).symm.trans hk
        have et : (tokAt t y.p).t = t := (congrArg Tok.t hyx).symm.trans ht
        obtain ⟨e2, he2, hpe⟩ := tok_piece hp hpc (by rw [ek]; exact k1) (by rw [ek]; exact k2)
        have hsz := congrArg ByteArray.size (et.symm.trans hpe)
        rw [ByteArray.size_extract] at hsz
        omega

end Go.Proofs.YtkjpgbecbggcoaaDoor
