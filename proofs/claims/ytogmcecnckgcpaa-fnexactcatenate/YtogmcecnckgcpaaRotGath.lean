import Derived.Test.YtogmcecnckgcpaaGathMath
import Derived.Test.YtogmcecnckgcpaaRotMath
namespace Go.Proofs.Ytogmcecnckgcpaa

theorem inside_of {sh ix : List Int} (h : IxIn sh ix) (k : Nat) (hk : k ≤ sh.length) : insideN sh ix k = true := by
  induction k with
  | zero => rfl
  | succ k ih => exact inside_step (ih (by omega)) (h k (by omega)).1 (h k (by omega)).2

theorem getD_drop (l : List Int) (b m : Nat) : (l.drop b).getD m 0 = l.getD (b + m) 0 := by simp [List.getD]

theorem placeN_add (sh ix : List Int) (b m : Nat) (hm : b + m ≤ sh.length) : placeN sh ix (b + m) = placeN sh ix b * prodAll ((sh.drop b).take m) + placeN (sh.drop b) (ix.drop b) m := by
  induction m with
  | zero => simp [placeN, prodAll]
  | succ m ih =>
    show placeN sh ix (b + m) * sh.getD (b + m) 0 + ix.getD (b + m) 0 = _
    rw [ih (by omega), prodAll_snoc _ _ (by simp; omega)]
    show _ = placeN sh ix b * (prodAll ((sh.drop b).take m) * (sh.drop b).getD m 0) + (placeN (sh.drop b) (ix.drop b) m * (sh.drop b).getD m 0 + (ix.drop b).getD m 0)
    rw [getD_drop, getD_drop, Int.add_mul, Int.mul_assoc, Int.add_assoc]

theorem place_split (sh ix : List Int) (a : Nat) (ha : a < sh.length) : place sh ix = (placeN sh ix a * sh.getD a 0 + ix.getD a 0) * prodAll (sh.drop (a + 1)) + place (sh.drop (a + 1)) (ix.drop (a + 1)) := by
  have h := placeN_add sh ix (a + 1) (sh.length - (a + 1)) (by omega)
  rw [show a + 1 + (sh.length - (a + 1)) = sh.length by omega, List.take_of_length_le (by simp)] at h
  unfold place
  rw [h]
  simp [placeN]

theorem placeN_same {sh x y : List Int} (k : Nat) (h : ∀ i, i < k → x.getD i 0 = y.getD i 0) : placeN sh x k = placeN sh y k := by
  induction k with
  | zero => rfl
  | succ k ih => show placeN sh x k * _ + _ = placeN sh y k * _ + _; rw [ih (fun i hi => h i (by omega)), h k (by omega)]

theorem modOf_emod {n : Int} (hn : 0 < n) (b : Int) : modOf n b = b % n := by
  unfold modOf
  rw [if_neg (by omega)]
  have h1 := Int.tmod_lt_of_pos b hn
  have h2 : -n < b.tmod n := Int.lt_tmod_of_pos b hn
  have h3 := Int.mul_tdiv_add_tmod b n
  split
  · rename_i h
    have h4 : b.tmod n < 0 := by
      by_cases h4 : b.tmod n < 0
      · exact h4
      · exfalso; apply h.2; rw [decide_eq_false h4, decide_eq_false (by omega)]
    have := (Int.ediv_emod_unique (a := b) (r := b.tmod n + n) (q := b.tdiv n - 1) hn).2 ⟨by rw [Int.mul_sub, Int.mul_one]; omega, by omega, by omega⟩
    exact this.2.symm
  · rename_i h
    have h4 : ¬ b.tmod n < 0 := by
      intro h4
      apply h
      refine ⟨by omega, ?_⟩
      rw [decide_eq_true h4, decide_eq_false (by omega)]; simp
    have := (Int.ediv_emod_unique (a := b) (r := b.tmod n) (q := b.tdiv n) hn).2 ⟨by omega, by omega, by omega⟩
    exact this.2.symm

theorem wrap_emod {n : Int} (hn : 0 < n) (b : Int) : (b.tmod n + n).tmod n = b % n := by
  have h1 := Int.tmod_lt_of_pos b hn
  have h2 : -n < b.tmod n := Int.lt_tmod_of_pos b hn
  have h3 := Int.mul_tdiv_add_tmod b n
  rw [Int.tmod_eq_emod_of_nonneg (by omega)]
  by_cases h4 : b.tmod n < 0
  · rw [Int.emod_eq_of_lt (by omega) (by omega)]
    have := (Int.ediv_emod_unique (a := b) (r := b.tmod n + n) (q := b.tdiv n - 1) hn).2 ⟨by rw [Int.mul_sub, Int.mul_one]; omega, by omega, by omega⟩
    exact this.2.symm
  · rw [Int.add_emod_right, Int.emod_eq_of_lt (by omega) (by omega)]
    have := (Int.ediv_emod_unique (a := b) (r := b.tmod n) (q := b.tdiv n) hn).2 ⟨by omega, by omega, by omega⟩
    exact this.2.symm

/-- Which element along each axis is meant where axis a is turned by k. -/
def rotF (sh : List Int) (a : Int) (k : Int) (D : List Int) (i : Nat) : Int := if (i : Int) = a then (D.getD i 0 + k) % sh.getD i 0 else D.getD i 0

theorem rot_gather {d : Bool} {sh dt : List Int} {a : Nat} {k : Int} (hf : Full sh) (ha : a < sh.length) (t : Nat) (ht : (t : Int) < prodAll sh) (n A e : Nat) (hn : sh.getD a 0 = n) (hA : prodAll (sh.drop (a + 1)) = A) (he : modOf n k = e) :
    gatherAt d sh dt (rotF sh a k) sh t = rotAt n A e dt t := by
  have hn0 : (0 : Int) < n := by rw [← hn]; exact hf a ha
  have hD := digits_in hf (t : Int)
  have hpl := place_digits hf (p := (t : Int)) (by omega) ht
  have hDl := digits_len sh (t : Int)
  obtain ⟨D, hDD⟩ : ∃ D, digits sh (t : Int) = D := ⟨_, rfl⟩
  rw [hDD] at hD hpl hDl
  have hMg := meant_get sh (rotF sh a k) D
  have hMl := meant_len sh (rotF sh a k) D
  obtain ⟨M, hM⟩ : ∃ M, meant sh (rotF sh a k) D = M := ⟨_, rfl⟩
  rw [hM] at hMg hMl
  have hoth : ∀ i, i < sh.length → i ≠ a → M.getD i 0 = D.getD i 0 := fun i hi hne => by rw [hMg i hi]; unfold rotF; rw [if_neg (by omega)]
  have hat : M.getD a 0 = (D.getD a 0 + k) % n := by rw [hMg a ha]; unfold rotF; rw [if_pos rfl, hn]
  have hMin : IxIn sh M := fun i hi => by
    by_cases e : i = a
    · subst e; rw [hat, hn]; exact ⟨Int.emod_nonneg _ (by omega), Int.emod_lt_of_pos _ hn0⟩
    · rw [hoth i hi e]; exact hD i hi
  have hdrop : M.drop (a + 1) = D.drop (a + 1) := by
    apply List.ext_getElem
    · simp; omega
    · intro i h1 h2
      have hi : a + 1 + i < sh.length := by simp at h1; omega
      have := hoth (a + 1 + i) hi (by omega)
      simp only [List.getElem_drop]
      simpa [List.getD, show a + 1 + i < M.length by omega, show a + 1 + i < D.length by omega] using this
  have hsp := place_split sh M a ha
  have hsd := place_split sh D a ha
  rw [placeN_same a (fun i hi => hoth i (by omega) (by omega)), hat, hdrop, hn, hA] at hsp
  rw [hpl, hn, hA] at hsd
  have hrest : IxIn (sh.drop (a + 1)) (D.drop (a + 1)) := fun i hi => by
    rw [getD_drop, getD_drop]; exact hD _ (by simp at hi; omega)
  have hq := place_bd hrest
  rw [hA] at hq
  have hP := (placeN_bd hD a (by omega)).1
  have hi := hD a ha
  rw [hn] at hi
  obtain ⟨p, hp⟩ : ∃ p : Nat, placeN sh D a = p := ⟨(placeN sh D a).toNat, by omega⟩
  obtain ⟨i, hi'⟩ : ∃ i : Nat, D.getD a 0 = i := ⟨(D.getD a 0).toNat, by omega⟩
  obtain ⟨q, hq'⟩ : ∃ q : Nat, place (sh.drop (a + 1)) (D.drop (a + 1)) = q := ⟨(place (sh.drop (a + 1)) (D.drop (a + 1))).toNat, by omega⟩
  rw [hp, hi', hq'] at hsd hsp
  rw [hi'] at hi
  rw [hq'] at hq
  have he2 : ((i : Int) + k) % n = (((i + e) % n : Nat) : Int) := by
    rw [modOf_emod hn0] at he
    rw [Int.natCast_emod, Int.natCast_add, ← he, Int.add_emod_emod]
  rw [he2] at hsp
  have hts : t = (p * n + i) * A + q := by exact_mod_cast hsd
  have hfrom := rotFrom_at (n := n) (A := A) (d := e) (p := p) (i := i) (q := q) (by omega) (by omega)
  have hpm : place sh M = ((rotFrom n A e t : Nat) : Int) := by rw [hts, hfrom, hsp]; push_cast; rfl
  unfold gatherAt rotAt
  rw [hDD, hM, if_pos (inside_of hMin _ (Nat.le_refl _)), hpm]
  simp

theorem vals_same {f g : Nat → Int × Int} {n : Nat} (h : ∀ i, i < n → (f i).1 = (g i).1) : vals f n = vals g n := map_range_eq h

end Go.Proofs.Ytogmcecnckgcpaa
