import Derived.Test.YtogmcecnckgcpaaMFirst
import Derived.Test.YtogmcecnckgcpaaPutMath
import Derived.Test.YtogmcecnckgcpaaRotGath
namespace Go.Proofs.Ytogmcecnckgcpaa

/-- The place in rows of t of what stands at place k in rows of s, moved by off. -/
def rowPlace (s t off k : Nat) : Nat := k / s * t + k % s + off

theorem rowPlace_div {s t off k : Nat} (hs : 0 < s) (ht : s + off ≤ t) : rowPlace s t off k / t = k / s ∧ rowPlace s t off k % t = k % s + off := by
  have h1 := Nat.mod_lt k hs
  have e : rowPlace s t off k = (k % s + off) + t * (k / s) := by unfold rowPlace; rw [Nat.mul_comm (k / s) t]; omega
  rw [e]
  exact ⟨by rw [Nat.add_mul_div_left _ _ (by omega), Nat.div_eq_of_lt (by omega)]; omega, by rw [Nat.add_mul_mod_self_left, Nat.mod_eq_of_lt (by omega)]⟩

theorem rowPlace_iff {s t off i k : Nat} (hs : 0 < s) (ht : s + off ≤ t) : i = rowPlace s t off k ↔ (off ≤ i % t ∧ i % t < off + s) ∧ i / t * s + (i % t - off) = k := by
  constructor
  · rintro rfl
    obtain ⟨h1, h2⟩ := rowPlace_div (k := k) hs ht
    rw [h1, h2]
    have h3 := Nat.mod_lt k hs
    have h4 := Nat.div_add_mod k s
    rw [Nat.mul_comm] at h4
    exact ⟨⟨by omega, by omega⟩, by omega⟩
  · rintro ⟨⟨h1, h2⟩, rfl⟩
    have e : i / t * s + (i % t - off) = (i % t - off) + s * (i / t) := by rw [Nat.mul_comm]; omega
    unfold rowPlace
    rw [e, Nat.add_mul_div_left _ _ hs, Nat.add_mul_mod_self_left, Nat.div_eq_of_lt (by omega), Nat.mod_eq_of_lt (show i % t - off < s by omega)]
    have h4 := Nat.div_add_mod i t
    rw [Nat.mul_comm] at h4
    rw [Nat.zero_add]
    omega

/-- What stands at place i when k elements of rows of s have been put into rows of t. -/
def putRow (s t off : Nat) (g : Nat → Int) (l : List Int) (k i : Nat) : Int := if (off ≤ i % t ∧ i % t < off + s) ∧ i / t * s + (i % t - off) < k then g (i / t * s + (i % t - off)) else l.getD i 0

theorem list_range (l : List Int) (M : Nat) (h : l.length = M) : l = (List.range M).map fun i => l.getD i 0 := by
  apply List.ext_getElem
  · simp [h]
  · intro i h1 h2
    simp [List.getD, h1]

theorem put_rows {sh zs : List Int} {f : List Int → Nat → Int} {g : Nat → Int} {l : List Int} {s t off M N : Nat} (hs : 0 < N → 0 < s) (ht : s + off ≤ t) (hl : l.length = M)
    (hin : ∀ k : Nat, k < N → insideN sh (meant sh f (digits zs k)) sh.length = true ∧ place sh (meant sh f (digits zs k)) = ((rowPlace s t off k : Nat) : Int)) (k : Nat) (hk : k ≤ N) :
    putN sh f zs g l k = (List.range M).map (putRow s t off g l k) := by
  induction k with
  | zero =>
    show l = _
    rw [list_range l M hl]
    refine map_range_eq fun i hi => ?_
    unfold putRow
    rw [if_neg (by omega)]
    simp [hi]
  | succ k ih =>
    obtain ⟨h1, h2⟩ := hin k (by omega)
    have hs' := hs (by omega)
    rw [← put_in h1 h2, ih (by omega), map_range_set]
    refine map_range_eq fun i hi => ?_
    by_cases e : i = rowPlace s t off k
    · rw [if_pos e]
      have := (rowPlace_iff hs' ht).1 e
      unfold putRow
      rw [if_pos ⟨this.1, by omega⟩, this.2]
    · rw [if_neg e]
      unfold putRow
      by_cases c : (off ≤ i % t ∧ i % t < off + s) ∧ i / t * s + (i % t - off) < k
      · rw [if_pos c, if_pos ⟨c.1, by omega⟩]
      · rw [if_neg c, if_neg (fun h => c ⟨h.1, by
          rcases Nat.lt_or_ge (i / t * s + (i % t - off)) k with h' | h'
          · exact h'
          · exact absurd ((rowPlace_iff hs' ht).2 ⟨h.1, by omega⟩) e⟩)]

/-- What stands at place i of two lists joined row by row. -/
def joinAt (X Y : List Int) (x y i : Nat) : Int := if i % (x + y) < x then X.getD (i / (x + y) * x + i % (x + y)) 0 else Y.getD (i / (x + y) * y + (i % (x + y) - x)) 0

theorem range_plus (a b : Nat) : List.range (a + b) = List.range a ++ (List.range b).map (a + ·) := List.range_add

theorem catN_range (X Y : List Int) (x y B : Nat) (hX : B * x = X.length) (hY : B * y = Y.length) (k : Nat) (hk : k ≤ B) : catN X Y x y k = (List.range (k * (x + y))).map (joinAt X Y x y) := by
  induction k with
  | zero => simp [catN]
  | succ k ih =>
    have hx : (k + 1) * x ≤ X.length := by rw [← hX]; exact Nat.mul_le_mul_right _ hk
    have hy : (k + 1) * y ≤ Y.length := by rw [← hY]; exact Nat.mul_le_mul_right _ hk
    rw [Nat.add_mul, Nat.one_mul] at hx hy
    simp only [catN]
    rw [ih (by omega), Nat.add_mul, Nat.one_mul, range_plus, List.map_append, List.append_assoc, List.map_map]
    congr 1
    apply List.ext_getElem
    · simp; omega
    · intro c h1 h2
      have hc : c < x + y := by simpa using h2
      have hm : (k * (x + y) + c) % (x + y) = c := by rw [Nat.mul_comm, Nat.mul_add_mod, Nat.mod_eq_of_lt hc]
      have hd : (k * (x + y) + c) / (x + y) = k := by rw [Nat.mul_comm, Nat.mul_add_div (by omega), Nat.div_eq_of_lt hc]; omega
      simp only [List.getElem_map, List.getElem_range, Function.comp]
      unfold joinAt
      rw [hm, hd]
      by_cases h : c < x
      · rw [if_pos h, List.getElem_append_left (by simp; omega)]
        simp [List.getD, show k * x + c < X.length by omega]
      · rw [if_neg h, List.getElem_append_right (by simp; omega)]
        simp [List.getD, show min x (X.length - k * x) = x by omega, show k * y + (c - x) < Y.length by omega]

/-- Both lists put in, one behind the other. -/
theorem put_both {X Y l : List Int} {x y B : Nat} {g1 g2 : Nat → Int} (hX : B * x = X.length) (hY : B * y = Y.length) (h1 : ∀ k, k < X.length → g1 k = X.getD k 0) (h2 : ∀ k, k < Y.length → g2 k = Y.getD k 0) :
    (List.range (B * (x + y))).map (putRow y (x + y) x g2 ((List.range (B * (x + y))).map (putRow x (x + y) 0 g1 l X.length)) Y.length) = catN X Y x y B := by
  rw [catN_range X Y x y B hX hY B (Nat.le_refl _)]
  refine map_range_eq fun i hi => ?_
  have ht : 0 < x + y := by
    rcases Nat.eq_zero_or_pos (x + y) with h | h
    · rw [h] at hi; simp at hi
    · exact h
  have hr : i / (x + y) < B := by rw [Nat.div_lt_iff_lt_mul ht]; exact hi
  have hc := Nat.mod_lt i ht
  have hx : i / (x + y) * x + x ≤ X.length := by rw [← hX]; have := Nat.mul_le_mul_right x hr; rwa [Nat.succ_mul] at this
  have hy : i / (x + y) * y + y ≤ Y.length := by rw [← hY]; have := Nat.mul_le_mul_right y hr; rwa [Nat.succ_mul] at this
  unfold putRow joinAt
  by_cases c : i % (x + y) < x
  · rw [if_neg (by omega), if_pos c, map_range_get _ _ _ hi, if_pos ⟨by omega, by omega⟩, Nat.sub_zero, h1 _ (by omega)]
  · rw [if_neg c, if_pos ⟨by omega, by omega⟩, h2 _ (by omega)]

/-- Where the element at place k of an array lies in one whose last axis is longer. -/
theorem place_longer {fr : List Int} {s t off : Nat} (hst : s + off ≤ t) (f : List Int → Nat → Int) (hf : ∀ D i, i < fr.length → f D i = D.getD i 0) (hl : ∀ D, f D fr.length = D.getD fr.length 0 + (off : Int)) (hF : Full (fr ++ [(s : Int)])) (k : Nat) (hk : (k : Int) < prodAll (fr ++ [(s : Int)])) :
    insideN (fr ++ [(t : Int)]) (meant (fr ++ [(t : Int)]) f (digits (fr ++ [(s : Int)]) k)) (fr ++ [(t : Int)]).length = true ∧ place (fr ++ [(t : Int)]) (meant (fr ++ [(t : Int)]) f (digits (fr ++ [(s : Int)]) k)) = ((rowPlace s t off k : Nat) : Int) := by
  have hD := digits_in hF (k : Int)
  have hpl := place_digits hF (p := (k : Int)) (by omega) hk
  have hDl := digits_len (fr ++ [(s : Int)]) (k : Int)
  obtain ⟨D, hDD⟩ : ∃ D, digits (fr ++ [(s : Int)]) (k : Int) = D := ⟨_, rfl⟩
  rw [hDD] at hD hpl hDl ⊢
  have hMg := meant_get (fr ++ [(t : Int)]) f D
  obtain ⟨M, hM⟩ : ∃ M, meant (fr ++ [(t : Int)]) f D = M := ⟨_, rfl⟩
  rw [hM] at hMg ⊢
  have gs : ∀ i, i < fr.length → ∀ z : Int, (fr ++ [z]).getD i 0 = fr.getD i 0 := fun i hi z => by simp [List.getD, List.getElem?_append_left hi]
  have gl : ∀ z : Int, (fr ++ [z]).getD fr.length 0 = z := fun z => by simp [List.getD]
  have hlast := hD fr.length (by simp)
  rw [gl] at hlast
  have ha : M.getD fr.length 0 = D.getD fr.length 0 + (off : Int) := by rw [hMg fr.length (by simp), hl]
  have ho : ∀ i, i < fr.length → M.getD i 0 = D.getD i 0 := fun i hi => by rw [hMg i (by simp; omega), hf D i hi]
  have hin : IxIn (fr ++ [(t : Int)]) M := fun i hi => by
    have hi' : i < fr.length + 1 := by simpa using hi
    by_cases e : i = fr.length
    · subst e; rw [ha, gl]; omega
    · have h1 := hD i (by simp; omega)
      rw [gs i (by omega)] at h1
      rw [gs i (by omega), ho i (by omega)]; exact h1
  refine ⟨inside_of hin _ (Nat.le_refl _), ?_⟩
  have p1 := place_split (fr ++ [(t : Int)]) M fr.length (by simp)
  have p2 := place_split (fr ++ [(s : Int)]) D fr.length (by simp)
  have hd0 : ∀ z : Int, (fr ++ [z]).drop (fr.length + 1) = [] := fun z => by simp
  rw [hd0, gl, ha] at p1
  rw [hd0, gl, hpl] at p2
  have e0 : ∀ ix : List Int, place [] ix = 0 := fun ix => rfl
  have ep : prodAll [] = 1 := rfl
  rw [e0, ep, Int.mul_one, Int.add_zero] at p1 p2
  have hP : placeN (fr ++ [(t : Int)]) M fr.length = placeN (fr ++ [(s : Int)]) D fr.length := by
    have key : ∀ j, j ≤ fr.length → placeN (fr ++ [(t : Int)]) M j = placeN (fr ++ [(s : Int)]) D j := by
      intro j
      induction j with
      | zero => intro _; rfl
      | succ j ih =>
        intro hj
        show placeN (fr ++ [(t : Int)]) M j * _ + _ = placeN (fr ++ [(s : Int)]) D j * _ + _
        rw [ih (by omega), gs j (by omega), gs j (by omega), ho j (by omega)]
    exact key _ (Nat.le_refl _)
  have hP0 := (placeN_bd hD fr.length (by simp)).1
  obtain ⟨p, hp⟩ : ∃ p : Nat, placeN (fr ++ [(s : Int)]) D fr.length = p := ⟨(placeN (fr ++ [(s : Int)]) D fr.length).toNat, by omega⟩
  obtain ⟨j, hj⟩ : ∃ j : Nat, D.getD fr.length 0 = j := ⟨(D.getD fr.length 0).toNat, by omega⟩
  rw [hP, hp, hj] at p1
  rw [hp, hj] at p2
  rw [hj] at hlast
  have hk2 : k = p * s + j := by exact_mod_cast p2
  have hjs : j < s := by omega
  have q1 : k / s = p := by rw [hk2, Nat.mul_comm, Nat.mul_add_div (by omega), Nat.div_eq_of_lt hjs]; omega
  have q2 : k % s = j := by rw [hk2, Nat.mul_comm, Nat.mul_add_mod, Nat.mod_eq_of_lt hjs]
  rw [p1]
  unfold rowPlace
  rw [q1, q2]
  push_cast
  omega

end Go.Proofs.Ytogmcecnckgcpaa
