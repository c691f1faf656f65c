import Derived.Test.YtkgcmpmgaghdhaaGreatDoorMFit0
namespace Go.Proofs.YtkgcmpmgaghdhaaGreatDoor

/-- The length along which Inner goes. -/
def innN (sh sh' : List Int) : Int := if sh' = [] then (if sh = [] then 1 else sh.getD (sh.length - 1) 0) else sh'.getD 0 0
/-- A scalar as a vector of n. -/
def stSh (n : Int) (sh : List Int) : List Int := if sh = [] then [n] else sh
def stDt (n : Int) (sh dt : List Int) : List Int := if sh = [] then List.replicate n.toNat (dt.getD 0 0) else dt

/-- g of the i-th elements of row k / A and column k % A. -/
def innPair (g : Int) (c d : Bool) (xs ys : List Int) (n A k i : Nat) : Int × Int := elemOf g c (lineOf xs (k / A) n 1 0) i d (lineOf ys 0 n A (k % A)) i

def innBad (g : Int) (c d : Bool) : Bool := (c || d) && !opEq g

def innEl (f g : Int) (c d : Bool) (xs ys : List Int) (n A k : Nat) : Int × Int :=
  if innBad g c d = true then (0, 3)
  else if firstCode (innPair g c d xs ys n A k) n = 0 then foldR f (vals (innPair g c d xs ys n A k) n) else (0, firstCode (innPair g c d xs ys n A k) n)

def innCore (f g : Int) (c d : Bool) (s x s' y : List Int) (n : Int) : Ans :=
  if axisN s false ≠ n then noAns 5
  else if shapeB (without s false ++ without s' true) = false then noAns 7
  else gatherAns false (without s false ++ without s' true) (innEl f g c d x y n.toNat (axisA s' true).toNat) ((axisB s false).toNat * (axisA s' true).toNat)

def inner (f g : Int) (c d : Bool) (sh dt sh' dt' : List Int) : Ans :=
  if arrOk c sh dt = true ∧ arrOk d sh' dt' = true ∧ opIn f = true ∧ opIn g = true then
    innCore f g c d (stSh (innN sh sh') sh) (stDt (innN sh sh') sh dt) (stSh (innN sh sh') sh') (stDt (innN sh sh') sh' dt') (innN sh sh')
  else noAns 3

theorem inner_bad {f g : Int} {c d : Bool} {sh dt sh' dt' : List Int} (h : ¬ (arrOk c sh dt = true ∧ arrOk d sh' dt' = true ∧ opIn f = true ∧ opIn g = true)) : inner f g c d sh dt sh' dt' = noAns 3 := by unfold inner; rw [if_neg h]
theorem inner_go {f g : Int} {c d : Bool} {sh dt sh' dt' : List Int} (h1 : arrOk c sh dt = true) (h2 : arrOk d sh' dt' = true) (h3 : opIn f = true) (h4 : opIn g = true) : inner f g c d sh dt sh' dt' = innCore f g c d (stSh (innN sh sh') sh) (stDt (innN sh sh') sh dt) (stSh (innN sh sh') sh') (stDt (innN sh sh') sh' dt') (innN sh sh') := by
  unfold inner; rw [if_pos ⟨h1, h2, h3, h4⟩]

theorem innN_bd {sh sh' : List Int} (h : ShapeIn sh) (h' : ShapeIn sh') : 0 ≤ innN sh sh' ∧ innN sh sh' ≤ 10000 := by
  unfold innN
  split
  · split
    · omega
    · exact h.cell _
  · exact h'.cell _

theorem stSh_ne (n : Int) (sh : List Int) : stSh n sh ≠ [] := by
  unfold stSh
  split
  · simp
  · assumption

theorem count_one (n : Nat) (h : n ≤ 10000) : countOf [(n : Int)] = n := by
  unfold countOf
  have ha : [(n : Int)].all inCells = true := by simp [inCells]; omega
  rw [if_pos ha]
  by_cases h0 : n = 0
  · subst h0; simp [prodFrom]
  · have e : ¬ ((n : Int) = 0) := by omega
    simp only [prodFrom, if_neg e, Int.one_mul]
    rw [if_neg (by omega)]
    simp
    try omega

theorem st_ok {c : Bool} {sh dt : List Int} {n : Int} (h : arrOk c sh dt = true) (h0 : 0 ≤ n) (h1 : n ≤ 10000) : arrOk c (stSh n sh) (stDt n sh dt) = true := by
  unfold stSh stDt
  by_cases hs : sh = []
  · rw [if_pos hs, if_pos hs]
    subst hs
    obtain ⟨m, rfl⟩ : ∃ m : Nat, n = m := ⟨n.toNat, by omega⟩
    unfold arrOk at h ⊢
    simp only [Bool.and_eq_true, decide_eq_true_eq] at h ⊢
    refine ⟨by simp, ?_, ?_⟩
    · rw [count_one m (by omega)]; simp
    · rw [List.all_eq_true]
      intro v hv
      have hv' := List.eq_of_mem_replicate hv
      have hl : 0 < dt.length := by have := h.2.1; simp [countOf, prodFrom] at this; omega
      rw [hv']
      exact List.all_eq_true.mp h.2.2 _ (by simp [hl])
  · rw [if_neg hs, if_neg hs]; exact h

theorem inn_axes {c : Bool} {sh dt : List Int} (fl : Bool) (hok : arrOk c sh dt = true) (hne : sh ≠ []) : ∃ B L A : Nat, (axisB sh fl = B ∧ axisN sh fl = L ∧ axisA sh fl = A) ∧ B * L * A = dt.length ∧ B ≤ 10000 ∧ L ≤ 10000 ∧ A ≤ 10000 := by
  obtain ⟨hin, hp, _⟩ := shapeIn_of hok
  have h1 := (hin.take (axisAt sh fl)).bd
  have h2 := hin.cell (axisAt sh fl)
  have h3 := (hin.drop (axisAt sh fl + 1)).bd
  have e := axis_all sh fl hne
  rw [hp] at e
  obtain ⟨B, hB⟩ : ∃ B : Nat, axisB sh fl = B := ⟨(axisB sh fl).toNat, by unfold axisB; omega⟩
  obtain ⟨L, hL⟩ : ∃ L : Nat, axisN sh fl = L := ⟨(axisN sh fl).toNat, by unfold axisN; omega⟩
  obtain ⟨A, hA⟩ : ∃ A : Nat, axisA sh fl = A := ⟨(axisA sh fl).toNat, by unfold axisA; omega⟩
  refine ⟨B, L, A, ⟨hB, hL, hA⟩, ?_, ?_, ?_, ?_⟩
  · rw [hB, hL, hA] at e
    exact_mod_cast e
  · unfold axisB at hB; omega
  · unfold axisN at hL; omega
  · unfold axisA at hA; omega

theorem axisA_last {sh : List Int} (h : sh ≠ []) : axisA sh false = 1 := by
  have hl : 0 < sh.length := List.length_pos_iff.mpr h
  unfold axisA axisAt
  simp only [Bool.false_eq_true, if_false]
  rw [show sh.length - 1 + 1 = sh.length by omega, List.drop_of_length_le (Nat.le_refl _)]; rfl

theorem axisB_first (sh : List Int) : axisB sh true = 1 := by simp [axisB, axisAt, prodAll]

theorem axisN_first {sh sh' : List Int} : axisN (stSh (innN sh sh') sh') true = innN sh sh' := by
  by_cases h : sh' = []
  · simp [axisN, axisAt, stSh, h]
  · simp [axisN, axisAt, stSh, h, innN]

theorem data_ok {c : Bool} {sh dt : List Int} (h : arrOk c sh dt = true) {k : Nat} (hk : k < dt.length) : dataOk c (dt.getD k 0) = true := by
  have h1 : dt.all (dataOk c) = true := by simp [arrOk] at h; simpa using h.2.2
  exact List.all_eq_true.mp h1 (dt.getD k 0) (by simp [hk])

theorem line_ok {c : Bool} {sh dt : List Int} (h : arrOk c sh dt = true) {B n A p q : Nat} (hL : B * n * A = dt.length) (hp : p < B) (hq : q < A) (hn : n ≤ 10000) : arrOk c [(n : Int)] (lineOf dt p n A q) = true := by
  unfold arrOk
  simp only [Bool.and_eq_true, decide_eq_true_eq]
  refine ⟨by simp, ?_, ?_⟩
  · rw [count_one n hn, line_len]
  · rw [List.all_eq_true]
    intro v hv
    obtain ⟨i, hi, rfl⟩ := List.mem_map.mp hv
    exact data_ok h (line_in hL hp hq (List.mem_range.mp hi))

theorem firstCode_congr {f g : Nat → Int × Int} {n : Nat} (h : ∀ k, k < n → f k = g k) : firstCode f n = firstCode g n := by
  induction n with
  | zero => rfl
  | succ n ih => simp only [firstCode]; rw [ih fun k hk => h k (by omega), h n (by omega)]

theorem vals_congr {f g : Nat → Int × Int} {n : Nat} (h : ∀ k, k < n → f k = g k) : vals f n = vals g n := by
  unfold vals
  apply List.map_congr_left
  intro i hi
  rw [h i (List.mem_range.mp hi)]

theorem gather_congr {c : Bool} {sh : List Int} {f g : Nat → Int × Int} {n : Nat} (h : ∀ k, k < n → f k = g k) : gatherAns c sh f n = gatherAns c sh g n := by
  unfold gatherAns; rw [firstCode_congr h, vals_congr h]

theorem scalar2_line {g : Int} {c d : Bool} {l1 l2 : List Int} {n : Nat} (hn : n ≤ 10000) (h1 : arrOk c [(n : Int)] l1 = true) (h2 : arrOk d [(n : Int)] l2 = true) (hg : opIn g = true) (e1 : l1.length = n) (e2 : l2.length = n) :
    scalar2 g c d [(n : Int)] l1 [(n : Int)] l2 = if innBad g c d = true then noAns 3 else gatherAns false [(n : Int)] (fun i => elemOf g c l1 i d l2 i) n := by
  have hw : wideB 1 n 1 n = false := by unfold wideB; by_cases h : n = 1 <;> simp [h]
  unfold scalar2
  rw [if_pos ⟨h1, h2, hg⟩]
  simp only [List.length_singleton, e1, e2, hw, ne_eq, not_true_eq_false, and_false, if_false, Bool.false_eq_true]
  by_cases hb : innBad g c d = true
  · rw [if_pos hb, if_pos (by unfold innBad at hb; simpa using hb)]
  · rw [if_neg hb, if_neg (fun e => hb (by unfold innBad; rw [e.1, e.2]; rfl)), count_one n hn, Int.toNat_natCast]
    exact gather_congr fun k hk => by rw [Nat.mod_eq_of_lt hk]

/-- What the specification reckons at a place, out of Scalar2's answer. -/
theorem innEl_eq {f g : Int} {c d : Bool} {xs ys : List Int} {n A k : Nat} (hn : n ≤ 10000) (h1 : arrOk c [(n : Int)] (lineOf xs (k / A) n 1 0) = true) (h2 : arrOk d [(n : Int)] (lineOf ys 0 n A (k % A)) = true) (hg : opIn g = true) (z : Ans) (hz : z = scalar2 g c d [(n : Int)] (lineOf xs (k / A) n 1 0) [(n : Int)] (lineOf ys 0 n A (k % A))) :
    innEl f g c d xs ys n A k = if z.code = 0 then foldR f z.dt else (0, z.code) := by
  rw [hz, scalar2_line hn h1 h2 hg (line_len _ _ _ _ _) (line_len _ _ _ _ _)]
  unfold innEl
  by_cases hb : innBad g c d = true
  · rw [if_pos hb, if_pos hb]; rfl
  · rw [if_neg hb, if_neg hb]
    by_cases h0 : firstCode (innPair g c d xs ys n A k) n = 0
    · rw [if_pos h0, gather_good (f := fun i => elemOf g c (lineOf xs (k / A) n 1 0) i d (lineOf ys 0 n A (k % A)) i) h0]; rfl
    · have e : gatherAns false [(n : Int)] (fun i => elemOf g c (lineOf xs (k / A) n 1 0) i d (lineOf ys 0 n A (k % A)) i) n = noAns (firstCode (innPair g c d xs ys n A k) n) := by unfold gatherAns; exact if_neg h0
      rw [if_neg h0, e, if_neg (show ¬ (noAns (firstCode (innPair g c d xs ys n A k) n)).code = 0 from h0)]; rfl

theorem elem_bd (op : Int) (c d : Bool) (xs ys : List Int) (i j : Nat) : -1000000000000000 ≤ (elemOf op c xs i d ys j).1 ∧ (elemOf op c xs i d ys j).1 ≤ 1000000000000000 := by
  unfold elemOf
  split
  · unfold truth; split <;> omega
  · exact two_bd _ _ _

theorem vals_bd {f : Nat → Int × Int} (h : ∀ k, -1000000000000000 ≤ (f k).1 ∧ (f k).1 ≤ 1000000000000000) (n k : Nat) : -1000000000000000 ≤ (vals f n).getD k 0 ∧ (vals f n).getD k 0 ≤ 1000000000000000 := by
  by_cases hk : k < n
  · have : (vals f n).getD k 0 = (f k).1 := by simp [vals, hk]
    rw [this]; exact h k
  · have e : (vals f n).getD k 0 = 0 := by simp [List.getD, List.getElem?_eq_none (by rw [vals_len]; omega : (vals f n).length ≤ k)]
    rw [e]; omega

theorem scalar2_bd {g : Int} {c d : Bool} {l1 l2 : List Int} {n : Nat} (hn : n ≤ 10000) (h1 : arrOk c [(n : Int)] l1 = true) (h2 : arrOk d [(n : Int)] l2 = true) (hg : opIn g = true) (e1 : l1.length = n) (e2 : l2.length = n) (k : Nat) :
    -1000000000000000 ≤ (scalar2 g c d [(n : Int)] l1 [(n : Int)] l2).dt.getD k 0 ∧ (scalar2 g c d [(n : Int)] l1 [(n : Int)] l2).dt.getD k 0 ≤ 1000000000000000 := by
  have hz : -1000000000000000 ≤ ([] : List Int).getD k 0 ∧ ([] : List Int).getD k 0 ≤ 1000000000000000 := by simp
  rw [scalar2_line hn h1 h2 hg e1 e2]
  by_cases hb : innBad g c d = true
  · rw [if_pos hb]; exact hz
  · rw [if_neg hb]
    unfold gatherAns
    split
    · exact vals_bd (fun k => elem_bd _ _ _ _ _ _ _) _ _
    · exact hz

end Go.Proofs.YtkgcmpmgaghdhaaGreatDoor
