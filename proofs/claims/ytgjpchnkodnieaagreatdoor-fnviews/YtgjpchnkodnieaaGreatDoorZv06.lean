import Derived.Test.YtgjpchnkodnieaaGreatDoorZv05
import Derived.Test.YtgjpchnkodnieaaGreatDoorZv00
import Derived.Test.YtgjpchnkodnieaaGreatDoorZv04
namespace Go.Proofs.YtgjpchnkodnieaaGreatDoor
structure PartD where
  all : Bool
  c : Bool
  sh : List Int
  dt : List Int
def partZ : PartD := ⟨false, false, [], []⟩
def pickDt (p : PartD) (L : Int) : List Int := if p.all = true then upTo L.toNat else p.dt
def pickSh (p : PartD) (L : Int) : List Int := if p.all = true then [L] else p.sh
def within (L v : Int) : Bool := decide (1 ≤ v ∧ v ≤ L)
abbrev nothing (p : PartD) : Prop := p.c = false ∧ p.sh = [] ∧ p.dt = []
def pickCode (p : PartD) (L : Int) : Int :=
  if p.all = true then (if nothing p then 0 else 3)
  else if arrOk p.c p.sh p.dt = true ∧ p.c = false then (if p.dt.all (within L) = true then 0 else 6) else 3
section
variable {p : PartD} {L : Int}
theorem pick_all0 (h : p.all = true) (hn : nothing p) : pickCode p L = 0 := by unfold pickCode; rw [if_pos h, if_pos hn]
theorem pick_all3 (h : p.all = true) (hn : ¬ nothing p) : pickCode p L = 3 := by unfold pickCode; rw [if_pos h, if_neg hn]
theorem pick_bad (h : p.all = false) (hn : ¬ (arrOk p.c p.sh p.dt = true ∧ p.c = false)) : pickCode p L = 3 := by unfold pickCode; rw [if_neg (by simp [h]), if_neg hn]
theorem pick_in (h : p.all = false) (h1 : arrOk p.c p.sh p.dt = true) (h2 : p.c = false) (h3 : p.dt.all (within L) = true) : pickCode p L = 0 := by unfold pickCode; rw [if_neg (by simp [h]), if_pos ⟨h1, h2⟩, if_pos h3]
theorem pick_out (h : p.all = false) (h1 : arrOk p.c p.sh p.dt = true) (h2 : p.c = false) (h3 : p.dt.all (within L) = false) : pickCode p L = 6 := by unfold pickCode; rw [if_neg (by simp [h]), if_pos ⟨h1, h2⟩, if_neg (by simp [h3])]
theorem pickDt_all (h : p.all = true) : pickDt p L = upTo L.toNat := by unfold pickDt; rw [if_pos h]
theorem pickDt_not (h : p.all = false) : pickDt p L = p.dt := by unfold pickDt; rw [if_neg (by simp [h])]
theorem pickSh_all (h : p.all = true) : pickSh p L = [L] := by unfold pickSh; rw [if_pos h]
theorem pickSh_not (h : p.all = false) : pickSh p L = p.sh := by unfold pickSh; rw [if_neg (by simp [h])]
theorem pick_ok (h : pickCode p L = 0) : p.all = true ∨ (p.all = false ∧ arrOk p.c p.sh p.dt = true ∧ p.c = false ∧ p.dt.all (within L) = true) := by
  unfold pickCode at h
  split at h
  · rename_i ha; exact .inl ha
  · rename_i ha
    split at h
    · rename_i h1
      split at h
      · rename_i h2; exact .inr ⟨by simpa using ha, h1.1, h1.2, h2⟩
      · omega
    · omega
theorem pick_bd (h : pickCode p L = 0) {k : Nat} (hk : k < (pickDt p L).length) : 1 ≤ (pickDt p L).getD k 0 ∧ (pickDt p L).getD k 0 ≤ L := by
  rcases pick_ok h with ha | ⟨ha, _, _, h4⟩
  · rw [pickDt_all ha] at hk ⊢
    rw [upTo_len] at hk
    rw [upTo_get hk]
    omega
  · rw [pickDt_not ha] at hk ⊢
    have := List.all_eq_true.1 h4 (p.dt.getD k 0) (by simp [hk])
    simpa [within] using this
theorem prodAll_oneP (x : Int) : prodAll [x] = x := by simp [prodAll]
theorem pick_count (h : pickCode p L = 0) (hL : 0 ≤ L) : ((pickDt p L).length : Int) = prodAll (pickSh p L) := by
  rcases pick_ok h with ha | ⟨ha, h2, _, h4⟩
  · rw [pickDt_all ha, pickSh_all ha, upTo_len, prodAll_oneP]; omega
  · rw [pickDt_not ha, pickSh_not ha, (shapeIn_of h2).2.1]
theorem shapeIn_one {x : Int} (h0 : 0 ≤ x) (h1 : x ≤ 10000) : ShapeIn [x] := by
  refine ⟨by simp [inCells, h0, h1], ?_⟩
  simp only [prodFrom]
  split
  · exact ⟨_, rfl⟩
  · rw [if_neg (by omega)]; exact ⟨_, rfl⟩
theorem pick_shape (h : pickCode p L = 0) (hL : 0 ≤ L) (hL2 : L ≤ 10000) : ShapeIn (pickSh p L) := by
  rcases pick_ok h with ha | ⟨ha, h2, _, h4⟩
  · rw [pickSh_all ha]; exact shapeIn_one hL hL2
  · rw [pickSh_not ha]; exact (shapeIn_of h2).1
theorem pick_few (h : pickCode p L = 0) (hL : 0 ≤ L) (hL2 : L ≤ 10000) : (pickDt p L).length ≤ 10000 := by
  have := (pick_shape h hL hL2).bd
  have := pick_count h hL
  omega
end
def part (ps : List PartD) (i : Nat) : PartD := ps.getD i partZ
def pcAt (sh : List Int) (ps : List PartD) (i : Nat) : Int × Int := (0, pickCode (part ps i) (sh.getD i 0))
def pDt (sh : List Int) (ps : List PartD) (i : Nat) : List Int := pickDt (part ps i) (sh.getD i 0)
def picksCode (sh : List Int) (ps : List PartD) : Int := if ps.length = sh.length then firstCode (pcAt sh ps) ps.length else 4
def pShN (sh : List Int) (ps : List PartD) (k : Nat) : List Int := (List.range k).flatMap fun i => pickSh (part ps i) (sh.getD i 0)
def pCnN (sh : List Int) (ps : List PartD) (k : Nat) : List Int := (List.range k).map fun (i : Nat) => ((pDt sh ps i).length : Int)
def pSh (sh : List Int) (ps : List PartD) : List Int := pShN sh ps ps.length
def pCn (sh : List Int) (ps : List PartD) : List Int := pCnN sh ps ps.length
theorem pShN_succ (sh : List Int) (ps : List PartD) (k : Nat) : pShN sh ps (k + 1) = pShN sh ps k ++ pickSh (part ps k) (sh.getD k 0) := by
  simp [pShN, List.range_succ]
theorem pCnN_succ (sh : List Int) (ps : List PartD) (k : Nat) : pCnN sh ps (k + 1) = pCnN sh ps k ++ [((pDt sh ps k).length : Int)] := by
  simp [pCnN, List.range_succ]
theorem pCnN_len (sh : List Int) (ps : List PartD) (k : Nat) : (pCnN sh ps k).length = k := by simp [pCnN]
theorem pCn_get (sh : List Int) (ps : List PartD) {i : Nat} (h : i < ps.length) : (pCn sh ps).getD i 0 = ((pDt sh ps i).length : Int) := by
  simp [pCn, pCnN, h]
def pNum (sh : List Int) (ps : List PartD) (D : List Int) (i : Nat) : Int := (pDt sh ps i).getD (D.getD i 0).toNat 0 - 1
def partsCode (sh : List Int) (ps : List PartD) : Int := if picksCode sh ps ≠ 0 then picksCode sh ps else if shapeB (pSh sh ps) = true then 0 else 7
def whereAt (sh : List Int) (ps : List PartD) (t : Nat) : Int := place sh (meant sh (pNum sh ps) (digits (pCn sh ps) t))
structure PicksOk (sh : List Int) (ps : List PartD) : Prop where
  len : ps.length = sh.length
  code : ∀ i, i < ps.length → pickCode (part ps i) (sh.getD i 0) = 0
theorem firstCode_all {f : Nat → Int × Int} {n : Nat} (h : firstCode f n = 0) : ∀ k, k < n → (f k).2 = 0 := by
  induction n with
  | zero => intro k hk; omega
  | succ n ih =>
    simp only [firstCode] at h
    split at h
    · rename_i h0
      intro k hk
      by_cases e : k = n
      · subst e; exact h
      · exact ih h0 k (by omega)
    · rename_i h0; exact absurd h h0
theorem picks_ok {sh : List Int} {ps : List PartD} (h : picksCode sh ps = 0) : PicksOk sh ps := by
  unfold picksCode at h
  split at h
  · rename_i hl; exact ⟨hl, fun i hi => firstCode_all h i hi⟩
  · omega
theorem parts_ok {sh : List Int} {ps : List PartD} (h : partsCode sh ps = 0) : PicksOk sh ps ∧ shapeB (pSh sh ps) = true := by
  unfold partsCode at h
  split at h
  · rename_i h0; exact absurd h h0
  · rename_i h0
    split at h
    · rename_i h1; exact ⟨picks_ok (by simpa using h0), h1⟩
    · omega
theorem prodFrom_nz {xs : List Int} {n m : Int} (hx : xs.all inCells = true) (h1 : 1 ≤ n) (h : prodFrom xs n = some m) : n ≤ m ∧ (0 ∉ xs → m = n * prodAll xs) := by
  induction xs generalizing n with
  | nil => simp [prodFrom] at h; subst h; simp [prodAll]
  | cons y r ih =>
    simp only [List.all_cons, Bool.and_eq_true] at hx
    have hy : 0 ≤ y ∧ y ≤ 10000 := by simpa [inCells] using hx.1
    simp only [prodFrom] at h
    have e : prodAll (y :: r) = y * prodAll r := by
      have := prodAll_append [y] r
      rw [prodAll_oneP] at this
      simpa using this
    split at h
    · rename_i h0
      refine ⟨(ih hx.2 h1 h).1, fun hn => absurd (by simp [h0]) hn⟩
    · split at h
      · simp at h
      · rename_i h0 hle
        have h2 : n * 1 ≤ n * y := Int.mul_le_mul_of_nonneg_left (by omega) (by omega)
        obtain ⟨h3, h4⟩ := ih hx.2 (by omega) h
        refine ⟨by omega, fun hn => ?_⟩
        rw [h4 (fun hh => hn (List.mem_cons_of_mem _ hh)), e, Int.mul_assoc]
theorem prodAll_zero {xs : List Int} (h : 0 ∈ xs) : prodAll xs = 0 := by
  obtain ⟨a, b, rfl⟩ := List.append_of_mem h
  rw [prodAll_append]
  have := prodAll_append [0] b
  rw [prodAll_oneP, Int.zero_mul] at this
  have e : prodAll (0 :: b) = 0 := by simpa using this
  rw [e, Int.mul_zero]
theorem counts_aux {sh : List Int} {ps : List PartD} (h : PicksOk sh ps) (hs : ShapeIn sh) (k : Nat) (hk : k ≤ ps.length) (m : Int) (hm : prodFrom (pShN sh ps k) 1 = some m) (ha : (pShN sh ps k).all inCells = true) :
    prodAll (pCnN sh ps k) = prodAll (pShN sh ps k) ∧ (pCnN sh ps k).all inCells = true ∧ ∃ m', prodFrom (pCnN sh ps k) 1 = some m' ∧ 1 ≤ m' ∧ m' ≤ m := by
  induction k generalizing m with
  | zero =>
    simp [pShN, prodFrom] at hm
    subst hm
    exact ⟨rfl, rfl, 1, rfl, by omega, by omega⟩
  | succ k ih =>
    rw [pShN_succ] at hm ha ⊢
    rw [pCnN_succ]
    rw [List.all_append, Bool.and_eq_true] at ha
    rw [prodFrom_append] at hm
    cases hp : prodFrom (pShN sh ps k) 1 with
    | none => rw [hp] at hm; simp at hm
    | some m1 =>
      rw [hp, Option.bind_some] at hm
      obtain ⟨e1, e2, m2, e3, e4, e5⟩ := ih (by omega) m1 hp ha.1
      have hc := h.code k (by omega)
      have hL := hs.cell k
      have hcnt : ((pDt sh ps k).length : Int) = prodAll (pickSh (part ps k) (sh.getD k 0)) := pick_count hc hL.1
      have hfew : (pDt sh ps k).length ≤ 10000 := pick_few hc hL.1 hL.2
      obtain ⟨h3, h4⟩ := prodFrom_nz ha.2 (by omega) hm
      have hmb := prodFrom_bd _ m1 m ha.2 (by omega) (prodFrom_bd _ 1 m1 ha.1 (by omega) (by omega) hp).2 hm
      refine ⟨by rw [prodAll_append, prodAll_append, prodAll_oneP, e1, hcnt], by rw [List.all_append, e2]; simp [inCells]; omega, ?_⟩
      rw [prodFrom_append, e3, Option.bind_some]
      simp only [prodFrom]
      by_cases h0 : ((pDt sh ps k).length : Int) = 0
      · rw [if_pos h0]; exact ⟨m2, rfl, e4, by omega⟩
      · rw [if_neg h0]
        have hz : 0 ∉ pickSh (part ps k) (sh.getD k 0) := fun hz => h0 (by rw [hcnt, prodAll_zero hz])
        have h5 := h4 hz
        rw [← hcnt] at h5
        have h6 : m2 * ((pDt sh ps k).length : Int) ≤ m1 * ((pDt sh ps k).length : Int) := Int.mul_le_mul_of_nonneg_right e5 (by omega)
        have h7 : 1 * 1 ≤ m2 * ((pDt sh ps k).length : Int) := Int.mul_le_mul e4 (by omega) (by omega) (by omega)
        rw [if_neg (by omega)]
        exact ⟨_, rfl, by omega, by omega⟩
theorem shapeIn_b {sh : List Int} (h : shapeB sh = true) : ShapeIn sh := by
  unfold shapeB at h
  simp only [Bool.and_eq_true, decide_eq_true_eq] at h
  have h2 := h.2
  unfold countOf at h2
  split at h2
  · rename_i ha
    split at h2
    · omega
    · rename_i m hm; exact ⟨ha, m, hm⟩
  · omega
theorem counts_in {sh : List Int} {ps : List PartD} (h : PicksOk sh ps) (hs : ShapeIn sh) (hb : shapeB (pSh sh ps) = true) : ShapeIn (pCn sh ps) ∧ prodAll (pCn sh ps) = prodAll (pSh sh ps) ∧ 0 ≤ prodAll (pSh sh ps) ∧ prodAll (pSh sh ps) ≤ 10000 := by
  have hi := shapeIn_b hb
  obtain ⟨ha, m, hm⟩ := hi
  obtain ⟨h1, h2, m', h3, _⟩ := counts_aux h hs ps.length (Nat.le_refl _) m hm ha
  exact ⟨⟨h2, m', h3⟩, h1, (shapeIn_b hb).bd⟩
theorem pCn_len (sh : List Int) (ps : List PartD) : (pCn sh ps).length = ps.length := pCnN_len _ _ _
theorem num_in {sh : List Int} {ps : List PartD} (h : PicksOk sh ps) {D : List Int} (hD : IxIn (pCn sh ps) D) {i : Nat} (hi : i < sh.length) : 0 ≤ D.getD i 0 ∧ (D.getD i 0).toNat < (pDt sh ps i).length ∧ 0 ≤ pNum sh ps D i ∧ pNum sh ps D i < sh.getD i 0 := by
  have hl := h.len
  have h1 := hD i (by rw [pCn_len]; omega)
  rw [pCn_get sh ps (by omega)] at h1
  have h2 : (D.getD i 0).toNat < (pDt sh ps i).length := by omega
  have h3 := pick_bd (h.code i (by omega)) h2
  have h4 : (pickDt (part ps i) (sh.getD i 0)).getD (D.getD i 0).toNat 0 = (pDt sh ps i).getD (D.getD i 0).toNat 0 := rfl
  rw [h4] at h3
  unfold pNum
  exact ⟨h1.1, h2, by omega, by omega⟩
theorem meant_in {sh : List Int} {ps : List PartD} (h : PicksOk sh ps) {D : List Int} (hD : IxIn (pCn sh ps) D) : IxIn sh (meant sh (pNum sh ps) D) := fun i hi => by
  rw [meant_get _ _ _ _ hi]; exact (num_in h hD hi).2.2
theorem where_bd {sh : List Int} {ps : List PartD} (h : PicksOk sh ps) (hs : ShapeIn sh) (hb : shapeB (pSh sh ps) = true) {t : Nat} (ht : (t : Int) < prodAll (pSh sh ps)) : IxIn (pCn sh ps) (digits (pCn sh ps) t) ∧ 0 ≤ whereAt sh ps t ∧ whereAt sh ps t < prodAll sh := by
  obtain ⟨h1, h2, h3, h4⟩ := counts_in h hs hb
  have hD : IxIn (pCn sh ps) (digits (pCn sh ps) t) := digits_in (full_of h1 (by omega)) _
  exact ⟨hD, place_bd (meant_in h hD)⟩
def pickedAt (dt sh : List Int) (ps : List PartD) (t : Nat) : Int × Int := (dt.getD (whereAt sh ps t).toNat 0, 0)
def indexA (c : Bool) (sh dt : List Int) (ps : List PartD) : Ans :=
  if arrOk c sh dt = true then
    if partsCode sh ps ≠ 0 then noAns (partsCode sh ps) else ⟨c, pSh sh ps, vals (pickedAt dt sh ps) (prodAll (pSh sh ps)).toNat, 0⟩
  else noAns 3
section
variable {c : Bool} {sh dt : List Int} {ps : List PartD}
theorem index_bad (h : arrOk c sh dt = false) : indexA c sh dt ps = noAns 3 := by unfold indexA; rw [if_neg (by simp [h])]
theorem index_code (h : arrOk c sh dt = true) (r : Int) (h2 : partsCode sh ps = r) (hr : r ≠ 0) : indexA c sh dt ps = noAns r := by unfold indexA; rw [if_pos h, h2, if_pos hr]
theorem index_go (h : arrOk c sh dt = true) (h2 : partsCode sh ps = 0) (N : Nat) (hN : prodAll (pSh sh ps) = N) : indexA c sh dt ps = ⟨c, pSh sh ps, vals (pickedAt dt sh ps) N, 0⟩ := by unfold indexA; rw [if_pos h, h2, if_neg (by simp), hN]; simp
end
theorem gather_picked {c : Bool} {sh dt : List Int} {ps : List PartD} (h : PicksOk sh ps) (hs : ShapeIn sh) (hb : shapeB (pSh sh ps) = true) {t : Nat} (ht : (t : Int) < prodAll (pSh sh ps)) : gatherAt c sh dt (pNum sh ps) (pCn sh ps) t = pickedAt dt sh ps t := by
  have hD := (where_bd h hs hb ht).1
  have hM := meant_in h hD
  have hin : insideN sh (meant sh (pNum sh ps) (digits (pCn sh ps) t)) sh.length = true := by
    have key : ∀ k, k ≤ sh.length → insideN sh (meant sh (pNum sh ps) (digits (pCn sh ps) t)) k = true := by
      intro k
      induction k with
      | zero => intro _; rfl
      | succ k ih => intro hk; exact inside_step (ih (by omega)) (hM k (by omega)).1 (hM k (by omega)).2
    exact key _ (Nat.le_refl _)
  unfold gatherAt pickedAt whereAt
  rw [if_pos hin]
end Go.Proofs.YtgjpchnkodnieaaGreatDoor
namespace Go.Proofs.YtgjpchnkodnieaaGreatDoor
theorem prodAll_cons (x : Int) (l : List Int) : prodAll (x :: l) = x * prodAll l := by
  have e : x :: l = [x] ++ l := rfl
  rw [e, prodAll_append]
  simp [prodAll]
theorem prodAll_perm {l1 l2 : List Int} (h : l1.Perm l2) : prodAll l1 = prodAll l2 := by
  induction h with
  | nil => rfl
  | cons x _ ih => rw [prodAll_cons, prodAll_cons, ih]
  | swap x y l => rw [prodAll_cons, prodAll_cons, prodAll_cons, prodAll_cons, Int.mul_left_comm]
  | trans _ _ h1 h2 => exact h1.trans h2
def big : List Int → Int
  | [] => 1
  | x :: r => if x = 0 then big r else x * big r
theorem big_pos {l : List Int} (h : l.all inCells = true) : 1 ≤ big l := by
  induction l with
  | nil => simp [big]
  | cons x r ih =>
    simp only [List.all_cons, Bool.and_eq_true] at h
    have hx : 0 ≤ x ∧ x ≤ 10000 := by simpa [inCells] using h.1
    have := ih h.2
    unfold big
    split
    · exact this
    · have h1 : 1 * 1 ≤ x * big r := Int.mul_le_mul (by omega) this (by omega) (by omega)
      omega
theorem big_perm {l1 l2 : List Int} (h : l1.Perm l2) : big l1 = big l2 := by
  induction h with
  | nil => rfl
  | cons x _ ih => simp only [big, ih]
  | swap x y l =>
    simp only [big]
    by_cases hx : x = 0
    · by_cases hy : y = 0
      · simp [hx, hy]
      · simp [hx, hy]
    · by_cases hy : y = 0
      · simp [hx, hy]
      · simp [hx, hy, Int.mul_left_comm]
  | trans _ _ h1 h2 => exact h1.trans h2
theorem prodFrom_big (l : List Int) (h : l.all inCells = true) (n : Int) (h1 : 1 ≤ n) (h2 : n ≤ 10000) : (∃ m, prodFrom l n = some m) ↔ n * big l ≤ 10000 := by
  induction l generalizing n with
  | nil => simp [prodFrom, big, h2]
  | cons x r ih =>
    simp only [List.all_cons, Bool.and_eq_true] at h
    have hx : 0 ≤ x ∧ x ≤ 10000 := by simpa [inCells] using h.1
    have hb := big_pos h.2
    simp only [prodFrom, big]
    by_cases h0 : x = 0
    · rw [if_pos h0, if_pos h0]; exact ih h.2 n h1 h2
    · rw [if_neg h0, if_neg h0, ← Int.mul_assoc]
      have hnx : 1 * 1 ≤ n * x := Int.mul_le_mul h1 (by omega) (by omega) (by omega)
      split
      · rename_i hbig
        constructor
        · rintro ⟨m, hm⟩; cases hm
        · intro hle
          have : n * x * 1 ≤ n * x * big r := Int.mul_le_mul_of_nonneg_left hb (by omega)
          omega
      · rename_i hbig
        exact ih h.2 (n * x) (by omega) (by omega)
theorem shapeIn_perm {l1 l2 : List Int} (h : l1.Perm l2) (hs : ShapeIn l1) : ShapeIn l2 := by
  have ha : l2.all inCells = true := by
    rw [List.all_eq_true]
    exact fun x hx => List.all_eq_true.1 hs.1 x (h.mem_iff.2 hx)
  have := (prodFrom_big l1 hs.1 1 (by omega) (by omega)).1 hs.2
  rw [big_perm h] at this
  exact ⟨ha, (prodFrom_big l2 ha 1 (by omega) (by omega)).2 this⟩
theorem order_perm {dt : List Int} {r : Nat} (h : orderOk dt r r = true) (hl : dt.length = r) : ((List.range r).map (axNo dt)).Perm (List.range r) := by
  have hat := inTurn_at (order_sorted h hl)
  have hsl : (sortedI dt).length = r := by rw [sortedI_len, hl]
  have e1 : (sortedI dt).map (fun x => (x - 1).toNat) = List.range r := by
    apply List.ext_getElem
    · simp [hsl]
    · intro i h1 h2
      have hi : i < r := by simpa using h2
      have := hat i hi
      rw [getD_eq _ i (by omega)] at this
      simp [this]
  have e2 : dt.map (fun x => (x - 1).toNat) = (List.range r).map (axNo dt) := by
    apply List.ext_getElem
    · simp [hl]
    · intro i h1 h2
      have hi : i < dt.length := by simpa using h1
      simp [axNo, hi]
  rw [← e2, ← e1]
  exact ((sortedI_perm dt).map _).symm
theorem turn_perm {dt sh : List Int} {r : Nat} (h : orderOk dt r r = true) (hl : dt.length = r) (hs : sh.length = r) : (turnN dt sh r r).Perm sh := by
  have e1 : sh = ((List.range r).map (axNo dt)).map (fun k => (turnN dt sh r r).getD k 0) := by
    apply List.ext_getElem
    · simp [hs]
    · intro i h1 h2
      have := (turned (sh := sh) h i (by omega)).1
      rw [getD_eq sh i h1] at this
      simp only [List.getElem_map, List.getElem_range]
      exact this.symm
  have e2 : turnN dt sh r r = (List.range r).map (fun k => (turnN dt sh r r).getD k 0) := by
    apply List.ext_getElem
    · simp [turnN_len]
    · intro i h1 h2
      rw [List.getElem_map, List.getElem_range, getD_eq _ i h1]
  have hp := ((order_perm h hl).map (fun k => (turnN dt sh r r).getD k 0)).symm
  rw [← e1, ← e2] at hp
  exact hp
def transF (dt D : List Int) (i : Nat) : Int := D.getD (axNo dt i) 0
end Go.Proofs.YtgjpchnkodnieaaGreatDoor
namespace Go.Proofs.YtgjpchnkodnieaaGreatDoor
theorem wholeSt_get (sh : List Int) {k : Nat} (hk : k < sh.length) : (wholeSt sh).getD k 0 = tailProd (sh.drop (k + 1)) := by simp [wholeSt, hk]
theorem place_far_aux {sh : List Int} (hf : Full sh) (ix : List Int) (k : Nat) (hk : k ≤ sh.length) : placeN sh ix k * tailProd (sh.drop k) = farN ix (wholeSt sh) k := by
  induction k with
  | zero => simp [placeN, farN]
  | succ k ih =>
    have h1 := hf k (by omega)
    have h2 := ih (by omega)
    show (placeN sh ix k * sh.getD k 0 + ix.getD k 0) * tailProd (sh.drop (k + 1)) = farN ix (wholeSt sh) k + ix.getD k 0 * (wholeSt sh).getD k 0
    rw [← h2, wholeSt_get sh (by omega), Int.add_mul, tailProd_step sh (i := k) (by omega), if_pos h1, Int.mul_assoc, Int.mul_comm (sh.getD k 0)]
theorem place_far {sh : List Int} (hf : Full sh) (ix : List Int) : farN ix (wholeSt sh) sh.length = place sh ix := by
  have := place_far_aux hf ix sh.length (Nat.le_refl _)
  rw [List.drop_length] at this
  rw [← this]
  show _ * 1 = _
  rw [Int.mul_one]; rfl
def stepN (sh st : List Int) : Nat → Int
  | 0 => 0
  | k + 1 => if 1 < sh.getD k 0 then st.getD k 0 else stepN sh st k
def Lined (sh st : List Int) (d : Int) : Prop := ∀ k, k < sh.length → sh.getD k 0 ≠ 1 → st.getD k 0 = d * tailProd (sh.drop (k + 1))
theorem far_lined {sh st ix : List Int} {d : Int} (hl : Lined sh st d) (hi : IxIn sh ix) (k : Nat) (hk : k ≤ sh.length) : farN ix st k = d * farN ix (wholeSt sh) k := by
  induction k with
  | zero => simp [farN]
  | succ k ih =>
    show farN ix st k + ix.getD k 0 * st.getD k 0 = d * (farN ix (wholeSt sh) k + ix.getD k 0 * (wholeSt sh).getD k 0)
    rw [ih (by omega), Int.mul_add, wholeSt_get sh (by omega)]
    congr 1
    obtain ⟨h1, h2⟩ := hi k (by omega)
    by_cases hn : sh.getD k 0 = 1
    · have : ix.getD k 0 = 0 := by omega
      rw [this]; simp
    · rw [hl k (by omega) hn, Int.mul_left_comm]
theorem placeOf_lined {off d : Int} {sh st : List Int} (hf : Full sh) (hl : Lined sh st d) {k : Nat} (hk : (k : Int) < prodAll sh) : placeOf off sh st k = off + d * k := by
  unfold placeOf
  rw [far_lined hl (digits_in hf _) _ (Nat.le_refl _), place_far hf, place_digits hf (by omega) hk]
def unitIx (n j : Nat) : List Int := (List.range n).map fun i => if i = j then 1 else 0
theorem unitIx_get {n j k : Nat} (hk : k < n) : (unitIx n j).getD k 0 = if k = j then 1 else 0 := by simp [unitIx, hk]
theorem unitIx_in {sh : List Int} (hf : Full sh) {j : Nat} (hj : j < sh.length) (h1 : sh.getD j 0 ≠ 1) : IxIn sh (unitIx sh.length j) := by
  intro k hk
  have := hf k hk
  rw [unitIx_get hk]
  by_cases e : k = j
  · subst e
    rw [if_pos rfl]; omega
  · rw [if_neg e]; omega
theorem far_unit {st : List Int} {n j : Nat} (hj : j < n) (k : Nat) (hk : k ≤ n) : farN (unitIx n j) st k = if j < k then st.getD j 0 else 0 := by
  induction k with
  | zero => simp [farN]
  | succ k ih =>
    show farN (unitIx n j) st k + (unitIx n j).getD k 0 * st.getD k 0 = _
    rw [ih (by omega), unitIx_get (by omega)]
    by_cases e : k = j
    · subst e; simp
    · rw [if_neg e]
      by_cases h : j < k
      · rw [if_pos h, if_pos (by omega)]; simp
      · rw [if_neg h, if_neg (by omega)]; simp
theorem tailProd_ones {sh : List Int} (h : ∀ x ∈ sh, x = 1) : tailProd sh = 1 := by
  induction sh with
  | nil => rfl
  | cons x r ih =>
    have hx := h x (by simp)
    subst hx
    rw [tailProd, if_pos (by omega), ih (fun y hy => h y (by simp [hy]))]; rfl
theorem stepN_at {sh st : List Int} (hf : Full sh) (k : Nat) (hk : k ≤ sh.length) : (∃ j, j < k ∧ 1 < sh.getD j 0 ∧ (∀ i, j < i → i < k → sh.getD i 0 = 1) ∧ stepN sh st k = st.getD j 0) ∨ (∀ i, i < k → sh.getD i 0 = 1) := by
  induction k with
  | zero => exact .inr fun i hi => absurd hi (Nat.not_lt_zero _)
  | succ k ih =>
    have h1 := hf k (by omega)
    by_cases hn : 1 < sh.getD k 0
    · exact .inl ⟨k, by omega, hn, fun i h2 h3 => by omega, by show (if _ then _ else _) = _; rw [if_pos hn]⟩
    · have e : stepN sh st (k + 1) = stepN sh st k := by show (if _ then _ else _) = _; rw [if_neg hn]
      rcases ih (by omega) with ⟨j, hj, h2, h3, h4⟩ | h
      · refine .inl ⟨j, by omega, h2, fun i hi hik => ?_, by rw [e]; exact h4⟩
        by_cases hik' : i = k
        · subst hik'; omega
        · exact h3 i hi (by omega)
      · refine .inr fun i hi => ?_
        by_cases hik' : i = k
        · subst hik'; omega
        · exact h i (by omega)
theorem ones_prod {sh : List Int} (h : ∀ i, i < sh.length → sh.getD i 0 = 1) : ∀ x ∈ sh, x = 1 := by
  intro x hx
  obtain ⟨i, hi, rfl⟩ := List.getElem_of_mem hx
  have := h i hi
  simpa [List.getD, hi] using this
theorem prodAll_tail {sh : List Int} (hf : Full sh) : prodAll sh = tailProd sh := by
  have h := place_far_aux hf
  have aux : ∀ k, k ≤ sh.length → prodAll (sh.take k) * tailProd (sh.drop k) = tailProd sh := by
    intro k
    induction k with
    | zero => intro _; simp [prodAll]
    | succ k ih =>
      intro hk
      rw [← ih (by omega), prodAll_snoc sh k (by omega), tailProd_step sh (i := k) (by omega), if_pos (hf k (by omega)), Int.mul_assoc, Int.mul_comm (sh.getD k 0)]
  have := aux sh.length (Nat.le_refl _)
  rw [List.take_length, List.drop_length] at this
  rw [← this]
  show _ = _ * 1
  rw [Int.mul_one]
theorem line_lined {off : Int} {sh st : List Int} (hs : shapeB sh = true) (h2 : 2 ≤ countOf sh) (hl : Lined sh st (stepN sh st sh.length)) : lineL (placesOf off sh st) = (stepN sh st sh.length, true) := by
  have hpc := prodAll_count sh hs
  have hf : Full sh := full_of (shapeB_in hs).1 (by omega)
  obtain ⟨N, hN⟩ : ∃ N : Nat, countOf sh = (N : Int) := ⟨(countOf sh).toNat, by omega⟩
  have hlen : (placesOf off sh st).length = N := by simp [placesOf, hN]
  have hget : ∀ k, k < N → (placesOf off sh st).getD k 0 = off + stepN sh st sh.length * k := fun k hk => by
    rw [← placeOf_lined hf hl (by omega : (k : Int) < prodAll sh)]
    simp [placesOf, hN, hk]
  rw [lineL_yes (by omega) (fun i h0 hi => by
    rw [hget i (by omega), hget (i - 1) (by omega), hget 1 (by omega), hget 0 (by omega), show ((i - 1 : Nat) : Int) = (i : Int) - 1 by omega, Int.mul_sub]
    simp
    omega), hget 1 (by omega), hget 0 (by omega)]
  simp
  omega
theorem line_not {off : Int} {sh st : List Int} (hs : shapeB sh = true) (h2 : 2 ≤ countOf sh) (hl : ¬ Lined sh st (stepN sh st sh.length)) : lineL (placesOf off sh st) = (0, false) := by
  have hpc := prodAll_count sh hs
  have hf : Full sh := full_of (shapeB_in hs).1 (by omega)
  obtain ⟨N, hN⟩ : ∃ N : Nat, countOf sh = (N : Int) := ⟨(countOf sh).toNat, by omega⟩
  have hlen : (placesOf off sh st).length = N := by simp [placesOf, hN]
  have hget : ∀ k, k < N → (placesOf off sh st).getD k 0 = placeOf off sh st k := fun k hk => by simp [placesOf, hN, hk]
  unfold lineL
  rw [if_neg (by omega)]
  by_cases hb : lineB (placesOf off sh st) = true
  · exfalso
    apply hl
    obtain ⟨D, hD⟩ : ∃ D, placeOf off sh st 1 - placeOf off sh st 0 = D := ⟨_, rfl⟩
    have hstep : ∀ k, k < N → placeOf off sh st k = placeOf off sh st 0 + D * k := by
      intro k
      induction k with
      | zero => intro _; simp
      | succ k ih =>
        intro hk
        unfold lineB at hb
        rw [List.all_eq_true] at hb
        have := of_decide_eq_true (hb (k + 1) (by simp; omega))
        rcases this with h | h
        · omega
        · rw [hget (k + 1) hk, show k + 1 - 1 = k by omega, hget k (by omega), hget 1 (by omega), hget 0 (by omega), hD, ih (by omega)] at h
          rw [show ((k + 1 : Nat) : Int) = (k : Int) + 1 by omega, Int.mul_add]
          omega
    have h0 : placeOf off sh st 0 = off := by
      have hz : IxIn sh (List.replicate sh.length 0) := fun k hk => by
        have := hf k hk
        simp [hk]; simpa [hk] using this
      have e : ∀ (t : List Int) k, farN (List.replicate sh.length 0) t k = 0 := by
        intro t k
        induction k with
        | zero => rfl
        | succ k ih =>
          show farN _ t k + _ * _ = 0
          have e2 : (List.replicate sh.length (0 : Int)).getD k 0 = 0 := by
            by_cases hk : k < sh.length
            · simp [hk]
            · have h9 : (List.replicate sh.length (0 : Int)).length ≤ k := by simp; omega
              simp [List.getD, List.getElem?_eq_none h9]
          rw [ih, e2]
          simp
      have hp : place sh (List.replicate sh.length 0) = 0 := by rw [← place_far hf, e]
      have := far_place hz st
      rw [hp, e] at this
      unfold placeOf
      rw [show ((0 : Nat) : Int) = 0 from rfl, this]; omega
    have hunit : ∀ j, j < sh.length → sh.getD j 0 ≠ 1 → st.getD j 0 = D * tailProd (sh.drop (j + 1)) := by
      intro j hj hj1
      have hu := unitIx_in hf hj hj1
      obtain ⟨b0, b1⟩ := place_bd hu
      have e1 : place sh (unitIx sh.length j) = tailProd (sh.drop (j + 1)) := by rw [← place_far hf, far_unit hj _ (Nat.le_refl _), if_pos hj, wholeSt_get sh hj]
      have := hstep (place sh (unitIx sh.length j)).toNat (by omega)
      unfold placeOf at this h0
      rw [show (((place sh (unitIx sh.length j)).toNat : Nat) : Int) = place sh (unitIx sh.length j) by omega, far_place hu, far_unit hj _ (Nat.le_refl _), if_pos hj, h0, e1] at this
      omega
    have hd : stepN sh st sh.length = D := by
      rcases stepN_at (st := st) hf sh.length (Nat.le_refl _) with ⟨j, hj, h1, h3, h4⟩ | h
      · rw [h4, hunit j hj (by omega), tailProd_ones, Int.mul_one]
        intro x hx
        obtain ⟨i, hi, rfl⟩ := List.getElem_of_mem hx
        rw [List.length_drop] at hi
        have := h3 (j + 1 + i) (by omega) (by omega)
        simpa [List.getD, show j + 1 + i < sh.length by omega] using this
      · have := tailProd_ones (ones_prod h)
        rw [← prodAll_tail hf] at this
        omega
    rw [hd]
    exact hunit
  · rw [if_neg hb]
end Go.Proofs.YtgjpchnkodnieaaGreatDoor
