import Derived.Test.YtinndpnilmmmjaaGreatDoorMTree
import Derived.Test.YtinndpnilmmmjaaGreatDoorMBase
import Derived.Deep.AppendLies
import Derived.Laws.AppendOwnNone
namespace Go.Proofs.YtinndpnilmmmjaaGreatDoor
open Go

/-- One piece more: a word behind a word has a blank ahead. -/
def sayP (st : (List UInt8 × Bool)) (s : List UInt8) (wd : Bool) : (List UInt8 × Bool) := (st.1 ++ ((if wd && st.2 then [32] else []) ++ s), wd)

/-- How pieces look: signs, primitives, numbers, texts. -/
structure Looks where
  sg : Nat → List UInt8
  prim : Int → List UInt8
  num : Int → List UInt8
  txt : ByteArray → List UInt8

section
variable (L : Looks) (ns : List NodeD)

def sayS (st : (List UInt8 × Bool)) (c : Nat) : (List UInt8 × Bool) := sayP st (L.sg c) false

/-- Nodes with a sign between them. -/
def listP (g : Nat → (List UInt8 × Bool) → (List UInt8 × Bool)) (c : Nat) (kids : List Int) : Nat → (List UInt8 × Bool) → (List UInt8 × Bool)
  | 0, st => st
  | k + 1, st => g (kids.getD k 0).toNat (if 0 < k then sayS L (listP g c kids k st) c else listP g c kids k st)

def operP (g : Nat → (List UInt8 × Bool) → (List UInt8 × Bool)) (i : Nat) (st : (List UInt8 × Bool)) : (List UInt8 × Bool) :=
  if (node ns i).k = 9 ∨ (node ns i).k = 10 then sayS L (g i (sayS L st 40)) 41 else g i st

/-- An sfn ahead of a replication. -/
def takesR (f b : Nat) : Bool := primB (node ns f) 1 16 && (decide ((node ns b).k = 9) && primB (node ns (kidN (node ns b) 0)) 29 30)

def applP (g : Nat → (List UInt8 × Bool) → (List UInt8 × Bool)) (f b : Nat) (st : (List UInt8 × Bool)) : (List UInt8 × Bool) :=
  if takesR ns f b = true then sayS L (g b (sayS L (g f st) 40)) 41 else g b (g f st)

def numsP : List Int → (List UInt8 × Bool) → (List UInt8 × Bool)
  | [], st => st
  | z :: r, st => numsP r (sayP st (L.num z) true)

/-- What a node's text is, its kids written by g. -/
def nodeP (g : Nat → (List UInt8 × Bool) → (List UInt8 × Bool)) (x : NodeD) (st : (List UInt8 × Bool)) : (List UInt8 × Bool) :=
  if x.k = 1 then numsP L x.nums st
  else if x.k = 2 then sayP st (L.txt x.s) false
  else if x.k = 3 ∨ x.k = 17 then sayP st x.s.data.toList true
  else if x.k = 4 then sayS L st 9082
  else if x.k = 5 then sayS L st 9077
  else if x.k = 6 then sayS L st 9068
  else if x.k = 7 then sayS L (listP L g 59 (x.kids.drop 1) (x.kids.length - 1) (sayS L (operP L ns g (kidN x 0) st) 91)) 93
  else if x.k = 9 then applP L ns g (kidN x 0) (kidN x 1) st
  else if x.k = 10 then applP L ns g (kidN x 1) (kidN x 2) (operP L ns g (kidN x 0) st)
  else if x.k = 11 then sayP st (L.prim x.n) false
  else if x.k = 12 then sayS L (sayP st (L.prim x.n) false) (if x.m = 0 then 47 else 9023)
  else if x.k = 13 then sayS L (sayP st (L.prim x.n) false) (if x.m = 0 then 92 else 9024)
  else if x.k = 14 then sayP (sayS L (sayS L st 8728) 46) (L.prim x.n) false
  else if x.k = 15 then sayP (sayS L (sayP st (L.prim x.n) false) 46) (L.prim x.m) false
  else if x.k = 16 then sayS L (listP L g 8900 x.kids x.kids.length (sayS L st 123)) 125
  else if x.k = 18 then sayS L st 8711
  else if x.k = 19 ∨ x.k = 20 then g (kidN x (x.kids.length - 1)) (sayS L (sayP st x.s.data.toList true) 8592)
  else if x.k = 21 then g (kidN x (x.kids.length - 1)) (sayS L (sayS L (listP L g 59 (x.kids.take (x.kids.length - 1)) (x.kids.length - 1) (sayS L (sayP st x.s.data.toList true) 91)) 93) 8592)
  else if x.k = 22 then g (kidN x (x.kids.length - 1)) (sayS L (sayP (sayP st x.s.data.toList true) (L.prim x.n) false) 8592)
  else if x.k = 23 then g (kidN x (x.kids.length - 1)) (sayS L (sayS L (g (kidN x 0) (sayS L st 40)) 41) 8592)
  else if x.k = 24 then listP L g 58 x.kids x.kids.length st
  else if x.k = 25 then listP L g 8900 x.kids x.kids.length st
  else st

/-- What a node is written as. -/
def prP : Nat → Nat → (List UInt8 × Bool) → (List UInt8 × Bool)
  | 0, _, st => st
  | f + 1, i, st => nodeP L ns (prP f) (node ns i) st

end
end Go.Proofs.YtinndpnilmmmjaaGreatDoor
namespace Go.Proofs.YtinndpnilmmmjaaGreatDoor
open Go

/-- How much longer the text grows. -/
def lenP (st : List UInt8 × Bool) : Nat := st.1.length

theorem say_len (st : List UInt8 × Bool) (s : List UInt8) (wd : Bool) : lenP st ≤ lenP (sayP st s wd) ∧ lenP (sayP st s wd) ≤ lenP st + 1 + s.length := by
  unfold lenP sayP
  simp only [List.length_append]
  split <;> simp only [List.length_cons, List.length_nil] <;> omega

/-- The looks are short. -/
structure Short (L : Looks) (ns : List NodeD) : Prop where
  sg : ∀ c, (L.sg c).length ≤ 4
  prim : ∀ n, (L.prim n).length ≤ 4
  num : ∀ z, (L.num z).length ≤ 40
  txt : ∀ i, i < ns.length → (L.txt (node ns i).s).length ≤ 4194304
  s : ∀ i, i < ns.length → (node ns i).s.size ≤ 1048576
  nums : ∀ i, i < ns.length → (node ns i).nums.length ≤ 1048576
  kids : ∀ i, i < ns.length → (node ns i).kids.length ≤ 1048576

section
variable {L : Looks} {ns : List NodeD}

theorem sayS_len (hs : Short L ns) (st : List UInt8 × Bool) (c : Nat) : lenP st ≤ lenP (sayS L st c) ∧ lenP (sayS L st c) ≤ lenP st + 5 := by
  have := say_len st (L.sg c) false
  have := hs.sg c
  unfold sayS
  omega

theorem list_len (hs : Short L ns) (g : Nat → List UInt8 × Bool → List UInt8 × Bool) (W : Nat → Nat) (c : Nat) (kids : List Int) (hg : ∀ q, q < kids.length → ∀ st, lenP st ≤ lenP (g (kids.getD q 0).toNat st) ∧ lenP (g (kids.getD q 0).toNat st) ≤ lenP st + W (kids.getD q 0).toNat) :
    ∀ k, k ≤ kids.length → ∀ st, lenP st ≤ lenP (listP L g c kids k st) ∧ lenP (listP L g c kids k st) ≤ lenP st + 5 * k + ((List.range k).map fun q => W (kids.getD q 0).toNat).sum
  | 0, _, st => by simp [listP]
  | k + 1, hk, st => by
    have ih := list_len hs g W c kids hg k (by omega) st
    have h1 := sayS_len hs (listP L g c kids k st) c
    rw [listP, List.range_succ, List.map_append, List.sum_append]
    simp only [List.map_cons, List.map_nil, List.sum_cons, List.sum_nil]
    by_cases h0 : 0 < k
    · rw [if_pos h0]
      have h2 := hg k (by omega) (sayS L (listP L g c kids k st) c)
      omega
    · rw [if_neg h0]
      have h2 := hg k (by omega) (listP L g c kids k st)
      omega

theorem nums_len (hs : Short L ns) : ∀ (zs : List Int) (st : List UInt8 × Bool), lenP st ≤ lenP (numsP L zs st) ∧ lenP (numsP L zs st) ≤ lenP st + 41 * zs.length
  | [], st => by simp [numsP]
  | z :: r, st => by
    have h1 := say_len st (L.num z) true
    have h2 := nums_len hs r (sayP st (L.num z) true)
    have h3 := hs.num z
    rw [numsP, List.length_cons]
    omega

end

/-- The stretches of kids add up. -/
theorem goK_sum {st : List (Nat × Nat)} {kids : List Int} (hst : ∀ j, j < st.length → (st.getD j (0, 0)).1 ≤ j) : ∀ (k a hi : Nat) (r : Nat × Nat), a ≤ st.length → goK st kids k a hi = some r →
    ((List.range k).map fun q => (kids.getD q 0).toNat + 1 - (st.getD (kids.getD q 0).toNat (0, 0)).1).sum = a - r.1
  | 0, a, hi, r, ha, h => by rw [goK] at h; cases h; simp
  | k + 1, a, hi, r, ha, h => by
    rw [goK] at h
    by_cases hc : 1 ≤ a ∧ kids.getD k 0 = (a : Int) - 1
    · rw [if_pos hc] at h
      have hle := hst (a - 1) (by omega)
      have ih := goK_sum hst k _ _ r (by omega) h
      have h1 := (goK_all hst k _ _ r (by omega) h).1
      rw [List.range_succ, List.map_append, List.sum_append, ih]
      have e : (kids.getD k 0).toNat = a - 1 := by omega
      simp only [List.map_cons, List.map_nil, List.sum_cons, List.sum_nil, e]
      omega
    · rw [if_neg hc] at h; cases h

end Go.Proofs.YtinndpnilmmmjaaGreatDoor
namespace Go.Proofs.YtinndpnilmmmjaaGreatDoor
open Go

section
variable {L : Looks} {ns : List NodeD}

/-- What the kids together may add. -/
def sumW (W : Nat → Nat) (kids : List Int) (k : Nat) : Nat := ((List.range k).map fun q => W (kids.getD q 0).toNat).sum

theorem sumW_succ (W : Nat → Nat) (kids : List Int) (k : Nat) : sumW W kids (k + 1) = sumW W kids k + W (kids.getD k 0).toNat := by
  unfold sumW
  rw [List.range_succ, List.map_append, List.sum_append]
  simp

theorem sumW_drop (W : Nat → Nat) (kids : List Int) : ∀ k, sumW W (kids.drop 1) k + W (kids.getD 0 0).toNat = sumW W kids (k + 1)
  | 0 => by rw [sumW_succ]; simp [sumW]
  | k + 1 => by
    have ih := sumW_drop W kids k
    rw [sumW_succ, sumW_succ W kids (k + 1)]
    have e : (kids.drop 1).getD k 0 = kids.getD (k + 1) 0 := by simp [List.getD_eq_getElem?_getD]
    rw [e]
    omega

theorem sumW_take (W : Nat → Nat) (kids : List Int) (m : Nat) : ∀ k, k ≤ m → sumW W (kids.take m) k = sumW W kids k
  | 0, _ => rfl
  | k + 1, h => by
    rw [sumW_succ, sumW_succ, sumW_take W kids m k (by omega)]
    have e : (kids.take m).getD k 0 = kids.getD k 0 := by simp [List.getD_eq_getElem?_getD, show k < m by omega]
    rw [e]

theorem oper_len (hs : Short L ns) (g : Nat → List UInt8 × Bool → List UInt8 × Bool) (i w : Nat) (hg : ∀ st, lenP st ≤ lenP (g i st) ∧ lenP (g i st) ≤ lenP st + w) (st : List UInt8 × Bool) : lenP st ≤ lenP (operP L ns g i st) ∧ lenP (operP L ns g i st) ≤ lenP st + w + 10 := by
  unfold operP
  split
  · have h1 := sayS_len hs st 40
    have h2 := hg (sayS L st 40)
    have h3 := sayS_len hs (g i (sayS L st 40)) 41
    omega
  · have := hg st; omega

theorem appl_len (hs : Short L ns) (g : Nat → List UInt8 × Bool → List UInt8 × Bool) (f b wf wb : Nat) (hf : ∀ st, lenP st ≤ lenP (g f st) ∧ lenP (g f st) ≤ lenP st + wf) (hb : ∀ st, lenP st ≤ lenP (g b st) ∧ lenP (g b st) ≤ lenP st + wb) (st : List UInt8 × Bool) : lenP st ≤ lenP (applP L ns g f b st) ∧ lenP (applP L ns g f b st) ≤ lenP st + wf + wb + 10 := by
  unfold applP
  have h0 := hf st
  split
  · have h1 := sayS_len hs (g f st) 40
    have h2 := hb (sayS L (g f st) 40)
    have h3 := sayS_len hs (g b (sayS L (g f st) 40)) 41
    omega
  · have := hb (g f st); omega

theorem node_len (hs : Short L ns) (g : Nat → List UInt8 × Bool → List UInt8 × Bool) (W : Nat → Nat) {i : Nat} (hi : i < ns.length) (hk : kidsB (node ns i).k (kinds ns (node ns i).kids) = true)
    (hg : ∀ q, q < (node ns i).kids.length → ∀ st, lenP st ≤ lenP (g (kidN (node ns i) q) st) ∧ lenP (g (kidN (node ns i) q) st) ≤ lenP st + W (kidN (node ns i) q)) (st : List UInt8 × Bool) :
    lenP st ≤ lenP (nodeP L ns g (node ns i) st) ∧ lenP (nodeP L ns g (node ns i) st) ≤ lenP st + 60000000 + sumW W (node ns i).kids (node ns i).kids.length := by
  have h1 := hs.nums i hi
  have h2 := hs.txt i hi
  have h3 := hs.s i hi
  have h4 := hs.kids i hi
  have h5 : (node ns i).s.data.toList.length ≤ 1048576 := by rw [← Lib.size_eq]; exact h3
  have hsp := hs.prim (node ns i).n
  have hsm := hs.prim (node ns i).m
  obtain ⟨x, hx⟩ : ∃ x, node ns i = x := ⟨_, rfl⟩
  rw [hx] at h1 h2 h4 h5 hk hg hsp hsm ⊢
  have hkl : (kinds ns x.kids).length = x.kids.length := kinds_len _ _
  have SG := fun st c => sayS_len hs st c
  have SN := fun st => say_len st x.s.data.toList true
  have SP := fun st => say_len st (L.prim x.n) false
  have SM := fun st => say_len st (L.prim x.m) false
  unfold nodeP
  by_cases e1 : x.k = 1
  · rw [if_pos e1]; have := nums_len hs x.nums st; omega
  rw [if_neg e1]
  by_cases e2 : x.k = 2
  · rw [if_pos e2]; have := say_len st (L.txt x.s) false; omega
  rw [if_neg e2]
  by_cases e3 : x.k = 3 ∨ x.k = 17
  · rw [if_pos e3]; have := SN st; omega
  rw [if_neg e3]
  by_cases e4 : x.k = 4
  · rw [if_pos e4]; have := SG st 9082; omega
  rw [if_neg e4]
  by_cases e5 : x.k = 5
  · rw [if_pos e5]; have := SG st 9077; omega
  rw [if_neg e5]
  by_cases e6 : x.k = 6
  · rw [if_pos e6]; have := SG st 9068; omega
  rw [if_neg e6]
  by_cases e7 : x.k = 7
  · rw [if_pos e7]
    unfold kidsB at hk
    rw [if_pos e7, Bool.and_eq_true, decide_eq_true_eq] at hk
    have a0 := oper_len hs g (kidN x 0) (W (kidN x 0)) (hg 0 (by omega)) st
    obtain ⟨s0, hs0⟩ : ∃ s, operP L ns g (kidN x 0) st = s := ⟨_, rfl⟩
    rw [hs0] at a0 ⊢
    have a1 := SG s0 91
    obtain ⟨s1, hs1⟩ : ∃ s, sayS L s0 91 = s := ⟨_, rfl⟩
    rw [hs1] at a1 ⊢
    have a2 := list_len hs g W 59 (x.kids.drop 1) (fun q hq => by
      have := hg (q + 1) (by simp at hq; omega)
      have e : (x.kids.drop 1).getD q 0 = x.kids.getD (q + 1) 0 := by simp [List.getD_eq_getElem?_getD]
      rw [e]
      exact this) (x.kids.length - 1) (by simp) s1
    obtain ⟨s2, hs2⟩ : ∃ s, listP L g 59 (x.kids.drop 1) (x.kids.length - 1) s1 = s := ⟨_, rfl⟩
    rw [hs2] at a2 ⊢
    have a3 := SG s2 93
    have a4 := sumW_drop W x.kids (x.kids.length - 1)
    rw [show x.kids.length - 1 + 1 = x.kids.length by omega] at a4
    unfold sumW at a4 ⊢
    unfold kidN at a0
    omega
  rw [if_neg e7]
  by_cases e9 : x.k = 9
  · rw [if_pos e9]
    rw [e9] at hk
    have h' : fits [102, 101] (kinds ns x.kids) = true := hk
    rw [kfit2, Bool.and_eq_true, decide_eq_true_eq] at h'
    have hl : x.kids.length = 2 := by omega
    have a0 := appl_len hs g (kidN x 0) (kidN x 1) _ _ (hg 0 (by omega)) (hg 1 (by omega)) st
    rw [hl, sumW_succ, sumW_succ]
    unfold kidN at a0 ⊢
    omega
  rw [if_neg e9]
  by_cases e10 : x.k = 10
  · rw [if_pos e10]
    rw [e10] at hk
    have h' : fits [101, 102, 101] (kinds ns x.kids) = true := hk
    rw [kfit3, Bool.and_eq_true, decide_eq_true_eq] at h'
    have hl : x.kids.length = 3 := by omega
    have a0 := oper_len hs g (kidN x 0) _ (hg 0 (by omega)) st
    have a1 := appl_len hs g (kidN x 1) (kidN x 2) _ _ (hg 1 (by omega)) (hg 2 (by omega)) (operP L ns g (kidN x 0) st)
    rw [hl, sumW_succ, sumW_succ, sumW_succ]
    unfold kidN at a0 a1 ⊢
    omega
  rw [if_neg e10]
  by_cases e11 : x.k = 11
  · rw [if_pos e11]; have := SP st; omega
  rw [if_neg e11]
  by_cases e12 : x.k = 12
  · rw [if_pos e12]; have := SP st; have := SG (sayP st (L.prim x.n) false) (if x.m = 0 then 47 else 9023); omega
  rw [if_neg e12]
  by_cases e13 : x.k = 13
  · rw [if_pos e13]; have := SP st; have := SG (sayP st (L.prim x.n) false) (if x.m = 0 then 92 else 9024); omega
  rw [if_neg e13]
  by_cases e14 : x.k = 14
  · rw [if_pos e14]; have := SG st 8728; have := SG (sayS L st 8728) 46; have := SP (sayS L (sayS L st 8728) 46); omega
  rw [if_neg e14]
  by_cases e15 : x.k = 15
  · rw [if_pos e15]; have := SP st; have := SG (sayP st (L.prim x.n) false) 46; have := SM (sayS L (sayP st (L.prim x.n) false) 46); omega
  rw [if_neg e15]
  by_cases e16 : x.k = 16
  · rw [if_pos e16]
    have a0 := SG st 123
    have a1 := list_len hs g W 8900 x.kids (fun q hq => hg q hq) x.kids.length (Nat.le_refl _) (sayS L st 123)
    have a2 := SG (listP L g 8900 x.kids x.kids.length (sayS L st 123)) 125
    unfold sumW
    omega
  rw [if_neg e16]
  by_cases e18 : x.k = 18
  · rw [if_pos e18]; have := SG st 8711; omega
  rw [if_neg e18]
  by_cases e19 : x.k = 19 ∨ x.k = 20
  · rw [if_pos e19]
    have hl : x.kids.length = 1 := by
      rcases e19 with e | e
      · rw [e] at hk
        have h' : fits [101] (kinds ns x.kids) = true := hk
        rw [kfit1, Bool.and_eq_true, decide_eq_true_eq] at h'
        omega
      · rw [e] at hk
        have h' : fits [98] (kinds ns x.kids) = true := hk
        rw [kfit1, Bool.and_eq_true, decide_eq_true_eq] at h'
        omega
    have a0 := SN st
    have a1 := SG (sayP st x.s.data.toList true) 8592
    have a2 := hg 0 (by omega) (sayS L (sayP st x.s.data.toList true) 8592)
    rw [hl, show (1 : Nat) - 1 = 0 from rfl, sumW_succ]
    unfold kidN at a2 ⊢
    omega
  rw [if_neg e19]
  by_cases e21 : x.k = 21
  · rw [if_pos e21]
    rw [e21] at hk
    unfold kidsB at hk
    rw [if_neg (by decide), if_pos rfl, Bool.and_eq_true, decide_eq_true_eq] at hk
    obtain ⟨m, hm⟩ : ∃ m, x.kids.length = m + 1 := ⟨x.kids.length - 1, by omega⟩
    have hm1 : x.kids.length - 1 = m := by omega
    rw [hm1]
    have a0 := SN st
    obtain ⟨s0, hs0⟩ : ∃ s, sayP st x.s.data.toList true = s := ⟨_, rfl⟩
    rw [hs0] at a0 ⊢
    have a1 := SG s0 91
    obtain ⟨s1, hs1⟩ : ∃ s, sayS L s0 91 = s := ⟨_, rfl⟩
    rw [hs1] at a1 ⊢
    have a2 := list_len hs g W 59 (x.kids.take m) (fun q hq => by
      have hq' : q < m := by simp at hq; omega
      have := hg q (by omega)
      have e : (x.kids.take m).getD q 0 = x.kids.getD q 0 := by simp [List.getD_eq_getElem?_getD, hq']
      rw [e]
      exact this) m (by simp; omega) s1
    obtain ⟨s2, hs2⟩ : ∃ s, listP L g 59 (x.kids.take m) m s1 = s := ⟨_, rfl⟩
    rw [hs2] at a2 ⊢
    have a3 := SG s2 93
    have a4 := SG (sayS L s2 93) 8592
    have a5 := hg m (by omega) (sayS L (sayS L s2 93) 8592)
    have a6 := sumW_take W x.kids m m (Nat.le_refl _)
    have a7 := sumW_succ W x.kids m
    rw [hm, a7]
    unfold sumW at a6 ⊢
    unfold kidN at a5 ⊢
    omega
  rw [if_neg e21]
  by_cases e22 : x.k = 22
  · rw [if_pos e22]
    rw [e22] at hk
    have h' : fits [101] (kinds ns x.kids) = true := hk
    rw [kfit1, Bool.and_eq_true, decide_eq_true_eq] at h'
    have hl : x.kids.length = 1 := by omega
    have a0 := SN st
    have a1 := SP (sayP st x.s.data.toList true)
    have a2 := SG (sayP (sayP st x.s.data.toList true) (L.prim x.n) false) 8592
    have a3 := hg 0 (by omega) (sayS L (sayP (sayP st x.s.data.toList true) (L.prim x.n) false) 8592)
    rw [hl, show (1 : Nat) - 1 = 0 from rfl, sumW_succ]
    unfold kidN at a3 ⊢
    omega
  rw [if_neg e22]
  by_cases e23 : x.k = 23
  · rw [if_pos e23]
    rw [e23] at hk
    have h' : fits [101, 101] (kinds ns x.kids) = true := hk
    rw [kfit2, Bool.and_eq_true, decide_eq_true_eq] at h'
    have hl : x.kids.length = 2 := by omega
    have a0 := SG st 40
    have a1 := hg 0 (by omega) (sayS L st 40)
    have a2 := SG (g (kidN x 0) (sayS L st 40)) 41
    have a3 := SG (sayS L (g (kidN x 0) (sayS L st 40)) 41) 8592
    have a4 := hg 1 (by omega) (sayS L (sayS L (g (kidN x 0) (sayS L st 40)) 41) 8592)
    rw [hl, show (2 : Nat) - 1 = 1 from rfl, sumW_succ, sumW_succ]
    unfold kidN at a1 a2 a3 a4 ⊢
    omega
  rw [if_neg e23]
  by_cases e24 : x.k = 24
  · rw [if_pos e24]
    have a1 := list_len hs g W 58 x.kids (fun q hq => hg q hq) x.kids.length (Nat.le_refl _) st
    unfold sumW
    omega
  rw [if_neg e24]
  by_cases e25 : x.k = 25
  · rw [if_pos e25]
    have a1 := list_len hs g W 8900 x.kids (fun q hq => hg q hq) x.kids.length (Nat.le_refl _) st
    unfold sumW
    omega
  rw [if_neg e25]
  omega

/-- A tree's text is not long. -/
theorem pr_len (hs : Short L ns) {st0 : List (Nat × Nat)} (ho : ordN ns ns.length = some st0) (hk : ∀ i, i < ns.length → kidsB (node ns i).k (kinds ns (node ns i).kids) = true) :
    ∀ (f i : Nat), i < f → i < ns.length → ∀ st, lenP st ≤ lenP (prP L ns f i st) ∧ lenP (prP L ns f i st) ≤ lenP st + 60000000 * (i + 1 - (st0.getD i (0, 0)).1)
  | 0, i, h, _, _ => absurd h (Nat.not_lt_zero _)
  | f + 1, i, h, hi, st => by
    rw [prP]
    have hkz := ord_kids ho hi
    have hl := ord_len ho
    have hle := ord_le _ ho
    have hn := node_len hs (prP L ns f) (fun j => 60000000 * (j + 1 - (st0.getD j (0, 0)).1)) hi (hk i hi) (fun q hq st' => by
      have := hkz q hq
      exact pr_len hs ho hk f (kidN (node ns i) q) (by unfold kidN; omega) (by unfold kidN; omega) st') st
    have hsum := goK_sum (st := st0.take i) (kids := (node ns i).kids) (fun j hj => by
      have hj' : j < i := by simp at hj; omega
      rw [show (st0.take i).getD j (0, 0) = st0.getD j (0, 0) by simp [List.getD_eq_getElem?_getD, hj']]
      exact hle j (by omega)) _ _ _ _ (by simp; omega) (ord_at ho hi)
    have hb := hle i hi
    have e : sumW (fun j => 60000000 * (j + 1 - (st0.getD j (0, 0)).1)) (node ns i).kids (node ns i).kids.length = 60000000 * (i - (st0.getD i (0, 0)).1) := by
      rw [← hsum]
      have key : ∀ k, k ≤ (node ns i).kids.length → sumW (fun j => 60000000 * (j + 1 - (st0.getD j (0, 0)).1)) (node ns i).kids k = 60000000 * ((List.range k).map fun q => ((node ns i).kids.getD q 0).toNat + 1 - ((st0.take i).getD ((node ns i).kids.getD q 0).toNat (0, 0)).1).sum := by
        intro k
        induction k with
        | zero => intro _; rfl
        | succ k ih =>
          intro hk'
          rw [sumW_succ, ih (by omega), List.range_succ, List.map_append, List.sum_append]
          have hz := hkz k (by omega)
          have e' : (st0.take i).getD ((node ns i).kids.getD k 0).toNat (0, 0) = st0.getD ((node ns i).kids.getD k 0).toNat (0, 0) := by
            simp only [List.getD_eq_getElem?_getD, List.getElem?_take]
            rw [if_pos (by rw [← List.getD_eq_getElem?_getD]; omega)]
          simp only [List.map_cons, List.map_nil, List.sum_cons, List.sum_nil, e']
          omega
      exact key _ (Nat.le_refl _)
    omega

end
end Go.Proofs.YtinndpnilmmmjaaGreatDoor
namespace Go.Proofs.YtinndpnilmmmjaaGreatDoor
open Go.RowKit

section
variable {P : Program} (w : World)

/-- append of whatever number of elements to a slice that is there. -/
theorem run_append_some (t ty : TypeId) (base : Nat) (e : TypeId) (i : TypeInfo) (z : Value) (size bytes : Nat) (ht : P.underlying t = some (.slice e)) (hi : P.info? e = some i) (hz : i.zero = some z)
    (hsize : i.size = size) (hby : i.bytes = bytes) (hzs : z.cells.size = size) (hsz : 0 < size)
    (g0 n cap0 : Nat) (xs : List Value) (hown : w.ownsRow base e size (.slice (some ⟨g0, 0, none⟩) n cap0) n xs)
    (ad : Addr) (m c : Nat) (news : List Value) (hl : news.length = m * size) (hnews : ∀ j u, news[j]? = some u → w.cell? (ad.add j) = some u) (h1 : ∀ u ∈ news, u.oneCell' = true)
    (h63 : n + m ≤ maxLen) (hbytes : (n + m) * bytes ≤ 140737488355328) (hbase : base ≤ w.heap.size) :
    ∃ g cap w', (Builtin.append_ #[t, t] ty #[.slice (some ⟨g0, 0, none⟩) n cap0, .slice (some ad) m c]).run P w = .ok (.slice (some ⟨g, 0, none⟩) (n + m) cap) w' ∧
      w'.ownsRow base e size (.slice (some ⟨g, 0, none⟩) (n + m) cap) (n + m) (xs ++ news) ∧ w.grownBy w' (some g0) ∧ (g = g0 ∨ g = w.heap.size) := by
  obtain ⟨v', w', hr, h2, h3, h4, h5⟩ := run_append_own_at (P := P) w base t ty e i z size bytes ht hi hz hsize hby hzs hsz _ n xs hown ad m c news hl hnews h1 h63 hbytes hbase
  have hf : ∃ g cap, v' = .slice (some ⟨g, 0, none⟩) (n + m) cap := by
    rcases h2.2 with ⟨e0, e1⟩ | ⟨g, cap, cur, hv, _⟩
    · exact absurd (h4.1 e0).1 (by simp)
    · exact ⟨g, cap, hv⟩
  obtain ⟨g, cap, rfl⟩ := hf
  refine ⟨g, cap, w', hr, h2, h3, ?_⟩
  rcases h5 with h5 | h5
  · left; simpa [Value.ownBlock] using h5
  · right; simpa [Value.ownBlock] using h5

theorem wp_append_some {o : Oper} {a : Act} {K : Act → World → Prop} {Q : Exit → Act → World → Prop} (s x : Operand) (t : TypeId)
    (ho : o.op = .call { callee := .builtin .append, args := #[s, x], argTypes := #[t, t] })
    (base : Nat) (e : TypeId) (i : TypeInfo) (z : Value) (size bytes : Nat) (ht : P.underlying t = some (.slice e)) (hi : P.info? e = some i) (hz : i.zero = some z)
    (hsize : i.size = size) (hby : i.bytes = bytes) (hzs : z.cells.size = size) (hsz : 0 < size)
    (g0 n cap0 : Nat) (xs : List Value) (hs : a.eval s = .slice (some ⟨g0, 0, none⟩) n cap0) (hown : w.ownsRow base e size (.slice (some ⟨g0, 0, none⟩) n cap0) n xs)
    (ad : Addr) (m c : Nat) (news : List Value) (hx : a.eval x = .slice (some ad) m c) (hl : news.length = m * size) (hnews : ∀ j u, news[j]? = some u → w.cell? (ad.add j) = some u) (h1 : ∀ u ∈ news, u.oneCell' = true)
    (h63 : n + m ≤ maxLen) (hbytes : (n + m) * bytes ≤ 140737488355328) (hbase : base ≤ w.heap.size)
    (h : ∀ g cap w', w'.ownsRow base e size (.slice (some ⟨g, 0, none⟩) (n + m) cap) (n + m) (xs ++ news) → w.grownBy w' (some g0) → (g = g0 ∨ g = w.heap.size) → K (a.put o.dst (.slice (some ⟨g, 0, none⟩) (n + m) cap)) w') : o.wp P a w K Q := by
  obtain ⟨g, cap, w', hr, h2, h3, h4⟩ := run_append_some (P := P) w t o.type base e i z size bytes ht hi hz hsize hby hzs hsz g0 n cap0 xs hown ad m c news hl hnews h1 h63 hbytes hbase
  unfold Oper.wp execOp
  simp only [ho, resolve, invoke, builtin, Sem.run_bind, Sem.run_pure, Result.andThen_ok, List.map_toArray, List.map_cons, List.map_nil, hs, hx, hr]
  exact h g cap w' h2 h3 h4

end

theorem wpList_append_some {P : Program} {w : World} {ops : Array Oper} {rest : List Oper} {o : Oper} {a : Act} {Q : Exit → Act → World → Prop} (hgd : o.guard = none) (s x : Operand) (t : TypeId)
    (ho : o.op = .call { callee := .builtin .append, args := #[s, x], argTypes := #[t, t] })
    (base : Nat) (e : TypeId) (i : TypeInfo) (z : Value) (size bytes : Nat) (ht : P.underlying t = some (.slice e)) (hi : P.info? e = some i) (hz : i.zero = some z)
    (hsize : i.size = size) (hby : i.bytes = bytes) (hzs : z.cells.size = size) (hsz : 0 < size)
    (g0 n cap0 : Nat) (xs : List Value) (hs : a.eval s = .slice (some ⟨g0, 0, none⟩) n cap0) (hown : w.ownsRow base e size (.slice (some ⟨g0, 0, none⟩) n cap0) n xs)
    (ad : Addr) (m c : Nat) (news : List Value) (hx : a.eval x = .slice (some ad) m c) (hl : news.length = m * size) (hnews : ∀ j u, news[j]? = some u → w.cell? (ad.add j) = some u) (h1 : ∀ u ∈ news, u.oneCell' = true)
    (h63 : n + m ≤ maxLen) (hbytes : (n + m) * bytes ≤ 140737488355328) (hbase : base ≤ w.heap.size)
    (h : ∀ g cap w', w'.ownsRow base e size (.slice (some ⟨g, 0, none⟩) (n + m) cap) (n + m) (xs ++ news) → w.grownBy w' (some g0) → (g = g0 ∨ g = w.heap.size) → wpList P ops Q rest (a.put o.dst (.slice (some ⟨g, 0, none⟩) (n + m) cap)) w') : wpList P ops Q (o :: rest) a w :=
  wpList_plain hgd fun _ hK => wp_append_some w s x t ho base e i z size bytes ht hi hz hsize hby hzs hsz g0 n cap0 xs hs hown ad m c news hx hl hnews h1 h63 hbytes hbase fun g cap w' h2 h3 h4 => hK _ _ (h g cap w' h2 h3 h4)

end Go.Proofs.YtinndpnilmmmjaaGreatDoor
