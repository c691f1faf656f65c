import Derived.Test.YtmgjicgojlkpcaaGreatDoorTreeMath3
namespace Go.Proofs.YtmgjicgojlkpcaaGreatDoor
open Go

/-- What the parsers see of a line's tokens: the class of each (0 none, 1 a number, 2 a text, 3 a low name, 4 a high name, else the sign's character), its number, its text. -/
structure Seen where
  cl : Nat → Nat
  nv : Nat → Int
  sv : Nat → ByteArray
  len : Nat

/-- Nodes whose kids are counted from b on. -/
def shiftN (b : Nat) (l : List NodeD) : List NodeD := l.map fun x => { x with kids := x.kids.map (· + (b : Int)) }

/-- Trees one behind another. -/
def rowT : List (List NodeD) → List NodeD
  | [] => []
  | l :: ls => l ++ shiftN l.length (rowT ls)

/-- The places of their roots. -/
def rootsT : List (List NodeD) → List Int
  | [] => []
  | l :: ls => ((l.length : Int) - 1) :: (rootsT ls).map (· + (l.length : Int))

/-- A node over trees. -/
def treeN (k n m : Int) (s : ByteArray) (nums : List Int) (ls : List (List NodeD)) : List NodeD := rowT ls ++ [⟨k, n, m, s, nums, rootsT ls⟩]

def nilS : ByteArray := ⟨#[]⟩
def leafN (k n m : Int) : List NodeD := treeN k n m nilS [] []
def leafS (k : Int) (s : ByteArray) : List NodeD := treeN k 0 0 s [] []

/-- The primitives' signs by their characters, in their order. -/
def primsC : List Nat := [43, 45, 215, 247, 8970, 8968, 124, 42, 61, 8800, 60, 8804, 8805, 62, 8743, 8744, 126, 9076, 9075, 44, 9021, 8854, 9033, 8593, 8595, 9035, 9042, 8714, 47, 9023, 8869, 8868, 8802]

def primNo (c : Nat) : Nat := if c ∈ primsC then primsC.idxOf c + 1 else 0
def scalNo (c : Nat) : Nat := if primNo c ≤ 16 then primNo c else 0

/-- A function begins with it. -/
def fnC (c : Nat) : Bool := decide (0 < primNo c ∨ c = 4 ∨ c = 8728 ∨ c = 123 ∨ c = 8711)

/-- How reading ends: all is well or not, the place, the trees. -/
abbrev Res : Type := Bool × Nat × List (List NodeD)

def okR (q : Nat) (l : List (List NodeD)) : Option Res := some (true, q, l)
def badR (q : Nat) : Option Res := some (false, q, [])

def bindR (x : Option Res) (k : Nat → List (List NodeD) → Option Res) : Option Res :=
  match x with
  | none => none
  | some (false, q, _) => badR q
  | some (true, q, l) => k q l

def rootK (l : List NodeD) : Int := (l.getLast?.getD nodeZ).k

section
variable (X : Seen)

/-- The numbers from a place on. -/
def numsTo : Nat → Nat → List Int
  | 0, _ => []
  | f + 1, i => if X.cl i = 1 then X.nv i :: numsTo f (i + 1) else []

/-- Whether an assignment's sign stands behind the brackets that open at place i: d are open. -/
def closeAt : Nat → Nat → Nat → Option Nat
  | 0, _, _ => none
  | f + 1, i, d =>
    if i < X.len then
      let d' := if X.cl i = 91 then d + 1 else if X.cl i = 93 then d - 1 else d
      if d' = 0 then some i else closeAt f (i + 1) d'
    else none

def asgnB (i : Nat) : Bool := match closeAt X (X.len + 1) i 0 with
  | some q => decide (X.cl (q + 1) = 8592)
  | none => false

section
variable (R : Nat → Nat → List NodeD → Option Res)

def restS (q : Nat) (a : List NodeD) : Option Res :=
  if fnC (X.cl q) = true then bindR (R 3 q []) fun q2 g => bindR (R 0 q2 []) fun q3 b => okR q3 [treeN 10 0 0 nilS [] (a :: (g ++ b))]
  else okR q [a]

def fromS (q : Nat) (a : List NodeD) : Option Res := bindR (R 1 q a) fun q2 l => restS X R q2 (l.headD [])

def atomS (i : Nat) : Option Res :=
  if X.cl i = 1 then okR (i + (numsTo X (X.len + 1) i).length) [treeN 1 0 0 nilS (numsTo X (X.len + 1) i) []]
  else if X.cl i = 40 then bindR (R 0 (i + 1) []) fun q l => if X.cl q = 41 then okR (q + 1) l else badR q
  else if X.cl i = 2 then okR (i + 1) [leafS 2 (X.sv i)]
  else if X.cl i = 3 then okR (i + 1) [leafS 3 (X.sv i)]
  else if X.cl i = 9082 then okR (i + 1) [leafN 4 0 0]
  else if X.cl i = 9077 then okR (i + 1) [leafN 5 0 0]
  else if X.cl i = 9068 then okR (i + 1) [leafN 6 0 0]
  else badR i

def exprS (i : Nat) : Option Res :=
  if fnC (X.cl i) = true then bindR (R 3 i []) fun q g => bindR (R 0 q []) fun q2 b => okR q2 [treeN 9 0 0 nilS [] (g ++ b)]
  else bindR (atomS X R i) fun q l => fromS X R q (l.headD [])

def idxS (i : Nat) (a : List NodeD) : Option Res :=
  if X.cl i = 91 then bindR (R 2 (i + 1) []) fun q l => if X.cl q = 93 then R 1 (q + 1) (treeN 7 0 0 nilS [] (a :: l)) else badR q
  else okR i [a]

def partsS (i : Nat) : Option Res :=
  bindR (if X.cl i = 59 ∨ X.cl i = 93 then okR i [leafN 8 0 0] else R 0 i []) fun q l =>
    if X.cl q = 59 then bindR (R 2 (q + 1) []) fun q2 l2 => okR q2 (l ++ l2) else okR q l

def scalS (i : Nat) (n : Nat) : Option Res :=
  if X.cl i = 47 then okR (i + 1) [leafN 12 (n : Nat) 0]
  else if X.cl i = 9023 then okR (i + 1) [leafN 12 (n : Nat) 1]
  else if X.cl i = 92 then okR (i + 1) [leafN 13 (n : Nat) 0]
  else if X.cl i = 9024 then okR (i + 1) [leafN 13 (n : Nat) 1]
  else if X.cl i = 46 then (if 0 < scalNo (X.cl (i + 1)) then okR (i + 2) [leafN 15 (n : Nat) (scalNo (X.cl (i + 1)) : Nat)] else badR (i + 1))
  else okR i [leafN 11 (n : Nat) 0]

def bracesS (i : Nat) : Option Res :=
  if X.cl (i + 1) = 125 then okR (i + 2) [leafN 16 0 0]
  else bindR (R 4 (i + 1) []) fun q l => if X.cl q = 125 then okR (q + 1) [treeN 16 0 0 nilS [] l] else badR q

def fnS (i : Nat) : Option Res :=
  if 0 < scalNo (X.cl i) then scalS X (i + 1) (scalNo (X.cl i))
  else if X.cl i = 8728 then (if X.cl (i + 1) = 46 then (if 0 < scalNo (X.cl (i + 2)) then okR (i + 3) [leafN 14 (scalNo (X.cl (i + 2)) : Nat) 0] else badR (i + 2)) else badR (i + 1))
  else if X.cl i = 123 then bracesS X R i
  else if X.cl i = 4 then okR (i + 1) [leafS 17 (X.sv i)]
  else if X.cl i = 8711 then okR (i + 1) [leafN 18 0 0]
  else if 0 < primNo (X.cl i) then okR (i + 1) [leafN 11 (primNo (X.cl i) : Nat) 0]
  else badR i

def itemsS (i : Nat) : Option Res := bindR (R 6 i []) fun q l => if X.cl q = 8900 then bindR (R 4 (q + 1) []) fun q2 l2 => okR q2 (l ++ l2) else okR q l

def itemS (i : Nat) : Option Res :=
  bindR (R 5 i []) fun q l => if isE (rootK (l.headD [])) = true ∧ X.cl q = 58 then bindR (R 0 (q + 1) []) fun q2 b => okR q2 [treeN 24 0 0 nilS [] (l ++ b)] else okR q l

def stmtsS (i : Nat) : Option Res := bindR (R 5 i []) fun q l => if X.cl q = 8900 then bindR (R 7 (q + 1) []) fun q2 l2 => okR q2 (l ++ l2) else okR q l

def endS (k n : Int) (s : ByteArray) (ls : List (List NodeD)) (i : Nat) : Option Res := bindR (R 0 i []) fun q b => okR q [treeN k n 0 s [] (ls ++ b)]

/-- A tree by itself: its root selects. -/
def selT (l : List NodeD) : Bool := selB l (l.length - 1)

def stmtS (i : Nat) : Option Res :=
  if X.cl i = 4 ∧ X.cl (i + 1) = 8592 then (if X.cl (i + 2) = 123 then bindR (bracesS X R (i + 2)) fun q l => okR q [treeN 20 0 0 (X.sv i) [] l] else badR (i + 2))
  else if X.cl i = 3 ∧ X.cl (i + 1) = 8592 then endS R 19 0 (X.sv i) [] (i + 2)
  else if X.cl i = 3 ∧ 0 < scalNo (X.cl (i + 1)) ∧ X.cl (i + 2) = 8592 then endS R 22 (scalNo (X.cl (i + 1)) : Nat) (X.sv i) [] (i + 3)
  else if X.cl i = 3 ∧ X.cl (i + 1) = 91 ∧ asgnB X (i + 1) = true then
    bindR (R 2 (i + 2) []) fun q l => if X.cl q = 93 then (if X.cl (q + 1) = 8592 then endS R 21 0 (X.sv i) l (q + 2) else badR (q + 1)) else badR q
  else if X.cl i = 40 then
    bindR (R 0 (i + 1) []) fun q l => if X.cl q = 41 then (if X.cl (q + 1) = 8592 then (if selT (l.headD []) = true then endS R 23 0 nilS l (q + 2) else badR (q + 1)) else fromS X R (q + 1) (l.headD [])) else badR q
  else R 0 i []

end

/-- The grammar: 0 an expr, 1 parts behind a tree, 2 parts, 3 a function, 4 items, 5 a stmt, 6 an item, 7 stmts. -/
def prs : Nat → Nat → Nat → List NodeD → Option Res
  | 0, _, _, _ => none
  | f + 1, m, i, a =>
    if m = 0 then exprS X (prs f) i
    else if m = 1 then idxS X (prs f) i a
    else if m = 2 then partsS X (prs f) i
    else if m = 3 then fnS X (prs f) i
    else if m = 4 then itemsS X (prs f) i
    else if m = 5 then stmtS X (prs f) i
    else if m = 6 then itemS X (prs f) i
    else stmtsS X (prs f) i

end

/-- More fuel changes nothing. -/
def Leq (x y : Option Res) : Prop := ∀ r, x = some r → y = some r

theorem Leq.refl (x : Option Res) : Leq x x := fun _ h => h
theorem Leq.none (y : Option Res) : Leq none y := fun _ h => by cases h

theorem Leq.bind {x y : Option Res} {k k' : Nat → List (List NodeD) → Option Res} (h : Leq x y) (hk : ∀ q l, Leq (k q l) (k' q l)) : Leq (bindR x k) (bindR y k') := by
  cases x with
  | none => exact Leq.none _
  | some r =>
    rw [h r rfl]
    obtain ⟨b, q, l⟩ := r
    cases b with
    | false => exact Leq.refl _
    | true => exact hk q l

section
variable {X : Seen} {R R' : Nat → Nat → List NodeD → Option Res}

theorem Leq.ite {c : Prop} [Decidable c] {x y x' y' : Option Res} (h1 : Leq x x') (h2 : Leq y y') : Leq (if c then x else y) (if c then x' else y') := by
  split
  · exact h1
  · exact h2

theorem rest_leq (h : ∀ m i a, Leq (R m i a) (R' m i a)) (q : Nat) (a : List NodeD) : Leq (restS X R q a) (restS X R' q a) :=
  Leq.ite (Leq.bind (h _ _ _) fun _ _ => Leq.bind (h _ _ _) fun _ _ => Leq.refl _) (Leq.refl _)
theorem from_leq (h : ∀ m i a, Leq (R m i a) (R' m i a)) (q : Nat) (a : List NodeD) : Leq (fromS X R q a) (fromS X R' q a) := Leq.bind (h _ _ _) fun _ _ => rest_leq h _ _
theorem atom_leq (h : ∀ m i a, Leq (R m i a) (R' m i a)) (i : Nat) : Leq (atomS X R i) (atomS X R' i) :=
  Leq.ite (Leq.refl _) (Leq.ite (Leq.bind (h _ _ _) fun _ _ => Leq.refl _) (Leq.refl _))
theorem expr_leq (h : ∀ m i a, Leq (R m i a) (R' m i a)) (i : Nat) : Leq (exprS X R i) (exprS X R' i) :=
  Leq.ite (Leq.bind (h _ _ _) fun _ _ => Leq.bind (h _ _ _) fun _ _ => Leq.refl _) (Leq.bind (atom_leq h _) fun _ _ => from_leq h _ _)
theorem idx_leq (h : ∀ m i a, Leq (R m i a) (R' m i a)) (i : Nat) (a : List NodeD) : Leq (idxS X R i a) (idxS X R' i a) :=
  Leq.ite (Leq.bind (h _ _ _) fun _ _ => Leq.ite (h _ _ _) (Leq.refl _)) (Leq.refl _)
theorem parts_leq (h : ∀ m i a, Leq (R m i a) (R' m i a)) (i : Nat) : Leq (partsS X R i) (partsS X R' i) :=
  Leq.bind (Leq.ite (Leq.refl _) (h _ _ _)) fun _ _ => Leq.ite (Leq.bind (h _ _ _) fun _ _ => Leq.refl _) (Leq.refl _)
theorem braces_leq (h : ∀ m i a, Leq (R m i a) (R' m i a)) (i : Nat) : Leq (bracesS X R i) (bracesS X R' i) :=
  Leq.ite (Leq.refl _) (Leq.bind (h _ _ _) fun _ _ => Leq.refl _)
theorem fn_leq (h : ∀ m i a, Leq (R m i a) (R' m i a)) (i : Nat) : Leq (fnS X R i) (fnS X R' i) :=
  Leq.ite (Leq.refl _) (Leq.ite (Leq.refl _) (Leq.ite (braces_leq h _) (Leq.refl _)))
theorem items_leq (h : ∀ m i a, Leq (R m i a) (R' m i a)) (i : Nat) : Leq (itemsS X R i) (itemsS X R' i) :=
  Leq.bind (h _ _ _) fun _ _ => Leq.ite (Leq.bind (h _ _ _) fun _ _ => Leq.refl _) (Leq.refl _)
theorem item_leq (h : ∀ m i a, Leq (R m i a) (R' m i a)) (i : Nat) : Leq (itemS X R i) (itemS X R' i) :=
  Leq.bind (h _ _ _) fun _ _ => Leq.ite (Leq.bind (h _ _ _) fun _ _ => Leq.refl _) (Leq.refl _)
theorem stmts_leq (h : ∀ m i a, Leq (R m i a) (R' m i a)) (i : Nat) : Leq (stmtsS X R i) (stmtsS X R' i) :=
  Leq.bind (h _ _ _) fun _ _ => Leq.ite (Leq.bind (h _ _ _) fun _ _ => Leq.refl _) (Leq.refl _)
theorem end_leq (h : ∀ m i a, Leq (R m i a) (R' m i a)) (k n : Int) (s : ByteArray) (ls : List (List NodeD)) (i : Nat) : Leq (endS R k n s ls i) (endS R' k n s ls i) := Leq.bind (h _ _ _) fun _ _ => Leq.refl _
theorem stmt_leq (h : ∀ m i a, Leq (R m i a) (R' m i a)) (i : Nat) : Leq (stmtS X R i) (stmtS X R' i) :=
  Leq.ite (Leq.ite (Leq.bind (braces_leq h _) fun _ _ => Leq.refl _) (Leq.refl _)) (Leq.ite (end_leq h _ _ _ _ _) (Leq.ite (end_leq h _ _ _ _ _) (Leq.ite (Leq.bind (h _ _ _) fun _ _ => Leq.ite (Leq.ite (end_leq h _ _ _ _ _) (Leq.refl _)) (Leq.refl _)) (Leq.ite (Leq.bind (h _ _ _) fun _ _ => Leq.ite (Leq.ite (Leq.ite (end_leq h _ _ _ _ _) (Leq.refl _)) (from_leq h _ _)) (Leq.refl _)) (h _ _ _)))))

end

theorem prs_more (X : Seen) : ∀ (f m i : Nat) (a : List NodeD), Leq (prs X f m i a) (prs X (f + 1) m i a)
  | 0, _, _, _ => Leq.none _
  | f + 1, m, i, a => by
    have h := prs_more X f
    rw [prs, prs]
    exact Leq.ite (expr_leq h i) (Leq.ite (idx_leq h i a) (Leq.ite (parts_leq h i) (Leq.ite (fn_leq h i) (Leq.ite (items_leq h i) (Leq.ite (stmt_leq h i) (Leq.ite (item_leq h i) (stmts_leq h i)))))))

theorem prs_add (X : Seen) (f d m i : Nat) (a : List NodeD) : Leq (prs X f m i a) (prs X (f + d) m i a) := by
  induction d with
  | zero => exact Leq.refl _
  | succ d ih => exact fun r h => prs_more X (f + d) m i a r (ih r h)

end Go.Proofs.YtmgjicgojlkpcaaGreatDoor
