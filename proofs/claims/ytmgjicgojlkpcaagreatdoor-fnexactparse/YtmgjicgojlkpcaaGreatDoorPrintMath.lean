import Derived.Test.YtmgjicgojlkpcaaGreatDoorTreeMath3
namespace Go.Proofs.YtmgjicgojlkpcaaGreatDoor
open Go

/-- One piece more: a word behind a word has a blank ahead. -/
def sayP (st : (List UInt8 × Bool)) (s : List UInt8) (wd : Bool) : (List UInt8 × Bool) := (st.1 ++ ((if wd && st.2 then [32] else []) ++ s), wd)

/-- How pieces look: signs, primitives, numbers, texts. -/
structure Looks where
  sg : Nat → List UInt8
  prim : Int → List UInt8
  num : Int → List UInt8
  txt : ByteArray → List UInt8

section
variable (L : Looks) (ns : List NodeD)

def sayS (st : (List UInt8 × Bool)) (c : Nat) : (List UInt8 × Bool) := sayP st (L.sg c) false

/-- Nodes with a sign between them. -/
def listP (g : Nat → (List UInt8 × Bool) → (List UInt8 × Bool)) (c : Nat) (kids : List Int) : Nat → (List UInt8 × Bool) → (List UInt8 × Bool)
  | 0, st => st
  | k + 1, st => g (kids.getD k 0).toNat (if 0 < k then sayS L (listP g c kids k st) c else listP g c kids k st)

def operP (g : Nat → (List UInt8 × Bool) → (List UInt8 × Bool)) (i : Nat) (st : (List UInt8 × Bool)) : (List UInt8 × Bool) :=
  if (node ns i).k = 9 ∨ (node ns i).k = 10 then sayS L (g i (sayS L st 40)) 41 else g i st

/-- An sfn ahead of a replication. -/
def takesR (f b : Nat) : Bool := primB (node ns f) 1 16 && (decide ((node ns b).k = 9) && primB (node ns (kidN (node ns b) 0)) 29 30)

def applP (g : Nat → (List UInt8 × Bool) → (List UInt8 × Bool)) (f b : Nat) (st : (List UInt8 × Bool)) : (List UInt8 × Bool) :=
  if takesR ns f b = true then sayS L (g b (sayS L (g f st) 40)) 41 else g b (g f st)

def numsP : List Int → (List UInt8 × Bool) → (List UInt8 × Bool)
  | [], st => st
  | z :: r, st => numsP r (sayP st (L.num z) true)

/-- What a node's text is, its kids written by g. -/
def nodeP (g : Nat → (List UInt8 × Bool) → (List UInt8 × Bool)) (x : NodeD) (st : (List UInt8 × Bool)) : (List UInt8 × Bool) :=
  if x.k = 1 then numsP L x.nums st
  else if x.k = 2 then sayP st (L.txt x.s) false
  else if x.k = 3 ∨ x.k = 17 then sayP st x.s.data.toList true
  else if x.k = 4 then sayS L st 9082
  else if x.k = 5 then sayS L st 9077
  else if x.k = 6 then sayS L st 9068
  else if x.k = 7 then sayS L (listP L g 59 (x.kids.drop 1) (x.kids.length - 1) (sayS L (operP L ns g (kidN x 0) st) 91)) 93
  else if x.k = 9 then applP L ns g (kidN x 0) (kidN x 1) st
  else if x.k = 10 then applP L ns g (kidN x 1) (kidN x 2) (operP L ns g (kidN x 0) st)
  else if x.k = 11 then sayP st (L.prim x.n) false
  else if x.k = 12 then sayS L (sayP st (L.prim x.n) false) (if x.m = 0 then 47 else 9023)
  else if x.k = 13 then sayS L (sayP st (L.prim x.n) false) (if x.m = 0 then 92 else 9024)
  else if x.k = 14 then sayP (sayS L (sayS L st 8728) 46) (L.prim x.n) false
  else if x.k = 15 then sayP (sayS L (sayP st (L.prim x.n) false) 46) (L.prim x.m) false
  else if x.k = 16 then sayS L (listP L g 8900 x.kids x.kids.length (sayS L st 123)) 125
  else if x.k = 18 then sayS L st 8711
  else if x.k = 19 ∨ x.k = 20 then g (kidN x (x.kids.length - 1)) (sayS L (sayP st x.s.data.toList true) 8592)
  else if x.k = 21 then g (kidN x (x.kids.length - 1)) (sayS L (sayS L (listP L g 59 (x.kids.take (x.kids.length - 1)) (x.kids.length - 1) (sayS L (sayP st x.s.data.toList true) 91)) 93) 8592)
  else if x.k = 22 then g (kidN x (x.kids.length - 1)) (sayS L (sayP (sayP st x.s.data.toList true) (L.prim x.n) false) 8592)
  else if x.k = 23 then g (kidN x (x.kids.length - 1)) (sayS L (sayS L (g (kidN x 0) (sayS L st 40)) 41) 8592)
  else if x.k = 24 then listP L g 58 x.kids x.kids.length st
  else if x.k = 25 then listP L g 8900 x.kids x.kids.length st
  else st

/-- What a node is written as. -/
def prP : Nat → Nat → (List UInt8 × Bool) → (List UInt8 × Bool)
  | 0, _, st => st
  | f + 1, i, st => nodeP L ns (prP f) (node ns i) st

end
end Go.Proofs.YtmgjicgojlkpcaaGreatDoor
