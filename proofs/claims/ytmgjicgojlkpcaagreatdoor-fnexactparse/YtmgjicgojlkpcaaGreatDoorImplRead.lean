import Derived.Test.YtmgjicgojlkpcaaGreatDoorParseMath5
import Derived.Test.YtmgjicgojlkpcaaGreatDoorImplParsB
namespace Go.Proofs.YtmgjicgojlkpcaaGreatDoor
open Go.RowKit

section
variable {T : TypeId} {Z w w1 : World} {p i : Nat} {v0 v2 nd : Value} {xs : List NodeC}

/-- What is written elsewhere leaves a parser as it is. -/
theorem PS.but (h : PS T Z p v0 v2 w i nd xs) {S : Nat → Prop} (hb : But S w w1) (hS : ∀ k, S k → Z.heap.size ≤ k ∧ k ≠ p ∧ nd.ownBlock ≠ some k ∧ k ∉ blksC xs) : PS T Z p v0 v2 w1 i nd xs := by
  have kI : ∀ {v : Value} {l : List Int}, OwnI w Z.heap.size v l → (∀ b, v.ownBlock = some b → b ∈ blksC xs) → OwnI w1 Z.heap.size v l := fun {v l} ho hm => by
    refine own_keep ho fun g hg => ?_
    obtain ⟨cur, hh, _⟩ := ownBlk_of ho hg
    exact hb.block g (lt_of_block hh) (fun e => (hS g e).2.2.2 (hm g hg))
  refine ⟨(hb.block p (lt_of_block h.box) (fun e => (hS p e).2.1 rfl)).trans h.box, own_keep h.own fun g hg => ?_, fun x hx => ⟨kI (h.lists x hx).1 fun b hb' => ?_, kI (h.lists x hx).2 fun b hb' => ?_⟩, h.apart, ?_, h.hp, h.ty⟩
  · obtain ⟨cur, hh, _⟩ := ownBlk_of h.own hg
    exact hb.block g (lt_of_block hh) (fun e => (hS g e).2.2.1 hg)
  · unfold blksC; exact List.mem_flatMap.2 ⟨x, hx, by unfold NodeC.blks; rw [hb']; simp⟩
  · unfold blksC; exact List.mem_flatMap.2 ⟨x, hx, by unfold NodeC.blks; rw [hb']; simp⟩
  · exact h.low.trans (hb.below h.low.size (fun k hk => (hS k hk).1))

theorem PS.blkLt (h : PS T Z p v0 v2 w i nd xs) {b : Nat} (hb : b ∈ blksC xs) : b < w.heap.size ∧ Z.heap.size ≤ b := by
  unfold blksC at hb
  obtain ⟨x, hx, hb⟩ := List.mem_flatMap.1 hb
  unfold NodeC.blks at hb
  rcases List.mem_append.1 hb with h' | h'
  · obtain ⟨cur, hh, hB⟩ := ownBlk_of (h.lists x hx).1 (by simpa [Option.mem_toList] using h')
    exact ⟨lt_of_block hh, hB⟩
  · obtain ⟨cur, hh, hB⟩ := ownBlk_of (h.lists x hx).2 (by simpa [Option.mem_toList] using h')
    exact ⟨lt_of_block hh, hB⟩

theorem PS.ndLt (h : PS T Z p v0 v2 w i nd xs) {b : Nat} (hb : nd.ownBlock = some b) : b < w.heap.size := by
  obtain ⟨cur, hh, _⟩ := ownBlk_of h.own hb
  exact lt_of_block hh

end

/-- A parser's run under way: from the world w0, ys put since. -/
structure MidP (T : TypeId) (Z : World) (p : Nat) (v0 v2 : Value) (w0 : World) (nd0 : Value) (xs ys : List NodeC) (i : Nat) (w : World) (nd : Value) : Prop where
  ps : PS T Z p v0 v2 w i nd (xs ++ ys)
  but : PBut p nd0 w0 w
  at_ : nd.ownBlock = nd0.ownBlock ∨ ∀ b, nd.ownBlock = some b → w0.heap.size ≤ b
  new : ∀ b ∈ blksC ys, w0.heap.size ≤ b

section
variable {T : TypeId} {Z w w0 w1 : World} {p i j : Nat} {v0 v2 nd nd0 nd1 : Value} {xs ys zs : List NodeC}

theorem MidP.start (h : PS T Z p v0 v2 w i nd xs) : MidP T Z p v0 v2 w nd xs [] i w nd := ⟨by rw [List.append_nil]; exact h, PBut.refl _ _ _, .inl rfl, fun b hb => by simp [blksC] at hb⟩

theorem MidP.below (h : MidP T Z p v0 v2 w0 nd0 xs ys i w nd) (hb : Below w.heap.size w w1) : MidP T Z p v0 v2 w0 nd0 xs ys i w1 nd := ⟨h.ps.below hb, h.but.trans h.at_ (PBut.of_below hb), h.at_, h.new⟩

theorem MidP.move (h : MidP T Z p v0 v2 w0 nd0 xs ys i w nd) (hs : PS T Z p v0 v2 w1 j nd (xs ++ ys)) (hb : PBut p nd w w1) : MidP T Z p v0 v2 w0 nd0 xs ys j w1 nd := ⟨hs, h.but.trans h.at_ hb, h.at_, h.new⟩

theorem MidP.go (h : MidP T Z p v0 v2 w0 nd0 xs ys i w nd) (hm : MidP T Z p v0 v2 w nd (xs ++ ys) zs j w1 nd1) : MidP T Z p v0 v2 w0 nd0 xs (ys ++ zs) j w1 nd1 := by
  have hz := h.but.size
  refine ⟨by rw [← List.append_assoc]; exact hm.ps, h.but.trans h.at_ hm.but, ?_, fun b hb => ?_⟩
  · rcases hm.at_ with hn | hn
    · rcases h.at_ with h' | h'
      · exact .inl (hn.trans h')
      · exact .inr fun b e => h' b (hn ▸ e)
    · exact .inr fun b e => by have := hn b e; omega
  · rw [blksC_app] at hb
    rcases List.mem_append.1 hb with h' | h'
    · exact h.new b h'
    · have := hm.new b h'; omega

theorem MidP.but_ (h : MidP T Z p v0 v2 w0 nd0 xs ys i w nd) {S : Nat → Prop} (hb : But S w w1) (hS : ∀ k, S k → w0.heap.size ≤ k ∧ Z.heap.size ≤ k ∧ k ≠ p ∧ nd.ownBlock ≠ some k ∧ k ∉ blksC (xs ++ ys)) : MidP T Z p v0 v2 w0 nd0 xs ys i w1 nd := by
  have hz := h.but.size
  refine ⟨h.ps.but hb fun k hk => (hS k hk).2, ?_, h.at_, h.new⟩
  refine ⟨hb.os.trans h.but.os, hb.tape.trans h.but.tape, hb.output.trans h.but.output, Nat.le_trans hz hb.size, fun k hk hn => ?_⟩
  exact (hb.block k (by omega) (fun e => by have := (hS k e).1; omega)).trans (h.but.block k hk hn)

theorem MidP.put (h : MidP T Z p v0 v2 w0 nd0 xs ys i w nd) {x : NodeC} (hs : PS T Z p v0 v2 w1 i nd1 ((xs ++ ys) ++ [x])) (hb : PBut p nd w w1) (ha : nd1.ownBlock = nd.ownBlock ∨ ∀ b, nd1.ownBlock = some b → w.heap.size ≤ b) (hn : ∀ b ∈ x.blks, w0.heap.size ≤ b) : MidP T Z p v0 v2 w0 nd0 xs (ys ++ [x]) i w1 nd1 := by
  have hz := h.but.size
  refine ⟨by rw [← List.append_assoc]; exact hs, h.but.trans h.at_ hb, ?_, fun b hb' => ?_⟩
  · rcases ha with ha | ha
    · rcases h.at_ with h' | h'
      · exact .inl (ha.trans h')
      · exact .inr fun b e => h' b (ha ▸ e)
    · exact .inr fun b e => by have := ha b e; omega
  · rw [blksC_app] at hb'
    rcases List.mem_append.1 hb' with h' | h'
    · exact h.new b h'
    · exact hn b (by simpa [blksC] using h')

end

abbrev MidI (Z : World) (p : Nat) (ta : Option Addr) (tn tc bytes : Nat) : World → Value → List NodeC → List NodeC → Nat → World → Value → Prop := MidP 88 Z p (.slice ta tn tc) (.int .i64 (bytes : Nat))

/-- What a reader of the developers' has given: a place, or a fault. -/
def GaveI (Z : World) (p : Nat) (ta : Option Addr) (tn tc : Nat) (ts : List Tok) (bytes : Nat) (w0 : World) (nd0 : Value) (xs : List NodeC) (r : Res) (e : Ending) (w' : World) : Prop :=
  (r.1 = true ∧ ∃ ys nd' z, e = .returned (.tuple #[.int .i64 z, .nilIface]) ∧ z = ((xs.length + (rowT r.2.2).length : Nat) : Int) - 1 ∧ MidI Z p ta tn tc bytes w0 nd0 xs ys r.2.1 w' nd' ∧ ys.map NodeC.d = shiftN xs.length (rowT r.2.2)) ∨
  (r.1 = false ∧ ∃ b z, e = .returned (.tuple #[.int .i64 z, faultV b]) ∧ IsFault w' b (tokA ts bytes r.2.1).p ∧ Below Z.heap.size Z w')

/-- A reader of the developers'. -/
def ReadI (Z : World) (p : Nat) (ta : Option Addr) (tn tc : Nat) (ts : List Tok) (bytes : Nat) (f : Nat) (args : Array Value) (i : Nat) (r : Res) : Prop :=
  ∀ w nd xs, PS 88 Z p (.slice ta tn tc) (.int .i64 (bytes : Nat)) w i nd xs → xs.length + 4 * (5000 - i) ≤ 100000 → Calls Tryz.prog f args w (GaveI Z p ta tn tc ts bytes w nd xs r)

section
variable {Z w w0 w1 : World} {p i : Nat} {nd nd0 : Value} {xs ys : List NodeC} {ta : Option Addr} {tn tc bytes : Nat} {ts : List Tok}

theorem own_nil (w : World) (B : Nat) : OwnI w B (.slice none 0 0) [] := ⟨rfl, .inl ⟨rfl, rfl⟩⟩

/-- A node put over trees. -/
theorem putT (hm : MidI Z p ta tn tc bytes w0 nd0 xs ys i w nd) (k n m : Int) (s : ByteArray) (nums : List Int) (ls : List (List NodeD)) (hy : ys.map NodeC.d = shiftN xs.length (rowT ls)) (s1 s2 : Option Addr) (n1 c1 n2 c2 : Nat)
    (h1 : OwnI w Z.heap.size (.slice s1 n1 c1) nums) (h2 : OwnI w Z.heap.size (.slice s2 n2 c2) (placesT xs.length ls)) (hf : ∀ b ∈ (Value.slice s1 n1 c1).ownBlock.toList ++ (Value.slice s2 n2 c2).ownBlock.toList, w0.heap.size ≤ b ∧ b ∉ blksC (xs ++ ys)) (hnd : ((Value.slice s1 n1 c1).ownBlock.toList ++ (Value.slice s2 n2 c2).ownBlock.toList).Nodup) (hlen : xs.length + (rowT ls).length ≤ 1048576) :
    Calls Tryz.prog 104 #[.pointer (some ⟨p, 0, none⟩), .agg #[.int .i64 k, .int .i64 n, .int .i64 m, .string s, .slice s1 n1 c1, .slice s2 n2 c2]] w fun e w' => e = .returned (.int .i64 ((xs.length + (rowT ls).length : Nat))) ∧ ∃ ys' nd', MidI Z p ta tn tc bytes w0 nd0 xs ys' i w' nd' ∧ ys'.map NodeC.d = shiftN xs.length (treeN k n m s nums ls) := by
  have hl : ys.length = (rowT ls).length := by have := congrArg List.length hy; rw [List.length_map, shift_len] at this; exact this
  refine (putI Z p _ _ w i nd (xs ++ ys) hm.ps k n m s nums (placesT xs.length ls) s1 s2 n1 c1 n2 c2 ⟨h1, h2⟩ (fun b hb => (hf b hb).2) hnd (by rw [List.length_append, hl]; exact hlen)).mono ?_
  rintro e w' ⟨rfl, nd', hs, hb, ha⟩
  refine ⟨by rw [List.length_append, hl], _, nd', hm.put hs hb ha (fun b hb => (hf b hb).1), ?_⟩
  rw [List.map_append, hy, shift_tree]
  rfl

/-- A node without kids put. -/
theorem putLeaf (hm : MidI Z p ta tn tc bytes w0 nd0 xs [] i w nd) (k n m : Int) (s : ByteArray) (hlen : xs.length ≤ 1048576) :
    Calls Tryz.prog 104 #[.pointer (some ⟨p, 0, none⟩), .agg #[.int .i64 k, .int .i64 n, .int .i64 m, .string s, .slice none 0 0, .slice none 0 0]] w fun e w' => e = .returned (.int .i64 (xs.length : Nat)) ∧ ∃ ys' nd', MidI Z p ta tn tc bytes w0 nd0 xs ys' i w' nd' ∧ ys'.map NodeC.d = shiftN xs.length (treeN k n m s [] []) :=
  putT hm k n m s [] [] rfl none none 0 0 0 0 (own_nil _ _) (own_nil _ _) (fun b hb => by simp [Value.ownBlock] at hb) (by simp [Value.ownBlock]) hlen

theorem gave_leaf {e : Ending} {q : Nat} (k n m : Int) (s : ByteArray) {nd' : Value} (hv : e = .returned (.tuple #[.int .i64 (xs.length : Nat), .nilIface])) (hm : MidI Z p ta tn tc bytes w0 nd0 xs ys q w nd') (hd : ys.map NodeC.d = shiftN xs.length (treeN k n m s [] [])) : GaveI Z p ta tn tc ts bytes w0 nd0 xs (true, q, [treeN k n m s [] []]) e w := by
  have e1 : rowT [treeN k n m s [] []] = treeN k n m s [] [] := rowT_one _
  have e2 : (treeN k n m s [] []).length = 1 := by rw [tree_len]; rfl
  refine .inl ⟨rfl, ys, nd', _, hv, ?_, hm, ?_⟩
  · show _ = ((xs.length + (rowT [treeN k n m s [] []]).length : Nat) : Int) - 1
    rw [e1, e2]
    omega
  · show _ = shiftN xs.length (rowT [treeN k n m s [] []])
    rw [e1]
    exact hd

end

end Go.Proofs.YtmgjicgojlkpcaaGreatDoor
