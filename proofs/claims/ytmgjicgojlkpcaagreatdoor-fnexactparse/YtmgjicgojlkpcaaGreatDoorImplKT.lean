import Derived.Test.YtmgjicgojlkpcaaGreatDoorImplTwo
namespace Go.Proofs.YtmgjicgojlkpcaaGreatDoor
open Go.RowKit

/-- A box of the reader's own: the parser does not touch it. -/
def BoxK (Z : World) (p : Nat) (w0 w : World) (nd v : Value) (XS : List NodeC) (k : Nat) : Prop := w0.heap.size ≤ k ∧ Z.heap.size ≤ k ∧ k < w.heap.size ∧ k ≠ p ∧ nd.ownBlock ≠ some k ∧ k ∉ blksC XS ∧ v.ownBlock ≠ some k

/-- A parser's run under way: since the world w0 the trees ls were put, the list v holds zs, the boxes bx are the reader's. -/
def KT (Z : World) (p : Nat) (ta : Option Addr) (tn tc bytes : Nat) (w0 : World) (nd0 : Value) (xs : List NodeC) (bx : List Nat) (ls : List (List NodeD)) (i : Nat) (w : World) (nd v : Value) (zs : List Int) : Prop :=
  ∃ ys, MidI Z p ta tn tc bytes w0 nd0 xs ys i w nd ∧ ys.map NodeC.d = shiftN xs.length (rowT ls) ∧ OwnI w Z.heap.size v zs ∧ (∀ b, v.ownBlock = some b → w0.heap.size ≤ b ∧ b ∉ blksC (xs ++ ys)) ∧ ∀ k ∈ bx, BoxK Z p w0 w nd v (xs ++ ys) k

abbrev nilL : Value := .slice none 0 0

/-- The boxes stand. -/
def BoxSame (bx : List Nat) (w w' : World) : Prop := ∀ k ∈ bx, w'.heap[k]? = w.heap[k]?

section
variable {Z w w0 w1 : World} {p i j : Nat} {nd nd0 nd1 v : Value} {zs : List Int} {xs ys : List NodeC} {bx : List Nat} {ls : List (List NodeD)} {ta : Option Addr} {tn tc bytes : Nat} {ts : List Tok}

theorem KT.start (h : IPS Z p ta tn tc bytes w i nd xs) : KT Z p ta tn tc bytes w nd xs [] [] i w nd nilL [] := ⟨[], MidP.start h, rfl, own_nil _ _, (fun b hb => by simp [Value.ownBlock] at hb), fun k hk => by cases hk⟩

theorem KT.ps (h : KT Z p ta tn tc bytes w0 nd0 xs bx ls i w nd v zs) : ∃ XS, IPS Z p ta tn tc bytes w i nd XS ∧ XS.length = xs.length + (rowT ls).length ∧ XS.map NodeC.d = xs.map NodeC.d ++ shiftN xs.length (rowT ls) := by
  obtain ⟨ys, hm, hd, _⟩ := h
  refine ⟨xs ++ ys, hm.ps, ?_, ?_⟩
  · have := congrArg List.length hd
    rw [List.length_map, shift_len] at this
    rw [List.length_append, this]
  · rw [List.map_append, hd]

theorem KT.low (h : KT Z p ta tn tc bytes w0 nd0 xs bx ls i w nd v zs) : Below Z.heap.size Z w := by
  obtain ⟨ys, hm, _⟩ := h
  exact hm.ps.low

theorem KT.all (h : KT Z p ta tn tc bytes w0 nd0 xs bx ls i w nd v zs) : w.cell? ⟨p, 0, none⟩ = some (.slice ta tn tc) ∧ w.cell? ⟨p, 1, none⟩ = some (.int .i64 (i : Nat)) ∧ w.cell? ⟨p, 2, none⟩ = some (.int .i64 (bytes : Nat)) ∧ w.cell? ⟨p, 3, none⟩ = some nd ∧ w.frozen? ⟨p, 0, none⟩ = false ∧ w.frozen? ⟨p, 1, none⟩ = false ∧ w.frozen? ⟨p, 2, none⟩ = false ∧ w.frozen? ⟨p, 3, none⟩ = false ∧ p < w.heap.size := by
  obtain ⟨ys, hm, _⟩ := h
  exact hm.ps.all

/-- The parser goes on from w to w1; the list and the boxes stand. -/
theorem kt_go {ms : List (List NodeD)} {us : List NodeC} (hm : MidI Z p ta tn tc bytes w0 nd0 xs ys i w nd) (hd : ys.map NodeC.d = shiftN xs.length (rowT ls)) (ho : OwnI w Z.heap.size v zs) (hf : ∀ b, v.ownBlock = some b → w0.heap.size ≤ b ∧ b ∉ blksC (xs ++ ys)) (hx : ∀ k ∈ bx, BoxK Z p w0 w nd v (xs ++ ys) k) (hu : MidI Z p ta tn tc bytes w nd (xs ++ ys) us j w1 nd1) (hdu : us.map NodeC.d = shiftN (xs.length + (rowT ls).length) (rowT ms)) : KT Z p ta tn tc bytes w0 nd0 xs bx (ls ++ ms) j w1 nd1 v zs ∧ BoxSame bx w w1 := by
  refine ⟨⟨ys ++ us, hm.go hu, ?_, hm.ps.keepI hu.but ho, fun b hb => ⟨(hf b hb).1, ?_⟩, fun k hk => ?_⟩, fun k hk => ?_⟩
  · rw [List.map_append, hd, hdu, row_append, shift_app, shift_add]
  · rw [← List.append_assoc, blksC_app]
    intro hb'
    rcases List.mem_append.1 hb' with h' | h'
    · exact (hf b hb).2 h'
    · have h1 := hu.new b h'
      obtain ⟨cur, hh, _⟩ := ownBlk_of ho hb
      have := lt_of_block hh
      omega
  · obtain ⟨h1, h2, h3, h4, h5, h6, h7⟩ := hx k hk
    refine ⟨h1, h2, Nat.lt_of_lt_of_le h3 hu.but.size, h4, fun e => ?_, fun hc => ?_, h7⟩
    · rcases hu.at_ with h' | h'
      · exact h5 (h' ▸ e)
      · have := h' k e; omega
    · rw [← List.append_assoc, blksC_app] at hc
      rcases List.mem_append.1 hc with h' | h'
      · exact h6 h'
      · have := hu.new k h'; omega
  · obtain ⟨h1, h2, h3, h4, h5, h6, h7⟩ := hx k hk
    exact hu.but.block k h3 (by rintro (rfl | e); exact h4 rfl; exact h5 e)

theorem KT.move (h : KT Z p ta tn tc bytes w0 nd0 xs bx ls i w nd v zs) (hg : ∀ XS, IPS Z p ta tn tc bytes w i nd XS → MidI Z p ta tn tc bytes w nd XS [] j w1 nd) : KT Z p ta tn tc bytes w0 nd0 xs bx ls j w1 nd v zs ∧ BoxSame bx w w1 := by
  obtain ⟨ys, hm, hd, ho, hf, hx⟩ := h
  have := kt_go (ms := []) hm hd ho hf hx (hg _ hm.ps) rfl
  rwa [List.append_nil] at this

theorem KT.below (h : KT Z p ta tn tc bytes w0 nd0 xs bx ls i w nd v zs) (hb : Below w.heap.size w w1) : KT Z p ta tn tc bytes w0 nd0 xs bx ls i w1 nd v zs := (h.move fun _ hX => (MidP.start hX).below hb).1

theorem KT.step (h : KT Z p ta tn tc bytes w0 nd0 xs bx ls i w nd v zs) (d : Nat) (z : Int) (hz : z = (i : Int) + (d : Nat)) : KT Z p ta tn tc bytes w0 nd0 xs bx ls (i + d) (w.setCell ⟨p, 1, none⟩ (.int .i64 z)) nd v zs := (h.move fun _ hX => (MidP.start hX).step d z hz).1

theorem KT.via {f : Nat} {args : Array Value} {e0 : Ending} (h : KT Z p ta tn tc bytes w0 nd0 xs bx ls i w nd v zs) (hf : ∀ XS, IPS Z p ta tn tc bytes w i nd XS → Calls Tryz.prog f args w fun e w' => e = e0 ∧ MidI Z p ta tn tc bytes w nd XS [] j w' nd) : Calls Tryz.prog f args w fun e w' => e = e0 ∧ KT Z p ta tn tc bytes w0 nd0 xs bx ls j w' nd v zs ∧ BoxSame bx w w' := by
  obtain ⟨ys, hm, hd, ho, hf', hx⟩ := h
  refine (hf (xs ++ ys) hm.ps).mono ?_
  rintro e w' ⟨he, hm'⟩
  have := kt_go (ms := []) hm hd ho hf' hx hm' rfl
  rw [List.append_nil] at this
  exact ⟨he, this⟩

theorem KT.no {f : Nat} {args : Array Value} {e0 : Nat → Ending} {q : Nat} (h : KT Z p ta tn tc bytes w0 nd0 xs bx ls i w nd v zs) (hf : ∀ XS, IPS Z p ta tn tc bytes w i nd XS → Calls Tryz.prog f args w fun e w' => ∃ b, e = e0 b ∧ IsFault w' b (tokA ts bytes q).p ∧ Below Z.heap.size Z w') : Calls Tryz.prog f args w fun e w' => ∃ b, e = e0 b ∧ IsFault w' b (tokA ts bytes q).p ∧ Below Z.heap.size Z w' := by
  obtain ⟨XS, hX, _⟩ := h.ps
  exact hf XS hX

/-- A reader called under way that gives a place. -/
theorem KT.read {f : Nat} {args : Array Value} {q : Nat} {l : List (List NodeD)} (hR : ReadI Z p ta tn tc ts bytes f args i (true, q, l)) (h : KT Z p ta tn tc bytes w0 nd0 xs bx ls i w nd v zs) (hroom : xs.length + (rowT ls).length + 4 * (5000 - i) ≤ 100000) :
    Calls Tryz.prog f args w fun e w' => ∃ z nd', e = .returned (.tuple #[.int .i64 z, .nilIface]) ∧ z = ((xs.length + (rowT (ls ++ l)).length : Nat) : Int) - 1 ∧ KT Z p ta tn tc bytes w0 nd0 xs bx (ls ++ l) q w' nd' v zs ∧ BoxSame bx w w' := by
  obtain ⟨ys, hm, hd, ho, hf, hx⟩ := h
  have hl : ys.length = (rowT ls).length := by have := congrArg List.length hd; rw [List.length_map, shift_len] at this; exact this
  refine (hR w nd (xs ++ ys) hm.ps (by rw [List.length_append, hl]; exact hroom)).mono ?_
  rintro e w' (⟨_, us, nd', z, rfl, hz, hm', hd'⟩ | ⟨h', _⟩)
  · refine ⟨z, nd', rfl, ?_, ?_⟩
    · rw [hz, List.length_append, hl, row_app]
      show ((xs.length + (rowT ls).length + (rowT l).length : Nat) : Int) - 1 = _
      omega
    · refine kt_go hm hd ho hf hx hm' ?_
      rw [hd', List.length_append, hl]
  · cases h'

/-- A reader called under way that gives a fault. -/
theorem KT.readNo {f : Nat} {args : Array Value} {q : Nat} {l : List (List NodeD)} (hR : ReadI Z p ta tn tc ts bytes f args i (false, q, l)) (h : KT Z p ta tn tc bytes w0 nd0 xs bx ls i w nd v zs) (hroom : xs.length + (rowT ls).length + 4 * (5000 - i) ≤ 100000) :
    Calls Tryz.prog f args w fun e w' => ∃ b z, e = .returned (.tuple #[.int .i64 z, faultV b]) ∧ IsFault w' b (tokA ts bytes q).p ∧ Below Z.heap.size Z w' := by
  obtain ⟨XS, hX, hl, _⟩ := h.ps
  refine (hR w nd XS hX (by rw [hl]; exact hroom)).mono ?_
  rintro e w' (⟨h', _⟩ | ⟨_, b, z, he, hf, hb⟩)
  · cases h'
  · exact ⟨b, z, he, hf, hb⟩

/-- A node put over the trees. -/
theorem KT.put {s2 : Option Addr} {n2 c2 : Nat} (h : KT Z p ta tn tc bytes w0 nd0 xs bx ls i w nd (.slice s2 n2 c2) (placesT xs.length ls)) (k n m : Int) (s : ByteArray) (hlen : xs.length + (rowT ls).length ≤ 1048576) :
    Calls Tryz.prog 104 #[.pointer (some ⟨p, 0, none⟩), .agg #[.int .i64 k, .int .i64 n, .int .i64 m, .string s, .slice none 0 0, .slice s2 n2 c2]] w fun e w' => e = .returned (.int .i64 ((xs.length + (rowT ls).length : Nat))) ∧ ∃ nd', KT Z p ta tn tc bytes w0 nd0 xs [] [treeN k n m s [] ls] i w' nd' nilL [] := by
  obtain ⟨ys, hm, hd, ho, hf, _⟩ := h
  refine (putT hm k n m s [] ls hd none s2 0 0 n2 c2 (own_nil _ _) ho ?_ ?_ hlen).mono ?_
  · intro b hb
    have hb' : (Value.slice s2 n2 c2).ownBlock = some b := by simpa [Value.ownBlock, Option.mem_toList] using hb
    exact hf b hb'
  · cases h' : (Value.slice s2 n2 c2).ownBlock with
    | none => simp [Value.ownBlock]
    | some b => simp [Value.ownBlock]
  · rintro e w' ⟨rfl, ys', nd', hm', hd'⟩
    exact ⟨rfl, nd', ys', hm', by rw [rowT_one]; exact hd', own_nil _ _, (fun b hb => by simp [Value.ownBlock] at hb), fun k hk => by cases hk⟩

/-- Numbers put. -/
theorem KT.putN {s1 : Option Addr} {n1 c1 : Nat} (h : KT Z p ta tn tc bytes w0 nd0 xs bx [] i w nd (.slice s1 n1 c1) zs) (k n m : Int) (s : ByteArray) (hlen : xs.length ≤ 1048576) :
    Calls Tryz.prog 104 #[.pointer (some ⟨p, 0, none⟩), .agg #[.int .i64 k, .int .i64 n, .int .i64 m, .string s, .slice s1 n1 c1, .slice none 0 0]] w fun e w' => e = .returned (.int .i64 (xs.length : Nat)) ∧ ∃ nd', KT Z p ta tn tc bytes w0 nd0 xs [] [treeN k n m s zs []] i w' nd' nilL [] := by
  obtain ⟨ys, hm, hd, ho, hf, _⟩ := h
  refine (putT hm k n m s zs [] hd s1 none n1 c1 0 0 ho (own_nil _ _) ?_ ?_ hlen).mono ?_
  · intro b hb
    have hb' : (Value.slice s1 n1 c1).ownBlock = some b := by simpa [Value.ownBlock, Option.mem_toList] using hb
    exact hf b hb'
  · cases h' : (Value.slice s1 n1 c1).ownBlock with
    | none => simp [Value.ownBlock]
    | some b => simp [Value.ownBlock]
  · rintro e w' ⟨rfl, ys', nd', hm', hd'⟩
    exact ⟨rfl, nd', ys', hm', by rw [rowT_one]; exact hd', own_nil _ _, (fun b hb => by simp [Value.ownBlock] at hb), fun k hk => by cases hk⟩

theorem KT.gave {e : Ending} {q : Nat} {z : Int} (h : KT Z p ta tn tc bytes w0 nd0 xs bx ls q w nd v zs) (he : e = .returned (.tuple #[.int .i64 z, .nilIface])) (hz : z = ((xs.length + (rowT ls).length : Nat) : Int) - 1) : GaveI Z p ta tn tc ts bytes w0 nd0 xs (true, q, ls) e w := by
  obtain ⟨ys, hm, hd, _⟩ := h
  exact .inl ⟨rfl, ys, nd, z, he, hz, hm, hd⟩

/-- The list grown by one. -/
theorem KT.grow {w7 : World} {g cap : Nat} {us : List Int} {n : Nat} (h : KT Z p ta tn tc bytes w0 nd0 xs bx ls i w nd v zs) (hown : OwnI w7 Z.heap.size (.slice (some ⟨g, 0, none⟩) n cap) us) (hg : w.grownBy w7 v.ownBlock) (hat : v.ownBlock = some g ∨ g = w.heap.size) : KT Z p ta tn tc bytes w0 nd0 xs bx ls i w7 nd (.slice (some ⟨g, 0, none⟩) n cap) us ∧ BoxSame bx w w7 := by
  obtain ⟨ys, hm, hd, ho, hf, hx⟩ := h
  have hb : But (fun x => v.ownBlock = some x) w w7 := ⟨hg.os, hg.tape, hg.output, hg.size, fun k hk hn => hg.block k hk (fun e => hn e.symm)⟩
  have hty : ∀ k, v.ownBlock = some k → k ≠ p ∧ nd.ownBlock ≠ some k ∧ Z.heap.size ≤ k := fun k hk => by
    obtain ⟨cur, hh, hB⟩ := ownBlk_of ho hk
    refine ⟨fun e => ?_, fun e => ?_, hB⟩
    · rw [e, hm.ps.box] at hh
      have := Option.some.inj hh
      simp at this
    · obtain ⟨cur', hh', _⟩ := ownBlk_of hm.ps.own e
      rw [hh'] at hh
      have := Option.some.inj hh
      simp at this
  refine ⟨⟨ys, hm.but_ hb fun k hk => ⟨(hf k hk).1, (hty k hk).2.2, (hty k hk).1, (hty k hk).2.1, (hf k hk).2⟩, hd, hown, fun b hb' => ?_, fun k hk => ?_⟩, fun k hk => ?_⟩
  · have e : g = b := by simpa [Value.ownBlock] using hb'
    subst e
    rcases hat with h' | h'
    · exact hf g h'
    · refine ⟨by rw [h']; exact hm.but.size, fun hc => ?_⟩
      have := (hm.ps.blkLt hc).1
      omega
  · obtain ⟨h1, h2, h3, h4, h5, h6, h7⟩ := hx k hk
    refine ⟨h1, h2, Nat.lt_of_lt_of_le h3 hg.size, h4, h5, h6, fun e => ?_⟩
    have e' : g = k := by simpa [Value.ownBlock] using e
    rcases hat with h' | h'
    · exact h7 (e' ▸ h')
    · omega
  · obtain ⟨h1, h2, h3, h4, h5, h6, h7⟩ := hx k hk
    exact hg.block k h3 (fun e => h7 e.symm)

/-- A box more. -/
theorem KT.box (h : KT Z p ta tn tc bytes w0 nd0 xs bx ls i w nd v zs) (o : Obj) : KT Z p ta tn tc bytes w0 nd0 xs (w.heap.size :: bx) ls i (w.alloc o) nd v zs := by
  have hb : Below w.heap.size w (w.alloc o) := (Below.refl _ _).alloc (Nat.le_refl _) _
  obtain ⟨ys, hm, hd, ho, hf, hx⟩ := h
  refine ⟨ys, hm.below hb, hd, own_keep ho (fun g hg => hb.block g ((ownBlk_of ho hg).elim fun _ hc => lt_of_block hc.1)), hf, fun k hk => ?_⟩
  rcases List.mem_cons.1 hk with rfl | hk
  · refine ⟨hm.but.size, hm.ps.low.size, by simp, fun e => ?_, fun e => ?_, fun hc => ?_, fun e => ?_⟩
    · have := lt_of_block hm.ps.box; omega
    · have := hm.ps.ndLt e; omega
    · have := (hm.ps.blkLt hc).1; omega
    · obtain ⟨cur, hh, _⟩ := ownBlk_of ho e
      have := lt_of_block hh
      omega
  · obtain ⟨a1, a2, a3, a4⟩ := hx k hk
    exact ⟨a1, a2, by simp; omega, a4⟩

/-- A box written. -/
theorem KT.setBox {k q : Nat} {u : Value} (h : KT Z p ta tn tc bytes w0 nd0 xs bx ls i w nd v zs) (hk : k ∈ bx) : KT Z p ta tn tc bytes w0 nd0 xs bx ls i (w.setCell ⟨k, q, none⟩ u) nd v zs := by
  obtain ⟨ys, hm, hd, ho, hf, hx⟩ := h
  obtain ⟨h1, h2, h3, h4, h5, h6, h7⟩ := hx k hk
  have hb : But (fun x => x = k) w (w.setCell ⟨k, q, none⟩ u) := (But.refl (fun x => x = k) w).setCell (p := ⟨k, q, none⟩) rfl _
  refine ⟨ys, hm.but_ hb (fun j hj => by subst hj; exact ⟨h1, h2, h4, h5, h6⟩), hd, own_keep ho (fun g hg => hb.block g ((ownBlk_of ho hg).elim fun _ hc => lt_of_block hc.1) (fun e => h7 (e ▸ hg))), hf, fun j hj => ?_⟩
  obtain ⟨a1, a2, a3, a4⟩ := hx j hj
  exact ⟨a1, a2, by simpa using a3, a4⟩

end
end Go.Proofs.YtmgjicgojlkpcaaGreatDoor
