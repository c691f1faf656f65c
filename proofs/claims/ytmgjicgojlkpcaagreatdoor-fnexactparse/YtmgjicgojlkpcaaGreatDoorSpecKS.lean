import Derived.Test.YtmgjicgojlkpcaaGreatDoorSpecPs
import Derived.Test.YtmgjicgojlkpcaaGreatDoorImplKL
import Derived.Test.YtmgjicgojlkpcaaGreatDoorPRow
namespace Go.Proofs.YtmgjicgojlkpcaaGreatDoor
open Go.RowKit

section
variable {T : TypeId} {Z w w0 w1 : World} {p i j : Nat} {v0 v2 v2' nd nd0 nd1 : Value} {xs ys zs : List NodeC}

theorem MidP.go2 (h : MidP T Z p v0 v2 w0 nd0 xs ys i w nd) (hm : MidP T Z p v0 v2' w nd (xs ++ ys) zs j w1 nd1) : MidP T Z p v0 v2' w0 nd0 xs (ys ++ zs) j w1 nd1 := by
  have hz := h.but.size
  refine ⟨by rw [← List.append_assoc]; exact hm.ps, h.but.trans h.at_ hm.but, ?_, fun b hb => ?_⟩
  · rcases hm.at_ with hn | hn
    · rcases h.at_ with h' | h'
      · exact .inl (hn.trans h')
      · exact .inr fun b e => h' b (hn ▸ e)
    · exact .inr fun b e => by have := hn b e; omega
  · rw [blksC_app] at hb
    rcases List.mem_append.1 hb with h' | h'
    · exact h.new b h'
    · have := hm.new b h'; omega

/-- The third cell set. -/
theorem PS.set2 (h : PS T Z p v0 v2 w i nd xs) (u : Value) : PS T Z p v0 u (w.setCell ⟨p, 2, none⟩ u) i nd xs ∧ PBut p nd w (w.setCell ⟨p, 2, none⟩ u) := by
  have hb : PBut p nd w (w.setCell ⟨p, 2, none⟩ u) := (But.refl _ w).setCell (.inl rfl) _
  refine ⟨⟨?_, own_keep h.own fun g hg => ?_, fun x hx => ⟨h.keepI hb (h.lists x hx).1, h.keepI hb (h.lists x hx).2⟩, h.apart, h.low.setCell h.hp _, h.hp, h.ty⟩, hb⟩
  · rw [heap_setCell_same w p 2 _ _ _ h.box]
    simp
  · refine heap_setCell_other w ⟨p, 2, none⟩ g _ fun e => ?_
    obtain ⟨cur, hh, _⟩ := ownBlk_of h.own hg
    have e' : g = p := e
    rw [e', h.box] at hh
    have := Option.some.inj hh
    simp at this
    exact h.ty.1 this.2

end

abbrev MidS (Z : World) (p : Nat) (ta : Option Addr) (tn tc : Nat) (b : Bool) : World → Value → List NodeC → List NodeC → Nat → World → Value → Prop := MidP 81 Z p (.slice ta tn tc) (.bool b)

/-- The specification's parser under way: since the world w0, nodes ns in all, the list v holds zs, the boxes bx are the reader's. -/
def KS (Z : World) (p : Nat) (ta : Option Addr) (tn tc : Nat) (w0 : World) (nd0 : Value) (xs : List NodeC) (bx : List Nat) (ns : List NodeD) (i : Nat) (b : Bool) (w : World) (nd v : Value) (zs : List Int) : Prop :=
  ∃ ys, MidS Z p ta tn tc b w0 nd0 xs ys i w nd ∧ (xs ++ ys).map NodeC.d = ns ∧ OwnI w Z.heap.size v zs ∧ (∀ k, v.ownBlock = some k → w0.heap.size ≤ k ∧ k ∉ blksC (xs ++ ys)) ∧ ∀ k ∈ bx, BoxK Z p w0 w nd v (xs ++ ys) k

section
variable {Z w w0 w1 : World} {p i j q : Nat} {nd nd0 nd1 v : Value} {zs : List Int} {xs ys : List NodeC} {bx : List Nat} {ns : List NodeD} {ta : Option Addr} {tn tc : Nat} {ts : List Tok} {b b' g : Bool} {t : List NodeD}

theorem KS.start (h : SPS Z p ta tn tc b w i nd xs) : KS Z p ta tn tc w nd xs [] (xs.map NodeC.d) i b w nd nilL [] := ⟨[], MidP.start h, by rw [List.append_nil], own_nil _ _, (fun b hb => by simp [Value.ownBlock] at hb), fun k hk => by cases hk⟩

theorem KS.ps (h : KS Z p ta tn tc w0 nd0 xs bx ns i b w nd v zs) : ∃ XS, SPS Z p ta tn tc b w i nd XS ∧ XS.map NodeC.d = ns := by
  obtain ⟨ys, hm, hd, _⟩ := h
  exact ⟨xs ++ ys, hm.ps, hd⟩
theorem KS.low (h : KS Z p ta tn tc w0 nd0 xs bx ns i b w nd v zs) : Below Z.heap.size Z w := by
  obtain ⟨XS, hX, _⟩ := h.ps
  exact hX.low
theorem KS.all (h : KS Z p ta tn tc w0 nd0 xs bx ns i b w nd v zs) : w.cell? ⟨p, 0, none⟩ = some (.slice ta tn tc) ∧ w.cell? ⟨p, 1, none⟩ = some (.int .i64 (i : Nat)) ∧ w.cell? ⟨p, 2, none⟩ = some (.bool b) ∧ w.cell? ⟨p, 3, none⟩ = some nd ∧ w.frozen? ⟨p, 0, none⟩ = false ∧ w.frozen? ⟨p, 1, none⟩ = false ∧ w.frozen? ⟨p, 2, none⟩ = false ∧ w.frozen? ⟨p, 3, none⟩ = false ∧ p < w.heap.size := by
  obtain ⟨XS, hX, _⟩ := h.ps
  exact hX.all
theorem KS.ownR (h : KS Z p ta tn tc w0 nd0 xs bx ns i b w nd v zs) : w.ownsRow Z.heap.size 3 1 v zs.length (zs.map (Value.int .i64)) := by
  obtain ⟨ys, _, _, ho, _⟩ := h
  exact ho
theorem KS.slice (h : KS Z p ta tn tc w0 nd0 xs bx ns i b w nd v zs) : ∃ a c, v = .slice a zs.length c := own_slice h.ownR

/-- The parser goes on from w to w1; the list and the boxes stand. -/
theorem ks_go {us : List NodeC} (hm : MidS Z p ta tn tc b w0 nd0 xs ys i w nd) (ho : OwnI w Z.heap.size v zs) (hf : ∀ k, v.ownBlock = some k → w0.heap.size ≤ k ∧ k ∉ blksC (xs ++ ys)) (hx : ∀ k ∈ bx, BoxK Z p w0 w nd v (xs ++ ys) k) (hu : MidS Z p ta tn tc b' w nd (xs ++ ys) us j w1 nd1) : KS Z p ta tn tc w0 nd0 xs bx ((xs ++ ys ++ us).map NodeC.d) j b' w1 nd1 v zs ∧ BoxSame bx w w1 := by
  refine ⟨⟨ys ++ us, hm.go2 hu, by rw [← List.append_assoc], hm.ps.keepI hu.but ho, fun b hb => ⟨(hf b hb).1, ?_⟩, fun k hk => ?_⟩, fun k hk => ?_⟩
  · rw [← List.append_assoc, blksC_app]
    intro hb'
    rcases List.mem_append.1 hb' with h' | h'
    · exact (hf b hb).2 h'
    · have h1 := hu.new b h'
      obtain ⟨cur, hh, _⟩ := ownBlk_of ho hb
      have := lt_of_block hh
      omega
  · obtain ⟨h1, h2, h3, h4, h5, h6, h7⟩ := hx k hk
    refine ⟨h1, h2, Nat.lt_of_lt_of_le h3 hu.but.size, h4, fun e => ?_, fun hc => ?_, h7⟩
    · rcases hu.at_ with h' | h'
      · exact h5 (h' ▸ e)
      · have := h' k e; omega
    · rw [← List.append_assoc, blksC_app] at hc
      rcases List.mem_append.1 hc with h' | h'
      · exact h6 h'
      · have := hu.new k h'; omega
  · obtain ⟨h1, h2, h3, h4, h5, h6, h7⟩ := hx k hk
    exact hu.but.block k h3 (by rintro (rfl | e); exact h4 rfl; exact h5 e)

theorem KS.move (h : KS Z p ta tn tc w0 nd0 xs bx ns i b w nd v zs) (hg : ∀ XS, SPS Z p ta tn tc b w i nd XS → MidS Z p ta tn tc b' w nd XS [] j w1 nd) : KS Z p ta tn tc w0 nd0 xs bx ns j b' w1 nd v zs ∧ BoxSame bx w w1 := by
  obtain ⟨ys, hm, hd, ho, hf, hx⟩ := h
  have := ks_go hm ho hf hx (hg _ hm.ps)
  rwa [List.append_nil, hd] at this

theorem KS.below (h : KS Z p ta tn tc w0 nd0 xs bx ns i b w nd v zs) (hb : Below w.heap.size w w1) : KS Z p ta tn tc w0 nd0 xs bx ns i b w1 nd v zs := (h.move fun _ hX => (MidP.start hX).below hb).1
theorem KS.step (h : KS Z p ta tn tc w0 nd0 xs bx ns i b w nd v zs) (d : Nat) (z : Int) (hz : z = (i : Int) + (d : Nat)) : KS Z p ta tn tc w0 nd0 xs bx ns (i + d) b (w.setCell ⟨p, 1, none⟩ (.int .i64 z)) nd v zs := (h.move fun XS hX => by
  have e : z = ((i + d : Nat) : Int) := by omega
  subst e
  obtain ⟨h1, h2⟩ := hX.setAt (i + d)
  exact ⟨by rw [List.append_nil]; exact h1, h2, .inl rfl, fun b hb => by simp [blksC] at hb⟩).1
theorem KS.bad (h : KS Z p ta tn tc w0 nd0 xs bx ns i b w nd v zs) : KS Z p ta tn tc w0 nd0 xs bx ns i true (w.setCell ⟨p, 2, none⟩ (.bool true)) nd v zs := (h.move fun XS hX => by
  obtain ⟨h1, h2⟩ := hX.set2 (.bool true)
  exact ⟨by rw [List.append_nil]; exact h1, h2, .inl rfl, fun b hb => by simp [blksC] at hb⟩).1

theorem KS.via {f : Nat} {args : Array Value} {e0 : Ending} (h : KS Z p ta tn tc w0 nd0 xs bx ns i b w nd v zs) (hf : ∀ XS, SPS Z p ta tn tc b w i nd XS → Calls Tryz.prog f args w fun e w' => e = e0 ∧ MidS Z p ta tn tc b' w nd XS [] j w' nd) : Calls Tryz.prog f args w fun e w' => e = e0 ∧ KS Z p ta tn tc w0 nd0 xs bx ns j b' w' nd v zs ∧ BoxSame bx w w' := by
  obtain ⟨ys, hm, hd, ho, hf', hx⟩ := h
  refine (hf (xs ++ ys) hm.ps).mono ?_
  rintro e w' ⟨he, hm'⟩
  have := ks_go hm ho hf' hx hm'
  rw [List.append_nil, hd] at this
  exact ⟨he, this⟩

/-- What a reader of the specification has given: a place whose tree is t, if all is well (g). -/
def GaveS (Z : World) (p : Nat) (ta : Option Addr) (tn tc : Nat) (w0 : World) (nd0 : Value) (xs : List NodeC) (i : Nat) (g : Bool) (q : Nat) (t : List NodeD) (e : Ending) (w' : World) : Prop :=
  ∃ z nd' ns', e = .returned (.int .i64 z) ∧ KS Z p ta tn tc w0 nd0 xs [] ns' q (!g) w' nd' nilL [] ∧ i ≤ q ∧ ns'.length ≤ xs.length + 4 * (q - i) ∧ (g = true → ns'.length + 1 ≤ xs.length + 4 * (q - i) ∧ ∃ e' : Nat, z = e' ∧ TreeAt ns' e' t)

/-- A reader of the specification. -/
def ReadS (Z : World) (p : Nat) (ta : Option Addr) (tn tc : Nat) (f : Nat) (args : Array Value) (i : Nat) (g : Bool) (q : Nat) (t : List NodeD) : Prop :=
  ∀ w nd xs, SPS Z p ta tn tc false w i nd xs → xs.length + 4 * (5000 - i) ≤ 100000 → Calls Tryz.prog f args w (GaveS Z p ta tn tc w nd xs i g q t)

theorem KS.read {f : Nat} {args : Array Value} (hR : ReadS Z p ta tn tc f args i g q t) (h : KS Z p ta tn tc w0 nd0 xs bx ns i false w nd v zs) (hroom : ns.length + 4 * (5000 - i) ≤ 100000) :
    Calls Tryz.prog f args w fun e w' => ∃ z nd' ds, e = .returned (.int .i64 z) ∧ KS Z p ta tn tc w0 nd0 xs bx (ns ++ ds) q (!g) w' nd' v zs ∧ BoxSame bx w w' ∧ i ≤ q ∧ ds.length ≤ 4 * (q - i) ∧ (g = true → ds.length + 1 ≤ 4 * (q - i) ∧ ∃ e' : Nat, z = e' ∧ TreeAt (ns ++ ds) e' t) := by
  obtain ⟨ys, hm, hd, ho, hf, hx⟩ := h
  have hl : (xs ++ ys).length = ns.length := by rw [← hd, List.length_map]
  refine (hR w nd (xs ++ ys) hm.ps (by rw [hl]; exact hroom)).mono ?_
  rintro e w' ⟨z, nd', ns', rfl, ⟨us, hm', hd', _⟩, hiq, hln, ht⟩
  have e1 : ns' = ns ++ us.map NodeC.d := by rw [← hd', List.map_append, hd]
  have := ks_go hm ho hf hx hm'
  rw [List.map_append, hd] at this
  have hln' := hln
  rw [e1, List.length_append, hl] at hln'
  refine ⟨z, nd', us.map NodeC.d, rfl, this.1, this.2, hiq, by omega, fun hg => ?_⟩
  obtain ⟨h1, h2⟩ := ht hg
  rw [e1, List.length_append, hl] at h1
  exact ⟨by omega, by rw [← e1]; exact h2⟩

theorem KS.gave {e : Ending} {z : Int} (h : KS Z p ta tn tc w0 nd0 xs bx ns q (!g) w nd v zs) (he : e = .returned (.int .i64 z)) (hiq : i ≤ q) (hl : ns.length ≤ xs.length + 4 * (q - i)) (ht : g = true → ns.length + 1 ≤ xs.length + 4 * (q - i) ∧ ∃ e' : Nat, z = e' ∧ TreeAt ns e' t) : GaveS Z p ta tn tc w0 nd0 xs i g q t e w := by
  obtain ⟨ys, hm, hd, _⟩ := h
  exact ⟨z, nd, ns, he, ⟨ys, hm, hd, own_nil _ _, (fun b hb => by simp [Value.ownBlock] at hb), fun k hk => by cases hk⟩, hiq, hl, ht⟩

/-- A node put. -/
theorem KS.put {s2 : Option Addr} {n2 c2 : Nat} (h : KS Z p ta tn tc w0 nd0 xs bx ns i b w nd (.slice s2 n2 c2) zs) (k n m : Int) (s : ByteArray) (hlen : ns.length ≤ 1048576) :
    Calls Tryz.prog 45 #[.pointer (some ⟨p, 0, none⟩), .agg #[.int .i64 k, .int .i64 n, .int .i64 m, .string s, .slice none 0 0, .slice s2 n2 c2]] w fun e w' => e = .returned (.int .i64 (ns.length : Nat)) ∧ ∃ nd', KS Z p ta tn tc w0 nd0 xs [] (ns ++ [⟨k, n, m, s, [], zs⟩]) i b w' nd' nilL [] := by
  obtain ⟨ys, hm, hd, ho, hf, _⟩ := h
  have hl : (xs ++ ys).length = ns.length := by rw [← hd, List.length_map]
  have hbl : ∀ k, k ∈ (Value.slice none 0 0).ownBlock.toList ++ (Value.slice s2 n2 c2).ownBlock.toList → (Value.slice s2 n2 c2).ownBlock = some k := fun k hk => by simpa [Value.ownBlock, Option.mem_toList] using hk
  refine (putS Z p _ _ w i nd (xs ++ ys) hm.ps k n m s [] zs none s2 0 0 n2 c2 ⟨own_nil _ _, ho⟩ (fun k hk => (hf k (hbl k hk)).2) ?_ (by rw [hl]; exact hlen)).mono ?_
  · show ((Value.slice none 0 0).ownBlock.toList ++ (Value.slice s2 n2 c2).ownBlock.toList).Nodup
    cases h' : (Value.slice s2 n2 c2).ownBlock with
    | none => simp [Value.ownBlock]
    | some b => simp [Value.ownBlock]
  · rintro e w' ⟨rfl, nd', hs, hb, ha⟩
    refine ⟨by rw [hl], nd', _, hm.put hs hb ha (fun k hk => (hf k (hbl k hk)).1), ?_, own_nil _ _, (fun b hb => by simp [Value.ownBlock] at hb), fun k hk => by cases hk⟩
    rw [← List.append_assoc, List.map_append, hd]
    rfl

/-- Numbers put. -/
theorem KS.putN {s1 : Option Addr} {n1 c1 : Nat} (h : KS Z p ta tn tc w0 nd0 xs bx ns i b w nd (.slice s1 n1 c1) zs) (k n m : Int) (s : ByteArray) (hlen : ns.length ≤ 1048576) :
    Calls Tryz.prog 45 #[.pointer (some ⟨p, 0, none⟩), .agg #[.int .i64 k, .int .i64 n, .int .i64 m, .string s, .slice s1 n1 c1, .slice none 0 0]] w fun e w' => e = .returned (.int .i64 (ns.length : Nat)) ∧ ∃ nd', KS Z p ta tn tc w0 nd0 xs [] (ns ++ [⟨k, n, m, s, zs, []⟩]) i b w' nd' nilL [] := by
  obtain ⟨ys, hm, hd, ho, hf, _⟩ := h
  have hl : (xs ++ ys).length = ns.length := by rw [← hd, List.length_map]
  have hbl : ∀ k, k ∈ (Value.slice s1 n1 c1).ownBlock.toList ++ (Value.slice none 0 0).ownBlock.toList → (Value.slice s1 n1 c1).ownBlock = some k := fun k hk => by simpa [Value.ownBlock, Option.mem_toList] using hk
  refine (putS Z p _ _ w i nd (xs ++ ys) hm.ps k n m s zs [] s1 none n1 c1 0 0 ⟨ho, own_nil _ _⟩ (fun k hk => (hf k (hbl k hk)).2) ?_ (by rw [hl]; exact hlen)).mono ?_
  · show ((Value.slice s1 n1 c1).ownBlock.toList ++ (Value.slice none 0 0).ownBlock.toList).Nodup
    cases h' : (Value.slice s1 n1 c1).ownBlock with
    | none => simp [Value.ownBlock]
    | some b => simp [Value.ownBlock]
  · rintro e w' ⟨rfl, nd', hs, hb, ha⟩
    refine ⟨by rw [hl], nd', _, hm.put hs hb ha (fun k hk => (hf k (hbl k hk)).1), ?_, own_nil _ _, (fun b hb => by simp [Value.ownBlock] at hb), fun k hk => by cases hk⟩
    rw [← List.append_assoc, List.map_append, hd]
    rfl

/-- The list grown. -/
theorem KS.grow {w7 : World} {g cap : Nat} {us : List Int} {n : Nat} (h : KS Z p ta tn tc w0 nd0 xs bx ns i b w nd v zs) (hown : OwnI w7 Z.heap.size (.slice (some ⟨g, 0, none⟩) n cap) us) (hg : w.grownBy w7 v.ownBlock) (hat : v.ownBlock = some g ∨ g = w.heap.size) : KS Z p ta tn tc w0 nd0 xs bx ns i b w7 nd (.slice (some ⟨g, 0, none⟩) n cap) us ∧ BoxSame bx w w7 := by
  obtain ⟨ys, hm, hd, ho, hf, hx⟩ := h
  have hb : But (fun x => v.ownBlock = some x) w w7 := ⟨hg.os, hg.tape, hg.output, hg.size, fun k hk hn => hg.block k hk (fun e => hn e.symm)⟩
  have hty : ∀ k, v.ownBlock = some k → k ≠ p ∧ nd.ownBlock ≠ some k ∧ Z.heap.size ≤ k := fun k hk => by
    obtain ⟨cur, hh, hB⟩ := ownBlk_of ho hk
    refine ⟨fun e => ?_, fun e => ?_, hB⟩
    · rw [e, hm.ps.box] at hh
      have := Option.some.inj hh
      simp at this
    · obtain ⟨cur', hh', _⟩ := ownBlk_of hm.ps.own e
      rw [hh'] at hh
      have := Option.some.inj hh
      simp at this
  refine ⟨⟨ys, hm.but_ hb fun k hk => ⟨(hf k hk).1, (hty k hk).2.2, (hty k hk).1, (hty k hk).2.1, (hf k hk).2⟩, hd, hown, fun b hb' => ?_, fun k hk => ?_⟩, fun k hk => ?_⟩
  · have e : g = b := by simpa [Value.ownBlock] using hb'
    subst e
    rcases hat with h' | h'
    · exact hf g h'
    · refine ⟨by rw [h']; exact hm.but.size, fun hc => ?_⟩
      have := (hm.ps.blkLt hc).1
      omega
  · obtain ⟨h1, h2, h3, h4, h5, h6, h7⟩ := hx k hk
    refine ⟨h1, h2, Nat.lt_of_lt_of_le h3 hg.size, h4, h5, h6, fun e => ?_⟩
    have e' : g = k := by simpa [Value.ownBlock] using e
    rcases hat with h' | h'
    · exact h7 (e' ▸ h')
    · omega
  · obtain ⟨h1, h2, h3, h4, h5, h6, h7⟩ := hx k hk
    exact hg.block k h3 (fun e => h7 e.symm)

/-- A list of its own, made anew. -/
theorem KS.list (h : KS Z p ta tn tc w0 nd0 xs bx ns i b w nd v zs) (us : List Int) (hus : us.length ≤ 100) : KS Z p ta tn tc w0 nd0 xs bx ns i b (w.alloc (.cells (us.map (Value.int .i64)).toArray 3)) nd (.slice (some ⟨w.heap.size, 0, none⟩) us.length us.length) us := by
  have hb : Below w.heap.size w (w.alloc (.cells (us.map (Value.int .i64)).toArray 3)) := (Below.refl _ _).alloc (Nat.le_refl _) _
  obtain ⟨ys, hm, hd, ho, hf, hx⟩ := h
  have hblk : (w.alloc (.cells (us.map (Value.int .i64)).toArray 3)).heap[w.heap.size]? = some (.cells (us.map (Value.int .i64)).toArray 3 (0, 0)) := by
    show (w.heap.push _)[w.heap.size]? = _
    simp
  refine ⟨ys, hm.below hb, hd, ?_, fun b hb' => ?_, fun k hk => ?_⟩
  · unfold OwnI
    refine ⟨by simp, .inr ⟨w.heap.size, us.length, _, rfl, hm.ps.low.size, hblk, Nat.le_refl _, by unfold maxLen; omega, by simp, ?_⟩⟩
    rw [Nat.mul_one, List.toList_toArray]
    exact List.take_of_length_le (by simp)
  · have e : w.heap.size = b := by simpa [Value.ownBlock] using hb'
    subst e
    exact ⟨hm.but.size, fun hc => by have := (hm.ps.blkLt hc).1; omega⟩
  · obtain ⟨a1, a2, a3, a4, a5, a6, a7⟩ := hx k hk
    refine ⟨a1, a2, by simp; omega, a4, a5, a6, fun e => ?_⟩
    have e' : w.heap.size = k := by simpa [Value.ownBlock] using e
    omega

/-- A box more. -/
theorem KS.box (h : KS Z p ta tn tc w0 nd0 xs bx ns i b w nd v zs) (o : Obj) : KS Z p ta tn tc w0 nd0 xs (w.heap.size :: bx) ns i b (w.alloc o) nd v zs := by
  have hb : Below w.heap.size w (w.alloc o) := (Below.refl _ _).alloc (Nat.le_refl _) _
  obtain ⟨ys, hm, hd, ho, hf, hx⟩ := h
  refine ⟨ys, hm.below hb, hd, own_keep ho (fun g hg => hb.block g ((ownBlk_of ho hg).elim fun _ hc => lt_of_block hc.1)), hf, fun k hk => ?_⟩
  rcases List.mem_cons.1 hk with rfl | hk
  · refine ⟨hm.but.size, hm.ps.low.size, by simp, fun e => ?_, fun e => ?_, fun hc => ?_, fun e => ?_⟩
    · have := lt_of_block hm.ps.box; omega
    · have := hm.ps.ndLt e; omega
    · have := (hm.ps.blkLt hc).1; omega
    · obtain ⟨cur, hh, _⟩ := ownBlk_of ho e
      have := lt_of_block hh
      omega
  · obtain ⟨a1, a2, a3, a4⟩ := hx k hk
    exact ⟨a1, a2, by simp; omega, a4⟩

/-- A box written. -/
theorem KS.setBox {k q : Nat} {u : Value} (h : KS Z p ta tn tc w0 nd0 xs bx ns i b w nd v zs) (hk : k ∈ bx) : KS Z p ta tn tc w0 nd0 xs bx ns i b (w.setCell ⟨k, q, none⟩ u) nd v zs := by
  obtain ⟨ys, hm, hd, ho, hf, hx⟩ := h
  obtain ⟨h1, h2, h3, h4, h5, h6, h7⟩ := hx k hk
  have hb : But (fun x => x = k) w (w.setCell ⟨k, q, none⟩ u) := (But.refl (fun x => x = k) w).setCell (p := ⟨k, q, none⟩) rfl _
  refine ⟨ys, hm.but_ hb (fun j hj => by subst hj; exact ⟨h1, h2, h4, h5, h6⟩), hd, own_keep ho (fun g hg => hb.block g ((ownBlk_of ho hg).elim fun _ hc => lt_of_block hc.1) (fun e => h7 (e ▸ hg))), hf, fun j hj => ?_⟩
  obtain ⟨a1, a2, a3, a4⟩ := hx j hj
  exact ⟨a1, a2, by simpa using a3, a4⟩

/-- The list forgotten. -/
theorem KS.drop (h : KS Z p ta tn tc w0 nd0 xs bx ns i b w nd v zs) : KS Z p ta tn tc w0 nd0 xs bx ns i b w nd nilL [] := by
  obtain ⟨ys, hm, hd, _, _, hx⟩ := h
  exact ⟨ys, hm, hd, own_nil _ _, (fun b hb => by simp [Value.ownBlock] at hb), fun k hk => by obtain ⟨a1, a2, a3, a4, a5, a6, _⟩ := hx k hk; exact ⟨a1, a2, a3, a4, a5, a6, by simp [Value.ownBlock]⟩⟩

end
end Go.Proofs.YtmgjicgojlkpcaaGreatDoor
