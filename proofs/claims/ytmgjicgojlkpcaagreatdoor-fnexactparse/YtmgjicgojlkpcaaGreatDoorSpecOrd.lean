import Derived.Test.YtmgjicgojlkpcaaGreatDoorSpecRec2
namespace Go.Proofs.YtmgjicgojlkpcaaGreatDoor
open Go.RowKit

theorem tree_pos {ns : List NodeD} {e : Nat} {t : List NodeD} (h : TreeAt ns e t) : 0 < t.length := by
  cases h
  rw [tree_len]
  omega
theorem row_ge : ∀ (ls : List (List NodeD)), (∀ l ∈ ls, 0 < l.length) → ls.length ≤ (rowT ls).length
  | [], _ => Nat.zero_le _
  | l :: ls, h => by
    have h1 := row_ge ls fun x hx => h x (List.mem_cons_of_mem _ hx)
    have h2 := h l List.mem_cons_self
    rw [row_cons]
    show ls.length + 1 ≤ _
    omega
theorem trees_pos {ns : List NodeD} {es : List Nat} {ls : List (List NodeD)} (h : TreesAt ns es ls) : ∀ l ∈ ls, 0 < l.length := fun l hl => by
  obtain ⟨j, hj⟩ := List.mem_iff_getElem?.1 hl
  have hjl : j < ls.length := (List.getElem?_eq_some_iff.1 hj).1
  obtain ⟨a, h1, _, _⟩ := h.get hjl
  exact tree_pos (h.2 j a l h1 hj)

/-- Nodes that are put in order: the parser's nodes, and those that are out. -/
structure OutN (Z w : World) (nd : Value) (xs : List NodeC) (v : Value) (ys : List NodeC) : Prop where
  nodes : w.ownsRow Z.heap.size 47 6 nd xs.length (xs.flatMap NodeC.cells)
  lists : ∀ x ∈ xs, x.Ok w Z.heap.size
  own : w.ownsRow Z.heap.size 47 6 v ys.length (ys.flatMap NodeC.cells)
  outs : ∀ y ∈ ys, y.Ok w Z.heap.size
  ne : ∀ b, nd.ownBlock = some b → v.ownBlock ≠ some b
  low : Below Z.heap.size Z w

section
variable {Z w w1 : World} {nd v : Value} {xs ys : List NodeC}

theorem OutN.keepI (h : OutN Z w nd xs v ys) (hb : But (fun x => v.ownBlock = some x) w w1) {u : Value} {l : List Int} (ho : OwnI w Z.heap.size u l) : OwnI w1 Z.heap.size u l := by
  refine own_keep ho fun g hg => ?_
  obtain ⟨cur, hh, _⟩ := ownBlk_of ho hg
  refine hb.block g (lt_of_block hh) fun hn => ?_
  obtain ⟨cur', hh', _⟩ := ownBlk_of h.own hn
  rw [hh'] at hh
  have := Option.some.inj hh
  simp at this

theorem OutN.below (h : OutN Z w nd xs v ys) (hb : Below w.heap.size w w1) : OutN Z w1 nd xs v ys := by
  have hI : ∀ {u : Value} {l : List Int}, OwnI w Z.heap.size u l → OwnI w1 Z.heap.size u l := fun {u l} ho => own_keep ho fun g hg => hb.block g ((ownBlk_of ho hg).elim fun _ hc => lt_of_block hc.1)
  exact ⟨own_keep h.nodes fun g hg => hb.block g ((ownBlk_of h.nodes hg).elim fun _ hc => lt_of_block hc.1), fun x hx => ⟨hI (h.lists x hx).1, hI (h.lists x hx).2⟩, own_keep h.own fun g hg => hb.block g ((ownBlk_of h.own hg).elim fun _ hc => lt_of_block hc.1), fun y hy => ⟨hI (h.outs y hy).1, hI (h.outs y hy).2⟩, h.ne, h.low.trans (hb.mono h.low.size)⟩

/-- One more node is out. -/
theorem OutN.push (h : OutN Z w nd xs v ys) {W w7 : World} (hW : Below w.heap.size w W) {y : NodeC} (hy : y.Ok W Z.heap.size) {g cap : Nat}
    (hown : w7.ownsRow Z.heap.size 47 6 (.slice (some ⟨g, 0, none⟩) (ys.length + 1) cap) (ys.length + 1) (ys.flatMap NodeC.cells ++ y.cells)) (hg : W.grownBy w7 v.ownBlock) (hat : v.ownBlock = some g ∨ g = W.heap.size) :
    OutN Z w7 nd xs (.slice (some ⟨g, 0, none⟩) (ys.length + 1) cap) (ys ++ [y]) ∧ But (fun x => v.ownBlock = some x) w w7 ∧ ((Value.slice (some ⟨g, 0, none⟩) (ys.length + 1) cap).ownBlock = v.ownBlock ∨ ∀ b, (Value.slice (some ⟨g, 0, none⟩) (ys.length + 1) cap).ownBlock = some b → w.heap.size ≤ b) := by
  have hz := hW.size
  have h1 := h.below hW
  have hb : But (fun x => v.ownBlock = some x) W w7 := ⟨hg.os, hg.tape, hg.output, hg.size, fun k hk hn => hg.block k hk (fun e => hn e.symm)⟩
  have hz7 := hb.size
  have hnl : ∀ b, nd.ownBlock = some b → b < W.heap.size := fun b hb => (ownBlk_of h1.nodes hb).elim fun _ hc => lt_of_block hc.1
  refine ⟨⟨own_keep h1.nodes fun k hk => hb.block k (hnl k hk) (h1.ne k hk), fun x hx => ⟨h1.keepI hb (h1.lists x hx).1, h1.keepI hb (h1.lists x hx).2⟩, ?_, fun z hz => ?_, fun b hb' e => ?_, h1.low.trans ⟨hb.os, hb.tape, hb.output, hb.size, fun k hk => hb.block k (by have := h1.low.size; omega) fun e => ?_⟩⟩, ⟨hb.os.trans hW.os, hb.tape.trans hW.tape, hb.output.trans hW.output, by omega, fun k hk hn => (hb.block k (by omega) hn).trans (hW.block k hk)⟩, ?_⟩
  · rw [List.length_append, List.flatMap_append]
    simpa using hown
  · rcases List.mem_append.1 hz with hz | hz
    · exact ⟨h1.keepI hb (h1.outs z hz).1, h1.keepI hb (h1.outs z hz).2⟩
    · rw [List.mem_singleton] at hz
      subst hz
      exact ⟨h1.keepI hb hy.1, h1.keepI hb hy.2⟩
  · have e' : g = b := Option.some.inj e
    subst e'
    rcases hat with h2 | h2
    · exact h1.ne _ hb' h2
    · have := hnl _ hb'
      omega
  · obtain ⟨_, _, hB⟩ := ownBlk_of h1.own e
    omega
  · rcases hat with e | e
    · exact .inl e.symm
    · refine .inr fun b hb' => ?_
      have e' : g = b := Option.some.inj hb'
      omega

theorem blks_lt (h : ∀ x ∈ xs, x.Ok w Z.heap.size) {b : Nat} (hb : b ∈ blksC xs) : b < w.heap.size := by
  unfold blksC at hb
  obtain ⟨x, hx, hbx⟩ := List.mem_flatMap.1 hb
  unfold NodeC.blks at hbx
  rcases List.mem_append.1 hbx with h' | h'
  · exact (ownBlk_of (h x hx).1 (by simpa [Option.mem_toList] using h')).elim fun _ hc => lt_of_block hc.1
  · exact (ownBlk_of (h x hx).2 (by simpa [Option.mem_toList] using h')).elim fun _ hc => lt_of_block hc.1
theorem blks_in {x : NodeC} (hx : x ∈ xs) {b : Nat} (h : x.v4.ownBlock = some b ∨ x.v5.ownBlock = some b) : b ∈ blksC xs := by
  unfold blksC
  refine List.mem_flatMap.2 ⟨x, hx, ?_⟩
  unfold NodeC.blks
  rcases h with h | h
  · exact List.mem_append.2 (.inl (by simp [h]))
  · exact List.mem_append.2 (.inr (by simp [h]))

/-- A node as it lies among the parser's, with what is under it. -/
theorem OutN.got {e : Nat} {k n m : Int} {s : ByteArray} {nums : List Int} {ls : List (List NodeD)} (h : OutN Z w nd xs v ys) (ht : TreeAt (xs.map NodeC.d) e (treeN k n m s nums ls)) : ∃ nb nc a4 c4 a5 c5 es, nd = .slice (some ⟨nb, 0, none⟩) xs.length nc ∧ e < xs.length ∧ nb < w.heap.size ∧ w.cell? ⟨nb, e * 6, none⟩ = some (.int .i64 k) ∧ w.cell? ⟨nb, e * 6 + 1, none⟩ = some (.int .i64 n) ∧ w.cell? ⟨nb, e * 6 + 2, none⟩ = some (.int .i64 m) ∧ w.cell? ⟨nb, e * 6 + 3, none⟩ = some (.string s) ∧ w.cell? ⟨nb, e * 6 + 4, none⟩ = some (.slice a4 nums.length c4) ∧ w.cell? ⟨nb, e * 6 + 5, none⟩ = some (.slice a5 ls.length c5) ∧ (∀ w1 v1 ys1, OutN Z w1 nd xs v1 ys1 → OwnI w1 Z.heap.size (.slice a4 nums.length c4) nums ∧ OwnI w1 Z.heap.size (.slice a5 ls.length c5) (castL es)) ∧ (∀ b, (Value.slice a4 nums.length c4).ownBlock = some b → b ∈ blksC xs) ∧ TreesAt (xs.map NodeC.d) es ls ∧ (∀ a ∈ es, a < e) ∧ cntOk k ls.length := by
  obtain ⟨es, hn, hts, hlt, hc⟩ := ht.inv
  have hxl : (xs.map NodeC.d).length = xs.length := List.length_map ..
  have hez : e < xs.length := by rw [← hxl]; exact ht.lt
  obtain ⟨x, hx⟩ : ∃ x, xs[e]? = some x := ⟨_, List.getElem?_eq_getElem hez⟩
  have hxd : x.d = ⟨k, n, m, s, nums, castL es⟩ := by
    have h' := hn
    rw [List.getElem?_map, hx] at h'
    exact Option.some.inj h'
  obtain ⟨hl4, hl5⟩ := h.lists x (List.mem_of_getElem? hx)
  obtain ⟨a4, c4, e4⟩ := own_slice hl4
  obtain ⟨a5, c5, e5⟩ := own_slice hl5
  have hk5 : (castL es).length = ls.length := by rw [castL, List.length_map]; exact hts.1
  rw [hxd] at hl4 hl5 e4 e5
  dsimp only at hl4 hl5 e4 e5
  rw [hk5] at e5
  rcases own_at h.nodes with ⟨_, h0⟩ | ⟨nb, nc, rfl, hnb, _, _, hcn⟩
  · omega
  have hk : ∀ q u, q < 6 → x.cells[q]? = some u → w.cell? ⟨nb, e * 6 + q, none⟩ = some u := fun q u hq hu' => by
    exact hcn _ _ ((flatN_get xs e q x hx hq).trans hu')
  refine ⟨nb, nc, a4, c4, a5, c5, es, rfl, hez, hnb, ?_, ?_, ?_, ?_, ?_, ?_, fun w1 v1 ys1 h1 => ?_, fun b hb => blks_in (List.mem_of_getElem? hx) (.inl (by rw [e4]; exact hb)), hts, hlt, hc⟩
  · exact hk 0 _ (by omega) (by unfold NodeC.cells; rw [hxd]; rfl)
  · exact hk 1 _ (by omega) (by unfold NodeC.cells; rw [hxd]; rfl)
  · exact hk 2 _ (by omega) (by unfold NodeC.cells; rw [hxd]; rfl)
  · exact hk 3 _ (by omega) (by unfold NodeC.cells; rw [hxd]; rfl)
  · exact hk 4 _ (by omega) (by unfold NodeC.cells; rw [e4]; rfl)
  · exact hk 5 _ (by omega) (by unfold NodeC.cells; rw [e5]; rfl)
  · have h2 := h1.lists x (List.mem_of_getElem? hx)
    unfold NodeC.Ok at h2
    rw [hxd, e4, e5] at h2
    exact h2

/-- One node and all under it, put behind others. -/
def OrdP (Z : World) (nd : Value) (xs : List NodeC) (e : Nat) (t : List NodeD) : Prop :=
  ∀ w v ys, OutN Z w nd xs v ys → ys.length + t.length ≤ 100000 → Calls Tryz.prog 46 #[nd, .int .i64 (e : Nat), v] w fun e' w' => ∃ v' ys', e' = .returned v' ∧ OutN Z w' nd xs v' (ys ++ ys') ∧ ys'.map NodeC.d = shiftN ys.length t ∧ (∀ b ∈ blksC ys', b ∈ blksC xs ∨ w.heap.size ≤ b) ∧ But (fun x => v.ownBlock = some x) w w' ∧ (v'.ownBlock = v.ownBlock ∨ ∀ b, v'.ownBlock = some b → w.heap.size ≤ b)

/-- l2Order under way since w0: what is out, the list of kids kv, the node's box B. -/
structure OrdK (Z w0 : World) (v0 nd : Value) (xs ys : List NodeC) (B : Nat) (o : Obj) (w : World) (v : Value) (zs : List NodeC) (kv : Value) (cs : List Int) : Prop where
  out : OutN Z w nd xs v (ys ++ zs)
  kids : OwnI w Z.heap.size kv cs
  box : w.heap[B]? = some o
  vB : v.ownBlock ≠ some B
  nB : nd.ownBlock ≠ some B
  kB : kv.ownBlock ≠ some B
  new : w0.heap.size ≤ B
  zB : Z.heap.size ≤ B
  but : But (fun x => v0.ownBlock = some x) w0 w
  at_ : v.ownBlock = v0.ownBlock ∨ ∀ b, v.ownBlock = some b → w0.heap.size ≤ b
  kap : ∀ b, kv.ownBlock = some b → w0.heap.size ≤ b ∧ b ∉ blksC xs ∧ b ∉ blksC (ys ++ zs)
  fresh : ∀ b ∈ blksC zs, b ∈ blksC xs ∨ w0.heap.size ≤ b

variable {w0 : World} {v0 kv : Value} {B : Nat} {o : Obj} {cs : List Int} {zs : List NodeC}

theorem OrdK.below (h : OrdK Z w0 v0 nd xs ys B o w v zs kv cs) (hb : Below w.heap.size w w1) : OrdK Z w0 v0 nd xs ys B o w1 v zs kv cs :=
  ⟨h.out.below hb, own_keep h.kids fun g hg => hb.block g ((ownBlk_of h.kids hg).elim fun _ hc => lt_of_block hc.1), (hb.block B (lt_of_block h.box)).trans h.box, h.vB, h.nB, h.kB, h.new, h.zB, ⟨hb.os.trans h.but.os, hb.tape.trans h.but.tape, hb.output.trans h.but.output, Nat.le_trans h.but.size hb.size, fun k hk hn => (hb.block k (Nat.lt_of_lt_of_le hk h.but.size)).trans (h.but.block k hk hn)⟩, h.at_, h.kap, h.fresh⟩

/-- A kid and all under it are put. -/
theorem OrdK.kid {v' : Value} {ys' : List NodeC} {w' : World} (h : OrdK Z w0 v0 nd xs ys B o w v zs kv cs) (ho : OutN Z w' nd xs v' (ys ++ zs ++ ys')) (hf : ∀ b ∈ blksC ys', b ∈ blksC xs ∨ w.heap.size ≤ b) (hb : But (fun x => v.ownBlock = some x) w w') (hat : v'.ownBlock = v.ownBlock ∨ ∀ b, v'.ownBlock = some b → w.heap.size ≤ b) : OrdK Z w0 v0 nd xs ys B o w' v' (zs ++ ys') kv cs := by
  have hz := h.but.size
  have hBl := lt_of_block h.box
  refine ⟨by rw [← List.append_assoc]; exact ho, h.out.keepI hb h.kids, (hb.block B hBl h.vB).trans h.box, fun e => ?_, h.nB, h.kB, h.new, h.zB, ⟨hb.os.trans h.but.os, hb.tape.trans h.but.tape, hb.output.trans h.but.output, Nat.le_trans hz hb.size, fun k hk hn => ?_⟩, ?_, fun b hb' => ?_, fun b hb' => ?_⟩
  · rcases hat with h1 | h1
    · exact h.vB (h1 ▸ e)
    · have := h1 B e
      omega
  · refine (hb.block k (by omega) fun e => ?_).trans (h.but.block k hk hn)
    rcases h.at_ with h1 | h1
    · exact hn (h1 ▸ e)
    · have := h1 k e
      omega
  · rcases hat with h1 | h1
    · rw [h1]
      exact h.at_
    · exact .inr fun b hb' => by have := h1 b hb'; omega
  · obtain ⟨k1, k2, k3⟩ := h.kap b hb'
    refine ⟨k1, k2, fun e => ?_⟩
    rw [← List.append_assoc, blksC_app] at e
    rcases List.mem_append.1 e with e | e
    · exact k3 e
    · rcases hf b e with e | e
      · exact k2 e
      · have := (ownBlk_of h.kids hb').elim fun _ hc => lt_of_block hc.1
        omega
  · rw [blksC_app] at hb'
    rcases List.mem_append.1 hb' with e | e
    · exact h.fresh b e
    · rcases hf b e with e | e
      · exact .inl e
      · exact .inr (by omega)

/-- One more place among the kids. -/
theorem OrdK.grow {w7 : World} {g cap n : Nat} {us : List Int} (h : OrdK Z w0 v0 nd xs ys B o w v zs kv cs) (hown : OwnI w7 Z.heap.size (.slice (some ⟨g, 0, none⟩) n cap) us) (hg : w.grownBy w7 kv.ownBlock) (hat : kv.ownBlock = some g ∨ g = w.heap.size) : OrdK Z w0 v0 nd xs ys B o w7 v zs (.slice (some ⟨g, 0, none⟩) n cap) us := by
  have hz := h.but.size
  have hzl := h.out.low.size
  have hBl := lt_of_block h.box
  have hb : But (fun x => kv.ownBlock = some x) w w7 := ⟨hg.os, hg.tape, hg.output, hg.size, fun k hk hn => hg.block k hk (fun e => hn e.symm)⟩
  have hN : ∀ {u : Value} {n : Nat} {l : List Value}, w.ownsRow Z.heap.size 47 6 u n l → w7.ownsRow Z.heap.size 47 6 u n l := fun {u n l} ho => own_keep ho fun k hk => by
    obtain ⟨cur, hh, _⟩ := ownBlk_of ho hk
    refine hb.block k (lt_of_block hh) fun e => ?_
    obtain ⟨cur', hh', _⟩ := ownBlk_of h.kids e
    rw [hh'] at hh
    have := Option.some.inj hh
    simp at this
  have hI : ∀ {u : Value} {l : List Int}, (∀ b, u.ownBlock = some b → kv.ownBlock ≠ some b) → OwnI w Z.heap.size u l → OwnI w7 Z.heap.size u l := fun {u l} hd ho => own_keep ho fun k hk => hb.block k ((ownBlk_of ho hk).elim fun _ hc => lt_of_block hc.1) (hd k hk)
  have hx : ∀ x ∈ xs, x.Ok w7 Z.heap.size := fun x hx => ⟨hI (fun b hb e => (h.kap b e).2.1 (blks_in hx (.inl hb))) (h.out.lists x hx).1, hI (fun b hb e => (h.kap b e).2.1 (blks_in hx (.inr hb))) (h.out.lists x hx).2⟩
  have hy : ∀ y ∈ ys ++ zs, y.Ok w7 Z.heap.size := fun y hy => ⟨hI (fun b hb e => (h.kap b e).2.2 (blks_in hy (.inl hb))) (h.out.outs y hy).1, hI (fun b hb e => (h.kap b e).2.2 (blks_in hy (.inr hb))) (h.out.outs y hy).2⟩
  refine ⟨⟨hN h.out.nodes, hx, hN h.out.own, hy, h.out.ne, h.out.low.trans ⟨hb.os, hb.tape, hb.output, hb.size, fun k hk => hb.block k (by omega) fun e => ?_⟩⟩, hown, (hb.block B hBl h.kB).trans h.box, h.vB, h.nB, fun e => ?_, h.new, h.zB, ⟨hb.os.trans h.but.os, hb.tape.trans h.but.tape, hb.output.trans h.but.output, Nat.le_trans hz hb.size, fun k hk hn => (hb.block k (by omega) fun e => ?_).trans (h.but.block k hk hn)⟩, h.at_, fun b hb' => ?_, h.fresh⟩
  · obtain ⟨_, _, hB⟩ := ownBlk_of h.kids e
    omega
  · have e' : g = B := Option.some.inj e
    rcases hat with h1 | h1
    · exact h.kB (e' ▸ h1)
    · omega
  · have := (h.kap k e).1
    omega
  · have e' : g = b := Option.some.inj hb'
    subst e'
    rcases hat with h1 | h1
    · exact h.kap _ h1
    · refine ⟨by omega, fun e => ?_, fun e => ?_⟩
      · have := blks_lt h.out.lists e
        omega
      · have := blks_lt h.out.outs e
        omega

/-- At the start: the node's box, and an empty list. -/
theorem OrdK.start (h : OutN Z w nd xs v ys) (o : Obj) : OrdK Z w v nd xs ys w.heap.size o ((w.alloc o).alloc (.cells #[] 3)) v [] (.slice (some ⟨w.heap.size + 1, 0, none⟩) 0 0) [] := by
  have hb : Below w.heap.size w ((w.alloc o).alloc (.cells #[] 3)) := ((Below.refl _ _).alloc (Nat.le_refl _) _).alloc (by simp) _
  have hzl := h.low.size
  have h1 : (w.alloc o).heap.size = w.heap.size + 1 := by simp
  have hblk : ((w.alloc o).alloc (.cells #[] 3)).heap[w.heap.size + 1]? = some (.cells #[] 3 (0, 0)) := by
    rw [← h1]
    exact Array.getElem?_push_size
  have hbox : ((w.alloc o).alloc (.cells #[] 3)).heap[w.heap.size]? = some o := by
    rw [Below.heap_alloc _ _ _ (by simp)]
    show (w.heap.push _)[w.heap.size]? = _
    simp
  refine ⟨by rw [List.append_nil]; exact h.below hb, ?_, hbox, fun e => ?_, fun e => ?_, fun e => ?_, Nat.le_refl _, hzl, But.of_below hb, .inl rfl, fun b hb' => ?_, fun b hb' => by simp [blksC] at hb'⟩
  · unfold OwnI
    exact ⟨rfl, .inr ⟨w.heap.size + 1, 0, _, rfl, by omega, hblk, Nat.le_refl _, by unfold maxLen; omega, by simp, by simp⟩⟩
  · have := (ownBlk_of h.own e).elim fun _ hc => lt_of_block hc.1
    omega
  · have := (ownBlk_of h.nodes e).elim fun _ hc => lt_of_block hc.1
    omega
  · have e' : w.heap.size + 1 = w.heap.size := Option.some.inj e
    omega
  · have e' : w.heap.size + 1 = b := Option.some.inj hb'
    subst e'
    refine ⟨by omega, fun e => ?_, fun e => ?_⟩
    · have := blks_lt h.lists e
      omega
    · rw [List.append_nil] at e
      have := blks_lt h.outs e
      omega

/-- The kids are stored in the node's box. -/
theorem OrdK.setB {arr : Array Value} {fr : Nat × Nat} (h : OrdK Z w0 v0 nd xs ys B (.cells arr 47 fr) w v zs kv cs) (u : Value) : OutN Z (w.setCell ⟨B, 5, none⟩ u) nd xs v (ys ++ zs) ∧ OwnI (w.setCell ⟨B, 5, none⟩ u) Z.heap.size kv cs ∧ But (fun x => v0.ownBlock = some x) w0 (w.setCell ⟨B, 5, none⟩ u) := by
  have hblk : ∀ k, k ≠ B → (w.setCell ⟨B, 5, none⟩ u).heap[k]? = w.heap[k]? := fun k hk => heap_setCell_other w ⟨B, 5, none⟩ k _ hk
  have hI : ∀ {x : Value} {l : List Int}, OwnI w Z.heap.size x l → OwnI (w.setCell ⟨B, 5, none⟩ u) Z.heap.size x l := fun {x l} ho => own_keep ho fun k hk => hblk k fun e => by
    obtain ⟨cur, hh, _⟩ := ownBlk_of ho hk
    rw [e, h.box] at hh
    have := Option.some.inj hh
    simp at this
  have hlow := h.out.low
  have hz := h.but.size
  have hZ := h.zB
  refine ⟨⟨own_keep h.out.nodes fun k hk => hblk k fun e => h.nB (e ▸ hk), fun x hx => ⟨hI (h.out.lists x hx).1, hI (h.out.lists x hx).2⟩, own_keep h.out.own fun k hk => hblk k fun e => h.vB (e ▸ hk), fun y hy => ⟨hI (h.out.outs y hy).1, hI (h.out.outs y hy).2⟩, h.out.ne, ⟨hlow.os, hlow.tape, hlow.output, by simpa using hlow.size, fun k hk => (hblk k (by omega)).trans (hlow.block k hk)⟩⟩, hI h.kids, ⟨h.but.os, h.but.tape, h.but.output, by simpa using hz, fun k hk hn => (hblk k (by have := h.new; omega)).trans (h.but.block k hk hn)⟩⟩

/-- The node itself is put behind all under it. -/
theorem OrdK.done {arr : Array Value} {fr : Nat × Nat} {k n m : Int} {s : ByteArray} {nums : List Int} {v4 : Value} {w7 : World} {g cap : Nat} (h : OrdK Z w0 v0 nd xs ys B (.cells arr 47 fr) w v zs kv cs) (h4 : OwnI w Z.heap.size v4 nums) (hk4 : ∀ b, v4.ownBlock = some b → b ∈ blksC xs) (o : Obj)
    (hown : w7.ownsRow Z.heap.size 47 6 (.slice (some ⟨g, 0, none⟩) ((ys ++ zs).length + 1) cap) ((ys ++ zs).length + 1) ((ys ++ zs).flatMap NodeC.cells ++ [.int .i64 k, .int .i64 n, .int .i64 m, .string s, v4, kv])) (hg : ((w.setCell ⟨B, 5, none⟩ kv).alloc o).grownBy w7 v.ownBlock) (hat : v.ownBlock = some g ∨ g = w.heap.size + 1) :
    ∃ ys', OutN Z w7 nd xs (.slice (some ⟨g, 0, none⟩) ((ys ++ zs).length + 1) cap) (ys ++ ys') ∧ ys'.map NodeC.d = zs.map NodeC.d ++ [⟨k, n, m, s, nums, cs⟩] ∧ (∀ b ∈ blksC ys', b ∈ blksC xs ∨ w0.heap.size ≤ b) ∧ But (fun x => v0.ownBlock = some x) w0 w7 ∧ ((Value.slice (some ⟨g, 0, none⟩) ((ys ++ zs).length + 1) cap).ownBlock = v0.ownBlock ∨ ∀ b, (Value.slice (some ⟨g, 0, none⟩) ((ys ++ zs).length + 1) cap).ownBlock = some b → w0.heap.size ≤ b) := by
  obtain ⟨h1, h2, h3⟩ := h.setB kv
  have hz : (w.setCell ⟨B, 5, none⟩ kv).heap.size = w.heap.size := by simp
  have hz0 := h.but.size
  have hblk : ∀ k, k ≠ B → (w.setCell ⟨B, 5, none⟩ kv).heap[k]? = w.heap[k]? := fun k hk => heap_setCell_other w ⟨B, 5, none⟩ k _ hk
  have h4' : OwnI (w.setCell ⟨B, 5, none⟩ kv) Z.heap.size v4 nums := own_keep h4 fun k hk => hblk k fun e => by
    obtain ⟨cur, hh, _⟩ := ownBlk_of h4 hk
    rw [e, h.box] at hh
    have := Option.some.inj hh
    simp at this
  have hW : Below (w.setCell ⟨B, 5, none⟩ kv).heap.size (w.setCell ⟨B, 5, none⟩ kv) ((w.setCell ⟨B, 5, none⟩ kv).alloc o) := (Below.refl _ _).alloc (Nat.le_refl _) _
  have hI : ∀ {x : Value} {l : List Int}, OwnI (w.setCell ⟨B, 5, none⟩ kv) Z.heap.size x l → OwnI ((w.setCell ⟨B, 5, none⟩ kv).alloc o) Z.heap.size x l := fun {x l} ho => own_keep ho fun k hk => hW.block k ((ownBlk_of ho hk).elim fun _ hc => lt_of_block hc.1)
  obtain ⟨ho, hb, ha⟩ := h1.push hW (y := ⟨⟨k, n, m, s, nums, cs⟩, v4, kv⟩) ⟨hI h4', hI h2⟩ hown hg (hat.imp id fun e => by rw [e]; simp)
  refine ⟨zs ++ [⟨⟨k, n, m, s, nums, cs⟩, v4, kv⟩], by rw [← List.append_assoc]; exact ho, by rw [List.map_append]; rfl, fun b hb' => ?_, ⟨hb.os.trans h3.os, hb.tape.trans h3.tape, hb.output.trans h3.output, Nat.le_trans h3.size hb.size, fun k hk hn => (hb.block k (by omega) fun e => ?_).trans (h3.block k hk hn)⟩, ?_⟩
  · rw [blksC_app] at hb'
    rcases List.mem_append.1 hb' with e | e
    · exact h.fresh b e
    · have e' : b ∈ v4.ownBlock.toList ++ kv.ownBlock.toList := by simpa [blksC, NodeC.blks] using e
      rcases List.mem_append.1 e' with e | e
      · exact .inl (hk4 b (by simpa [Option.mem_toList] using e))
      · exact .inr (h.kap b (by simpa [Option.mem_toList] using e)).1
  · rcases h.at_ with h5 | h5
    · exact hn (h5 ▸ e)
    · have := h5 k e
      omega
  · rcases ha with h5 | h5
    · rw [h5]
      exact h.at_
    · exact .inr fun b hb' => by have := h5 b hb'; omega

end
end Go.Proofs.YtmgjicgojlkpcaaGreatDoor
