import Derived.Test.YtogmcecnckgcpaaMWith
import Derived.Test.YtogmcecnckgcpaaSpecWider
import Derived.Test.YtogmcecnckgcpaaMStage
import Derived.Deep.RegionHeld3
import Derived.Deep.AppendLies
namespace Go.Proofs.Ytogmcecnckgcpaa
open Go.RowKit

/-- A slot is laid, or not yet. -/
def pt (b : Bool) (d : Nat) (v : Value) (a : Act) : Act := if b then a.put (some d) v else a

theorem pt_comm (b : Bool) (d e : Nat) (v u : Value) (a : Act) (h : d ≠ e) : (pt b d v a).put (some e) u = pt b d v (a.put (some e) u) := by
  cases b with
  | false => rfl
  | true => exact Act.put_comm a v u (x := some d) (y := some e) (by simp; exact fun hy => h hy.symm)

theorem pt_eval (b : Bool) (d e : Nat) (v : Value) (a : Act) (h : d ≠ e) : (pt b d v a).eval (.tmp e) = a.eval (.tmp e) := by
  cases b with
  | false => rfl
  | true => exact Act.eval_put (dst := some d) (x := .tmp e) (by simp; exact fun hy => h hy.symm)

theorem pt_same (d : Nat) (v : Value) (a : Act) (h : d < a.tmps.size) : (pt true d v a).eval (.tmp d) = v := by
  simp [pt, Act.eval, Act.put, h]

theorem pt_size (b : Bool) (d : Nat) (v : Value) (a : Act) : (pt b d v a).tmps.size = a.tmps.size := by
  cases b <;> simp [pt, Act.put]

theorem owns_other {w : World} {base n p : Nat} {v : Value} {xs : List Value} (h : w.ownsRow base 3 1 v n xs) (hp : v.ownBlock ≠ some p) (o : Nat) (u : Value) : (w.setCell ⟨p, o, none⟩ u).ownsRow base 3 1 v n xs := by
  refine ⟨h.1, ?_⟩
  rcases h.2 with h0 | ⟨g, cap, cur, rfl, hg, hcur, hr⟩
  · exact .inl h0
  · exact .inr ⟨g, cap, cur, rfl, hg, (heap_setCell_other w ⟨p, o, none⟩ g u (fun k => hp (congrArg some k))).trans hcur, hr⟩

/-- As Laid, and the shape's slice is a block's beginning, no longer than its capacity. -/
def LaidT (w2 : World) (c : Bool) (m : Nat) (zs : List Int) (r : Value) (wx : World) : Prop :=
  ∃ p g b csh, r = .pointer (some ⟨p, 0, none⟩) ∧ Box wx p c (.slice (some ⟨b, 0, none⟩) m csh) (.slice (some ⟨g, 0, none⟩) 0 0) ∧ Blk wx g [] ∧ Own wx w2.heap.size (some ⟨b, 0, none⟩) m zs ∧ Below w2.heap.size w2 wx ∧ w2.heap.size ≤ p ∧ w2.heap.size ≤ g ∧ (∀ x, At (some ⟨b, 0, none⟩) m x → x ≠ g) ∧ m ≤ csh

theorem owns_cap {w : World} {base e size n cap : Nat} {a : Addr} {xs : List Value} (h : w.ownsRow base e size (.slice (some a) n cap) n xs) : n ≤ cap := by
  rcases h.2 with ⟨h0, _⟩ | ⟨g, cap', cur, h0, _, _, h1, _⟩
  · cases h0
  · cases h0; exact h1

def n4 (b : Bool) : Nat := if b then 0 else 1

/-- What lies in memory while a new array is laid whose shape is another's front and a number more. -/
structure InT (W : World) (fr : List Int) (x : Int) (nf : Nat) (dC dM dP dE dZ : Bool) (cv pv : Value) (m e z : Nat) (w : World) : Prop where
  hb : Below W.heap.size W w
  hC : dC = true → dP = false → w.ownsRow W.heap.size 3 1 cv nf (fr.map (Value.int .i64))
  hM : dM = true → dP = false → Blk w m [x]
  hP : dP = true → w.ownsRow W.heap.size 3 1 pv (nf + 1) ((fr ++ [x]).map (Value.int .i64))
  hE : dE = true → Blk w e [] ∧ W.heap.size ≤ e
  hZ : dZ = true → Box w z false (.slice none 0 0) (.slice none 0 0) ∧ W.heap.size ≤ z
  hce : dC = true → dP = false → dE = true → cv.ownBlock ≠ some e
  hcz : dC = true → dP = false → dZ = true → cv.ownBlock ≠ some z
  hpe : dP = true → dE = true → pv.ownBlock ≠ some e
  hpz : dP = true → dZ = true → pv.ownBlock ≠ some z

section
variable {W : World} {fr : List Int} {x : Int} {nf : Nat} {dC dM dP dE dZ : Bool} {cv pv : Value} {m e z : Nat} {w w' : World}

theorem InT.below (h : InT W fr x nf dC dM dP dE dZ cv pv m e z w) (hb : Below w.heap.size w w') : InT W fr x nf dC dM dP dE dZ cv pv m e z w' where
  hb := h.hb.trans (hb.mono h.hb.size)
  hC := fun a b => owns_below (h.hC a b) (Nat.le_refl _) hb
  hM := fun a b => (h.hM a b).below (Nat.le_refl _) hb
  hP := fun a => owns_below (h.hP a) (Nat.le_refl _) hb
  hE := fun a => ⟨(h.hE a).1.below (Nat.le_refl _) hb, (h.hE a).2⟩
  hZ := fun a => ⟨(h.hZ a).1.below (Nat.le_refl _) hb, (h.hZ a).2⟩
  hce := h.hce
  hcz := h.hcz
  hpe := h.hpe
  hpz := h.hpz

theorem InT.alloc (h : InT W fr x nf dC dM dP dE dZ cv pv m e z w) (o : Obj) : InT W fr x nf dC dM dP dE dZ cv pv m e z (w.alloc o) := h.below ((Below.refl _ _).alloc (Nat.le_refl _) _)

theorem InT.C {v : Value} (h : InT W fr x nf false dM dP dE dZ cv pv m e z w) (hb : Below w.heap.size w w') (ho : w'.ownsRow w.heap.size 3 1 v nf (fr.map (Value.int .i64))) : InT W fr x nf true dM dP dE dZ v pv m e z w' := by
  have h' := h.below hb
  exact ⟨h'.hb, fun _ _ => owns_mono ho h.hb.size, h'.hM, h'.hP, h'.hE, h'.hZ, fun _ _ a k => by have := owns_ge ho _ k; have := (h.hE a).1.lt; omega, fun _ _ a k => by have := owns_ge ho _ k; have := (h.hZ a).1.lt; omega, h'.hpe, h'.hpz⟩

theorem InT.M (h : InT W fr x nf dC false dP dE dZ cv pv m e z w) : InT W fr x nf dC true dP dE dZ cv pv w.heap.size e z (w.alloc (.cells #[.int .i64 x] 3)) := by
  have h' := h.alloc (.cells #[.int .i64 x] 3)
  exact ⟨h'.hb, h'.hC, fun _ _ => World.alloc_heap_new w _, h'.hP, h'.hE, h'.hZ, h'.hce, h'.hcz, h'.hpe, h'.hpz⟩

theorem InT.E (h : InT W fr x nf dC dM dP false dZ cv pv m e z w) : InT W fr x nf dC dM dP true dZ cv pv m w.heap.size z (w.alloc (.cells #[] 3)) := by
  have h' := h.alloc (.cells #[] 3)
  exact ⟨h'.hb, h'.hC, h'.hM, h'.hP, fun _ => ⟨Blk.new w, h.hb.size⟩, h'.hZ, fun a b _ k => by have := owns_lt (h.hC a b) k; omega, h'.hcz, fun a _ k => by have := owns_lt (h.hP a) k; omega, h'.hpz⟩

theorem InT.Z (h : InT W fr x nf dC dM dP dE false cv pv m e z w) : InT W fr x nf dC dM dP dE true cv pv m e w.heap.size (w.alloc (.cells #[.bool false, .slice none 0 0, .slice none 0 0] 27)) := by
  have h' := h.alloc (.cells #[.bool false, .slice none 0 0, .slice none 0 0] 27)
  exact ⟨h'.hb, h'.hC, h'.hM, h'.hP, h'.hE, fun _ => ⟨Box.new w _ _ _, h.hb.size⟩, h'.hce, fun a b _ k => by have := owns_lt (h.hC a b) k; omega, h'.hpe, fun a _ k => by have := owns_lt (h.hP a) k; omega⟩

theorem InT.P {g cap : Nat} (h : InT W fr x nf true true false dE dZ cv pv m e z w) (ho : w'.ownsRow W.heap.size 3 1 (.slice (some ⟨g, 0, none⟩) (nf + 1) cap) (nf + 1) (fr.map (Value.int .i64) ++ [.int .i64 x])) (hg : w.grownBy w' cv.ownBlock) (hat : cv.ownBlock = some g ∨ g = w.heap.size) :
    InT W fr x nf true true true dE dZ cv (.slice (some ⟨g, 0, none⟩) (nf + 1) cap) m e z w' where
  hb := h.hb.grown hg h.hb.size (owns_ge (h.hC rfl rfl))
  hC := fun _ k => by cases k
  hM := fun _ k => by cases k
  hP := fun _ => by rw [List.map_append]; exact ho
  hE := fun a => ⟨(hg.block e (h.hE a).1.lt (fun k => h.hce rfl rfl a (by first | exact k | exact k.symm))).trans (h.hE a).1, (h.hE a).2⟩
  hZ := fun a => ⟨(hg.block z (h.hZ a).1.lt (fun k => h.hcz rfl rfl a (by first | exact k | exact k.symm))).trans (h.hZ a).1, (h.hZ a).2⟩
  hce := fun _ k => by cases k
  hcz := fun _ k => by cases k
  hpe := fun _ a k => by
    obtain rfl : g = e := Option.some.inj k
    rcases hat with h1 | h1
    · exact h.hce rfl rfl a h1
    · have := (h.hE a).1.lt; omega
  hpz := fun _ a k => by
    obtain rfl : g = z := Option.some.inj k
    rcases hat with h1 | h1
    · exact h.hcz rfl rfl a h1
    · have := (h.hZ a).1.lt; omega
end

section
variable {ops : Array Oper} {Q : Exit → Act → World → Prop} {K : Act → World → Prop} {a : Act} {w : World}

theorem op_go {i : Nat} {o : Oper} (hi : ops[i]? = some o) (hg : Region.wanted o (yielded ops a.tmps) = true) (h : o.wp Try.prog a w K Q) : wpOp Try.prog ops Q i K a w := by
  unfold wpOp
  rw [hi]
  show if Region.wanted o (yielded ops a.tmps) = true then _ else _
  rw [if_pos hg]
  exact .inl h

theorem op_val {i : Nat} {o : Oper} {v : Value} {w' : World} (hi : ops[i]? = some o) (hg : Region.wanted o (yielded ops a.tmps) = true) (e : (execOp a.eval o).run Try.prog w = .ok (.value v) w') (h : K (a.put o.dst v) w') : wpOp Try.prog ops Q i K a w := by
  refine op_go hi hg ?_
  unfold Oper.wp
  rw [e]
  exact h

theorem op_without {i : Nat} {o : Oper} (x : Operand) (v : Value) {nf : Nat} {fr : List Int} (hi : ops[i]? = some o) (hg : Region.wanted o (yielded ops a.tmps) = true) (ho : o.op = .call { callee := .value (.func 55), args := #[x, .const (.bool false)], argTypes := #[22, 4] }) (hx : a.eval x = v)
    (hc : Calls Try.prog 55 #[v, .bool false] w fun e w' => ∃ a' cap', e = .returned (.slice a' nf cap') ∧ w'.ownsRow w.heap.size 3 1 (.slice a' nf cap') nf (fr.map (Value.int .i64)) ∧ Below w.heap.size w w')
    (h : ∀ a' cap' w', w'.ownsRow w.heap.size 3 1 (.slice a' nf cap') nf (fr.map (Value.int .i64)) → Below w.heap.size w w' → K (a.put o.dst (.slice a' nf cap')) w') : wpOp Try.prog ops Q i K a w := by
  refine op_go hi hg ?_
  have e : (execOp a.eval o).run Try.prog w = .ok (.enter 55 #[v, .bool false]) w := by
    unfold execOp
    simp only [ho]
    go_simp
    rw [← hx]
    cases x <;> simp [Act.eval]
  unfold Oper.wp
  rw [e]
  show Calls _ _ _ _ _
  refine hc.mono ?_
  rintro e w' ⟨a', cap', rfl, h1, h2⟩
  exact h a' cap' w' h1 h2

theorem op_one {i : Nat} {o : Oper} (x : Operand) (n : Int) (hi : ops[i]? = some o) (hg : Region.wanted o (yielded ops a.tmps) = true) (ho : o.op = .buildSlice 22 1 #[(0, x)]) (hx : a.eval x = .int .i64 n)
    (h : K (a.put o.dst (.slice (some ⟨w.heap.size, 0, none⟩) 1 1)) (w.alloc (.cells #[.int .i64 n] 3))) : wpOp Try.prog ops Q i K a w := by
  refine op_val hi hg ?_ h
  revert hx
  generalize a.eval = ev
  intro hx
  unfold execOp
  simp only [ho]
  go_simp

theorem op_none {i : Nat} {o : Oper} (hi : ops[i]? = some o) (hg : Region.wanted o (yielded ops a.tmps) = true) (ho : o.op = .buildSlice 22 0 #[])
    (h : K (a.put o.dst (.slice (some ⟨w.heap.size, 0, none⟩) 0 0)) (w.alloc (.cells #[] 3))) : wpOp Try.prog ops Q i K a w := by
  refine op_val hi hg ?_ h
  unfold execOp
  simp only [ho]
  go_simp

theorem op_newA {i : Nat} {o : Oper} (hi : ops[i]? = some o) (hg : Region.wanted o (yielded ops a.tmps) = true) (ho : o.op = .alloc 27)
    (h : K (a.put o.dst (.pointer (some ⟨w.heap.size, 0, none⟩))) (w.alloc (.cells #[.bool false, .slice none 0 0, .slice none 0 0] 27))) : wpOp Try.prog ops Q i K a w := by
  refine op_val hi hg ?_ h
  unfold execOp
  simp only [ho]
  go_simp

theorem op_structA {i : Nat} {o : Oper} (x y z : Operand) (c : Bool) (s1 s2 : Option Addr) (n1 n2 k1 k2 : Nat) (hi : ops[i]? = some o) (hg : Region.wanted o (yielded ops a.tmps) = true) (ho : o.op = .build 27 #[(0, x), (1, y), (2, z)]) (hx : a.eval x = .bool c) (hy : a.eval y = .slice s1 n1 k1) (hz : a.eval z = .slice s2 n2 k2)
    (h : K (a.put o.dst (.agg #[.bool c, .slice s1 n1 k1, .slice s2 n2 k2])) w) : wpOp Try.prog ops Q i K a w := by
  refine op_val hi hg ?_ h
  revert hx hy hz
  generalize a.eval = ev
  intro hx hy hz
  unfold execOp
  simp only [ho]
  go_simp

theorem op_storeA {i : Nat} {o : Oper} (x y : Operand) (p : Nat) (c c' : Bool) (s1 s2 : Option Addr) (n1 n2 k1 k2 : Nat) (v1 v2 : Value) (hi : ops[i]? = some o) (hg : Region.wanted o (yielded ops a.tmps) = true) (ho : o.op = .store 27 x y) (hx : a.eval x = .pointer (some ⟨p, 0, none⟩)) (hy : a.eval y = .agg #[.bool c, .slice s1 n1 k1, .slice s2 n2 k2]) (hz : Box w p c' v1 v2)
    (h : K (a.put o.dst undef) (((w.setCell ⟨p, 0, none⟩ (.bool c)).setCell ⟨p, 1, none⟩ (.slice s1 n1 k1)).setCell ⟨p, 2, none⟩ (.slice s2 n2 k2))) : wpOp Try.prog ops Q i K a w := by
  refine op_go hi hg ?_
  obtain ⟨i0, i1, i2, i3, i4, i5, i6⟩ := hz.all
  have e : (execOp a.eval o).run Try.prog w = .ok .skip (((w.setCell ⟨p, 0, none⟩ (.bool c)).setCell ⟨p, 1, none⟩ (.slice s1 n1 k1)).setCell ⟨p, 2, none⟩ (.slice s2 n2 k2)) := by
    unfold execOp
    simp only [ho, hx, hy]
    go_simp
  unfold Oper.wp
  rw [e]
  exact h
end

theorem eval_putT {a : Act} {d e : Nat} {v : Value} (h : d ≠ e) : (a.put (some d) v).eval (.tmp e) = a.eval (.tmp e) := pt_eval true d e v a h

theorem put_sameT (d : Nat) (v : Value) (a : Act) (h : d < a.tmps.size) : (a.put (some d) v).eval (.tmp d) = v := pt_same d v a h

theorem run_fieldT {o : Oper} {a : Act} (x : Operand) (b k : Nat) (ho : o.op = .fieldAddr 27 x k) (hx : a.eval x = .pointer (some ⟨b, 0, none⟩)) (hk : k = 0 ∨ k = 1) (w : World) : (execOp a.eval o).run Try.prog w = .ok (.value (.pointer (some ⟨b, k, none⟩))) w := by
  unfold execOp
  rcases hk with rfl | rfl
  all_goals
    simp only [ho, hx]
    go_simp

theorem run_loadB {o : Oper} {a : Act} (x : Operand) (p : Addr) (c : Bool) (ho : o.op = .load 4 x) (hx : a.eval x = .pointer (some p)) (w : World) (hc : w.cell? p = some (.bool c)) : (execOp a.eval o).run Try.prog w = .ok (.value (.bool c)) w := by
  unfold execOp
  simp only [ho, hx]
  go_simp

theorem run_loadS {o : Oper} {a : Act} (x : Operand) (p : Addr) (s : Option Addr) (l c : Nat) (ho : o.op = .load 22 x) (hx : a.eval x = .pointer (some p)) (w : World) (hc : w.cell? p = some (.slice s l c)) : (execOp a.eval o).run Try.prog w = .ok (.value (.slice s l c)) w := by
  unfold execOp
  simp only [ho, hx]
  go_simp

theorem run_moveT {o : Oper} {a : Act} (x : Operand) (v : Value) (ho : o.op = .move x) (hx : a.eval x = v) (w : World) : (execOp a.eval o).run Try.prog w = .ok (.value v) w := by
  unfold execOp
  simp only [ho, hx]
  go_simp

theorem run_addT {o : Oper} {a : Act} (x y : Operand) (m n : Int) (ho : o.op = .binOp BinOp.add 3 x y 3) (hx : a.eval x = .int .i64 m) (hy : a.eval y = .int .i64 n) (h : IntKind.i64.wrap (m + n) = m + n) (w : World) : (execOp a.eval o).run Try.prog w = .ok (.value (.int .i64 (m + n))) w := by
  unfold execOp
  simp only [ho, hx, hy]
  go_simp

end Go.Proofs.Ytogmcecnckgcpaa
