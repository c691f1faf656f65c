import Derived.Test.YtpondlabofeohaaDoorImplScalar2
import Derived.Test.YtpondlabofeohaaDoorImplConcat
import Derived.Test.YtpondlabofeohaaDoorOuterMath
namespace Go.Proofs.YtpondlabofeohaaDoor
open Go.RowKit Go.Shelf

def outf (op : Int) (c d : Bool) (dt dt' : List Int) (m2 k : Nat) : Int × Int := elemFn op c d (dt.getD (k / m2) 0) (dt'.getD (k % m2) 0)

theorem eg_out : ∀ args w, (callFunc 50 args).run Tryd.prog w = .ok (.enter 50 args) w := enters_of Tryd.func50 (by kernel_rfl) rfl

set_option maxHeartbeats 2000000 in
theorem outClo (op : Int) (c d : Bool) (ga gb a2 b2 : Addr) (v v1 u1 : Value) (p9 p10 pa pb n2 c2 m2 d2 k : Nat) (dt dt' : List Int) (W : World) (hv : OpIs ga gb (elemFn op c d) v W) (hc : W.cell? ⟨p9, 0, none⟩ = some v) (hm : W.cell? ⟨p10, 0, none⟩ = some (.int .i64 (m2 : Nat))) (hA : Box W pa c v1 (.slice (some a2) n2 c2)) (hB : Box W pb d u1 (.slice (some b2) m2 d2))
    (hx : Row W (some a2) n2 dt) (hy : Row W (some b2) m2 dt') (hk : k < n2 * m2) (hk16 : k ≤ 17592186044416) (hxb : ∀ k, k < n2 → -1000000000000000 ≤ dt.getD k 0 ∧ dt.getD k 0 ≤ 1000000000000000) (hyb : ∀ k, k < m2 → -1000000000000000 ≤ dt'.getD k 0 ∧ dt'.getD k 0 ≤ 1000000000000000) :
    Calls Tryd.prog 50 #[.int .i64 (k : Nat), .pointer (some ⟨p9, 0, none⟩), .pointer (some ⟨pa, 0, none⟩), .pointer (some ⟨p10, 0, none⟩), .pointer (some ⟨pb, 0, none⟩)] W fun e w' => e = .returned (.tuple #[.int .i64 (outf op c d dt dt' m2 k).1, errV ga gb (outf op c d dt dt' m2 k).2]) ∧ Below W.heap.size W w' := by
  obtain ⟨g, lb, rfl, eg, hcall⟩ := hv
  have hm0 : 0 < m2 := by
    rcases Nat.eq_zero_or_pos m2 with h | h
    · subst h; simp at hk
    · exact h
  have hq : k / m2 < n2 := (Nat.div_lt_iff_lt_mul hm0).mpr hk
  have hr : k % m2 < m2 := Nat.mod_lt _ hm0
  have hs1 := hx.small
  have hs2 := hy.small
  have HF : Hid (∀ n, Calls Tryd.prog g (#[.int .i64 (dt.getD (k / m2) 0), .int .i64 (dt'.getD (k % m2) 0)] ++ lb) (W.drewN n) (GivesEl ga gb (elemFn op c d (dt.getD (k / m2) 0) (dt'.getD (k % m2) 0)) (W.drewN n))) := fun n => hcall _ _ _ (Below.drewN (Below.refl _ _) n) (hxb _ hq) (hyb _ hr)
  obtain ⟨ba, oa, hab, _, hca⟩ := hx.get hq
  obtain ⟨bb, ob, hbb, _, hcb⟩ := hy.get hr
  cases hab
  cases hbb
  have hq' : (k : Int).tdiv (m2 : Int) = ((k / m2 : Nat) : Int) := by rw [Int.tdiv_eq_ediv_of_nonneg (by omega)]; simp
  have hr' : (k : Int).tmod (m2 : Int) = ((k % m2 : Nat) : Int) := by rw [Int.tmod_eq_emod_of_nonneg (by omega)]; simp
  unfold outf
  generalize elemFn op c d (dt.getD (k / m2) 0) (dt'.getD (k % m2) 0) = r at *
  obtain ⟨r1, r2⟩ := r
  generalize dt.getD (k / m2) 0 = x at *
  generalize dt'.getD (k % m2) 0 = y at *
  generalize k / m2 = q at *
  generalize k % m2 = s at *
  obtain ⟨x0, x1, x2⟩ := hA.cells
  obtain ⟨y0, y1, y2⟩ := hB.cells
  obtain ⟨ev, hev⟩ : ∃ ev, ev = errV ga gb r2 := ⟨_, rfl⟩
  simp only [← hev]
  have HF' : Hid (∀ n, Calls Tryd.prog g (#[.int .i64 x, .int .i64 y] ++ lb) (W.drewN n) fun e w' => e = .returned (.tuple #[.int .i64 r1, ev]) ∧ ∃ q, w' = (W.drewN n).drewN q) := fun n => by
    have := unhide HF n
    unfold GivesEl at this
    simp only [← hev] at this
    exact this
  clear HF hcall hx hy hk hxb hyb hA hB hev
  have hmz : ¬ ((m2 : Int) = 0) := by omega
  go_enter Tryd.func50, Tryd.ntmps50
  go_wp2
  go_quiet (first | (go_at_fn g; exact Calls.quiet_of (unhide HF' _)))
  go_wp2
  go_ret2
  exact ⟨rfl, Below.drewN (Below.refl _ _) _⟩

theorem out_count {c d : Bool} {sh dt sh' dt' : List Int} {n2 m2 : Nat} (l2 : dt.length = n2) (l4 : dt'.length = m2) (h1 : arrOk c sh dt = true) (h2 : arrOk d sh' dt' = true) (h : shapeB (sh ++ sh') = true) : countOf (sh ++ sh') = ((n2 * m2 : Nat) : Int) := by
  obtain ⟨_, p1, _⟩ := shapeIn_of h1
  obtain ⟨_, p2, _⟩ := shapeIn_of h2
  rw [← prodAll_count _ h, prodAll_append, p1, p2, l2, l4]
  simp

end Go.Proofs.YtpondlabofeohaaDoor
