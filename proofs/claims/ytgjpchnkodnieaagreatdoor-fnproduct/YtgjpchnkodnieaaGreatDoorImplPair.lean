import Derived.Test.YtgjpchnkodnieaaGreatDoorImplOpOn
import Derived.Test.YtgjpchnkodnieaaGreatDoorStripAt
import Derived.Deep.RegionHeld
namespace Go.Proofs.YtgjpchnkodnieaaGreatDoor
open Go.RowKit Go.Shelf

set_option maxHeartbeats 2000000 in
theorem pairClo (f : Int → Int → Int × Int) (ga gb : Addr) (a2 b2 : Option Addr) (v : Value) (p5 p3 p4 n2 c2 s1 t1 u1 m2 d2 s2 t2 u2 k : Nat) (xs ys : List Int) (W : World) (hv : OpIs ga gb f v W) (hc : W.cell? ⟨p5, 0, none⟩ = some v) (hS : SBox W p3 a2 n2 c2 s1 t1 u1) (hT : SBox W p4 b2 m2 d2 s2 t2 u2)
    (hx : Row W a2 n2 xs) (hy : Row W b2 m2 ys) (hk1 : s1 + k * t1 < n2) (hk2 : s2 + k * t2 < m2) (hxb : -1000000000000000 ≤ xs.getD (s1 + k * t1) 0 ∧ xs.getD (s1 + k * t1) 0 ≤ 1000000000000000) (hyb : -1000000000000000 ≤ ys.getD (s2 + k * t2) 0 ∧ ys.getD (s2 + k * t2) 0 ≤ 1000000000000000) :
    Calls Tryz.prog 191 #[.int .i64 (k : Nat), .pointer (some ⟨p5, 0, none⟩), .pointer (some ⟨p3, 0, none⟩), .pointer (some ⟨p4, 0, none⟩)] W fun e w' => e = .returned (.tuple #[.int .i64 (f (xs.getD (s1 + k * t1) 0) (ys.getD (s2 + k * t2) 0)).1, errV ga gb (f (xs.getD (s1 + k * t1) 0) (ys.getD (s2 + k * t2) 0)).2]) ∧ Below W.heap.size W w' := by
  obtain ⟨g, lb, rfl, eg, hcall⟩ := hv
  have HX : Hid (∀ wx, Below W.heap.size W wx → Calls Tryz.prog 192 #[.agg #[.slice a2 n2 c2, .int .i64 s1, .int .i64 t1, .int .i64 u1], .int .i64 (k : Nat)] wx fun e w' => e = .returned (.int .i64 (xs.getD (s1 + k * t1) 0)) ∧ Below wx.heap.size wx w') := fun wx hwx => at_any _ n2 c2 s1 t1 u1 k xs wx (hx.below (Nat.le_refl _) hwx) hk1
  have HY : Hid (∀ wx, Below W.heap.size W wx → Calls Tryz.prog 192 #[.agg #[.slice b2 m2 d2, .int .i64 s2, .int .i64 t2, .int .i64 u2], .int .i64 (k : Nat)] wx fun e w' => e = .returned (.int .i64 (ys.getD (s2 + k * t2) 0)) ∧ Below wx.heap.size wx w') := fun wx hwx => at_any _ m2 d2 s2 t2 u2 k ys wx (hy.below (Nat.le_refl _) hwx) hk2
  have HF : Hid (∀ wx, Below W.heap.size W wx → Calls Tryz.prog g (#[.int .i64 (xs.getD (s1 + k * t1) 0), .int .i64 (ys.getD (s2 + k * t2) 0)] ++ lb) wx (GivesEl ga gb (f (xs.getD (s1 + k * t1) 0) (ys.getD (s2 + k * t2) 0)) wx)) := fun wx hwx => hcall wx _ _ hwx hxb hyb
  have hpl := World.block_lt_of_cell? _ _ hc
  have HKEEP : ∀ wx, Below W.heap.size W wx → Below W.heap.size W wx ∧ wx.cell? ⟨p5, 0, none⟩ = some (.func (.func g) #[] lb) ∧ (wx.cell? ⟨p3, 0, none⟩ = some (.slice a2 n2 c2) ∧ wx.cell? ⟨p3, 1, none⟩ = some (.int .i64 s1) ∧ wx.cell? ⟨p3, 2, none⟩ = some (.int .i64 t1) ∧ wx.cell? ⟨p3, 3, none⟩ = some (.int .i64 u1)) ∧ (wx.cell? ⟨p4, 0, none⟩ = some (.slice b2 m2 d2) ∧ wx.cell? ⟨p4, 1, none⟩ = some (.int .i64 s2) ∧ wx.cell? ⟨p4, 2, none⟩ = some (.int .i64 t2) ∧ wx.cell? ⟨p4, 3, none⟩ = some (.int .i64 u2)) := fun wx hwx => ⟨hwx, (hwx.cell (p := ⟨p5, 0, none⟩) hpl).trans hc, (hS.below (Nat.le_refl _) hwx).cells, (hT.below (Nat.le_refl _) hwx).cells⟩
  generalize f (xs.getD (s1 + k * t1) 0) (ys.getD (s2 + k * t2) 0) = r at *
  obtain ⟨r1, r2⟩ := r
  generalize xs.getD (s1 + k * t1) 0 = x at *
  generalize ys.getD (s2 + k * t2) 0 = y at *
  obtain ⟨ev, hev⟩ : ∃ ev, ev = errV ga gb r2 := ⟨_, rfl⟩
  simp only [← hev]
  have HEV := hide hev
  clear hev hcall hx hy hk1 hk2 hxb hyb hS hT hc
  obtain ⟨hK0, z0, ⟨x0, x1, x2, x3⟩, ⟨y0, y1, y2, y3⟩⟩ := HKEEP _ (Below.refl _ _)
  clear hK0
  go_enter Tryz.func191, Tryz.ntmps191
  go_wp2_with fail
  go_region_held (fun wx => Below W.heap.size W wx ∧ wx.cell? ⟨p5, 0, none⟩ = some (.func (.func g) #[] lb) ∧ (wx.cell? ⟨p3, 0, none⟩ = some (.slice a2 n2 c2) ∧ wx.cell? ⟨p3, 1, none⟩ = some (.int .i64 s1) ∧ wx.cell? ⟨p3, 2, none⟩ = some (.int .i64 t1) ∧ wx.cell? ⟨p3, 3, none⟩ = some (.int .i64 u1)) ∧ (wx.cell? ⟨p4, 0, none⟩ = some (.slice b2 m2 d2) ∧ wx.cell? ⟨p4, 1, none⟩ = some (.int .i64 s2) ∧ wx.cell? ⟨p4, 2, none⟩ = some (.int .i64 t2) ∧ wx.cell? ⟨p4, 3, none⟩ = some (.int .i64 u2))) (first | (refine HKEEP _ ?_; repeat (first | exact hKC | exact hKB | exact hKA | exact Below.refl _ _ | refine Below.drew ?_ | refine Below.drewN ?_ _)))
    (first
    | (go_at_call_of 192 (Value.slice a2 n2 c2); refine (unhide HX _ (Below.refl _ _).drew).mono ?_; rintro e wA ⟨rfl, hbA⟩; have hKA : Below W.heap.size W wA := (Below.refl _ _).drew.trans (hbA.mono (by simp)); obtain ⟨_, z0, ⟨x0, x1, x2, x3⟩, ⟨y0, y1, y2, y3⟩⟩ := HKEEP _ hKA)
    | (go_at_call_of 192 (Value.slice b2 m2 d2); refine (unhide HY _ hKA).mono ?_; rintro e wB ⟨rfl, hbB⟩; have hKB : Below W.heap.size W wB := hKA.trans (hbB.mono hKA.size); obtain ⟨_, z0, ⟨x0, x1, x2, x3⟩, ⟨y0, y1, y2, y3⟩⟩ := HKEEP _ hKB)
    | (go_at_fn g; refine (unhide HF _ hKB).mono ?_; rintro e wC ⟨rfl, q, rfl⟩; have hKC : Below W.heap.size W (wB.drewN q) := Below.drewN hKB q; simp only [← unhide HEV]))
  go_wp2
  go_ret2
  exact ⟨rfl, hKC⟩

set_option maxHeartbeats 400000 in
/-- The closure that pairwise makes gives f of the two strips' elements at each place. -/
theorem pairwise_any (g : Nat) (lb : Array Value) (a2 b2 : Option Addr) (n2 c2 s1 t1 u1 m2 d2 s2 t2 u2 : Nat) (w : World) :
    Calls Tryz.prog 122 #[.agg #[.slice a2 n2 c2, .int .i64 s1, .int .i64 t1, .int .i64 u1], .agg #[.slice b2 m2 d2, .int .i64 s2, .int .i64 t2, .int .i64 u2], .func (.func g) #[] lb] w fun e w' =>
      ∃ p3 p4 p5, e = .returned (.func (.func 191) #[] #[.pointer (some ⟨p5, 0, none⟩), .pointer (some ⟨p3, 0, none⟩), .pointer (some ⟨p4, 0, none⟩)]) ∧ SBox w' p3 a2 n2 c2 s1 t1 u1 ∧ SBox w' p4 b2 m2 d2 s2 t2 u2 ∧ w'.cell? ⟨p5, 0, none⟩ = some (.func (.func g) #[] lb) ∧ Below w.heap.size w w' := by
  go_enter Tryz.func122, Tryz.ntmps122
  go_wp2
  go_ret
  refine ⟨w.heap.size, w.heap.size + 1, w.heap.size + 1 + 1, rfl, ((SBox.new w _ _ _ _ _ _).alloc _).alloc _, ?_, ?_, (((Below.refl _ _).alloc (Nat.le_refl _) _).alloc (by simp) _).alloc (by simp; omega) _⟩
  · have := (SBox.new (w.alloc (.cells #[.slice a2 n2 c2, .int .i64 s1, .int .i64 t1, .int .i64 u1] 145 (0, 0))) b2 m2 d2 s2 t2 u2).alloc (.cells #[.func (.func g) #[] lb] 137)
    simpa using this
  · have := cell_of_row _ _ 0 _ _ (0, 0) (heap_alloc_last ((w.alloc (.cells #[.slice a2 n2 c2, .int .i64 s1, .int .i64 t1, .int .i64 u1] 145 (0, 0))).alloc (.cells #[.slice b2 m2 d2, .int .i64 s2, .int .i64 t2, .int .i64 u2] 145 (0, 0))) (.cells #[.func (.func g) #[] lb] 137))
    simpa using this

theorem eg_pair : ∀ args w, (callFunc 191 args).run Tryz.prog w = .ok (.enter 191 args) w := enters_of Tryz.func191 (by kernel_rfl) rfl

theorem pair_elem (f : Int → Int → Int × Int) (ga gb : Addr) (a2 b2 : Option Addr) (v : Value) (p5 p3 p4 n2 c2 s1 t1 u1 m2 d2 s2 t2 u2 n : Nat) (xs ys : List Int) (W : World) (hv : OpIs ga gb f v W) (hc : W.cell? ⟨p5, 0, none⟩ = some v) (hS : SBox W p3 a2 n2 c2 s1 t1 u1) (hT : SBox W p4 b2 m2 d2 s2 t2 u2)
    (hx : Row W a2 n2 xs) (hy : Row W b2 m2 ys) (hk1 : ∀ k, k < n → s1 + k * t1 < n2) (hk2 : ∀ k, k < n → s2 + k * t2 < m2) (hxb : ∀ k, k < n2 → -1000000000000000 ≤ xs.getD k 0 ∧ xs.getD k 0 ≤ 1000000000000000) (hyb : ∀ k, k < m2 → -1000000000000000 ≤ ys.getD k 0 ∧ ys.getD k 0 ≤ 1000000000000000) :
    ElemOk ga gb 191 #[.pointer (some ⟨p5, 0, none⟩), .pointer (some ⟨p3, 0, none⟩), .pointer (some ⟨p4, 0, none⟩)] (fun k => f (xs.getD (s1 + k * t1) 0) (ys.getD (s2 + k * t2) 0)) n W := by
  intro k hk W' hW
  exact pairClo f ga gb a2 b2 v p5 p3 p4 n2 c2 s1 t1 u1 m2 d2 s2 t2 u2 k xs ys W' (hv.below hW) ((hW.cell (p := ⟨p5, 0, none⟩) (World.block_lt_of_cell? _ _ hc)).trans hc) (hS.below (Nat.le_refl _) hW) (hT.below (Nat.le_refl _) hW) (hx.below (Nat.le_refl _) hW) (hy.below (Nat.le_refl _) hW) (hk1 k hk) (hk2 k hk) (hxb _ (hk1 k hk)) (hyb _ (hk2 k hk))

end Go.Proofs.YtgjpchnkodnieaaGreatDoor
