import Derived.Test.YtkgcmpmgaghdhaaGreatDoorImplStripU
import Derived.Deep.RegionHeld
namespace Go.Proofs.YtkgcmpmgaghdhaaGreatDoor
open Go.RowKit Go.Shelf

set_option maxHeartbeats 4000000 in
theorem foldClo (op : Int) (ga gb a2 : Addr) (v v1 vo : Value) (p9 p8 pa B L A n2 c2 k : Nat) (c : Bool) (dt : List Int) (W : World) (hv : FoldIs ga gb op v W) (hc : W.cell? ⟨p9, 0, none⟩ = some v) (hX : ABox W p8 B L A vo) (hvo : ∃ oa ol oc, vo = .slice oa ol oc) (hB : Box W pa c v1 (.slice (some a2) n2 c2)) (h2 : Row W (some a2) n2 dt)  (hA : 0 < A) (hk : k ≤ 100000000) (hL : L ≤ 100000) (hAb : A ≤ 100000) (hin : ∀ i, i < L → k / A * L * A + k % A + i * A < n2) (hb : ∀ k, k < n2 → -1000000000000000 ≤ dt.getD k 0 ∧ dt.getD k 0 ≤ 1000000000000000) :
    Calls Tryz.prog 102 #[.int .i64 (k : Nat), .pointer (some ⟨p9, 0, none⟩), .pointer (some ⟨p8, 0, none⟩), .pointer (some ⟨pa, 0, none⟩)] W fun e w' => e = .returned (.tuple #[.int .i64 (foldR op (stripOf dt (k / A * L * A + k % A) A (L))).1, errV ga gb (foldR op (stripOf dt (k / A * L * A + k % A) A (L))).2]) ∧ Below W.heap.size W w' := by
  obtain ⟨g, lb, rfl, eg, hcall⟩ := hv
  obtain ⟨oa, ol, oc, rfl⟩ := hvo
  have HS : Hid (∀ wx, Below W.heap.size W wx → Calls Tryz.prog 97 #[.agg #[.int .i64 (B : Nat), .int .i64 (L : Nat), .int .i64 (A : Nat), .slice oa ol oc], .slice (some a2) n2 c2, .int .i64 (k : Nat)] wx fun e w' => e = .returned (.agg #[.slice (some a2) n2 c2, .int .i64 ((k / A * L * A + k % A : Nat) : Int), .int .i64 (A : Nat), .int .i64 ((L : Nat) : Int)]) ∧ Below wx.heap.size wx w') := fun wx _ => stripAt_any B L A k n2 c2 oc ol oa a2 wx hA hk hL hAb
  have HF : Hid (∀ wx, Below W.heap.size W wx → Calls Tryz.prog g (#[.agg #[.slice (some a2) n2 c2, .int .i64 ((k / A * L * A + k % A : Nat) : Int), .int .i64 (A : Nat), .int .i64 ((L : Nat) : Int)]] ++ lb) wx fun e w' => e = .returned (.tuple #[.int .i64 (foldR op (stripOf dt (k / A * L * A + k % A) A (L))).1, errV ga gb (foldR op (stripOf dt (k / A * L * A + k % A) A (L))).2]) ∧ Below wx.heap.size wx w') := fun wx hwx => hcall wx a2 n2 c2 _ _ _ dt hwx (by omega) (h2.below (Nat.le_refl _) hwx) hin hb
  have hpl := World.block_lt_of_cell? _ _ hc
  have HKEEP : ∀ wx, Below W.heap.size W wx → Below W.heap.size W wx ∧ wx.cell? ⟨p9, 0, none⟩ = some (.func (.func g) #[] lb) ∧ (wx.cell? ⟨p8, 0, none⟩ = some (.int .i64 (B : Nat)) ∧ wx.cell? ⟨p8, 1, none⟩ = some (.int .i64 (L : Nat)) ∧ wx.cell? ⟨p8, 2, none⟩ = some (.int .i64 (A : Nat)) ∧ wx.cell? ⟨p8, 3, none⟩ = some (.slice oa ol oc)) ∧ wx.cell? ⟨pa, 2, none⟩ = some (.slice (some a2) n2 c2) := fun wx hwx => ⟨hwx, (hwx.cell (p := ⟨p9, 0, none⟩) hpl).trans hc, (hX.below (Nat.le_refl _) hwx).cells, (hB.below (Nat.le_refl _) hwx).cells.2.2⟩
  generalize foldR op (stripOf dt (k / A * L * A + k % A) A (L)) = r at *
  obtain ⟨r1, r2⟩ := r
  generalize k / A * L * A + k % A = st at *
  obtain ⟨ev, hev⟩ : ∃ ev, ev = errV ga gb r2 := ⟨_, rfl⟩
  simp only [← hev]
  have HEV := hide hev
  clear hev hcall h2 hin hb hX hB hc
  obtain ⟨_, z0, ⟨x0, x1, x2, x3⟩, y2⟩ := HKEEP _ (Below.refl _ _)
  go_enter Tryz.func102, Tryz.ntmps102
  go_wp2_with fail
  go_region_held (fun wx => Below W.heap.size W wx ∧ wx.cell? ⟨p9, 0, none⟩ = some (.func (.func g) #[] lb) ∧ (wx.cell? ⟨p8, 0, none⟩ = some (.int .i64 (B : Nat)) ∧ wx.cell? ⟨p8, 1, none⟩ = some (.int .i64 (L : Nat)) ∧ wx.cell? ⟨p8, 2, none⟩ = some (.int .i64 (A : Nat)) ∧ wx.cell? ⟨p8, 3, none⟩ = some (.slice oa ol oc)) ∧ wx.cell? ⟨pa, 2, none⟩ = some (.slice (some a2) n2 c2)) (first | (refine HKEEP _ ?_; repeat (first | exact hKC | exact hKA | exact Below.refl _ _ | refine Below.drew ?_)))
    (first
    | (go_at_call 97; refine (unhide HS _ (Below.refl _ _).drew).mono ?_; rintro e wA ⟨rfl, hbA⟩; have hKA : Below W.heap.size W wA := (Below.refl _ _).drew.trans (hbA.mono (by simp)); obtain ⟨_, z0, ⟨x0, x1, x2, x3⟩, y2⟩ := HKEEP _ hKA)
    | (go_at_fn g; refine (unhide HF _ hKA).mono ?_; rintro e wC ⟨rfl, hbC⟩; have hKC : Below W.heap.size W wC := hKA.trans (hbC.mono hKA.size); simp only [← unhide HEV]))
  go_wp2
  go_ret2
  exact ⟨rfl, hKC⟩

set_option maxHeartbeats 4000000 in
theorem scanClo (op : Int) (ga gb a2 : Addr) (v v1 vo : Value) (p9 p8 pa B L A n2 c2 k : Nat) (c : Bool) (dt : List Int) (W : World) (hv : FoldIs ga gb op v W) (hc : W.cell? ⟨p9, 0, none⟩ = some v) (hX : ABox W p8 B L A vo) (hvo : ∃ oa ol oc, vo = .slice oa ol oc) (hB : Box W pa c v1 (.slice (some a2) n2 c2)) (h2 : Row W (some a2) n2 dt) (hL0 : 0 < L) (hA : 0 < A) (hk : k ≤ 100000000) (hL : L ≤ 100000) (hAb : A ≤ 100000) (hin : ∀ i, i < k / A % L + 1 → k - k / A % L * A + i * A < n2) (hb : ∀ k, k < n2 → -1000000000000000 ≤ dt.getD k 0 ∧ dt.getD k 0 ≤ 1000000000000000) :
    Calls Tryz.prog 109 #[.int .i64 (k : Nat), .pointer (some ⟨p9, 0, none⟩), .pointer (some ⟨p8, 0, none⟩), .pointer (some ⟨pa, 0, none⟩)] W fun e w' => e = .returned (.tuple #[.int .i64 (foldR op (stripOf dt (k - k / A % L * A) A (k / A % L + 1))).1, errV ga gb (foldR op (stripOf dt (k - k / A % L * A) A (k / A % L + 1))).2]) ∧ Below W.heap.size W w' := by
  obtain ⟨g, lb, rfl, eg, hcall⟩ := hv
  obtain ⟨oa, ol, oc, rfl⟩ := hvo
  have HS : Hid (∀ wx, Below W.heap.size W wx → Calls Tryz.prog 110 #[.agg #[.int .i64 (B : Nat), .int .i64 (L : Nat), .int .i64 (A : Nat), .slice oa ol oc], .slice (some a2) n2 c2, .int .i64 (k : Nat)] wx fun e w' => e = .returned (.agg #[.slice (some a2) n2 c2, .int .i64 ((k - k / A % L * A : Nat) : Int), .int .i64 (A : Nat), .int .i64 ((k / A % L + 1 : Nat) : Int)]) ∧ Below wx.heap.size wx w') := fun wx _ => stripUpTo_any B L A k n2 c2 oc ol oa a2 wx hA hL0 hk hL hAb
  have HF : Hid (∀ wx, Below W.heap.size W wx → Calls Tryz.prog g (#[.agg #[.slice (some a2) n2 c2, .int .i64 ((k - k / A % L * A : Nat) : Int), .int .i64 (A : Nat), .int .i64 ((k / A % L + 1 : Nat) : Int)]] ++ lb) wx fun e w' => e = .returned (.tuple #[.int .i64 (foldR op (stripOf dt (k - k / A % L * A) A (k / A % L + 1))).1, errV ga gb (foldR op (stripOf dt (k - k / A % L * A) A (k / A % L + 1))).2]) ∧ Below wx.heap.size wx w') := fun wx hwx => hcall wx a2 n2 c2 _ _ _ dt hwx (by have := Nat.mod_lt (k / A) hL0; omega) (h2.below (Nat.le_refl _) hwx) hin hb
  have hpl := World.block_lt_of_cell? _ _ hc
  have HKEEP : ∀ wx, Below W.heap.size W wx → Below W.heap.size W wx ∧ wx.cell? ⟨p9, 0, none⟩ = some (.func (.func g) #[] lb) ∧ (wx.cell? ⟨p8, 0, none⟩ = some (.int .i64 (B : Nat)) ∧ wx.cell? ⟨p8, 1, none⟩ = some (.int .i64 (L : Nat)) ∧ wx.cell? ⟨p8, 2, none⟩ = some (.int .i64 (A : Nat)) ∧ wx.cell? ⟨p8, 3, none⟩ = some (.slice oa ol oc)) ∧ wx.cell? ⟨pa, 2, none⟩ = some (.slice (some a2) n2 c2) := fun wx hwx => ⟨hwx, (hwx.cell (p := ⟨p9, 0, none⟩) hpl).trans hc, (hX.below (Nat.le_refl _) hwx).cells, (hB.below (Nat.le_refl _) hwx).cells.2.2⟩
  generalize foldR op (stripOf dt (k - k / A % L * A) A (k / A % L + 1)) = r at *
  obtain ⟨r1, r2⟩ := r
  generalize k - k / A % L * A = st at *
  generalize k / A % L + 1 = cn at *
  obtain ⟨ev, hev⟩ : ∃ ev, ev = errV ga gb r2 := ⟨_, rfl⟩
  simp only [← hev]
  have HEV := hide hev
  clear hev hcall h2 hin hb hX hB hc
  obtain ⟨_, z0, ⟨x0, x1, x2, x3⟩, y2⟩ := HKEEP _ (Below.refl _ _)
  go_enter Tryz.func109, Tryz.ntmps109
  go_wp2_with fail
  go_region_held (fun wx => Below W.heap.size W wx ∧ wx.cell? ⟨p9, 0, none⟩ = some (.func (.func g) #[] lb) ∧ (wx.cell? ⟨p8, 0, none⟩ = some (.int .i64 (B : Nat)) ∧ wx.cell? ⟨p8, 1, none⟩ = some (.int .i64 (L : Nat)) ∧ wx.cell? ⟨p8, 2, none⟩ = some (.int .i64 (A : Nat)) ∧ wx.cell? ⟨p8, 3, none⟩ = some (.slice oa ol oc)) ∧ wx.cell? ⟨pa, 2, none⟩ = some (.slice (some a2) n2 c2)) (first | (refine HKEEP _ ?_; repeat (first | exact hKC | exact hKA | exact Below.refl _ _ | refine Below.drew ?_)))
    (first
    | (go_at_call 110; refine (unhide HS _ (Below.refl _ _).drew).mono ?_; rintro e wA ⟨rfl, hbA⟩; have hKA : Below W.heap.size W wA := (Below.refl _ _).drew.trans (hbA.mono (by simp)); obtain ⟨_, z0, ⟨x0, x1, x2, x3⟩, y2⟩ := HKEEP _ hKA)
    | (go_at_fn g; refine (unhide HF _ hKA).mono ?_; rintro e wC ⟨rfl, hbC⟩; have hKC : Below W.heap.size W wC := hKA.trans (hbC.mono hKA.size); simp only [← unhide HEV]))
  go_wp2
  go_ret2
  exact ⟨rfl, hKC⟩

end Go.Proofs.YtkgcmpmgaghdhaaGreatDoor
