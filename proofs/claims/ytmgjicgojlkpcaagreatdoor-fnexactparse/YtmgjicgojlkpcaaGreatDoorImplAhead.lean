import Derived.Test.YtmgjicgojlkpcaaGreatDoorPState
import Derived.Test.YtmgjicgojlkpcaaGreatDoorTokRow
import Derived.Test.YtmgjicgojlkpcaaGreatDoorImplName
import Derived.Deep.RegionHeld3
import Derived.BigQuiet
namespace Go.Proofs.YtmgjicgojlkpcaaGreatDoor
open Go.RowKit

/-- The token at a place, or none, with its place. -/
def tokA (ts : List Tok) (bytes i : Nat) : Tok := ts.getD i ⟨0, 0, ⟨#[]⟩, bytes⟩

def tokW (y : Tok) : Value := .agg #[.int .i64 y.k, .int .i64 y.n, .string y.t, .int .i64 (y.p : Nat)]

theorem tok_filled {V : World} {q : Nat} {u0 u1 u2 u3 : Value} {T : TypeId} (h : V.heap[q]? = some (.cells #[u0, u1, u2, u3] T (0, 0))) (v0 v1 v2 v3 : Value) : ((((V.setCell ⟨q, 0, none⟩ v0).setCell ⟨q, 1, none⟩ v1).setCell ⟨q, 2, none⟩ v2).setCell ⟨q, 3, none⟩ v3).heap[q]? = some (.cells #[v0, v1, v2, v3] T (0, 0)) := by
  have h0 : (V.setCell ⟨q, 0, none⟩ v0).heap[q]? = some (.cells #[v0, u1, u2, u3] T (0, 0)) := by rw [heap_setCell_same V q 0 _ _ _ h]; simp
  have h1 : ((V.setCell ⟨q, 0, none⟩ v0).setCell ⟨q, 1, none⟩ v1).heap[q]? = some (.cells #[v0, v1, u2, u3] T (0, 0)) := by rw [heap_setCell_same _ q 1 _ _ _ h0]; simp
  have h2 : (((V.setCell ⟨q, 0, none⟩ v0).setCell ⟨q, 1, none⟩ v1).setCell ⟨q, 2, none⟩ v2).heap[q]? = some (.cells #[v0, v1, v2, u3] T (0, 0)) := by rw [heap_setCell_same _ q 2 _ _ _ h1]; simp
  rw [heap_setCell_same _ q 3 _ _ _ h2]
  simp

theorem tok_cells {V : World} {q : Nat} {u0 u1 u2 u3 : Value} {T : TypeId} (h : V.heap[q]? = some (.cells #[u0, u1, u2, u3] T (0, 0))) (v0 v1 v2 v3 : Value) : (((((V.setCell ⟨q, 0, none⟩ v0).setCell ⟨q, 1, none⟩ v1).setCell ⟨q, 2, none⟩ v2).setCell ⟨q, 3, none⟩ v3).cell? ⟨q, 0, none⟩ = some v0 ∧ ((((V.setCell ⟨q, 0, none⟩ v0).setCell ⟨q, 1, none⟩ v1).setCell ⟨q, 2, none⟩ v2).setCell ⟨q, 3, none⟩ v3).cell? ⟨q, 1, none⟩ = some v1 ∧ ((((V.setCell ⟨q, 0, none⟩ v0).setCell ⟨q, 1, none⟩ v1).setCell ⟨q, 2, none⟩ v2).setCell ⟨q, 3, none⟩ v3).cell? ⟨q, 2, none⟩ = some v2 ∧ ((((V.setCell ⟨q, 0, none⟩ v0).setCell ⟨q, 1, none⟩ v1).setCell ⟨q, 2, none⟩ v2).setCell ⟨q, 3, none⟩ v3).cell? ⟨q, 3, none⟩ = some v3) := by
  have hb := tok_filled h v0 v1 v2 v3
  refine ⟨?_, ?_, ?_, ?_⟩ <;> · unfold World.cell?; simp only [hb]; rfl

theorem new_tok (w : World) (v0 v1 v2 v3 : Value) (q : Nat) : ((w.alloc (.cells #[v0, v1, v2, v3] 64)).drewN q).heap[w.heap.size]? = some (.cells #[v0, v1, v2, v3] 64 (0, 0)) := by
  show (w.heap.push _)[w.heap.size]? = _
  simp

set_option maxRecDepth 20000 in
set_option maxHeartbeats 2000000 in
theorem ahead_any (w : World) (p tn tc i c bytes : Nat) (ta : Option Addr) (ts : List Tok) (hT : RowT w ta tn ts) (hp0 : w.cell? ⟨p, 0, none⟩ = some (.slice ta tn tc)) (hp1 : w.cell? ⟨p, 1, none⟩ = some (.int .i64 (i : Nat))) (hp2 : w.cell? ⟨p, 2, none⟩ = some (.int .i64 (bytes : Nat))) (hpl : p < w.heap.size) (hi : i + c ≤ 1048576) :
    Calls Tryz.prog 158 #[.pointer (some ⟨p, 0, none⟩), .int .i64 (c : Nat)] w fun e w' => e = .returned (tokW (tokA ts bytes (i + c))) ∧ Below w.heap.size w w' := by
  have hln := hT.len
  have hpw : p ≠ w.heap.size := by omega
  obtain ⟨j, hj⟩ : ∃ j, i + c = j := ⟨_, rfl⟩
  have hsum : (i : Int) + (c : Int) = (j : Int) := by omega
  have hwr : IntKind.i64.wrap (j : Int) = (j : Int) := by rw [IntKind.wrap_i64]; omega
  rw [hj]
  clear hj hi
  by_cases hlt : j < tn
  case neg =>
    have hl : decide ((j : Int) < (tn : Int)) = false := decide_eq_false (by omega)
    have HE : Hid (tokA ts bytes j = ⟨0, 0, ⟨#[]⟩, bytes⟩) := by
      show _ = _
      unfold tokA
      rw [List.getD_eq_getElem?_getD, List.getElem?_eq_none (by omega)]
      rfl
    have hl2 : ¬ (j : Int) < (tn : Int) := by omega
    clear hT hlt hln
    go_enter Tryz.func158, Tryz.ntmps158
    go_wp2_with fail
    go_big_quiet (fail)
    go_wp2_with fail
    obtain ⟨r0, r1, r2, r3⟩ := tok_cells (new_tok w (.int .i64 0) (.int .i64 0) (.string ⟨#[]⟩) (.int .i64 0) nq) (.int .i64 0) (.int .i64 0) (.string ⟨#[]⟩) (.int .i64 (bytes : Nat))
    refine bodyPost_ret (v := .agg #[.int .i64 0, .int .i64 0, .string ⟨#[]⟩, .int .i64 (bytes : Nat)]) (by simp [results, Tryz.results158, go_sem, r0, r1, r2, r3]) rfl ⟨?_, ?_⟩
    · rw [unhide HE]; rfl
    · repeat (first | exact Below.refl _ _ | refine Below.setCell ?_ (by simp) _ | refine Below.drewN ?_ _ | refine Below.alloc ?_ (Nat.le_refl _) _)
  case pos =>
    have hl : decide ((j : Int) < (tn : Int)) = true := decide_eq_true (by omega)
    have hl2 : (j : Int) < (tn : Int) := by omega
    have hj0 : (0 : Int) ≤ (j : Int) := by omega
    obtain ⟨b, off, y, rfl, hbl, hy, a0, a1, a2, a3⟩ := hT.get hlt
    have HE : Hid (tokA ts bytes j = y) := by
      show _ = _
      unfold tokA
      rw [List.getD_eq_getElem?_getD, hy]
      rfl
    obtain ⟨yk, yn, yt, yp⟩ := y
    have hbw : b ≠ w.heap.size := by omega
    have HKEEP : Hid (∀ wx, Below w.heap.size w wx → wx.cell? ⟨p, 0, none⟩ = some (.slice (some ⟨b, off, none⟩) tn tc) ∧ wx.cell? ⟨p, 1, none⟩ = some (.int .i64 (i : Nat)) ∧ wx.cell? ⟨b, off + j * 4, none⟩ = some (.int .i64 yk) ∧ wx.cell? ⟨b, off + j * 4 + 1, none⟩ = some (.int .i64 yn) ∧ wx.cell? ⟨b, off + j * 4 + 2, none⟩ = some (.string yt) ∧ wx.cell? ⟨b, off + j * 4 + 3, none⟩ = some (.int .i64 (yp : Nat))) := fun wx hb => ⟨(hb.cell (p := ⟨p, 0, none⟩) hpl).trans hp0, (hb.cell (p := ⟨p, 1, none⟩) hpl).trans hp1, (hb.cell (p := ⟨b, off + j * 4, none⟩) hbl).trans a0, (hb.cell (p := ⟨b, off + j * 4 + 1, none⟩) hbl).trans a1, (hb.cell (p := ⟨b, off + j * 4 + 2, none⟩) hbl).trans a2, (hb.cell (p := ⟨b, off + j * 4 + 3, none⟩) hbl).trans a3⟩
    clear hT hlt hln hy
    go_enter Tryz.func158, Tryz.ntmps158
    go_wp2_with fail
    go_big_quiet (fail)
    go_wp2_with fail
    go_region_held3 (fun wx => wx.cell? ⟨p, 0, none⟩ = some (.slice (some ⟨b, off, none⟩) tn tc) ∧ wx.cell? ⟨p, 1, none⟩ = some (.int .i64 (i : Nat)) ∧ wx.cell? ⟨b, off + j * 4, none⟩ = some (.int .i64 yk) ∧ wx.cell? ⟨b, off + j * 4 + 1, none⟩ = some (.int .i64 yn) ∧ wx.cell? ⟨b, off + j * 4 + 2, none⟩ = some (.string yt) ∧ wx.cell? ⟨b, off + j * 4 + 3, none⟩ = some (.int .i64 (yp : Nat))) (first | exact unhide HKEEP _ (by repeat (first | exact Below.refl _ _ | refine Below.setCell ?_ (by simp) _ | refine Below.drewN ?_ _ | refine Below.drew ?_ | refine Below.alloc ?_ (Nat.le_refl _) _))) (fail)
    all_goals go_wp2_with fail
    obtain ⟨r0, r1, r2, r3⟩ := tok_cells (new_tok w (.int .i64 0) (.int .i64 0) (.string ⟨#[]⟩) (.int .i64 0) (nq + 1)) (.int .i64 yk) (.int .i64 yn) (.string yt) (.int .i64 (yp : Nat))
    refine bodyPost_ret (v := .agg #[.int .i64 yk, .int .i64 yn, .string yt, .int .i64 (yp : Nat)]) (by simp [results, Tryz.results158, go_sem, r0, r1, r2, r3]) rfl ⟨?_, ?_⟩
    · rw [unhide HE]; rfl
    · repeat (first | exact Below.refl _ _ | refine Below.setCell ?_ (by simp) _ | refine Below.drewN ?_ _ | refine Below.alloc ?_ (Nat.le_refl _) _)

end Go.Proofs.YtmgjicgojlkpcaaGreatDoor
