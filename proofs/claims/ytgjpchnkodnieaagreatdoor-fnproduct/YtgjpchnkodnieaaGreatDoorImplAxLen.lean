import Derived.Test.YtgjpchnkodnieaaGreatDoorImplAxisZ
import Derived.Test.YtgjpchnkodnieaaGreatDoorImplFoldM
namespace Go.Proofs.YtgjpchnkodnieaaGreatDoor
open Go.RowKit Go.Shelf

theorem field_len (B N A : Int) (v : Value) (w : World) : (Instr.field 133 (.agg #[.int .i64 B, .int .i64 N, .int .i64 A, v]) 1).run Tryz.prog w = .ok (.int .i64 N) w := by kernel_rfl

/-- What axisOf says of the length alone. -/
def LenIs (N : Nat) (w : World) (e : Ending) (w' : World) : Prop := ∃ (B A : Int) (oa : Option Addr) (ol oc : Nat), e = .returned (.agg #[.int .i64 B, .int .i64 (N : Nat), .int .i64 A, .slice oa ol oc]) ∧ Below w.heap.size w w'

theorem axisOf_len (fl : Bool) (b : Addr) (m dd N : Nat) (sh : List Int) (c : Bool) (dt : List Int) (w : World) (h : Row w (some b) m sh) (hd : m ≤ dd) (hok : arrOk c sh dt = true) (hN : sh ≠ [] → axisN sh fl = N) (h1 : sh = [] → N = 1) :
    Calls Tryz.prog 112 #[.slice (some b) m dd, .bool fl] w (LenIs N w) := by
  by_cases hs : sh = []
  · have hm : m = 0 := by rw [← h.len, hs]; rfl
    subst hm
    refine (axisOf_zero fl b dd w).mono ?_
    rintro e w1 ⟨oa, ol, oc, rfl, _, hb⟩
    rw [h1 hs]
    exact ⟨1, 1, oa, ol, oc, rfl, hb⟩
  · have hm : 0 < m := by rw [← h.len]; exact List.length_pos_iff.mpr hs
    obtain ⟨k, rfl⟩ : ∃ k, m = k + 1 := ⟨m - 1, by omega⟩
    obtain ⟨B, L, A, hx, _, _, _, _⟩ := axis_is fl hok hs
    have hin := shapeIn_of hok
    refine (axisOf_any fl b k dd B L A sh w h hd hin.1 (by have := hin.2.2; rw [h.len] at this; omega) hx).mono ?_
    rintro e w1 ⟨oa, ol, oc, rfl, _, hb⟩
    have hLN : L = N := by have := hx.l; have := hN hs; omega
    subst hLN
    exact ⟨B, A, oa, ol, oc, rfl, hb⟩

end Go.Proofs.YtgjpchnkodnieaaGreatDoor
