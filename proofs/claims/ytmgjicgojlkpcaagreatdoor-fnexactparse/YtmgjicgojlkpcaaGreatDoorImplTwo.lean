import Derived.Test.YtmgjicgojlkpcaaGreatDoorImplMid
namespace Go.Proofs.YtmgjicgojlkpcaaGreatDoor
open Go.RowKit

/-- A token's box and a node's, made in the world V. -/
def tokB (yk yn : Int) (yt : ByteArray) (yp : Nat) : Obj := .cells #[.int .i64 yk, .int .i64 yn, .string yt, .int .i64 (yp : Nat)] 64
def nodB : Obj := .cells #[.int .i64 0, .int .i64 0, .int .i64 0, .string ⟨#[]⟩, .slice none 0 0, .slice none 0 0] 47
def TwoB (V : World) (yk yn : Int) (yt : ByteArray) (yp : Nat) (W : World) : Prop := Below (V.heap.size + 2) ((V.alloc (tokB yk yn yt yp)).alloc nodB) W

section
variable {V W W' : World} {yk yn : Int} {yt : ByteArray} {yp : Nat}

theorem TwoB.start (V : World) (yk yn : Int) (yt : ByteArray) (yp : Nat) : TwoB V yk yn yt yp ((V.alloc (tokB yk yn yt yp)).alloc nodB) := Below.refl _ _
theorem TwoB.size (h : TwoB V yk yn yt yp W) : V.heap.size + 2 ≤ W.heap.size := by have := Below.size h; simp at this; omega
theorem TwoB.go (h : TwoB V yk yn yt yp W) (hb : Below W.heap.size W W') : TwoB V yk yn yt yp W' := Below.trans h (hb.mono h.size)
theorem TwoB.below (h : TwoB V yk yn yt yp W) : Below V.heap.size V W := (((Below.refl _ _).alloc (Nat.le_refl _) _ : Below V.heap.size V _).alloc (by simp) _).trans (Below.mono h (by omega))
theorem TwoB.tok (h : TwoB V yk yn yt yp W) : W.heap[V.heap.size]? = some (tokB yk yn yt yp) := by
  rw [Below.block h _ (by omega), Below.heap_alloc _ _ _ (by simp)]
  show (V.heap.push _)[V.heap.size]? = _
  simp
theorem TwoB.nod (h : TwoB V yk yn yt yp W) : W.heap[V.heap.size + 1]? = some nodB := by
  rw [Below.block h _ (by omega)]
  show ((V.alloc (tokB yk yn yt yp)).heap.push _)[V.heap.size + 1]? = _
  rw [Array.getElem?_push]
  simp
theorem TwoB.q (h : TwoB V yk yn yt yp W) : W.cell? ⟨V.heap.size, 0, none⟩ = some (.int .i64 yk) ∧ W.cell? ⟨V.heap.size, 1, none⟩ = some (.int .i64 yn) ∧ W.cell? ⟨V.heap.size, 2, none⟩ = some (.string yt) ∧ W.cell? ⟨V.heap.size, 3, none⟩ = some (.int .i64 (yp : Nat)) := by
  have e := h.tok
  unfold tokB at e
  refine ⟨?_, ?_, ?_, ?_⟩ <;> simp [World.cell?, e]
theorem TwoB.z (h : TwoB V yk yn yt yp W) : W.frozen? ⟨V.heap.size + 1, 0, none⟩ = false ∧ W.frozen? ⟨V.heap.size + 1, 1, none⟩ = false ∧ W.frozen? ⟨V.heap.size + 1, 2, none⟩ = false ∧ W.frozen? ⟨V.heap.size + 1, 3, none⟩ = false ∧ W.frozen? ⟨V.heap.size + 1, 4, none⟩ = false ∧ W.frozen? ⟨V.heap.size + 1, 5, none⟩ = false := by
  have e := h.nod
  unfold nodB at e
  exact ⟨frozen_of_row W _ 0 _ _ e, frozen_of_row W _ 1 _ _ e, frozen_of_row W _ 2 _ _ e, frozen_of_row W _ 3 _ _ e, frozen_of_row W _ 4 _ _ e, frozen_of_row W _ 5 _ _ e⟩
theorem TwoB.r (h : TwoB V yk yn yt yp W) : W.cell? ⟨V.heap.size + 1, 0, none⟩ = some (.int .i64 0) ∧ W.cell? ⟨V.heap.size + 1, 1, none⟩ = some (.int .i64 0) ∧ W.cell? ⟨V.heap.size + 1, 2, none⟩ = some (.int .i64 0) ∧ W.cell? ⟨V.heap.size + 1, 3, none⟩ = some (.string ⟨#[]⟩) ∧ W.cell? ⟨V.heap.size + 1, 4, none⟩ = some (.slice none 0 0) ∧ W.cell? ⟨V.heap.size + 1, 5, none⟩ = some (.slice none 0 0) := by
  have e := h.nod
  unfold nodB at e
  refine ⟨?_, ?_, ?_, ?_, ?_, ?_⟩ <;> simp [World.cell?, e]

end

section
variable {Z w w0 : World} {p i : Nat} {nd nd0 : Value} {xs ys : List NodeC} {ta : Option Addr} {tn tc bytes : Nat} {ts : List Tok}

/-- One token on. -/
theorem MidP.step (hm : MidI Z p ta tn tc bytes w0 nd0 xs ys i w nd) (d : Nat) (z : Int) (hz : z = (i : Int) + (d : Nat)) : MidI Z p ta tn tc bytes w0 nd0 xs ys (i + d) (w.setCell ⟨p, 1, none⟩ (.int .i64 z)) nd := by
  have hs := hm.ps.setAt (i + d)
  have e : ((i + d : Nat) : Int) = z := by omega
  rw [e] at hs
  exact hm.move hs.1 hs.2

theorem seen_k (E : IEnv Z ta tn ts bytes) (q : Nat) : ((tokA ts bytes q).k = 1 ↔ (seenT ts).cl q = 1) ∧ ((tokA ts bytes q).k = 2 ↔ (seenT ts).cl q = 2) := by
  rw [← tokA_cl bytes q]
  unfold clT
  rcases tokA_ok E.ok bytes q with (⟨h, _⟩ | h | ⟨h, hs, hl⟩ | ⟨h, c, hc, ht⟩) | h
  · simp [h]
  · simp [h]
  · rw [h]
    simp
    split <;> omega
  · have hge : 40 ≤ c := of_decide_eq_true (List.all_eq_true.mp sign_ge c hc)
    have e := signOf_at hc
    rw [← ht] at e
    simp [h, e]
    omega
  · simp [h]

/-- The node's box filled, and one token on. -/
theorem MidP.opd {w5 w6 : World} {yk yn : Int} {yt : ByteArray} {yp : Nat} (hm : MidI Z p ta tn tc bytes w0 nd0 xs ys i w5 nd) (hT : TwoB w5 yk yn yt yp w6) (k n m : Int) (s : ByteArray) :
    MidI Z p ta tn tc bytes w0 nd0 xs ys (i + 1) (((((((w6.setCell ⟨w5.heap.size + 1, 0, none⟩ (.int .i64 k)).setCell ⟨w5.heap.size + 1, 1, none⟩ (.int .i64 n)).setCell ⟨w5.heap.size + 1, 2, none⟩ (.int .i64 m)).setCell ⟨w5.heap.size + 1, 3, none⟩ (.string s)).setCell ⟨w5.heap.size + 1, 4, none⟩ (.slice none 0 0)).setCell ⟨w5.heap.size + 1, 5, none⟩ (.slice none 0 0)).setCell ⟨p, 1, none⟩ (.int .i64 ((i : Int) + 1))) nd :=
  MidP.step (MidP.below hm ((((((hT.below.setCell (Nat.le_succ _) _).setCell (Nat.le_succ _) _).setCell (Nat.le_succ _) _).setCell (Nat.le_succ _) _).setCell (Nat.le_succ _) _).setCell (Nat.le_succ _) _)) 1 _ (by omega)

/-- A reader's answer, seen from further back. -/
theorem GaveI.lift {W : World} {nd1 : Value} {r : Res} {e : Ending} {w' : World} (hm : MidI Z p ta tn tc bytes w0 nd0 xs [] i W nd1) (h : GaveI Z p ta tn tc ts bytes W nd1 xs r e w') : GaveI Z p ta tn tc ts bytes w0 nd0 xs r e w' := by
  rcases h with ⟨hr, ys, nd', z, he, hz, hm', hd⟩ | h
  · refine .inl ⟨hr, ys, nd', z, he, hz, ?_, hd⟩
    have := hm.go (zs := ys) (j := r.2.1) (w1 := w') (nd1 := nd') (by rw [List.append_nil]; exact hm')
    rwa [List.nil_append] at this
  · exact .inr h

theorem GaveI.tup {r : Res} {e : Ending} {w' : World} (h : GaveI Z p ta tn tc ts bytes w nd xs r e w') : ∃ z v, e = .returned (.tuple #[.int .i64 z, v]) ∧ GaveI Z p ta tn tc ts bytes w nd xs r (.returned (.tuple #[.int .i64 z, v])) w' := by
  have h' := h
  rcases h with ⟨hr, ys, nd', z, rfl, _⟩ | ⟨hr, b, z, rfl, _⟩
  · exact ⟨z, _, rfl, h'⟩
  · exact ⟨z, _, rfl, h'⟩

/-- A reader called under way, and what it gives. -/
theorem ReadI.at {f : Nat} {args : Array Value} {r : Res} (hR : ReadI Z p ta tn tc ts bytes f args i r) (hm : MidI Z p ta tn tc bytes w0 nd0 xs [] i w nd) (hlen : xs.length + 4 * (5000 - i) ≤ 100000) : Calls Tryz.prog f args w fun e w' => ∃ z v, e = .returned (.tuple #[.int .i64 z, v]) ∧ GaveI Z p ta tn tc ts bytes w0 nd0 xs r (.returned (.tuple #[.int .i64 z, v])) w' := by
  have hp := hm.ps
  rw [List.append_nil] at hp
  refine (hR w nd xs hp hlen).mono fun e w' h => (h.lift hm).tup

end
end Go.Proofs.YtmgjicgojlkpcaaGreatDoor
