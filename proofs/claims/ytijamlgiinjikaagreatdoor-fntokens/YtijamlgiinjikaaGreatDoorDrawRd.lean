import Derived.Test.YtijamlgiinjikaaGreatDoorMarksB
import Derived.Test.YtijamlgiinjikaaGreatDoorMFit0
import Derived.Deep.DeepCutAuto
import Derived.BigQuiet
namespace Go.Proofs.YtijamlgiinjikaaGreatDoor
open Go.RowKit

theorem But.cellAt {S : Nat → Prop} {w w' : World} (h : But S w w') {b o : Nat} (hb : b < w.heap.size) (hn : ¬ S b) : w'.cell? ⟨b, o, none⟩ = w.cell? ⟨b, o, none⟩ := World.cell?_of_block (w := w) (a := ⟨b, o, none⟩) (h.block b hb hn)

/-- Block pr holds a reader of at most 1000 bytes, which lie below it. -/
def RdOk (w : World) (pr : Nat) : Prop :=
  ∃ (a : Option Addr) (n c p : Nat), w.heap[pr]? = some (.cells #[.slice a n c, .int .i64 (p : Nat)] 47 (0, 0)) ∧ n ≤ 1000 ∧ p ≤ n ∧ (n = 0 ∨ ∃ b off, a = some ⟨b, off, none⟩ ∧ b < pr ∧ ∀ i, i < n → ∃ v : Nat, v ≤ 255 ∧ w.cell? ⟨b, off + i, none⟩ = some (.int .u8 (v : Nat)))

theorem RdOk.lt {w : World} {pr : Nat} (h : RdOk w pr) : pr < w.heap.size := by obtain ⟨a, n, c, p, hc, _⟩ := h; exact lt_of_block hc

theorem RdOk.but {S : Nat → Prop} {w w' : World} {pr : Nat} (h : RdOk w pr) (hb : But S w w') (hs : ∀ k, S k → pr < k) : RdOk w' pr := by
  have hl := h.lt
  obtain ⟨a, n, c, p, hc, h1, h2, h3⟩ := h
  refine ⟨a, n, c, p, (hb.block pr hl (fun e => by have := hs _ e; omega)).trans hc, h1, h2, ?_⟩
  rcases h3 with h3 | ⟨b, off, e, hbl, hv⟩
  · exact .inl h3
  · refine .inr ⟨b, off, e, hbl, fun i hi => ?_⟩
    obtain ⟨v, hv1, hv2⟩ := hv i hi
    exact ⟨v, hv1, (hb.cellAt (by omega) (fun e => by have := hs _ e; omega)).trans hv2⟩

theorem RdOk.below {w w' : World} {pr : Nat} (h : RdOk w pr) (hb : Below w.heap.size w w') : RdOk w' pr := h.but (S := fun _ => False) (But.of_below hb) (fun _ h => h.elim)

theorem RdOk.set {w : World} {pr : Nat} {a : Option Addr} {n c p q : Nat} (hc : w.heap[pr]? = some (.cells #[.slice a n c, .int .i64 (p : Nat)] 47 (0, 0))) (h1 : n ≤ 1000) (h2 : q ≤ n) (h3 : n = 0 ∨ ∃ b off, a = some ⟨b, off, none⟩ ∧ b < pr ∧ ∀ i, i < n → ∃ v : Nat, v ≤ 255 ∧ w.cell? ⟨b, off + i, none⟩ = some (.int .u8 (v : Nat))) : RdOk (w.setCell ⟨pr, 1, none⟩ (.int .i64 (q : Nat))) pr := by
  refine ⟨a, n, c, q, ?_, h1, h2, ?_⟩
  · rw [heap_setCell_same w pr 1 _ _ _ hc]
    simp
  · rcases h3 with h3 | ⟨b, off, e, hbl, hv⟩
    · exact .inl h3
    · refine .inr ⟨b, off, e, hbl, fun i hi => ?_⟩
      obtain ⟨v, hv1, hv2⟩ := hv i hi
      exact ⟨v, hv1, (World.cell?_setCell_other _ _ _ _ (by simp)).trans hv2⟩

set_option maxHeartbeats 2000000 in
theorem next_any (pr : Nat) (w : World) (h : RdOk w pr) :
    Calls Tryz.prog 10 #[.pointer (some ⟨pr, 0, none⟩)] w fun e w' => (∃ v : Nat, v ≤ 255 ∧ e = .returned (.int .i64 (v : Nat))) ∧ RdOk w' pr ∧ But (fun x => x = pr) w w' := by
  have hl := h.lt
  have HR := hide h
  obtain ⟨a, n, c, p, hc, h1, h2, h3⟩ := h
  have HC := hide hc
  have H3 := hide h3
  have c0 : w.cell? ⟨pr, 0, none⟩ = some (.slice a n c) := by simp [World.cell?, hc]
  have c1 : w.cell? ⟨pr, 1, none⟩ = some (.int .i64 (p : Nat)) := by simp [World.cell?, hc]
  have f1 : w.frozen? ⟨pr, 1, none⟩ = false := frozen_of_row w pr 1 _ _ hc
  by_cases hlt : p < n
  · rcases h3 with h0 | ⟨b, off, rfl, hbl, hv⟩
    · omega
    obtain ⟨v, hv1, hv2⟩ := hv p hlt
    have hw : IntKind.i64.wrap (v : Int) = (v : Int) := by rw [IntKind.wrap_i64]; omega
    have HLT := hide hlt
    clear hlt hv hc
    go_enter Tryz.func10, Tryz.ntmps10
    go_wp2_with fail
    have hd : decide ((p : Int) < (n : Int)) = true := decide_eq_true (by have := unhide HLT; omega)
    go_big_quiet (fail)
    have hlt := unhide HLT
    clear hd
    go_wp2_with fail
    have hpz : (p : Int) < (n : Int) := by omega
    go_quiet (fail)
    go_wp2_with fail
    go_ret
    refine ⟨⟨v, hv1, rfl⟩, ?_, ?_⟩
    · exact RdOk.set (q := p + 1) (unhide HC) h1 (by omega) (unhide H3)
    · first | exact (But.of_below (S := fun x => x = pr) (Below.drewN (Below.refl _ w) _)).setCell (p := ⟨pr, 1, none⟩) rfl _ | exact (But.of_below (S := fun x => x = pr) (Below.drewN (Below.drewN (Below.refl _ w) _) _)).setCell (p := ⟨pr, 1, none⟩) rfl _
  · have HLT := hide hlt
    clear hlt h3 hc
    go_enter Tryz.func10, Tryz.ntmps10
    go_wp2_with fail
    have hd : decide ((p : Int) < (n : Int)) = false := decide_eq_false (by have := unhide HLT; omega)
    go_big_quiet (fail)
    have hlt := unhide HLT
    clear hd
    go_wp2_with fail
    go_ret
    exact ⟨⟨0, by omega, rfl⟩, (unhide HR).below (Below.drewN (Below.refl _ _) _), But.of_below (Below.drewN (Below.refl _ _) _)⟩

/-- A slice of bytes lies in memory. -/
def Bytes (w : World) (a : Option Addr) (n : Nat) : Prop :=
  n = 0 ∨ ∃ b off, a = some ⟨b, off, none⟩ ∧ b < w.heap.size ∧ ∀ i, i < n → ∃ v : Nat, v ≤ 255 ∧ w.cell? ⟨b, off + i, none⟩ = some (.int .u8 (v : Nat))

theorem Bytes.below {w w' : World} {a : Option Addr} {n : Nat} (h : Bytes w a n) (hb : Below w.heap.size w w') : Bytes w' a n := by
  rcases h with h | ⟨b, off, e, hbl, hv⟩
  · exact .inl h
  · refine .inr ⟨b, off, e, by have := hb.size; omega, fun i hi => ?_⟩
    obtain ⟨v, h1, h2⟩ := hv i hi
    exact ⟨v, h1, (hb.cell (p := ⟨b, off + i, none⟩) hbl).trans h2⟩

theorem Bytes.take {w : World} {a : Option Addr} {n m : Nat} (h : Bytes w a n) (hm : m ≤ n) : Bytes w a m := by
  rcases h with h | ⟨b, off, e, hbl, hv⟩
  · exact .inl (by omega)
  · exact .inr ⟨b, off, e, hbl, fun i hi => hv i (by omega)⟩

theorem rd_new {w : World} {a : Option Addr} {n c : Nat} (h : Bytes w a n) (hn : n ≤ 1000) : RdOk (w.alloc (.cells #[.slice a n c, .int .i64 0] 47)) w.heap.size := by
  refine ⟨a, n, c, 0, (by show (w.heap.push _)[w.heap.size]? = _; simp), hn, Nat.zero_le _, ?_⟩
  rcases h with h | ⟨b, off, e, hbl, hv⟩
  · exact .inl h
  · refine .inr ⟨b, off, e, hbl, fun i hi => ?_⟩
    obtain ⟨v, h1, h2⟩ := hv i hi
    exact ⟨v, h1, (((Below.refl w.heap.size w).alloc (Nat.le_refl _) _).cell (p := ⟨b, off + i, none⟩) hbl).trans h2⟩

set_option maxHeartbeats 2000000 in
theorem l1Open_any (a : Option Addr) (n c : Nat) (w : World) (h : Bytes w a n) (hc : n ≤ c) (hn : n ≤ 1048576) :
    Calls Tryz.prog 9 #[.slice a n c] w fun e w' => ∃ pr, e = .returned (.pointer (some ⟨pr, 0, none⟩)) ∧ RdOk w' pr ∧ w.heap.size ≤ pr ∧ Below w.heap.size w w' := by
  by_cases hlt : 1000 < n
  · have hltz : (1000 : Int) < (n : Int) := by omega
    rcases h with h | ⟨b, off, rfl, hbl, hv⟩
    · omega
    have HBY : Hid (Bytes w (some ⟨b, off, none⟩) 1000) := Bytes.take (n := n) (.inr ⟨b, off, rfl, hbl, hv⟩) (by omega)
    have hc1 : (1000 : Int) ≤ (c : Int) := by omega
    clear hv
    go_enter Tryz.func9, Tryz.ntmps9
    go_wp2_with fail
    refine bodyPost_ret (v := .pointer (some ⟨w.heap.size, 0, none⟩)) (by simp [results, Tryz.results9, go_sem]) rfl ⟨w.heap.size, rfl, rd_new (unhide HBY) (Nat.le_refl _), Nat.le_refl _, (Below.refl _ _).alloc (Nat.le_refl _) _⟩
  · have hltz : ¬ (1000 : Int) < (n : Int) := by omega
    have HBY := hide h
    clear h
    go_enter Tryz.func9, Tryz.ntmps9
    go_wp2_with fail
    refine bodyPost_ret (v := .pointer (some ⟨w.heap.size, 0, none⟩)) (by simp [results, Tryz.results9, go_sem]) rfl ⟨w.heap.size, rfl, rd_new (unhide HBY) (by omega), Nat.le_refl _, (Below.refl _ _).alloc (Nat.le_refl _) _⟩

end Go.Proofs.YtijamlgiinjikaaGreatDoor
