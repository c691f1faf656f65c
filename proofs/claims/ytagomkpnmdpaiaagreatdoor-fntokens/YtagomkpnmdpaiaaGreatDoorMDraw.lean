import Derived.Test.YtagomkpnmdpaiaaGreatDoorMOw
import Derived.Test.YtagomkpnmdpaiaaGreatDoorMBase
import Derived.Deep.DeepCutAuto
import Derived.BigQuiet
import Derived.Test.YtagomkpnmdpaiaaGreatDoorSpecSigns
import Derived.Test.YtagomkpnmdpaiaaGreatDoorMCv
namespace Go.Proofs.YtagomkpnmdpaiaaGreatDoor
open Go.RowKit

theorem But.cellAt {S : Nat → Prop} {w w' : World} (h : But S w w') {b o : Nat} (hb : b < w.heap.size) (hn : ¬ S b) : w'.cell? ⟨b, o, none⟩ = w.cell? ⟨b, o, none⟩ := World.cell?_of_block (w := w) (a := ⟨b, o, none⟩) (h.block b hb hn)

/-- Block pr holds a reader of at most 1000 bytes, which lie below it. -/
def RdOk (w : World) (pr : Nat) : Prop :=
  ∃ (a : Option Addr) (n c p : Nat), w.heap[pr]? = some (.cells #[.slice a n c, .int .i64 (p : Nat)] 47 (0, 0)) ∧ n ≤ 1000 ∧ p ≤ n ∧ (n = 0 ∨ ∃ b off, a = some ⟨b, off, none⟩ ∧ b < pr ∧ ∀ i, i < n → ∃ v : Nat, v ≤ 255 ∧ w.cell? ⟨b, off + i, none⟩ = some (.int .u8 (v : Nat)))

theorem RdOk.lt {w : World} {pr : Nat} (h : RdOk w pr) : pr < w.heap.size := by obtain ⟨a, n, c, p, hc, _⟩ := h; exact lt_of_block hc

theorem RdOk.but {S : Nat → Prop} {w w' : World} {pr : Nat} (h : RdOk w pr) (hb : But S w w') (hs : ∀ k, S k → pr < k) : RdOk w' pr := by
  have hl := h.lt
  obtain ⟨a, n, c, p, hc, h1, h2, h3⟩ := h
  refine ⟨a, n, c, p, (hb.block pr hl (fun e => by have := hs _ e; omega)).trans hc, h1, h2, ?_⟩
  rcases h3 with h3 | ⟨b, off, e, hbl, hv⟩
  · exact .inl h3
  · refine .inr ⟨b, off, e, hbl, fun i hi => ?_⟩
    obtain ⟨v, hv1, hv2⟩ := hv i hi
    exact ⟨v, hv1, (hb.cellAt (by omega) (fun e => by have := hs _ e; omega)).trans hv2⟩

theorem RdOk.below {w w' : World} {pr : Nat} (h : RdOk w pr) (hb : Below w.heap.size w w') : RdOk w' pr := h.but (S := fun _ => False) (But.of_below hb) (fun _ h => h.elim)

theorem RdOk.set {w : World} {pr : Nat} {a : Option Addr} {n c p q : Nat} (hc : w.heap[pr]? = some (.cells #[.slice a n c, .int .i64 (p : Nat)] 47 (0, 0))) (h1 : n ≤ 1000) (h2 : q ≤ n) (h3 : n = 0 ∨ ∃ b off, a = some ⟨b, off, none⟩ ∧ b < pr ∧ ∀ i, i < n → ∃ v : Nat, v ≤ 255 ∧ w.cell? ⟨b, off + i, none⟩ = some (.int .u8 (v : Nat))) : RdOk (w.setCell ⟨pr, 1, none⟩ (.int .i64 (q : Nat))) pr := by
  refine ⟨a, n, c, q, ?_, h1, h2, ?_⟩
  · rw [heap_setCell_same w pr 1 _ _ _ hc]
    simp
  · rcases h3 with h3 | ⟨b, off, e, hbl, hv⟩
    · exact .inl h3
    · refine .inr ⟨b, off, e, hbl, fun i hi => ?_⟩
      obtain ⟨v, hv1, hv2⟩ := hv i hi
      exact ⟨v, hv1, (World.cell?_setCell_other _ _ _ _ (by simp)).trans hv2⟩

set_option maxHeartbeats 2000000 in
theorem next_any (pr : Nat) (w : World) (h : RdOk w pr) :
    Calls Tryz.prog 10 #[.pointer (some ⟨pr, 0, none⟩)] w fun e w' => (∃ v : Nat, v ≤ 255 ∧ e = .returned (.int .i64 (v : Nat))) ∧ RdOk w' pr ∧ But (fun x => x = pr) w w' := by
  have hl := h.lt
  have HR := hide h
  obtain ⟨a, n, c, p, hc, h1, h2, h3⟩ := h
  have HC := hide hc
  have H3 := hide h3
  have c0 : w.cell? ⟨pr, 0, none⟩ = some (.slice a n c) := by simp [World.cell?, hc]
  have c1 : w.cell? ⟨pr, 1, none⟩ = some (.int .i64 (p : Nat)) := by simp [World.cell?, hc]
  have f1 : w.frozen? ⟨pr, 1, none⟩ = false := frozen_of_row w pr 1 _ _ hc
  by_cases hlt : p < n
  · rcases h3 with h0 | ⟨b, off, rfl, hbl, hv⟩
    · omega
    obtain ⟨v, hv1, hv2⟩ := hv p hlt
    have hw : IntKind.i64.wrap (v : Int) = (v : Int) := by rw [IntKind.wrap_i64]; omega
    have HLT := hide hlt
    clear hlt hv hc
    go_enter Tryz.func10, Tryz.ntmps10
    go_wp2_with fail
    have hd : decide ((p : Int) < (n : Int)) = true := decide_eq_true (by have := unhide HLT; omega)
    go_big_quiet (fail)
    have hlt := unhide HLT
    clear hd
    go_wp2_with fail
    have hpz : (p : Int) < (n : Int) := by omega
    go_quiet (fail)
    go_wp2_with fail
    go_ret
    refine ⟨⟨v, hv1, rfl⟩, ?_, ?_⟩
    · exact RdOk.set (q := p + 1) (unhide HC) h1 (by omega) (unhide H3)
    · first | exact (But.of_below (S := fun x => x = pr) (Below.drewN (Below.refl _ w) _)).setCell (p := ⟨pr, 1, none⟩) rfl _ | exact (But.of_below (S := fun x => x = pr) (Below.drewN (Below.drewN (Below.refl _ w) _) _)).setCell (p := ⟨pr, 1, none⟩) rfl _
  · have HLT := hide hlt
    clear hlt h3 hc
    go_enter Tryz.func10, Tryz.ntmps10
    go_wp2_with fail
    have hd : decide ((p : Int) < (n : Int)) = false := decide_eq_false (by have := unhide HLT; omega)
    go_big_quiet (fail)
    have hlt := unhide HLT
    clear hd
    go_wp2_with fail
    go_ret
    exact ⟨⟨0, by omega, rfl⟩, (unhide HR).below (Below.drewN (Below.refl _ _) _), But.of_below (Below.drewN (Below.refl _ _) _)⟩

/-- A slice of bytes lies in memory. -/
def Bytes (w : World) (a : Option Addr) (n : Nat) : Prop :=
  n = 0 ∨ ∃ b off, a = some ⟨b, off, none⟩ ∧ b < w.heap.size ∧ ∀ i, i < n → ∃ v : Nat, v ≤ 255 ∧ w.cell? ⟨b, off + i, none⟩ = some (.int .u8 (v : Nat))

theorem Bytes.below {w w' : World} {a : Option Addr} {n : Nat} (h : Bytes w a n) (hb : Below w.heap.size w w') : Bytes w' a n := by
  rcases h with h | ⟨b, off, e, hbl, hv⟩
  · exact .inl h
  · refine .inr ⟨b, off, e, by have := hb.size; omega, fun i hi => ?_⟩
    obtain ⟨v, h1, h2⟩ := hv i hi
    exact ⟨v, h1, (hb.cell (p := ⟨b, off + i, none⟩) hbl).trans h2⟩

theorem Bytes.take {w : World} {a : Option Addr} {n m : Nat} (h : Bytes w a n) (hm : m ≤ n) : Bytes w a m := by
  rcases h with h | ⟨b, off, e, hbl, hv⟩
  · exact .inl (by omega)
  · exact .inr ⟨b, off, e, hbl, fun i hi => hv i (by omega)⟩

theorem rd_new {w : World} {a : Option Addr} {n c : Nat} (h : Bytes w a n) (hn : n ≤ 1000) : RdOk (w.alloc (.cells #[.slice a n c, .int .i64 0] 47)) w.heap.size := by
  refine ⟨a, n, c, 0, (by show (w.heap.push _)[w.heap.size]? = _; simp), hn, Nat.zero_le _, ?_⟩
  rcases h with h | ⟨b, off, e, hbl, hv⟩
  · exact .inl h
  · refine .inr ⟨b, off, e, hbl, fun i hi => ?_⟩
    obtain ⟨v, h1, h2⟩ := hv i hi
    exact ⟨v, h1, (((Below.refl w.heap.size w).alloc (Nat.le_refl _) _).cell (p := ⟨b, off + i, none⟩) hbl).trans h2⟩

set_option maxHeartbeats 2000000 in
theorem l1Open_any (a : Option Addr) (n c : Nat) (w : World) (h : Bytes w a n) (hc : n ≤ c) (hn : n ≤ 1048576) :
    Calls Tryz.prog 9 #[.slice a n c] w fun e w' => ∃ pr, e = .returned (.pointer (some ⟨pr, 0, none⟩)) ∧ RdOk w' pr ∧ w.heap.size ≤ pr ∧ Below w.heap.size w w' := by
  by_cases hlt : 1000 < n
  · have hltz : (1000 : Int) < (n : Int) := by omega
    rcases h with h | ⟨b, off, rfl, hbl, hv⟩
    · omega
    have HBY : Hid (Bytes w (some ⟨b, off, none⟩) 1000) := Bytes.take (n := n) (.inr ⟨b, off, rfl, hbl, hv⟩) (by omega)
    have hc1 : (1000 : Int) ≤ (c : Int) := by omega
    clear hv
    go_enter Tryz.func9, Tryz.ntmps9
    go_wp2_with fail
    refine bodyPost_ret (v := .pointer (some ⟨w.heap.size, 0, none⟩)) (by simp [results, Tryz.results9, go_sem]) rfl ⟨w.heap.size, rfl, rd_new (unhide HBY) (Nat.le_refl _), Nat.le_refl _, (Below.refl _ _).alloc (Nat.le_refl _) _⟩
  · have hltz : ¬ (1000 : Int) < (n : Int) := by omega
    have HBY := hide h
    clear h
    go_enter Tryz.func9, Tryz.ntmps9
    go_wp2_with fail
    refine bodyPost_ret (v := .pointer (some ⟨w.heap.size, 0, none⟩)) (by simp [results, Tryz.results9, go_sem]) rfl ⟨w.heap.size, rfl, rd_new (unhide HBY) (by omega), Nat.le_refl _, (Below.refl _ _).alloc (Nat.le_refl _) _⟩

end Go.Proofs.YtagomkpnmdpaiaaGreatDoor
namespace Go.Proofs.YtagomkpnmdpaiaaGreatDoor
open Go.RowKit

set_option maxHeartbeats 1000000 in
theorem left_at (pr : Nat) (w : World) {a : Option Addr} {n c p : Nat} (hc : w.heap[pr]? = some (.cells #[.slice a n c, .int .i64 (p : Nat)] 47 (0, 0))) (h1 : n ≤ 1000) (h2 : p ≤ n) :
    Calls Tryz.prog 11 #[.pointer (some ⟨pr, 0, none⟩)] w fun e w' => e = .returned (.int .i64 ((n : Int) - (p : Int))) ∧ ∃ q, w' = w.drewN q := by
  have c0 : w.cell? ⟨pr, 0, none⟩ = some (.slice a n c) := by simp [World.cell?, hc]
  have c1 : w.cell? ⟨pr, 1, none⟩ = some (.int .i64 (p : Nat)) := by simp [World.cell?, hc]
  clear hc
  go_enter Tryz.func11, Tryz.ntmps11
  go_wp2_with fail
  go_quiet (fail)
  go_wp2_with fail
  go_ret
  exact ⟨by go_num, _, rfl⟩

theorem RowS.but {S : Nat → Prop} {w w' : World} {n : Nat} {ps : List ByteArray} {g : Nat} (h : RowS w (some ⟨g, 0, none⟩) n ps) (hb : But S w w') (hs : ¬ S g) : RowS w' (some ⟨g, 0, none⟩) n ps := by
  refine ⟨h.len, ?_⟩
  rcases h.at_ with h0 | ⟨b, off, e, hlt, hc⟩
  · exact .inl h0
  · cases e
    exact .inr ⟨g, 0, rfl, Nat.lt_of_lt_of_le hlt hb.size, fun i hi => (hb.cellAt hlt hs).trans (hc i hi)⟩

theorem RowS.lit (w : World) (ps : List ByteArray) : RowS (w.alloc (.cells (ps.map Value.string).toArray 9)) (some ⟨w.heap.size, 0, none⟩) ps.length ps := by
  have hb : (w.alloc (.cells (ps.map Value.string).toArray 9)).heap[w.heap.size]? = some (.cells (ps.map Value.string).toArray 9) := by
    show (w.heap.push _)[w.heap.size]? = _
    simp
  refine ⟨rfl, .inr ⟨w.heap.size, 0, rfl, by simp, fun i hi => ?_⟩⟩
  obtain ⟨W, hW⟩ : ∃ W, w.alloc (.cells (ps.map Value.string).toArray 9) = W := ⟨_, rfl⟩
  rw [hW] at hb ⊢
  simp [World.cell?, hb, hi]

theorem modN (k m : Nat) (hm : 0 < m) : ∃ j : Nat, j < m ∧ (k : Int).tmod (m : Int) = (j : Int) ∧ (k : Int) % (m : Int) = (j : Int) := ⟨k % m, Nat.mod_lt _ hm, by rw [Int.tmod_eq_emod_of_nonneg (by omega)]; rfl, rfl⟩

theorem RowS.at {w : World} {g n j : Nat} {ps : List ByteArray} (h : RowS w (some ⟨g, 0, none⟩) n ps) (hj : j < n) : ∃ x, x ∈ ps ∧ w.cell? ⟨g, j, none⟩ = some (.string x) := by
  have hl := h.len
  rcases h.at_ with h0 | ⟨b, off, e, hlt, hc⟩
  · omega
  · cases e
    have hjl : j < ps.length := by omega
    refine ⟨ps[j], List.getElem_mem hjl, ?_⟩
    have := hc j hj
    simpa [hjl] using this

set_option maxHeartbeats 1000000 in
theorem pick_any (pr g n c : Nat) (ps : List ByteArray) (w : World) (h : RdOk w pr) (hS : RowS w (some ⟨g, 0, none⟩) n ps) (hn : 0 < n) (hn2 : n ≤ 1000) :
    Calls Tryz.prog 19 #[.pointer (some ⟨pr, 0, none⟩), .slice (some ⟨g, 0, none⟩) n c] w fun e w' => (∃ x, x ∈ ps ∧ e = .returned (.string x)) ∧ RdOk w' pr ∧ But (fun x => x = pr) w w' := by
  have HN := hide (next_any pr w h)
  have HS := hide hS
  have hne : g ≠ pr := by
    obtain ⟨x, _, hx⟩ := RowS.at hS hn
    obtain ⟨a, m, c', p, hc, _⟩ := h
    intro e
    subst e
    simp [World.cell?, hc] at hx
  clear h hS
  go_enter Tryz.func19, Tryz.ntmps19
  go_wp2_with (go_at_call 10; refine (unhide HN).mono ?_; rintro e w1 ⟨⟨v, hv, rfl⟩, hr1, hb1⟩; have HR1 := hide hr1; have HB1 := hide hb1; obtain ⟨j, hj, e1, e2⟩ := modN v n hn; have hs1 := (unhide HS).but hb1 hne; obtain ⟨x, hx, hcell⟩ : ∃ x, x ∈ ps ∧ w1.cell? ⟨g, j, none⟩ = some (.string x) := RowS.at hs1 hj; have HX := hide hx; clear hr1 hb1 hs1 hx)
  go_ret
  exact ⟨⟨x, unhide HX, rfl⟩, unhide HR1, unhide HB1⟩

def pcs1 : List ByteArray := [⟨#[48]⟩, ⟨#[49, 50]⟩, ⟨#[194, 175, 51]⟩, ⟨#[194, 175]⟩, ⟨#[48, 48, 55]⟩, ⟨#[49, 48, 48, 48, 48, 48, 48, 48, 48, 48, 48, 48, 48, 48, 48, 48]⟩, ⟨#[49, 48, 48, 48, 48, 48, 48, 48, 48, 48, 48, 48, 48, 48, 48, 49]⟩, ⟨#[194, 175, 49, 48, 48, 48, 48, 48, 48, 48, 48, 48, 48, 48, 48, 48, 48, 48]⟩, ⟨#[51, 97]⟩, ⟨#[51, 194, 175, 52]⟩, ⟨#[194, 175, 120]⟩, ⟨#[53, 39, 97, 39]⟩, ⟨#[57, 57, 57, 57, 57, 57, 57, 57, 57, 57, 57, 57, 57, 57, 57, 57, 57, 57, 57, 57, 57, 57, 57]⟩]

theorem pcs1_ok : ∀ x ∈ pcs1, 1 ≤ x.size ∧ x.size ≤ 30 := by decide

def pcs2 : List ByteArray := [⟨#[39, 39]⟩, ⟨#[39, 97, 39]⟩, ⟨#[39, 105, 116, 39, 39, 115, 39]⟩, ⟨#[39, 226, 141, 181, 195, 169, 39]⟩, ⟨#[39]⟩, ⟨#[39, 97, 98]⟩, ⟨#[39, 97, 10, 39]⟩, ⟨#[39, 128, 39]⟩, ⟨#[39, 226, 141, 157, 39]⟩, ⟨#[39, 39, 39, 39]⟩]

theorem pcs2_ok : ∀ x ∈ pcs2, 1 ≤ x.size ∧ x.size ≤ 30 := by decide

def pcs3 : List ByteArray := [⟨#[120]⟩, ⟨#[70]⟩, ⟨#[97, 66, 51]⟩, ⟨#[97, 97, 97, 97, 97, 97, 97, 97, 97, 97, 97, 97, 97, 97, 97, 97, 97, 97, 97, 97]⟩, ⟨#[97, 97, 97, 97, 97, 97, 97, 97, 97, 97, 97, 97, 97, 97, 97, 97, 97, 97, 97, 97, 97]⟩, ⟨#[120, 32, 121]⟩]

theorem pcs3_ok : ∀ x ∈ pcs3, 1 ≤ x.size ∧ x.size ≤ 30 := by decide

def pcs4 : List ByteArray := [⟨#[32]⟩, ⟨#[9]⟩, ⟨#[226, 141, 157, 32, 120]⟩, ⟨#[64]⟩, ⟨#[10]⟩, ⟨#[128]⟩, ⟨#[195, 169]⟩, ⟨#[226, 141]⟩, ⟨#[192, 128]⟩, ⟨#[237, 160, 128]⟩, ⟨#[244, 144, 128, 128]⟩, ⟨#[95]⟩, ⟨#[35]⟩]

theorem pcs4_ok : ∀ x ∈ pcs4, 1 ≤ x.size ∧ x.size ≤ 30 := by decide

theorem signs_ok : ∀ x ∈ (pcN signS signS.size).2, 1 ≤ x.size ∧ x.size ≤ 30 := by
  rw [signs_pieces]
  decide

theorem signs_count : (pcN signS signS.size).2.length = 51 := by rw [signs_pieces]; rfl

set_option maxRecDepth 20000 in
set_option maxHeartbeats 4000000 in
theorem l1Piece_any (pr : Nat) (w : World) (h : RdOk w pr) :
    Calls Tryz.prog 12 #[.pointer (some ⟨pr, 0, none⟩)] w fun e w' => (∃ x : ByteArray, 1 ≤ x.size ∧ x.size ≤ 31 ∧ e = .returned (.string x)) ∧ RdOk w' pr ∧ But (fun x => x = pr) w w' := by
  have HN := hide (next_any pr w h)
  have HSG := hide (fun W => l1Signs_any W)
  have HLI := hide (fun W => l1List_any signS W sign_size)
  obtain ⟨ps, hps⟩ : ∃ l, (pcN signS signS.size).2 = l := ⟨_, rfl⟩
  have hok := signs_ok
  have hct := signs_count
  rw [hps] at HLI hok hct
  have HOK := hide hok
  have HCT := hide hct
  obtain ⟨sS, hsS⟩ : ∃ x, signS = x := ⟨_, rfl⟩
  rw [hsS] at HSG HLI
  clear h hps hok hct hsS
  go_enter Tryz.func12, Tryz.ntmps12
  go_wp2_with fail
  refine (unhide HN).mono ?_
  rintro e w1 ⟨⟨v, hv, rfl⟩, hr1, hb1⟩
  have HR1 := hide hr1
  have HB1 := hide hb1
  have hpl := hr1.lt
  obtain ⟨j, hj, e1, e2⟩ := modN v 8 (by omega)
  have e1' : (v : Int).tmod 8 = (j : Int) := e1
  have e2' : (v : Int) % 8 = (j : Int) := e2
  clear hr1 hb1 e1 e2
  by_cases c0 : j < 3
  · have c0i : (j : Int) < 3 := by omega
    go_wp2_with (first | (go_at_call 21; refine (unhide HSG _).mono ?_; rintro e w2 ⟨rfl, hw⟩; obtain rfl := hw.symm) | (go_at_call 20; refine (unhide HLI _).mono ?_; rintro e w3 ⟨g3, cap3, rfl, hR3, hb3⟩; rw [unhide HCT] at hR3 ⊢; have HR3 := hide hR3; have HRd := hide ((unhide HR1).below hb3); have HB3 := hide ((unhide HB1).trans (But.of_below (S := fun x => x = pr) hb3)); clear hR3 hb3) | (go_at_call 19; refine (pick_any pr g3 51 cap3 ps _ (by exact unhide HRd) (by exact unhide HR3) (by omega) (by omega)).mono ?_; rintro e w4 ⟨⟨x, hx, rfl⟩, hr4, hb4⟩; have HX := hide (unhide HOK x hx); have HR4 := hide hr4; have HB4 := hide ((unhide HB3).trans hb4); clear hx hr4 hb4))
    go_ret
    exact ⟨⟨x, (unhide HX).1, by have := (unhide HX).2; omega, rfl⟩, unhide HR4, (unhide HB4).mono (fun x hx => by rcases hx with (h | h) | h <;> exact h)⟩
  have c0i : ¬ (j : Int) < 3 := by omega
  have hno32 : ∀ x : ByteArray, x.size ≤ 30 → ¬ 9223372036854775807 < x.size + (ByteArray.mk #[32]).size := fun x hx => by rw [show (ByteArray.mk #[32]).size = 1 from rfl]; omega
  by_cases c3 : j = 3
  · have ci : (j : Int) = 3 := by omega
    have HP := hide (pick_any pr w1.heap.size 13 13 pcs1 (w1.alloc (.cells #[.string ⟨#[48]⟩, .string ⟨#[49, 50]⟩, .string ⟨#[194, 175, 51]⟩, .string ⟨#[194, 175]⟩, .string ⟨#[48, 48, 55]⟩, .string ⟨#[49, 48, 48, 48, 48, 48, 48, 48, 48, 48, 48, 48, 48, 48, 48, 48]⟩, .string ⟨#[49, 48, 48, 48, 48, 48, 48, 48, 48, 48, 48, 48, 48, 48, 48, 49]⟩, .string ⟨#[194, 175, 49, 48, 48, 48, 48, 48, 48, 48, 48, 48, 48, 48, 48, 48, 48, 48]⟩, .string ⟨#[51, 97]⟩, .string ⟨#[51, 194, 175, 52]⟩, .string ⟨#[194, 175, 120]⟩, .string ⟨#[53, 39, 97, 39]⟩, .string ⟨#[57, 57, 57, 57, 57, 57, 57, 57, 57, 57, 57, 57, 57, 57, 57, 57, 57, 57, 57, 57, 57, 57, 57]⟩] 9)) ((unhide HR1).below ((Below.refl _ _).alloc (Nat.le_refl _) _)) (RowS.lit w1 pcs1) (by omega) (by omega))
    go_wp2_with (go_at_call 19; refine (unhide HP).mono ?_; rintro e w4 ⟨⟨x, hx, rfl⟩, hr4, hb4⟩; have HX := hide (pcs1_ok x hx); have hno := hno32 x (unhide HX).2; have HR4 := hide hr4; have HB4 := hide ((unhide HB1).trans ((But.of_below (S := fun x => x = pr) ((Below.refl _ w1).alloc (Nat.le_refl _) _)).trans hb4)); clear hx hr4 hb4)
    go_ret
    exact ⟨⟨x ++ ByteArray.mk #[32], by rw [ByteArray.size_append]; have := (unhide HX).1; omega, by rw [ByteArray.size_append, show (ByteArray.mk #[32]).size = 1 from rfl]; have := (unhide HX).2; omega, rfl⟩, unhide HR4, (unhide HB4).mono (fun x hx => by rcases hx with h | h | h <;> exact h)⟩
  have c3i : ¬ (j : Int) = 3 := by omega
  by_cases c4 : j = 4
  · have ci : (j : Int) = 4 := by omega
    have HP := hide (pick_any pr w1.heap.size 10 10 pcs2 (w1.alloc (.cells #[.string ⟨#[39, 39]⟩, .string ⟨#[39, 97, 39]⟩, .string ⟨#[39, 105, 116, 39, 39, 115, 39]⟩, .string ⟨#[39, 226, 141, 181, 195, 169, 39]⟩, .string ⟨#[39]⟩, .string ⟨#[39, 97, 98]⟩, .string ⟨#[39, 97, 10, 39]⟩, .string ⟨#[39, 128, 39]⟩, .string ⟨#[39, 226, 141, 157, 39]⟩, .string ⟨#[39, 39, 39, 39]⟩] 9)) ((unhide HR1).below ((Below.refl _ _).alloc (Nat.le_refl _) _)) (RowS.lit w1 pcs2) (by omega) (by omega))
    go_wp2_with (go_at_call 19; refine (unhide HP).mono ?_; rintro e w4 ⟨⟨x, hx, rfl⟩, hr4, hb4⟩; have HX := hide (pcs2_ok x hx); have hno := hno32 x (unhide HX).2; have HR4 := hide hr4; have HB4 := hide ((unhide HB1).trans ((But.of_below (S := fun x => x = pr) ((Below.refl _ w1).alloc (Nat.le_refl _) _)).trans hb4)); clear hx hr4 hb4)
    go_ret
    exact ⟨⟨x, (unhide HX).1, by have := (unhide HX).2; omega, rfl⟩, unhide HR4, (unhide HB4).mono (fun x hx => by rcases hx with h | h | h <;> exact h)⟩
  have c4i : ¬ (j : Int) = 4 := by omega
  by_cases c5 : j = 5
  · have ci : (j : Int) = 5 := by omega
    have HP := hide (pick_any pr w1.heap.size 6 6 pcs3 (w1.alloc (.cells #[.string ⟨#[120]⟩, .string ⟨#[70]⟩, .string ⟨#[97, 66, 51]⟩, .string ⟨#[97, 97, 97, 97, 97, 97, 97, 97, 97, 97, 97, 97, 97, 97, 97, 97, 97, 97, 97, 97]⟩, .string ⟨#[97, 97, 97, 97, 97, 97, 97, 97, 97, 97, 97, 97, 97, 97, 97, 97, 97, 97, 97, 97, 97]⟩, .string ⟨#[120, 32, 121]⟩] 9)) ((unhide HR1).below ((Below.refl _ _).alloc (Nat.le_refl _) _)) (RowS.lit w1 pcs3) (by omega) (by omega))
    go_wp2_with (go_at_call 19; refine (unhide HP).mono ?_; rintro e w4 ⟨⟨x, hx, rfl⟩, hr4, hb4⟩; have HX := hide (pcs3_ok x hx); have hno := hno32 x (unhide HX).2; have HR4 := hide hr4; have HB4 := hide ((unhide HB1).trans ((But.of_below (S := fun x => x = pr) ((Below.refl _ w1).alloc (Nat.le_refl _) _)).trans hb4)); clear hx hr4 hb4)
    go_ret
    exact ⟨⟨x ++ ByteArray.mk #[32], by rw [ByteArray.size_append]; have := (unhide HX).1; omega, by rw [ByteArray.size_append, show (ByteArray.mk #[32]).size = 1 from rfl]; have := (unhide HX).2; omega, rfl⟩, unhide HR4, (unhide HB4).mono (fun x hx => by rcases hx with h | h | h <;> exact h)⟩
  have c5i : ¬ (j : Int) = 5 := by omega
  have HP := hide (pick_any pr w1.heap.size 13 13 pcs4 (w1.alloc (.cells #[.string ⟨#[32]⟩, .string ⟨#[9]⟩, .string ⟨#[226, 141, 157, 32, 120]⟩, .string ⟨#[64]⟩, .string ⟨#[10]⟩, .string ⟨#[128]⟩, .string ⟨#[195, 169]⟩, .string ⟨#[226, 141]⟩, .string ⟨#[192, 128]⟩, .string ⟨#[237, 160, 128]⟩, .string ⟨#[244, 144, 128, 128]⟩, .string ⟨#[95]⟩, .string ⟨#[35]⟩] 9)) ((unhide HR1).below ((Below.refl _ _).alloc (Nat.le_refl _) _)) (RowS.lit w1 pcs4) (by omega) (by omega))
  go_wp2_with (go_at_call 19; refine (unhide HP).mono ?_; rintro e w4 ⟨⟨x, hx, rfl⟩, hr4, hb4⟩; have HX := hide (pcs4_ok x hx); have hno := hno32 x (unhide HX).2; have HR4 := hide hr4; have HB4 := hide ((unhide HB1).trans ((But.of_below (S := fun x => x = pr) ((Below.refl _ w1).alloc (Nat.le_refl _) _)).trans hb4)); clear hx hr4 hb4)
  go_ret
  exact ⟨⟨x, (unhide HX).1, by have := (unhide HX).2; omega, rfl⟩, unhide HR4, (unhide HB4).mono (fun x hx => by rcases hx with h | h | h <;> exact h)⟩

end Go.Proofs.YtagomkpnmdpaiaaGreatDoor
namespace Go.Proofs.YtagomkpnmdpaiaaGreatDoor
open Go.RowKit

/-- How DrawLex stands: the bytes so far in a slice of the call's own behind the reader. -/
structure DrS (w : World) (pr : Nat) (wr : World) (g cap n : Nat) (out : List UInt8) : Prop where
  own : wr.ownsRow (pr + 1) 5 1 (.slice (some ⟨g, 0, none⟩) n cap) n ((uz out).map (Value.int .u8))
  low : Below w.heap.size w wr
  rd : RdOk wr pr

theorem DrS.len {w wr : World} {pr g cap n : Nat} {out : List UInt8} (h : DrS w pr wr g cap n out) : out.length = n := by
  have := h.own.1
  rw [List.length_map, uz_len] at this
  omega

theorem DrS.ge {w wr : World} {pr g cap n : Nat} {out : List UInt8} (h : DrS w pr wr g cap n out) : pr + 1 ≤ g := by
  rcases h.own.2 with ⟨h', _⟩ | ⟨g', cap', cur, h', hb, _⟩
  · simp at h'
  · cases h'; exact hb

theorem DrS.below {w wr w' : World} {pr g cap n : Nat} {out : List UInt8} (h : DrS w pr wr g cap n out) (hw : w.heap.size ≤ wr.heap.size) (hb : Below wr.heap.size wr w') : DrS w pr w' g cap n out :=
  ⟨ownsB_below h.own (Nat.le_refl _) hb, h.low.trans (hb.mono hw), h.rd.below hb⟩

theorem DrS.next {w wr w' : World} {pr g cap n : Nat} {out : List UInt8} (h : DrS w pr wr g cap n out) (hp : w.heap.size ≤ pr) (hw : w.heap.size ≤ wr.heap.size) (hb : But (fun x => x = pr) wr w') (hr : RdOk w' pr) : DrS w pr w' g cap n out := by
  have hge := h.ge
  refine ⟨⟨h.own.1, h.own.2.imp id ?_⟩, h.low.trans (hb.below hw (fun k hk => by omega)), hr⟩
  rintro ⟨g', cap', cur, hv, hg, hh, r⟩
  cases hv
  exact ⟨g, cap, cur, rfl, hg, (hb.block g (lt_of_block hh) (by omega)).trans hh, r⟩

theorem DrS.push {w wr w1 : World} {pr g cap n m g' cap' : Nat} {out xs : List UInt8} (h : DrS w pr wr g cap n out) (hp : w.heap.size ≤ pr) (hpw : pr < wr.heap.size)
    (hown : w1.ownsRow (pr + 1) 5 1 (.slice (some ⟨g', 0, none⟩) (n + m) cap') (n + m) ((uz out).map (Value.int .u8) ++ (uz xs).map (Value.int .u8))) (hg : wr.grownBy w1 (Value.ownBlock (.slice (some ⟨g, 0, none⟩) n cap))) :
    DrS w pr w1 g' cap' (n + m) (out ++ xs) := by
  have hge := h.ge
  have hob : ∀ k, Value.ownBlock (.slice (some ⟨g, 0, none⟩) n cap) = some k → pr + 1 ≤ k := fun k hk => by simp [Value.ownBlock] at hk; omega
  refine ⟨by rw [uz_app, List.map_append]; exact hown, h.low.grown hg (by omega) (fun k hk => by have := hob k hk; omega), ?_⟩
  have hb : But (fun x => x = g) wr w1 := ⟨hg.os, hg.tape, hg.output, hg.size, fun k hk hn => hg.block k hk (fun e => hn (by simp [Value.ownBlock] at e; exact e))⟩
  exact h.rd.but hb (fun k hk => by omega)

/-- Some bytes in a slice. -/
def GivesBytes (w : World) (e : Ending) (w' : World) : Prop := ∃ (g cap : Nat) (l : List UInt8), e = .returned (.slice (some ⟨g, 0, none⟩) l.length cap) ∧ RowB w' (some ⟨g, 0, none⟩) l.length (uz l) ∧ l.length ≤ 4000 ∧ Below w.heap.size w w'

theorem rowB_of {w : World} {B g cap n : Nat} {zs : List Int} (h : w.ownsRow B 5 1 (.slice (some ⟨g, 0, none⟩) n cap) n (zs.map (Value.int .u8))) : RowB w (some ⟨g, 0, none⟩) n zs := by
  have hl : zs.length = n := by simpa using h.1
  refine ⟨hl, ?_⟩
  rcases h.2 with ⟨h', _⟩ | ⟨g', cap', cur, h', _, hg, _, _, hcs, ht⟩
  · simp at h'
  · cases h'
    refine .inr ⟨g, 0, rfl, lt_of_block hg, fun i hi => ?_⟩
    have e : cur.toList[i]? = some (.int .u8 (zs.getD i 0)) := by
      have : (cur.toList.take (n * 1))[i]? = (zs.map (Value.int .u8))[i]? := by rw [ht]
      rw [List.getElem?_take, if_pos (by omega)] at this
      rw [this]
      simp [hl, hi]
    simpa [World.cell?, hg] using e

theorem DrS.gives {w wr : World} {pr g cap n : Nat} {out : List UInt8} (h : DrS w pr wr g cap n out) (hn : n ≤ 4000) : GivesBytes w (.returned (.slice (some ⟨g, 0, none⟩) n cap)) wr := by
  have hl := h.len
  exact ⟨g, cap, out, by rw [hl], by rw [hl]; exact rowB_of h.own, by omega, h.low⟩

theorem news_of {W : World} {g n : Nat} {l : List UInt8} (h : RowB W (some ⟨g, 0, none⟩) n (uz l)) : ∀ (j : Nat) u, ((uz l).map (Value.int .u8))[j]? = some u → W.cell? ((⟨g, 0, none⟩ : Addr).add j) = some u := by
  intro j u hj
  have hl := h.len
  have h2 : (⟨g, 0, none⟩ : Addr).add j = ⟨g, j, none⟩ := by by_cases h : j = 0 <;> simp [Addr.add, h]
  have hjl : j < (uz l).length := by
    by_cases hh : j < (uz l).length
    · exact hh
    · rw [List.getElem?_eq_none (by rw [List.length_map]; omega)] at hj; cases hj
  rcases h.at_ with h0 | ⟨b, off, e, _, hc⟩
  · omega
  · cases e
    rw [h2]
    have := hc j (by omega)
    rw [Nat.zero_add] at this
    rw [this]
    rw [List.getElem?_map, List.getElem?_eq_getElem hjl] at hj
    rw [List.getD_eq_getElem?_getD, List.getElem?_eq_getElem hjl]
    simpa using hj

end Go.Proofs.YtagomkpnmdpaiaaGreatDoor
namespace Go.Proofs.YtagomkpnmdpaiaaGreatDoor
open Go.RowKit

set_option maxRecDepth 20000 in
set_option maxHeartbeats 8000000 in
theorem DrawLex_any (a : Option Addr) (n0 c : Nat) (w : World) (h : Bytes w a n0) (hc : n0 ≤ c) (hn0 : n0 ≤ 1048576) :
    Calls Tryz.prog 4 #[.slice a n0 c] w (GivesBytes w) := by
  have HO := hide (l1Open_any a n0 c w h hc hn0)
  obtain ⟨i0, hii, hz0, hz1, hz2⟩ := info_parts info_byte
  clear h hc hn0
  go_enter Tryz.func4, Tryz.ntmps4
  go_wp2_with fail
  refine (unhide HO).mono ?_
  rintro e w1 ⟨pr, rfl, hr1, hp, hb1⟩
  have HR1 := hide hr1
  have HB1 := hide hb1
  have hpl := hr1.lt
  clear hr1 hb1
  go_wp2_with fail
  refine (next_any pr w1 (unhide HR1)).mono ?_
  rintro e w2 ⟨⟨v, hv, rfl⟩, hr2, hb2⟩
  have HB2 : Hid (Below w.heap.size w w2) := (unhide HB1).trans (hb2.below (by omega) (fun k hk => by omega))
  have hpl2 := hr2.lt
  have HS0 : Hid (DrS w pr (w2.alloc (.cells #[] 5)) w2.heap.size 0 0 []) := by
    have hz := (unhide HB2).size
    refine ⟨⟨by simp [uz], .inr ⟨w2.heap.size, 0, #[], rfl, by omega, ?_, by simp, by unfold maxLen; omega, by simp, by simp [uz]⟩⟩, (unhide HB2).alloc hz _, hr2.below ((Below.refl _ _).alloc (Nat.le_refl _) _)⟩
    show (w2.heap.push _)[w2.heap.size]? = _
    simp
  obtain ⟨kk, hkk, e1, e2⟩ := modN v 20 (by omega)
  have e1' : (v : Int).tmod 20 = (kk : Int) := e1
  have e2' : (v : Int) % 20 = (kk : Int) := e2
  obtain ⟨j4, hj4, f1, f2⟩ := modN v 4 (by omega)
  have f1' : (v : Int).tmod 4 = (j4 : Int) := f1
  have f2' : (v : Int) % 4 = (j4 : Int) := f2
  obtain ⟨j3, hj3, d1, d2⟩ := modN v 3 (by omega)
  have d1' : (v : Int).tmod 3 = (j3 : Int) := d1
  have d2' : (v : Int) % 3 = (j3 : Int) := d2
  clear hr2 hb2 e1 e2 f1 f2 d1 d2 HB1 HR1 hpl
  go_wp2_with fail
  go_loopw [5, 6, 7] (fun u i _ wr => ∃ (g cap n k : Nat) (out : List UInt8), u = .slice (some ⟨g, 0, none⟩) n cap ∧ i = .int .i64 (k : Nat) ∧ k ≤ 20 ∧ n ≤ 40 * k ∧ Hid (DrS w pr wr g cap n out)) (fun _ i _ _ => 20 - (intOf i).toNat)
  case atStart => exact ⟨w2.heap.size, 0, 0, 0, [], rfl, rfl, by omega, by omega, HS0⟩
  case round =>
    obtain ⟨g, cap, n, k, out, rfl, rfl, hk, hnk, HS⟩ := hrel
    clear HS0
    have hwz := (unhide HS).low.size
    have hpw := (unhide HS).rd.lt
    by_cases hik : k < kk
    case neg =>
      have hiki : ¬ (k : Int) < (kk : Int) := by omega
      by_cases hbig : 253 ≤ v
      · have hbi : (253 : Int) ≤ (v : Int) := by omega
        obtain ⟨m, hm⟩ : ∃ m : Nat, 1999 + j3 = m := ⟨_, rfl⟩
        have em : (1999 : Int) + (j3 : Int) = (m : Int) := by omega
        have hwm : IntKind.i64.wrap (m : Int) = (m : Int) := by rw [IntKind.wrap_i64]; omega
        have hm2 : m ≤ 2001 := by omega
        clear hm
        go_wp2_with (first | (at_make; refine wpList_make_full _ rfl _ _ 22 rfl wr.heap.size 5 i0 (.int .u8 0) 1 Tryz.underlying22 hii hz0 hz1 _ _ _ _ m rfl rfl rfl rfl (by rw [hz2]; omega) (by unfold maxLen; omega) (Nat.le_refl _) ?_; intro w9 hown hgrow; have HM9 : Hid (GivesBytes w (.returned (.slice (some ⟨wr.heap.size, 0, none⟩) m m)) w9) := (by have h8 : w9.ownsRow wr.heap.size 5 1 (.slice (some ⟨wr.heap.size, 0, none⟩) m m) m ((uz (List.replicate m 0)).map (Value.int .u8)) := (by simpa [toList_madeCells_one, Value.cells, uz] using hown); refine ⟨wr.heap.size, m, List.replicate m 0, by rw [List.length_replicate], by rw [List.length_replicate]; exact rowB_of h8, by rw [List.length_replicate]; omega, ?_⟩; exact (unhide HS).low.trans (((Below.refl _ _).grown hgrow (Nat.le_refl _) (by simp)).mono hwz)); clear hown hgrow))
        go_ret
        exact unhide HM9
      · have hbi : ¬ (253 : Int) ≤ (v : Int) := by omega
        go_wp2_with fail
        go_ret
        exact (unhide HS).gives (by omega)
    have hiki : (k : Int) < (kk : Int) := by omega
    obtain ⟨ra, rn, rc, rp, hrc, hr1, hr2, hr3⟩ := (unhide HS).rd
    have HLF := hide (left_at pr wr hrc hr1 hr2)
    clear hrc hr3
    have hgo : k < 2 ∨ (¬ k < 2 ∧ 0 < (rn : Int) - (rp : Int)) ∨ (¬ k < 2 ∧ ¬ 0 < (rn : Int) - (rp : Int)) := by omega
    have HPC := hide (fun q => l1Piece_any pr (wr.drewN q) ((unhide HS).rd.below (Below.drewN (Below.refl _ _) q)))
    rcases hgo with hg | ⟨hg, hg2⟩ | ⟨hg, hg2⟩
    · have hgi : (k : Int) < 2 := by omega
      go_wp2_with fail
      refine (unhide HPC 0).mono ?_
      rintro e w6 ⟨⟨x, hx1, hx2, rfl⟩, hr6, hb6⟩
      have HS6 := hide (((unhide HS).below hwz (Below.drewN (Below.refl _ _) 0)).next hp hwz hb6 hr6)
      have hpw6 := hr6.lt
      have hwz6 : w.heap.size ≤ w6.heap.size := (unhide HS6).low.size
      have hx0 : 0 < x.size := hx1
      have hix := fun W => run_idx (s := x) (k := 0) hx0 W
      have hy8 := bt_lt x 0
      obtain ⟨y, hy⟩ : ∃ y, bt x 0 = y := ⟨_, rfl⟩
      rw [hy] at hix hy8
      clear hy hr6 hb6
      have HNX : Hid (∀ (z : ByteArray), 1 ≤ z.size → z.size ≤ 31 → ∃ cz W7, (convert 9 22 (.string z)).run Tryz.prog w6 = .ok (.slice (some ⟨w6.heap.size, 0, none⟩) z.size cz) W7 ∧ RowB W7 (some ⟨w6.heap.size, 0, none⟩) z.size (uz z.data.toList) ∧ DrS w pr W7 g cap n out ∧ w6.heap.size < W7.heap.size) := hide fun z _ _ => by
        obtain ⟨cz, W7, h1, _, h3, h4, h5⟩ := conv_str w6 z
        exact ⟨cz, W7, h1, h3, (unhide HS6).below hwz6 h4, h5⟩
      obtain ⟨cx, Wx, hcvx, hrowx, hSx, hzx⟩ := unhide HNX x hx1 hx2
      obtain ⟨c3, W3, hcv3, hrow3, hS3, hz3⟩ := unhide HNX (ByteArray.mk #[32]) (by decide) (by decide)
      have HROWx := hide hrowx
      have HSx := hide hSx
      have HROW3 := hide hrow3
      have HS3 := hide hS3
      clear hrowx hSx hrow3 hS3
      go_wp2_with (first | (at_builtin; refine wpList_append_lies _ rfl _ _ 22 rfl (pr + 1) 5 i0 (.int .u8 0) 1 1 Tryz.underlying22 hii hz0 hz1 hz2 rfl (by decide) _ _ _ rfl (unhide HSx).own ⟨w6.heap.size, 0, none⟩ x.size cx ((uz x.data.toList).map (Value.int .u8)) rfl (by rw [List.length_map, uz_len, ← Lib.size_eq, Nat.mul_one]) (news_of (unhide HROWx)) (one_bytes _) (by omega) (by unfold maxLen; omega) (by omega) (by omega) Wx.heap.size rfl ?_; intro g8 cap8 w8 hown' hgrow hat hlt8; have HS8 := hide ((unhide HSx).push hp (by omega) hown' hgrow); clear hgrow hat hown' hlt8) | (at_builtin; refine wpList_append_lies _ rfl _ _ 22 rfl (pr + 1) 5 i0 (.int .u8 0) 1 1 Tryz.underlying22 hii hz0 hz1 hz2 rfl (by decide) _ _ _ rfl (unhide HS3).own ⟨w6.heap.size, 0, none⟩ 1 c3 ((uz (ByteArray.mk #[32]).data.toList).map (Value.int .u8)) rfl (by rfl) (news_of (unhide HROW3)) (one_bytes _) (by omega) (by unfold maxLen; omega) (by omega) (by omega) W3.heap.size rfl ?_; intro g9 cap9 w9 hown' hgrow hat hlt8; have HS9 := hide ((unhide HS3).push hp (by omega) hown' hgrow); clear hgrow hat hown' hlt8))
      all_goals first
        | exact ⟨⟨g8, cap8, n + x.size, k + 1, out ++ x.data.toList, rfl, by go_num, by omega, by omega, HS8⟩, by simp [intOf]; omega⟩
        | exact ⟨⟨g9, cap9, n + 1, k + 1, out ++ (ByteArray.mk #[32]).data.toList, rfl, by go_num, by omega, by omega, HS9⟩, by simp [intOf]; omega⟩
    · have hgi : ¬ (k : Int) < 2 := by omega
      go_wp2_with (go_at_call 11; refine (unhide HLF).mono ?_; rintro e w5 ⟨rfl, q5, rfl⟩)
      refine (unhide HPC q5).mono ?_
      rintro e w6 ⟨⟨x, hx1, hx2, rfl⟩, hr6, hb6⟩
      have HS6 := hide (((unhide HS).below hwz (Below.drewN (Below.refl _ _) q5)).next hp hwz hb6 hr6)
      have hpw6 := hr6.lt
      have hwz6 : w.heap.size ≤ w6.heap.size := (unhide HS6).low.size
      have hx0 : 0 < x.size := hx1
      have hix := fun W => run_idx (s := x) (k := 0) hx0 W
      have hy8 := bt_lt x 0
      obtain ⟨y, hy⟩ : ∃ y, bt x 0 = y := ⟨_, rfl⟩
      rw [hy] at hix hy8
      clear hy hr6 hb6
      have HNX : Hid (∀ (z : ByteArray), 1 ≤ z.size → z.size ≤ 31 → ∃ cz W7, (convert 9 22 (.string z)).run Tryz.prog w6 = .ok (.slice (some ⟨w6.heap.size, 0, none⟩) z.size cz) W7 ∧ RowB W7 (some ⟨w6.heap.size, 0, none⟩) z.size (uz z.data.toList) ∧ DrS w pr W7 g cap n out ∧ w6.heap.size < W7.heap.size) := hide fun z _ _ => by
        obtain ⟨cz, W7, h1, _, h3, h4, h5⟩ := conv_str w6 z
        exact ⟨cz, W7, h1, h3, (unhide HS6).below hwz6 h4, h5⟩
      obtain ⟨cx, Wx, hcvx, hrowx, hSx, hzx⟩ := unhide HNX x hx1 hx2
      obtain ⟨c3, W3, hcv3, hrow3, hS3, hz3⟩ := unhide HNX (ByteArray.mk #[32]) (by decide) (by decide)
      have HROWx := hide hrowx
      have HSx := hide hSx
      have HROW3 := hide hrow3
      have HS3 := hide hS3
      clear hrowx hSx hrow3 hS3
      go_wp2_with (first | (at_builtin; refine wpList_append_lies _ rfl _ _ 22 rfl (pr + 1) 5 i0 (.int .u8 0) 1 1 Tryz.underlying22 hii hz0 hz1 hz2 rfl (by decide) _ _ _ rfl (unhide HSx).own ⟨w6.heap.size, 0, none⟩ x.size cx ((uz x.data.toList).map (Value.int .u8)) rfl (by rw [List.length_map, uz_len, ← Lib.size_eq, Nat.mul_one]) (news_of (unhide HROWx)) (one_bytes _) (by omega) (by unfold maxLen; omega) (by omega) (by omega) Wx.heap.size rfl ?_; intro g8 cap8 w8 hown' hgrow hat hlt8; have HS8 := hide ((unhide HSx).push hp (by omega) hown' hgrow); clear hgrow hat hown' hlt8) | (at_builtin; refine wpList_append_lies _ rfl _ _ 22 rfl (pr + 1) 5 i0 (.int .u8 0) 1 1 Tryz.underlying22 hii hz0 hz1 hz2 rfl (by decide) _ _ _ rfl (unhide HS3).own ⟨w6.heap.size, 0, none⟩ 1 c3 ((uz (ByteArray.mk #[32]).data.toList).map (Value.int .u8)) rfl (by rfl) (news_of (unhide HROW3)) (one_bytes _) (by omega) (by unfold maxLen; omega) (by omega) (by omega) W3.heap.size rfl ?_; intro g9 cap9 w9 hown' hgrow hat hlt8; have HS9 := hide ((unhide HS3).push hp (by omega) hown' hgrow); clear hgrow hat hown' hlt8))
      all_goals first
        | exact ⟨⟨g8, cap8, n + x.size, k + 1, out ++ x.data.toList, rfl, by go_num, by omega, by omega, HS8⟩, by simp [intOf]; omega⟩
        | exact ⟨⟨g9, cap9, n + 1, k + 1, out ++ (ByteArray.mk #[32]).data.toList, rfl, by go_num, by omega, by omega, HS9⟩, by simp [intOf]; omega⟩
    · have hgi : ¬ (k : Int) < 2 := by omega
      by_cases hbig : 253 ≤ v
      · have hbi : (253 : Int) ≤ (v : Int) := by omega
        obtain ⟨m, hm⟩ : ∃ m : Nat, 1999 + j3 = m := ⟨_, rfl⟩
        have em : (1999 : Int) + (j3 : Int) = (m : Int) := by omega
        have hwm : IntKind.i64.wrap (m : Int) = (m : Int) := by rw [IntKind.wrap_i64]; omega
        have hm2 : m ≤ 2001 := by omega
        clear hm
        go_wp2_with (first | (go_at_call 11; refine (unhide HLF).mono ?_; rintro e w5 ⟨rfl, q5, rfl⟩) | (at_make; refine wpList_make_full _ rfl _ _ 22 rfl wr.heap.size 5 i0 (.int .u8 0) 1 Tryz.underlying22 hii hz0 hz1 _ _ _ _ m rfl rfl rfl rfl (by rw [hz2]; omega) (by unfold maxLen; omega) (Nat.le_refl _) ?_; intro w9 hown hgrow; have HM9 : Hid (GivesBytes w (.returned (.slice (some ⟨wr.heap.size, 0, none⟩) m m)) w9) := (by have h8 : w9.ownsRow wr.heap.size 5 1 (.slice (some ⟨wr.heap.size, 0, none⟩) m m) m ((uz (List.replicate m 0)).map (Value.int .u8)) := (by simpa [toList_madeCells_one, Value.cells, uz] using hown); refine ⟨wr.heap.size, m, List.replicate m 0, by rw [List.length_replicate], by rw [List.length_replicate]; exact rowB_of h8, by rw [List.length_replicate]; omega, ?_⟩; exact ((unhide HS).low.trans (Below.drewN (Below.refl _ _) _)).trans (((Below.refl _ _).grown hgrow (Nat.le_refl _) (by simp)).mono hwz)); clear hown hgrow))
        go_ret
        exact unhide HM9
      · have hbi : ¬ (253 : Int) ≤ (v : Int) := by omega
        go_wp2_with (go_at_call 11; refine (unhide HLF).mono ?_; rintro e w5 ⟨rfl, q5, rfl⟩)
        go_ret
        exact ((unhide HS).below hwz (Below.drewN (Below.refl _ _) _)).gives (by omega)

end Go.Proofs.YtagomkpnmdpaiaaGreatDoor
