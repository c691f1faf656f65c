import Derived.Test.YtijamlgiinjikaaGreatDoorDrawRd
import Derived.Test.YtijamlgiinjikaaGreatDoorMFit0
namespace Go.Proofs.YtijamlgiinjikaaGreatDoor
open Go.RowKit

set_option maxHeartbeats 1000000 in
theorem left_at (pr : Nat) (w : World) {a : Option Addr} {n c p : Nat} (hc : w.heap[pr]? = some (.cells #[.slice a n c, .int .i64 (p : Nat)] 47 (0, 0))) (h1 : n ≤ 1000) (h2 : p ≤ n) :
    Calls Tryz.prog 11 #[.pointer (some ⟨pr, 0, none⟩)] w fun e w' => e = .returned (.int .i64 ((n : Int) - (p : Int))) ∧ ∃ q, w' = w.drewN q := by
  have c0 : w.cell? ⟨pr, 0, none⟩ = some (.slice a n c) := by simp [World.cell?, hc]
  have c1 : w.cell? ⟨pr, 1, none⟩ = some (.int .i64 (p : Nat)) := by simp [World.cell?, hc]
  clear hc
  go_enter Tryz.func11, Tryz.ntmps11
  go_wp2_with fail
  go_quiet (fail)
  go_wp2_with fail
  go_ret
  exact ⟨by go_num, _, rfl⟩

theorem RowS.but {S : Nat → Prop} {w w' : World} {n : Nat} {ps : List ByteArray} {g : Nat} (h : RowS w (some ⟨g, 0, none⟩) n ps) (hb : But S w w') (hs : ¬ S g) : RowS w' (some ⟨g, 0, none⟩) n ps := by
  refine ⟨h.len, ?_⟩
  rcases h.at_ with h0 | ⟨b, off, e, hlt, hc⟩
  · exact .inl h0
  · cases e
    exact .inr ⟨g, 0, rfl, Nat.lt_of_lt_of_le hlt hb.size, fun i hi => (hb.cellAt hlt hs).trans (hc i hi)⟩

theorem RowS.lit (w : World) (ps : List ByteArray) : RowS (w.alloc (.cells (ps.map Value.string).toArray 9)) (some ⟨w.heap.size, 0, none⟩) ps.length ps := by
  have hb : (w.alloc (.cells (ps.map Value.string).toArray 9)).heap[w.heap.size]? = some (.cells (ps.map Value.string).toArray 9) := by
    show (w.heap.push _)[w.heap.size]? = _
    simp
  refine ⟨rfl, .inr ⟨w.heap.size, 0, rfl, by simp, fun i hi => ?_⟩⟩
  obtain ⟨W, hW⟩ : ∃ W, w.alloc (.cells (ps.map Value.string).toArray 9) = W := ⟨_, rfl⟩
  rw [hW] at hb ⊢
  simp [World.cell?, hb, hi]

theorem modN (k m : Nat) (hm : 0 < m) : ∃ j : Nat, j < m ∧ (k : Int).tmod (m : Int) = (j : Int) ∧ (k : Int) % (m : Int) = (j : Int) := ⟨k % m, Nat.mod_lt _ hm, by rw [Int.tmod_eq_emod_of_nonneg (by omega)]; rfl, rfl⟩

theorem RowS.at {w : World} {g n j : Nat} {ps : List ByteArray} (h : RowS w (some ⟨g, 0, none⟩) n ps) (hj : j < n) : ∃ x, x ∈ ps ∧ w.cell? ⟨g, j, none⟩ = some (.string x) := by
  have hl := h.len
  rcases h.at_ with h0 | ⟨b, off, e, hlt, hc⟩
  · omega
  · cases e
    have hjl : j < ps.length := by omega
    refine ⟨ps[j], List.getElem_mem hjl, ?_⟩
    have := hc j hj
    simpa [hjl] using this

set_option maxHeartbeats 1000000 in
theorem pick_any (pr g n c : Nat) (ps : List ByteArray) (w : World) (h : RdOk w pr) (hS : RowS w (some ⟨g, 0, none⟩) n ps) (hn : 0 < n) (hn2 : n ≤ 1000) :
    Calls Tryz.prog 19 #[.pointer (some ⟨pr, 0, none⟩), .slice (some ⟨g, 0, none⟩) n c] w fun e w' => (∃ x, x ∈ ps ∧ e = .returned (.string x)) ∧ RdOk w' pr ∧ But (fun x => x = pr) w w' := by
  have HN := hide (next_any pr w h)
  have HS := hide hS
  have hne : g ≠ pr := by
    obtain ⟨x, _, hx⟩ := RowS.at hS hn
    obtain ⟨a, m, c', p, hc, _⟩ := h
    intro e
    subst e
    simp [World.cell?, hc] at hx
  clear h hS
  go_enter Tryz.func19, Tryz.ntmps19
  go_wp2_with (go_at_call 10; refine (unhide HN).mono ?_; rintro e w1 ⟨⟨v, hv, rfl⟩, hr1, hb1⟩; have HR1 := hide hr1; have HB1 := hide hb1; obtain ⟨j, hj, e1, e2⟩ := modN v n hn; have hs1 := (unhide HS).but hb1 hne; obtain ⟨x, hx, hcell⟩ : ∃ x, x ∈ ps ∧ w1.cell? ⟨g, j, none⟩ = some (.string x) := RowS.at hs1 hj; have HX := hide hx; clear hr1 hb1 hs1 hx)
  go_ret
  exact ⟨⟨x, unhide HX, rfl⟩, unhide HR1, unhide HB1⟩

def pcs1 : List ByteArray := [⟨#[48]⟩, ⟨#[49, 50]⟩, ⟨#[194, 175, 51]⟩, ⟨#[194, 175]⟩, ⟨#[48, 48, 55]⟩, ⟨#[49, 48, 48, 48, 48, 48, 48, 48, 48, 48, 48, 48, 48, 48, 48, 48]⟩, ⟨#[49, 48, 48, 48, 48, 48, 48, 48, 48, 48, 48, 48, 48, 48, 48, 49]⟩, ⟨#[194, 175, 49, 48, 48, 48, 48, 48, 48, 48, 48, 48, 48, 48, 48, 48, 48, 48]⟩, ⟨#[51, 97]⟩, ⟨#[51, 194, 175, 52]⟩, ⟨#[194, 175, 120]⟩, ⟨#[53, 39, 97, 39]⟩, ⟨#[57, 57, 57, 57, 57, 57, 57, 57, 57, 57, 57, 57, 57, 57, 57, 57, 57, 57, 57, 57, 57, 57, 57]⟩]

theorem pcs1_ok : ∀ x ∈ pcs1, 1 ≤ x.size ∧ x.size ≤ 30 := by decide

def pcs2 : List ByteArray := [⟨#[39, 39]⟩, ⟨#[39, 97, 39]⟩, ⟨#[39, 105, 116, 39, 39, 115, 39]⟩, ⟨#[39, 226, 141, 181, 195, 169, 39]⟩, ⟨#[39]⟩, ⟨#[39, 97, 98]⟩, ⟨#[39, 97, 10, 39]⟩, ⟨#[39, 128, 39]⟩, ⟨#[39, 226, 141, 157, 39]⟩, ⟨#[39, 39, 39, 39]⟩]

theorem pcs2_ok : ∀ x ∈ pcs2, 1 ≤ x.size ∧ x.size ≤ 30 := by decide

def pcs3 : List ByteArray := [⟨#[120]⟩, ⟨#[70]⟩, ⟨#[97, 66, 51]⟩, ⟨#[97, 97, 97, 97, 97, 97, 97, 97, 97, 97, 97, 97, 97, 97, 97, 97, 97, 97, 97, 97]⟩, ⟨#[97, 97, 97, 97, 97, 97, 97, 97, 97, 97, 97, 97, 97, 97, 97, 97, 97, 97, 97, 97, 97]⟩, ⟨#[120, 32, 121]⟩]

theorem pcs3_ok : ∀ x ∈ pcs3, 1 ≤ x.size ∧ x.size ≤ 30 := by decide

def pcs4 : List ByteArray := [⟨#[32]⟩, ⟨#[9]⟩, ⟨#[226, 141, 157, 32, 120]⟩, ⟨#[64]⟩, ⟨#[10]⟩, ⟨#[128]⟩, ⟨#[195, 169]⟩, ⟨#[226, 141]⟩, ⟨#[192, 128]⟩, ⟨#[237, 160, 128]⟩, ⟨#[244, 144, 128, 128]⟩, ⟨#[95]⟩, ⟨#[35]⟩]

theorem pcs4_ok : ∀ x ∈ pcs4, 1 ≤ x.size ∧ x.size ≤ 30 := by decide

theorem signs_ok : ∀ x ∈ (pcN signS signS.size).2, 1 ≤ x.size ∧ x.size ≤ 30 := by
  rw [signs_pieces]
  decide

theorem signs_count : (pcN signS signS.size).2.length = 51 := by rw [signs_pieces]; rfl

set_option maxRecDepth 20000 in
set_option maxHeartbeats 4000000 in
theorem l1Piece_any (pr : Nat) (w : World) (h : RdOk w pr) :
    Calls Tryz.prog 12 #[.pointer (some ⟨pr, 0, none⟩)] w fun e w' => (∃ x : ByteArray, 1 ≤ x.size ∧ x.size ≤ 31 ∧ e = .returned (.string x)) ∧ RdOk w' pr ∧ But (fun x => x = pr) w w' := by
  have HN := hide (next_any pr w h)
  have HSG := hide (fun W => l1Signs_any W)
  have HLI := hide (fun W => l1List_any signS W sign_size)
  obtain ⟨ps, hps⟩ : ∃ l, (pcN signS signS.size).2 = l := ⟨_, rfl⟩
  have hok := signs_ok
  have hct := signs_count
  rw [hps] at HLI hok hct
  have HOK := hide hok
  have HCT := hide hct
  obtain ⟨sS, hsS⟩ : ∃ x, signS = x := ⟨_, rfl⟩
  rw [hsS] at HSG HLI
  clear h hps hok hct hsS
  go_enter Tryz.func12, Tryz.ntmps12
  go_wp2_with fail
  refine (unhide HN).mono ?_
  rintro e w1 ⟨⟨v, hv, rfl⟩, hr1, hb1⟩
  have HR1 := hide hr1
  have HB1 := hide hb1
  have hpl := hr1.lt
  obtain ⟨j, hj, e1, e2⟩ := modN v 8 (by omega)
  have e1' : (v : Int).tmod 8 = (j : Int) := e1
  have e2' : (v : Int) % 8 = (j : Int) := e2
  clear hr1 hb1 e1 e2
  by_cases c0 : j < 3
  · have c0i : (j : Int) < 3 := by omega
    go_wp2_with (first | (go_at_call 21; refine (unhide HSG _).mono ?_; rintro e w2 ⟨rfl, hw⟩; obtain rfl := hw.symm) | (go_at_call 20; refine (unhide HLI _).mono ?_; rintro e w3 ⟨g3, cap3, rfl, hR3, hb3⟩; rw [unhide HCT] at hR3 ⊢; have HR3 := hide hR3; have HRd := hide ((unhide HR1).below hb3); have HB3 := hide ((unhide HB1).trans (But.of_below (S := fun x => x = pr) hb3)); clear hR3 hb3) | (go_at_call 19; refine (pick_any pr g3 51 cap3 ps _ (by exact unhide HRd) (by exact unhide HR3) (by omega) (by omega)).mono ?_; rintro e w4 ⟨⟨x, hx, rfl⟩, hr4, hb4⟩; have HX := hide (unhide HOK x hx); have HR4 := hide hr4; have HB4 := hide ((unhide HB3).trans hb4); clear hx hr4 hb4))
    go_ret
    exact ⟨⟨x, (unhide HX).1, by have := (unhide HX).2; omega, rfl⟩, unhide HR4, (unhide HB4).mono (fun x hx => by rcases hx with (h | h) | h <;> exact h)⟩
  have c0i : ¬ (j : Int) < 3 := by omega
  have hno32 : ∀ x : ByteArray, x.size ≤ 30 → ¬ 9223372036854775807 < x.size + (ByteArray.mk #[32]).size := fun x hx => by rw [show (ByteArray.mk #[32]).size = 1 from rfl]; omega
  by_cases c3 : j = 3
  · have ci : (j : Int) = 3 := by omega
    have HP := hide (pick_any pr w1.heap.size 13 13 pcs1 (w1.alloc (.cells #[.string ⟨#[48]⟩, .string ⟨#[49, 50]⟩, .string ⟨#[194, 175, 51]⟩, .string ⟨#[194, 175]⟩, .string ⟨#[48, 48, 55]⟩, .string ⟨#[49, 48, 48, 48, 48, 48, 48, 48, 48, 48, 48, 48, 48, 48, 48, 48]⟩, .string ⟨#[49, 48, 48, 48, 48, 48, 48, 48, 48, 48, 48, 48, 48, 48, 48, 49]⟩, .string ⟨#[194, 175, 49, 48, 48, 48, 48, 48, 48, 48, 48, 48, 48, 48, 48, 48, 48, 48]⟩, .string ⟨#[51, 97]⟩, .string ⟨#[51, 194, 175, 52]⟩, .string ⟨#[194, 175, 120]⟩, .string ⟨#[53, 39, 97, 39]⟩, .string ⟨#[57, 57, 57, 57, 57, 57, 57, 57, 57, 57, 57, 57, 57, 57, 57, 57, 57, 57, 57, 57, 57, 57, 57]⟩] 9)) ((unhide HR1).below ((Below.refl _ _).alloc (Nat.le_refl _) _)) (RowS.lit w1 pcs1) (by omega) (by omega))
    go_wp2_with (go_at_call 19; refine (unhide HP).mono ?_; rintro e w4 ⟨⟨x, hx, rfl⟩, hr4, hb4⟩; have HX := hide (pcs1_ok x hx); have hno := hno32 x (unhide HX).2; have HR4 := hide hr4; have HB4 := hide ((unhide HB1).trans ((But.of_below (S := fun x => x = pr) ((Below.refl _ w1).alloc (Nat.le_refl _) _)).trans hb4)); clear hx hr4 hb4)
    go_ret
    exact ⟨⟨x ++ ByteArray.mk #[32], by rw [ByteArray.size_append]; have := (unhide HX).1; omega, by rw [ByteArray.size_append, show (ByteArray.mk #[32]).size = 1 from rfl]; have := (unhide HX).2; omega, rfl⟩, unhide HR4, (unhide HB4).mono (fun x hx => by rcases hx with h | h | h <;> exact h)⟩
  have c3i : ¬ (j : Int) = 3 := by omega
  by_cases c4 : j = 4
  · have ci : (j : Int) = 4 := by omega
    have HP := hide (pick_any pr w1.heap.size 10 10 pcs2 (w1.alloc (.cells #[.string ⟨#[39, 39]⟩, .string ⟨#[39, 97, 39]⟩, .string ⟨#[39, 105, 116, 39, 39, 115, 39]⟩, .string ⟨#[39, 226, 141, 181, 195, 169, 39]⟩, .string ⟨#[39]⟩, .string ⟨#[39, 97, 98]⟩, .string ⟨#[39, 97, 10, 39]⟩, .string ⟨#[39, 128, 39]⟩, .string ⟨#[39, 226, 141, 157, 39]⟩, .string ⟨#[39, 39, 39, 39]⟩] 9)) ((unhide HR1).below ((Below.refl _ _).alloc (Nat.le_refl _) _)) (RowS.lit w1 pcs2) (by omega) (by omega))
    go_wp2_with (go_at_call 19; refine (unhide HP).mono ?_; rintro e w4 ⟨⟨x, hx, rfl⟩, hr4, hb4⟩; have HX := hide (pcs2_ok x hx); have hno := hno32 x (unhide HX).2; have HR4 := hide hr4; have HB4 := hide ((unhide HB1).trans ((But.of_below (S := fun x => x = pr) ((Below.refl _ w1).alloc (Nat.le_refl _) _)).trans hb4)); clear hx hr4 hb4)
    go_ret
    exact ⟨⟨x, (unhide HX).1, by have := (unhide HX).2; omega, rfl⟩, unhide HR4, (unhide HB4).mono (fun x hx => by rcases hx with h | h | h <;> exact h)⟩
  have c4i : ¬ (j : Int) = 4 := by omega
  by_cases c5 : j = 5
  · have ci : (j : Int) = 5 := by omega
    have HP := hide (pick_any pr w1.heap.size 6 6 pcs3 (w1.alloc (.cells #[.string ⟨#[120]⟩, .string ⟨#[70]⟩, .string ⟨#[97, 66, 51]⟩, .string ⟨#[97, 97, 97, 97, 97, 97, 97, 97, 97, 97, 97, 97, 97, 97, 97, 97, 97, 97, 97, 97]⟩, .string ⟨#[97, 97, 97, 97, 97, 97, 97, 97, 97, 97, 97, 97, 97, 97, 97, 97, 97, 97, 97, 97, 97]⟩, .string ⟨#[120, 32, 121]⟩] 9)) ((unhide HR1).below ((Below.refl _ _).alloc (Nat.le_refl _) _)) (RowS.lit w1 pcs3) (by omega) (by omega))
    go_wp2_with (go_at_call 19; refine (unhide HP).mono ?_; rintro e w4 ⟨⟨x, hx, rfl⟩, hr4, hb4⟩; have HX := hide (pcs3_ok x hx); have hno := hno32 x (unhide HX).2; have HR4 := hide hr4; have HB4 := hide ((unhide HB1).trans ((But.of_below (S := fun x => x = pr) ((Below.refl _ w1).alloc (Nat.le_refl _) _)).trans hb4)); clear hx hr4 hb4)
    go_ret
    exact ⟨⟨x ++ ByteArray.mk #[32], by rw [ByteArray.size_append]; have := (unhide HX).1; omega, by rw [ByteArray.size_append, show (ByteArray.mk #[32]).size = 1 from rfl]; have := (unhide HX).2; omega, rfl⟩, unhide HR4, (unhide HB4).mono (fun x hx => by rcases hx with h | h | h <;> exact h)⟩
  have c5i : ¬ (j : Int) = 5 := by omega
  have HP := hide (pick_any pr w1.heap.size 13 13 pcs4 (w1.alloc (.cells #[.string ⟨#[32]⟩, .string ⟨#[9]⟩, .string ⟨#[226, 141, 157, 32, 120]⟩, .string ⟨#[64]⟩, .string ⟨#[10]⟩, .string ⟨#[128]⟩, .string ⟨#[195, 169]⟩, .string ⟨#[226, 141]⟩, .string ⟨#[192, 128]⟩, .string ⟨#[237, 160, 128]⟩, .string ⟨#[244, 144, 128, 128]⟩, .string ⟨#[95]⟩, .string ⟨#[35]⟩] 9)) ((unhide HR1).below ((Below.refl _ _).alloc (Nat.le_refl _) _)) (RowS.lit w1 pcs4) (by omega) (by omega))
  go_wp2_with (go_at_call 19; refine (unhide HP).mono ?_; rintro e w4 ⟨⟨x, hx, rfl⟩, hr4, hb4⟩; have HX := hide (pcs4_ok x hx); have hno := hno32 x (unhide HX).2; have HR4 := hide hr4; have HB4 := hide ((unhide HB1).trans ((But.of_below (S := fun x => x = pr) ((Below.refl _ w1).alloc (Nat.le_refl _) _)).trans hb4)); clear hx hr4 hb4)
  go_ret
  exact ⟨⟨x, (unhide HX).1, by have := (unhide HX).2; omega, rfl⟩, unhide HR4, (unhide HB4).mono (fun x hx => by rcases hx with h | h | h <;> exact h)⟩

end Go.Proofs.YtijamlgiinjikaaGreatDoor
