import Derived.Test.YtkgcmpmgaghdhaaGreatDoorMFit0
import Derived.Test.YtkgcmpmgaghdhaaGreatDoorMFit2
import Derived.Test.YtkgcmpmgaghdhaaGreatDoorMFit0
import Derived.Laws.EntriesVeiled
import Derived.Shelf.Abstract
namespace Go.Proofs.YtkgcmpmgaghdhaaGreatDoor
open Go.RowKit

/-- The function value (g, lb) gives of each index D of the shape zs at each axis below r what f says, in whatever world holds what lay in w. -/
def NumOk (g : Nat) (lb : Array Value) (f : List Int → Nat → Int) (zs : List Int) (r : Nat) (w : World) : Prop :=
  ∀ D, IxIn zs D → D.length = zs.length → ∀ k, k < r → ∀ (ib : Nat) W, Below w.heap.size w W → Blk W ib D → Calls Tryz.prog g (#[.slice (some ⟨ib, 0, none⟩) zs.length zs.length, .int .i64 (k : Nat)] ++ lb) W fun e w' => e = .returned (.int .i64 (f D k)) ∧ Below W.heap.size W w'

theorem NumOk.low {g : Nat} {lb : Array Value} {f : List Int → Nat → Int} {zs : List Int} {r : Nat} {w w1 : World} (h : NumOk g lb f zs r w) (hb : Below w.heap.size w w1) : NumOk g lb f zs r w1 :=
  fun D h1 h2 k hk ib W hW hB => h D h1 h2 k hk ib W (hb.trans (hW.mono hb.size)) hB

set_option maxRecDepth 20000 in
set_option maxHeartbeats 2000000 in
theorem placeIn_any (g : Nat) (lb : Array Value) (eg : ∀ args w, (callFunc g args).run Tryz.prog w = .ok (.enter g args) w) (f : List Int → Nat → Int) (zs D sh : List Int) (sa : Option Addr) (n cap ib : Nat) (w : World)
    (hr : Row w sa n sh) (hN : NumOk g lb f zs n w) (hD : IxIn zs D) (hDl : D.length = zs.length) (hb : Blk w ib D) (hs : ShapeIn sh) (r : Bool) (hres : Hid (insideN sh (meant sh f D) sh.length = r)) (p : Int) (hp : Hid ((if r then place sh (meant sh f D) else 0) = p)) :
    Calls Tryz.prog 127 #[.slice sa n cap, .slice (some ⟨ib, 0, none⟩) zs.length zs.length, .func (.func g) #[] lb] w fun e w' => e = .returned (.tuple #[.int .i64 p, .bool r]) ∧ Below w.heap.size w w' := by
  have hl := hr.len
  have hsm := hr.small
  obtain ⟨zl, hzl⟩ : ∃ zl, zs.length = zl := ⟨_, rfl⟩
  have HNUM : Hid (∀ k, k < n → ∀ W, Below w.heap.size w W → Calls Tryz.prog g (#[.slice (some ⟨ib, 0, none⟩) zl zl, .int .i64 (k : Nat)] ++ lb) W fun e w' => e = .returned (.int .i64 (f D k)) ∧ Below W.heap.size W w') := fun k hk W hW => by
    have := hN D hD hDl k hk ib W hW (hb.below (Nat.le_refl _) hW)
    rwa [hzl] at this
  rw [hzl]
  clear hN hD hDl hb hzl
  obtain ⟨M, hM⟩ : ∃ M, M = meant sh f D := ⟨_, rfl⟩
  have HMG : Hid (∀ k, k < n → M.getD k 0 = f D k) := fun k hk => by rw [hM]; exact meant_get sh f D k (by omega)
  rw [← hM] at hres hp
  have HR := hide hr
  have HS := hide hs
  have HL := hide hl
  clear hr hs hM
  go_enter Tryz.func127, Tryz.ntmps127
  go_wp2_with fail
  go_loopw [8, 14] (fun q i wr => ∃ k : Nat, k ≤ n ∧ i = .int .i64 (k : Nat) ∧ q = .int .i64 (placeN sh M k) ∧ Hid (insideN sh M k = true) ∧ Hid (Below w.heap.size w wr)) (fun _ i _ => n - (intOf i).toNat)
  case atStart => exact ⟨0, Nat.zero_le _, rfl, rfl, rfl, hide (Below.refl _ _)⟩
  case round =>
    obtain ⟨k, hk, rfl, rfl, hin, hbl⟩ := hrel
    by_cases hlt : k < n
    · obtain ⟨s, hs'⟩ : ∃ s, s = sh.getD k 0 := ⟨_, rfl⟩
      obtain ⟨v, hv⟩ : ∃ v, v = f D k := ⟨_, rfl⟩
      obtain ⟨q, hq⟩ : ∃ q, q = placeN sh M k := ⟨_, rfl⟩
      obtain ⟨b, off, rfl, hblt, hcs⟩ := (HR.out.below (Nat.le_refl _) hbl.out).get hlt
      have hcall := HNUM.out k hlt wr hbl.out
      rw [← hv] at hcall
      rw [← hs'] at hcs
      have hmv : M.getD k 0 = v := by rw [HMG.out k hlt, hv]
      have hsb : 0 ≤ s ∧ s ≤ 10000 := by rw [hs']; exact HS.out.cell k
      have hw1 : IntKind.i64.wrap (s - 1) = s - 1 := by rw [IntKind.wrap_i64]; omega
      by_cases hvi : 0 ≤ v ∧ v < s
      · have hin1 : insideN sh M (k + 1) = true := inside_step hin.out (by omega) (by rw [hmv, ← hs']; omega)
        have hpn : placeN sh M (k + 1) = q * s + v := by show placeN sh M k * _ + _ = _; rw [← hq, ← hs', hmv]
        have hbd := placeN_bd' (k + 1) hin1 (by rw [HL.out]; omega)
        have hpb := (HS.out.take (k + 1)).bd
        have hq0 : 0 ≤ q := by
          rcases placeN_bd' k hin.out (by rw [HL.out]; omega) with h | h
          · rw [hq]; exact h.1
          · subst h; rw [hq]; exact Int.le_refl _
        have hqs : 0 ≤ q * s := Int.mul_nonneg hq0 hsb.1
        have hw2 : IntKind.i64.wrap (q * s) = q * s := by rw [IntKind.wrap_i64]; rw [hpn] at hbd; omega
        have hw3 : IntKind.i64.wrap (q * s + v) = q * s + v := by rw [IntKind.wrap_i64]; rw [hpn] at hbd; omega
        have HWI : Hid (withinB v 0 (s - 1) = true) := decide_eq_true ⟨hvi.1, by omega⟩
        obtain ⟨t, ht⟩ : ∃ t, t = q * s := ⟨_, rfl⟩
        rw [← ht] at hw2 hw3 hpn
        have HPN := hide hpn
        have HQ := hide hq
        have HIN1 := hide hin1
        have ht2 : q * s = t := ht.symm
        rw [← hq]
        clear hbd hpb hqs hin1 hpn hq hs' hv hmv ht hin hvi hsb hq0 HS HMG
        go_wp2_with (first | (go_at_fn g; refine hcall.mono ?_; rintro e w2 ⟨rfl, hb2⟩; have HL2 := hide (hbl.out.trans (hb2.mono hbl.out.size)); clear hb2) | (go_at_call 115; refine (isWithin_eq _ _ _ _ true HWI).mono ?_; rintro e w' ⟨rfl, rfl⟩))
        go_roundw
        case rel => exact ⟨k + 1, by omega, by go_num, by rw [HPN.out], HIN1, HL2⟩
        case measure => simp [intOf]; omega
      · have hno : insideN sh M sh.length = false := inside_not (by rw [HL.out]; exact hlt) (by rw [hmv, ← hs']; exact hvi)
        obtain rfl : r = false := by rw [← hres.out, hno]
        obtain rfl : p = 0 := by rw [← hp.out]; rfl
        have HWI : Hid (withinB v 0 (s - 1) = false) := decide_eq_false (by omega)
        obtain ⟨q', hq'⟩ : ∃ q', q' = placeN sh M k := ⟨_, rfl⟩
        rw [← hq']
        clear hno hmv hs' hv hvi hsb hres hp hin HS HMG hq hq'
        go_wp2_with (first | (go_at_fn g; refine hcall.mono ?_; rintro e w2 ⟨rfl, hb2⟩; have HL2 := hide (hbl.out.trans (hb2.mono hbl.out.size)); clear hb2) | (go_at_call 115; refine (isWithin_eq _ _ _ _ false HWI).mono ?_; rintro e w' ⟨rfl, rfl⟩))
        go_ret2
        exact ⟨rfl, HL2.out⟩
    · have : k = n := by omega
      subst this
      have hfin : insideN sh M sh.length = true := by rw [HL.out]; exact hin.out
      obtain rfl : r = true := by rw [← hres.out, hfin]
      have hpp : placeN sh M k = p := by rw [← hp.out, if_pos rfl]; unfold place; rw [HL.out]
      rw [hpp]
      clear hfin hpp
      go_wp2
      go_ret2
      exact ⟨rfl, hbl.out⟩

end Go.Proofs.YtkgcmpmgaghdhaaGreatDoor
