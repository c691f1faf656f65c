import Derived.Test.YtlnangnimbgpoaaMBase
import Derived.Test.YtlnangnimbgpoaaMBase
import Derived.Deep.DeepCutAuto
import Derived.RangeFuncRecord
import Derived.BigQuiet
import Derived.Test.YtlnangnimbgpoaaMMath
import Derived.Deep.AppendLies
import Derived.Test.YtlnangnimbgpoaaMStage
import Derived.Test.YtlnangnimbgpoaaMadeRow
import Derived.Deep.RegionHeld3
import Derived.BigRegion
import Derived.Deep.RegionLaw
namespace Go.Proofs.Ytlnangnimbgpoaa
open Go.RowKit

/-- Block pr holds a reader of at most 1000 bytes, which lie below it. -/
def RdOk (w : World) (pr : Nat) : Prop :=
  ∃ (a : Option Addr) (n c p : Nat), w.heap[pr]? = some (.cells #[.slice a n c, .int .i64 (p : Nat)] 98 (0, 0)) ∧ n ≤ 1000 ∧ p ≤ n ∧ (n = 0 ∨ ∃ b off, a = some ⟨b, off, none⟩ ∧ b < pr ∧ ∀ i, i < n → ∃ v : Nat, v ≤ 255 ∧ w.cell? ⟨b, off + i, none⟩ = some (.int .u8 (v : Nat)))

theorem RdOk.lt {w : World} {pr : Nat} (h : RdOk w pr) : pr < w.heap.size := by obtain ⟨a, n, c, p, hc, _⟩ := h; exact lt_of_block hc

theorem RdOk.but {S : Nat → Prop} {w w' : World} {pr : Nat} (h : RdOk w pr) (hb : But S w w') (hs : ∀ k, S k → pr < k) : RdOk w' pr := by
  have hl := h.lt
  obtain ⟨a, n, c, p, hc, h1, h2, h3⟩ := h
  refine ⟨a, n, c, p, (hb.block pr hl (fun e => by have := hs _ e; omega)).trans hc, h1, h2, ?_⟩
  rcases h3 with h3 | ⟨b, off, e, hbl, hv⟩
  · exact .inl h3
  · refine .inr ⟨b, off, e, hbl, fun i hi => ?_⟩
    obtain ⟨v, hv1, hv2⟩ := hv i hi
    exact ⟨v, hv1, (hb.cellAt (by omega) (fun e => by have := hs _ e; omega)).trans hv2⟩

theorem RdOk.below {w w' : World} {pr : Nat} (h : RdOk w pr) (hb : Below w.heap.size w w') : RdOk w' pr := h.but (S := fun _ => False) (But.of_below hb) (fun _ h => h.elim)

theorem RdOk.set {w : World} {pr : Nat} {a : Option Addr} {n c p q : Nat} (hc : w.heap[pr]? = some (.cells #[.slice a n c, .int .i64 (p : Nat)] 98 (0, 0))) (h1 : n ≤ 1000) (h2 : q ≤ n) (h3 : n = 0 ∨ ∃ b off, a = some ⟨b, off, none⟩ ∧ b < pr ∧ ∀ i, i < n → ∃ v : Nat, v ≤ 255 ∧ w.cell? ⟨b, off + i, none⟩ = some (.int .u8 (v : Nat))) : RdOk (w.setCell ⟨pr, 1, none⟩ (.int .i64 (q : Nat))) pr := by
  refine ⟨a, n, c, q, ?_, h1, h2, ?_⟩
  · rw [heap_setCell_same w pr 1 _ _ _ hc]
    simp
  · rcases h3 with h3 | ⟨b, off, e, hbl, hv⟩
    · exact .inl h3
    · refine .inr ⟨b, off, e, hbl, fun i hi => ?_⟩
      obtain ⟨v, hv1, hv2⟩ := hv i hi
      exact ⟨v, hv1, (World.cell?_setCell_other _ _ _ _ (by simp)).trans hv2⟩

set_option maxHeartbeats 2000000 in
theorem next_any (pr : Nat) (w : World) (h : RdOk w pr) :
    Calls Try.prog 51 #[.pointer (some ⟨pr, 0, none⟩)] w fun e w' => (∃ v : Nat, v ≤ 255 ∧ e = .returned (.int .i64 (v : Nat))) ∧ RdOk w' pr ∧ But (fun x => x = pr) w w' := by
  have hl := h.lt
  have HR := hide h
  obtain ⟨a, n, c, p, hc, h1, h2, h3⟩ := h
  have HC := hide hc
  have H3 := hide h3
  have c0 : w.cell? ⟨pr, 0, none⟩ = some (.slice a n c) := by simp [World.cell?, hc]
  have c1 : w.cell? ⟨pr, 1, none⟩ = some (.int .i64 (p : Nat)) := by simp [World.cell?, hc]
  have f1 : w.frozen? ⟨pr, 1, none⟩ = false := frozen_of_row w pr 1 _ _ hc
  by_cases hlt : p < n
  · rcases h3 with h0 | ⟨b, off, rfl, hbl, hv⟩
    · omega
    obtain ⟨v, hv1, hv2⟩ := hv p hlt
    have hw : IntKind.i64.wrap (v : Int) = (v : Int) := by rw [IntKind.wrap_i64]; omega
    have HLT := hide hlt
    clear hlt hv hc
    go_enter Try.func51, Try.ntmps51
    go_wp2_with fail
    have hd : decide ((p : Int) < (n : Int)) = true := decide_eq_true (by have := unhide HLT; omega)
    go_big_quiet (fail)
    have hlt := unhide HLT
    clear hd
    go_wp2_with fail
    have hpz : (p : Int) < (n : Int) := by omega
    go_quiet (fail)
    go_wp2_with fail
    go_ret
    refine ⟨⟨v, hv1, rfl⟩, ?_, ?_⟩
    · exact RdOk.set (q := p + 1) (unhide HC) h1 (by omega) (unhide H3)
    · first | exact (But.of_below (S := fun x => x = pr) (Below.drewN (Below.refl _ w) _)).setCell (p := ⟨pr, 1, none⟩) rfl _ | exact (But.of_below (S := fun x => x = pr) (Below.drewN (Below.drewN (Below.refl _ w) _) _)).setCell (p := ⟨pr, 1, none⟩) rfl _
  · have HLT := hide hlt
    clear hlt h3 hc
    go_enter Try.func51, Try.ntmps51
    go_wp2_with fail
    have hd : decide ((p : Int) < (n : Int)) = false := decide_eq_false (by have := unhide HLT; omega)
    go_big_quiet (fail)
    have hlt := unhide HLT
    clear hd
    go_wp2_with fail
    go_ret
    exact ⟨⟨0, by omega, rfl⟩, (unhide HR).below (Below.drewN (Below.refl _ _) _), But.of_below (Below.drewN (Below.refl _ _) _)⟩

end Go.Proofs.Ytlnangnimbgpoaa
namespace Go.Proofs.Ytlnangnimbgpoaa
open Go.RowKit

theorem modN (k m : Nat) (hm : 0 < m) : ∃ j : Nat, j < m ∧ (k : Int).tmod (m : Int) = (j : Int) ∧ (k : Int) % (m : Int) = (j : Int) := ⟨k % m, Nat.mod_lt _ hm, by rw [Int.tmod_eq_emod_of_nonneg (by omega)]; rfl, rfl⟩

theorem lits (w : World) (l : List Int) (j : Nat) (hj : j < l.length) : (w.alloc (.cells (l.map (Value.int .i64)).toArray 3)).cell? ⟨w.heap.size, j, none⟩ = some (.int .i64 (l.getD j 0)) :=
  Blk.cell (show Blk _ _ l from World.alloc_heap_new w _) hj

theorem rank_lit (j : Nat) (hj : j < 12) : ∃ rk : Nat, (rk : Int) = ([1, 1, 1, 0, 2, 2, 3, 0, 2, 4, 1, 5] : List Int).getD j 0 ∧ rk ≤ 5 := by
  have : j = 0 ∨ j = 1 ∨ j = 2 ∨ j = 3 ∨ j = 4 ∨ j = 5 ∨ j = 6 ∨ j = 7 ∨ j = 8 ∨ j = 9 ∨ j = 10 ∨ j = 11 := by omega
  rcases this with rfl | rfl | rfl | rfl | rfl | rfl | rfl | rfl | rfl | rfl | rfl | rfl <;>
    first | (refine ⟨0, ?_⟩; simp; done) | (refine ⟨1, ?_⟩; simp; done) | (refine ⟨2, ?_⟩; simp; done) | (refine ⟨3, ?_⟩; simp; done) | (refine ⟨4, ?_⟩; simp; done) | (refine ⟨5, ?_⟩; simp; done)

set_option maxRecDepth 20000 in
set_option maxHeartbeats 2000000 in
theorem l3Num_any (pr : Nat) (w : World) (h : RdOk w pr) :
    Calls Try.prog 109 #[.pointer (some ⟨pr, 0, none⟩)] w fun e w' => (∃ v : Int, -1000000000000000 ≤ v ∧ v ≤ 1000000000000000 ∧ e = .returned (.int .i64 v)) ∧ RdOk w' pr ∧ But (fun x => x = pr) w w' := by
  have hcall := next_any pr w h
  clear h
  go_enter Try.func109, Try.ntmps109
  go_wp2_with fail
  refine hcall.mono ?_
  rintro e w1 ⟨⟨k, hk, rfl⟩, hr, hb⟩
  have HR := hide hr
  have HB := hide hb
  clear hr hb hcall
  by_cases h8 : 248 ≤ k
  · have h8z : (248 : Int) ≤ (k : Int) := by omega
    obtain ⟨j, hj, q1, q2⟩ := modN k 4 (by omega)
    have hc := lits w1 [1000000000000000, -1000000000000000, 999999999, 40000000] j (by simpa using hj)
    obtain ⟨x, hx⟩ : ∃ x, x = ([1000000000000000, -1000000000000000, 999999999, 40000000] : List Int).getD j 0 := ⟨_, rfl⟩
    have hxb : -1000000000000000 ≤ x ∧ x ≤ 1000000000000000 := by
      rw [hx]
      have : j = 0 ∨ j = 1 ∨ j = 2 ∨ j = 3 := by omega
      rcases this with rfl | rfl | rfl | rfl <;> simp
    rw [← hx] at hc
    simp only [List.map_cons, List.map_nil] at hc
    have hjz : (j : Int) < 4 := by omega
    have q1' : (k : Int).tmod 4 = (j : Int) := q1
    have q2' : (k : Int) % 4 = (j : Int) := q2
    have hw4 : IntKind.i64.wrap (j : Int) = (j : Int) := by rw [IntKind.wrap_i64]; omega
    clear hx q1 q2
    go_wp2_with fail
    go_ret
    exact ⟨⟨x, hxb.1, hxb.2, rfl⟩, (unhide HR).below ((Below.refl _ _).alloc (Nat.le_refl _) _), (unhide HB).alloc _⟩
  · have h8z : ¬ (248 : Int) ≤ (k : Int) := by omega
    obtain ⟨j, hj, q1, q2⟩ := modN k 23 (by omega)
    have q1' : (k : Int).tmod 23 = (j : Int) := q1
    have q2' : (k : Int) % 23 = (j : Int) := q2
    have hw : IntKind.i64.wrap ((j : Int) - 6) = (j : Int) - 6 := by rw [IntKind.wrap_i64]; omega
    clear q1 q2
    go_wp2_with fail
    go_ret
    exact ⟨⟨(j : Int) - 6, by omega, by omega, rfl⟩, unhide HR, unhide HB⟩

theorem owns_but {S : Nat → Prop} {w w' : World} {base n g cap : Nat} {xs : List Value} (h : w.ownsRow base 3 1 (.slice (some ⟨g, 0, none⟩) n cap) n xs) (hb : But S w w') (hs : ¬ S g) : w'.ownsRow base 3 1 (.slice (some ⟨g, 0, none⟩) n cap) n xs := by
  refine ⟨h.1, ?_⟩
  rcases h.2 with h0 | ⟨g', cap', cur, e, hge, hh, hr⟩
  · exact .inl h0
  · cases e
    exact .inr ⟨g, cap, cur, rfl, hge, (hb.block g (lt_of_block hh) hs).trans hh, hr⟩

theorem owns_ne {w : World} {base n g cap pr : Nat} {xs : List Value} {a : Option Addr} {l c p : Nat} (h : w.ownsRow base 3 1 (.slice (some ⟨g, 0, none⟩) n cap) n xs) (hp : w.heap[pr]? = some (.cells #[.slice a l c, .int .i64 (p : Nat)] 98 (0, 0))) : g ≠ pr := by
  rcases h.2 with ⟨e, _⟩ | ⟨g', cap', cur, e, hge, hh, hr⟩
  · cases e
  · cases e
    intro e
    subst e
    rw [hp] at hh
    have := congrArg (fun o => match o with | some (.cells _ t _) => t | _ => 0) hh
    simp at this

theorem but_grown {w w1 : World} {o : Obj} {g : Nat} (hg : (w.alloc o).grownBy w1 (some g)) : But (fun x => x = g) w w1 :=
  ⟨hg.os, hg.tape, hg.output, by have := hg.size; simp at this; omega, fun k hk hn => (hg.block k (by simp; omega) (fun e => hn (by simpa using e))).trans (Below.heap_alloc w o k hk)⟩

theorem owns_from {w : World} {base n g cap : Nat} {xs : List Value} (h : w.ownsRow base 3 1 (.slice (some ⟨g, 0, none⟩) n cap) n xs) : base ≤ g := by
  rcases h.2 with ⟨e, _⟩ | ⟨g', cap', cur, e, hge, hh, hr⟩
  · cases e
  · cases e; exact hge

/-- What an append to a list of the draw's own leaves. -/
theorem draw_grown {w w2 w3 : World} {o : Obj} {pr g : Nat} (hr : RdOk w2 pr) (hb : But (fun x => x = pr) w w2) (hp : pr < w.heap.size) (hge : w.heap.size ≤ g) (hg : (w2.alloc o).grownBy w3 (some g)) : RdOk w3 pr ∧ But (fun x => x = pr) w w3 := by
  have h := but_grown hg
  refine ⟨hr.but h (by rintro k rfl; omega), ?_⟩
  exact ⟨h.os.trans hb.os, h.tape.trans hb.tape, h.output.trans hb.output, by have := h.size; have := hb.size; omega, fun k hk hn => (h.block k (by have := hb.size; omega) (by rintro rfl; omega)).trans (hb.block k hk hn)⟩

set_option maxRecDepth 20000 in
set_option maxHeartbeats 4000000 in
theorem l3Shape_any (pr : Nat) (w : World) (h : RdOk w pr) :
    Calls Try.prog 108 #[.pointer (some ⟨pr, 0, none⟩)] w fun e w' => (∃ (g n cap : Nat) (zs : List Int), e = .returned (.slice (some ⟨g, 0, none⟩) n cap) ∧ n ≤ 5 ∧ w'.ownsRow w.heap.size 3 1 (.slice (some ⟨g, 0, none⟩) n cap) n (zs.map (Value.int .i64))) ∧ RdOk w' pr ∧ But (fun x => x = pr) w w' := by
  have hcall := next_any pr w h
  have hlw := h.lt
  clear h
  obtain ⟨i0, hi, hz0, hz1, hz2⟩ := info_parts info_int
  go_enter Try.func108, Try.ntmps108
  go_wp2_with fail
  refine hcall.mono ?_
  rintro e w1 ⟨⟨k, hk, rfl⟩, hr, hb⟩
  have HR := hide hr
  have HB := hide hb
  clear hr hb hcall
  obtain ⟨j, hj, q1, q2⟩ := modN k 12 (by omega)
  have q1' : (k : Int).tmod 12 = (j : Int) := q1
  have q2' : (k : Int) % 12 = (j : Int) := q2
  have hc := lits w1 [1, 1, 1, 0, 2, 2, 3, 0, 2, 4, 1, 5] j (by simpa using hj)
  obtain ⟨rk, hrk, hrk5⟩ := rank_lit j hj
  rw [← hrk] at hc
  simp only [List.map_cons, List.map_nil] at hc
  have hjz : (j : Int) < 12 := by omega
  have hw12 : IntKind.i64.wrap (j : Int) = (j : Int) := by rw [IntKind.wrap_i64]; omega
  clear hrk q1 q2
  go_wp2_with fail
  obtain ⟨W, hW⟩ : ∃ W, W = (w1.alloc (.cells #[.int .i64 1, .int .i64 1, .int .i64 1, .int .i64 0, .int .i64 2, .int .i64 2, .int .i64 3, .int .i64 0, .int .i64 2, .int .i64 4, .int .i64 1, .int .i64 5] 3)).alloc (.cells #[] 3) := ⟨_, rfl⟩
  have HRW : Hid (RdOk W pr) := by rw [hW]; exact ((unhide HR).below ((Below.refl _ _).alloc (Nat.le_refl _) _)).below ((Below.refl _ _).alloc (Nat.le_refl _) _)
  have HBW : Hid (But (fun x => x = pr) w W) := by rw [hW]; exact ((unhide HB).alloc _).alloc _
  have HOW : Hid (W.ownsRow w.heap.size 3 1 (.slice (some ⟨w1.heap.size + 1, 0, none⟩) 0 0) 0 (([] : List Int).map (Value.int .i64))) := by
    rw [hW]
    have := owns_empty (w1.alloc (.cells #[.int .i64 1, .int .i64 1, .int .i64 1, .int .i64 0, .int .i64 2, .int .i64 2, .int .i64 3, .int .i64 0, .int .i64 2, .int .i64 4, .int .i64 1, .int .i64 5] 3))
    rw [World.size_alloc] at this
    exact owns_mono this (by have := (unhide HB).size; omega)
  rw [← hW]
  clear hW hc HR HB q1' q2' hw12
  generalize w1.heap.size + 1 = g0 at *
  go_loopw [5, 6] (fun v i wr => ∃ (n g cap : Nat) (zs : List Int), n ≤ rk ∧ i = .int .i64 (n : Nat) ∧ v = .slice (some ⟨g, 0, none⟩) n cap ∧ Hid (wr.ownsRow w.heap.size 3 1 (.slice (some ⟨g, 0, none⟩) n cap) n (zs.map (Value.int .i64))) ∧ Hid (RdOk wr pr) ∧ Hid (But (fun x => x = pr) w wr)) (fun _ i _ => rk - (intOf i).toNat)
  case atStart => exact ⟨0, g0, 0, [], Nat.zero_le _, rfl, rfl, HOW, HRW, HBW⟩
  case round =>
    clear HOW HRW HBW
    obtain ⟨n, g, cap, zs, hn, rfl, rfl, ho, hr, hb⟩ := hrel
    by_cases hlt : n < rk
    · have hnz : (n : Int) < (rk : Int) := by omega
      have hcall := next_any pr wr (unhide hr)
      have HNE : Hid (g ≠ pr) := by obtain ⟨_, _, _, _, hp, _⟩ := unhide hr; exact owns_ne (unhide ho) hp
      go_upto_if 25 with (go_at_call 51; refine hcall.mono ?_; rintro e w2 ⟨⟨v, hv, rfl⟩, hr2, hb2⟩; have HR2 := hide hr2; have HB2' := hide hb2; obtain ⟨j5, hj5, q5, q5'⟩ := modN v 5 (by omega); (have r5 : (v : Int).tmod 5 = (j5 : Int) := q5); (have r5' : (v : Int) % 5 = (j5 : Int) := q5'); clear hr2 hb2 q5 q5')
      have HB2 : Hid (But (fun x => x = pr) w w2) := ((unhide hb).trans (unhide HB2')).mono (by rintro x (h | h) <;> exact h)
      have HO2 : Hid (w2.ownsRow w.heap.size 3 1 (.slice (some ⟨g, 0, none⟩) n cap) n (zs.map (Value.int .i64))) := owns_but (unhide ho) (unhide HB2') (unhide HNE)
      clear r5 r5' ho hr hb HB2' hcall
      go_cut [7] (fun v wx => w2 = wx ∧ ∃ m : Nat, m ≤ 4 ∧ v = .int .i64 (m : Nat))
      case first => as_aux_lemma =>
        by_cases h3 : 3 < rk
        · have h3z : (3 : Int) < (rk : Int) := by omega
          obtain ⟨j2, hj2, q2, q2'⟩ := modN j5 2 (by omega)
          have r2 : (j5 : Int).tmod 2 = (j2 : Int) := q2
          have r2' : (j5 : Int) % 2 = (j2 : Int) := q2'
          clear q2 q2'
          go_wp2_with fail
          go_meet
          case rel => exact ⟨rfl, j2 + 1, by omega, by simp⟩
        · have h3z : ¬ (3 : Int) < (rk : Int) := by omega
          go_wp2_with fail
          go_meet
          case rel => exact ⟨rfl, j5, by omega, rfl⟩
      case rest =>
        obtain ⟨rfl, m, hm4, rfl⟩ := hcut
        go_upto_region 10 with fail
        go_cut [34] (fun v wx => w2 = wx ∧ ∃ b : Bool, v = .bool b)
        case first => as_aux_lemma =>
          by_cases hm0 : m = 0
          · have g0 : ((m : Int) == 0) = true := by simp [hm0]
            go_wp2_with fail
            go_meet
            case rel => exact ⟨rfl, _, rfl⟩
          · have g0 : ((m : Int) == 0) = false := by simp; omega
            go_wp2_with fail
            go_meet
            case rel => exact ⟨rfl, _, rfl⟩
        case rest =>
          obtain ⟨rfl, b, rfl⟩ := hcut
          go_upto_if 34 with fail
          go_cut [7] (fun v wx => w2 = wx ∧ ∃ m : Nat, m ≤ 4 ∧ v = .int .i64 (m : Nat))
          case first => as_aux_lemma =>
            cases b
            · go_wp2_with fail
              go_meet
              case rel => exact ⟨rfl, m, by omega, rfl⟩
            · go_wp2_with fail
              go_meet
              case rel => exact ⟨rfl, 2, by omega, rfl⟩
          case rest =>
            obtain ⟨rfl, m', hm4', rfl⟩ := hcut
            have hsz2 := (unhide HB2).size
            go_wp2_with (at_builtin; refine wpList_append_lies _ rfl _ _ 22 rfl w.heap.size 3 i0 (.int .i64 0) 1 8 Try.underlying22 hi hz0 hz1 hz2 rfl (by decide) _ _ _ rfl (owns_below (unhide HO2) (Nat.le_refl _) ((Below.refl _ _).alloc (Nat.le_refl _) _)) ⟨w2.heap.size, 0, none⟩ 1 1 [.int .i64 (m' : Nat)] rfl rfl (cells_new _ _) (one_one _) (by omega) (by unfold maxLen; omega) (by omega) (by simp; omega) (w2.heap.size + 1) (by simp) ?_; intro g' cap' w7 hown' hgrow hat hlt7; have HOW := hide hown'; have HD := hide (draw_grown (unhide HR2) (unhide HB2) hlw (owns_from (unhide HO2)) hgrow); clear hown' hgrow hat hlt7)
            go_roundw
            case rel => exact ⟨n + 1, g', cap', zs ++ [(m' : Int)], by omega, by go_num, rfl, by show World.ownsRow _ _ _ _ _ _ _; rw [List.map_append]; exact unhide HOW, hide (unhide HD).1, hide (unhide HD).2⟩
            case measure => simp [intOf]; omega
    · have e : n = rk := by omega
      subst e
      go_wp2_with fail
      go_ret
      exact ⟨⟨g, n, cap, zs, rfl, hrk5, unhide ho⟩, unhide hr, unhide hb⟩

end Go.Proofs.Ytlnangnimbgpoaa
namespace Go.Proofs.Ytlnangnimbgpoaa
open Go.RowKit

/-- An array that is being drawn lies in box p7, the answer's box p0 is untouched. -/
structure DG (w : World) (pr p0 p7 : Nat) (c : Bool) (v1 : Value) (wr : World) (l : List Int) (n g cap : Nat) : Prop where
  box : Box wr p7 c v1 (.slice (some ⟨g, 0, none⟩) n cap)
  owns : wr.ownsRow w.heap.size 3 1 (.slice (some ⟨g, 0, none⟩) n cap) n (l.map (Value.int .i64))
  res : Box wr p0 false (.slice none 0 0) (.slice none 0 0)
  rd : RdOk wr pr
  but : But (fun x => x = pr) w wr
  h0 : w.heap.size ≤ p0
  h7 : w.heap.size ≤ p7
  hp : pr < w.heap.size

section
variable {w wr w' : World} {pr p0 p7 n g cap g' cap' : Nat} {c : Bool} {v1 : Value} {l : List Int}
theorem DG.next (h : DG w pr p0 p7 c v1 wr l n g cap) (hb : But (fun x => x = pr) wr w') (hr : RdOk w' pr) : DG w pr p0 p7 c v1 w' l n g cap :=
  ⟨h.box.but hb (by have := h.h7; have := h.hp; omega), owns_but h.owns hb (by have := owns_from h.owns; have := h.hp; omega), h.res.but hb (by have := h.h0; have := h.hp; omega), hr, (h.but.trans hb).mono (by rintro x (h | h) <;> exact h), h.h0, h.h7, h.hp⟩

theorem DG.below (h : DG w pr p0 p7 c v1 wr l n g cap) (hb : Below wr.heap.size wr w') : DG w pr p0 p7 c v1 w' l n g cap := h.next (But.of_below hb) (h.rd.below hb)

theorem DG.push (h : DG w pr p0 p7 c v1 wr l n g cap) {x : Int} {o : Obj} (hown : w'.ownsRow w.heap.size 3 1 (.slice (some ⟨g', 0, none⟩) (n + 1) cap') (n + 1) (l.map (Value.int .i64) ++ [.int .i64 x])) (hg : (wr.alloc o).grownBy w' (Value.ownBlock (.slice (some ⟨g, 0, none⟩) n cap))) :
    Box w' p7 c v1 (.slice (some ⟨g, 0, none⟩) n cap) ∧ DG w pr p0 p7 c v1 (w'.setCell ⟨p7, 2, none⟩ (.slice (some ⟨g', 0, none⟩) (n + 1) cap')) (l ++ [x]) (n + 1) g' cap' := by
  have hg' : (wr.alloc o).grownBy w' (some g) := hg
  have hb6 := h.box.grown h.owns o hg
  have hr6 := h.res.grown h.owns o hg
  obtain ⟨hrd, hbt⟩ := draw_grown h.rd h.but h.hp (owns_from h.owns) hg'
  have hs : But (fun x => x = p7) w' (w'.setCell ⟨p7, 2, none⟩ (.slice (some ⟨g', 0, none⟩) (n + 1) cap')) := (But.refl (fun x => x = p7) w').setCell (p := ⟨p7, 2, none⟩) rfl _
  have hp7 := h.h7
  have hp := h.hp
  have hne : p0 ≠ p7 ∨ p0 = p7 := by omega
  refine ⟨hb6, hb6.set2 _, ?_, ?_, hrd.but hs (by rintro k rfl; omega), ?_, h.h0, h.h7, h.hp⟩
  · rw [List.map_append]
    exact owns_box_set hown hb6 _ _
  · by_cases e : p0 = p7
    · subst e
      exfalso
      have h1 := h.box
      have h2 := h.res
      unfold Box at h1 h2
      rw [h1] at h2
      simp at h2
    · exact hr6.other (by simpa using e) _
  · exact ⟨hbt.os, hbt.tape, hbt.output, by have := hbt.size; simpa using this, fun k hk hn => (heap_setCell_other _ _ k _ (by simp; omega)).trans (hbt.block k hk hn)⟩
end

theorem But.setNew {S : Nat → Prop} {w w' : World} (h : But S w w') {p : Addr} (hp : w.heap.size ≤ p.block) (v : Value) : But S w (w'.setCell p v) :=
  ⟨h.os, h.tape, h.output, by have := h.size; simpa using this, fun k hk hn => (heap_setCell_other _ _ k _ (by omega)).trans (h.block k hk hn)⟩

theorem owns_nebox {w : World} {base n g cap p : Nat} {xs : List Value} {c : Bool} {v1 v2 : Value} (h : w.ownsRow base 3 1 (.slice (some ⟨g, 0, none⟩) n cap) n xs) (hp : Box w p c v1 v2) : g ≠ p := by
  rcases h.2 with ⟨e, _⟩ | ⟨g', cap', cur, e, hge, hh, hr⟩
  · cases e
  · cases e
    intro e
    subst e
    unfold Box at hp
    rw [hp] at hh
    have := congrArg (fun o => match o with | some (.cells _ t _) => t | _ => 0) hh
    simp at this

set_option maxRecDepth 20000 in
set_option maxHeartbeats 4000000 in
theorem l3Of_any (pr g1 n1 cap1 : Nat) (c : Bool) (zs : List Int) (w : World) (h : RdOk w pr) (hz : Row w (some ⟨g1, 0, none⟩) n1 zs) (hgp : g1 ≠ pr) :
    Calls Try.prog 88 #[.pointer (some ⟨pr, 0, none⟩), .slice (some ⟨g1, 0, none⟩) n1 cap1, .bool c] w fun e w' => (∃ (g n cap : Nat) (l : List Int), e = .returned (.agg #[.bool c, .slice (some ⟨g1, 0, none⟩) n1 cap1, .slice (some ⟨g, 0, none⟩) n cap]) ∧ n ≤ 10000 ∧ w'.ownsRow w.heap.size 3 1 (.slice (some ⟨g, 0, none⟩) n cap) n (l.map (Value.int .i64))) ∧ RdOk w' pr ∧ But (fun x => x = pr) w w' := by
  have hlw := h.lt
  obtain ⟨i0, hi, hz0, hz1, hz2⟩ := info_parts info_int
  obtain ⟨N, hN⟩ : ∃ N, countOf zs = N := ⟨_, rfl⟩
  have HN := hide hN
  have hNb : N ≤ 10000 := by
    rw [← hN]
    unfold countOf
    split
    · rename_i ha
      cases hp : prodFrom zs 1 with
      | none => simp
      | some m =>
        have := prodFrom_bd zs 1 m ha (by omega) (by omega) hp
        simp only
        split <;> omega
    · omega
  obtain ⟨NN, hNN⟩ : ∃ NN : Nat, NN = N.toNat := ⟨_, rfl⟩
  have hN1 : NN ≤ 10000 := by omega
  have HLT : Hid (∀ n : Nat, n < NN → (n : Int) < N) := fun n hn => by omega
  have HGE : Hid (∀ n : Nat, ¬ n < NN → ¬ (n : Int) < N) := fun n hn => by omega
  clear hNN hNb
  have HR := hide h
  have HZ := hide hz
  clear h hz hN
  go_enter Try.func88, Try.ntmps88
  go_upto_region 2 with fail
  obtain ⟨W, hW⟩ : ∃ W, W = ((w.alloc (.cells #[.bool false, .slice none 0 0, .slice none 0 0] 26)).alloc (.cells #[] 3)).alloc (.cells #[.bool c, .slice (some ⟨g1, 0, none⟩) n1 cap1, .slice (some ⟨w.heap.size + 1, 0, none⟩) 0 0] 26) := ⟨_, rfl⟩
  have HD : Hid (DG w pr w.heap.size (w.heap.size + 1 + 1) c (.slice (some ⟨g1, 0, none⟩) n1 cap1) W [] 0 (w.heap.size + 1) 0) := by
    have hb : Below w.heap.size w W := by rw [hW]; exact (((Below.refl _ w).alloc (Nat.le_refl _) _).alloc (by simp) _).alloc (by simp; omega) _
    have b1 : Box W w.heap.size false (.slice none 0 0) (.slice none 0 0) := by rw [hW]; exact ((Box.new w _ _ _).alloc _).alloc _
    have b2 : Box W (w.heap.size + 1 + 1) c (.slice (some ⟨g1, 0, none⟩) n1 cap1) (.slice (some ⟨w.heap.size + 1, 0, none⟩) 0 0) := by
      rw [hW]
      have := Box.new ((w.alloc (.cells #[.bool false, .slice none 0 0, .slice none 0 0] 26)).alloc (.cells #[] 3)) c (.slice (some ⟨g1, 0, none⟩) n1 cap1) (.slice (some ⟨w.heap.size + 1, 0, none⟩) 0 0)
      rw [World.size_alloc, World.size_alloc] at this
      exact this
    have b3 : Blk W (w.heap.size + 1) [] := by
      rw [hW]
      have := Blk.new (w.alloc (.cells #[.bool false, .slice none 0 0, .slice none 0 0] 26))
      rw [World.size_alloc] at this
      exact this.alloc _
    exact ⟨b2, b3.owns (by omega), b1, (unhide HR).below hb, But.of_below hb, Nat.le_refl _, by omega, hlw⟩
  rw [← hW]
  clear hW
  have HZW : Hid (Row W (some ⟨g1, 0, none⟩) n1 zs) := (unhide HD).but.row (unhide HZ) (by rintro k rfl hk; exact hgp (at_eq hk))
  generalize w.heap.size + 1 + 1 = p7 at *
  generalize w.heap.size + 1 = g0 at *
  go_upto_region 3 with (go_at_call 53; refine (l3Count_eq _ _ _ zs _ (unhide HZW) _ HN).mono ?_; rintro e wq ⟨rfl, hwq⟩; obtain rfl := hwq.symm)
  clear HZW HR HZ
  go_wp2_with fail
  go_loopw [9] (fun i wr => ∃ (n g cap : Nat) (l : List Int), n ≤ NN ∧ i = .int .i64 (n : Nat) ∧ Hid (DG w pr w.heap.size p7 c (.slice (some ⟨g1, 0, none⟩) n1 cap1) wr l n g cap)) (fun i _ => NN - (intOf i).toNat)
  case atStart => exact ⟨0, g0, 0, [], Nat.zero_le _, rfl, HD⟩
  case round =>
    clear HD
    obtain ⟨n, g, cap, l, hn, rfl, hd⟩ := hrel
    by_cases hlt : n < NN
    · have hnz : (n : Int) < N := unhide HLT n hlt
      have hcall := l3Num_any pr wr (unhide hd).rd
      go_upto_if 24 with (go_at_call 109; refine hcall.mono ?_; rintro e w2 ⟨⟨v, hv1, hv2, rfl⟩, hr2, hb2⟩; have HD2 := hide ((unhide hd).next hb2 hr2); clear hr2 hb2)
      clear hd hcall
      go_cut [10] (fun v wx => (∃ x : Int, v = .int .i64 x) ∧ Below w2.heap.size w2 wx)
      case first =>
        cases c with
        | true =>
          obtain ⟨y, hy⟩ : ∃ y : Nat, (y : Int) = v + 1000000000000000 := ⟨(v + 1000000000000000).toNat, by omega⟩
          obtain ⟨j, hj, q1, q2⟩ := modN y 8 (by omega)
          have q1' : (y : Int).tmod 8 = (j : Int) := q1
          have q2' : (y : Int) % 8 = (j : Int) := q2
          have hyb : y ≤ 2000000000000000 := by omega
          have hw0 : v + 1000000000000000 = (y : Int) := hy.symm
          have hw1 : IntKind.i64.wrap (y : Int) = (y : Int) := by rw [IntKind.wrap_i64]; omega
          have hw2 : IntKind.i64.wrap (j : Int) = (j : Int) := by rw [IntKind.wrap_i64]; omega
          have hc := lits w2 [97, 98, 99, 32, 9077, 120, 128512, 233] j (by simpa using hj)
          obtain ⟨x, hx⟩ : ∃ x, x = ([97, 98, 99, 32, 9077, 120, 128512, 233] : List Int).getD j 0 := ⟨_, rfl⟩
          rw [← hx] at hc
          simp only [List.map_cons, List.map_nil] at hc
          have hjz : (j : Int) < 8 := by omega
          clear hx q1 q2 hy hv1 hv2
          go_wp2_with fail
          go_meet
          case rel => exact ⟨⟨x, rfl⟩, (Below.refl _ _).alloc (Nat.le_refl _) _⟩
        | false =>
          go_wp2_with fail
          go_meet
          case rel => exact ⟨⟨v, rfl⟩, Below.refl _ _⟩
      case rest =>
        obtain ⟨w3, hw3⟩ : ∃ x, x = wc := ⟨_, rfl⟩
        subst hw3
        obtain ⟨⟨x, rfl⟩, hb3⟩ := hcut
        have HD3 := hide ((unhide HD2).below hb3)
        clear HD2 hb3
        obtain ⟨y0, y1, y2, y3, y4, y5, y6⟩ := (unhide HD3).box.all
        have hsz3 := (unhide HD3).but.size
        go_wp2_with (at_builtin; refine wpList_append_lies _ rfl _ _ 22 rfl w.heap.size 3 i0 (.int .i64 0) 1 8 Try.underlying22 hi hz0 hz1 hz2 rfl (by decide) _ _ _ rfl (owns_below (unhide HD3).owns (Nat.le_refl _) ((Below.refl _ _).alloc (Nat.le_refl _) _)) ⟨w3.heap.size, 0, none⟩ 1 1 [.int .i64 x] rfl rfl (cells_new _ _) (one_one _) (by omega) (by unfold maxLen; omega) (by omega) (by simp; omega) (w3.heap.size + 1) (by simp) ?_; intro g' cap' w7 hown' hgrow hat hlt7; have HD7 := hide ((unhide HD3).push hown' hgrow); clear hown' hgrow hat hlt7 y0 y1 y2 y3 y4 y5 y6; obtain ⟨y0, y1, y2, y3, y4, y5, y6⟩ := (unhide HD7).1.all)
        go_roundw
        case rel => exact ⟨n + 1, g', cap', l ++ [x], by omega, by go_num, hide (unhide HD7).2⟩
        case measure => simp [intOf]; omega
    · have hnz := unhide HGE n hlt
      have hd' := unhide hd
      obtain ⟨y0, y1, y2, y3, y4, y5, y6⟩ := hd'.box.all
      obtain ⟨q0, q1, q2, q3, q4, q5, q6⟩ := hd'.res.all
      clear hd'
      go_wp2_with fail
      have hx := (unhide hd).res.sets (c' := c) (u1 := .slice (some ⟨g1, 0, none⟩) n1 cap1) (u2 := .slice (some ⟨g, 0, none⟩) n cap)
      obtain ⟨r0, r1, r2, _, _, _⟩ := hx.all
      refine bodyPost_ret (v := .agg #[.bool c, .slice (some ⟨g1, 0, none⟩) n1 cap1, .slice (some ⟨g, 0, none⟩) n cap]) (by simp [results, Try.results88, go_sem, r0, r1, r2]) rfl ?_
      have hs : But (fun x => x = w.heap.size) wr (((wr.setCell ⟨w.heap.size, 0, none⟩ (.bool c)).setCell ⟨w.heap.size, 1, none⟩ (.slice (some ⟨g1, 0, none⟩) n1 cap1)).setCell ⟨w.heap.size, 2, none⟩ (.slice (some ⟨g, 0, none⟩) n cap)) := (((But.refl (fun x => x = w.heap.size) wr).setCell (p := ⟨w.heap.size, 0, none⟩) rfl _).setCell (p := ⟨w.heap.size, 1, none⟩) rfl _).setCell (p := ⟨w.heap.size, 2, none⟩) rfl _
      exact ⟨⟨g, n, cap, l, rfl, by omega, owns_but (unhide hd).owns hs (owns_nebox (unhide hd).owns (unhide hd).res)⟩, (unhide hd).rd.but hs (by rintro k rfl; omega), (((unhide hd).but.setNew (p := ⟨w.heap.size, 0, none⟩) (Nat.le_refl _) _).setNew (p := ⟨w.heap.size, 1, none⟩) (Nat.le_refl _) _).setNew (p := ⟨w.heap.size, 2, none⟩) (Nat.le_refl _) _⟩

end Go.Proofs.Ytlnangnimbgpoaa
namespace Go.Proofs.Ytlnangnimbgpoaa
open Go.RowKit

/-- An array of the draw's own lies in box p4, the answer's box p0 is untouched. -/
def AG (w : World) (pr p0 p4 : Nat) (wx : World) : Prop :=
  ∃ (c : Bool) (a1 a2 : Addr) (n1 n2 c1 c2 : Nat) (sh dt : List Int), Box wx p4 c (.slice (some a1) n1 c1) (.slice (some a2) n2 c2) ∧ Own wx w.heap.size (some a1) n1 sh ∧ Own wx w.heap.size (some a2) n2 dt ∧ n1 ≤ 6 ∧ n2 ≤ 10001 ∧ RdOk wx pr ∧ But (fun x => x = pr) w wx ∧ Box wx p0 false (.slice none 0 0) (.slice none 0 0)

theorem ag_set {w wx : World} {pr p0 p4 : Nat} {c c' : Bool} {v1 v2 : Value} {a1 a2 : Addr} {n1 n2 c1 c2 : Nat} {sh dt : List Int} (hb : Box wx p4 c v1 v2) (o1 : Own wx w.heap.size (some a1) n1 sh) (o2 : Own wx w.heap.size (some a2) n2 dt) (ne1 : ∀ k, At (some a1) n1 k → k ≠ p4) (ne2 : ∀ k, At (some a2) n2 k → k ≠ p4) (h1 : n1 ≤ 6) (h2 : n2 ≤ 10001) (hr : RdOk wx pr) (hbut : But (fun x => x = pr) w wx) (h0 : Box wx p0 false (.slice none 0 0) (.slice none 0 0)) (hp4 : w.heap.size ≤ p4) (hpr : pr < w.heap.size) (hne : p0 ≠ p4) :
    AG w pr p0 p4 (((wx.setCell ⟨p4, 0, none⟩ (.bool c')).setCell ⟨p4, 1, none⟩ (.slice (some a1) n1 c1)).setCell ⟨p4, 2, none⟩ (.slice (some a2) n2 c2)) := by
  have hs : But (fun x => x = p4) wx (((wx.setCell ⟨p4, 0, none⟩ (.bool c')).setCell ⟨p4, 1, none⟩ (.slice (some a1) n1 c1)).setCell ⟨p4, 2, none⟩ (.slice (some a2) n2 c2)) := (((But.refl (fun x => x = p4) wx).setCell (p := ⟨p4, 0, none⟩) rfl _).setCell (p := ⟨p4, 1, none⟩) rfl _).setCell (p := ⟨p4, 2, none⟩) rfl _
  exact ⟨c', a1, a2, n1, n2, c1, c2, sh, dt, hb.sets, hs.own o1 (by rintro k rfl hk; exact ne1 _ hk rfl), hs.own o2 (by rintro k rfl hk; exact ne2 _ hk rfl), h1, h2, hr.but hs (by rintro k rfl; omega), ((hbut.setNew (p := ⟨p4, 0, none⟩) hp4 _).setNew (p := ⟨p4, 1, none⟩) hp4 _).setNew (p := ⟨p4, 2, none⟩) hp4 _, h0.but hs (by show ¬ p0 = p4; exact hne)⟩

theorem own_of_lits (w : World) (B : Nat) (l : List Int) (hB : B ≤ w.heap.size) (hl : l.length ≤ 100) : Own (w.alloc (.cells (l.map (Value.int .i64)).toArray 3)) B (some ⟨w.heap.size, 0, none⟩) l.length l :=
  (show Blk (w.alloc _) w.heap.size l from World.alloc_heap_new w _).own rfl (by omega) hB

theorem divN (k m : Nat) : ∃ j : Nat, j = k / m ∧ (k : Int).tdiv (m : Int) = (j : Int) ∧ (k : Int) / (m : Int) = (j : Int) := ⟨k / m, rfl, by rw [Int.tdiv_eq_ediv_of_nonneg (by omega)]; rfl, rfl⟩

theorem Own.take {w : World} {B n m : Nat} {a : Option Addr} {zs : List Int} (h : Own w B a n zs) (hm : m ≤ n) : Own w B a m (zs.take m) := by
  refine ⟨by rw [List.length_take, h.len]; omega, by have := h.small; omega, ?_⟩
  rcases h.at_ with h0 | ⟨b, off, e, hb, hlt, hc, hf⟩
  · exact .inl (by omega)
  · refine .inr ⟨b, off, e, hb, hlt, fun i hi => ?_, fun i hi => hf i (by omega)⟩
    rw [hc i (by omega)]
    simp [List.getD, hi]

theorem box_set1 {w : World} {p : Nat} {c : Bool} {v1 v2 : Value} (h : Box w p c v1 v2) (v : Value) : Box (w.setCell ⟨p, 1, none⟩ v) p c v v2 := by
  unfold Box at h ⊢
  rw [heap_setCell_same w p 1 _ _ _ h]
  simp

/-- What is known of the array before it is spoilt. -/
structure AW (w : World) (pr p0 p4 : Nat) (c : Bool) (g1 g2 n1 n2 c1 c2 : Nat) (sh dt : List Int) (wx : World) : Prop where
  box : Box wx p4 c (.slice (some ⟨g1, 0, none⟩) n1 c1) (.slice (some ⟨g2, 0, none⟩) n2 c2)
  o1 : wx.ownsRow w.heap.size 3 1 (.slice (some ⟨g1, 0, none⟩) n1 c1) n1 (sh.map (Value.int .i64))
  o2 : wx.ownsRow w.heap.size 3 1 (.slice (some ⟨g2, 0, none⟩) n2 c2) n2 (dt.map (Value.int .i64))
  ne : g1 ≠ g2
  h1 : n1 ≤ 6
  h2 : n2 ≤ 10001
  rd : RdOk wx pr
  but : But (fun x => x = pr) w wx
  b0 : Box wx p0 false (.slice none 0 0) (.slice none 0 0)
  hp : pr < w.heap.size
  h4 : w.heap.size ≤ p4
  h0 : w.heap.size ≤ p0

section
variable {w wx w' : World} {pr p0 p4 g1 g2 n1 n2 c1 c2 : Nat} {c : Bool} {sh dt : List Int}
theorem AW.ag (h : AW w pr p0 p4 c g1 g2 n1 n2 c1 c2 sh dt wx) : AG w pr p0 p4 wx := by
  obtain ⟨_, _, e1, q1⟩ := Own.of_owns h.o1 (by have := h.h1; omega)
  obtain ⟨_, _, e2, q2⟩ := Own.of_owns h.o2 (by have := h.h2; omega)
  cases e1
  cases e2
  exact ⟨c, _, _, n1, n2, c1, c2, sh, dt, h.box, q1, q2, h.h1, h.h2, h.rd, h.but, h.b0⟩

theorem AW.next (h : AW w pr p0 p4 c g1 g2 n1 n2 c1 c2 sh dt wx) (hb : But (fun x => x = pr) wx w') (hr : RdOk w' pr) : AW w pr p0 p4 c g1 g2 n1 n2 c1 c2 sh dt w' :=
  ⟨h.box.but hb (by have := h.h4; have := h.hp; show ¬ p4 = pr; omega), owns_but h.o1 hb (by have := owns_from h.o1; have := h.hp; show ¬ g1 = pr; omega), owns_but h.o2 hb (by have := owns_from h.o2; have := h.hp; show ¬ g2 = pr; omega), h.ne, h.h1, h.h2, hr, (h.but.trans hb).mono (by rintro x (h | h) <;> exact h), h.b0.but hb (by have := h.h0; have := h.hp; show ¬ p0 = pr; omega), h.hp, h.h4, h.h0⟩

theorem AW.p04 (h : AW w pr p0 p4 c g1 g2 n1 n2 c1 c2 sh dt wx) : p0 ≠ p4 := by
  intro e
  subst e
  have h1 := h.box
  have h2 := h.b0
  unfold Box at h1 h2
  rw [h1] at h2
  simp at h2

theorem AW.below (h : AW w pr p0 p4 c g1 g2 n1 n2 c1 c2 sh dt wx) (hb : Below wx.heap.size wx w') : AW w pr p0 p4 c g1 g2 n1 n2 c1 c2 sh dt w' := h.next (But.of_below hb) (h.rd.below hb)

/-- One number more behind the shape. -/
theorem AW.push1 {g' cap' : Nat} {x : Int} {o : Obj} (h : AW w pr p0 p4 c g1 g2 n1 n2 c1 c2 sh dt wx) (hn : n1 ≤ 5) (hown : w'.ownsRow w.heap.size 3 1 (.slice (some ⟨g', 0, none⟩) (n1 + 1) cap') (n1 + 1) (sh.map (Value.int .i64) ++ [.int .i64 x])) (hg : (wx.alloc o).grownBy w' (Value.ownBlock (.slice (some ⟨g1, 0, none⟩) n1 c1))) :
    Box w' p4 c (.slice (some ⟨g1, 0, none⟩) n1 c1) (.slice (some ⟨g2, 0, none⟩) n2 c2) ∧ AG w pr p0 p4 (w'.setCell ⟨p4, 1, none⟩ (.slice (some ⟨g', 0, none⟩) (n1 + 1) cap')) := by
  have hg' : (wx.alloc o).grownBy w' (some g1) := hg
  have hb6 := h.box.grown h.o1 o hg
  have h06 := h.b0.grown h.o1 o hg
  obtain ⟨hrd, hbt⟩ := draw_grown h.rd h.but h.hp (owns_from h.o1) hg'
  have o26 := owns_but h.o2 (but_grown hg') (fun e => h.ne e.symm)
  have hs : But (fun x => x = p4) w' (w'.setCell ⟨p4, 1, none⟩ (.slice (some ⟨g', 0, none⟩) (n1 + 1) cap')) := (But.refl (fun x => x = p4) w').setCell (p := ⟨p4, 1, none⟩) rfl _
  rw [show sh.map (Value.int .i64) ++ [.int .i64 x] = (sh ++ [x]).map (Value.int .i64) by simp] at hown
  obtain ⟨_, _, e1, q1⟩ := Own.of_owns (owns_but hown hs (owns_nebox hown hb6)) (by omega)
  obtain ⟨_, _, e2, q2⟩ := Own.of_owns (owns_but o26 hs (owns_nebox o26 hb6)) (by have := h.h2; omega)
  cases e1
  cases e2
  have hp4 := h.h4
  have hp := h.hp
  exact ⟨hb6, c, _, _, n1 + 1, n2, cap', c2, sh ++ [x], dt, box_set1 hb6 _, q1, q2, by omega, h.h2, hrd.but hs (by rintro k rfl; omega), hbt.setNew (p := ⟨p4, 1, none⟩) hp4 _, h06.but hs (by show ¬ p0 = p4; exact h.p04)⟩

/-- One element more behind the elements. -/
theorem AW.push2 {g' cap' : Nat} {x : Int} {o : Obj} (h : AW w pr p0 p4 c g1 g2 n1 n2 c1 c2 sh dt wx) (hn : n2 ≤ 10000) (hown : w'.ownsRow w.heap.size 3 1 (.slice (some ⟨g', 0, none⟩) (n2 + 1) cap') (n2 + 1) (dt.map (Value.int .i64) ++ [.int .i64 x])) (hg : (wx.alloc o).grownBy w' (Value.ownBlock (.slice (some ⟨g2, 0, none⟩) n2 c2))) :
    Box w' p4 c (.slice (some ⟨g1, 0, none⟩) n1 c1) (.slice (some ⟨g2, 0, none⟩) n2 c2) ∧ AG w pr p0 p4 (w'.setCell ⟨p4, 2, none⟩ (.slice (some ⟨g', 0, none⟩) (n2 + 1) cap')) := by
  have hg' : (wx.alloc o).grownBy w' (some g2) := hg
  have hb6 := h.box.grown h.o2 o hg
  have h06 := h.b0.grown h.o2 o hg
  obtain ⟨hrd, hbt⟩ := draw_grown h.rd h.but h.hp (owns_from h.o2) hg'
  have o16 := owns_but h.o1 (but_grown hg') h.ne
  have hs : But (fun x => x = p4) w' (w'.setCell ⟨p4, 2, none⟩ (.slice (some ⟨g', 0, none⟩) (n2 + 1) cap')) := (But.refl (fun x => x = p4) w').setCell (p := ⟨p4, 2, none⟩) rfl _
  rw [show dt.map (Value.int .i64) ++ [.int .i64 x] = (dt ++ [x]).map (Value.int .i64) by simp] at hown
  obtain ⟨_, _, e1, q1⟩ := Own.of_owns (owns_but o16 hs (owns_nebox o16 hb6)) (by have := h.h1; omega)
  obtain ⟨_, _, e2, q2⟩ := Own.of_owns (owns_but hown hs (owns_nebox hown hb6)) (by omega)
  cases e1
  cases e2
  have hp4 := h.h4
  have hp := h.hp
  exact ⟨hb6, c, _, _, n1, n2 + 1, c1, cap', sh, dt ++ [x], hb6.set2 _, q1, q2, h.h1, by omega, hrd.but hs (by rintro k rfl; omega), hbt.setNew (p := ⟨p4, 2, none⟩) hp4 _, h06.but hs (by show ¬ p0 = p4; exact h.p04)⟩
end

set_option maxRecDepth 20000 in
set_option maxHeartbeats 8000000 in
theorem l3Array_any (pr : Nat) (w : World) (h : RdOk w pr) :
    Calls Try.prog 87 #[.pointer (some ⟨pr, 0, none⟩)] w fun e w' => (∃ (c : Bool) (a1 a2 : Addr) (n1 n2 c1 c2 : Nat) (sh dt : List Int), e = .returned (.agg #[.bool c, .slice (some a1) n1 c1, .slice (some a2) n2 c2]) ∧ Own w' w.heap.size (some a1) n1 sh ∧ Own w' w.heap.size (some a2) n2 dt ∧ n1 ≤ 6 ∧ n2 ≤ 10001) ∧ RdOk w' pr ∧ But (fun x => x = pr) w w' := by
  have hlw := h.lt
  obtain ⟨i0, hi, hz0, hz1, hz2⟩ := info_parts info_int
  have hb0 : Below w.heap.size w (w.alloc (.cells #[.bool false, .slice none 0 0, .slice none 0 0] 26)) := (Below.refl _ w).alloc (Nat.le_refl _) _
  have HP0 : Hid (Box (w.alloc (.cells #[.bool false, .slice none 0 0, .slice none 0 0] 26)) w.heap.size false (.slice none 0 0) (.slice none 0 0)) := Box.new w _ _ _
  have HBB : Hid (But (fun x => x = pr) w (w.alloc (.cells #[.bool false, .slice none 0 0, .slice none 0 0] 26))) := But.of_below hb0
  have hcall := next_any pr _ (h.below hb0)
  clear h hb0
  go_enter Try.func87, Try.ntmps87
  go_upto_region 2 with (go_at_call 51; refine hcall.mono ?_; rintro e w1 ⟨⟨k, hk, rfl⟩, hr1, hb1⟩; have HR1 := hide hr1; have HB1' := hide hb1; clear hr1 hb1)
  clear hcall
  have HP1 := hide ((unhide HP0).but (unhide HB1') (by show ¬ w.heap.size = pr; omega))
  have HB1 : Hid (But (fun x => x = pr) w w1) := ((unhide HBB).trans (unhide HB1')).mono (by rintro x (h | h) <;> exact h)
  clear HP0 HBB HB1'
  obtain ⟨j5, hj5, q5, q5'⟩ := modN k 5 (by omega)
  have r5 : (k : Int).tmod 5 = (j5 : Int) := q5
  have r5' : (k : Int) % 5 = (j5 : Int) := q5'
  obtain ⟨bc, hbc⟩ : ∃ bc, ((j5 : Int) == 4) = bc := ⟨_, rfl⟩
  have hcS := l3Shape_any pr w1 (unhide HR1)
  have hw1 := (unhide HP1).lt
  clear q5 q5'
  go_upto_region 3 with (first
    | (go_at_call 108; refine hcS.mono ?_; rintro e w2 ⟨⟨g1, n1, cap1, zs, rfl, hn1, ho1⟩, hr2, hb2⟩; obtain ⟨_, _, ev, hO1⟩ := Own.of_owns ho1 (by omega); cases ev; have HR2 := hide hr2; have HB2 := hide hb2; have HO2 := hide ho1; have HQ2 := hide hO1; clear hr2 hb2 ho1 hO1)
    | (go_at_call 88; refine (l3Of_any pr g1 n1 cap1 bc zs _ (unhide HR2) (unhide HQ2).row (by have := owns_from (unhide HO2); have := (unhide HR1).lt; omega)).mono ?_; rintro e w3 ⟨⟨g2, n2, cap2, dt, rfl, hn2, ho2⟩, hr3, hb3⟩; have HR3 := hide hr3; have HB3 := hide hb3; have HO3 := hide ho2; clear hr3 hb3 ho2))
  clear hcS
  obtain ⟨p4, hp4⟩ : ∃ p, p = w3.heap.size := ⟨_, rfl⟩
  obtain ⟨W4, hW4⟩ : ∃ W, W = w3.alloc (.cells #[.bool bc, .slice (some ⟨g1, 0, none⟩) n1 cap1, .slice (some ⟨g2, 0, none⟩) n2 cap2] 26) := ⟨_, rfl⟩
  have hz12 := (unhide HB2).size
  have hz23 := (unhide HB3).size
  have HAW : Hid (AW w pr w.heap.size p4 bc g1 g2 n1 n2 cap1 cap2 zs dt W4) := by
    have hge1 := owns_from (unhide HO2)
    have hge2 := owns_from (unhide HO3)
    have hg1l : g1 < w2.heap.size := owns_lt (unhide HO2) rfl
    have hprl := (unhide HR1).lt
    have hb4 : Below w3.heap.size w3 W4 := by rw [hW4]; exact (Below.refl _ _).alloc (Nat.le_refl _) _
    refine ⟨by rw [hW4, hp4]; exact Box.new w3 _ _ _, owns_mono (owns_below (owns_but (unhide HO2) (unhide HB3) (by show ¬ g1 = pr; omega)) (Nat.le_refl _) hb4) (by omega), owns_mono (owns_below (unhide HO3) (Nat.le_refl _) hb4) (by omega), by omega, by omega, by omega, (unhide HR3).below hb4, ?_, ?_, hlw, by omega, Nat.le_refl _⟩
    · exact ((((unhide HB1).trans (unhide HB2)).trans (unhide HB3)).trans (T := fun x => x = pr) (But.of_below hb4)).mono (by rintro x (((h | h) | h) | h) <;> exact h)
    · exact (((unhide HP1).but (unhide HB2) (by show ¬ w.heap.size = pr; omega)).but (unhide HB3) (by show ¬ w.heap.size = pr; omega)).below (Nat.le_refl _) hb4
  rw [← hW4, ← hp4]
  clear hW4 hp4 HR1 HR2 HR3 HB1 HB2 HB3 HP1 HO2 HO3 HQ2 hz12 hz23 hw1
  go_upto_if 17 with fail
  go_cut [] (fun wx => AG w pr w.heap.size p4 wx)
  case first =>
    by_cases h246 : 246 ≤ k
    · have h246z : (246 : Int) ≤ (k : Int) := by omega
      have hcall := next_any pr _ (unhide HAW).rd
      go_upto_region 5 with (go_at_call 51; refine hcall.mono ?_; rintro e w5 ⟨⟨v, hv, rfl⟩, hr5, hb5⟩; have HW5 := hide ((unhide HAW).next hb5 hr5); clear hr5 hb5)
      clear hcall HAW
      obtain ⟨j, hj, q6, q6'⟩ := modN v 6 (by omega)
      have r6 : (v : Int).tmod 6 = (j : Int) := q6
      have r6' : (v : Int) % 6 = (j : Int) := q6'
      obtain ⟨d, hd0, qd, qd'⟩ := divN v 6
      have rd' : (v : Int).tdiv 6 = (d : Int) := qd
      have rd'' : (v : Int) / 6 = (d : Int) := qd'
      have hd255 : d ≤ 255 := by rw [hd0]; exact Nat.le_trans (Nat.div_le_self v 6) hv
      clear q6 q6' qd qd' hd0 h246z h246 r5 r5'
      obtain ⟨y0, y1, y2, y3, y4, y5, y6⟩ := (unhide HW5).box.all
      have hsz5 := (unhide HW5).but.size
      have hn25 := (unhide HW5).h2
      by_cases e0 : j = 0
      · have g0 : ((j : Int) == 0) = true := by simp [e0]
        clear e0
        go_wp2_with (at_builtin; refine wpList_append_lies _ rfl _ _ 22 rfl w.heap.size 3 i0 (.int .i64 0) 1 8 Try.underlying22 hi hz0 hz1 hz2 rfl (by decide) _ _ _ rfl (owns_below (unhide HW5).o2 (Nat.le_refl _) ((Below.refl _ _).alloc (Nat.le_refl _) _)) ⟨w5.heap.size, 0, none⟩ 1 1 [.int .i64 1] rfl rfl (cells_new _ _) (one_one _) (by omega) (by unfold maxLen; omega) (by omega) (by simp; omega) (w5.heap.size + 1) (by simp) ?_; intro g' cap' w7 hown' hgrow hat hlt7; have HD7 := hide ((unhide HW5).push2 hn2 hown' hgrow); clear hown' hgrow hat hlt7 y0 y1 y2 y3 y4 y5 y6; obtain ⟨y0, y1, y2, y3, y4, y5, y6⟩ := (unhide HD7).1.all)
        go_meet
        case rel => exact (unhide HD7).2
      · have g0 : ((j : Int) == 0) = false := by simp; omega
        by_cases e1 : j = 1
        · have g1' : ((j : Int) == 1) = true := by simp [e1]
          obtain ⟨t4, ht4, qt, qt'⟩ := modN d 4 (by omega)
          have rt : (d : Int).tmod 4 = (t4 : Int) := qt
          have rt' : (d : Int) % 4 = (t4 : Int) := qt'
          have hwt : IntKind.i64.wrap (t4 : Int) = (t4 : Int) := by rw [IntKind.wrap_i64]; omega
          obtain ⟨x, hx⟩ : ∃ x, x = ([1, 0, -1, 10001] : List Int).getD t4 0 := ⟨_, rfl⟩
          have hc : ∀ W : World, (W.alloc (.cells #[.int .i64 1, .int .i64 0, .int .i64 (-1), .int .i64 10001] 3)).cell? ⟨W.heap.size, t4, none⟩ = some (.int .i64 x) := fun W => by
            rw [hx]; exact lits W [1, 0, -1, 10001] t4 (by simpa using ht4)
          have hc1 := hc w5
          have hc2 := hc w5.drew
          have HRD1 := hide rd'
          have HRT1 := hide rt
          have hn15 : n1 ≤ 5 := hn1
          have hnw : ∀ (u : Int) (j : Nat) (y : Value), ([.int .i64 u] : List Value)[j]? = some y → ((w5.alloc (.cells #[.int .i64 1, .int .i64 0, .int .i64 (-1), .int .i64 10001] 3)).alloc (.cells #[.int .i64 u] 3)).cell? ((⟨w5.heap.size + 1, 0, none⟩ : Addr).add j) = some y := fun u => by
            have h := cells_new (w5.alloc (.cells #[.int .i64 1, .int .i64 0, .int .i64 (-1), .int .i64 10001] 3)) u
            rw [World.size_alloc] at h
            exact h
          have HY : Hid (AW w pr w.heap.size p4 bc g1 g2 n1 n2 cap1 cap2 zs dt (w5.alloc (.cells #[.int .i64 1, .int .i64 0, .int .i64 (-1), .int .i64 10001] 3)).drew) := (unhide HW5).below (((Below.refl _ _).alloc (Nat.le_refl _) _).drew)
          clear hx qt qt' hc
          go_upto_region 9 with fail
          have htz0 : (0 : Int) ≤ (t4 : Int) := by omega
          have htz2 : (t4 : Int) < 4 := by omega
          have rd3 : (v : Int).tdiv 6 = (d : Int) := unhide HRD1
          have rt3 : (d : Int).tmod 4 = (t4 : Int) := unhide HRT1
          have hwd : IntKind.i64.wrap (d : Int) = (d : Int) := by rw [IntKind.wrap_i64]; omega
          go_region_law (first | (refine step_append_lies _ (by rfl) _ _ _ (by rfl) w.heap.size 3 i0 _ 1 8 Try.underlying22 hi hz0 hz1 hz2 rfl (by omega) (.slice (some ⟨g1, 0, none⟩) n1 cap1) n1 (zs.map (Value.int .i64)) (by rfl) (by exact (unhide HY).o1.alloc _) ⟨w5.heap.size + 1, 0, none⟩ 1 1 [.int .i64 x] (by rfl) (by rfl) (by exact hnw _) (one_one _) (by omega) (by unfold maxLen; omega) (by omega) (by simp; omega) (w5.heap.size + 2) (by simp) ?_; intro g' cap' w7 hown' hgrow hat hlt7; have HD7 := hide ((unhide HY).push1 hn15 hown' (by exact hgrow)); clear hown' hgrow hat hlt7 y0 y1 y2 y3 y4 y5 y6; obtain ⟨y0, y1, y2, y3, y4, y5, y6⟩ := (unhide HD7).1.all))
          all_goals go_wp2_with fail
          all_goals (go_meet; case rel => exact (unhide HD7).2)
        · have g1' : ((j : Int) == 1) = false := by simp; omega
          by_cases e2 : j = 2
          · have g2' : ((j : Int) == 2) = true := by simp [e2]
            obtain ⟨t2, ht2, qt, qt'⟩ := modN d 2 (by omega)
            have rt : (d : Int).tmod 2 = (t2 : Int) := qt
            have rt' : (d : Int) % 2 = (t2 : Int) := qt'
            obtain ⟨nn, hnn⟩ : ∃ nn : Nat, nn = 10000 + t2 := ⟨_, rfl⟩
            have hsum : (10000 : Int) + (t2 : Int) = (nn : Int) := by omega
            have hnb : nn ≤ 10001 := by omega
            have hwn : IntKind.i64.wrap (nn : Int) = (nn : Int) := by rw [IntKind.wrap_i64]; omega
            have hmk := run_make_row' (P := Try.prog) 22 3 (.int .i64 0) 8 Try.underlying22 info_int rfl .i64 .i64 nn (by omega) (by omega)
            clear qt qt' hnn e0 e1 e2
            go_wp2_with fail
            go_meet
            case rel =>
              obtain ⟨X, hX⟩ : ∃ X, X = ((w5.setCell ⟨p4, 0, none⟩ (.bool false)).setCell ⟨p4, 1, none⟩ (.slice (some ⟨w5.heap.size, 0, none⟩) 1 1)).setCell ⟨p4, 2, none⟩ (.slice (some ⟨w5.heap.size + 1, 0, none⟩) nn nn) := ⟨_, rfl⟩
              have hXs : X.heap.size = w5.heap.size := by rw [hX]; simp
              have hs : But (fun x => x = p4) w5 X := by rw [hX]; exact (((But.refl (fun x => x = p4) w5).setCell (p := ⟨p4, 0, none⟩) rfl _).setCell (p := ⟨p4, 1, none⟩) rfl _).setCell (p := ⟨p4, 2, none⟩) rfl _
              have hbx : Box X p4 false (.slice (some ⟨w5.heap.size, 0, none⟩) 1 1) (.slice (some ⟨w5.heap.size + 1, 0, none⟩) nn nn) := by rw [hX]; exact (unhide HW5).box.sets
              have hbt : But (fun x => x = pr) w X := by rw [hX]; exact (((unhide HW5).but.setNew (p := ⟨p4, 0, none⟩) (unhide HW5).h4 _).setNew (p := ⟨p4, 1, none⟩) (unhide HW5).h4 _).setNew (p := ⟨p4, 2, none⟩) (unhide HW5).h4 _
              rw [← hX]
              have h44 := (unhide HW5).h4
              have hpp := (unhide HW5).hp
              have hrd := (unhide HW5).rd.but hs (by rintro k rfl; omega)
              have hb0 := (unhide HW5).b0.but hs (by show ¬ w.heap.size = p4; exact (unhide HW5).p04)
              have b1 : Blk ((X.alloc (.cells #[.int .i64 (nn : Nat)] 3)).alloc (.cells (madeCells #[.int .i64 0] nn) 3)) w5.heap.size [(nn : Int)] := by rw [← hXs]; exact (show Blk (X.alloc _) X.heap.size [(nn : Int)] from World.alloc_heap_new X _).alloc _
              have b2 : Blk ((X.alloc (.cells #[.int .i64 (nn : Nat)] 3)).alloc (.cells (madeCells #[.int .i64 0] nn) 3)) (w5.heap.size + 1) (List.replicate nn 0) := Blk.made _ _ _ (by simp [hXs])
              have hbw : Below X.heap.size X ((X.alloc (.cells #[.int .i64 (nn : Nat)] 3)).alloc (.cells (madeCells #[.int .i64 0] nn) 3)) := ((Below.refl _ X).alloc (Nat.le_refl _) _).alloc (by simp) _
              refine ⟨false, ⟨w5.heap.size, 0, none⟩, ⟨w5.heap.size + 1, 0, none⟩, 1, nn, 1, nn, [(nn : Int)], List.replicate nn 0, hbx.below (Nat.le_refl _) hbw, b1.own rfl (by omega) (by omega), b2.own (by simp) (by omega) (by omega), by omega, hnb, hrd.below hbw, ?_, hb0.below (Nat.le_refl _) hbw⟩
              exact (hbt.trans (T := fun x => x = pr) (But.of_below hbw)).mono (by rintro x (h | h) <;> exact h)
          · have g2' : ((j : Int) == 2) = false := by simp; omega
            by_cases e3 : j = 3
            · have g3' : ((j : Int) == 3) = true := by simp [e3]
              obtain ⟨t2, ht2, qt, qt'⟩ := modN d 2 (by omega)
              have rt : (d : Int).tmod 2 = (t2 : Int) := qt
              have rt' : (d : Int) % 2 = (t2 : Int) := qt'
              obtain ⟨nn, hnn⟩ : ∃ nn : Nat, nn = 5 + t2 := ⟨_, rfl⟩
              have hsum : (5 : Int) + (t2 : Int) = (nn : Int) := by omega
              have hnb : nn ≤ 6 := by omega
              have hnz : (nn : Int) ≤ 6 := by omega
              have hwn : IntKind.i64.wrap (nn : Int) = (nn : Int) := by rw [IntKind.wrap_i64]; omega
              have hp4l := (unhide HW5).box.lt
              clear qt qt' hnn e0 e1 e2 e3
              go_wp2_with fail
              go_meet
              case rel =>
                obtain ⟨X, hX⟩ : ∃ X, X = (w5.setCell ⟨p4, 1, none⟩ (.slice (some ⟨w5.heap.size, 0, none⟩) nn 6)).setCell ⟨p4, 2, none⟩ (.slice (some ⟨w5.heap.size + 1, 0, none⟩) 1 1) := ⟨_, rfl⟩
                have hXs : X.heap.size = w5.heap.size := by rw [hX]; simp
                have hs : But (fun x => x = p4) w5 X := by rw [hX]; exact ((But.refl (fun x => x = p4) w5).setCell (p := ⟨p4, 1, none⟩) rfl _).setCell (p := ⟨p4, 2, none⟩) rfl _
                have hbx : Box X p4 bc (.slice (some ⟨w5.heap.size, 0, none⟩) nn 6) (.slice (some ⟨w5.heap.size + 1, 0, none⟩) 1 1) := by rw [hX]; exact (box_set1 (unhide HW5).box _).set2 _
                have hbt : But (fun x => x = pr) w X := by rw [hX]; exact ((unhide HW5).but.setNew (p := ⟨p4, 1, none⟩) (unhide HW5).h4 _).setNew (p := ⟨p4, 2, none⟩) (unhide HW5).h4 _
                rw [← hX]
                have h44 := (unhide HW5).h4
                have hpp := (unhide HW5).hp
                have hrd := (unhide HW5).rd.but hs (by rintro k rfl; omega)
                have hb0 := (unhide HW5).b0.but hs (by show ¬ w.heap.size = p4; exact (unhide HW5).p04)
                have b1 : Own ((X.alloc (.cells #[.int .i64 1, .int .i64 1, .int .i64 1, .int .i64 1, .int .i64 1, .int .i64 1] 3)).alloc (.cells #[.int .i64 1] 3)) w.heap.size (some ⟨w5.heap.size, 0, none⟩) 6 [1, 1, 1, 1, 1, 1] := by
                  rw [← hXs]
                  exact ((show Blk (X.alloc _) X.heap.size [1, 1, 1, 1, 1, 1] from World.alloc_heap_new X _).alloc _).own rfl (by omega) (by omega)
                have b2 : Blk ((X.alloc (.cells #[.int .i64 1, .int .i64 1, .int .i64 1, .int .i64 1, .int .i64 1, .int .i64 1] 3)).alloc (.cells #[.int .i64 1] 3)) (w5.heap.size + 1) [1] := by
                  have h3 := World.alloc_heap_new (X.alloc (.cells #[.int .i64 1, .int .i64 1, .int .i64 1, .int .i64 1, .int .i64 1, .int .i64 1] 3)) (.cells #[.int .i64 1] 3)
                  rw [World.size_alloc, hXs] at h3
                  exact h3
                have hbw : Below X.heap.size X ((X.alloc (.cells #[.int .i64 1, .int .i64 1, .int .i64 1, .int .i64 1, .int .i64 1, .int .i64 1] 3)).alloc (.cells #[.int .i64 1] 3)) := ((Below.refl _ X).alloc (Nat.le_refl _) _).alloc (by simp) _
                refine ⟨bc, ⟨w5.heap.size, 0, none⟩, ⟨w5.heap.size + 1, 0, none⟩, nn, 1, 6, 1, _, [1], hbx.below (Nat.le_refl _) hbw, b1.take hnb, b2.own rfl (by omega) (by omega), hnb, by omega, hrd.below hbw, ?_, hb0.below (Nat.le_refl _) hbw⟩
                exact (hbt.trans (T := fun x => x = pr) (But.of_below hbw)).mono (by rintro x (h | h) <;> exact h)
            · have g3' : ((j : Int) == 3) = false := by simp; omega
              by_cases en : 0 < n2
              · have enz : (0 : Int) < (n2 : Int) := by omega
                obtain ⟨t5, ht5, qt, qt'⟩ := modN d 5 (by omega)
                have rt : (d : Int).tmod 5 = (t5 : Int) := qt
                have rt' : (d : Int) % 5 = (t5 : Int) := qt'
                have htz : (t5 : Int) < 5 := by omega
                have hwt : IntKind.i64.wrap (t5 : Int) = (t5 : Int) := by rw [IntKind.wrap_i64]; omega
                obtain ⟨x, hx⟩ : ∃ x, x = ([1000000000000001, -1000000000000001, 55296, 1114112, -1] : List Int).getD t5 0 := ⟨_, rfl⟩
                have hc : ∀ W : World, (W.alloc (.cells #[.int .i64 1000000000000001, .int .i64 (-1000000000000001), .int .i64 55296, .int .i64 1114112, .int .i64 (-1)] 3)).cell? ⟨W.heap.size, t5, none⟩ = some (.int .i64 x) := fun W => by
                  rw [hx]; exact lits W [1000000000000001, -1000000000000001, 55296, 1114112, -1] t5 (by simpa using ht5)
                obtain ⟨_, _, ev, hOd⟩ := Own.of_owns (unhide HW5).o2 (by omega)
                cases ev
                rcases hOd.at_ with h | ⟨gg, oo, hgg, hgl, hgs, hce, hfr⟩
                · omega
                cases hgg
                have cd0 := hce 0 en
                have fd0 := hfr 0 en
                simp only [Nat.add_zero] at cd0 fd0
                have hgp4 : g2 ≠ p4 := owns_nebox (unhide HW5).o2 (unhide HW5).box
                have hp4l := (unhide HW5).box.lt
                have HKEEP : ∀ wx, But (fun x => x = g2) w5 wx → wx.cell? ⟨p4, 2, none⟩ = some (.slice (some ⟨g2, 0, none⟩) n2 cap2) := fun wx hwx => (hwx.cellAt hp4l (by show ¬ p4 = g2; omega)).trans (unhide HW5).box.cells.2.2
                have hc1 := hc w5
                have hc2 := hc w5.drew
                have HRD1 := hide rd'
                have HRT1 := hide rt
                clear hx qt qt' hce hfr hc
                go_upto_region 16 with fail
                have htz0 : (0 : Int) ≤ (t5 : Int) := by omega
                have htz2 : (t5 : Int) < 5 := by omega
                have enz2 : (0 : Int) < (n2 : Int) := by omega
                have rd3 : (v : Int).tdiv 6 = (d : Int) := unhide HRD1
                have rt3 : (d : Int).tmod 5 = (t5 : Int) := unhide HRT1
                have hwd : IntKind.i64.wrap (d : Int) = (d : Int) := by rw [IntKind.wrap_i64]; omega
                go_region
                all_goals go_wp2_with fail
                go_meet
                case rel =>
                  obtain ⟨_, _, ev, hO1⟩ := Own.of_owns (unhide HW5).o1 (by have := (unhide HW5).h1; omega)
                  cases ev
                  have hb : But (fun x => x = g2) w5 (w5.setCell ⟨g2, 0, none⟩ (.int .i64 x)) := (But.refl (fun x => x = g2) w5).setCell (p := ⟨g2, 0, none⟩) rfl _
                  have hbw : Below (w5.setCell ⟨g2, 0, none⟩ (.int .i64 x)).heap.size (w5.setCell ⟨g2, 0, none⟩ (.int .i64 x)) ((w5.setCell ⟨g2, 0, none⟩ (.int .i64 x)).alloc (.cells #[.int .i64 1000000000000001, .int .i64 (-1000000000000001), .int .i64 55296, .int .i64 1114112, .int .i64 (-1)] 3)).drew := ((Below.refl _ _).alloc (Nat.le_refl _) _).drew
                  have hge2 := owns_from (unhide HW5).o2
                  have hpp := (unhide HW5).hp
                  have hne := (unhide HW5).ne
                  have hO2 := hOd.set en x
                  simp only [Nat.add_zero] at hO2
                  refine ⟨bc, ⟨g1, 0, none⟩, ⟨g2, 0, none⟩, n1, n2, cap1, cap2, zs, dt.set 0 x, ((unhide HW5).box.but hb (by show ¬ p4 = g2; omega)).below (Nat.le_refl _) hbw, (hb.own hO1 (by rintro k rfl hk; have := at_eq hk; omega)).below (Nat.le_refl _) hbw, hO2.below (Nat.le_refl _) hbw, (unhide HW5).h1, (unhide HW5).h2, ((unhide HW5).rd.but hb (by rintro k rfl; omega)).below hbw, ?_, ((unhide HW5).b0.but hb (by show ¬ w.heap.size = g2; exact (owns_nebox (unhide HW5).o2 (unhide HW5).b0).symm)).below (Nat.le_refl _) hbw⟩
                  exact (((unhide HW5).but.setNew (p := ⟨g2, 0, none⟩) hge2 _).trans (T := fun x => x = pr) (But.of_below hbw)).mono (by rintro x (h | h) <;> exact h)
              · have enz : ¬ (0 : Int) < (n2 : Int) := by omega
                go_wp2_with fail
                go_meet
                case rel => exact (unhide HW5).ag
    · have h246z : ¬ (246 : Int) ≤ (k : Int) := by omega
      go_wp2_with fail
      go_meet
      case rel => exact (unhide HAW).ag
  case rest =>
    obtain ⟨w6, hw6⟩ : ∃ x, x = wc := ⟨_, rfl⟩
    subst hw6
    obtain ⟨c, a1, a2, m1, m2, d1, d2, sh, dt2, hb, o1, o2, hm1, hm2, hrd, hbt, hb0⟩ := hcut
    obtain ⟨y0, y1, y2, y3, y4, y5, y6⟩ := hb.all
    obtain ⟨q0, q1, q2, q3, q4, q5, q6⟩ := hb0.all
    have HB0 := hide hb0
    have HO1 := hide o1
    have HO2 := hide o2
    have HRD := hide hrd
    have HBT := hide hbt
    have HNB : Hid ((∀ k, At (some a1) m1 k → k ≠ w.heap.size) ∧ ∀ k, At (some a2) m2 k → k ≠ w.heap.size) := ⟨fun k hk => o1.row.notBox hb0 hk, fun k hk => o2.row.notBox hb0 hk⟩
    clear hb hb0 o1 o2 hrd hbt HAW
    go_wp2_with fail
    have hx := (unhide HB0).sets (c' := c) (u1 := .slice (some a1) m1 d1) (u2 := .slice (some a2) m2 d2)
    obtain ⟨r0, r1, r2, _, _, _⟩ := hx.all
    refine bodyPost_ret (v := .agg #[.bool c, .slice (some a1) m1 d1, .slice (some a2) m2 d2]) (by simp [results, Try.results87, go_sem, r0, r1, r2]) rfl ?_
    have hs : But (fun x => x = w.heap.size) w6 (((w6.setCell ⟨w.heap.size, 0, none⟩ (.bool c)).setCell ⟨w.heap.size, 1, none⟩ (.slice (some a1) m1 d1)).setCell ⟨w.heap.size, 2, none⟩ (.slice (some a2) m2 d2)) := (((But.refl (fun x => x = w.heap.size) w6).setCell (p := ⟨w.heap.size, 0, none⟩) rfl _).setCell (p := ⟨w.heap.size, 1, none⟩) rfl _).setCell (p := ⟨w.heap.size, 2, none⟩) rfl _
    exact ⟨⟨c, a1, a2, m1, m2, d1, d2, sh, dt2, rfl, hs.own (unhide HO1) (by rintro k rfl hk; exact (unhide HNB).1 _ hk rfl), hs.own (unhide HO2) (by rintro k rfl hk; exact (unhide HNB).2 _ hk rfl), hm1, hm2⟩, (unhide HRD).but hs (by rintro k rfl; omega), (((unhide HBT).setNew (p := ⟨w.heap.size, 0, none⟩) (Nat.le_refl _) _).setNew (p := ⟨w.heap.size, 1, none⟩) (Nat.le_refl _) _).setNew (p := ⟨w.heap.size, 2, none⟩) (Nat.le_refl _) _⟩

end Go.Proofs.Ytlnangnimbgpoaa
namespace Go.Proofs.Ytlnangnimbgpoaa
open Go.RowKit

/-- A slice of bytes lies in memory. -/
def Bytes (w : World) (a : Option Addr) (n : Nat) : Prop :=
  n = 0 ∨ ∃ b off, a = some ⟨b, off, none⟩ ∧ b < w.heap.size ∧ ∀ i, i < n → ∃ v : Nat, v ≤ 255 ∧ w.cell? ⟨b, off + i, none⟩ = some (.int .u8 (v : Nat))

theorem Bytes.below {w w' : World} {a : Option Addr} {n : Nat} (h : Bytes w a n) (hb : Below w.heap.size w w') : Bytes w' a n := by
  rcases h with h | ⟨b, off, e, hbl, hv⟩
  · exact .inl h
  · refine .inr ⟨b, off, e, by have := hb.size; omega, fun i hi => ?_⟩
    obtain ⟨v, h1, h2⟩ := hv i hi
    exact ⟨v, h1, (hb.cell (p := ⟨b, off + i, none⟩) hbl).trans h2⟩

theorem Bytes.take {w : World} {a : Option Addr} {n m : Nat} (h : Bytes w a n) (hm : m ≤ n) : Bytes w a m := by
  rcases h with h | ⟨b, off, e, hbl, hv⟩
  · exact .inl (by omega)
  · exact .inr ⟨b, off, e, hbl, fun i hi => hv i (by omega)⟩

theorem rd_new {w : World} {a : Option Addr} {n c : Nat} (h : Bytes w a n) (hn : n ≤ 1000) : RdOk (w.alloc (.cells #[.slice a n c, .int .i64 0] 98)) w.heap.size := by
  refine ⟨a, n, c, 0, World.alloc_heap_new w _, hn, Nat.zero_le _, ?_⟩
  rcases h with h | ⟨b, off, e, hbl, hv⟩
  · exact .inl h
  · refine .inr ⟨b, off, e, hbl, fun i hi => ?_⟩
    obtain ⟨v, h1, h2⟩ := hv i hi
    exact ⟨v, h1, (((Below.refl w.heap.size w).alloc (Nat.le_refl _) _).cell (p := ⟨b, off + i, none⟩) hbl).trans h2⟩

set_option maxHeartbeats 2000000 in
theorem l1Open_any (a : Option Addr) (n c : Nat) (w : World) (h : Bytes w a n) (hc : n ≤ c) (hn : n ≤ 1048576) :
    Calls Try.prog 50 #[.slice a n c] w fun e w' => ∃ pr, e = .returned (.pointer (some ⟨pr, 0, none⟩)) ∧ RdOk w' pr ∧ w.heap.size ≤ pr ∧ Below w.heap.size w w' := by
  by_cases hlt : 1000 < n
  · have hltz : (1000 : Int) < (n : Int) := by omega
    rcases h with h | ⟨b, off, rfl, hbl, hv⟩
    · omega
    have HBY : Hid (Bytes w (some ⟨b, off, none⟩) 1000) := Bytes.take (n := n) (.inr ⟨b, off, rfl, hbl, hv⟩) (by omega)
    have hc1 : (1000 : Int) ≤ (c : Int) := by omega
    clear hv
    go_enter Try.func50, Try.ntmps50
    go_wp2_with fail
    refine bodyPost_ret (v := .pointer (some ⟨w.heap.size, 0, none⟩)) (by simp [results, Try.results50, go_sem]) rfl ⟨w.heap.size, rfl, rd_new (unhide HBY) (Nat.le_refl _), Nat.le_refl _, (Below.refl _ _).alloc (Nat.le_refl _) _⟩
  · have hltz : ¬ (1000 : Int) < (n : Int) := by omega
    have HBY := hide h
    clear h
    go_enter Try.func50, Try.ntmps50
    go_wp2_with fail
    refine bodyPost_ret (v := .pointer (some ⟨w.heap.size, 0, none⟩)) (by simp [results, Try.results50, go_sem]) rfl ⟨w.heap.size, rfl, rd_new (unhide HBY) (by omega), Nat.le_refl _, (Below.refl _ _).alloc (Nat.le_refl _) _⟩

end Go.Proofs.Ytlnangnimbgpoaa
namespace Go.Proofs.Ytlnangnimbgpoaa
open Go.RowKit

/-- What a function that draws an array by the reader pr gives. -/
def Drawn6 (pr : Nat) (w : World) (e : Ending) (w' : World) : Prop := (∃ (c : Bool) (a1 a2 : Addr) (n1 n2 c1 c2 : Nat) (sh dt : List Int), e = .returned (.agg #[.bool c, .slice (some a1) n1 c1, .slice (some a2) n2 c2]) ∧ Own w' w.heap.size (some a1) n1 sh ∧ Own w' w.heap.size (some a2) n2 dt ∧ n1 ≤ 6 ∧ n2 ≤ 10001) ∧ RdOk w' pr ∧ But (fun x => x = pr) w w'

/-- The answer's box is filled. -/
theorem drawn6_end {w wx : World} {pr p0 : Nat} {c k : Bool} {s1 s2 : Option Addr} {l1 l2 k1 k2 : Nat} {a1 a2 : Addr} {n1 n2 c1 c2 : Nat} {sh dt : List Int} (hp : Box wx p0 c (.slice s1 l1 k1) (.slice s2 l2 k2)) (hp0 : w.heap.size ≤ p0) (o1 : Own wx w.heap.size (some a1) n1 sh) (o2 : Own wx w.heap.size (some a2) n2 dt) (h1 : n1 ≤ 6) (h2 : n2 ≤ 10001) (hr : RdOk wx pr) (hpr : pr < w.heap.size) (hb : But (fun x => x = pr) w wx) :
    Drawn6 pr w (.returned (.agg #[.bool k, .slice (some a1) n1 c1, .slice (some a2) n2 c2])) (((wx.setCell ⟨p0, 0, none⟩ (.bool k)).setCell ⟨p0, 1, none⟩ (.slice (some a1) n1 c1)).setCell ⟨p0, 2, none⟩ (.slice (some a2) n2 c2)) := by
  have hs : But (fun x => x = p0) wx (((wx.setCell ⟨p0, 0, none⟩ (.bool k)).setCell ⟨p0, 1, none⟩ (.slice (some a1) n1 c1)).setCell ⟨p0, 2, none⟩ (.slice (some a2) n2 c2)) := (((But.refl (fun x => x = p0) wx).setCell (p := ⟨p0, 0, none⟩) rfl _).setCell (p := ⟨p0, 1, none⟩) rfl _).setCell (p := ⟨p0, 2, none⟩) rfl _
  have hn1 : ∀ x, x = p0 → ¬ At (some a1) n1 x := fun x e hk => (o1.row.notBox hp hk) e
  have hn2 : ∀ x, x = p0 → ¬ At (some a2) n2 x := fun x e hk => (o2.row.notBox hp hk) e
  exact ⟨⟨k, a1, a2, n1, n2, c1, c2, sh, dt, rfl, hs.own o1 hn1, hs.own o2 hn2, h1, h2⟩, hr.but hs (by rintro x rfl; omega), ((hb.setNew (p := ⟨p0, 0, none⟩) hp0 _).setNew (p := ⟨p0, 1, none⟩) hp0 _).setNew (p := ⟨p0, 2, none⟩) hp0 _⟩

set_option maxRecDepth 20000 in
set_option maxHeartbeats 4000000 in
theorem l6List_any (pr : Nat) (w : World) (h : RdOk w pr) : Calls Try.prog 52 #[.pointer (some ⟨pr, 0, none⟩)] w (Drawn6 pr w) := by
  have hlw := h.lt
  have hb0 : Below w.heap.size w (w.alloc (.cells #[.bool false, .slice none 0 0, .slice none 0 0] 26)) := (Below.refl _ w).alloc (Nat.le_refl _) _
  have HP0 : Hid (Box (w.alloc (.cells #[.bool false, .slice none 0 0, .slice none 0 0] 26)) w.heap.size false (.slice none 0 0) (.slice none 0 0)) := Box.new w _ _ _
  have HBB : Hid (But (fun x => x = pr) w (w.alloc (.cells #[.bool false, .slice none 0 0, .slice none 0 0] 26))) := But.of_below hb0
  have hcall := next_any pr _ (h.below hb0)
  clear h hb0
  go_enter Try.func52, Try.ntmps52
  go_upto_region 2 with (go_at_call 51; refine hcall.mono ?_; rintro e w1 ⟨⟨k, hk, rfl⟩, hr1, hb1⟩; have HR1 := hide hr1; have HB1' := hide hb1; clear hr1 hb1)
  clear hcall
  have HP1 := hide ((unhide HP0).but (unhide HB1') (by show ¬ w.heap.size = pr; omega))
  have HB1 : Hid (But (fun x => x = pr) w w1) := ((unhide HBB).trans (unhide HB1')).mono (by rintro x (h | h) <;> exact h)
  have hw1 := (unhide HP1).lt
  clear HP0 HBB HB1'
  obtain ⟨j8, hj8, q8, q8'⟩ := modN k 8 (by omega)
  have r8 : (k : Int).tmod 8 = (j8 : Int) := q8
  have r8' : (k : Int) % 8 = (j8 : Int) := q8'
  obtain ⟨j9, hj9, q9, q9'⟩ := modN k 9 (by omega)
  have r9 : (k : Int).tmod 9 = (j9 : Int) := q9
  have r9' : (k : Int) % 9 = (j9 : Int) := q9'
  clear q8 q8' q9 q9'
  by_cases h7 : j8 = 7
  · have g7 : ((j8 : Int) == 7) = true := by simp [h7]
    have hcA := l3Array_any pr w1 (unhide HR1)
    clear h7
    go_wp2_with (go_at_call 87; refine hcA.mono ?_; rintro e w2 ⟨⟨c, a1, a2, n1, n2, c1, c2, sh, dt, rfl, o1, o2, h1, h2⟩, hr2, hb2⟩; have HO1 := hide o1; have HO2 := hide o2; have HR2 := hide hr2; have HB2 := hide hb2; have HP2 := hide ((unhide HP1).but hb2 (by show ¬ w.heap.size = pr; omega)); obtain ⟨y0, y1, y2, y3, y4, y5, y6⟩ := (unhide HP2).all; clear o1 o2 hr2 hb2)
    have hx := (unhide HP2).sets (c' := c) (u1 := .slice (some a1) n1 c1) (u2 := .slice (some a2) n2 c2)
    obtain ⟨r0, r1, r2, _, _, _⟩ := hx.all
    refine bodyPost_ret (v := .agg #[.bool c, .slice (some a1) n1 c1, .slice (some a2) n2 c2]) (by simp [results, Try.results52, go_sem, r0, r1, r2]) rfl ?_
    exact drawn6_end (unhide HP2) (Nat.le_refl _) ((unhide HO1).mono (by omega)) ((unhide HO2).mono (by omega)) h1 h2 (unhide HR2) hlw (((unhide HB1).trans (unhide HB2)).mono (by rintro x (h | h) <;> exact h))
  · have g7 : ((j8 : Int) == 7) = false := by simp; omega
    obtain ⟨bc, hbc⟩ : ∃ bc, decide ((190 : Int) ≤ (k : Int)) = bc := ⟨_, rfl⟩
    have hown : Own (w1.alloc (.cells #[.int .i64 (j9 : Nat)] 3)) w.heap.size (some ⟨w1.heap.size, 0, none⟩) 1 [(j9 : Int)] := by
      refine Blk.own (zs := [(j9 : Int)]) ?_ rfl (by omega) (by omega)
      show (w1.heap.push _)[w1.heap.size]? = _
      simp
    have hrow := hown.row
    have HOWN := hide hown
    have hprl := (unhide HR1).lt
    have hcO := l3Of_any pr w1.heap.size 1 1 bc [(j9 : Int)] _ ((unhide HR1).below ((Below.refl _ _).alloc (Nat.le_refl _) _)) hrow (by omega)
    have HROW := hide hrow
    have HBA : Hid (Below w1.heap.size w1 (w1.alloc (.cells #[.int .i64 (j9 : Nat)] 3))) := (Below.refl _ _).alloc (Nat.le_refl _) _
    clear h7 hrow hown
    go_wp2_with (go_at_call 88; (try rw [hbc]); refine hcO.mono ?_; rintro e w2 ⟨⟨g, n, cap, l, rfl, hn, ho⟩, hr2, hb2⟩; obtain ⟨_, _, ev, hO2⟩ := Own.of_owns ho (by omega); cases ev; have HO2 := hide hO2; have HR2 := hide hr2; have HB2 := hide hb2; have HP2 := hide (((unhide HP1).alloc _).but hb2 (by show ¬ w.heap.size = pr; omega)); obtain ⟨y0, y1, y2, y3, y4, y5, y6⟩ := (unhide HP2).all; clear ho hO2 hr2 hb2)
    have hx := (unhide HP2).sets (c' := bc) (u1 := .slice (some ⟨w1.heap.size, 0, none⟩) 1 1) (u2 := .slice (some ⟨g, 0, none⟩) n cap)
    obtain ⟨r0, r1, r2, _, _, _⟩ := hx.all
    refine bodyPost_ret (v := .agg #[.bool bc, .slice (some ⟨w1.heap.size, 0, none⟩) 1 1, .slice (some ⟨g, 0, none⟩) n cap]) (by simp [results, Try.results52, go_sem, r0, r1, r2]) rfl ?_
    have hsz := (unhide HBA).size
    refine drawn6_end (sh := [(j9 : Int)]) (dt := l) (unhide HP2) (Nat.le_refl _) ((unhide HB2).own (unhide HOWN) (by rintro x rfl hk; have := at_eq hk; omega)) ((unhide HO2).mono (by omega)) (by omega) (by omega) (unhide HR2) hlw ?_
    exact (((unhide HB1).trans (T := fun x => x = pr) (But.of_below (unhide HBA))).trans (unhide HB2)).mono (by rintro x ((h | h) | h) <;> exact h)

set_option maxRecDepth 20000 in
set_option maxHeartbeats 4000000 in
theorem DrawGrade_any (a : Option Addr) (n c : Nat) (w : World) (h : Bytes w a n) (hc : n ≤ c) (hn : n ≤ 1048576) :
    Calls Try.prog 18 #[.slice a n c] w fun e w' => ∃ (c down : Bool) (a1 a2 : Addr) (n1 n2 c1 c2 : Nat) (sh dt : List Int), e = .returned (.tuple #[.agg #[.bool c, .slice (some a1) n1 c1, .slice (some a2) n2 c2], .bool down]) ∧ Own w' w.heap.size (some a1) n1 sh ∧ Own w' w.heap.size (some a2) n2 dt ∧ n1 ≤ 6 ∧ n2 ≤ 10001 ∧ Below w.heap.size w w' := by
  have hb0 : Below w.heap.size w (w.alloc (.cells #[.bool false, .slice none 0 0, .slice none 0 0] 26)) := (Below.refl _ w).alloc (Nat.le_refl _) _
  have HP0 : Hid (Box (w.alloc (.cells #[.bool false, .slice none 0 0, .slice none 0 0] 26)) w.heap.size false (.slice none 0 0) (.slice none 0 0)) := Box.new w _ _ _
  have hcall := l1Open_any a n c _ (h.below hb0) hc hn
  have HB0 := hide hb0
  clear h hb0
  go_enter Try.func18, Try.ntmps18
  go_upto_region 3 with (first
    | (go_at_call 50; refine hcall.mono ?_; rintro e w1 ⟨pr, rfl, hr1, hpr, hb1⟩; have HR1 := hide hr1; have HB1 := hide hb1; have hprz := hpr; clear hr1 hb1 hpr hcall)
    | (go_at_call 51; refine (next_any pr w1 (unhide HR1)).mono ?_; rintro e w2 ⟨⟨k, hk, rfl⟩, hr2, hb2⟩; have HR2 := hide hr2; have HB2 := hide hb2; clear hr2 hb2))
  have hz1 := (unhide HB1).size
  simp at hz1 hprz
  obtain ⟨j2, hj2, q2, q2'⟩ := modN k 2 (by omega)
  have r2' : (k : Int).tmod 2 = (j2 : Int) := q2
  have r2'' : (k : Int) % 2 = (j2 : Int) := q2'
  obtain ⟨bd, hbd⟩ : ∃ bd, ((j2 : Int) == 1) = bd := ⟨_, rfl⟩
  have HP2 := hide (((unhide HP0).below (by simp) (unhide HB1)).but (unhide HB2) (by show ¬ w.heap.size = pr; omega))
  clear q2 q2' HP0
  have hcL := l6List_any pr w2 (unhide HR2)
  go_wp2_with (go_at_call 52; refine hcL.mono ?_; rintro e w3 ⟨⟨d, a1, a2, n1, n2, c1, c2, sh, dt, rfl, o1, o2, h1, h2⟩, hr3, hb3⟩; have HO1 := hide o1; have HO2 := hide o2; have HB3 := hide hb3; have HP3 := hide ((unhide HP2).but hb3 (by show ¬ w.heap.size = pr; omega)); obtain ⟨y0, y1, y2, y3, y4, y5, y6⟩ := (unhide HP3).all; clear o1 o2 hr3 hb3)
  have hx := (unhide HP3).sets (c' := d) (u1 := .slice (some a1) n1 c1) (u2 := .slice (some a2) n2 c2)
  obtain ⟨r0, r1, r2, _, _, _⟩ := hx.all
  refine bodyPost_ret (v := .tuple #[.agg #[.bool d, .slice (some a1) n1 c1, .slice (some a2) n2 c2], .bool bd]) (by simp [results, Try.results18, go_sem, r0, r1, r2]) rfl ?_
  have hs : But (fun x => x = w.heap.size) w3 (((w3.setCell ⟨w.heap.size, 0, none⟩ (.bool d)).setCell ⟨w.heap.size, 1, none⟩ (.slice (some a1) n1 c1)).setCell ⟨w.heap.size, 2, none⟩ (.slice (some a2) n2 c2)) := (((But.refl (fun x => x = w.heap.size) w3).setCell (p := ⟨w.heap.size, 0, none⟩) rfl _).setCell (p := ⟨w.heap.size, 1, none⟩) rfl _).setCell (p := ⟨w.heap.size, 2, none⟩) rfl _
  have hn1 : ∀ k, At (some a1) n1 k → k ≠ w.heap.size := fun k hk => (unhide HO1).row.notBox (unhide HP3) hk
  have hn2 : ∀ k, At (some a2) n2 k → k ≠ w.heap.size := fun k hk => (unhide HO2).row.notBox (unhide HP3) hk
  have hz2 := (unhide HB2).size
  have hlow : Below w.heap.size w w3 := by
    have h01 := (unhide HB0).trans ((unhide HB1).mono (by simp))
    have h23 := ((unhide HB2).trans (unhide HB3)).mono (T := fun x => x = pr) (by rintro x (h | h) <;> exact h)
    refine h01.trans ⟨h23.os, h23.tape, h23.output, h23.size, fun k hk => h23.block k (by omega) (by show ¬ k = pr; omega)⟩
  exact ⟨d, bd, a1, a2, n1, n2, c1, c2, sh, dt, rfl, (hs.own (unhide HO1) (by rintro k rfl hk; exact hn1 _ hk rfl)).mono (by omega), (hs.own (unhide HO2) (by rintro k rfl hk; exact hn2 _ hk rfl)).mono (by omega), h1, h2, ((hlow.setCell (p := ⟨w.heap.size, 0, none⟩) (Nat.le_refl _) _).setCell (p := ⟨w.heap.size, 1, none⟩) (Nat.le_refl _) _).setCell (p := ⟨w.heap.size, 2, none⟩) (Nat.le_refl _) _⟩

end Go.Proofs.Ytlnangnimbgpoaa
