import Derived.Test.YtngbmcljhcckmaaPGrow
import Derived.Test.YtngbmcljhcckmaaMDraw
import Derived.Test.YtngbmcljhcckmaaLwArrO
import Derived.Test.YtngbmcljhcckmaaCatStage
namespace Go.Proofs.Ytngbmcljhcckmaa
open Go.RowKit

/-- What DrawReplace gives. -/
def DrawnR (w : World) (e : Ending) (w' : World) : Prop :=
  ∃ (c : Bool) (a1 a2 : Addr) (n1 n2 c1 c2 : Nat) (sh dt : List Int) (B g cap k : Nat) (xs : List Value) (ps : List PartD) (d : Bool) (b1 b2 : Addr) (m1 m2 d1 d2 : Nat) (sh' dt' : List Int),
    e = .returned (.tuple #[.agg #[.bool c, .slice (some a1) n1 c1, .slice (some a2) n2 c2], .slice (some ⟨g, 0, none⟩) k cap, .agg #[.bool d, .slice (some b1) m1 d1, .slice (some b2) m2 d2]]) ∧ Row w' (some a1) n1 sh ∧ Row w' (some a2) n2 dt ∧ PGrow B w' g cap k xs ps ∧ Row w' (some b1) m1 sh' ∧ Row w' (some b2) m2 dt' ∧ n1 ≤ 6 ∧ n2 ≤ 10001 ∧ k ≤ 7 ∧ m1 ≤ 6 ∧ m2 ≤ 10001 ∧ Below w.heap.size w w'

def DrawOk : Prop := ∀ (a : Option Addr) (n cn : Nat) (w : World) (_ : Bytes w a n) (_ : n ≤ cn) (_ : n ≤ 1048576), Calls Try.prog 31 #[.slice a n cn] w (DrawnR w)

end Go.Proofs.Ytngbmcljhcckmaa
namespace Go.Proofs.Ytngbmcljhcckmaa
open Go.RowKit

set_option maxHeartbeats 2000000 in
theorem lwArray_src (c : Bool) (s1 s2 : Option Addr) (n1 n2 c1 c2 : Nat) (sh dt : List Int) (w : World) (r1 : Src w s1 n1 c1 sh) (r2 : Src w s2 n2 c2 dt) (h1 : n1 ≤ 20000) (h2 : n2 ≤ 20000) :
    Calls Try.prog 22 #[.agg #[.bool c, .slice s1 n1 c1, .slice s2 n2 c2]] w fun e w' => ∃ g1 g2 d1 d2, e = .returned (.agg #[.bool c, .slice (some ⟨g1, 0, none⟩) n1 d1, .slice (some ⟨g2, 0, none⟩) n2 d2]) ∧ Own w' w.heap.size (some ⟨g1, 0, none⟩) n1 sh ∧ Own w' w.heap.size (some ⟨g2, 0, none⟩) n2 dt ∧ n1 ≤ d1 ∧ n2 ≤ d2 ∧ Below w.heap.size w w' := by
  obtain ⟨W0, hW0⟩ : ∃ W0, W0 = (w.alloc (.cells #[.bool c, .slice s1 n1 c1, .slice s2 n2 c2] 26)).alloc (.cells #[.bool false, .slice none 0 0, .slice none 0 0] 26) := ⟨_, rfl⟩
  have hz0 : W0.heap.size = w.heap.size + 1 + 1 := by rw [hW0]; simp
  have HB0 : Hid (Below w.heap.size w W0) := by rw [hW0]; exact ((Below.refl _ w).alloc (Nat.le_refl _) _).alloc (by simp) _
  have HX0 : Hid (Box W0 w.heap.size c (.slice s1 n1 c1) (.slice s2 n2 c2)) := by
    rw [hW0]; exact (Box.new w _ _ _).below (Nat.le_refl _) ((Below.refl _ _).alloc (Nat.le_refl _) _)
  have HX1 : Hid (Box W0 (w.heap.size + 1) false (.slice none 0 0) (.slice none 0 0)) := by
    rw [hW0]
    have := Box.new (w.alloc (.cells #[.bool c, .slice s1 n1 c1, .slice s2 n2 c2] 26)) false (.slice none 0 0) (.slice none 0 0)
    rw [World.size_alloc] at this
    exact this
  have HW0 := hide hW0
  have R1 := hide (r1.below (Nat.le_refl _) (unhide HB0))
  have R2 := hide (r2.below (Nat.le_refl _) (unhide HB0))
  have HZ0 := hide hz0
  clear hW0 hz0 r1 r2
  go_enter Try.func22, Try.ntmps22
  go_upto_region 1 with fail
  rw [← unhide HW0]
  refine regionLw W0 w.heap.size (w.heap.size + 1) c s1 s2 n1 n2 c1 c2 sh dt (unhide R1) (unhide R2) h1 h2 _ _ (unhide HX1) ?_ _ (by simp) rfl rfl rfl (unhide HX0) ?_
  · intro a g1 g2 d1 d2 wx hlw
    apply_assumption
    have hv2 : (a.put (some 13) (.agg #[.bool c, .slice (some ⟨g1, 0, none⟩) n1 d1, .slice (some ⟨g2, 0, none⟩) n2 d2])).eval (.tmp 2) = .pointer (some ⟨w.heap.size + 1, 0, none⟩) := by rw [eval_ne (by decide)]; exact hlw.e2
    obtain ⟨a', ha'⟩ : ∃ a', a' = a.put (some 13) (.agg #[.bool c, .slice (some ⟨g1, 0, none⟩) n1 d1, .slice (some ⟨g2, 0, none⟩) n2 d2]) := ⟨_, rfl⟩
    have hdf : a'.defers = [] := by rw [ha', put_defers]; exact hlw.df
    rw [← ha'] at hv2 ⊢
    have hv3 : a'.tmps[2]?.getD undef = .pointer (some ⟨w.heap.size + 1, 0, none⟩) := by simpa [Act.eval] using hv2
    clear ha'
    have hb := ((unhide HX1).below (Nat.le_refl _) hlw.low).sets (c' := c) (u1 := .slice (some ⟨g1, 0, none⟩) n1 d1) (u2 := .slice (some ⟨g2, 0, none⟩) n2 d2)
    obtain ⟨r0, r1, r2, _, _, _⟩ := hb.all
    have hbx := (unhide HX1).below (Nat.le_refl _) hlw.low
    have hz0 := unhide HZ0
    have o1 := (hlw.a2 rfl).2
    have o2 := (hlw.b2 rfl).2
    have hk1 : n1 ≤ d1 := by
      rcases o1.2 with ⟨e, _⟩ | ⟨g', cap', cur, e, _, _, hr, _⟩
      · cases e
      · cases e; exact hr
    have hk2 : n2 ≤ d2 := by
      rcases o2.2 with ⟨e, _⟩ | ⟨g', cap', cur, e, _, _, hr, _⟩
      · cases e
      · cases e; exact hr
    obtain ⟨_, _, e1, q1⟩ := Own.of_owns o1 (by omega)
    obtain ⟨_, _, e2, q2⟩ := Own.of_owns o2 (by omega)
    cases e1
    cases e2
    have hn1 : ∀ k, At (some ⟨g1, 0, none⟩) n1 k → k ≠ w.heap.size + 1 := fun k hk => q1.row.notBox hbx hk
    have hn2 : ∀ k, At (some ⟨g2, 0, none⟩) n2 k → k ≠ w.heap.size + 1 := fun k hk => q2.row.notBox hbx hk
    have hlow := (unhide HB0).trans (hlw.low.mono (by omega))
    go_wp2_with fail
    refine bodyPost_ret (v := .agg #[.bool c, .slice (some ⟨g1, 0, none⟩) n1 d1, .slice (some ⟨g2, 0, none⟩) n2 d2]) (by simp [results, Try.results22, go_sem, hv3, r0, r1, r2]) hdf ?_
    exact ⟨g1, g2, d1, d2, rfl, (((q1.mono (by omega)).other (q := ⟨w.heap.size + 1, 0, none⟩) hn1 _).other (q := ⟨w.heap.size + 1, 1, none⟩) hn1 _).other (q := ⟨w.heap.size + 1, 2, none⟩) hn1 _, (((q2.mono (by omega)).other (q := ⟨w.heap.size + 1, 0, none⟩) hn2 _).other (q := ⟨w.heap.size + 1, 1, none⟩) hn2 _).other (q := ⟨w.heap.size + 1, 2, none⟩) hn2 _, hk1, hk2, ((hlow.setCell (p := ⟨w.heap.size + 1, 0, none⟩) (by simp) _).setCell (p := ⟨w.heap.size + 1, 1, none⟩) (by simp) _).setCell (p := ⟨w.heap.size + 1, 2, none⟩) (by simp) _⟩
  · exact fun _ _ _ _ _ h => h

end Go.Proofs.Ytngbmcljhcckmaa
namespace Go.Proofs.Ytngbmcljhcckmaa
open Go.RowKit

theorem news4 (w : World) (v0 v1 v2 v3 : Value) : ∀ j u, ([v0, v1, v2, v3] : List Value)[j]? = some u → (w.alloc (.cells #[v0, v1, v2, v3] 96)).cell? ((⟨w.heap.size, 0, none⟩ : Addr).add j) = some u := by
  intro j u hj
  have hadd : (⟨w.heap.size, 0, none⟩ : Addr).add j = ⟨w.heap.size, j, none⟩ := by unfold Addr.add; split <;> simp_all
  rw [hadd]
  have := World.alloc_heap_new w (.cells #[v0, v1, v2, v3] 96)
  simp only [World.cell?, this]
  simpa using hj

theorem one4 (b c : Bool) (s1 : Option Addr) (n1 c1 : Nat) (s2 : Option Addr) (n2 c2 : Nat) : ∀ u ∈ ([.bool b, .bool c, .slice s1 n1 c1, .slice s2 n2 c2] : List Value), u.oneCell' = true := by
  intro u hu
  simp at hu
  rcases hu with rfl | rfl | rfl | rfl <;> rfl

set_option maxRecDepth 20000 in
set_option maxHeartbeats 8000000 in
theorem lwParts_any (B0 g n cap : Nat) (xs : List Value) (ps : List PartD) (w : World) (h : PGrow B0 w g cap n xs ps) (hn : n ≤ 20) :
    Calls Try.prog 35 #[.slice (some ⟨g, 0, none⟩) n cap] w fun e w' => ∃ g' cap' xs', e = .returned (.slice (some ⟨g', 0, none⟩) n cap') ∧ PGrow w.heap.size w' g' cap' n xs' ps ∧ Below w.heap.size w w' := by
  obtain ⟨i0, hi, hz0, hz1, hz2⟩ := info_parts info_part
  have H := hide h
  clear h
  go_enter Try.func35, Try.ntmps35
  go_wp2_with fail
  go_loopw [3, 4] (fun o i wr => ∃ (k g' cap' : Nat) (xs' : List Value), k ≤ n ∧ i = .int .i64 k ∧ o = .slice (some ⟨g', 0, none⟩) k cap' ∧ Hid (PGrow w.heap.size wr g' cap' k xs' (ps.take k) ∧ Below w.heap.size w wr)) (fun _ i _ => n - (intOf i).toNat)
  case atStart => exact ⟨0, w.heap.size, 0, [], Nat.zero_le _, rfl, rfl, PGrow.start w (Nat.le_refl _), (Below.refl _ _).alloc (Nat.le_refl _) _⟩
  case round =>
    obtain ⟨k, g', cap', xs', hk, rfl, rfl, HX⟩ := hrel
    by_cases hlt : k < n
    · obtain ⟨hG, hB⟩ := unhide HX
      have hlp := (unhide H).len
      obtain ⟨P, hP⟩ : ∃ P, part ps k = P := ⟨_, rfl⟩
      obtain ⟨s1, n1, c1, s2, n2, c2, x0, x1, x2, x3, it⟩ := (unhide H).get hlt
      rw [hP] at x0 x1 it
      have hgw := (unhide H).lt
      have HC : Hid (∀ wx, Below w.heap.size w wx → wx.cell? ⟨g, k * 4, none⟩ = some (.bool P.all) ∧ wx.cell? ⟨g, k * 4 + 1, none⟩ = some (.bool P.c) ∧ wx.cell? ⟨g, k * 4 + 2, none⟩ = some (.slice s1 n1 c1) ∧ wx.cell? ⟨g, k * 4 + 3, none⟩ = some (.slice s2 n2 c2)) := fun wx hwx =>
        ⟨(hwx.cell (p := ⟨g, k * 4, none⟩) hgw).trans x0, (hwx.cell (p := ⟨g, k * 4 + 1, none⟩) hgw).trans x1, (hwx.cell (p := ⟨g, k * 4 + 2, none⟩) hgw).trans x2, (hwx.cell (p := ⟨g, k * 4 + 3, none⟩) hgw).trans x3⟩
      have HTK : Hid (ps.take (k + 1) = ps.take k ++ [P]) := by
        show _ = _
        rw [List.take_add_one, ← hP]
        unfold part
        have hkl : k < ps.length := by omega
        simp [List.getD, List.getElem?_eq_getElem hkl]
      have hr1 := it.r1
      have hr2 := it.r2
      have hm1 := it.m1
      have hm2 := it.m2
      have HG := hide hG
      have HB := hide hB
      have HS1 : Hid (Src w s1 n1 c1 P.sh) := hr1
      have HS2 : Hid (Src w s2 n2 c2 P.dt) := hr2
      clear x0 x1 x2 x3 it hr1 hr2 hG hB HX hP
      obtain ⟨x0, x1, x2, x3⟩ := unhide HC _ (unhide HB)
      go_wp2_with fail
      go_region_law
        (first
          | (refine step_append_some _ (by rfl) _ _ _ (by rfl) w.heap.size 96 i0 _ 4 64 Try.underlying44 hi hz0 hz1 hz2 rfl (by decide) g' k cap' xs' (by rfl) (hG2.own.alloc _) ⟨w2.heap.size, 0, none⟩ 1 1 [.bool P.all, .bool P.c, .slice (some ⟨q1, 0, none⟩) n1 e1, .slice (some ⟨q2, 0, none⟩) n2 e2] (by rfl) (by rfl) (news4 _ _ _ _ _) (one4 _ _ _ _ _ _ _ _) (by unfold maxLen; omega) (by omega) (by have := hB2.size; simp; omega) ?_; intro g3 cap3 w3 hown3 hgrow3 hat3)
          | (go_simp; go_at_call 22; refine (lwArray_src _ _ _ _ _ _ _ P.sh P.dt _ (by exact (unhide HS1).below (Nat.le_refl _) (unhide HB).drew) (by exact (unhide HS2).below (Nat.le_refl _) (unhide HB).drew) hm1 hm2).mono ?_; rintro e w2 ⟨q1, q2, e1, e2, rfl, o1, o2, _, _, hb2⟩; have hB2 : Below w.heap.size w w2 := (unhide HB).drew.trans (hb2.mono (unhide HB).drew.size); have hG2 := ((unhide HG).below (Below.refl _ _).drew).below hb2; obtain ⟨z0, z1, z2, z3⟩ := unhide HC _ hB2))
      all_goals
        have hit : PItem w.heap.size w2 g' (some ⟨q1, 0, none⟩) n1 e1 (some ⟨q2, 0, none⟩) n2 e2 P := ⟨Src.some o1.row, Src.some o2.row, fun hh => by have e := o1.low hh; have := (unhide HG).lt; simp at e; omega, fun hh => by have e := o2.low hh; have := (unhide HG).lt; simp at e; omega, fun x hx => by have e := o1.low hx; have := (unhide HB).size; simp at e; omega, fun x hx => by have e := o2.low hx; have := (unhide HB).size; simp at e; omega, hm1, hm2, fun _ => ⟨_, rfl⟩⟩
        obtain ⟨hG3, hb3⟩ := hG2.push _ hit (by simpa using hown3) hgrow3 (by rcases hat3 with e | e; exact .inl e; exact .inr (by simpa using e))
        have HG3 : Hid (PGrow w.heap.size w3 g3 cap3 (k + 1) (xs' ++ [.bool P.all, .bool P.c, .slice (some ⟨q1, 0, none⟩) n1 e1, .slice (some ⟨q2, 0, none⟩) n2 e2]) (ps.take (k + 1)) ∧ Below w.heap.size w w3) := ⟨by rw [unhide HTK]; exact hG3, hB2.trans (hb3.below hB2.size (fun x hx => by rw [hx]; exact (unhide HG).ge))⟩
        clear hG3 hb3 hit hown3 hgrow3 hat3
        go_wp2_with fail
        go_roundw
        case rel => exact ⟨k + 1, g3, cap3, _, by omega, by go_num, rfl, unhide HG3⟩
        case measure => simp [intOf]; omega
    · obtain rfl : k = n := by omega
      obtain ⟨hG, hB⟩ := unhide HX
      rw [List.take_of_length_le (by rw [(unhide H).len]; omega)] at hG
      have HG := hide hG
      have HB := hide hB
      clear hG hB HX
      go_wp2
      go_ret
      exact ⟨g', cap', xs', rfl, unhide HG, unhide HB⟩

end Go.Proofs.Ytngbmcljhcckmaa
