import Derived.Test.YtgjpchnkodnieaaGreatDoorMFit3
import Derived.Test.YtgjpchnkodnieaaGreatDoorImplAxLen
import Derived.Test.YtgjpchnkodnieaaGreatDoorMFit2
namespace Go.Proofs.YtgjpchnkodnieaaGreatDoor
open Go.RowKit Go.Shelf

theorem eg_first : ∀ args w, (callFunc 222 args).run Tryz.prog w = .ok (.enter 222 args) w := enters_of Tryz.func222 (by kernel_rfl) rfl

theorem shapeIn_line {x : Int} (h0 : 0 ≤ x) (h1 : x ≤ 10000) : ShapeIn [x] := by
  refine ⟨by simp [inCells, h0, h1], ?_⟩
  simp only [prodFrom]
  split
  · exact ⟨_, rfl⟩
  · rw [if_neg (by omega)]; exact ⟨_, rfl⟩

theorem first_num (w : World) : NumOk 222 #[] (fun _ _ => 0) [] 1 w := by
  intro D _ _ k _ ib W _ _
  go_enter Tryz.func222, Tryz.ntmps222
  go_wp2
  go_ret
  exact ⟨rfl, Below.refl _ _⟩

theorem first_is (c : Bool) (dt : List Int) : vals (gatherAt c [(dt.length : Int)] dt (fun _ _ => 0) []) 1 = [if dt = [] then fillOf c else dt.getD 0 0] := by
  unfold vals
  simp only [List.range_one, List.map_cons, List.map_nil]
  congr 1
  unfold gatherAt
  cases dt with
  | nil => simp [insideN, meant]
  | cons x r =>
    rw [show (if x :: r = [] then fillOf c else (x :: r).getD 0 0) = x by simp]
    have h1 : insideN [((x :: r).length : Int)] (meant [((x :: r).length : Int)] (fun _ _ => 0) (digits [] (0 : Nat))) [((x :: r).length : Int)].length = true := by
      refine inside_of (sh := [((x :: r).length : Int)]) ?_ _ (Nat.le_refl _)
      intro i hi
      have : i = 0 := by simpa using hi
      subst this
      simp [meant]
    rw [if_pos h1]
    simp [meant, place, placeN]

set_option maxRecDepth 20000 in
set_option maxHeartbeats 8000000 in
theorem mon_firstElement (op : Int) (c : Bool) (a1 a2 : Addr) (n1 n2 c1 c2 : Nat) (sh dt : List Int) (w : World) (h1 : Row w (some a1) n1 sh) (h2 : Row w (some a2) n2 dt) (hn2 : n2 ≤ 10000) :
    Calls Tryz.prog 143 #[.int .i64 op, .agg #[.bool c, .slice (some a1) n1 c1, .slice (some a2) n2 c2]] w (GivesOwn w (⟨c, [], [if dt = [] then fillOf c else dt.getD 0 0], 0⟩)) := by
  have hl1 := hide h1.len
  have hl2 := hide h2.len
  have hs1 := h1.small
  have hs2 := h2.small
  have H1 := hide h1
  have H2 := hide h2
  clear h1 h2
  obtain ⟨W0, hW0⟩ : ∃ W0, W0 = (w.alloc (.cells #[.bool c, .slice (some a1) n1 c1, .slice (some a2) n2 c2] 25)).alloc (.cells #[.bool false, .slice none 0 0, .slice none 0 0] 25) := ⟨_, rfl⟩
  obtain ⟨B4, B5, hB0⟩ := boxes2 (w := w) (c := c) (v1 := .slice (some a1) n1 c1) (v2 := .slice (some a2) n2 c2) (Below.refl _ _)
  rw [← hW0] at B4 B5 hB0
  have E4 := hide B4
  have E6 := hide B5
  have HB := hide hB0
  obtain ⟨x0, x1, x2, x3, x4, x5, x6⟩ := B4.all
  have hz6 := (unhide E6).lt
  have K1 := hide ((unhide H1).below (Nat.le_refl _) hB0)
  have K2 := hide ((unhide H2).below (Nat.le_refl _) hB0)
  clear B4 B5 hB0
  have hfi := first_is c dt
  rw [unhide hl2] at hfi
  obtain ⟨v, hv⟩ : ∃ v, (if dt = [] then fillOf c else dt.getD 0 0) = v := ⟨_, rfl⟩
  rw [hv] at hfi ⊢
  clear hv
  have hln := lineOf_any c (.slice (some a1) n1 c1) (some a2) n2 c2 W0
  rw [hW0] at hln x0 x1 x2 x3 x4 x5 x6
  go_enter Tryz.func143, Tryz.ntmps143
  go_wp2_with (first
    | (go_at_call 170; refine hln.mono ?_; rintro e w4 ⟨s, rfl, hs0, hbs, hb4⟩; rw [← hW0] at hs0 hb4; have R1 := hide hbs; have HK4 := hide hb4; clear hbs hb4)
    | (go_at_call 59; refine (gathered_any c (some ⟨s, 0, none⟩) (some a2) none 1 n2 1 c2 0 0 [(n2 : Int)] dt [] 222 #[] eg_first (fun _ _ => 0) _ 1 ((unhide R1).row rfl (by omega)) ((unhide K2).below (Nat.le_refl _) (unhide HK4)) (row_nil _ _) (shapeIn_line (by omega) (by omega)) ⟨rfl, 1, rfl⟩ (by omega) rfl (by simp [prodAll]) (first_num _)).mono ?_; rintro e w5 ⟨gd, rfl, hgd, hBG, hb5⟩; have R2 := hide hBG; have HK5 := hide ((unhide HK4).trans (hb5.mono (unhide HK4).size)); have hz4 := (unhide HK4).size; have HX := hide ((unhide E6).below (Nat.le_refl _) (unhide HK5)); have HBX := hide ((unhide HB).trans ((unhide HK5).mono (unhide HB).size)); obtain ⟨q0, q1, q2, q3, q4, q5, q6⟩ := (unhide HX).all; clear hBG hb5))
  rw [hfi] at R2
  have hz0 := (unhide HB).size
  have hx := (unhide HX).sets (c' := c) (u1 := .slice none 0 0) (u2 := .slice (some ⟨gd, 0, none⟩) 1 1)
  obtain ⟨s0, s1, s2, _, _, _⟩ := hx.all
  refine bodyPost_ret (v := .tuple #[.agg #[.bool c, .slice none 0 0, .slice (some ⟨gd, 0, none⟩) 1 1], .int .i64 0]) (by simp [results, Tryz.results143, go_sem, s0, s1, s2]) rfl ?_
  exact own_end (unhide HX) (own_none _ _ _) ((unhide R2).own (n := 1) rfl (by omega) (by omega)) (fun k k1 => absurd rfl k1.1) (unhide HBX) (by omega)

set_option maxRecDepth 20000 in
set_option maxHeartbeats 8000000 in
theorem mon_tally (op : Int) (c : Bool) (a1 a2 : Addr) (n1 n2 c1 c2 : Nat) (sh dt : List Int) (w : World) (h1 : Row w (some a1) n1 sh) (h2 : Row w (some a2) n2 dt) (hc1 : n1 ≤ c1) (hok : arrOk c sh dt = true) :
    Calls Tryz.prog 145 #[.int .i64 op, .agg #[.bool c, .slice (some a1) n1 c1, .slice (some a2) n2 c2]] w (GivesOwn w (⟨false, [], [if sh = [] then 1 else sh.getD 0 0], 0⟩)) := by
  have hl1 := hide h1.len
  have hl2 := hide h2.len
  have hs1 := h1.small
  have hs2 := h2.small
  have H1 := hide h1
  have H2 := hide h2
  clear h1 h2
  obtain ⟨W0, hW0⟩ : ∃ W0, W0 = (w.alloc (.cells #[.bool c, .slice (some a1) n1 c1, .slice (some a2) n2 c2] 25)).alloc (.cells #[.bool false, .slice none 0 0, .slice none 0 0] 25) := ⟨_, rfl⟩
  obtain ⟨B4, B5, hB0⟩ := boxes2 (w := w) (c := c) (v1 := .slice (some a1) n1 c1) (v2 := .slice (some a2) n2 c2) (Below.refl _ _)
  rw [← hW0] at B4 B5 hB0
  have E4 := hide B4
  have E6 := hide B5
  have HB := hide hB0
  obtain ⟨x0, x1, x2, x3, x4, x5, x6⟩ := B4.all
  have hz6 := (unhide E6).lt
  have K1 := hide ((unhide H1).below (Nat.le_refl _) hB0)
  have K2 := hide ((unhide H2).below (Nat.le_refl _) hB0)
  clear B4 B5 hB0
  obtain ⟨N, hN, hNv⟩ : ∃ N : Nat, ((sh ≠ [] → axisN sh true = N) ∧ (sh = [] → N = 1)) ∧ (if sh = [] then 1 else sh.getD 0 0) = (N : Int) := by
    by_cases hs : sh = []
    · exact ⟨1, ⟨fun h => absurd hs h, fun _ => rfl⟩, by rw [if_pos hs]; rfl⟩
    · obtain ⟨B, L, A, hx, _, _, _, _⟩ := axis_is true hok hs
      refine ⟨L, ⟨fun _ => hx.l, fun h => absurd h hs⟩, ?_⟩
      rw [if_neg hs, ← hx.l]
      rfl
  have hal := axisOf_len true a1 n1 c1 N sh c dt W0 (unhide K1) hc1 hok hN.1 hN.2
  rw [hNv]
  clear hN hNv
  have hfl := fun B A v (wx : World) => field_len B (N : Int) A v wx
  rw [hW0] at hal x0 x1 x2 x3 x4 x5 x6
  go_enter Tryz.func145, Tryz.ntmps145
  go_wp2_with (go_at_call 112; refine hal.mono ?_; rintro e w4 ⟨B, A, oa, ol, oc, rfl, hb4⟩; rw [← hW0] at hb4; have hfl4 := hfl B A (.slice oa ol oc) w4; have HX := hide ((unhide E6).below (Nat.le_refl _) hb4); have HBX := hide ((unhide HB).trans (hb4.mono (unhide HB).size)); obtain ⟨q0, q1, q2, q3, q4, q5, q6⟩ := (unhide HX).all; clear hb4)
  have hbz := (unhide HBX).size
  have hx := (unhide HX).sets (c' := false) (u1 := .slice none 0 0) (u2 := .slice (some ⟨w4.heap.size, 0, none⟩) 1 1)
  obtain ⟨s0, s1, s2, _, _, _⟩ := (hx.alloc (.cells #[.int .i64 (N : Nat)] 3)).all
  have hrv : Blk ((((w4.setCell ⟨w.heap.size + 1, 0, none⟩ (.bool false)).setCell ⟨w.heap.size + 1, 1, none⟩ (.slice none 0 0)).setCell ⟨w.heap.size + 1, 2, none⟩ (.slice (some ⟨w4.heap.size, 0, none⟩) 1 1)).alloc (.cells #[.int .i64 (N : Nat)] 3)) w4.heap.size [(N : Int)] := by have h9 := World.alloc_heap_new (((w4.setCell ⟨w.heap.size + 1, 0, none⟩ (.bool false)).setCell ⟨w.heap.size + 1, 1, none⟩ (.slice none 0 0)).setCell ⟨w.heap.size + 1, 2, none⟩ (.slice (some ⟨w4.heap.size, 0, none⟩) 1 1)) (.cells #[.int .i64 (N : Nat)] 3); simpa [Blk] using h9
  refine bodyPost_ret (v := .tuple #[.agg #[.bool false, .slice none 0 0, .slice (some ⟨w4.heap.size, 0, none⟩) 1 1], .int .i64 0]) (by simp [results, Tryz.results145, go_sem, s0, s1, s2]) rfl ?_
  exact ⟨_, _, _, _, _, _, rfl, own_none _ _ _, hrv.own rfl (by omega) (by omega), fun k k1 => absurd rfl k1.1, Below.alloc ((((unhide HBX).setCell (by simp <;> omega) _).setCell (by simp <;> omega) _).setCell (by simp <;> omega) _) (by simp; omega) _⟩

end Go.Proofs.YtgjpchnkodnieaaGreatDoor
