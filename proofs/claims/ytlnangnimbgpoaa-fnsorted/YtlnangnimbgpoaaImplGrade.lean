import Derived.Test.YtlnangnimbgpoaaImplGradeC
import Derived.Test.YtlnangnimbgpoaaImplOkW
import Derived.Test.YtlnangnimbgpoaaMEnd
import Derived.Test.YtlnangnimbgpoaaMStage
namespace Go.Proofs.Ytlnangnimbgpoaa
open Go.RowKit

/-- Block p holds one bool. -/
def BoolAt (w : World) (p : Nat) (b : Bool) : Prop := w.heap[p]? = some (.cells #[.bool b] 4 (0, 0))
theorem BoolAt.lt {w : World} {p : Nat} {b : Bool} (h : BoolAt w p b) : p < w.heap.size := lt_of_block h
theorem BoolAt.new (w : World) (b : Bool) : BoolAt (w.alloc (.cells #[.bool b] 4)) w.heap.size b := by
  show (w.heap.push _)[w.heap.size]? = _
  simp
theorem BoolAt.alloc {w : World} {p : Nat} {b : Bool} (h : BoolAt w p b) (o : Obj) : BoolAt (w.alloc o) p b := (Below.heap_alloc w o p h.lt).trans h
theorem BoolAt.below {w w' : World} {p B : Nat} {b : Bool} (h : BoolAt w p b) (hB : w.heap.size ≤ B) (hb : Below B w w') : BoolAt w' p b := (hb.block p (Nat.lt_of_lt_of_le h.lt hB)).trans h
theorem BoolAt.but {S : Nat → Prop} {w w' : World} {p : Nat} {b : Bool} (h : BoolAt w p b) (hb : But S w w') (hn : ¬ S p) : BoolAt w' p b := (hb.block p h.lt hn).trans h
theorem BoolAt.cell {w : World} {p : Nat} {b : Bool} (h : BoolAt w p b) : w.cell? ⟨p, 0, none⟩ = some (.bool b) := by
  unfold BoolAt at h
  simp [World.cell?, h]

theorem boxesG {w w1 : World} {c fl : Bool} {v1 v2 : Value} (hb : Below (((w.alloc (.cells #[.bool c, v1, v2] 26)).alloc (.cells #[.bool fl] 4)).alloc (.cells #[.bool false, .slice none 0 0, .slice none 0 0] 26)).heap.size (((w.alloc (.cells #[.bool c, v1, v2] 26)).alloc (.cells #[.bool fl] 4)).alloc (.cells #[.bool false, .slice none 0 0, .slice none 0 0] 26)) w1) :
    Box w1 w.heap.size c v1 v2 ∧ BoolAt w1 (w.heap.size + 1) fl ∧ Box w1 (w.heap.size + 2) false (.slice none 0 0) (.slice none 0 0) ∧ Below w.heap.size w w1 := by
  have e1 : (w.alloc (.cells #[.bool c, v1, v2] 26)).heap.size = w.heap.size + 1 := by simp
  have e2 : ((w.alloc (.cells #[.bool c, v1, v2] 26)).alloc (.cells #[.bool fl] 4)).heap.size = w.heap.size + 2 := by simp
  refine ⟨(((Box.new w c v1 v2).alloc _).alloc _).below (Nat.le_refl _) hb, ?_, ?_, ((((Below.refl _ _).alloc (Nat.le_refl _) _).alloc (by simp) _).alloc (by simp <;> omega) _).trans (hb.mono (by simp; omega))⟩
  · have := ((BoolAt.new (w.alloc (.cells #[.bool c, v1, v2] 26)) fl).alloc _).below (Nat.le_refl _) hb
    rwa [e1] at this
  · have := (Box.new ((w.alloc (.cells #[.bool c, v1, v2] 26)).alloc (.cells #[.bool fl] 4)) false (.slice none 0 0) (.slice none 0 0)).below (Nat.le_refl _) hb
    rwa [e2] at this

set_option maxRecDepth 20000 in
set_option maxHeartbeats 4000000 in
theorem implGrade_bad (c fl : Bool) (a1 a2 : Option Addr) (n1 n2 c1 c2 : Nat) (sh dt : List Int) (w : World) (h1 : Row w a1 n1 sh) (h2 : Row w a2 n2 dt) (hok : arrOk c sh dt = false) :
    Calls Try.prog 12 #[.agg #[.bool c, .slice a1 n1 c1, .slice a2 n2 c2], .bool fl] w (GivesCap w (noAns 3)) := by
  have HR := hide hok
  have H1 := hide h1
  have H2 := hide h2
  clear h1 h2 hok
  go_enter Try.func12, Try.ntmps12
  go_wp2_with (first | (go_at_call 34; refine (implArrayOk_eq _ _ _ _ _ _ _ sh dt _ ((((unhide H1).alloc _).alloc _).alloc _) ((((unhide H2).alloc _).alloc _).alloc _) _ HR).mono ?_; rintro e w1 ⟨rfl, hb1⟩; obtain ⟨B0, B1, B2, hB1⟩ := boxesG hb1; have HB := hide hB1; obtain ⟨q0, q1, q2, q3, q4, q5, q6⟩ := B2.all; clear hb1 hB1 B0 B1 B2))
  refine bodyPost_ret (v := .tuple #[.agg #[.bool false, .slice none 0 0, .slice none 0 0], .int .i64 3]) (by simp [results, Try.results12, go_sem, q0, q1, q2]) rfl ?_
  exact cap_none (by decide) ((((unhide HB).setCell (by simp <;> omega) _).setCell (by simp <;> omega) _).setCell (by simp <;> omega) _)

set_option maxRecDepth 20000 in
set_option maxHeartbeats 4000000 in
theorem implGrade_rank (c fl : Bool) (a1 a2 : Option Addr) (n1 n2 c1 c2 : Nat) (sh dt : List Int) (w : World) (h1 : Row w a1 n1 sh) (h2 : Row w a2 n2 dt) (hok : arrOk c sh dt = true) (hne : n1 ≠ 1) :
    Calls Try.prog 12 #[.agg #[.bool c, .slice a1 n1 c1, .slice a2 n2 c2], .bool fl] w (GivesCap w (noAns 4)) := by
  have HR := hide hok
  have H1 := hide h1
  have H2 := hide h2
  clear h1 h2 hok
  have q : ((n1 : Int) != 1) = true := by simp; omega
  go_enter Try.func12, Try.ntmps12
  go_wp2_with (first | (go_at_call 34; refine (implArrayOk_eq _ _ _ _ _ _ _ sh dt _ ((((unhide H1).alloc _).alloc _).alloc _) ((((unhide H2).alloc _).alloc _).alloc _) _ HR).mono ?_; rintro e w1 ⟨rfl, hb1⟩; obtain ⟨B0, B1, B2, hB1⟩ := boxesG hb1; have HB := hide hB1; obtain ⟨q0, q1, q2, q3, q4, q5, q6⟩ := B2.all; obtain ⟨x0, x1, x2, x3, x4, x5, x6⟩ := B0.all; clear hb1 hB1 B0 B1 B2))
  refine bodyPost_ret (v := .tuple #[.agg #[.bool false, .slice none 0 0, .slice none 0 0], .int .i64 4]) (by simp [results, Try.results12, go_sem, q0, q1, q2]) rfl ?_
  exact cap_none (by decide) ((((unhide HB).setCell (by simp <;> omega) _).setCell (by simp <;> omega) _).setCell (by simp <;> omega) _)

set_option maxRecDepth 20000 in
set_option maxHeartbeats 4000000 in
theorem implGrade_good (c fl : Bool) (a1 a2 : Option Addr) (n2 c1 c2 : Nat) (sh dt : List Int) (w : World) (h1 : Row w a1 1 sh) (h2 : Row w a2 n2 dt) (hok : arrOk c sh dt = true) (hn2 : n2 ≤ 10000) :
    Calls Try.prog 12 #[.agg #[.bool c, .slice a1 1 c1, .slice a2 n2 c2], .bool fl] w (GivesCap w (gradeA c sh dt fl)) := by
  have HR := hide hok
  have H1 := hide h1
  have H2 := hide h2
  have HLN := hide h2.len
  have HSH := hide (line_shape hok h1.len)
  have HL1 := hide h1.len
  clear h1 h2 hok
  go_enter Try.func12, Try.ntmps12
  go_wp2_with (first | (go_at_call 34; refine (implArrayOk_eq _ _ _ _ _ _ _ sh dt _ ((((unhide H1).alloc _).alloc _).alloc _) ((((unhide H2).alloc _).alloc _).alloc _) _ HR).mono ?_; rintro e w1 ⟨rfl, hb1⟩; obtain ⟨B0, B1, B2, hB1⟩ := boxesG hb1; have HB := hide hB1; have HB0 := hide B0; have HB1 := hide B1; have HB2 := hide B2; obtain ⟨x0, x1, x2, x3, x4, x5, x6⟩ := B0.all; clear hb1 hB1 B0 B1 B2) | (go_at_call 35; refine (numbersUpTo_any n2 hn2 _).mono ?_; rintro e w2 ⟨s, g, rfl, hs, hg, hsg, hBs, hBg, hb2⟩; have HC := hide ((unhide HB).trans (hb2.mono (unhide HB).size)); have HC0 := hide ((unhide HB0).below (Nat.le_refl _) hb2); have HC1 := hide ((unhide HB1).below (Nat.le_refl _) hb2); have HC2 := hide ((unhide HB2).below (Nat.le_refl _) hb2); have HBS := hide hBs; have HBG := hide hBg; have k1 := (unhide HB2).lt; have hws := hb2.size; clear x0 x1 x2 x3 x4 x5 x6 hb2 hBs hBg HB HB0 HB1 HB2))
  have hzs := (unhide HC).size
  have HW := hide hws
  have nP : w.heap.size + 2 < w2.heap.size := by have := (unhide HC2).lt; omega
  have HROW : Hid (Row (w2.alloc (.cells #[.bool false, .slice (some ⟨s, 0, none⟩) 1 1, .slice (some ⟨g, 0, none⟩) n2 n2] 26)) a2 n2 dt) := ((unhide H2).below (Nat.le_refl _) (unhide HC)).alloc _
  have hgw : w.heap.size + 2 < g := by omega
  have hsw : w.heap.size + 2 < s := by omega
  have hgl := (unhide HBG).lt
  have hsl := (unhide HBS).lt
  refine (sortStable_any 37 #[.pointer (some ⟨w.heap.size + 1, 0, none⟩), .pointer (some ⟨w.heap.size, 0, none⟩)] eg_grade (gradeC fl dt) (gradeK fl dt) (grade_key fl dt) (fun p => 1 ≤ p ∧ p ≤ n2) g n2 n2 (fun i => (i : Int) + 1) _ (by exact (unhide HBG).alloc _) ?_ (fun i hi => by constructor <;> omega) (by omega) (fun i j h1 h2 => by show (i : Int) + 1 < (j : Int) + 1; omega)).mono ?_
  · intro p q hp hq wx hwx
    have hap : ∀ k, k = g → ¬ At a2 n2 k := fun k hk hA => by
      have := (unhide H2).hi hA
      omega
    exact gradeClo fl (w.heap.size + 1) w.heap.size c (.slice a1 1 c1) a2 n2 c2 dt wx (((unhide HC1).alloc _).but hwx (by omega)).cell (((unhide HC0).alloc _).but hwx (by omega)) (hwx.row (unhide HROW) hap) p q hp hq hn2
  · rintro e w3 ⟨⟨rv, rfl⟩, E, hM, hT⟩
    have HT := hide hT
    have HGR : Hid (gradeA c sh dt fl = ⟨false, sh, tab n2 E, 0⟩) := by
      have := unhide HLN
      subst this
      exact grade_go (unhide HR) (unhide HL1) (merged_grade hM)
    have HD0 := hide (((unhide HC2).alloc (.cells #[.bool false, .slice (some ⟨s, 0, none⟩) 1 1, .slice (some ⟨g, 0, none⟩) n2 n2] 26)).but hT.but (by omega))
    have HD1 := hide ((Box.new w2 false (.slice (some ⟨s, 0, none⟩) 1 1) (.slice (some ⟨g, 0, none⟩) n2 n2)).but hT.but (by omega))
    have HBS3 : Hid (Blk w3 s sh) := by
      rw [unhide HSH, unhide HLN]
      exact ((hT.but.block s (by simp; omega) (by omega)).trans ((unhide HBS).alloc _))
    have HBL : Hid (Below w.heap.size w w3) := ((unhide HC).alloc hzs _).trans (hT.but.below (by simp; omega) (by rintro x rfl; omega))
    obtain ⟨q0, q1, q2, q3, q4, q5, q6⟩ := (unhide HD0).all
    obtain ⟨y0, y1, y2, y3, y4, y5, y6⟩ := (unhide HD1).all
    clear hT hM
    go_wp2_with fail
    have hx := (unhide HD0).sets (c' := false) (u1 := .slice (some ⟨s, 0, none⟩) 1 1) (u2 := .slice (some ⟨g, 0, none⟩) n2 n2)
    obtain ⟨r0, r1, r2, _, _, _⟩ := hx.all
    refine bodyPost_ret (v := .tuple #[.agg #[.bool false, .slice (some ⟨s, 0, none⟩) 1 1, .slice (some ⟨g, 0, none⟩) n2 n2], .int .i64 0]) (by simp [results, Try.results12, go_sem, r0, r1, r2]) rfl ?_
    rw [unhide HGR]
    have n1 : s ≠ w.heap.size + 2 := by omega
    have n2' : g ≠ w.heap.size + 2 := by omega
    refine cap_res (tab_len _ _) (by omega) (Blk.own ?_ (unhide HL1) (by omega) (by omega)) (by omega) ?_ (fun h => hsg (at_eq h)) ?_ (Nat.le_refl _)
    · exact (((unhide HBS3).other (p := ⟨w.heap.size + 2, 0, none⟩) n1 _).other (p := ⟨w.heap.size + 2, 1, none⟩) n1 _).other (p := ⟨w.heap.size + 2, 2, none⟩) n1 _
    · exact (((unhide HT).blk.other (p := ⟨w.heap.size + 2, 0, none⟩) n2' _).other (p := ⟨w.heap.size + 2, 1, none⟩) n2' _).other (p := ⟨w.heap.size + 2, 2, none⟩) n2' _
    · exact (((unhide HBL).setCell (by simp <;> omega) _).setCell (by simp <;> omega) _).setCell (by simp <;> omega) _

theorem implGrade_any (c fl : Bool) (a1 a2 : Option Addr) (n1 n2 c1 c2 : Nat) (sh dt : List Int) (w : World) (h1 : Row w a1 n1 sh) (h2 : Row w a2 n2 dt) :
    Calls Try.prog 12 #[.agg #[.bool c, .slice a1 n1 c1, .slice a2 n2 c2], .bool fl] w (GivesCap w (gradeA c sh dt fl)) := by
  cases hok : arrOk c sh dt with
  | false => rw [grade_bad hok]; exact implGrade_bad c fl a1 a2 n1 n2 c1 c2 sh dt w h1 h2 hok
  | true =>
    by_cases hn : n1 = 1
    · subst hn
      refine implGrade_good c fl a1 a2 n2 c1 c2 sh dt w h1 h2 hok ?_
      have e := arr_parts hok
      have e1 := prodAll_bd sh e.1 sh.length
      rw [List.take_length, prodAll_count sh e.1, e.2] at e1
      have := h2.len
      omega
    · rw [grade_rank hok (by rw [h1.len]; exact hn)]
      exact implGrade_rank c fl a1 a2 n1 n2 c1 c2 sh dt w h1 h2 hok hn

end Go.Proofs.Ytlnangnimbgpoaa
