import Derived.Test.YtlnangnimbgpoaaImplSoughtW
import Derived.Test.YtlnangnimbgpoaaImplOkW
import Derived.Test.YtlnangnimbgpoaaMEnd
import Derived.Test.YtlnangnimbgpoaaMStage
import Derived.Deep.DeepCutAuto
namespace Go.Proofs.Ytlnangnimbgpoaa
open Go.RowKit Go.Shelf

theorem eg_find : ∀ args w, (callFunc 60 args).run Try.prog w = .ok (.enter 60 args) w := enters_of Try.func60 (by kernel_rfl) rfl

def findF (c d : Bool) (dt dt' : List Int) (n : Nat) (k : Nat) : Int := if placeAmong d c dt (dt'.getD k 0) = 0 then (n : Int) + 1 else placeAmong d c dt (dt'.getD k 0)

theorem findClo (q : Int) (pa : Nat) (a2 : Option Addr) (n2 c2 : Nat) (W : World) (hc : W.cell? ⟨pa, 2, none⟩ = some (.slice a2 n2 c2)) (hn : n2 ≤ 10000) : Calls Try.prog 60 #[.int .i64 q, .pointer (some ⟨pa, 0, none⟩)] W fun e w' => e = .returned (.int .i64 (if q = 0 then (n2 : Int) + 1 else q)) ∧ w' = W := by
  by_cases h : q = 0
  · subst h
    go_enter Try.func60, Try.ntmps60
    go_wp2
    go_ret
    exact ⟨rfl, rfl⟩
  · have hq : (q == 0) = false := by simp [h]
    go_enter Try.func60, Try.ntmps60
    go_wp2
    go_ret
    exact ⟨rfl, rfl⟩

set_option maxRecDepth 20000 in
set_option maxHeartbeats 4000000 in
theorem implFind_bad1 (c d : Bool) (a1 a2 b1 b2 : Addr) (n1 n2 m1 m2 c1 c2 d1 d2 : Nat) (sh dt : List Int) (w : World) (h1 : Row w (some a1) n1 sh) (h2 : Row w (some a2) n2 dt) (hok : arrOk c sh dt = false) :
    Calls Try.prog 22 #[.agg #[.bool c, .slice (some a1) n1 c1, .slice (some a2) n2 c2], .agg #[.bool d, .slice (some b1) m1 d1, .slice (some b2) m2 d2]] w (GivesOwn w (noAns 3)) := by
  have HR := hide hok
  have H1 := hide h1
  have H2 := hide h2
  clear h1 h2 hok
  go_enter Try.func22, Try.ntmps22
  go_wp2_with (first | (go_at_call_of 34 (Value.slice (some a1) n1 c1); refine (implArrayOk_eq _ _ _ _ _ _ _ sh dt _ ((((unhide H1).alloc _).alloc _).alloc _) ((((unhide H2).alloc _).alloc _).alloc _) _ HR).mono ?_; rintro e w1 ⟨rfl, hb1⟩; obtain ⟨B0, B1, B2, hB1⟩ := boxes3 hb1; have HB0 := hide B0; have HB1 := hide B1; have HB2 := hide B2; have HB := hide hB1; obtain ⟨x0, x1, x2, x3, x4, x5, x6⟩ := B0.all; obtain ⟨y0, y1, y2, y3, y4, y5, y6⟩ := B1.all; obtain ⟨q0, q1, q2, q3, q4, q5, q6⟩ := B2.all; clear hb1 hB1 B0 B1 B2))
  refine bodyPost_ret (v := .tuple #[.agg #[.bool false, .slice none 0 0, .slice none 0 0], .int .i64 3]) (by simp [results, Try.results22, go_sem, q0, q1, q2]) rfl ?_
  exact gives_none ((((unhide HB).setCell (by simp <;> omega) _).setCell (by simp <;> omega) _).setCell (by simp <;> omega) _)

set_option maxRecDepth 20000 in
set_option maxHeartbeats 4000000 in
theorem implFind_bad2 (c d : Bool) (a1 a2 b1 b2 : Addr) (n1 n2 m1 m2 c1 c2 d1 d2 : Nat) (sh dt sh' dt' : List Int) (w : World) (h1 : Row w (some a1) n1 sh) (h2 : Row w (some a2) n2 dt) (k1 : Row w (some b1) m1 sh') (k2 : Row w (some b2) m2 dt') (hok : arrOk c sh dt = true) (hok' : arrOk d sh' dt' = false) :
    Calls Try.prog 22 #[.agg #[.bool c, .slice (some a1) n1 c1, .slice (some a2) n2 c2], .agg #[.bool d, .slice (some b1) m1 d1, .slice (some b2) m2 d2]] w (GivesOwn w (noAns 3)) := by
  have HR := hide hok
  have HR' := hide hok'
  have hs2 := h2.small
  have hs4 := k2.small
  have H1 := hide h1
  have H2 := hide h2
  have K1 := hide k1
  have K2 := hide k2
  clear h1 h2 k1 k2 hok hok'
  go_enter Try.func22, Try.ntmps22
  go_wp2_with (first | (go_at_call_of 34 (Value.slice (some a1) n1 c1); refine (implArrayOk_eq _ _ _ _ _ _ _ sh dt _ ((((unhide H1).alloc _).alloc _).alloc _) ((((unhide H2).alloc _).alloc _).alloc _) _ HR).mono ?_; rintro e w1 ⟨rfl, hb1⟩; obtain ⟨B0, B1, B2, hB1⟩ := boxes3 hb1; have HB0 := hide B0; have HB1 := hide B1; have HB2 := hide B2; have HB := hide hB1; obtain ⟨x0, x1, x2, x3, x4, x5, x6⟩ := B0.all; obtain ⟨y0, y1, y2, y3, y4, y5, y6⟩ := B1.all; obtain ⟨q0, q1, q2, q3, q4, q5, q6⟩ := B2.all; clear hb1 hB1 B0 B1 B2) | (go_at_call_of 34 (Value.slice (some b1) m1 d1); refine (implArrayOk_eq _ _ _ _ _ _ _ sh' dt' _ ((unhide K1).below (Nat.le_refl _) (unhide HB)) ((unhide K2).below (Nat.le_refl _) (unhide HB)) _ HR').mono ?_; rintro e w2 ⟨rfl, hb2⟩; have HB0' := hide ((unhide HB0).below (Nat.le_refl _) hb2); have HB1' := hide ((unhide HB1).below (Nat.le_refl _) hb2); have HB2' := hide ((unhide HB2).below (Nat.le_refl _) hb2); have HC := hide ((unhide HB).trans (hb2.mono (by omega))); clear hb2 x0 x1 x2 x3 x4 x5 x6 y0 y1 y2 y3 y4 y5 y6 q0 q1 q2 q3 q4 q5 q6 HB0 HB1 HB2 HB; obtain ⟨x0, x1, x2, x3, x4, x5, x6⟩ := (unhide HB0').all; obtain ⟨y0, y1, y2, y3, y4, y5, y6⟩ := (unhide HB1').all; obtain ⟨q0, q1, q2, q3, q4, q5, q6⟩ := (unhide HB2').all))
  refine bodyPost_ret (v := .tuple #[.agg #[.bool false, .slice none 0 0, .slice none 0 0], .int .i64 3]) (by simp [results, Try.results22, go_sem, q0, q1, q2]) rfl ?_
  exact gives_none ((((unhide HC).setCell (by simp <;> omega) _).setCell (by simp <;> omega) _).setCell (by simp <;> omega) _)

set_option maxRecDepth 20000 in
set_option maxHeartbeats 4000000 in
theorem implFind_rank (c d : Bool) (a1 a2 b1 b2 : Addr) (n1 n2 m1 m2 c1 c2 d1 d2 : Nat) (sh dt sh' dt' : List Int) (w : World) (h1 : Row w (some a1) n1 sh) (h2 : Row w (some a2) n2 dt) (k1 : Row w (some b1) m1 sh') (k2 : Row w (some b2) m2 dt') (hok : arrOk c sh dt = true) (hok' : arrOk d sh' dt' = true) (hne : n1 ≠ 1) :
    Calls Try.prog 22 #[.agg #[.bool c, .slice (some a1) n1 c1, .slice (some a2) n2 c2], .agg #[.bool d, .slice (some b1) m1 d1, .slice (some b2) m2 d2]] w (GivesOwn w (noAns 4)) := by
  have HR := hide hok
  have HR' := hide hok'
  have hs2 := h2.small
  have hs4 := k2.small
  have H1 := hide h1
  have H2 := hide h2
  have K1 := hide k1
  have K2 := hide k2
  clear h1 h2 k1 k2 hok hok'
  have q : ((n1 : Int) != 1) = true := by simp; omega
  go_enter Try.func22, Try.ntmps22
  go_wp2_with (first | (go_at_call_of 34 (Value.slice (some a1) n1 c1); refine (implArrayOk_eq _ _ _ _ _ _ _ sh dt _ ((((unhide H1).alloc _).alloc _).alloc _) ((((unhide H2).alloc _).alloc _).alloc _) _ HR).mono ?_; rintro e w1 ⟨rfl, hb1⟩; obtain ⟨B0, B1, B2, hB1⟩ := boxes3 hb1; have HB0 := hide B0; have HB1 := hide B1; have HB2 := hide B2; have HB := hide hB1; obtain ⟨x0, x1, x2, x3, x4, x5, x6⟩ := B0.all; obtain ⟨y0, y1, y2, y3, y4, y5, y6⟩ := B1.all; obtain ⟨q0, q1, q2, q3, q4, q5, q6⟩ := B2.all; clear hb1 hB1 B0 B1 B2) | (go_at_call_of 34 (Value.slice (some b1) m1 d1); refine (implArrayOk_eq _ _ _ _ _ _ _ sh' dt' _ ((unhide K1).below (Nat.le_refl _) (unhide HB)) ((unhide K2).below (Nat.le_refl _) (unhide HB)) _ HR').mono ?_; rintro e w2 ⟨rfl, hb2⟩; have HB0' := hide ((unhide HB0).below (Nat.le_refl _) hb2); have HB1' := hide ((unhide HB1).below (Nat.le_refl _) hb2); have HB2' := hide ((unhide HB2).below (Nat.le_refl _) hb2); have HC := hide ((unhide HB).trans (hb2.mono (by omega))); clear hb2 x0 x1 x2 x3 x4 x5 x6 y0 y1 y2 y3 y4 y5 y6 q0 q1 q2 q3 q4 q5 q6 HB0 HB1 HB2 HB; obtain ⟨x0, x1, x2, x3, x4, x5, x6⟩ := (unhide HB0').all; obtain ⟨y0, y1, y2, y3, y4, y5, y6⟩ := (unhide HB1').all; obtain ⟨q0, q1, q2, q3, q4, q5, q6⟩ := (unhide HB2').all))
  refine bodyPost_ret (v := .tuple #[.agg #[.bool false, .slice none 0 0, .slice none 0 0], .int .i64 4]) (by simp [results, Try.results22, go_sem, q0, q1, q2]) rfl ?_
  exact gives_none ((((unhide HC).setCell (by simp <;> omega) _).setCell (by simp <;> omega) _).setCell (by simp <;> omega) _)

set_option maxRecDepth 20000 in
set_option maxHeartbeats 4000000 in
theorem implFind_good (c d : Bool) (a1 a2 b1 b2 : Addr) (n2 m1 m2 c1 c2 d1 d2 : Nat) (sh dt sh' dt' : List Int) (w : World) (h1 : Row w (some a1) 1 sh) (h2 : Row w (some a2) n2 dt) (k1 : Row w (some b1) m1 sh') (k2 : Row w (some b2) m2 dt') (hok : arrOk c sh dt = true) (hok' : arrOk d sh' dt' = true) (hn2 : n2 ≤ 10000) (hm2 : m2 ≤ 10000) :
    Calls Try.prog 22 #[.agg #[.bool c, .slice (some a1) 1 c1, .slice (some a2) n2 c2], .agg #[.bool d, .slice (some b1) m1 d1, .slice (some b2) m2 d2]] w (GivesOwn w ⟨false, sh', (List.range m2).map (findF c d dt dt' n2), 0⟩) := by
  have HR := hide hok
  have HR' := hide hok'
  have HDT : Hid (∀ k, k < dt.length → -1000000000000000 ≤ dt.getD k 0 ∧ dt.getD k 0 ≤ 1000000000000000) := fun k hk => dataOk_bd hok hk
  have HDT' : Hid (∀ k, k < dt'.length → -1000000000000000 ≤ dt'.getD k 0 ∧ dt'.getD k 0 ≤ 1000000000000000) := fun k hk => dataOk_bd hok' hk
  have hs2 := h2.small
  have hs4 := k2.small
  have H1 := hide h1
  have H2 := hide h2
  have K1 := hide k1
  have K2 := hide k2
  clear h1 h2 k1 k2 hok hok'
  go_enter Try.func22, Try.ntmps22
  go_wp2_with (first | (go_at_call_of 34 (Value.slice (some a1) 1 c1); refine (implArrayOk_eq _ _ _ _ _ _ _ sh dt _ ((((unhide H1).alloc _).alloc _).alloc _) ((((unhide H2).alloc _).alloc _).alloc _) _ HR).mono ?_; rintro e w1 ⟨rfl, hb1⟩; obtain ⟨B0, B1, B2, hB1⟩ := boxes3 hb1; have HB0 := hide B0; have HB1 := hide B1; have HB2 := hide B2; have HB := hide hB1; obtain ⟨x0, x1, x2, x3, x4, x5, x6⟩ := B0.all; obtain ⟨y0, y1, y2, y3, y4, y5, y6⟩ := B1.all; obtain ⟨q0, q1, q2, q3, q4, q5, q6⟩ := B2.all; clear hb1 hB1 B0 B1 B2) | (go_at_call_of 34 (Value.slice (some b1) m1 d1); refine (implArrayOk_eq _ _ _ _ _ _ _ sh' dt' _ ((unhide K1).below (Nat.le_refl _) (unhide HB)) ((unhide K2).below (Nat.le_refl _) (unhide HB)) _ HR').mono ?_; rintro e w2 ⟨rfl, hb2⟩; have HB0' := hide ((unhide HB0).below (Nat.le_refl _) hb2); have HB1' := hide ((unhide HB1).below (Nat.le_refl _) hb2); have HB2' := hide ((unhide HB2).below (Nat.le_refl _) hb2); have HC := hide ((unhide HB).trans (hb2.mono (by omega))); clear hb2 x0 x1 x2 x3 x4 x5 x6 y0 y1 y2 y3 y4 y5 y6 q0 q1 q2 q3 q4 q5 q6 HB0 HB1 HB2 HB; obtain ⟨x0, x1, x2, x3, x4, x5, x6⟩ := (unhide HB0').all; obtain ⟨y0, y1, y2, y3, y4, y5, y6⟩ := (unhide HB1').all; obtain ⟨q0, q1, q2, q3, q4, q5, q6⟩ := (unhide HB2').all) | (go_at_call 59; refine (sought_any d c b1 (some b2) (some a1) (some a2) m1 m2 1 n2 d1 d2 c1 c2 sh' dt' dt 60 #[.pointer (some ⟨w.heap.size, 0, none⟩)] eg_find (findF c d dt dt' n2) _ ((unhide K1).below (Nat.le_refl _) (unhide HC)) ((unhide K2).below (Nat.le_refl _) (unhide HC)) ((unhide H2).below (Nat.le_refl _) (unhide HC)) hm2 hn2 (unhide HDT') (unhide HDT) (fun k W hk hW => (findClo _ w.heap.size (some a2) n2 c2 W ((hW.cell (p := ⟨w.heap.size, 2, none⟩) x6).trans x2) hn2).mono (by rintro e w' ⟨rfl, rfl⟩; exact ⟨rfl, Below.refl _ _⟩))).mono ?_; rintro e w3 ⟨ash, csh, gd, rfl, hO, hgd, hBk, hag, hb3⟩; have HX := hide ((unhide HB2').below (Nat.le_refl _) hb3); have HD := hide ((unhide HC).trans (hb3.mono (by omega))); have HO := hide hO; have HBK := hide hBk; have HAG := hide hag; have hq6 := q6; clear hO hBk hag hb3 x0 x1 x2 x3 x4 x5 x6 y0 y1 y2 y3 y4 y5 y6 q0 q1 q2 q3 q4 q5 q6; obtain ⟨q0, q1, q2, q3, q4, q5, q6⟩ := (unhide HX).all))
  have hres := Res5.set (w := w) (W := w3) (d := false) (zs := sh') (ys := (List.range m2).map (findF c d dt dt' n2)) (n := m1) (N := m2) (box := w.heap.size + 2) (gd := gd) (csh := csh) (ash := ash) (unhide HX) ((unhide HO).mono (by omega)) (by omega) (unhide HBK) (unhide HAG) (unhide HD) (fun h => by have := (unhide HO).low h; omega) (by omega) (by omega)
  obtain ⟨ash', csh', gd', hbx, hO', hgd', hB', hne', hbl'⟩ := hres
  obtain ⟨r0, r1, r2, r3, r4, r5, r6⟩ := hbx.all
  refine bodyPost_ret (v := .tuple #[.agg #[.bool false, .slice ash' m1 csh', .slice (some ⟨gd', 0, none⟩) m2 m2], .int .i64 0]) (by simp [results, Try.results22, go_sem, r0, r1, r2]) rfl ?_
  exact gives_res (by simp) (by omega) hO' hgd' hB' hne' hbl'

end Go.Proofs.Ytlnangnimbgpoaa
