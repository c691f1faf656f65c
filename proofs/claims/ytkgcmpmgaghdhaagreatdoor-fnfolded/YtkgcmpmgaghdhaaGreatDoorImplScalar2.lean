import Derived.Test.YtkgcmpmgaghdhaaGreatDoorImplS2Math
import Derived.Deep.RegionHeld
namespace Go.Proofs.YtkgcmpmgaghdhaaGreatDoor
open Go.RowKit Go.Shelf

theorem eql_op_nil (g : Nat) (lb : Array Value) (w : World) : (binOp .eql 62 (.func (.func g) #[] lb) .nilFunc).run Tryz.prog w = .ok (.bool false) w := by kernel_rfl
theorem eql_nil_op (w : World) : (binOp .eql 62 .nilFunc .nilFunc).run Tryz.prog w = .ok (.bool true) w := by kernel_rfl

set_option maxRecDepth 20000 in
set_option maxHeartbeats 4000000 in
theorem implScalar2_bad1 (op : Int) (c d : Bool) (a1 a2 b1 b2 : Option Addr) (n1 n2 m1 m2 c1 c2 d1 d2 : Nat) (w : World) (hop : opIn op = false) :
    Calls Tryz.prog 13 #[.int .i64 op, .agg #[.bool c, .slice a1 n1 c1, .slice a2 n2 c2], .agg #[.bool d, .slice b1 m1 d1, .slice b2 m2 d2]] w (GivesOwn w (noAns 3)) := by
  have HOP := hide hop
  clear hop
  go_enter Tryz.func13, Tryz.ntmps13
  go_wp2_with (first | (go_at_call 48; refine (isScalarFn_any op _ _ HOP).mono ?_; rintro e w0 ⟨rfl, rfl⟩))
  refine bodyPost_ret (v := .tuple #[.agg #[.bool false, .slice none 0 0, .slice none 0 0], .int .i64 3]) (by simp [results, Tryz.results13, go_sem]) rfl ?_
  exact gives_none ((((Below.refl _ _).alloc (Nat.le_refl _) _).alloc (by simp) _).alloc (by simp; omega) _)

set_option maxRecDepth 20000 in
set_option maxHeartbeats 4000000 in
theorem implScalar2_bad2 (op : Int) (c d : Bool) (a1 a2 b1 b2 : Option Addr) (n1 n2 m1 m2 c1 c2 d1 d2 : Nat) (sh dt : List Int) (w : World) (h1 : Row w a1 n1 sh) (h2 : Row w a2 n2 dt) (hop : opIn op = true) (hok : arrOk c sh dt = false) :
    Calls Tryz.prog 13 #[.int .i64 op, .agg #[.bool c, .slice a1 n1 c1, .slice a2 n2 c2], .agg #[.bool d, .slice b1 m1 d1, .slice b2 m2 d2]] w (GivesOwn w (noAns 3)) := by
  have HR := hide hok
  have HOP := hide hop
  have hs1 := h1.small
  have hs2 := h2.small
  have H1 := hide h1
  have H2 := hide h2
  clear h1 h2 hok hop
  go_enter Tryz.func13, Tryz.ntmps13
  go_wp2_with (first | (go_at_call 48; refine (isScalarFn_any op _ _ HOP).mono ?_; rintro e w0 ⟨rfl, rfl⟩) | (go_at_call_of 43 (Value.slice a1 n1 c1); refine (implArrayOk_eq _ _ _ _ _ _ _ sh dt _ ((((unhide H1).alloc _).alloc _).alloc _) ((((unhide H2).alloc _).alloc _).alloc _) _ HR).mono ?_; rintro e w1 ⟨rfl, hb1⟩; obtain ⟨B0, B1, B2, hB1⟩ := boxes3 hb1; have HB0 := hide B0; have HB1 := hide B1; have HB2 := hide B2; have HB := hide hB1; obtain ⟨x0, x1, x2, x3, x4, x5, x6⟩ := B0.all; obtain ⟨y0, y1, y2, y3, y4, y5, y6⟩ := B1.all; obtain ⟨q0, q1, q2, q3, q4, q5, q6⟩ := B2.all; clear hb1 hB1 B0 B1 B2))
  refine bodyPost_ret (v := .tuple #[.agg #[.bool false, .slice none 0 0, .slice none 0 0], .int .i64 3]) (by simp [results, Tryz.results13, go_sem, q0, q1, q2]) rfl ?_
  exact gives_none ((((unhide HB).setCell (by simp <;> omega) _).setCell (by simp <;> omega) _).setCell (by simp <;> omega) _)

set_option maxRecDepth 20000 in
set_option maxHeartbeats 4000000 in
theorem implScalar2_bad3 (op : Int) (c d : Bool) (a1 a2 b1 b2 : Option Addr) (n1 n2 m1 m2 c1 c2 d1 d2 : Nat) (sh dt sh' dt' : List Int) (w : World) (h1 : Row w a1 n1 sh) (h2 : Row w a2 n2 dt) (k1 : Row w b1 m1 sh') (k2 : Row w b2 m2 dt') (hop : opIn op = true) (hok : arrOk c sh dt = true) (hok' : arrOk d sh' dt' = false) :
    Calls Tryz.prog 13 #[.int .i64 op, .agg #[.bool c, .slice a1 n1 c1, .slice a2 n2 c2], .agg #[.bool d, .slice b1 m1 d1, .slice b2 m2 d2]] w (GivesOwn w (noAns 3)) := by
  have HR := hide hok
  have HR' := hide hok'
  have HOP := hide hop
  have hs1 := h1.small
  have hs2 := h2.small
  have hs3 := k1.small
  have hs4 := k2.small
  have H1 := hide h1
  have H2 := hide h2
  have K1 := hide k1
  have K2 := hide k2
  clear h1 h2 k1 k2 hok hok' hop
  go_enter Tryz.func13, Tryz.ntmps13
  go_wp2_with (first | (go_at_call 48; refine (isScalarFn_any op _ _ HOP).mono ?_; rintro e w0 ⟨rfl, rfl⟩) | (go_at_call_of 43 (Value.slice a1 n1 c1); refine (implArrayOk_eq _ _ _ _ _ _ _ sh dt _ ((((unhide H1).alloc _).alloc _).alloc _) ((((unhide H2).alloc _).alloc _).alloc _) _ HR).mono ?_; rintro e w1 ⟨rfl, hb1⟩; obtain ⟨B0, B1, B2, hB1⟩ := boxes3 hb1; have HB0 := hide B0; have HB1 := hide B1; have HB2 := hide B2; have HB := hide hB1; obtain ⟨x0, x1, x2, x3, x4, x5, x6⟩ := B0.all; obtain ⟨y0, y1, y2, y3, y4, y5, y6⟩ := B1.all; obtain ⟨q0, q1, q2, q3, q4, q5, q6⟩ := B2.all; clear hb1 hB1 B0 B1 B2) | (go_at_call_of 43 (Value.slice b1 m1 d1); refine (implArrayOk_eq _ _ _ _ _ _ _ sh' dt' _ ((unhide K1).below (Nat.le_refl _) (unhide HB)) ((unhide K2).below (Nat.le_refl _) (unhide HB)) _ HR').mono ?_; rintro e w2 ⟨rfl, hb2⟩; have HB0' := hide ((unhide HB0).below (Nat.le_refl _) hb2); have HB1' := hide ((unhide HB1).below (Nat.le_refl _) hb2); have HB2' := hide ((unhide HB2).below (Nat.le_refl _) hb2); have HC := hide ((unhide HB).trans (hb2.mono (by omega))); clear hb2 x0 x1 x2 x3 x4 x5 x6 y0 y1 y2 y3 y4 y5 y6 q0 q1 q2 q3 q4 q5 q6 HB0 HB1 HB2 HB; obtain ⟨x0, x1, x2, x3, x4, x5, x6⟩ := (unhide HB0').all; obtain ⟨y0, y1, y2, y3, y4, y5, y6⟩ := (unhide HB1').all; obtain ⟨q0, q1, q2, q3, q4, q5, q6⟩ := (unhide HB2').all))
  refine bodyPost_ret (v := .tuple #[.agg #[.bool false, .slice none 0 0, .slice none 0 0], .int .i64 3]) (by simp [results, Tryz.results13, go_sem, q0, q1, q2]) rfl ?_
  exact gives_none ((((unhide HC).setCell (by simp <;> omega) _).setCell (by simp <;> omega) _).setCell (by simp <;> omega) _)

set_option maxRecDepth 20000 in
set_option maxHeartbeats 4000000 in
theorem implScalar2_bad4 (op : Int) (c d : Bool) (a1 a2 b1 b2 : Option Addr) (n1 n2 m1 m2 c1 c2 d1 d2 : Nat) (sh dt sh' dt' : List Int) (w : World) (h1 : Row w a1 n1 sh) (h2 : Row w a2 n2 dt) (k1 : Row w b1 m1 sh') (k2 : Row w b2 m2 dt') (hop : opIn op = true) (hok : arrOk c sh dt = true) (hok' : arrOk d sh' dt' = true) (j : Int) (hj : jointCode n1 n2 m1 m2 sh sh' = j) (hj0 : j ≠ 0) :
    Calls Tryz.prog 13 #[.int .i64 op, .agg #[.bool c, .slice a1 n1 c1, .slice a2 n2 c2], .agg #[.bool d, .slice b1 m1 d1, .slice b2 m2 d2]] w (GivesOwn w (noAns j)) := by
  have HR := hide hok
  have HR' := hide hok'
  have HOP := hide hop
  have hs1 := h1.small
  have hs2 := h2.small
  have hs3 := k1.small
  have hs4 := k2.small
  have H1 := hide h1
  have H2 := hide h2
  have K1 := hide k1
  have K2 := hide k2
  clear h1 h2 k1 k2 hok hok' hop
  have HJ := hide hj
  have HJ0 := hide hj0
  have qj : (j != 0) = true := by simpa using hj0
  clear hj hj0
  go_enter Tryz.func13, Tryz.ntmps13
  go_wp2_with (first | (go_at_call 48; refine (isScalarFn_any op _ _ HOP).mono ?_; rintro e w0 ⟨rfl, rfl⟩) | (go_at_call_of 43 (Value.slice a1 n1 c1); refine (implArrayOk_eq _ _ _ _ _ _ _ sh dt _ ((((unhide H1).alloc _).alloc _).alloc _) ((((unhide H2).alloc _).alloc _).alloc _) _ HR).mono ?_; rintro e w1 ⟨rfl, hb1⟩; obtain ⟨B0, B1, B2, hB1⟩ := boxes3 hb1; have HB0 := hide B0; have HB1 := hide B1; have HB2 := hide B2; have HB := hide hB1; obtain ⟨x0, x1, x2, x3, x4, x5, x6⟩ := B0.all; obtain ⟨y0, y1, y2, y3, y4, y5, y6⟩ := B1.all; obtain ⟨q0, q1, q2, q3, q4, q5, q6⟩ := B2.all; clear hb1 hB1 B0 B1 B2) | (go_at_call_of 43 (Value.slice b1 m1 d1); refine (implArrayOk_eq _ _ _ _ _ _ _ sh' dt' _ ((unhide K1).below (Nat.le_refl _) (unhide HB)) ((unhide K2).below (Nat.le_refl _) (unhide HB)) _ HR').mono ?_; rintro e w2 ⟨rfl, hb2⟩; have HB0' := hide ((unhide HB0).below (Nat.le_refl _) hb2); have HB1' := hide ((unhide HB1).below (Nat.le_refl _) hb2); have HB2' := hide ((unhide HB2).below (Nat.le_refl _) hb2); have HC := hide ((unhide HB).trans (hb2.mono (by omega))); clear hb2 x0 x1 x2 x3 x4 x5 x6 y0 y1 y2 y3 y4 y5 y6 q0 q1 q2 q3 q4 q5 q6 HB0 HB1 HB2 HB; obtain ⟨x0, x1, x2, x3, x4, x5, x6⟩ := (unhide HB0').all; obtain ⟨y0, y1, y2, y3, y4, y5, y6⟩ := (unhide HB1').all; obtain ⟨q0, q1, q2, q3, q4, q5, q6⟩ := (unhide HB2').all) | (go_at_call 49; refine (jointShape_any c d a1 a2 b1 b2 n1 n2 m1 m2 c1 c2 d1 d2 sh sh' _ ((unhide H1).below (Nat.le_refl _) (unhide HC)) ((unhide K1).below (Nat.le_refl _) (unhide HC)) hs2 hs4).mono ?_; rintro e w3 ⟨hj, hb3⟩; obtain ⟨h0, _⟩ | ⟨_, rfl⟩ := hj; exact absurd h0 (by rw [unhide HJ]; exact unhide HJ0); try rw [unhide HJ]; have hs23 := hb3.size; have hw2b := q6; have HB0'' := hide ((unhide HB0').below (Nat.le_refl _) hb3); have HB1'' := hide ((unhide HB1').below (Nat.le_refl _) hb3); have HB2'' := hide ((unhide HB2').below (Nat.le_refl _) hb3); have HD := hide ((unhide HC).trans (hb3.mono (by omega))); clear hb3 x0 x1 x2 x3 x4 x5 x6 y0 y1 y2 y3 y4 y5 y6 q0 q1 q2 q3 q4 q5 q6 HB0' HB1' HB2' HC; obtain ⟨x0, x1, x2, x3, x4, x5, x6⟩ := (unhide HB0'').all; obtain ⟨y0, y1, y2, y3, y4, y5, y6⟩ := (unhide HB1'').all; obtain ⟨q0, q1, q2, q3, q4, q5, q6⟩ := (unhide HB2'').all))
  refine bodyPost_ret (v := .tuple #[.agg #[.bool false, .slice none 0 0, .slice none 0 0], .int .i64 j]) (by simp [results, Tryz.results13, go_sem, q0, q1, q2]) rfl ?_
  exact gives_none ((((unhide HD).setCell (by simp <;> omega) _).setCell (by simp <;> omega) _).setCell (by simp <;> omega) _)

set_option maxRecDepth 20000 in
set_option maxHeartbeats 4000000 in
theorem implScalar2_bad5 (op : Int) (c d : Bool) (a1 a2 b1 b2 : Option Addr) (n1 n2 m1 m2 c1 c2 d1 d2 : Nat) (sh dt sh' dt' : List Int) (w : World) (h1 : Row w a1 n1 sh) (h2 : Row w a2 n2 dt) (k1 : Row w b1 m1 sh') (k2 : Row w b2 m2 dt') (ga gb : Addr) (hG : Gl w ga gb) (hop : opIn op = true) (hok : arrOk c sh dt = true) (hok' : arrOk d sh' dt' = true) (hj : jointCode n1 n2 m1 m2 sh sh' = 0) (hno : (c || d) = true ∧ opEq op = false) :
    Calls Tryz.prog 13 #[.int .i64 op, .agg #[.bool c, .slice a1 n1 c1, .slice a2 n2 c2], .agg #[.bool d, .slice b1 m1 d1, .slice b2 m2 d2]] w (GivesOwn w (noAns 3)) := by
  have HR := hide hok
  have HR' := hide hok'
  have HOP := hide hop
  have hs1 := h1.small
  have hs2 := h2.small
  have hs3 := k1.small
  have hs4 := k2.small
  have H1 := hide h1
  have H2 := hide h2
  have K1 := hide k1
  have K2 := hide k2
  clear h1 h2 k1 k2 hok hok' hop
  have HJ := hide hj
  have HNO := hide hno
  have HG := hide hG
  have e1 := eql_nil_op
  clear hj hno hG
  go_enter Tryz.func13, Tryz.ntmps13
  go_wp2_with (first | (go_at_call 48; refine (isScalarFn_any op _ _ HOP).mono ?_; rintro e w0 ⟨rfl, rfl⟩) | (go_at_call_of 43 (Value.slice a1 n1 c1); refine (implArrayOk_eq _ _ _ _ _ _ _ sh dt _ ((((unhide H1).alloc _).alloc _).alloc _) ((((unhide H2).alloc _).alloc _).alloc _) _ HR).mono ?_; rintro e w1 ⟨rfl, hb1⟩; obtain ⟨B0, B1, B2, hB1⟩ := boxes3 hb1; have HB0 := hide B0; have HB1 := hide B1; have HB2 := hide B2; have HB := hide hB1; obtain ⟨x0, x1, x2, x3, x4, x5, x6⟩ := B0.all; obtain ⟨y0, y1, y2, y3, y4, y5, y6⟩ := B1.all; obtain ⟨q0, q1, q2, q3, q4, q5, q6⟩ := B2.all; clear hb1 hB1 B0 B1 B2) | (go_at_call_of 43 (Value.slice b1 m1 d1); refine (implArrayOk_eq _ _ _ _ _ _ _ sh' dt' _ ((unhide K1).below (Nat.le_refl _) (unhide HB)) ((unhide K2).below (Nat.le_refl _) (unhide HB)) _ HR').mono ?_; rintro e w2 ⟨rfl, hb2⟩; have HB0' := hide ((unhide HB0).below (Nat.le_refl _) hb2); have HB1' := hide ((unhide HB1).below (Nat.le_refl _) hb2); have HB2' := hide ((unhide HB2).below (Nat.le_refl _) hb2); have HC := hide ((unhide HB).trans (hb2.mono (by omega))); clear hb2 x0 x1 x2 x3 x4 x5 x6 y0 y1 y2 y3 y4 y5 y6 q0 q1 q2 q3 q4 q5 q6 HB0 HB1 HB2 HB; obtain ⟨x0, x1, x2, x3, x4, x5, x6⟩ := (unhide HB0').all; obtain ⟨y0, y1, y2, y3, y4, y5, y6⟩ := (unhide HB1').all; obtain ⟨q0, q1, q2, q3, q4, q5, q6⟩ := (unhide HB2').all) | (go_at_call 49; refine (jointShape_any c d a1 a2 b1 b2 n1 n2 m1 m2 c1 c2 d1 d2 sh sh' _ ((unhide H1).below (Nat.le_refl _) (unhide HC)) ((unhide K1).below (Nat.le_refl _) (unhide HC)) hs2 hs4).mono ?_; rintro e w3 ⟨hj, hb3⟩; obtain ⟨_, ash, ksh, csh, rfl, hO⟩ | ⟨h0, _⟩ := hj; rotate_left; exact absurd (unhide HJ) h0; have HO := hide hO; have hkl := hide hO.len; clear hO; have hs23 := hb3.size; have hw2b := q6; have HB0'' := hide ((unhide HB0').below (Nat.le_refl _) hb3); have HB1'' := hide ((unhide HB1').below (Nat.le_refl _) hb3); have HB2'' := hide ((unhide HB2').below (Nat.le_refl _) hb3); have HD := hide ((unhide HC).trans (hb3.mono (by omega))); clear hb3 x0 x1 x2 x3 x4 x5 x6 y0 y1 y2 y3 y4 y5 y6 q0 q1 q2 q3 q4 q5 q6 HB0' HB1' HB2' HC; obtain ⟨x0, x1, x2, x3, x4, x5, x6⟩ := (unhide HB0'').all; obtain ⟨y0, y1, y2, y3, y4, y5, y6⟩ := (unhide HB1'').all; obtain ⟨q0, q1, q2, q3, q4, q5, q6⟩ := (unhide HB2'').all) | (go_at_call 50; refine (operationOn_any op c d a1 a2 b1 b2 n1 n2 m1 m2 c1 c2 d1 d2 ga gb _ ((unhide HG).below (unhide HD)) (unhide HOP)).mono ?_; rintro e w4 ⟨v, rfl, hv, hb4⟩; obtain ⟨_, _, rfl⟩ | ⟨hno, _⟩ := hv; rotate_left; exact absurd (unhide HNO) hno; have hs34 := hb4.size; have HB0t := hide ((unhide HB0'').below (Nat.le_refl _) hb4); have HB1t := hide ((unhide HB1'').below (Nat.le_refl _) hb4); have HB2t := hide ((unhide HB2'').below (Nat.le_refl _) hb4); have HE := hide ((unhide HD).trans (hb4.mono (by omega))); have HOt := hide ((unhide HO).below (Nat.le_refl _) hb4); clear hb4 x0 x1 x2 x3 x4 x5 x6 y0 y1 y2 y3 y4 y5 y6 q0 q1 q2 q3 q4 q5 q6 HB0'' HB1'' HB2'' HD; obtain ⟨x0, x1, x2, x3, x4, x5, x6⟩ := (unhide HB0t).all; obtain ⟨y0, y1, y2, y3, y4, y5, y6⟩ := (unhide HB1t).all; obtain ⟨q0, q1, q2, q3, q4, q5, q6⟩ := (unhide HB2t).all))
  refine bodyPost_ret (v := .tuple #[.agg #[.bool false, .slice none 0 0, .slice none 0 0], .int .i64 3]) (by simp [results, Tryz.results13, go_sem, q0, q1, q2]) rfl ?_
  exact gives_none ((((unhide HE).setCell (by simp <;> omega) _).setCell (by simp <;> omega) _).setCell (by simp <;> omega) _)

end Go.Proofs.YtkgcmpmgaghdhaaGreatDoor
