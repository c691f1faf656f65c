import Derived.Test.YtgjpchnkodnieaaGreatDoorMFit1
import Derived.Test.YtgjpchnkodnieaaGreatDoorMFit3
import Derived.Test.YtgjpchnkodnieaaGreatDoorImplMonF
import Derived.Test.YtgjpchnkodnieaaGreatDoorImplMonR
import Derived.Test.YtgjpchnkodnieaaGreatDoorImplWithin
import Derived.Test.YtgjpchnkodnieaaGreatDoorMFit2
namespace Go.Proofs.YtgjpchnkodnieaaGreatDoor
open Go.RowKit Go.Shelf

theorem zero_mon (w : World) : (zeroValue 72).run Tryz.prog w = .ok .nilFunc w := by kernel_rfl

set_option maxRecDepth 20000 in
set_option maxHeartbeats 8000000 in
theorem implMon_hit (op : Int) (m i : Nat) (X : Ans) (eg : ∀ args w, (callFunc m args).run Tryz.prog w = .ok (.enter m args) w) (hop : 1 ≤ op ∧ op ≤ 33) (hf : Instr.findNow (.int .i64) (.int .i64 op) (monTab op) 0 = some (some (i, .func (.func m) #[.int .i64 op] #[]))) (c : Bool) (a1 a2 : Option Addr) (n1 n2 c1 c2 : Nat) (sh dt : List Int) (w : World) (h1 : Row w a1 n1 sh) (h2 : Row w a2 n2 dt) (hok : arrOk c sh dt = true) (hcall : ∀ W, Below w.heap.size w W → Calls Tryz.prog m #[.int .i64 op, .agg #[.bool c, .slice a1 n1 c1, .slice a2 n2 c2]] W (GivesOwn W X)) :
    Calls Tryz.prog 11 #[.int .i64 op, .agg #[.bool c, .slice a1 n1 c1, .slice a2 n2 c2]] w (GivesOwn w (X)) := by
  have HC := hide hcall
  clear hcall
  have H1 := hide h1
  have H2 := hide h2
  have HR : Hid (arrOk c sh dt = true) := hok
  clear h1 h2 hok
  obtain ⟨W0, hW0⟩ : ∃ W0, W0 = (w.alloc (.cells #[.bool c, .slice a1 n1 c1, .slice a2 n2 c2] 25)).alloc (.cells #[.bool false, .slice none 0 0, .slice none 0 0] 25) := ⟨_, rfl⟩
  obtain ⟨B4, B5, hB0⟩ := boxes2 (w := w) (c := c) (v1 := .slice a1 n1 c1) (v2 := .slice a2 n2 c2) (Below.refl _ _)
  rw [← hW0] at B4 B5 hB0
  have D4 := hide B4
  have D6 := hide B5
  have HB0 := hide hB0
  obtain ⟨x0, x1, x2, x3, x4, x5, x6⟩ := B4.all
  obtain ⟨q0, q1, q2, q3, q4, q5, q6⟩ := B5.all
  have hz6 := (unhide D6).lt
  have hwi := withinM op 1 33 true (by first | exact decide_eq_true (by omega) | exact decide_eq_false (by omega)) W0
  have hoa := implArrayOk_eq c a1 a2 n1 n2 c1 c2 sh dt W0 ((unhide H1).below (Nat.le_refl _) hB0) ((unhide H2).below (Nat.le_refl _) hB0) true HR
  rw [hW0] at hwi hoa x0 x1 x2 x3 x4 x5 x6 q0 q1 q2 q3 q4 q5 q6
  clear B4 B5 hB0
  go_enter Tryz.func11, Tryz.ntmps11
  have hlk : ∀ W : World, (Instr.lookup 74 (.map (some W.heap.size)) (.int .i64 op) true).run Tryz.prog (W.alloc (.map (monTab op).toArray 16)) = .ok (.tuple #[.func (.func m) #[.int .i64 op] #[], .bool true]) (W.alloc (.map (monTab op).toArray 16)) := fun W => look_hit _ _ Tryz.underlying74 _ _ _ 16 i op _ (World.alloc_heap_new W _) hf
  generalize hMT : (monTab op).toArray = MT at hlk
  have hmo : ∀ W, Calls Tryz.prog 52 #[.int .i64 op] W fun e w' => e = .returned (.map (some W.heap.size)) ∧ w' = W.alloc (.map MT 16) := fun W => by rw [← hMT]; exact monads_any op W
  obtain ⟨rc, rsh, rdt, rp⟩ := X
  clear hf hop hMT
  go_upto_region 4 with (first | (go_at_call 50; refine hwi.mono ?_; rintro e w2 ⟨rfl, hw2⟩; rw [hw2]; clear hw2) | (go_at_call 51; refine hoa.mono ?_; rintro e w3 ⟨rfl, hb3⟩; rw [← hW0] at hb3; have HB3 := hide hb3; have E4 := hide ((unhide D4).below (Nat.le_refl _) hb3); have E6 := hide ((unhide D6).below (Nat.le_refl _) hb3); have HB := hide ((unhide HB0).trans (hb3.mono (unhide HB0).size)); clear x0 x1 x2 x3 x4 x5 x6 q0 q1 q2 q3 q4 q5 q6; obtain ⟨x0, x1, x2, x3, x4, x5, x6⟩ := (unhide E4).all; obtain ⟨q0, q1, q2, q3, q4, q5, q6⟩ := (unhide E6).all; clear hb3) | (go_at_call 52; refine (hmo _).mono ?_; rintro e w4 ⟨rfl, hw4⟩; have hlk3 := hlk w3; subst hw4))
  clear hmo hlk hlk3
  obtain ⟨W4, hW4⟩ : ∃ W, W = w3.alloc (.map MT 16) := ⟨_, rfl⟩
  have hK4 : Below w3.heap.size w3 W4 := by rw [hW4]; exact (Below.refl _ _).alloc (Nat.le_refl _) _
  have F4 := hide ((unhide E4).below (Nat.le_refl _) hK4)
  have F6 := hide ((unhide E6).below (Nat.le_refl _) hK4)
  have HB4 := hide ((unhide HB).trans (hK4.mono (unhide HB).size))
  have hcl := unhide HC W4 (unhide HB4)
  rw [← hW4]
  clear hW4 hK4 E4 E6 x0 x1 x2 x3 x4 x5 x6 q0 q1 q2 q3 q4 q5 q6
  obtain ⟨x0, x1, x2, x3, x4, x5, x6⟩ := (unhide F4).all
  have hz0 := (unhide HB4).size
  go_wp2_with (go_at_fn m; refine hcl.mono ?_; rintro e w5 ⟨b1, m1, d1, b2, m2, d2, rfl, r1, r2, hap, hb5⟩; have R1 := hide r1; have R2 := hide r2; have HX := hide ((unhide F6).below (Nat.le_refl _) hb5); have HBX := hide ((unhide HB4).trans (hb5.mono (unhide HB4).size)); simp only; obtain ⟨q0, q1, q2, q3, q4, q5, q6⟩ := (unhide HX).all; clear r1 r2 hb5)
  have hx := (unhide HX).sets (c' := rc) (u1 := .slice b1 m1 d1) (u2 := .slice b2 m2 d2)
  obtain ⟨s0, s1, s2, _, _, _⟩ := hx.all
  refine bodyPost_ret (v := .tuple #[.agg #[.bool rc, .slice b1 m1 d1, .slice b2 m2 d2], .int .i64 rp]) (by simp [results, Tryz.results11, go_sem, s0, s1, s2]) rfl ?_
  exact own_end (unhide HX) ((unhide R1).mono hz0) ((unhide R2).mono hz0) hap (unhide HBX) (by omega)

set_option maxRecDepth 20000 in
set_option maxHeartbeats 8000000 in
theorem implMon_no (op : Int) (ho : op = 4 ∨ op = 5 ∨ op = 6 ∨ op = 8 ∨ op = 9 ∨ op = 10 ∨ op = 11 ∨ op = 12 ∨ op = 13 ∨ op = 14 ∨ op = 15 ∨ op = 16 ∨ op = 25 ∨ op = 29 ∨ op = 30 ∨ op = 31 ∨ op = 32) (c : Bool) (a1 a2 : Option Addr) (n1 n2 c1 c2 : Nat) (sh dt : List Int) (w : World) (h1 : Row w a1 n1 sh) (h2 : Row w a2 n2 dt) (hok : arrOk c sh dt = true) :
    Calls Tryz.prog 11 #[.int .i64 op, .agg #[.bool c, .slice a1 n1 c1, .slice a2 n2 c2]] w (GivesOwn w (noAns 1)) := by
  have hf : Instr.findNow (.int .i64) (.int .i64 op) (monTab op) 0 = some none := by
    rcases ho with rfl | rfl | rfl | rfl | rfl | rfl | rfl | rfl | rfl | rfl | rfl | rfl | rfl | rfl | rfl | rfl | rfl <;> rfl
  have hop : 1 ≤ op ∧ op ≤ 33 := by omega
  clear ho
  have H1 := hide h1
  have H2 := hide h2
  have HR : Hid (arrOk c sh dt = true) := hok
  clear h1 h2 hok
  obtain ⟨W0, hW0⟩ : ∃ W0, W0 = (w.alloc (.cells #[.bool c, .slice a1 n1 c1, .slice a2 n2 c2] 25)).alloc (.cells #[.bool false, .slice none 0 0, .slice none 0 0] 25) := ⟨_, rfl⟩
  obtain ⟨B4, B5, hB0⟩ := boxes2 (w := w) (c := c) (v1 := .slice a1 n1 c1) (v2 := .slice a2 n2 c2) (Below.refl _ _)
  rw [← hW0] at B4 B5 hB0
  have D4 := hide B4
  have D6 := hide B5
  have HB0 := hide hB0
  obtain ⟨x0, x1, x2, x3, x4, x5, x6⟩ := B4.all
  obtain ⟨q0, q1, q2, q3, q4, q5, q6⟩ := B5.all
  have hz6 := (unhide D6).lt
  have hwi := withinM op 1 33 true (by first | exact decide_eq_true (by omega) | exact decide_eq_false (by omega)) W0
  have hoa := implArrayOk_eq c a1 a2 n1 n2 c1 c2 sh dt W0 ((unhide H1).below (Nat.le_refl _) hB0) ((unhide H2).below (Nat.le_refl _) hB0) true HR
  rw [hW0] at hwi hoa x0 x1 x2 x3 x4 x5 x6 q0 q1 q2 q3 q4 q5 q6
  clear B4 B5 hB0
  go_enter Tryz.func11, Tryz.ntmps11
  have hlk : ∀ W : World, (Instr.lookup 74 (.map (some W.heap.size)) (.int .i64 op) true).run Tryz.prog (W.alloc (.map (monTab op).toArray 16)) = .ok (.tuple #[.nilFunc, .bool false]) (W.alloc (.map (monTab op).toArray 16)) := fun W => look_miss _ _ Tryz.underlying74 _ _ _ 16 op _ (zero_mon _) (World.alloc_heap_new W _) hf
  generalize hMT : (monTab op).toArray = MT at hlk
  have hmo : ∀ W, Calls Tryz.prog 52 #[.int .i64 op] W fun e w' => e = .returned (.map (some W.heap.size)) ∧ w' = W.alloc (.map MT 16) := fun W => by rw [← hMT]; exact monads_any op W
  clear hf hop hMT
  go_upto_region 4 with (first | (go_at_call 50; refine hwi.mono ?_; rintro e w2 ⟨rfl, hw2⟩; rw [hw2]; clear hw2) | (go_at_call 51; refine hoa.mono ?_; rintro e w3 ⟨rfl, hb3⟩; rw [← hW0] at hb3; have HB3 := hide hb3; have E4 := hide ((unhide D4).below (Nat.le_refl _) hb3); have E6 := hide ((unhide D6).below (Nat.le_refl _) hb3); have HB := hide ((unhide HB0).trans (hb3.mono (unhide HB0).size)); clear x0 x1 x2 x3 x4 x5 x6 q0 q1 q2 q3 q4 q5 q6; obtain ⟨x0, x1, x2, x3, x4, x5, x6⟩ := (unhide E4).all; obtain ⟨q0, q1, q2, q3, q4, q5, q6⟩ := (unhide E6).all; clear hb3) | (go_at_call 52; refine (hmo _).mono ?_; rintro e w4 ⟨rfl, hw4⟩; have hlk3 := hlk w3; subst hw4))
  clear hmo hlk hlk3
  obtain ⟨W4, hW4⟩ : ∃ W, W = w3.alloc (.map MT 16) := ⟨_, rfl⟩
  have hK4 : Below w3.heap.size w3 W4 := by rw [hW4]; exact (Below.refl _ _).alloc (Nat.le_refl _) _
  have F6 := hide ((unhide E6).below (Nat.le_refl _) hK4)
  have HB4 := hide ((unhide HB).trans (hK4.mono (unhide HB).size))
  rw [← hW4]
  clear hW4 hK4 E4 E6 x0 x1 x2 x3 x4 x5 x6 q0 q1 q2 q3 q4 q5 q6
  obtain ⟨q0, q1, q2, q3, q4, q5, q6⟩ := (unhide F6).all
  go_wp2_with fail
  refine bodyPost_ret (v := .tuple #[.agg #[.bool false, .slice none 0 0, .slice none 0 0], .int .i64 1]) (by simp [results, Tryz.results11, go_sem, q0, q1, q2]) rfl ?_
  first | exact gives_none (unhide HB4) | exact gives_none (((Below.setCell (unhide HB4) (by simp <;> omega) _).setCell (by simp <;> omega) _).setCell (by simp <;> omega) _)

set_option maxRecDepth 20000 in
set_option maxHeartbeats 8000000 in
theorem implMon_bad (op : Int) (hop : 1 ≤ op ∧ op ≤ 33) (c : Bool) (a1 a2 : Option Addr) (n1 n2 c1 c2 : Nat) (sh dt : List Int) (w : World) (h1 : Row w a1 n1 sh) (h2 : Row w a2 n2 dt) (hok : arrOk c sh dt = false) :
    Calls Tryz.prog 11 #[.int .i64 op, .agg #[.bool c, .slice a1 n1 c1, .slice a2 n2 c2]] w (GivesOwn w (noAns 3)) := by
  have H1 := hide h1
  have H2 := hide h2
  have HR : Hid (arrOk c sh dt = false) := hok
  clear h1 h2 hok
  obtain ⟨W0, hW0⟩ : ∃ W0, W0 = (w.alloc (.cells #[.bool c, .slice a1 n1 c1, .slice a2 n2 c2] 25)).alloc (.cells #[.bool false, .slice none 0 0, .slice none 0 0] 25) := ⟨_, rfl⟩
  obtain ⟨B4, B5, hB0⟩ := boxes2 (w := w) (c := c) (v1 := .slice a1 n1 c1) (v2 := .slice a2 n2 c2) (Below.refl _ _)
  rw [← hW0] at B4 B5 hB0
  have D4 := hide B4
  have D6 := hide B5
  have HB0 := hide hB0
  obtain ⟨x0, x1, x2, x3, x4, x5, x6⟩ := B4.all
  obtain ⟨q0, q1, q2, q3, q4, q5, q6⟩ := B5.all
  have hz6 := (unhide D6).lt
  have hwi := withinM op 1 33 true (by first | exact decide_eq_true (by omega) | exact decide_eq_false (by omega)) W0
  have hoa := implArrayOk_eq c a1 a2 n1 n2 c1 c2 sh dt W0 ((unhide H1).below (Nat.le_refl _) hB0) ((unhide H2).below (Nat.le_refl _) hB0) false HR
  rw [hW0] at hwi hoa x0 x1 x2 x3 x4 x5 x6 q0 q1 q2 q3 q4 q5 q6
  clear B4 B5 hB0
  go_enter Tryz.func11, Tryz.ntmps11
  clear hop
  go_wp2_with (first | (go_at_call 50; refine hwi.mono ?_; rintro e w2 ⟨rfl, hw2⟩; rw [hw2]; clear hw2) | (go_at_call 51; refine hoa.mono ?_; rintro e w3 ⟨rfl, hb3⟩; rw [← hW0] at hb3; have HB3 := hide hb3; have E4 := hide ((unhide D4).below (Nat.le_refl _) hb3); have E6 := hide ((unhide D6).below (Nat.le_refl _) hb3); have HB := hide ((unhide HB0).trans (hb3.mono (unhide HB0).size)); clear x0 x1 x2 x3 x4 x5 x6 q0 q1 q2 q3 q4 q5 q6; obtain ⟨x0, x1, x2, x3, x4, x5, x6⟩ := (unhide E4).all; obtain ⟨q0, q1, q2, q3, q4, q5, q6⟩ := (unhide E6).all; clear hb3))
  refine bodyPost_ret (v := .tuple #[.agg #[.bool false, .slice none 0 0, .slice none 0 0], .int .i64 3]) (by simp [results, Tryz.results11, go_sem, q0, q1, q2]) rfl ?_
  first | exact gives_none (unhide HB) | exact gives_none (((Below.setCell (unhide HB) (by simp <;> omega) _).setCell (by simp <;> omega) _).setCell (by simp <;> omega) _)

set_option maxRecDepth 20000 in
set_option maxHeartbeats 8000000 in
theorem implMon_out (op : Int) (hop : ¬ (1 ≤ op ∧ op ≤ 33)) (c : Bool) (a1 a2 : Option Addr) (n1 n2 c1 c2 : Nat) (sh dt : List Int) (w : World) (h1 : Row w a1 n1 sh) (h2 : Row w a2 n2 dt) :
    Calls Tryz.prog 11 #[.int .i64 op, .agg #[.bool c, .slice a1 n1 c1, .slice a2 n2 c2]] w (GivesOwn w (noAns 3)) := by
  have H1 := hide h1
  have H2 := hide h2
  clear h1 h2
  obtain ⟨W0, hW0⟩ : ∃ W0, W0 = (w.alloc (.cells #[.bool c, .slice a1 n1 c1, .slice a2 n2 c2] 25)).alloc (.cells #[.bool false, .slice none 0 0, .slice none 0 0] 25) := ⟨_, rfl⟩
  obtain ⟨B4, B5, hB0⟩ := boxes2 (w := w) (c := c) (v1 := .slice a1 n1 c1) (v2 := .slice a2 n2 c2) (Below.refl _ _)
  rw [← hW0] at B4 B5 hB0
  have D4 := hide B4
  have D6 := hide B5
  have HB0 := hide hB0
  obtain ⟨x0, x1, x2, x3, x4, x5, x6⟩ := B4.all
  obtain ⟨q0, q1, q2, q3, q4, q5, q6⟩ := B5.all
  have hz6 := (unhide D6).lt
  have hwi := withinM op 1 33 false (by first | exact decide_eq_true (by omega) | exact decide_eq_false (by omega)) W0
  rw [hW0] at hwi x0 x1 x2 x3 x4 x5 x6 q0 q1 q2 q3 q4 q5 q6
  clear B4 B5 hB0
  go_enter Tryz.func11, Tryz.ntmps11
  clear hop
  go_wp2_with (go_at_call 50; refine hwi.mono ?_; rintro e w2 ⟨rfl, hw2⟩; rw [hw2]; clear hw2)
  rw [← hW0]
  clear q0 q1 q2 q3 q4 q5 q6
  obtain ⟨q0, q1, q2, q3, q4, q5, q6⟩ := (unhide D6).all
  refine bodyPost_ret (v := .tuple #[.agg #[.bool false, .slice none 0 0, .slice none 0 0], .int .i64 3]) (by simp [results, Tryz.results11, go_sem, q0, q1, q2]) rfl ?_
  first | exact gives_none (unhide HB0) | exact gives_none (((Below.setCell (unhide HB0) (by simp <;> omega) _).setCell (by simp <;> omega) _).setCell (by simp <;> omega) _)

theorem egm_count : ∀ args w, (callFunc 139 args).run Tryz.prog w = .ok (.enter 139 args) w := enters_of Tryz.func139 (by kernel_rfl) rfl
theorem egm_elements : ∀ args w, (callFunc 140 args).run Tryz.prog w = .ok (.enter 140 args) w := enters_of Tryz.func140 (by kernel_rfl) rfl
theorem egm_firstElement : ∀ args w, (callFunc 143 args).run Tryz.prog w = .ok (.enter 143 args) w := enters_of Tryz.func143 (by kernel_rfl) rfl
theorem egm_grade : ∀ args w, (callFunc 144 args).run Tryz.prog w = .ok (.enter 144 args) w := enters_of Tryz.func144 (by kernel_rfl) rfl
theorem egm_reverse : ∀ args w, (callFunc 141 args).run Tryz.prog w = .ok (.enter 141 args) w := enters_of Tryz.func141 (by kernel_rfl) rfl
theorem egm_scalarOfOne : ∀ args w, (callFunc 137 args).run Tryz.prog w = .ok (.enter 137 args) w := enters_of Tryz.func137 (by kernel_rfl) rfl
theorem egm_shape : ∀ args w, (callFunc 138 args).run Tryz.prog w = .ok (.enter 138 args) w := enters_of Tryz.func138 (by kernel_rfl) rfl
theorem egm_tally : ∀ args w, (callFunc 145 args).run Tryz.prog w = .ok (.enter 145 args) w := enters_of Tryz.func145 (by kernel_rfl) rfl
theorem egm_turn : ∀ args w, (callFunc 142 args).run Tryz.prog w = .ok (.enter 142 args) w := enters_of Tryz.func142 (by kernel_rfl) rfl

/-- Reversing, of an array whose slices may be nil. -/
theorem implMon_rev (op : Int) (fl : Bool) (ho : (op = 21 ∧ fl = false) ∨ (op = 22 ∧ fl = true)) (c : Bool) (a1 a2 : Option Addr) (n1 n2 c1 c2 : Nat) (sh dt : List Int) (w : World) (h1 : Row w a1 n1 sh) (h2 : Row w a2 n2 dt) (hok : arrOk c sh dt = true) :
    Calls Tryz.prog 11 #[.int .i64 op, .agg #[.bool c, .slice a1 n1 c1, .slice a2 n2 c2]] w (GivesOwn w (revA c sh dt fl)) := by
  rcases ho with ⟨rfl, rfl⟩ | ⟨rfl, rfl⟩
  · exact implMon_hit 21 _ 9 _ egm_reverse (by omega) rfl c a1 a2 n1 n2 c1 c2 sh dt w h1 h2 hok (fun W hW => mon_reverse 21 false (.inl ⟨rfl, rfl⟩) c a1 a2 n1 n2 c1 c2 sh dt W (h1.below (Nat.le_refl _) hW) (h2.below (Nat.le_refl _) hW) hok)
  · exact implMon_hit 22 _ 10 _ egm_reverse (by omega) rfl c a1 a2 n1 n2 c1 c2 sh dt w h1 h2 hok (fun W hW => mon_reverse 22 true (.inr ⟨rfl, rfl⟩) c a1 a2 n1 n2 c1 c2 sh dt W (h1.below (Nat.le_refl _) hW) (h2.below (Nat.le_refl _) hW) hok)

theorem implMonad_any (op : Int) (c : Bool) (a1 a2 : Addr) (n1 n2 c1 c2 : Nat) (sh dt : List Int) (w : World) (h1 : Row w (some a1) n1 sh) (h2 : Row w (some a2) n2 dt) (hc1 : n1 ≤ c1) (ga gb : Addr) (hG : Gl w ga gb) :
    Calls Tryz.prog 11 #[.int .i64 op, .agg #[.bool c, .slice (some a1) n1 c1, .slice (some a2) n2 c2]] w (GivesOwn w (monadA op c sh dt)) := by
  by_cases hop : 1 ≤ op ∧ op ≤ 33
  rotate_left
  · rw [mon_bad (fun h => hop h.2)]
    exact implMon_out op hop c (some a1) (some a2) n1 n2 c1 c2 sh dt w h1 h2
  cases hok : arrOk c sh dt with
  | false =>
    rw [mon_bad (fun h => by rw [hok] at h; cases h.1)]
    exact implMon_bad op hop c (some a1) (some a2) n1 n2 c1 c2 sh dt w h1 h2 hok
  | true =>
    have hl1 := h1.len
    have hl2 := h2.len
    have hsi := shapeIn_of hok
    have hn2 : n2 ≤ 10000 := by have := hsi.1.bd; rw [hsi.2.1] at this; omega
    have hn5 : n1 ≤ 5 := by have := hsi.2.2; omega
    have hbd : ∀ k, k < n2 → -1000000000000000 ≤ dt.getD k 0 ∧ dt.getD k 0 ≤ 1000000000000000 := fun k hk => dataOk_bd hok (by omega)
    by_cases hn : op = 4 ∨ op = 5 ∨ op = 6 ∨ op = 8 ∨ op = 9 ∨ op = 10 ∨ op = 11 ∨ op = 12 ∨ op = 13 ∨ op = 14 ∨ op = 15 ∨ op = 16 ∨ op = 25 ∨ op = 29 ∨ op = 30 ∨ op = 31 ∨ op = 32
    · rw [mon_is hok hop (by unfold oneOp; exact decide_eq_false (by omega)), if_neg (by omega), if_neg (by omega), if_neg (by omega), if_neg (by omega), if_neg (by omega), if_neg (by omega), if_neg (by omega), if_neg (by omega), if_neg (by omega), if_neg (by omega)]
      exact implMon_no op hn c (some a1) (some a2) n1 n2 c1 c2 sh dt w h1 h2 hok
    have hcs : op = 1 ∨ op = 2 ∨ op = 3 ∨ op = 7 ∨ op = 17 ∨ op = 18 ∨ op = 19 ∨ op = 20 ∨ op = 28 ∨ op = 21 ∨ op = 22 ∨ op = 23 ∨ op = 24 ∨ op = 26 ∨ op = 27 ∨ op = 33 := by omega
    clear hn
    rcases hcs with rfl | rfl | rfl | rfl | rfl | rfl | rfl | rfl | rfl | rfl | rfl | rfl | rfl | rfl | rfl | rfl
    · rw [mon_one hok (by decide)]
      exact implMon_hit 1 _ 0 _ egm_scalarOfOne (by omega) rfl c (some a1) (some a2) n1 n2 c1 c2 sh dt w h1 h2 hok (fun W hW => mon_scalarOfOne 1 c a1 a2 n1 n2 c1 c2 sh dt W (h1.below (Nat.le_refl _) hW) (h2.below (Nat.le_refl _) hW) ga gb (hG.below hW))
    · rw [mon_one hok (by decide)]
      exact implMon_hit 2 _ 1 _ egm_scalarOfOne (by omega) rfl c (some a1) (some a2) n1 n2 c1 c2 sh dt w h1 h2 hok (fun W hW => mon_scalarOfOne 2 c a1 a2 n1 n2 c1 c2 sh dt W (h1.below (Nat.le_refl _) hW) (h2.below (Nat.le_refl _) hW) ga gb (hG.below hW))
    · rw [mon_one hok (by decide)]
      exact implMon_hit 3 _ 2 _ egm_scalarOfOne (by omega) rfl c (some a1) (some a2) n1 n2 c1 c2 sh dt w h1 h2 hok (fun W hW => mon_scalarOfOne 3 c a1 a2 n1 n2 c1 c2 sh dt W (h1.below (Nat.le_refl _) hW) (h2.below (Nat.le_refl _) hW) ga gb (hG.below hW))
    · rw [mon_one hok (by decide)]
      exact implMon_hit 7 _ 3 _ egm_scalarOfOne (by omega) rfl c (some a1) (some a2) n1 n2 c1 c2 sh dt w h1 h2 hok (fun W hW => mon_scalarOfOne 7 c a1 a2 n1 n2 c1 c2 sh dt W (h1.below (Nat.le_refl _) hW) (h2.below (Nat.le_refl _) hW) ga gb (hG.below hW))
    · rw [mon_one hok (by decide)]
      exact implMon_hit 17 _ 4 _ egm_scalarOfOne (by omega) rfl c (some a1) (some a2) n1 n2 c1 c2 sh dt w h1 h2 hok (fun W hW => mon_scalarOfOne 17 c a1 a2 n1 n2 c1 c2 sh dt W (h1.below (Nat.le_refl _) hW) (h2.below (Nat.le_refl _) hW) ga gb (hG.below hW))
    · rw [show monadA 18 c sh dt = ⟨false, [(n1 : Int)], sh, 0⟩ by rw [mon_is hok (by decide) (by decide), hl1]; rfl]
      exact implMon_hit 18 _ 5 _ egm_shape (by omega) rfl c (some a1) (some a2) n1 n2 c1 c2 sh dt w h1 h2 hok (fun W hW => mon_shape 18 c a1 a2 n1 n2 c1 c2 sh dt W (h1.below (Nat.le_refl _) hW) (h2.below (Nat.le_refl _) hW))
    · rw [mon_is hok (by decide) (by decide)]
      exact implMon_hit 19 _ 6 _ egm_count (by omega) rfl c (some a1) (some a2) n1 n2 c1 c2 sh dt w h1 h2 hok (fun W hW => mon_count 19 c a1 a2 n1 n2 c1 c2 sh dt W (h1.below (Nat.le_refl _) hW) (h2.below (Nat.le_refl _) hW) hbd)
    · rw [show monadA 20 c sh dt = ⟨c, [(n2 : Int)], dt, 0⟩ by rw [mon_is hok (by decide) (by decide), hl2]; rfl]
      exact implMon_hit 20 _ 7 _ egm_elements (by omega) rfl c (some a1) (some a2) n1 n2 c1 c2 sh dt w h1 h2 hok (fun W hW => mon_elements 20 c a1 a2 n1 n2 c1 c2 sh dt W (h1.below (Nat.le_refl _) hW) (h2.below (Nat.le_refl _) hW))
    · rw [show monadA 28 c sh dt = ⟨c, [(n2 : Int)], dt, 0⟩ by rw [mon_is hok (by decide) (by decide), hl2]; rfl]
      exact implMon_hit 28 _ 8 _ egm_elements (by omega) rfl c (some a1) (some a2) n1 n2 c1 c2 sh dt w h1 h2 hok (fun W hW => mon_elements 28 c a1 a2 n1 n2 c1 c2 sh dt W (h1.below (Nat.le_refl _) hW) (h2.below (Nat.le_refl _) hW))
    · rw [mon_is hok (by decide) (by decide)]
      exact implMon_rev 21 false (.inl ⟨rfl, rfl⟩) c (some a1) (some a2) n1 n2 c1 c2 sh dt w h1 h2 hok
    · rw [mon_is hok (by decide) (by decide)]
      exact implMon_rev 22 true (.inr ⟨rfl, rfl⟩) c (some a1) (some a2) n1 n2 c1 c2 sh dt w h1 h2 hok
    · rw [show monadA 23 c sh dt = transpose false c [(n1 : Int)] (downTo n1) sh dt by rw [mon_is hok (by decide) (by decide), hl1]; rfl]
      exact implMon_hit 23 _ 11 _ egm_turn (by omega) rfl c (some a1) (some a2) n1 n2 c1 c2 sh dt w h1 h2 hok (fun W hW => mon_turn 23 c a1 a2 n1 n2 c1 c2 sh dt W (h1.below (Nat.le_refl _) hW) (h2.below (Nat.le_refl _) hW) hn5)
    · rw [mon_is hok (by decide) (by decide)]
      exact implMon_hit 24 _ 12 _ egm_firstElement (by omega) rfl c (some a1) (some a2) n1 n2 c1 c2 sh dt w h1 h2 hok (fun W hW => mon_firstElement 24 c a1 a2 n1 n2 c1 c2 sh dt W (h1.below (Nat.le_refl _) hW) (h2.below (Nat.le_refl _) hW) hn2)
    · rw [mon_is hok (by decide) (by decide)]
      exact implMon_hit 26 _ 13 _ egm_grade (by omega) rfl c (some a1) (some a2) n1 n2 c1 c2 sh dt w h1 h2 hok (fun W hW => mon_grade26 c a1 a2 n1 n2 c1 c2 sh dt W (h1.below (Nat.le_refl _) hW) (h2.below (Nat.le_refl _) hW))
    · rw [mon_is hok (by decide) (by decide)]
      exact implMon_hit 27 _ 14 _ egm_grade (by omega) rfl c (some a1) (some a2) n1 n2 c1 c2 sh dt w h1 h2 hok (fun W hW => mon_grade27 c a1 a2 n1 n2 c1 c2 sh dt W (h1.below (Nat.le_refl _) hW) (h2.below (Nat.le_refl _) hW))
    · rw [mon_is hok (by decide) (by decide)]
      exact implMon_hit 33 _ 15 _ egm_tally (by omega) rfl c (some a1) (some a2) n1 n2 c1 c2 sh dt w h1 h2 hok (fun W hW => mon_tally 33 c a1 a2 n1 n2 c1 c2 sh dt W (h1.below (Nat.le_refl _) hW) (h2.below (Nat.le_refl _) hW) hc1 hok)

end Go.Proofs.YtgjpchnkodnieaaGreatDoor
