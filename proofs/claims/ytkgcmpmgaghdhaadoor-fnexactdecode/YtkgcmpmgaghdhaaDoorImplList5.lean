import Derived.Test.YtkgcmpmgaghdhaaDoorImplOkW
import Derived.Test.YtkgcmpmgaghdhaaDoorReshapeMath
import Derived.Test.YtkgcmpmgaghdhaaDoorSpecBox
import Derived.Deep.DeepCutAuto
namespace Go.Proofs.YtkgcmpmgaghdhaaDoor
open Go.RowKit

set_option maxRecDepth 20000 in
set_option maxHeartbeats 4000000 in
theorem listCode_bad1 (c d : Bool) (a1 a2 b1 b2 : Option Addr) (n1 n2 m1 m2 c1 c2 d1 d2 : Nat) (sh dt sh' dt' : List Int) (w : World) (h1 : Row w a1 n1 sh) (h2 : Row w a2 n2 dt) (k1 : Row w b1 m1 sh') (k2 : Row w b2 m2 dt') (hok : arrOk c sh dt = false) :
    Calls Tryd.prog 19 #[.agg #[.bool c, .slice a1 n1 c1, .slice a2 n2 c2], .agg #[.bool d, .slice b1 m1 d1, .slice b2 m2 d2]] w fun e w' => e = .returned (.int .i64 3) ∧ Below w.heap.size w w' := by
  obtain ⟨W0, hW0⟩ : ∃ W0, W0 = (w.alloc (.cells #[.bool c, .slice a1 n1 c1, .slice a2 n2 c2] 26)).alloc (.cells #[.bool d, .slice b1 m1 d1, .slice b2 m2 d2] 26) := ⟨_, rfl⟩
  have hz0 : W0.heap.size = w.heap.size + 2 := by rw [hW0]; simp
  have HB0 : Hid (Below w.heap.size w W0) := by rw [hW0]; exact ((Below.refl _ w).alloc (Nat.le_refl _) _).alloc (by simp) _
  have HX0 : Hid (Box W0 w.heap.size c (.slice a1 n1 c1) (.slice a2 n2 c2)) := by rw [hW0]; exact (Box.new w _ _ _).alloc _
  have HX1 : Hid (Box W0 (w.heap.size + 1) d (.slice b1 m1 d1) (.slice b2 m2 d2)) := by
    rw [hW0]
    show Box _ _ _ _ _
    have := Box.new (w.alloc (.cells #[.bool c, .slice a1 n1 c1, .slice a2 n2 c2] 26)) d (.slice b1 m1 d1) (.slice b2 m2 d2)
    simpa using this
  have H1 := hide (h1.below (Nat.le_refl _) HB0.out)
  have H2 := hide (h2.below (Nat.le_refl _) HB0.out)
  have K1 := hide (k1.below (Nat.le_refl _) HB0.out)
  have K2 := hide (k2.below (Nat.le_refl _) HB0.out)
  have hs1 := h1.small
  have HW0 := hide hW0
  have HR := hide hok
  clear h1 h2 k1 k2 hok hW0
  go_enter Tryd.func19, Tryd.ntmps19
  go_wp2_with (first | (go_at_call_of 30 (Value.slice a1 n1 c1); rw [← HW0.out]; refine (implArrayOk_eq _ _ _ _ _ _ _ sh dt _ H1.out H2.out _ HR).mono ?_; rintro e w1 ⟨rfl, hb1⟩; have HE1 := hide hb1; clear hb1; obtain ⟨x0, x1, x2, _, _, _⟩ := (HX0.out.below (Nat.le_refl _) HE1.out).all; obtain ⟨y0, y1, y2, _, _, _⟩ := (HX1.out.below (Nat.le_refl _) HE1.out).all; have hp1 : w.heap.size + 1 < w1.heap.size := (by have := HE1.out.size; omega)))
  go_ret
  exact ⟨rfl, HB0.out.trans (HE1.out.mono (by omega))⟩

set_option maxRecDepth 20000 in
set_option maxHeartbeats 4000000 in
theorem listCode_bad2 (c d : Bool) (a1 a2 b1 b2 : Option Addr) (n1 n2 m1 m2 c1 c2 d1 d2 : Nat) (sh dt sh' dt' : List Int) (w : World) (h1 : Row w a1 n1 sh) (h2 : Row w a2 n2 dt) (k1 : Row w b1 m1 sh') (k2 : Row w b2 m2 dt') (hok : arrOk c sh dt = true) (hok' : arrOk d sh' dt' = false) :
    Calls Tryd.prog 19 #[.agg #[.bool c, .slice a1 n1 c1, .slice a2 n2 c2], .agg #[.bool d, .slice b1 m1 d1, .slice b2 m2 d2]] w fun e w' => e = .returned (.int .i64 3) ∧ Below w.heap.size w w' := by
  obtain ⟨W0, hW0⟩ : ∃ W0, W0 = (w.alloc (.cells #[.bool c, .slice a1 n1 c1, .slice a2 n2 c2] 26)).alloc (.cells #[.bool d, .slice b1 m1 d1, .slice b2 m2 d2] 26) := ⟨_, rfl⟩
  have hz0 : W0.heap.size = w.heap.size + 2 := by rw [hW0]; simp
  have HB0 : Hid (Below w.heap.size w W0) := by rw [hW0]; exact ((Below.refl _ w).alloc (Nat.le_refl _) _).alloc (by simp) _
  have HX0 : Hid (Box W0 w.heap.size c (.slice a1 n1 c1) (.slice a2 n2 c2)) := by rw [hW0]; exact (Box.new w _ _ _).alloc _
  have HX1 : Hid (Box W0 (w.heap.size + 1) d (.slice b1 m1 d1) (.slice b2 m2 d2)) := by
    rw [hW0]
    show Box _ _ _ _ _
    have := Box.new (w.alloc (.cells #[.bool c, .slice a1 n1 c1, .slice a2 n2 c2] 26)) d (.slice b1 m1 d1) (.slice b2 m2 d2)
    simpa using this
  have H1 := hide (h1.below (Nat.le_refl _) HB0.out)
  have H2 := hide (h2.below (Nat.le_refl _) HB0.out)
  have K1 := hide (k1.below (Nat.le_refl _) HB0.out)
  have K2 := hide (k2.below (Nat.le_refl _) HB0.out)
  have hs1 := h1.small
  have HW0 := hide hW0
  have HR := hide hok
  have HR' := hide hok'
  clear hok'
  clear h1 h2 k1 k2 hok hW0
  go_enter Tryd.func19, Tryd.ntmps19
  go_wp2_with (first | (go_at_call_of 30 (Value.slice a1 n1 c1); rw [← HW0.out]; refine (implArrayOk_eq _ _ _ _ _ _ _ sh dt _ H1.out H2.out _ HR).mono ?_; rintro e w1 ⟨rfl, hb1⟩; have HE1 := hide hb1; clear hb1; obtain ⟨x0, x1, x2, _, _, _⟩ := (HX0.out.below (Nat.le_refl _) HE1.out).all; obtain ⟨y0, y1, y2, _, _, _⟩ := (HX1.out.below (Nat.le_refl _) HE1.out).all; have hp1 : w.heap.size + 1 < w1.heap.size := (by have := HE1.out.size; omega)) | (go_at_call 30; refine (implArrayOk_eq _ _ _ _ _ _ _ sh' dt' _ (K1.out.below (Nat.le_refl _) HE1.out) (K2.out.below (Nat.le_refl _) HE1.out) _ HR').mono ?_; rintro e w2 ⟨rfl, hb2⟩; have HE2 := hide (HE1.out.trans (hb2.mono HE1.out.size)); clear hb2 x0 x1 x2 y0 y1 y2; obtain ⟨x0, x1, x2, _, _, _⟩ := (HX0.out.below (Nat.le_refl _) HE2.out).all; have hp2 : w.heap.size + 1 < w2.heap.size := (by have := HE2.out.size; omega)))
  go_ret
  exact ⟨rfl, HB0.out.trans (HE2.out.mono (by omega))⟩

set_option maxRecDepth 20000 in
set_option maxHeartbeats 4000000 in
theorem listCode_long (c d : Bool) (a1 a2 b1 b2 : Option Addr) (n1 n2 m1 m2 c1 c2 d1 d2 : Nat) (sh dt sh' dt' : List Int) (w : World) (h1 : Row w a1 n1 sh) (h2 : Row w a2 n2 dt) (k1 : Row w b1 m1 sh') (k2 : Row w b2 m2 dt') (hok : arrOk c sh dt = true) (hok' : arrOk d sh' dt' = true) (hn : 1 < n1) :
    Calls Tryd.prog 19 #[.agg #[.bool c, .slice a1 n1 c1, .slice a2 n2 c2], .agg #[.bool d, .slice b1 m1 d1, .slice b2 m2 d2]] w fun e w' => e = .returned (.int .i64 4) ∧ Below w.heap.size w w' := by
  obtain ⟨W0, hW0⟩ : ∃ W0, W0 = (w.alloc (.cells #[.bool c, .slice a1 n1 c1, .slice a2 n2 c2] 26)).alloc (.cells #[.bool d, .slice b1 m1 d1, .slice b2 m2 d2] 26) := ⟨_, rfl⟩
  have hz0 : W0.heap.size = w.heap.size + 2 := by rw [hW0]; simp
  have HB0 : Hid (Below w.heap.size w W0) := by rw [hW0]; exact ((Below.refl _ w).alloc (Nat.le_refl _) _).alloc (by simp) _
  have HX0 : Hid (Box W0 w.heap.size c (.slice a1 n1 c1) (.slice a2 n2 c2)) := by rw [hW0]; exact (Box.new w _ _ _).alloc _
  have HX1 : Hid (Box W0 (w.heap.size + 1) d (.slice b1 m1 d1) (.slice b2 m2 d2)) := by
    rw [hW0]
    show Box _ _ _ _ _
    have := Box.new (w.alloc (.cells #[.bool c, .slice a1 n1 c1, .slice a2 n2 c2] 26)) d (.slice b1 m1 d1) (.slice b2 m2 d2)
    simpa using this
  have H1 := hide (h1.below (Nat.le_refl _) HB0.out)
  have H2 := hide (h2.below (Nat.le_refl _) HB0.out)
  have K1 := hide (k1.below (Nat.le_refl _) HB0.out)
  have K2 := hide (k2.below (Nat.le_refl _) HB0.out)
  have hs1 := h1.small
  have HW0 := hide hW0
  have HR := hide hok
  have HR' := hide hok'
  clear hok'
  clear h1 h2 k1 k2 hok hW0
  go_enter Tryd.func19, Tryd.ntmps19
  go_wp2_with (first | (go_at_call_of 30 (Value.slice a1 n1 c1); rw [← HW0.out]; refine (implArrayOk_eq _ _ _ _ _ _ _ sh dt _ H1.out H2.out _ HR).mono ?_; rintro e w1 ⟨rfl, hb1⟩; have HE1 := hide hb1; clear hb1; obtain ⟨x0, x1, x2, _, _, _⟩ := (HX0.out.below (Nat.le_refl _) HE1.out).all; obtain ⟨y0, y1, y2, _, _, _⟩ := (HX1.out.below (Nat.le_refl _) HE1.out).all; have hp1 : w.heap.size + 1 < w1.heap.size := (by have := HE1.out.size; omega)) | (go_at_call 30; refine (implArrayOk_eq _ _ _ _ _ _ _ sh' dt' _ (K1.out.below (Nat.le_refl _) HE1.out) (K2.out.below (Nat.le_refl _) HE1.out) _ HR').mono ?_; rintro e w2 ⟨rfl, hb2⟩; have HE2 := hide (HE1.out.trans (hb2.mono HE1.out.size)); clear hb2 x0 x1 x2 y0 y1 y2; obtain ⟨x0, x1, x2, _, _, _⟩ := (HX0.out.below (Nat.le_refl _) HE2.out).all; have hp2 : w.heap.size + 1 < w2.heap.size := (by have := HE2.out.size; omega)))
  go_ret
  exact ⟨rfl, HB0.out.trans (HE2.out.mono (by omega))⟩

set_option maxRecDepth 20000 in
set_option maxHeartbeats 4000000 in
theorem listCode_rest (c d : Bool) (a1 a2 b1 b2 : Option Addr) (n1 n2 m1 m2 c1 c2 d1 d2 : Nat) (sh dt sh' dt' : List Int) (w : World) (h1 : Row w a1 n1 sh) (h2 : Row w a2 n2 dt) (k1 : Row w b1 m1 sh') (k2 : Row w b2 m2 dt') (hok : arrOk c sh dt = true) (hok' : arrOk d sh' dt' = true) (hn : ¬ 1 < n1) :
    Calls Tryd.prog 19 #[.agg #[.bool c, .slice a1 n1 c1, .slice a2 n2 c2], .agg #[.bool d, .slice b1 m1 d1, .slice b2 m2 d2]] w fun e w' => e = .returned (.int .i64 (if c then 3 else 0)) ∧ Below w.heap.size w w' := by
  cases c with
  | false =>
    obtain ⟨W0, hW0⟩ : ∃ W0, W0 = (w.alloc (.cells #[.bool false, .slice a1 n1 c1, .slice a2 n2 c2] 26)).alloc (.cells #[.bool d, .slice b1 m1 d1, .slice b2 m2 d2] 26) := ⟨_, rfl⟩
    have hz0 : W0.heap.size = w.heap.size + 2 := by rw [hW0]; simp
    have HB0 : Hid (Below w.heap.size w W0) := by rw [hW0]; exact ((Below.refl _ w).alloc (Nat.le_refl _) _).alloc (by simp) _
    have HX0 : Hid (Box W0 w.heap.size false (.slice a1 n1 c1) (.slice a2 n2 c2)) := by rw [hW0]; exact (Box.new w _ _ _).alloc _
    have HX1 : Hid (Box W0 (w.heap.size + 1) d (.slice b1 m1 d1) (.slice b2 m2 d2)) := by
      rw [hW0]
      show Box _ _ _ _ _
      have := Box.new (w.alloc (.cells #[.bool false, .slice a1 n1 c1, .slice a2 n2 c2] 26)) d (.slice b1 m1 d1) (.slice b2 m2 d2)
      simpa using this
    have H1 := hide (h1.below (Nat.le_refl _) HB0.out)
    have H2 := hide (h2.below (Nat.le_refl _) HB0.out)
    have K1 := hide (k1.below (Nat.le_refl _) HB0.out)
    have K2 := hide (k2.below (Nat.le_refl _) HB0.out)
    have hs1 := h1.small
    have HW0 := hide hW0
    have HR := hide hok
    have HR' := hide hok'
    clear hok'
    clear h1 h2 k1 k2 hok hW0
    go_enter Tryd.func19, Tryd.ntmps19
    go_wp2_with (first | (go_at_call_of 30 (Value.slice a1 n1 c1); rw [← HW0.out]; refine (implArrayOk_eq _ _ _ _ _ _ _ sh dt _ H1.out H2.out _ HR).mono ?_; rintro e w1 ⟨rfl, hb1⟩; have HE1 := hide hb1; clear hb1; obtain ⟨x0, x1, x2, _, _, _⟩ := (HX0.out.below (Nat.le_refl _) HE1.out).all; obtain ⟨y0, y1, y2, _, _, _⟩ := (HX1.out.below (Nat.le_refl _) HE1.out).all; have hp1 : w.heap.size + 1 < w1.heap.size := (by have := HE1.out.size; omega)) | (go_at_call 30; refine (implArrayOk_eq _ _ _ _ _ _ _ sh' dt' _ (K1.out.below (Nat.le_refl _) HE1.out) (K2.out.below (Nat.le_refl _) HE1.out) _ HR').mono ?_; rintro e w2 ⟨rfl, hb2⟩; have HE2 := hide (HE1.out.trans (hb2.mono HE1.out.size)); clear hb2 x0 x1 x2 y0 y1 y2; obtain ⟨x0, x1, x2, _, _, _⟩ := (HX0.out.below (Nat.le_refl _) HE2.out).all; have hp2 : w.heap.size + 1 < w2.heap.size := (by have := HE2.out.size; omega)))
    go_ret
    exact ⟨rfl, HB0.out.trans (HE2.out.mono (by omega))⟩
  | true =>
    obtain ⟨W0, hW0⟩ : ∃ W0, W0 = (w.alloc (.cells #[.bool true, .slice a1 n1 c1, .slice a2 n2 c2] 26)).alloc (.cells #[.bool d, .slice b1 m1 d1, .slice b2 m2 d2] 26) := ⟨_, rfl⟩
    have hz0 : W0.heap.size = w.heap.size + 2 := by rw [hW0]; simp
    have HB0 : Hid (Below w.heap.size w W0) := by rw [hW0]; exact ((Below.refl _ w).alloc (Nat.le_refl _) _).alloc (by simp) _
    have HX0 : Hid (Box W0 w.heap.size true (.slice a1 n1 c1) (.slice a2 n2 c2)) := by rw [hW0]; exact (Box.new w _ _ _).alloc _
    have HX1 : Hid (Box W0 (w.heap.size + 1) d (.slice b1 m1 d1) (.slice b2 m2 d2)) := by
      rw [hW0]
      show Box _ _ _ _ _
      have := Box.new (w.alloc (.cells #[.bool true, .slice a1 n1 c1, .slice a2 n2 c2] 26)) d (.slice b1 m1 d1) (.slice b2 m2 d2)
      simpa using this
    have H1 := hide (h1.below (Nat.le_refl _) HB0.out)
    have H2 := hide (h2.below (Nat.le_refl _) HB0.out)
    have K1 := hide (k1.below (Nat.le_refl _) HB0.out)
    have K2 := hide (k2.below (Nat.le_refl _) HB0.out)
    have hs1 := h1.small
    have HW0 := hide hW0
    have HR := hide hok
    have HR' := hide hok'
    clear hok'
    clear h1 h2 k1 k2 hok hW0
    go_enter Tryd.func19, Tryd.ntmps19
    go_wp2_with (first | (go_at_call_of 30 (Value.slice a1 n1 c1); rw [← HW0.out]; refine (implArrayOk_eq _ _ _ _ _ _ _ sh dt _ H1.out H2.out _ HR).mono ?_; rintro e w1 ⟨rfl, hb1⟩; have HE1 := hide hb1; clear hb1; obtain ⟨x0, x1, x2, _, _, _⟩ := (HX0.out.below (Nat.le_refl _) HE1.out).all; obtain ⟨y0, y1, y2, _, _, _⟩ := (HX1.out.below (Nat.le_refl _) HE1.out).all; have hp1 : w.heap.size + 1 < w1.heap.size := (by have := HE1.out.size; omega)) | (go_at_call 30; refine (implArrayOk_eq _ _ _ _ _ _ _ sh' dt' _ (K1.out.below (Nat.le_refl _) HE1.out) (K2.out.below (Nat.le_refl _) HE1.out) _ HR').mono ?_; rintro e w2 ⟨rfl, hb2⟩; have HE2 := hide (HE1.out.trans (hb2.mono HE1.out.size)); clear hb2 x0 x1 x2 y0 y1 y2; obtain ⟨x0, x1, x2, _, _, _⟩ := (HX0.out.below (Nat.le_refl _) HE2.out).all; have hp2 : w.heap.size + 1 < w2.heap.size := (by have := HE2.out.size; omega)))
    go_ret
    exact ⟨rfl, HB0.out.trans (HE2.out.mono (by omega))⟩

/-- The code of what must be a list of numbers, beside an array. -/
def codeList (c d : Bool) (sh dt sh' dt' : List Int) : Int := if arrOk c sh dt = true ∧ arrOk d sh' dt' = true then listCode c sh.length else 3

theorem implListCode_any (c d : Bool) (a1 a2 b1 b2 : Option Addr) (n1 n2 m1 m2 c1 c2 d1 d2 : Nat) (sh dt sh' dt' : List Int) (w : World) (h1 : Row w a1 n1 sh) (h2 : Row w a2 n2 dt) (k1 : Row w b1 m1 sh') (k2 : Row w b2 m2 dt') (r : Int) (hr : Hid (codeList c d sh dt sh' dt' = r)) :
    Calls Tryd.prog 19 #[.agg #[.bool c, .slice a1 n1 c1, .slice a2 n2 c2], .agg #[.bool d, .slice b1 m1 d1, .slice b2 m2 d2]] w fun e w' => e = .returned (.int .i64 r) ∧ Below w.heap.size w w' := by
  have hr' := hr.out
  clear hr
  subst hr'
  unfold codeList
  cases hok : arrOk c sh dt with
  | false => rw [if_neg (by simp)]; exact listCode_bad1 c d a1 a2 b1 b2 n1 n2 m1 m2 c1 c2 d1 d2 sh dt sh' dt' w h1 h2 k1 k2 hok
  | true =>
    cases hok' : arrOk d sh' dt' with
    | false => rw [if_neg (by simp)]; exact listCode_bad2 c d a1 a2 b1 b2 n1 n2 m1 m2 c1 c2 d1 d2 sh dt sh' dt' w h1 h2 k1 k2 hok hok'
    | true =>
      rw [if_pos ⟨rfl, rfl⟩, h1.len]
      unfold listCode
      by_cases hn : 1 < n1
      · rw [if_pos hn]; exact listCode_long c d a1 a2 b1 b2 n1 n2 m1 m2 c1 c2 d1 d2 sh dt sh' dt' w h1 h2 k1 k2 hok hok' hn
      · rw [if_neg hn]; exact listCode_rest c d a1 a2 b1 b2 n1 n2 m1 m2 c1 c2 d1 d2 sh dt sh' dt' w h1 h2 k1 k2 hok hok' hn

end Go.Proofs.YtkgcmpmgaghdhaaDoor
