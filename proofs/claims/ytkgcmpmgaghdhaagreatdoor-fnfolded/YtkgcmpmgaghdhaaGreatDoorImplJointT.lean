import Derived.Test.YtkgcmpmgaghdhaaGreatDoorImplJointQ
namespace Go.Proofs.YtkgcmpmgaghdhaaGreatDoor
open Go.RowKit Go.Shelf

/-- What jointShape answers: a new slice with this shape, or a code. -/
def JointOk (w : World) (code : Int) (shape : List Int) (e : Ending) (w' : World) : Prop :=
  ((code = 0 ∧ ∃ a' k cap', e = .returned (.tuple #[.slice a' k cap', .int .i64 0]) ∧ Own w' (w.heap.size + 2) a' k shape) ∨ (code ≠ 0 ∧ e = .returned (.tuple #[.slice none 0 0, .int .i64 code]))) ∧ Below w.heap.size w w'

set_option maxRecDepth 20000 in
set_option maxHeartbeats 2000000 in
theorem joint1 (c d : Bool) (a1 a2 b1 b2 : Option Addr) (n1 n2 m1 m2 c1 c2 d1 d2 : Nat) (sh sh' : List Int) (w : World) (h1 : Row w a1 n1 sh) (k1 : Row w b1 m1 sh') (_hn2 : n2 ≤ 17592186044416) (_hm2 : m2 ≤ 17592186044416) (hA : n2 = 1) (hB : m2 ≠ 1) : Calls Tryz.prog 49 #[.agg #[.bool c, .slice a1 n1 c1, .slice a2 n2 c2], .agg #[.bool d, .slice b1 m1 d1, .slice b2 m2 d2]] w (JointOk w 0 sh') := by
  have hs1 := h1.small
  have hs2 := k1.small
  have H1 := hide h1
  have K1 := hide k1
  clear h1 k1
  subst hA
  have qb : ((m2 : Int) == 1) = false := by simp; omega
  have HB : Hid (∀ (o1 o2 : Obj) (q : Nat), Below w.heap.size w (((w.alloc o1).alloc o2).drewN q)) := fun o1 o2 q => Below.drewN (((Below.refl _ _).alloc (Nat.le_refl _) _).alloc (by simp) _) q
  go_enter Tryz.func49, Tryz.ntmps49
  go_wp2
  go_quiet (fail)
  go_wp2_with (first | (go_at_call 65; refine (Clone_opt b1 m1 d1 sh' _ (((unhide K1).alloc _).alloc _ |>.drewN _)).mono ?_; rintro e w3 ⟨ash, csh, rfl, hcs, hO, hb3⟩; have HO : Hid (Own w3 (w.heap.size + 2) ash m1 sh') := hO.mono (by simp); have HL : Hid (Below w.heap.size w w3) := (unhide HB _ _ _).trans (hb3.mono (by simp; omega)); clear hO hb3))
  go_ret2
  exact ⟨.inl ⟨rfl, _, _, _, rfl, unhide HO⟩, unhide HL⟩

set_option maxRecDepth 20000 in
set_option maxHeartbeats 2000000 in
theorem joint2 (c d : Bool) (a1 a2 b1 b2 : Option Addr) (n1 n2 m1 m2 c1 c2 d1 d2 : Nat) (sh sh' : List Int) (w : World) (h1 : Row w a1 n1 sh) (k1 : Row w b1 m1 sh') (_hn2 : n2 ≤ 17592186044416) (_hm2 : m2 ≤ 17592186044416) (hA : n2 = 1) (hB : m2 = 1) (hlt : n1 < m1) : Calls Tryz.prog 49 #[.agg #[.bool c, .slice a1 n1 c1, .slice a2 n2 c2], .agg #[.bool d, .slice b1 m1 d1, .slice b2 m2 d2]] w (JointOk w 0 sh') := by
  have hs1 := h1.small
  have hs2 := k1.small
  have H1 := hide h1
  have K1 := hide k1
  clear h1 k1
  subst hA hB
  have hlt' : (n1 : Int) < m1 := by omega
  clear hlt
  have HB : Hid (∀ (o1 o2 : Obj) (q : Nat), Below w.heap.size w (((w.alloc o1).alloc o2).drewN q)) := fun o1 o2 q => Below.drewN (((Below.refl _ _).alloc (Nat.le_refl _) _).alloc (by simp) _) q
  go_enter Tryz.func49, Tryz.ntmps49
  go_wp2
  go_quiet (fail)
  go_wp2_with (first | (go_at_call 65; refine (Clone_opt b1 m1 d1 sh' _ (((unhide K1).alloc _).alloc _ |>.drewN _)).mono ?_; rintro e w3 ⟨ash, csh, rfl, hcs, hO, hb3⟩; have HO : Hid (Own w3 (w.heap.size + 2) ash m1 sh') := hO.mono (by simp); have HL : Hid (Below w.heap.size w w3) := (unhide HB _ _ _).trans (hb3.mono (by simp; omega)); clear hO hb3))
  go_ret2
  exact ⟨.inl ⟨rfl, _, _, _, rfl, unhide HO⟩, unhide HL⟩

set_option maxRecDepth 20000 in
set_option maxHeartbeats 2000000 in
theorem joint3 (c d : Bool) (a1 a2 b1 b2 : Option Addr) (n1 n2 m1 m2 c1 c2 d1 d2 : Nat) (sh sh' : List Int) (w : World) (h1 : Row w a1 n1 sh) (k1 : Row w b1 m1 sh') (_hn2 : n2 ≤ 17592186044416) (_hm2 : m2 ≤ 17592186044416) (hA : n2 = 1) (hB : m2 = 1) (hlt : ¬ n1 < m1) : Calls Tryz.prog 49 #[.agg #[.bool c, .slice a1 n1 c1, .slice a2 n2 c2], .agg #[.bool d, .slice b1 m1 d1, .slice b2 m2 d2]] w (JointOk w 0 sh) := by
  have hs1 := h1.small
  have hs2 := k1.small
  have H1 := hide h1
  have K1 := hide k1
  clear h1 k1
  subst hA hB
  have hlt' : ¬ (n1 : Int) < m1 := by omega
  clear hlt
  have HB : Hid (∀ (o1 o2 : Obj) (q : Nat), Below w.heap.size w (((w.alloc o1).alloc o2).drewN q)) := fun o1 o2 q => Below.drewN (((Below.refl _ _).alloc (Nat.le_refl _) _).alloc (by simp) _) q
  go_enter Tryz.func49, Tryz.ntmps49
  go_wp2
  go_quiet (fail)
  go_wp2_with (first | (go_at_call 65; refine (Clone_opt a1 n1 c1 sh _ (by first | exact (((unhide H1).alloc _).alloc _).drewN _ | exact ((((unhide H1).alloc _).alloc _).drewN _).drewN _)).mono ?_; rintro e w3 ⟨ash, csh, rfl, hcs, hO, hb3⟩; have HO : Hid (Own w3 (w.heap.size + 2) ash n1 sh) := hO.mono (by simp); have HL : Hid (Below w.heap.size w w3) := (by first | exact (unhide HB _ _ _).trans (hb3.mono (by simp; omega)) | exact (Below.drewN (unhide HB _ _ _) _).trans (hb3.mono (by simp; omega))); clear hO hb3))
  go_ret2
  exact ⟨.inl ⟨rfl, _, _, _, rfl, unhide HO⟩, unhide HL⟩

set_option maxRecDepth 20000 in
set_option maxHeartbeats 2000000 in
theorem joint4 (c d : Bool) (a1 a2 b1 b2 : Option Addr) (n1 n2 m1 m2 c1 c2 d1 d2 : Nat) (sh sh' : List Int) (w : World) (h1 : Row w a1 n1 sh) (k1 : Row w b1 m1 sh') (_hn2 : n2 ≤ 17592186044416) (_hm2 : m2 ≤ 17592186044416) (hA : n2 ≠ 1) (hB : m2 = 1) : Calls Tryz.prog 49 #[.agg #[.bool c, .slice a1 n1 c1, .slice a2 n2 c2], .agg #[.bool d, .slice b1 m1 d1, .slice b2 m2 d2]] w (JointOk w 0 sh) := by
  have hs1 := h1.small
  have hs2 := k1.small
  have H1 := hide h1
  have K1 := hide k1
  clear h1 k1
  subst hB
  have qa : ((n2 : Int) == 1) = false := by simp; omega
  have HB : Hid (∀ (o1 o2 : Obj) (q : Nat), Below w.heap.size w (((w.alloc o1).alloc o2).drewN q)) := fun o1 o2 q => Below.drewN (((Below.refl _ _).alloc (Nat.le_refl _) _).alloc (by simp) _) q
  go_enter Tryz.func49, Tryz.ntmps49
  go_wp2
  go_quiet (fail)
  go_wp2_with (first | (go_at_call 65; refine (Clone_opt a1 n1 c1 sh _ (by first | exact (((unhide H1).alloc _).alloc _).drewN _ | exact ((((unhide H1).alloc _).alloc _).drewN _).drewN _)).mono ?_; rintro e w3 ⟨ash, csh, rfl, hcs, hO, hb3⟩; have HO : Hid (Own w3 (w.heap.size + 2) ash n1 sh) := hO.mono (by simp); have HL : Hid (Below w.heap.size w w3) := (by first | exact (unhide HB _ _ _).trans (hb3.mono (by simp; omega)) | exact (Below.drewN (unhide HB _ _ _) _).trans (hb3.mono (by simp; omega))); clear hO hb3))
  go_ret2
  exact ⟨.inl ⟨rfl, _, _, _, rfl, unhide HO⟩, unhide HL⟩

set_option maxRecDepth 20000 in
set_option maxHeartbeats 2000000 in
theorem joint5 (c d : Bool) (a1 a2 b1 b2 : Option Addr) (n1 n2 m1 m2 c1 c2 d1 d2 : Nat) (sh sh' : List Int) (w : World) (h1 : Row w a1 n1 sh) (k1 : Row w b1 m1 sh') (_hn2 : n2 ≤ 17592186044416) (_hm2 : m2 ≤ 17592186044416) (hA : n2 ≠ 1) (hB : m2 ≠ 1) (hn : n1 ≠ m1) : Calls Tryz.prog 49 #[.agg #[.bool c, .slice a1 n1 c1, .slice a2 n2 c2], .agg #[.bool d, .slice b1 m1 d1, .slice b2 m2 d2]] w (JointOk w 4 sh) := by
  have hs1 := h1.small
  have hs2 := k1.small
  have H1 := hide h1
  have K1 := hide k1
  clear h1 k1
  have qa : ((n2 : Int) == 1) = false := by simp; omega
  have qb : ((m2 : Int) == 1) = false := by simp; omega
  have qn : ((n1 : Int) != (m1 : Int)) = true := by simp; omega
  have HB : Hid (∀ (o1 o2 : Obj) (q : Nat), Below w.heap.size w (((w.alloc o1).alloc o2).drewN q)) := fun o1 o2 q => Below.drewN (((Below.refl _ _).alloc (Nat.le_refl _) _).alloc (by simp) _) q
  go_enter Tryz.func49, Tryz.ntmps49
  go_wp2
  go_quiet (fail)
  go_wp2
  go_ret2
  exact ⟨.inr ⟨by decide, rfl⟩, by first | exact unhide HB _ _ _ | exact Below.drewN (unhide HB _ _ _) _⟩

set_option maxRecDepth 20000 in
set_option maxHeartbeats 2000000 in
theorem joint6 (c d : Bool) (a1 a2 b1 b2 : Option Addr) (n1 n2 m1 m2 c1 c2 d1 d2 : Nat) (sh sh' : List Int) (w : World) (h1 : Row w a1 n1 sh) (k1 : Row w b1 m1 sh') (_hn2 : n2 ≤ 17592186044416) (_hm2 : m2 ≤ 17592186044416) (hA : n2 ≠ 1) (hB : m2 ≠ 1) (hn : n1 = m1) (hs : sh ≠ sh') : Calls Tryz.prog 49 #[.agg #[.bool c, .slice a1 n1 c1, .slice a2 n2 c2], .agg #[.bool d, .slice b1 m1 d1, .slice b2 m2 d2]] w (JointOk w 5 sh) := by
  have hs1 := h1.small
  have hs2 := k1.small
  have H1 := hide h1
  have K1 := hide k1
  clear h1 k1
  have qa : ((n2 : Int) == 1) = false := by simp; omega
  have qb : ((m2 : Int) == 1) = false := by simp; omega
  subst hn
  have qn : ((n1 : Int) != (n1 : Int)) = false := by simp
  have HQ : Hid (decide (sh = sh') = false) := decide_eq_false hs
  clear hs
  have HB : Hid (∀ (o1 o2 : Obj) (q : Nat), Below w.heap.size w (((w.alloc o1).alloc o2).drewN q)) := fun o1 o2 q => Below.drewN (((Below.refl _ _).alloc (Nat.le_refl _) _).alloc (by simp) _) q
  go_enter Tryz.func49, Tryz.ntmps49
  go_wp2
  go_quiet (fail)
  go_wp2_with (first | (go_at_call 116; refine (Equal_any a1 b1 _ _ _ _ sh sh' _ (((unhide H1).alloc _).alloc _ |>.drewN _) (((unhide K1).alloc _).alloc _ |>.drewN _)).mono ?_; rintro e w2 ⟨rfl, q', rfl⟩; rw [unhide HQ]))
  go_ret2
  exact ⟨.inr ⟨by decide, rfl⟩, by first | exact unhide HB _ _ _ | exact Below.drewN (unhide HB _ _ _) _⟩

set_option maxRecDepth 20000 in
set_option maxHeartbeats 2000000 in
theorem joint7 (c d : Bool) (a1 a2 b1 b2 : Option Addr) (n1 n2 m1 m2 c1 c2 d1 d2 : Nat) (sh sh' : List Int) (w : World) (h1 : Row w a1 n1 sh) (k1 : Row w b1 m1 sh') (_hn2 : n2 ≤ 17592186044416) (_hm2 : m2 ≤ 17592186044416) (hA : n2 ≠ 1) (hB : m2 ≠ 1) (hn : n1 = m1) (hs : sh = sh') : Calls Tryz.prog 49 #[.agg #[.bool c, .slice a1 n1 c1, .slice a2 n2 c2], .agg #[.bool d, .slice b1 m1 d1, .slice b2 m2 d2]] w (JointOk w 0 sh) := by
  have hs1 := h1.small
  have hs2 := k1.small
  have H1 := hide h1
  have K1 := hide k1
  clear h1 k1
  have qa : ((n2 : Int) == 1) = false := by simp; omega
  have qb : ((m2 : Int) == 1) = false := by simp; omega
  subst hn
  have qn : ((n1 : Int) != (n1 : Int)) = false := by simp
  have HQ : Hid (decide (sh = sh') = true) := decide_eq_true hs
  clear hs
  have HB : Hid (∀ (o1 o2 : Obj) (q : Nat), Below w.heap.size w (((w.alloc o1).alloc o2).drewN q)) := fun o1 o2 q => Below.drewN (((Below.refl _ _).alloc (Nat.le_refl _) _).alloc (by simp) _) q
  go_enter Tryz.func49, Tryz.ntmps49
  go_wp2
  go_quiet (fail)
  go_wp2_with (first | (go_at_call 116; refine (Equal_any a1 b1 _ _ _ _ sh sh' _ (((unhide H1).alloc _).alloc _ |>.drewN _) (((unhide K1).alloc _).alloc _ |>.drewN _)).mono ?_; rintro e w2 ⟨rfl, q', rfl⟩; rw [unhide HQ]) | (go_at_call 65; refine (Clone_opt a1 n1 c1 sh _ (by first | exact (((unhide H1).alloc _).alloc _).drewN _ | exact ((((unhide H1).alloc _).alloc _).drewN _).drewN _)).mono ?_; rintro e w3 ⟨ash, csh, rfl, hcs, hO, hb3⟩; have HO : Hid (Own w3 (w.heap.size + 2) ash n1 sh) := hO.mono (by simp); have HL : Hid (Below w.heap.size w w3) := (by first | exact (unhide HB _ _ _).trans (hb3.mono (by simp; omega)) | exact (Below.drewN (unhide HB _ _ _) _).trans (hb3.mono (by simp; omega))); clear hO hb3))
  go_ret2
  exact ⟨.inl ⟨rfl, _, _, _, rfl, unhide HO⟩, unhide HL⟩

def jointCode (n1 n2 m1 m2 : Nat) (sh sh' : List Int) : Int := if wideB n1 n2 m1 m2 = true ∨ m2 = 1 then 0 else if n1 ≠ m1 then 4 else if sh ≠ sh' then 5 else 0
def jointSh (n1 n2 m1 m2 : Nat) (sh sh' : List Int) : List Int := if wideB n1 n2 m1 m2 = true then sh' else sh

theorem jointShape_any (c d : Bool) (a1 a2 b1 b2 : Option Addr) (n1 n2 m1 m2 c1 c2 d1 d2 : Nat) (sh sh' : List Int) (w : World) (h1 : Row w a1 n1 sh) (k1 : Row w b1 m1 sh') (hn2 : n2 ≤ 17592186044416) (hm2 : m2 ≤ 17592186044416) : Calls Tryz.prog 49 #[.agg #[.bool c, .slice a1 n1 c1, .slice a2 n2 c2], .agg #[.bool d, .slice b1 m1 d1, .slice b2 m2 d2]] w (JointOk w (jointCode n1 n2 m1 m2 sh sh') (jointSh n1 n2 m1 m2 sh sh')) := by
  by_cases hA : n2 = 1
  · by_cases hB : m2 = 1
    · by_cases hlt : n1 < m1
      · have e : wideB n1 n2 m1 m2 = true := by simp [wideB, hA, hlt]
        have e1 : jointCode n1 n2 m1 m2 sh sh' = 0 := by unfold jointCode; rw [if_pos (.inl e)]
        have e2 : jointSh n1 n2 m1 m2 sh sh' = sh' := by unfold jointSh; rw [if_pos e]
        rw [e1, e2]
        exact joint2 c d a1 a2 b1 b2 n1 n2 m1 m2 c1 c2 d1 d2 sh sh' w h1 k1 hn2 hm2 hA hB hlt
      · have e : wideB n1 n2 m1 m2 = false := by simp [wideB, hA, hB]; omega
        have e1 : jointCode n1 n2 m1 m2 sh sh' = 0 := by unfold jointCode; rw [if_pos (.inr hB)]
        have e2 : jointSh n1 n2 m1 m2 sh sh' = sh := by unfold jointSh; rw [if_neg (by rw [e]; simp)]
        rw [e1, e2]
        exact joint3 c d a1 a2 b1 b2 n1 n2 m1 m2 c1 c2 d1 d2 sh sh' w h1 k1 hn2 hm2 hA hB hlt
    · have e : wideB n1 n2 m1 m2 = true := by simp [wideB, hA, hB]
      have e1 : jointCode n1 n2 m1 m2 sh sh' = 0 := by unfold jointCode; rw [if_pos (.inl e)]
      have e2 : jointSh n1 n2 m1 m2 sh sh' = sh' := by unfold jointSh; rw [if_pos e]
      rw [e1, e2]
      exact joint1 c d a1 a2 b1 b2 n1 n2 m1 m2 c1 c2 d1 d2 sh sh' w h1 k1 hn2 hm2 hA hB
  · have e : wideB n1 n2 m1 m2 = false := by simp [wideB, hA]
    have e2 : jointSh n1 n2 m1 m2 sh sh' = sh := by unfold jointSh; rw [if_neg (by rw [e]; simp)]
    rw [e2]
    by_cases hB : m2 = 1
    · have e1 : jointCode n1 n2 m1 m2 sh sh' = 0 := by unfold jointCode; rw [if_pos (.inr hB)]
      rw [e1]
      exact joint4 c d a1 a2 b1 b2 n1 n2 m1 m2 c1 c2 d1 d2 sh sh' w h1 k1 hn2 hm2 hA hB
    · by_cases hn : n1 = m1
      · by_cases hs : sh = sh'
        · have e1 : jointCode n1 n2 m1 m2 sh sh' = 0 := by unfold jointCode; rw [if_neg (by rw [e]; simp [hB]), if_neg (by simp [hn]), if_neg (by simp [hs])]
          rw [e1]
          exact joint7 c d a1 a2 b1 b2 n1 n2 m1 m2 c1 c2 d1 d2 sh sh' w h1 k1 hn2 hm2 hA hB hn hs
        · have e1 : jointCode n1 n2 m1 m2 sh sh' = 5 := by unfold jointCode; rw [if_neg (by rw [e]; simp [hB]), if_neg (by simp [hn]), if_pos hs]
          rw [e1]
          exact joint6 c d a1 a2 b1 b2 n1 n2 m1 m2 c1 c2 d1 d2 sh sh' w h1 k1 hn2 hm2 hA hB hn hs
      · have e1 : jointCode n1 n2 m1 m2 sh sh' = 4 := by unfold jointCode; rw [if_neg (by rw [e]; simp [hB]), if_pos hn]
        rw [e1]
        exact joint5 c d a1 a2 b1 b2 n1 n2 m1 m2 c1 c2 d1 d2 sh sh' w h1 k1 hn2 hm2 hA hB hn

end Go.Proofs.YtkgcmpmgaghdhaaGreatDoor
