import Derived.Shelf.Abstract
import Derived.BigQuiet
import Derived.Test.YtngbmcljhcckmaaMBase
import Derived.Test.YtngbmcljhcckmaaSliceEqual
import Derived.Test.YtngbmcljhcckmaaMMath
import Derived.Test.YtngbmcljhcckmaaImplClone
namespace Go.Proofs.Ytngbmcljhcckmaa
open Go.RowKit Go.Shelf

set_option maxHeartbeats 1000000 in
theorem slicesEqual_any (a b : Addr) (n m ca cb : Nat) (xs ys : List Int) (w : World) (hx : Row w (some a) n xs) (hy : Row w (some b) m ys) :
    Calls Try.prog 107 #[.slice (some a) n ca, .slice (some b) m cb] w fun e w' => e = .returned (.bool (decide (xs = ys))) ∧ ∃ q, w' = w.drewN q := by
  obtain ⟨hxl, hxs, hxa⟩ := hx
  obtain ⟨hyl, hys, hya⟩ := hy
  by_cases hne : n = m
  · subst hne
    have hn : ((n : Int) != (n : Int)) = false := by simp
    go_enter Try.func107, Try.ntmps107
    go_wp2
    go_loopw [5, 13] (fun _ i wr => ∃ k : Nat, k ≤ n ∧ i = .int .i64 k ∧ xs.take k = ys.take k ∧ ∃ q, wr = w.drewN q) (fun _ i _ => n - (intOf i).toNat)
    case atStart => exact ⟨0, Nat.zero_le _, rfl, rfl, 0, rfl⟩
    case round =>
      obtain ⟨k, hk, rfl, htk, q, rfl⟩ := hrel
      by_cases hlt : k < n
      · have ha : ∃ b off, a = ⟨b, off, none⟩ ∧ w.cell? ⟨b, off + k, none⟩ = some (.int .i64 (xs.getD k 0)) := by
          rcases hxa with h0 | ⟨b, off, hb, hlt', hc⟩
          · omega
          · exact ⟨b, off, Option.some.inj hb, hc k hlt⟩
        have hb : ∃ b' off, b = ⟨b', off, none⟩ ∧ w.cell? ⟨b', off + k, none⟩ = some (.int .i64 (ys.getD k 0)) := by
          rcases hya with h0 | ⟨b, off, hb, hlt', hc⟩
          · omega
          · exact ⟨b, off, Option.some.inj hb, hc k hlt⟩
        obtain ⟨b1, o1, rfl, hc1⟩ := ha
        obtain ⟨b2, o2, rfl, hc2⟩ := hb
        clear hxa hya
        obtain ⟨x, hx⟩ : ∃ x, x = xs.getD k 0 := ⟨_, rfl⟩
        obtain ⟨y, hy⟩ : ∃ y, y = ys.getD k 0 := ⟨_, rfl⟩
        rw [← hx] at hc1
        rw [← hy] at hc2
        have HX : Hid (x = xs.getD k 0) := hx
        have HY : Hid (y = ys.getD k 0) := hy
        have HT : Hid (xs.take k = ys.take k) := htk
        have HL : Hid (xs.length = n ∧ ys.length = n) := ⟨hxl, hyl⟩
        clear hx hy htk hxl hyl
        by_cases hxy : x = y
        · have hb : (x != y) = false := by simp [hxy]
          have HXY : Hid (x = y) := hxy
          clear hxy
          go_wp2
          go_quiet (fail)
          go_wp2
          go_roundw
          case rel => exact ⟨k + 1, by omega, by go_num, take_step HL.out.1 HL.out.2 hlt HT.out (HX.out.symm.trans (HXY.out.trans HY.out)), _, by first | rfl | exact World.drewN_drewN _ _ _⟩
          case measure => simp [intOf]; omega
        · have hb : (x != y) = true := by simp [hxy]
          have HN : Hid (¬ xs = ys) := fun e => hxy (by rw [HX.out, HY.out, e])
          clear hxy
          go_wp2
          go_quiet (fail)
          go_wp2
          go_ret
          exact ⟨ret_bool (decide_eq_false HN.out).symm, _, by first | rfl | exact World.drewN_drewN _ _ _⟩
      · have hkn : k = n := by omega
        have HE : Hid (xs = ys) := by
          show xs = ys
          rwa [List.take_of_length_le (by omega), List.take_of_length_le (by omega)] at htk
        clear htk
        subst hkn
        go_wp2
        go_ret
        exact ⟨ret_bool (decide_eq_true HE.out).symm, _, rfl⟩
  · have hn : ((n : Int) != (m : Int)) = true := by simp; omega
    have HN : Hid (¬ xs = ys) := fun e => hne (by rw [← hxl, ← hyl, e])
    clear hne
    go_enter Try.func107, Try.ntmps107
    go_wp2
    go_ret
    exact ⟨ret_bool (decide_eq_false HN.out).symm, 0, rfl⟩

end Go.Proofs.Ytngbmcljhcckmaa
namespace Go.Proofs.Ytngbmcljhcckmaa
open Go.RowKit Go.Shelf

/-- What jointShape answers: a new slice with this shape, or a code. -/
def JointOk (w : World) (code : Int) (shape : List Int) (e : Ending) (w' : World) : Prop :=
  ((code = 0 ∧ ∃ a' k cap', e = .returned (.tuple #[.slice a' k cap', .int .i64 0]) ∧ Own w' (w.heap.size + 2) a' k shape) ∨ (code ≠ 0 ∧ e = .returned (.tuple #[.slice none 0 0, .int .i64 code]))) ∧ Below w.heap.size w w'

set_option maxRecDepth 20000 in
set_option maxHeartbeats 2000000 in
theorem joint1 (c d : Bool) (a1 a2 b1 b2 : Addr) (n1 n2 m1 m2 c1 c2 d1 d2 : Nat) (sh sh' : List Int) (w : World) (h1 : Row w (some a1) n1 sh) (k1 : Row w (some b1) m1 sh') (_hn2 : n2 ≤ 17592186044416) (_hm2 : m2 ≤ 17592186044416) (hA : n2 = 1) (hB : m2 ≠ 1) : Calls Try.prog 97 #[.agg #[.bool c, .slice (some a1) n1 c1, .slice (some a2) n2 c2], .agg #[.bool d, .slice (some b1) m1 d1, .slice (some b2) m2 d2]] w (JointOk w 0 sh') := by
  have hs1 := h1.small
  have hs2 := k1.small
  have H1 := hide h1
  have K1 := hide k1
  clear h1 k1
  subst hA
  have qb : ((m2 : Int) == 1) = false := by simp; omega
  have HB : Hid (∀ (o1 o2 : Obj) (q : Nat), Below w.heap.size w (((w.alloc o1).alloc o2).drewN q)) := fun o1 o2 q => Below.drewN (((Below.refl _ _).alloc (Nat.le_refl _) _).alloc (by simp) _) q
  go_enter Try.func97, Try.ntmps97
  go_wp2
  go_quiet (fail)
  go_wp2_with (first | (go_at_call 51; refine (Clone_any b1 m1 d1 sh' _ (((unhide K1).alloc _).alloc _ |>.drewN _)).mono ?_; rintro e w3 ⟨ash, csh, rfl, hcs, hO, hb3⟩; have HO : Hid (Own w3 (w.heap.size + 2) ash m1 sh') := hO.mono (by simp); have HL : Hid (Below w.heap.size w w3) := (unhide HB _ _ _).trans (hb3.mono (by simp; omega)); clear hO hb3))
  go_ret2
  exact ⟨.inl ⟨rfl, _, _, _, rfl, unhide HO⟩, unhide HL⟩

set_option maxRecDepth 20000 in
set_option maxHeartbeats 2000000 in
theorem joint2 (c d : Bool) (a1 a2 b1 b2 : Addr) (n1 n2 m1 m2 c1 c2 d1 d2 : Nat) (sh sh' : List Int) (w : World) (h1 : Row w (some a1) n1 sh) (k1 : Row w (some b1) m1 sh') (_hn2 : n2 ≤ 17592186044416) (_hm2 : m2 ≤ 17592186044416) (hA : n2 = 1) (hB : m2 = 1) (hlt : n1 < m1) : Calls Try.prog 97 #[.agg #[.bool c, .slice (some a1) n1 c1, .slice (some a2) n2 c2], .agg #[.bool d, .slice (some b1) m1 d1, .slice (some b2) m2 d2]] w (JointOk w 0 sh') := by
  have hs1 := h1.small
  have hs2 := k1.small
  have H1 := hide h1
  have K1 := hide k1
  clear h1 k1
  subst hA hB
  have hlt' : (n1 : Int) < m1 := by omega
  clear hlt
  have HB : Hid (∀ (o1 o2 : Obj) (q : Nat), Below w.heap.size w (((w.alloc o1).alloc o2).drewN q)) := fun o1 o2 q => Below.drewN (((Below.refl _ _).alloc (Nat.le_refl _) _).alloc (by simp) _) q
  go_enter Try.func97, Try.ntmps97
  go_wp2
  go_quiet (fail)
  go_wp2_with (first | (go_at_call 51; refine (Clone_any b1 m1 d1 sh' _ (((unhide K1).alloc _).alloc _ |>.drewN _)).mono ?_; rintro e w3 ⟨ash, csh, rfl, hcs, hO, hb3⟩; have HO : Hid (Own w3 (w.heap.size + 2) ash m1 sh') := hO.mono (by simp); have HL : Hid (Below w.heap.size w w3) := (unhide HB _ _ _).trans (hb3.mono (by simp; omega)); clear hO hb3))
  go_ret2
  exact ⟨.inl ⟨rfl, _, _, _, rfl, unhide HO⟩, unhide HL⟩

set_option maxRecDepth 20000 in
set_option maxHeartbeats 2000000 in
theorem joint3 (c d : Bool) (a1 a2 b1 b2 : Addr) (n1 n2 m1 m2 c1 c2 d1 d2 : Nat) (sh sh' : List Int) (w : World) (h1 : Row w (some a1) n1 sh) (k1 : Row w (some b1) m1 sh') (_hn2 : n2 ≤ 17592186044416) (_hm2 : m2 ≤ 17592186044416) (hA : n2 = 1) (hB : m2 = 1) (hlt : ¬ n1 < m1) : Calls Try.prog 97 #[.agg #[.bool c, .slice (some a1) n1 c1, .slice (some a2) n2 c2], .agg #[.bool d, .slice (some b1) m1 d1, .slice (some b2) m2 d2]] w (JointOk w 0 sh) := by
  have hs1 := h1.small
  have hs2 := k1.small
  have H1 := hide h1
  have K1 := hide k1
  clear h1 k1
  subst hA hB
  have hlt' : ¬ (n1 : Int) < m1 := by omega
  clear hlt
  have HB : Hid (∀ (o1 o2 : Obj) (q : Nat), Below w.heap.size w (((w.alloc o1).alloc o2).drewN q)) := fun o1 o2 q => Below.drewN (((Below.refl _ _).alloc (Nat.le_refl _) _).alloc (by simp) _) q
  go_enter Try.func97, Try.ntmps97
  go_wp2
  go_quiet (fail)
  go_wp2_with (first | (go_at_call 51; refine (Clone_any a1 n1 c1 sh _ (by first | exact (((unhide H1).alloc _).alloc _).drewN _ | exact ((((unhide H1).alloc _).alloc _).drewN _).drewN _)).mono ?_; rintro e w3 ⟨ash, csh, rfl, hcs, hO, hb3⟩; have HO : Hid (Own w3 (w.heap.size + 2) ash n1 sh) := hO.mono (by simp); have HL : Hid (Below w.heap.size w w3) := (by first | exact (unhide HB _ _ _).trans (hb3.mono (by simp; omega)) | exact (Below.drewN (unhide HB _ _ _) _).trans (hb3.mono (by simp; omega))); clear hO hb3))
  go_ret2
  exact ⟨.inl ⟨rfl, _, _, _, rfl, unhide HO⟩, unhide HL⟩

set_option maxRecDepth 20000 in
set_option maxHeartbeats 2000000 in
theorem joint4 (c d : Bool) (a1 a2 b1 b2 : Addr) (n1 n2 m1 m2 c1 c2 d1 d2 : Nat) (sh sh' : List Int) (w : World) (h1 : Row w (some a1) n1 sh) (k1 : Row w (some b1) m1 sh') (_hn2 : n2 ≤ 17592186044416) (_hm2 : m2 ≤ 17592186044416) (hA : n2 ≠ 1) (hB : m2 = 1) : Calls Try.prog 97 #[.agg #[.bool c, .slice (some a1) n1 c1, .slice (some a2) n2 c2], .agg #[.bool d, .slice (some b1) m1 d1, .slice (some b2) m2 d2]] w (JointOk w 0 sh) := by
  have hs1 := h1.small
  have hs2 := k1.small
  have H1 := hide h1
  have K1 := hide k1
  clear h1 k1
  subst hB
  have qa : ((n2 : Int) == 1) = false := by simp; omega
  have HB : Hid (∀ (o1 o2 : Obj) (q : Nat), Below w.heap.size w (((w.alloc o1).alloc o2).drewN q)) := fun o1 o2 q => Below.drewN (((Below.refl _ _).alloc (Nat.le_refl _) _).alloc (by simp) _) q
  go_enter Try.func97, Try.ntmps97
  go_wp2
  go_quiet (fail)
  go_wp2_with (first | (go_at_call 51; refine (Clone_any a1 n1 c1 sh _ (by first | exact (((unhide H1).alloc _).alloc _).drewN _ | exact ((((unhide H1).alloc _).alloc _).drewN _).drewN _)).mono ?_; rintro e w3 ⟨ash, csh, rfl, hcs, hO, hb3⟩; have HO : Hid (Own w3 (w.heap.size + 2) ash n1 sh) := hO.mono (by simp); have HL : Hid (Below w.heap.size w w3) := (by first | exact (unhide HB _ _ _).trans (hb3.mono (by simp; omega)) | exact (Below.drewN (unhide HB _ _ _) _).trans (hb3.mono (by simp; omega))); clear hO hb3))
  go_ret2
  exact ⟨.inl ⟨rfl, _, _, _, rfl, unhide HO⟩, unhide HL⟩

set_option maxRecDepth 20000 in
set_option maxHeartbeats 2000000 in
theorem joint5 (c d : Bool) (a1 a2 b1 b2 : Addr) (n1 n2 m1 m2 c1 c2 d1 d2 : Nat) (sh sh' : List Int) (w : World) (h1 : Row w (some a1) n1 sh) (k1 : Row w (some b1) m1 sh') (_hn2 : n2 ≤ 17592186044416) (_hm2 : m2 ≤ 17592186044416) (hA : n2 ≠ 1) (hB : m2 ≠ 1) (hn : n1 ≠ m1) : Calls Try.prog 97 #[.agg #[.bool c, .slice (some a1) n1 c1, .slice (some a2) n2 c2], .agg #[.bool d, .slice (some b1) m1 d1, .slice (some b2) m2 d2]] w (JointOk w 4 sh) := by
  have hs1 := h1.small
  have hs2 := k1.small
  have H1 := hide h1
  have K1 := hide k1
  clear h1 k1
  have qa : ((n2 : Int) == 1) = false := by simp; omega
  have qb : ((m2 : Int) == 1) = false := by simp; omega
  have qn : ((n1 : Int) != (m1 : Int)) = true := by simp; omega
  have HB : Hid (∀ (o1 o2 : Obj) (q : Nat), Below w.heap.size w (((w.alloc o1).alloc o2).drewN q)) := fun o1 o2 q => Below.drewN (((Below.refl _ _).alloc (Nat.le_refl _) _).alloc (by simp) _) q
  go_enter Try.func97, Try.ntmps97
  go_wp2
  go_quiet (fail)
  go_wp2
  go_ret2
  exact ⟨.inr ⟨by decide, rfl⟩, by first | exact unhide HB _ _ _ | exact Below.drewN (unhide HB _ _ _) _⟩

set_option maxRecDepth 20000 in
set_option maxHeartbeats 2000000 in
theorem joint6 (c d : Bool) (a1 a2 b1 b2 : Addr) (n1 n2 m1 m2 c1 c2 d1 d2 : Nat) (sh sh' : List Int) (w : World) (h1 : Row w (some a1) n1 sh) (k1 : Row w (some b1) m1 sh') (_hn2 : n2 ≤ 17592186044416) (_hm2 : m2 ≤ 17592186044416) (hA : n2 ≠ 1) (hB : m2 ≠ 1) (hn : n1 = m1) (hs : sh ≠ sh') : Calls Try.prog 97 #[.agg #[.bool c, .slice (some a1) n1 c1, .slice (some a2) n2 c2], .agg #[.bool d, .slice (some b1) m1 d1, .slice (some b2) m2 d2]] w (JointOk w 5 sh) := by
  have hs1 := h1.small
  have hs2 := k1.small
  have H1 := hide h1
  have K1 := hide k1
  clear h1 k1
  have qa : ((n2 : Int) == 1) = false := by simp; omega
  have qb : ((m2 : Int) == 1) = false := by simp; omega
  subst hn
  have qn : ((n1 : Int) != (n1 : Int)) = false := by simp
  have HQ : Hid (decide (sh = sh') = false) := decide_eq_false hs
  clear hs
  have HB : Hid (∀ (o1 o2 : Obj) (q : Nat), Below w.heap.size w (((w.alloc o1).alloc o2).drewN q)) := fun o1 o2 q => Below.drewN (((Below.refl _ _).alloc (Nat.le_refl _) _).alloc (by simp) _) q
  go_enter Try.func97, Try.ntmps97
  go_wp2
  go_quiet (fail)
  go_wp2_with (first | (go_at_call 107; refine (slicesEqual_any a1 b1 _ _ _ _ sh sh' _ (((unhide H1).alloc _).alloc _ |>.drewN _) (((unhide K1).alloc _).alloc _ |>.drewN _)).mono ?_; rintro e w2 ⟨rfl, q', rfl⟩; rw [unhide HQ]))
  go_ret2
  exact ⟨.inr ⟨by decide, rfl⟩, by first | exact unhide HB _ _ _ | exact Below.drewN (unhide HB _ _ _) _⟩

set_option maxRecDepth 20000 in
set_option maxHeartbeats 2000000 in
theorem joint7 (c d : Bool) (a1 a2 b1 b2 : Addr) (n1 n2 m1 m2 c1 c2 d1 d2 : Nat) (sh sh' : List Int) (w : World) (h1 : Row w (some a1) n1 sh) (k1 : Row w (some b1) m1 sh') (_hn2 : n2 ≤ 17592186044416) (_hm2 : m2 ≤ 17592186044416) (hA : n2 ≠ 1) (hB : m2 ≠ 1) (hn : n1 = m1) (hs : sh = sh') : Calls Try.prog 97 #[.agg #[.bool c, .slice (some a1) n1 c1, .slice (some a2) n2 c2], .agg #[.bool d, .slice (some b1) m1 d1, .slice (some b2) m2 d2]] w (JointOk w 0 sh) := by
  have hs1 := h1.small
  have hs2 := k1.small
  have H1 := hide h1
  have K1 := hide k1
  clear h1 k1
  have qa : ((n2 : Int) == 1) = false := by simp; omega
  have qb : ((m2 : Int) == 1) = false := by simp; omega
  subst hn
  have qn : ((n1 : Int) != (n1 : Int)) = false := by simp
  have HQ : Hid (decide (sh = sh') = true) := decide_eq_true hs
  clear hs
  have HB : Hid (∀ (o1 o2 : Obj) (q : Nat), Below w.heap.size w (((w.alloc o1).alloc o2).drewN q)) := fun o1 o2 q => Below.drewN (((Below.refl _ _).alloc (Nat.le_refl _) _).alloc (by simp) _) q
  go_enter Try.func97, Try.ntmps97
  go_wp2
  go_quiet (fail)
  go_wp2_with (first | (go_at_call 107; refine (slicesEqual_any a1 b1 _ _ _ _ sh sh' _ (((unhide H1).alloc _).alloc _ |>.drewN _) (((unhide K1).alloc _).alloc _ |>.drewN _)).mono ?_; rintro e w2 ⟨rfl, q', rfl⟩; rw [unhide HQ]) | (go_at_call 51; refine (Clone_any a1 n1 c1 sh _ (by first | exact (((unhide H1).alloc _).alloc _).drewN _ | exact ((((unhide H1).alloc _).alloc _).drewN _).drewN _)).mono ?_; rintro e w3 ⟨ash, csh, rfl, hcs, hO, hb3⟩; have HO : Hid (Own w3 (w.heap.size + 2) ash n1 sh) := hO.mono (by simp); have HL : Hid (Below w.heap.size w w3) := (by first | exact (unhide HB _ _ _).trans (hb3.mono (by simp; omega)) | exact (Below.drewN (unhide HB _ _ _) _).trans (hb3.mono (by simp; omega))); clear hO hb3))
  go_ret2
  exact ⟨.inl ⟨rfl, _, _, _, rfl, unhide HO⟩, unhide HL⟩

def jointCode (n1 n2 m1 m2 : Nat) (sh sh' : List Int) : Int := if wideB n1 n2 m1 m2 = true ∨ m2 = 1 then 0 else if n1 ≠ m1 then 4 else if sh ≠ sh' then 5 else 0
def jointSh (n1 n2 m1 m2 : Nat) (sh sh' : List Int) : List Int := if wideB n1 n2 m1 m2 = true then sh' else sh

theorem jointShape_any (c d : Bool) (a1 a2 b1 b2 : Addr) (n1 n2 m1 m2 c1 c2 d1 d2 : Nat) (sh sh' : List Int) (w : World) (h1 : Row w (some a1) n1 sh) (k1 : Row w (some b1) m1 sh') (hn2 : n2 ≤ 17592186044416) (hm2 : m2 ≤ 17592186044416) : Calls Try.prog 97 #[.agg #[.bool c, .slice (some a1) n1 c1, .slice (some a2) n2 c2], .agg #[.bool d, .slice (some b1) m1 d1, .slice (some b2) m2 d2]] w (JointOk w (jointCode n1 n2 m1 m2 sh sh') (jointSh n1 n2 m1 m2 sh sh')) := by
  by_cases hA : n2 = 1
  · by_cases hB : m2 = 1
    · by_cases hlt : n1 < m1
      · have e : wideB n1 n2 m1 m2 = true := by simp [wideB, hA, hlt]
        have e1 : jointCode n1 n2 m1 m2 sh sh' = 0 := by unfold jointCode; rw [if_pos (.inl e)]
        have e2 : jointSh n1 n2 m1 m2 sh sh' = sh' := by unfold jointSh; rw [if_pos e]
        rw [e1, e2]
        exact joint2 c d a1 a2 b1 b2 n1 n2 m1 m2 c1 c2 d1 d2 sh sh' w h1 k1 hn2 hm2 hA hB hlt
      · have e : wideB n1 n2 m1 m2 = false := by simp [wideB, hA, hB]; omega
        have e1 : jointCode n1 n2 m1 m2 sh sh' = 0 := by unfold jointCode; rw [if_pos (.inr hB)]
        have e2 : jointSh n1 n2 m1 m2 sh sh' = sh := by unfold jointSh; rw [if_neg (by rw [e]; simp)]
        rw [e1, e2]
        exact joint3 c d a1 a2 b1 b2 n1 n2 m1 m2 c1 c2 d1 d2 sh sh' w h1 k1 hn2 hm2 hA hB hlt
    · have e : wideB n1 n2 m1 m2 = true := by simp [wideB, hA, hB]
      have e1 : jointCode n1 n2 m1 m2 sh sh' = 0 := by unfold jointCode; rw [if_pos (.inl e)]
      have e2 : jointSh n1 n2 m1 m2 sh sh' = sh' := by unfold jointSh; rw [if_pos e]
      rw [e1, e2]
      exact joint1 c d a1 a2 b1 b2 n1 n2 m1 m2 c1 c2 d1 d2 sh sh' w h1 k1 hn2 hm2 hA hB
  · have e : wideB n1 n2 m1 m2 = false := by simp [wideB, hA]
    have e2 : jointSh n1 n2 m1 m2 sh sh' = sh := by unfold jointSh; rw [if_neg (by rw [e]; simp)]
    rw [e2]
    by_cases hB : m2 = 1
    · have e1 : jointCode n1 n2 m1 m2 sh sh' = 0 := by unfold jointCode; rw [if_pos (.inr hB)]
      rw [e1]
      exact joint4 c d a1 a2 b1 b2 n1 n2 m1 m2 c1 c2 d1 d2 sh sh' w h1 k1 hn2 hm2 hA hB
    · by_cases hn : n1 = m1
      · by_cases hs : sh = sh'
        · have e1 : jointCode n1 n2 m1 m2 sh sh' = 0 := by unfold jointCode; rw [if_neg (by rw [e]; simp [hB]), if_neg (by simp [hn]), if_neg (by simp [hs])]
          rw [e1]
          exact joint7 c d a1 a2 b1 b2 n1 n2 m1 m2 c1 c2 d1 d2 sh sh' w h1 k1 hn2 hm2 hA hB hn hs
        · have e1 : jointCode n1 n2 m1 m2 sh sh' = 5 := by unfold jointCode; rw [if_neg (by rw [e]; simp [hB]), if_neg (by simp [hn]), if_pos hs]
          rw [e1]
          exact joint6 c d a1 a2 b1 b2 n1 n2 m1 m2 c1 c2 d1 d2 sh sh' w h1 k1 hn2 hm2 hA hB hn hs
      · have e1 : jointCode n1 n2 m1 m2 sh sh' = 4 := by unfold jointCode; rw [if_neg (by rw [e]; simp [hB]), if_pos hn]
        rw [e1]
        exact joint5 c d a1 a2 b1 b2 n1 n2 m1 m2 c1 c2 d1 d2 sh sh' w h1 k1 hn2 hm2 hA hB hn

end Go.Proofs.Ytngbmcljhcckmaa
