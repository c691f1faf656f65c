import Derived.Test.YtpondlabofeohaaDoorImplTwoD
import Derived.Laws.EntriesVeiled
import Derived.Deep.WholeRow
namespace Go.Proofs.YtpondlabofeohaaDoor
open Go.RowKit Go.Shelf

set_option maxHeartbeats 400000 in
theorem opMinT (a b : Int) (w : World) (r : Int) (hr : Hid ((if a < b then a else b) = r)) : Calls Tryd.prog 112 #[.int .i64 a, .int .i64 b] w fun e w' => e = .returned (.int .i64 r) ∧ w' = w := by
  rw [← unhide hr]
  clear hr
  by_cases h : a < b
  · rw [if_pos h]
    go_enter Tryd.func112, Tryd.ntmps112
    go_wp2
    go_ret
    exact ⟨rfl, rfl⟩
  · rw [if_neg h]
    by_cases h2 : a = b
    · subst h2
      go_enter Tryd.func112, Tryd.ntmps112
      go_wp2
      go_ret
      exact ⟨rfl, rfl⟩
    · have h3 : b < a := by omega
      clear h2
      go_enter Tryd.func112, Tryd.ntmps112
      go_wp2
      go_ret
      exact ⟨rfl, rfl⟩

set_option maxHeartbeats 400000 in
theorem opMaxT (a b : Int) (w : World) (r : Int) (hr : Hid ((if a < b then b else a) = r)) : Calls Tryd.prog 113 #[.int .i64 a, .int .i64 b] w fun e w' => e = .returned (.int .i64 r) ∧ w' = w := by
  rw [← unhide hr]
  clear hr
  by_cases h : a < b
  · rw [if_pos h]
    go_enter Tryd.func113, Tryd.ntmps113
    go_wp2
    go_ret
    exact ⟨rfl, rfl⟩
  · rw [if_neg h]
    by_cases h2 : a = b
    · subst h2
      go_enter Tryd.func113, Tryd.ntmps113
      go_wp2
      go_ret
      exact ⟨rfl, rfl⟩
    · have h3 : b < a := by omega
      clear h2
      go_enter Tryd.func113, Tryd.ntmps113
      go_wp2
      go_ret
      exact ⟨rfl, rfl⟩

theorem logic_no {a b op : Int} (h : ¬ ((a = 0 ∨ a = 1) ∧ (b = 0 ∨ b = 1))) (hop : op = 15 ∨ op = 16) : twoOf op a b = (0, 3) := by
  rcases hop with rfl | rfl <;> simp [twoOf] <;> omega
theorem logic_and {a b : Int} (ha : a = 0 ∨ a = 1) (hb : b = 0 ∨ b = 1) : twoOf 15 a b = (if a < b then a else b, 0) := by
  rcases ha with rfl | rfl <;> rcases hb with rfl | rfl <;> decide
theorem logic_or {a b : Int} (ha : a = 0 ∨ a = 1) (hb : b = 0 ∨ b = 1) : twoOf 16 a b = (if a < b then b else a, 0) := by
  rcases ha with rfl | rfl <;> rcases hb with rfl | rfl <;> decide
theorem within01 {a : Int} (h : a = 0 ∨ a = 1) : withinB a 0 1 = true := decide_eq_true (by omega)
theorem within01_no {a : Int} (h : ¬ (a = 0 ∨ a = 1)) : withinB a 0 1 = false := decide_eq_false (by omega)

set_option maxHeartbeats 1000000 in
theorem opLogic (op a b : Int) (ga gb : Addr) (p : Nat) (w : World) (hG : Gl w ga gb) (hop : (op = 15 ∧ w.cell? ⟨p, 0, none⟩ = some (.func (.func 112) #[] #[])) ∨ (op = 16 ∧ w.cell? ⟨p, 0, none⟩ = some (.func (.func 113) #[] #[]))) :
    Calls Tryd.prog 117 #[.int .i64 a, .int .i64 b, .pointer (some ⟨p, 0, none⟩)] w (GivesEl ga gb (twoOf op a b) w) := by
  have hc := hG.no
  clear hG
  by_cases hA : a = 0 ∨ a = 1
  · have HWA := hide (within01 hA)
    by_cases hB : b = 0 ∨ b = 1
    · have HWB := hide (within01 hB)
      rcases hop with ⟨rfl, hf⟩ | ⟨rfl, hf⟩
      · have HE := hide (logic_and hA hB)
        obtain ⟨r, hr⟩ : ∃ r, (if a < b then a else b) = r := ⟨_, rfl⟩
        rw [hr] at HE
        have HR := hide hr
        clear hr hA hB
        go_enter Tryd.func117, Tryd.ntmps117
        go_wp2_with (first
          | (go_at_call_of 85 (Value.int .i64 a); refine (isTruth_eq _ _ _ HWA).mono ?_; rintro e w ⟨rfl, rfl⟩)
          | (go_at_call_of 85 (Value.int .i64 b); refine (isTruth_eq _ _ _ HWB).mono ?_; rintro e w ⟨rfl, rfl⟩)
          | (go_at_call 112; refine (opMinT _ _ _ _ HR).mono ?_; rintro e w ⟨rfl, rfl⟩))
        go_ret2
        exact gives_el (c := 0) (q := 0) HE.out rfl
      · have HE := hide (logic_or hA hB)
        obtain ⟨r, hr⟩ : ∃ r, (if a < b then b else a) = r := ⟨_, rfl⟩
        rw [hr] at HE
        have HR := hide hr
        clear hr hA hB
        go_enter Tryd.func117, Tryd.ntmps117
        go_wp2_with (first
          | (go_at_call_of 85 (Value.int .i64 a); refine (isTruth_eq _ _ _ HWA).mono ?_; rintro e w ⟨rfl, rfl⟩)
          | (go_at_call_of 85 (Value.int .i64 b); refine (isTruth_eq _ _ _ HWB).mono ?_; rintro e w ⟨rfl, rfl⟩)
          | (go_at_call 113; refine (opMaxT _ _ _ _ HR).mono ?_; rintro e w ⟨rfl, rfl⟩))
        go_ret2
        exact gives_el (c := 0) (q := 0) HE.out rfl
    · have HWB := hide (within01_no hB)
      have HE := hide (logic_no (op := op) (a := a) (b := b) (fun h => hB h.2) (by rcases hop with h | h; exact .inl h.1; exact .inr h.1))
      clear hop hA hB
      go_enter Tryd.func117, Tryd.ntmps117
      go_wp2_with (first
        | (go_at_call_of 85 (Value.int .i64 a); refine (isTruth_eq _ _ _ HWA).mono ?_; rintro e w ⟨rfl, rfl⟩)
        | (go_at_call_of 85 (Value.int .i64 b); refine (isTruth_eq _ _ _ HWB).mono ?_; rintro e w ⟨rfl, rfl⟩))
      go_quiet (fail)
      go_wp2
      go_ret2
      exact gives_el (c := 3) HE.out rfl
  · have HWA := hide (within01_no hA)
    have HE := hide (logic_no (op := op) (a := a) (b := b) (fun h => hA h.1) (by rcases hop with h | h; exact .inl h.1; exact .inr h.1))
    clear hop hA
    go_enter Tryd.func117, Tryd.ntmps117
    go_wp2_with (go_at_call 85; refine (isTruth_eq _ _ _ HWA).mono ?_; rintro e w ⟨rfl, rfl⟩)
    go_quiet (fail)
    go_wp2
    go_ret2
    exact gives_el (c := 3) HE.out rfl

/-- The value is a function that gives f of two numbers within bounds, in whatever world holds what lies in w. -/
def OpIs (ga gb : Addr) (f : Int → Int → Int × Int) (v : Value) (w : World) : Prop :=
  ∃ g lb, v = .func (.func g) #[] lb ∧ (∀ args w, (callFunc g args).run Tryd.prog w = .ok (.enter g args) w) ∧ ∀ (W : World) (a b : Int), Below w.heap.size w W → (-1000000000000000 ≤ a ∧ a ≤ 1000000000000000) → (-1000000000000000 ≤ b ∧ b ≤ 1000000000000000) → Calls Tryd.prog g (#[.int .i64 a, .int .i64 b] ++ lb) W (GivesEl ga gb (f a b) W)

theorem OpIs.below {ga gb : Addr} {f : Int → Int → Int × Int} {v : Value} {w w' : World} (h : OpIs ga gb f v w) (hb : Below w.heap.size w w') : OpIs ga gb f v w' := by
  obtain ⟨g, lb, hv, eg, hc⟩ := h
  exact ⟨g, lb, hv, eg, fun W a b hW ha hbb => hc W a b (hb.trans (hW.mono hb.size)) ha hbb⟩

theorem OpIs.alloc {ga gb : Addr} {f : Int → Int → Int × Int} {v : Value} {w : World} (h : OpIs ga gb f v w) (o : Obj) : OpIs ga gb f v (w.alloc o) := h.below ((Below.refl _ _).alloc (Nat.le_refl _) _)

/-- The table of operations; those for truths keep their function in the blocks p and q. -/
def opTab (p q : Nat) : Array Value := #[.nilFunc, .func (.func 94) #[] #[], .func (.func 96) #[] #[], .func (.func 97) #[] #[], .func (.func 98) #[] #[], .func (.func 99) #[] #[], .func (.func 100) #[] #[], .func (.func 101) #[] #[], .func (.func 103) #[] #[], .func (.func 104) #[] #[], .func (.func 106) #[] #[], .func (.func 107) #[] #[], .func (.func 108) #[] #[], .func (.func 109) #[] #[], .func (.func 110) #[] #[], .func (.func 117) #[] #[.pointer (some ⟨p, 0, none⟩)], .func (.func 117) #[] #[.pointer (some ⟨q, 0, none⟩)]]

theorem opTab_is (ga gb : Addr) (p q k : Nat) (v : Value) (w : World) (hG : Gl w ga gb) (hk : 1 ≤ k ∧ k ≤ 16) (hv : (opTab p q)[k]? = some v) (hp : w.cell? ⟨p, 0, none⟩ = some (.func (.func 112) #[] #[])) (hq : w.cell? ⟨q, 0, none⟩ = some (.func (.func 113) #[] #[])) : OpIs ga gb (twoOf k) v w := by
  have hpl := World.block_lt_of_cell? _ _ hp
  have hql := World.block_lt_of_cell? _ _ hq
  rcases (show k = 1 ∨ k = 2 ∨ k = 3 ∨ k = 4 ∨ k = 5 ∨ k = 6 ∨ k = 7 ∨ k = 8 ∨ k = 9 ∨ k = 10 ∨ k = 11 ∨ k = 12 ∨ k = 13 ∨ k = 14 ∨ k = 15 ∨ k = 16 by omega) with rfl | rfl | rfl | rfl | rfl | rfl | rfl | rfl | rfl | rfl | rfl | rfl | rfl | rfl | rfl | rfl
  all_goals (obtain rfl := Option.some.inj hv)
  · exact ⟨_, _, rfl, enters_of Tryd.func94 (by kernel_rfl) rfl, fun W a b hW ha hb => opAdd a b ga gb W (hG.below hW) ha hb⟩
  · exact ⟨_, _, rfl, enters_of Tryd.func96 (by kernel_rfl) rfl, fun W a b hW ha hb => opSub a b ga gb W (hG.below hW) ha hb⟩
  · exact ⟨_, _, rfl, enters_of Tryd.func97 (by kernel_rfl) rfl, fun W a b hW ha hb => opMul a b ga gb W (hG.below hW) ha hb⟩
  · exact ⟨_, _, rfl, enters_of Tryd.func98 (by kernel_rfl) rfl, fun W a b hW ha hb => opDiv a b ga gb W (hG.below hW) ha hb⟩
  · exact ⟨_, _, rfl, enters_of Tryd.func99 (by kernel_rfl) rfl, fun W a b _ ha hb => opMin a b ga gb W ha hb⟩
  · exact ⟨_, _, rfl, enters_of Tryd.func100 (by kernel_rfl) rfl, fun W a b _ ha hb => opMax a b ga gb W ha hb⟩
  · exact ⟨_, _, rfl, enters_of Tryd.func101 (by kernel_rfl) rfl, fun W a b _ ha hb => opMod a b ga gb W ha hb⟩
  · exact ⟨_, _, rfl, enters_of Tryd.func103 (by kernel_rfl) rfl, fun W a b hW ha hb => opPow a b ga gb W (hG.below hW) ha hb⟩
  · exact ⟨_, _, rfl, enters_of Tryd.func104 (by kernel_rfl) rfl, fun W a b _ ha hb => opEqual a b ga gb W ha hb⟩
  · exact ⟨_, _, rfl, enters_of Tryd.func106 (by kernel_rfl) rfl, fun W a b _ ha hb => opNe a b ga gb W ha hb⟩
  · exact ⟨_, _, rfl, enters_of Tryd.func107 (by kernel_rfl) rfl, fun W a b _ ha hb => opLt a b ga gb W ha hb⟩
  · exact ⟨_, _, rfl, enters_of Tryd.func108 (by kernel_rfl) rfl, fun W a b _ ha hb => opLe a b ga gb W ha hb⟩
  · exact ⟨_, _, rfl, enters_of Tryd.func109 (by kernel_rfl) rfl, fun W a b _ ha hb => opGe a b ga gb W ha hb⟩
  · exact ⟨_, _, rfl, enters_of Tryd.func110 (by kernel_rfl) rfl, fun W a b _ ha hb => opGt a b ga gb W ha hb⟩
  · exact ⟨_, _, rfl, enters_of Tryd.func117 (by kernel_rfl) rfl, fun W a b hW _ _ => opLogic 15 a b ga gb p W (hG.below hW) (.inl ⟨rfl, (hW.cell (p := ⟨p, 0, none⟩) hpl).trans hp⟩)⟩
  · exact ⟨_, _, rfl, enters_of Tryd.func117 (by kernel_rfl) rfl, fun W a b hW _ _ => opLogic 16 a b ga gb q W (hG.below hW) (.inr ⟨rfl, (hW.cell (p := ⟨q, 0, none⟩) hql).trans hq⟩)⟩

set_option maxHeartbeats 400000 in
theorem ofTruths_any (v : Value) (hv : v = .func (.func 112) #[] #[] ∨ v = .func (.func 113) #[] #[]) (w : World) : Calls Tryd.prog 111 #[v] w fun e w' => e = .returned (.func (.func 117) #[] #[.pointer (some ⟨w.heap.size, 0, none⟩)]) ∧ w' = w.alloc (.cells #[v] 95) := by
  rcases hv with rfl | rfl
  all_goals
    go_enter Tryd.func111, Tryd.ntmps111
    go_wp2
    go_ret
    exact ⟨rfl, rfl⟩

end Go.Proofs.YtpondlabofeohaaDoor
