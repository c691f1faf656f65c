import Derived.Test.YtgjpchnkodnieaaGreatDoorImplTwoD
import Derived.Laws.EntriesVeiled
import Derived.Deep.WholeRow
namespace Go.Proofs.YtgjpchnkodnieaaGreatDoor
open Go.RowKit Go.Shelf

set_option maxHeartbeats 400000 in
theorem opMinT (a b : Int) (w : World) (r : Int) (hr : Hid ((if a < b then a else b) = r)) : Calls Tryz.prog 256 #[.int .i64 a, .int .i64 b] w fun e w' => e = .returned (.int .i64 r) ∧ w' = w := by
  rw [← unhide hr]
  clear hr
  by_cases h : a < b
  · rw [if_pos h]
    go_enter Tryz.func256, Tryz.ntmps256
    go_wp2
    go_ret
    exact ⟨by first | rfl | (simp; done) | (simp; omega), rfl⟩
  · rw [if_neg h]
    by_cases h2 : a = b
    · subst h2
      go_enter Tryz.func256, Tryz.ntmps256
      go_wp2
      go_ret
      exact ⟨by first | rfl | (simp; done) | (simp; omega), rfl⟩
    · have h3 : b < a := by omega
      clear h2
      go_enter Tryz.func256, Tryz.ntmps256
      go_wp2
      go_ret
      exact ⟨by first | rfl | (simp; done) | (simp; omega), rfl⟩

set_option maxHeartbeats 400000 in
theorem opMaxT (a b : Int) (w : World) (r : Int) (hr : Hid ((if a < b then b else a) = r)) : Calls Tryz.prog 257 #[.int .i64 a, .int .i64 b] w fun e w' => e = .returned (.int .i64 r) ∧ w' = w := by
  rw [← unhide hr]
  clear hr
  by_cases h : a < b
  · rw [if_pos h]
    go_enter Tryz.func257, Tryz.ntmps257
    go_wp2
    go_ret
    exact ⟨by first | rfl | (simp; done) | (simp; omega), rfl⟩
  · rw [if_neg h]
    by_cases h2 : a = b
    · subst h2
      go_enter Tryz.func257, Tryz.ntmps257
      go_wp2
      go_ret
      exact ⟨by first | rfl | (simp; done) | (simp; omega), rfl⟩
    · have h3 : b < a := by omega
      clear h2
      go_enter Tryz.func257, Tryz.ntmps257
      go_wp2
      go_ret
      exact ⟨by first | rfl | (simp; done) | (simp; omega), rfl⟩

theorem logic_no {a b op : Int} (h : ¬ ((a = 0 ∨ a = 1) ∧ (b = 0 ∨ b = 1))) (hop : op = 15 ∨ op = 16) : twoOf op a b = (0, 3) := by
  rcases hop with rfl | rfl <;> simp [twoOf] <;> omega
theorem logic_and {a b : Int} (ha : a = 0 ∨ a = 1) (hb : b = 0 ∨ b = 1) : twoOf 15 a b = (if a < b then a else b, 0) := by
  rcases ha with rfl | rfl <;> rcases hb with rfl | rfl <;> decide
theorem logic_or {a b : Int} (ha : a = 0 ∨ a = 1) (hb : b = 0 ∨ b = 1) : twoOf 16 a b = (if a < b then b else a, 0) := by
  rcases ha with rfl | rfl <;> rcases hb with rfl | rfl <;> decide
theorem within01 {a : Int} (h : a = 0 ∨ a = 1) : withinB a 0 1 = true := decide_eq_true (by omega)
theorem within01_no {a : Int} (h : ¬ (a = 0 ∨ a = 1)) : withinB a 0 1 = false := decide_eq_false (by omega)

set_option maxHeartbeats 1000000 in
theorem opLogic (op a b : Int) (ga gb : Addr) (p : Nat) (w : World) (hG : Gl w ga gb) (hop : (op = 15 ∧ w.cell? ⟨p, 0, none⟩ = some (.func (.func 256) #[] #[])) ∨ (op = 16 ∧ w.cell? ⟨p, 0, none⟩ = some (.func (.func 257) #[] #[]))) :
    Calls Tryz.prog 282 #[.int .i64 a, .int .i64 b, .pointer (some ⟨p, 0, none⟩)] w (GivesEl ga gb (twoOf op a b) w) := by
  have hc := hG.no
  clear hG
  by_cases hA : a = 0 ∨ a = 1
  · have HWA := hide (within01 hA)
    by_cases hB : b = 0 ∨ b = 1
    · have HWB := hide (within01 hB)
      rcases hop with ⟨rfl, hf⟩ | ⟨rfl, hf⟩
      · have HE := hide (logic_and hA hB)
        obtain ⟨r, hr⟩ : ∃ r, (if a < b then a else b) = r := ⟨_, rfl⟩
        rw [hr] at HE
        have HR := hide hr
        clear hr hA hB
        go_enter Tryz.func282, Tryz.ntmps282
        go_wp2_with (first
          | (go_at_call_of 283 (Value.int .i64 a); refine (isTruth_eq _ _ _ HWA).mono ?_; rintro e w ⟨rfl, rfl⟩)
          | (go_at_call_of 283 (Value.int .i64 b); refine (isTruth_eq _ _ _ HWB).mono ?_; rintro e w ⟨rfl, rfl⟩)
          | (go_at_call 256; refine (opMinT _ _ _ _ HR).mono ?_; rintro e w ⟨rfl, rfl⟩))
        go_ret2
        exact gives_el (c := 0) (q := 0) HE.out rfl
      · have HE := hide (logic_or hA hB)
        obtain ⟨r, hr⟩ : ∃ r, (if a < b then b else a) = r := ⟨_, rfl⟩
        rw [hr] at HE
        have HR := hide hr
        clear hr hA hB
        go_enter Tryz.func282, Tryz.ntmps282
        go_wp2_with (first
          | (go_at_call_of 283 (Value.int .i64 a); refine (isTruth_eq _ _ _ HWA).mono ?_; rintro e w ⟨rfl, rfl⟩)
          | (go_at_call_of 283 (Value.int .i64 b); refine (isTruth_eq _ _ _ HWB).mono ?_; rintro e w ⟨rfl, rfl⟩)
          | (go_at_call 257; refine (opMaxT _ _ _ _ HR).mono ?_; rintro e w ⟨rfl, rfl⟩))
        go_ret2
        exact gives_el (c := 0) (q := 0) HE.out rfl
    · have HWB := hide (within01_no hB)
      have HE := hide (logic_no (op := op) (a := a) (b := b) (fun h => hB h.2) (by rcases hop with h | h; exact .inl h.1; exact .inr h.1))
      clear hop hA hB
      go_enter Tryz.func282, Tryz.ntmps282
      go_wp2_with (first
        | (go_at_call_of 283 (Value.int .i64 a); refine (isTruth_eq _ _ _ HWA).mono ?_; rintro e w ⟨rfl, rfl⟩)
        | (go_at_call_of 283 (Value.int .i64 b); refine (isTruth_eq _ _ _ HWB).mono ?_; rintro e w ⟨rfl, rfl⟩))
      go_quiet (fail)
      go_wp2
      go_ret2
      exact gives_el (c := 3) HE.out rfl
  · have HWA := hide (within01_no hA)
    have HE := hide (logic_no (op := op) (a := a) (b := b) (fun h => hA h.1) (by rcases hop with h | h; exact .inl h.1; exact .inr h.1))
    clear hop hA
    go_enter Tryz.func282, Tryz.ntmps282
    go_wp2_with (go_at_call 283; refine (isTruth_eq _ _ _ HWA).mono ?_; rintro e w ⟨rfl, rfl⟩)
    go_quiet (fail)
    go_wp2
    go_ret2
    exact gives_el (c := 3) HE.out rfl

/-- The value is a function that gives f of two numbers within bounds, in whatever world holds what lies in w. -/
def OpIs (ga gb : Addr) (f : Int → Int → Int × Int) (v : Value) (w : World) : Prop :=
  ∃ g lb, v = .func (.func g) #[] lb ∧ (∀ args w, (callFunc g args).run Tryz.prog w = .ok (.enter g args) w) ∧ ∀ (W : World) (a b : Int), Below w.heap.size w W → (-1000000000000000 ≤ a ∧ a ≤ 1000000000000000) → (-1000000000000000 ≤ b ∧ b ≤ 1000000000000000) → Calls Tryz.prog g (#[.int .i64 a, .int .i64 b] ++ lb) W (GivesEl ga gb (f a b) W)

theorem OpIs.below {ga gb : Addr} {f : Int → Int → Int × Int} {v : Value} {w w' : World} (h : OpIs ga gb f v w) (hb : Below w.heap.size w w') : OpIs ga gb f v w' := by
  obtain ⟨g, lb, hv, eg, hc⟩ := h
  exact ⟨g, lb, hv, eg, fun W a b hW ha hbb => hc W a b (hb.trans (hW.mono hb.size)) ha hbb⟩

theorem OpIs.alloc {ga gb : Addr} {f : Int → Int → Int × Int} {v : Value} {w : World} (h : OpIs ga gb f v w) (o : Obj) : OpIs ga gb f v (w.alloc o) := h.below ((Below.refl _ _).alloc (Nat.le_refl _) _)

/-- The table of operations; those for truths keep their function in the blocks p and q. -/
def opTab (p q : Nat) : Array Value := #[.nilFunc, .func (.func 238) #[] #[], .func (.func 240) #[] #[], .func (.func 241) #[] #[], .func (.func 242) #[] #[], .func (.func 243) #[] #[], .func (.func 244) #[] #[], .func (.func 245) #[] #[], .func (.func 247) #[] #[], .func (.func 248) #[] #[], .func (.func 250) #[] #[], .func (.func 251) #[] #[], .func (.func 252) #[] #[], .func (.func 253) #[] #[], .func (.func 254) #[] #[], .func (.func 282) #[] #[.pointer (some ⟨p, 0, none⟩)], .func (.func 282) #[] #[.pointer (some ⟨q, 0, none⟩)]]

theorem opTab_is (ga gb : Addr) (p q k : Nat) (v : Value) (w : World) (hG : Gl w ga gb) (hk : 1 ≤ k ∧ k ≤ 16) (hv : (opTab p q)[k]? = some v) (hp : w.cell? ⟨p, 0, none⟩ = some (.func (.func 256) #[] #[])) (hq : w.cell? ⟨q, 0, none⟩ = some (.func (.func 257) #[] #[])) : OpIs ga gb (twoOf k) v w := by
  have hpl := World.block_lt_of_cell? _ _ hp
  have hql := World.block_lt_of_cell? _ _ hq
  rcases (show k = 1 ∨ k = 2 ∨ k = 3 ∨ k = 4 ∨ k = 5 ∨ k = 6 ∨ k = 7 ∨ k = 8 ∨ k = 9 ∨ k = 10 ∨ k = 11 ∨ k = 12 ∨ k = 13 ∨ k = 14 ∨ k = 15 ∨ k = 16 by omega) with rfl | rfl | rfl | rfl | rfl | rfl | rfl | rfl | rfl | rfl | rfl | rfl | rfl | rfl | rfl | rfl
  all_goals (obtain rfl := Option.some.inj hv)
  · exact ⟨_, _, rfl, enters_of Tryz.func238 (by kernel_rfl) rfl, fun W a b hW ha hb => opAdd a b ga gb W (hG.below hW) ha hb⟩
  · exact ⟨_, _, rfl, enters_of Tryz.func240 (by kernel_rfl) rfl, fun W a b hW ha hb => opSub a b ga gb W (hG.below hW) ha hb⟩
  · exact ⟨_, _, rfl, enters_of Tryz.func241 (by kernel_rfl) rfl, fun W a b hW ha hb => opMul a b ga gb W (hG.below hW) ha hb⟩
  · exact ⟨_, _, rfl, enters_of Tryz.func242 (by kernel_rfl) rfl, fun W a b hW ha hb => opDiv a b ga gb W (hG.below hW) ha hb⟩
  · exact ⟨_, _, rfl, enters_of Tryz.func243 (by kernel_rfl) rfl, fun W a b _ ha hb => opMin a b ga gb W ha hb⟩
  · exact ⟨_, _, rfl, enters_of Tryz.func244 (by kernel_rfl) rfl, fun W a b _ ha hb => opMax a b ga gb W ha hb⟩
  · exact ⟨_, _, rfl, enters_of Tryz.func245 (by kernel_rfl) rfl, fun W a b _ ha hb => opMod a b ga gb W ha hb⟩
  · exact ⟨_, _, rfl, enters_of Tryz.func247 (by kernel_rfl) rfl, fun W a b hW ha hb => opPow a b ga gb W (hG.below hW) ha hb⟩
  · exact ⟨_, _, rfl, enters_of Tryz.func248 (by kernel_rfl) rfl, fun W a b _ ha hb => opEqual a b ga gb W ha hb⟩
  · exact ⟨_, _, rfl, enters_of Tryz.func250 (by kernel_rfl) rfl, fun W a b _ ha hb => opNe a b ga gb W ha hb⟩
  · exact ⟨_, _, rfl, enters_of Tryz.func251 (by kernel_rfl) rfl, fun W a b _ ha hb => opLt a b ga gb W ha hb⟩
  · exact ⟨_, _, rfl, enters_of Tryz.func252 (by kernel_rfl) rfl, fun W a b _ ha hb => opLe a b ga gb W ha hb⟩
  · exact ⟨_, _, rfl, enters_of Tryz.func253 (by kernel_rfl) rfl, fun W a b _ ha hb => opGe a b ga gb W ha hb⟩
  · exact ⟨_, _, rfl, enters_of Tryz.func254 (by kernel_rfl) rfl, fun W a b _ ha hb => opGt a b ga gb W ha hb⟩
  · exact ⟨_, _, rfl, enters_of Tryz.func282 (by kernel_rfl) rfl, fun W a b hW _ _ => opLogic 15 a b ga gb p W (hG.below hW) (.inl ⟨rfl, (hW.cell (p := ⟨p, 0, none⟩) hpl).trans hp⟩)⟩
  · exact ⟨_, _, rfl, enters_of Tryz.func282 (by kernel_rfl) rfl, fun W a b hW _ _ => opLogic 16 a b ga gb q W (hG.below hW) (.inr ⟨rfl, (hW.cell (p := ⟨q, 0, none⟩) hql).trans hq⟩)⟩

set_option maxHeartbeats 400000 in
theorem ofTruths_any (v : Value) (hv : v = .func (.func 256) #[] #[] ∨ v = .func (.func 257) #[] #[]) (w : World) : Calls Tryz.prog 255 #[v] w fun e w' => e = .returned (.func (.func 282) #[] #[.pointer (some ⟨w.heap.size, 0, none⟩)]) ∧ w' = w.alloc (.cells #[v] 91) := by
  rcases hv with rfl | rfl
  all_goals
    go_enter Tryz.func255, Tryz.ntmps255
    go_wp2
    go_ret
    exact ⟨rfl, rfl⟩

end Go.Proofs.YtgjpchnkodnieaaGreatDoor
