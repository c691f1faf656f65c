import Derived.Test.YtgjpchnkodnieaaGreatDoorMFit0
import Derived.Test.YtgjpchnkodnieaaGreatDoorMFit0
import Derived.Test.YtgjpchnkodnieaaGreatDoorMFit1
import Derived.Test.YtgjpchnkodnieaaGreatDoorMFit0
import Derived.Test.YtgjpchnkodnieaaGreatDoorMFit1
import Derived.Test.YtgjpchnkodnieaaGreatDoorChecked
import Derived.WalkKit
import Derived.LaidEql
import Derived.Stop.Asserts
import Derived.RowKitTokens
import Derived.Shelf.Abstract
import Derived.BigQuiet
import Derived.Laws.EntriesVeiled
import Derived.Deep.WholeRow
import Derived.WalkSpells
import Derived.Lib.SliceRun
import Derived.Deep.DeepCutAuto
import Derived.RangeFuncRecord
import Derived.RangeFuncNested
import Derived.RangeFuncLeaves
import Derived.RangeFuncBound
import Derived.RangeFuncCalls
import Derived.Shelf.RegionOpen
import Derived.OwnWalkIn
import Derived.TacticsInMore
import Derived.LoopNIn
import Derived.LoopIn
import Derived.Laws.CopyOwn
import Derived.Laws.Bits64b
import Derived.Deep.RegionHeld3
namespace Go.Proofs.YtgjpchnkodnieaaGreatDoor

/-- The numbers n, n - 1, .. down to 1. -/
def downTo (n : Nat) : List Int := (List.range n).map fun i => ((n - i : Nat) : Int)
theorem downTo_len (n : Nat) : (downTo n).length = n := by simp [downTo]

def iotaA (c : Bool) (dt : List Int) : Ans :=
  if singleCode c dt.length ≠ 0 then noAns (singleCode c dt.length) else if dt.getD 0 0 < 0 then noAns 3 else if 10000 < dt.getD 0 0 then noAns 7
  else ⟨false, [dt.getD 0 0], upTo (dt.getD 0 0).toNat, 0⟩

/-- What Monad means. -/
def monadA (op : Int) (c : Bool) (sh dt : List Int) : Ans :=
  if arrOk c sh dt = true ∧ 1 ≤ op ∧ op ≤ 33 then
    if oneOp op = true then scalar1 op c sh dt
    else if op = 18 then ⟨false, [(sh.length : Int)], sh, 0⟩
    else if op = 19 then iotaA c dt
    else if op = 20 ∨ op = 28 then ⟨c, [(dt.length : Int)], dt, 0⟩
    else if op = 21 then revA c sh dt false
    else if op = 22 then revA c sh dt true
    else if op = 23 then transpose false c [(sh.length : Int)] (downTo sh.length) sh dt
    else if op = 24 then ⟨c, [], [if dt = [] then fillOf c else dt.getD 0 0], 0⟩
    else if op = 26 then gradeA c sh dt false
    else if op = 27 then gradeA c sh dt true
    else if op = 33 then ⟨false, [], [if sh = [] then 1 else sh.getD 0 0], 0⟩
    else noAns 1
  else noAns 3

section
variable {op : Int} {c : Bool} {sh dt : List Int}
theorem mon_bad (h : ¬ (arrOk c sh dt = true ∧ 1 ≤ op ∧ op ≤ 33)) : monadA op c sh dt = noAns 3 := by unfold monadA; rw [if_neg h]
theorem mon_one (h : arrOk c sh dt = true) (ho : op = 1 ∨ op = 2 ∨ op = 3 ∨ op = 7 ∨ op = 17) : monadA op c sh dt = scalar1 op c sh dt := by
  unfold monadA; rw [if_pos ⟨h, by omega, by omega⟩, if_pos (show oneOp op = true from decide_eq_true ho)]
theorem mon_is (h : arrOk c sh dt = true) (h1 : 1 ≤ op ∧ op ≤ 33) (ho : oneOp op = false) : monadA op c sh dt = (if op = 18 then ⟨false, [(sh.length : Int)], sh, 0⟩
    else if op = 19 then iotaA c dt
    else if op = 20 ∨ op = 28 then ⟨c, [(dt.length : Int)], dt, 0⟩
    else if op = 21 then revA c sh dt false
    else if op = 22 then revA c sh dt true
    else if op = 23 then transpose false c [(sh.length : Int)] (downTo sh.length) sh dt
    else if op = 24 then ⟨c, [], [if dt = [] then fillOf c else dt.getD 0 0], 0⟩
    else if op = 26 then gradeA c sh dt false
    else if op = 27 then gradeA c sh dt true
    else if op = 33 then ⟨false, [], [if sh = [] then 1 else sh.getD 0 0], 0⟩
    else noAns 1) := by unfold monadA; rw [if_pos ⟨h, h1⟩, if_neg (by rw [ho]; decide)]
end

end Go.Proofs.YtgjpchnkodnieaaGreatDoor
namespace Go.Proofs.YtgjpchnkodnieaaGreatDoor

theorem vals_set (f : Nat → Int × Int) (m k : Nat) : (vals f k ++ List.replicate (m + 1) (0 : Int)).set k (f k).1 = vals f (k + 1) ++ List.replicate m 0 := by
  have hk : (vals f k).length = k := vals_len f k
  rw [List.replicate_succ, List.set_append_right _ _ (by omega), hk, Nat.sub_self, List.set_cons_zero]
  simp [vals, List.range_succ]

theorem vals_pre_len (f : Nat → Int × Int) (n k : Nat) (h : k ≤ n) : (vals f k ++ List.replicate (n - k) (0 : Int)).length = n := by
  simp [vals_len]; omega

end Go.Proofs.YtgjpchnkodnieaaGreatDoor
namespace Go.Proofs.YtgjpchnkodnieaaGreatDoor
open Go.RowKit Go.Extern.Stop Go.Stop Go.Extern

theorem is_typeOf (v : Value) (w : World) : (Extern.ReflectliteType.typeOf #[.iface 278 v]).run Tryz.prog w = .ok (.iface 253 (.agg #[.pointer (some ⟨3, 278, none⟩)])) w := by kernel_rfl
/-- The model's entry for (rtype).Comparable, under a name of its own. -/
def cmpEntry : Array Value → Sem Value := Extern.ReflectliteType.method fun t => do Extern.Rtype.noPackHeld "Comparable" t; pure (.bool (← typeInfo t).comparable)
theorem is_comparable (w : World) : (cmpEntry #[.agg #[.pointer (some ⟨3, 278, none⟩)]]).run Tryz.prog w = .ok (.bool true) w := by kernel_rfl
theorem is_methodComparable (v : Value) (w : World) : (Go.method 414 253 v "Comparable").run Tryz.prog w = .ok (358, v) w := by kernel_rfl
theorem is_comp : (Tryz.prog.info? 278).map (·.comparable) = some true := by kernel_rfl
theorem is_size : (Tryz.prog.info? 302).map (·.size) = some 1 := by kernel_rfl
theorem is_noIs (v : Value) (xT : TypeId) (w : World) : (Instr.typeAssert (.iface 278 v) xT 255 true).run Tryz.prog w = .ok (.tuple #[.nilIface, .bool false]) w := run_typeAssert_lacksB Tryz.underlying255 (by kernel_rfl) (by kernel_rfl) v xT w
theorem is_noUnwrap (v : Value) (xT : TypeId) (w : World) : (Instr.typeAssert (.iface 278 v) xT 258 true).run Tryz.prog w = .ok (.tuple #[.nilIface, .bool false]) w := run_typeAssert_lacksB Tryz.underlying258 (by kernel_rfl) (by kernel_rfl) v xT w
theorem is_noUnwraps (v : Value) (xT : TypeId) (w : World) : (Instr.typeAssert (.iface 278 v) xT 260 true).run Tryz.prog w = .ok (.tuple #[.nilIface, .bool false]) w := run_typeAssert_lacksB Tryz.underlying260 (by kernel_rfl) (by kernel_rfl) v xT w

/-- errors.Is(x, x), x a pointer to an errors.errorString. -/
theorem is_same (a : Addr) (w : World) :
    Calls Tryz.prog 258 #[.iface 278 (.pointer (some a)), .iface 278 (.pointer (some a))] w fun e w' => e = .returned (.bool true) ∧ w' = w := by
  obtain ⟨i, hi, hcmp⟩ := Option.map_eq_some_iff.1 is_comp
  obtain ⟨j, hj, hjs⟩ := Option.map_eq_some_iff.1 is_size
  have h8 := @run_callFunc_extern Tryz.prog 284 _ Extern.ReflectliteType.typeOf Tryz.func284 (by kernel_rfl) (by kernel_rfl) (by kernel_rfl) (by kernel_rfl)
  have h32 := @run_callFunc_extern Tryz.prog 358 _ cmpEntry Tryz.func358 (by kernel_rfl) (by kernel_rfl) (by kernel_rfl) (by kernel_rfl)
  have tT := is_typeOf
  have cT := is_comparable
  have mR := is_methodComparable
  have heq := run_eql_iface_ptr_same (P := Tryz.prog) w a Tryz.underlying143 Tryz.underlying278 hi hcmp hj
  go_enter Tryz.func258, Tryz.ntmps258
  go_wp2
  refine wp_loop_rounds 1 ?_
  rw [rounds_succ]
  go_wp2
  go_ret
  exact ⟨rfl, rfl⟩

/-- errors.Is(x, y), two different pointers to errors.errorString. -/
theorem is_other (a b : Addr) (ca cb : Array Value) (ta tb : TypeId) (w : World) (hne : a ≠ b) (ha : w.heap[a.block]? = some (.cells ca ta (0, 0))) (hb : w.heap[b.block]? = some (.cells cb tb (0, 0))) :
    Calls Tryz.prog 258 #[.iface 278 (.pointer (some a)), .iface 278 (.pointer (some b))] w fun e w' => e = .returned (.bool false) ∧ w' = w := by
  obtain ⟨i, hi, hcmp⟩ := Option.map_eq_some_iff.1 is_comp
  obtain ⟨j, hj, hjs⟩ := Option.map_eq_some_iff.1 is_size
  have h8 := @run_callFunc_extern Tryz.prog 284 _ Extern.ReflectliteType.typeOf Tryz.func284 (by kernel_rfl) (by kernel_rfl) (by kernel_rfl) (by kernel_rfl)
  have h32 := @run_callFunc_extern Tryz.prog 358 _ cmpEntry Tryz.func358 (by kernel_rfl) (by kernel_rfl) (by kernel_rfl) (by kernel_rfl)
  have tT := is_typeOf
  have cT := is_comparable
  have mR := is_methodComparable
  have nE := is_noIs
  have uE := is_noUnwrap
  have vE := is_noUnwraps
  have heq := run_eql_iface_ptr_other (P := Tryz.prog) w Tryz.underlying143 Tryz.underlying278 hi hcmp hj (by rw [hjs]; decide) hne ha hb
  go_enter Tryz.func258, Tryz.ntmps258
  go_wp2
  refine wp_loop_rounds 1 ?_
  rw [rounds_succ]
  go_wp2
  go_ret
  exact ⟨rfl, rfl⟩

set_option maxHeartbeats 400000 in
theorem codeOf_big (a b : Addr) (w : World) (hG : Gl w a b) : Calls Tryz.prog 190 #[errV a b 7] w fun e w' => e = .returned (.int .i64 7) ∧ w' = w := by
  have hc := hG.big
  rw [errV_7]
  go_enter Tryz.func190, Tryz.ntmps190
  go_wp2_with (go_at_call 258; refine (is_same b _).mono ?_; rintro e w' ⟨rfl, rfl⟩)
  go_ret
  exact ⟨rfl, rfl⟩

set_option maxHeartbeats 400000 in
theorem codeOf_no (a b : Addr) (w : World) (hG : Gl w a b) : Calls Tryz.prog 190 #[errV a b 3] w fun e w' => e = .returned (.int .i64 3) ∧ w' = w := by
  have hc := hG.big
  obtain ⟨ca, ta, h4⟩ := hG.rowA
  obtain ⟨cb, tb, h5⟩ := hG.rowB
  have HN := hide hG.ne
  have H4 := hide h4
  have H5 := hide h5
  clear h4 h5 hG
  rw [errV_3]
  go_enter Tryz.func190, Tryz.ntmps190
  go_wp2_with (go_at_call 258; refine (is_other a b _ _ _ _ _ (unhide HN) (unhide H4) (unhide H5)).mono ?_; rintro e w' ⟨rfl, rfl⟩)
  go_ret
  exact ⟨rfl, rfl⟩

theorem codeOf_any (a b : Addr) (code : Int) (w : World) (hG : Gl w a b) (hc : codeIn code) (h0 : code ≠ 0) : Calls Tryz.prog 190 #[errV a b code] w fun e w' => e = .returned (.int .i64 code) ∧ w' = w := by
  rcases hc with h | rfl | rfl
  · exact absurd h h0
  · exact codeOf_no a b w hG
  · exact codeOf_big a b w hG

end Go.Proofs.YtgjpchnkodnieaaGreatDoor
namespace Go.Proofs.YtgjpchnkodnieaaGreatDoor
open Go.RowKit Go.Shelf

/-- The function value (g, lb) gives at each place below n what f says, in whatever world holds what lay in w. -/
def ElemOk (a b : Addr) (g : Nat) (lb : Array Value) (f : Nat → Int × Int) (n : Nat) (w : World) : Prop :=
  ∀ k, k < n → ∀ W, Below w.heap.size w W → Calls Tryz.prog g (#[.int .i64 (k : Nat)] ++ lb) W fun e w' => e = .returned (.tuple #[.int .i64 (f k).1, errV a b (f k).2]) ∧ Below W.heap.size W w'

theorem ElemOk.low {a b : Addr} {g : Nat} {lb : Array Value} {f : Nat → Int × Int} {n : Nat} {w w1 : World} (h : ElemOk a b g lb f n w) (hb : Below w.heap.size w w1) : ElemOk a b g lb f n w1 :=
  fun k hk W hW => h k hk W (hb.trans (hW.mono hb.size))

theorem neq_nil_nil (w : World) : (binOp .neq 143 .nilIface .nilIface).run Tryz.prog w = .ok (.bool false) w := by kernel_rfl

set_option maxHeartbeats 2000000 in
theorem listOf_any (a b : Addr) (g : Nat) (lb : Array Value) (eg : ∀ args w, (callFunc g args).run Tryz.prog w = .ok (.enter g args) w) (f : Nat → Int × Int) (n : Nat) (w : World) (hn : n ≤ 17592186044416) (hf : ∀ k, k < n → codeIn (f k).2) (hE : ElemOk a b g lb f n w) :
    Calls Tryz.prog 121 #[.int .i64 (n : Nat), .func (.func g) #[] lb] w fun e w' =>
      ((firstCode f n = 0 ∧ e = .returned (.tuple #[.slice (some ⟨w.heap.size, 0, none⟩) n n, .nilIface]) ∧ Blk w' w.heap.size (vals f n)) ∨ (firstCode f n ≠ 0 ∧ codeIn (firstCode f n) ∧ e = .returned (.tuple #[.slice none 0 0, errV a b (firstCode f n)]))) ∧ Below w.heap.size w w' := by
  have HE := hide hE
  have HF := hide hf
  clear hE hf
  obtain ⟨i0, hi, hz0, hz1, hz2⟩ := info_parts info_int
  go_enter Tryz.func121, Tryz.ntmps121
  go_wp2_with (at_make; refine wpList_make_full _ rfl _ _ 23 rfl w.heap.size 3 i0 (.int .i64 0) 1 Tryz.underlying23 hi hz0 hz1 _ _ _ _ n rfl rfl rfl rfl (by rw [hz2]; omega) (by unfold maxLen; omega) (Nat.le_refl _) ?_; intro w1 hown hgrow)
  have hblk : Blk w1 w.heap.size (vals f 0 ++ List.replicate (n - 0) 0) := Blk.of_owns (n := n) (base := w.heap.size) (by simpa [toList_madeCells_one, Value.cells, vals] using hown)
  have hbel : Below w.heap.size w w1 := (Below.refl _ _).grown hgrow (Nat.le_refl _) (by simp)
  clear hown hgrow hi hz0 hz1 hz2
  have HBK := hide hblk
  have HBL := hide hbel
  clear hblk hbel
  go_wp2
  go_loopw [7, 8, 9, 14] (fun _ _ _ i wr => ∃ k : Nat, k ≤ n ∧ i = .int .i64 k ∧ Hid (Blk wr w.heap.size (vals f k ++ List.replicate (n - k) 0)) ∧ Hid (Below w.heap.size w wr) ∧ Hid (firstCode f k = 0)) (fun _ _ _ i _ => n - (intOf i).toNat)
  case atStart => exact ⟨0, Nat.zero_le _, rfl, HBK, HBL, rfl⟩
  case round =>
    obtain ⟨k, hk, rfl, hb, hbl, hfc⟩ := hrel
    clear HBK HBL w1
    by_cases hlt : k < n
    · obtain ⟨r, hr⟩ : ∃ r, r = f k := ⟨_, rfl⟩
      obtain ⟨r1, r2⟩ := r
      have hcall := unhide HE k hlt wr (unhide hbl)
      rw [← hr] at hcall
      have hcode := unhide HF k hlt
      rw [← hr] at hcode
      have HR := hide hr
      clear hr
      by_cases h0 : r2 = 0
      · subst h0
        clear hcode
        rw [errV_0] at hcall
        have hnn := neq_nil_nil
        go_wp2_with (go_at_fn g; refine hcall.mono ?_; rintro e w2 ⟨rfl, hb2⟩; have HB := hide ((unhide hb).below (Nat.le_refl _) hb2); have HL := hide ((unhide hbl).trans (hb2.mono (unhide hbl).size)); have hc2 := (unhide HB).cell (i := k) (by simp [vals_len]; omega); have hf2 := (unhide HB).free k; clear hb2)
        have HS : Hid (Blk (w2.setCell ⟨w.heap.size, k, none⟩ (.int .i64 r1)) w.heap.size (vals f (k + 1) ++ List.replicate (n - (k + 1)) 0)) := by
          have hs := (unhide HB).set k r1
          have e : n - k = n - (k + 1) + 1 := by omega
          have e1 : r1 = (f k).1 := by rw [← unhide HR]
          rw [e] at hs
          rw [e1] at hs ⊢
          rw [vals_set] at hs
          exact hs
        go_roundw
        case rel => exact ⟨k + 1, by omega, by go_num, HS, (unhide HL).setCell (Nat.le_refl _) _, code_step (unhide hfc) (by rw [← unhide HR])⟩
        case measure => simp [intOf]; omega
      · have HC : Hid (firstCode f n = r2) := by
          show _ = _
          have e2 : (f k).2 = r2 := by rw [← unhide HR]
          rw [code_found (unhide hfc) hlt (by rw [e2]; exact h0), e2]
        have HI := hide hcode
        have HZ := hide h0
        have hrv : ∃ p, errV a b r2 = .iface 278 (.pointer (some p)) := by
          rcases hcode with h | rfl | rfl
          · exact absurd h h0
          · exact ⟨a, rfl⟩
          · exact ⟨b, rfl⟩
        obtain ⟨p, hp⟩ := hrv
        rw [hp] at hcall
        have HP := hide hp
        clear hcode h0 hp
        go_wp2_with (go_at_fn g; refine hcall.mono ?_; rintro e w2 ⟨rfl, hb2⟩; have HL := hide ((unhide hbl).trans (hb2.mono (unhide hbl).size)); clear hb2)
        go_ret2
        refine ⟨.inr ⟨by rw [unhide HC]; exact unhide HZ, by rw [unhide HC]; exact unhide HI, ?_⟩, unhide HL⟩
        rw [unhide HC, unhide HP]
        rfl
    · have hkn : k = n := by omega
      subst hkn
      go_wp2
      go_ret2
      exact ⟨.inl ⟨unhide hfc, rfl, by simpa using unhide hb⟩, unhide hbl⟩

end Go.Proofs.YtgjpchnkodnieaaGreatDoor
namespace Go.Proofs.YtgjpchnkodnieaaGreatDoor
open Go.RowKit

def withinB (v lo hi : Int) : Bool := decide (lo ≤ v ∧ v ≤ hi)

set_option maxHeartbeats 400000 in
theorem isWithin_any (v lo hi : Int) (w : World) : Calls Tryz.prog 50 #[.int .i64 v, .int .i64 lo, .int .i64 hi] w fun e w' => e = .returned (.bool (withinB v lo hi)) ∧ w' = w := by
  by_cases h1 : lo ≤ v
  · by_cases h2 : v ≤ hi
    · have HE : Hid (withinB v lo hi = true) := decide_eq_true ⟨h1, h2⟩
      go_enter Tryz.func50, Tryz.ntmps50
      go_wp2
      go_ret
      exact ⟨ret_bool HE.out.symm, rfl⟩
    · have HE : Hid (withinB v lo hi = false) := decide_eq_false (fun h => by omega)
      go_enter Tryz.func50, Tryz.ntmps50
      go_wp2
      go_ret
      exact ⟨ret_bool HE.out.symm, rfl⟩
  · have HE : Hid (withinB v lo hi = false) := decide_eq_false (fun h => by omega)
    go_enter Tryz.func50, Tryz.ntmps50
    go_wp2
    go_ret
    exact ⟨ret_bool HE.out.symm, rfl⟩

theorem isWithin_eq (v lo hi : Int) (w : World) (b : Bool) (h : Hid (withinB v lo hi = b)) : Calls Tryz.prog 50 #[.int .i64 v, .int .i64 lo, .int .i64 hi] w fun e w' => e = .returned (.bool b) ∧ w' = w := by
  rw [← h.out]; exact isWithin_any v lo hi w

set_option maxHeartbeats 1000000 in
theorem shapeOk_any (a : Option Addr) (n cap : Nat) (sh : List Int) (w : World) (h : Row w a n sh) : Calls Tryz.prog 114 #[.slice a n cap] w fun e w' => e = .returned (.bool (shapeB sh)) ∧ w' = w := by
  have hlen := hide h.len
  have hsm := h.small
  have H := hide h
  clear h
  by_cases h5 : 5 < n
  · have HE := hide (shape_long (unhide hlen) h5)
    go_enter Tryz.func114, Tryz.ntmps114
    go_wp2
    go_ret
    exact ⟨ret_bool HE.out.symm, rfl⟩
  · go_enter Tryz.func114, Tryz.ntmps114
    go_wp2
    go_loop [3, 5, 11] (fun p _ i => ∃ (k : Nat) (m : Int), k ≤ n ∧ i = .int .i64 k ∧ p = .int .i64 m ∧ Hid ((sh.take k).all inCells = true) ∧ Hid (prodFrom (sh.take k) 1 = some m)) (fun _ _ i => n - (intOf i).toNat)
    case atStart => exact ⟨0, 1, Nat.zero_le _, rfl, rfl, rfl, rfl⟩
    case round =>
      obtain ⟨k, m, hk, rfl, rfl, hall, hp⟩ := hrel
      have hmb := prodFrom_bd (sh.take k) 1 m (unhide hall) (by omega) (by omega) (unhide hp)
      obtain ⟨hm1, hm2⟩ := hmb
      by_cases hlt : k < n
      · obtain ⟨b, off, rfl, hblt, hc⟩ := (unhide H).get hlt
        have hks : Hid (k < sh.length) := by show k < sh.length; rw [unhide hlen]; exact hlt
        obtain ⟨x, hx⟩ : ∃ x, x = sh.getD k 0 := ⟨_, rfl⟩
        rw [← hx] at hc
        have HX := hide hx
        clear hx
        by_cases hin : 0 ≤ x ∧ x ≤ 10000
        · have HW : Hid (withinB x 0 10000 = true) := decide_eq_true hin
          have HA : Hid ((sh.take (k + 1)).all inCells = true) := all_step sh inCells k (unhide hks) (unhide hall) (by rw [← unhide HX]; exact decide_eq_true hin)
          obtain ⟨hx0, hx1⟩ := hin
          by_cases h0 : x = 0
          · have HP := hide (prod_step0 sh k (unhide hks) m (unhide hp) (by rw [← unhide HX]; exact h0))
            subst h0
            have hw : wrap64 (m * (if (0 : Int) < 1 then 1 else 0)) = m := by rw [if_pos (by omega), Int.mul_one]; exact (by unfold wrap64; omega)
            have hv : wrap64 (m * max 0 1) = m := hw
            go_wp2_with (go_at_call 50; refine (isWithin_eq _ _ _ _ true HW).mono ?_; rintro e w' ⟨rfl, rfl⟩)
            go_round
            case rel => exact ⟨k + 1, m, by omega, by go_num, (by first | rfl | rw [hv]), HA, HP⟩
            case measure => simp [intOf]; omega
          · have hx2 : ¬ x < 1 := by omega
            have hmx : m * x ≤ 10000 * 10000 := Int.mul_le_mul hm2 hx1 hx0 (by omega)
            have hmx0 : 0 ≤ m * x := Int.mul_nonneg (by omega) hx0
            have hw : wrap64 (m * x) = m * x := (by unfold wrap64; omega)
            have hv : max x 1 = x := by omega
            by_cases hbig : 10000 < m * x
            · have HE : Hid (shapeB sh = false) := shape_bad (count_big sh (prod_none sh k (unhide hks) m (unhide hp) (by rw [← unhide HX]; exact h0) (by rw [← unhide HX]; exact hbig)))
              clear h0
              go_wp2_with (go_at_call 50; refine (isWithin_eq _ _ _ _ true HW).mono ?_; rintro e w' ⟨rfl, rfl⟩)
              go_ret
              exact ⟨ret_bool HE.out.symm, rfl⟩
            · have HP := hide (prod_step sh k (unhide hks) m (unhide hp) (by rw [← unhide HX]; exact h0) (by rw [← unhide HX]; omega))
              rw [← unhide HX] at HP
              clear h0
              go_wp2_with (go_at_call 50; refine (isWithin_eq _ _ _ _ true HW).mono ?_; rintro e w' ⟨rfl, rfl⟩)
              go_round
              case rel => exact ⟨k + 1, m * x, by omega, by go_num, rfl, HA, HP⟩
              case measure => simp [intOf]; omega
        · have HW : Hid (withinB x 0 10000 = false) := decide_eq_false hin
          have HE : Hid (shapeB sh = false) := shape_bad (count_bad sh (all_not sh inCells k (unhide hks) (by rw [← unhide HX]; exact decide_eq_false hin)))
          clear hin
          go_wp2_with (go_at_call 50; refine (isWithin_eq _ _ _ _ false HW).mono ?_; rintro e w' ⟨rfl, rfl⟩)
          go_ret
          exact ⟨ret_bool HE.out.symm, rfl⟩
      · have htk : sh.take k = sh := List.take_of_length_le (by rw [unhide hlen]; omega)
        have HE := hide (shape_good (unhide hlen) (by omega) m (by have := unhide hall; rwa [htk] at this) (by have := unhide hp; rwa [htk] at this))
        clear htk
        go_wp2
        go_ret
        exact ⟨ret_bool HE.out.symm, rfl⟩

theorem shapeOk_eq (a : Option Addr) (n cap : Nat) (sh : List Int) (w : World) (h : Row w a n sh) (r : Bool) (hr : Hid (shapeB sh = r)) : Calls Tryz.prog 114 #[.slice a n cap] w fun e w' => e = .returned (.bool r) ∧ w' = w := by
  rw [← hr.out]; exact shapeOk_any a n cap sh w h

set_option maxHeartbeats 400000 in
theorem cellsOf_any (a : Option Addr) (n cap : Nat) (sh : List Int) (w : World) (h : Row w a n sh) (hb : ∀ k, 0 ≤ prodAll (sh.take k) ∧ prodAll (sh.take k) ≤ 10000) : Calls Tryz.prog 116 #[.slice a n cap] w fun e w' => e = .returned (.int .i64 (prodAll sh)) ∧ w' = w := by
  have hlen := hide h.len
  have hsm := h.small
  have H := hide h
  have HB := hide hb
  clear h hb
  go_enter Tryz.func116, Tryz.ntmps116
  go_wp2
  go_loop [3, 5, 8] (fun p _ i => ∃ (k : Nat) (m : Int), k ≤ n ∧ i = .int .i64 k ∧ p = .int .i64 m ∧ Hid (prodAll (sh.take k) = m)) (fun _ _ i => n - (intOf i).toNat)
  case atStart => exact ⟨0, 1, Nat.zero_le _, rfl, rfl, rfl⟩
  case round =>
    obtain ⟨k, m, hk, rfl, rfl, hp⟩ := hrel
    by_cases hlt : k < n
    · obtain ⟨b, off, rfl, hblt, hc⟩ := (unhide H).get hlt
      have hks : Hid (k < sh.length) := by show k < sh.length; rw [unhide hlen]; exact hlt
      obtain ⟨x, hx⟩ : ∃ x, x = sh.getD k 0 := ⟨_, rfl⟩
      have HP : Hid (prodAll (sh.take (k + 1)) = m * x) := by show _ = _; rw [prodAll_snoc sh k (unhide hks), unhide hp, hx]
      have hpb := unhide HB (k + 1)
      rw [unhide HP] at hpb
      obtain ⟨hb0, hb1⟩ := hpb
      rw [← hx] at hc
      clear hx
      go_wp2
      go_round
      case rel => exact ⟨k + 1, m * x, by omega, by go_num, rfl, HP⟩
      case measure => simp [intOf]; omega
    · have HE : Hid (prodAll sh = m) := by have := unhide hp; rwa [List.take_of_length_le (by rw [unhide hlen]; omega)] at this
      go_wp2
      go_ret
      exact ⟨ret_int HE.out.symm, rfl⟩

theorem cellsOf_count (a : Option Addr) (n cap : Nat) (sh : List Int) (w : World) (h : Row w a n sh) (hs : shapeB sh = true) (cn : Int) (hc : Hid (countOf sh = cn)) : Calls Tryz.prog 116 #[.slice a n cap] w fun e w' => e = .returned (.int .i64 cn) ∧ w' = w := by
  rw [← hc.out, ← prodAll_count sh hs]; exact cellsOf_any a n cap sh w h (prodAll_bd sh hs)

end Go.Proofs.YtgjpchnkodnieaaGreatDoor
namespace Go.Proofs.YtgjpchnkodnieaaGreatDoor
open Go.RowKit

set_option maxHeartbeats 400000 in
theorem isNumber_any (v : Int) (w : World) : Calls Tryz.prog 215 #[.int .i64 v] w fun e w' => e = .returned (.bool (dataOk false v)) ∧ w' = w := by
  have HE : Hid (dataOk false v = withinB v (-1000000000000000) 1000000000000000) := by show _ = _; unfold dataOk withinB; simp
  go_enter Tryz.func215, Tryz.ntmps215
  go_wp2_with (go_at_call 50; refine (isWithin_any _ _ _ _).mono ?_; rintro e w' ⟨rfl, rfl⟩)
  go_ret
  exact ⟨ret_bool HE.out.symm, rfl⟩

set_option maxHeartbeats 400000 in
theorem ValidRune_any (v : Int) (w : World) (h0 : 0 ≤ v) (h1 : v ≤ 1114111) : Calls Tryz.prog 266 #[.int .i32 v] w fun e w' => e = .returned (.bool (runeOk v)) ∧ w' = w := by
  by_cases h3 : v < 55296
  · have HE : Hid (runeOk v = true) := decide_eq_true ⟨h0, h1, .inl h3⟩
    go_enter Tryz.func266, Tryz.ntmps266
    go_wp2
    go_ret
    exact ⟨ret_bool HE.out.symm, rfl⟩
  · by_cases h4 : 57343 < v
    · have HE : Hid (runeOk v = true) := decide_eq_true ⟨h0, h1, .inr h4⟩
      go_enter Tryz.func266, Tryz.ntmps266
      go_wp2
      go_ret
      exact ⟨ret_bool HE.out.symm, rfl⟩
    · have HE : Hid (runeOk v = false) := decide_eq_false (fun h => by omega)
      go_enter Tryz.func266, Tryz.ntmps266
      go_wp2
      go_ret
      exact ⟨ret_bool HE.out.symm, rfl⟩

theorem wrap32 (v : Int) (h0 : 0 ≤ v) (h1 : v ≤ 1114111) : IntKind.i32.wrap v = v := by
  unfold IntKind.wrap; simp [IntKind.bits, IntKind.signed]; omega

set_option maxHeartbeats 400000 in
theorem isCharacter_any (v : Int) (w : World) : Calls Tryz.prog 216 #[.int .i64 v] w fun e w' => e = .returned (.bool (dataOk true v)) ∧ w' = w := by
  by_cases h : 0 ≤ v ∧ v ≤ 1114111
  · obtain ⟨h0, h1⟩ := h
    have HE : Hid (dataOk true v = runeOk v) := by show _ = _; unfold dataOk; rw [decide_eq_true (by omega)]; simp
    have HW : Hid (withinB v 0 1114111 = true) := decide_eq_true ⟨h0, h1⟩
    have hw := wrap32 v h0 h1
    go_enter Tryz.func216, Tryz.ntmps216
    go_wp2_with (first | (go_at_call 50; refine (isWithin_eq _ _ _ _ true HW).mono ?_; rintro e w' ⟨rfl, rfl⟩) | (go_at_call 266; refine (ValidRune_any _ _ h0 h1).mono ?_; rintro e w' ⟨rfl, rfl⟩))
    go_ret
    exact ⟨ret_bool HE.out.symm, rfl⟩
  · have HE : Hid (dataOk true v = false) := by show _ = _; unfold dataOk runeOk; rw [decide_eq_false (p := 0 ≤ v ∧ _ ∧ _) (by omega)]; simp
    have HW : Hid (withinB v 0 1114111 = false) := decide_eq_false h
    clear h
    go_enter Tryz.func216, Tryz.ntmps216
    go_wp2_with (go_at_call 50; refine (isWithin_eq _ _ _ _ false HW).mono ?_; rintro e w' ⟨rfl, rfl⟩)
    go_ret
    exact ⟨ret_bool HE.out.symm, rfl⟩

end Go.Proofs.YtgjpchnkodnieaaGreatDoor
namespace Go.Proofs.YtgjpchnkodnieaaGreatDoor
open Go.RowKit Go.Shelf

/-- What reckoned answers: the shape that it was given and new elements, or nothing and the first code. -/
def Reck (w : World) (f : Nat → Int × Int) (n : Nat) (a1 : Option Addr) (n1 c1 : Nat) (e : Ending) (w' : World) : Prop :=
  ((firstCode f n = 0 ∧ ∃ p, w.heap.size ≤ p ∧ e = .returned (.tuple #[.agg #[.bool false, .slice a1 n1 c1, .slice (some ⟨p, 0, none⟩) n n], .int .i64 0]) ∧ Blk w' p (vals f n))
    ∨ (firstCode f n ≠ 0 ∧ e = .returned (.tuple #[.agg #[.bool false, .slice none 0 0, .slice none 0 0], .int .i64 (firstCode f n)]))) ∧ Below w.heap.size w w'

set_option maxHeartbeats 1000000 in
theorem reckoned_any (a b : Addr) (g : Nat) (lb : Array Value) (eg : ∀ args w, (callFunc g args).run Tryz.prog w = .ok (.enter g args) w) (f : Nat → Int × Int) (n : Nat) (a1 : Option Addr) (n1 c1 : Nat) (sh : List Int) (w : World) (h1 : Row w a1 n1 sh) (hsh : shapeB sh = true) (hc : countOf sh = (n : Int))
    (hG : Gl w a b) (hf : ∀ k, k < n → codeIn (f k).2) (hE : ElemOk a b g lb f n w) :
    Calls Tryz.prog 118 #[.slice a1 n1 c1, .func (.func g) #[] lb] w (Reck w f n a1 n1 c1) := by
  have hn : n ≤ 17592186044416 := by
    have := (prodAll_bd sh hsh sh.length).2
    rw [List.take_length, prodAll_count sh hsh, hc] at this
    omega
  have HE : Hid (∀ o, ElemOk a b g lb f n (w.alloc o)) := fun o => hE.low ((Below.refl _ _).alloc (Nat.le_refl _) _)
  have HF := hide hf
  have H1 := hide h1
  have HS := hide hsh
  have HC := hide hc
  have HG := hide hG
  clear hE hf h1 hsh hc hG
  have HW : Hid (∀ o, Below w.heap.size w (w.alloc o)) := fun o => (Below.refl _ _).alloc (Nat.le_refl _) _
  by_cases h0 : firstCode f n = 0
  · have HZ := hide h0
    clear h0
    go_enter Tryz.func118, Tryz.ntmps118
    go_wp2_with (first
      | (go_at_call 116; refine (cellsOf_count _ _ _ sh _ ((unhide H1).alloc _) (unhide HS) _ HC).mono ?_; rintro e w1 ⟨rfl, rfl⟩)
      | (go_at_call 121; refine (listOf_any a b g lb eg f n _ hn (unhide HF) (unhide HE _)).mono ?_; rintro e w2 ⟨hr, hb2⟩; obtain ⟨_, rfl, hblk⟩ | ⟨hne, _⟩ := hr; rotate_left; exact absurd (unhide HZ) hne; have hB := Box.below (Box.new w false (.slice none 0 0) (.slice none 0 0)) (Nat.le_refl _) hb2; obtain ⟨q0, q1, q2, q3, q4, q5, q6⟩ := hB.all; have HK := hide hblk; have HL := hide ((unhide HW _).trans (hb2.mono (by simp))); clear hblk hb2 hB))
    refine bodyPost_ret (v := .tuple #[.agg #[.bool false, .slice a1 n1 c1, .slice (some ⟨w.heap.size + 1, 0, none⟩) n n], .int .i64 0]) (by simp [results, Tryz.results118, go_sem, q0, q1, q2]) rfl ?_
    refine ⟨.inl ⟨unhide HZ, w.heap.size + 1, by omega, rfl, ?_⟩, (((unhide HL).setCell (Nat.le_refl _) _).setCell (Nat.le_refl _) _).setCell (Nat.le_refl _) _⟩
    have hk : Blk w2 (w.heap.size + 1) (vals f n) := by simpa using unhide HK
    exact ((hk.other (by simp) _).other (by simp) _).other (by simp) _
  · have HZ := hide h0
    clear h0
    go_enter Tryz.func118, Tryz.ntmps118
    go_wp2_with (first
      | (go_at_call 116; refine (cellsOf_count _ _ _ sh _ ((unhide H1).alloc _) (unhide HS) _ HC).mono ?_; rintro e w1 ⟨rfl, rfl⟩)
      | (go_at_call 121; refine (listOf_any a b g lb eg f n _ hn (unhide HF) (unhide HE _)).mono ?_; rintro e w2 ⟨hr, hb2⟩; obtain ⟨hne, _⟩ | ⟨_, hci, rfl⟩ := hr; exact absurd hne (unhide HZ); have hB := Box.below (Box.new w false (.slice none 0 0) (.slice none 0 0)) (Nat.le_refl _) hb2; obtain ⟨q0, q1, q2, q3, q4, q5, q6⟩ := hB.all; have HI := hide hci; have HL := hide ((unhide HW _).trans (hb2.mono (by simp))); clear hb2 hB hci; obtain ⟨c, hcc⟩ : ∃ c, c = firstCode f n := ⟨_, rfl⟩; rw [← hcc]; have HCC := hide hcc; clear hcc; obtain ⟨ev, hev⟩ : ∃ ev, ev = errV a b c := ⟨_, rfl⟩; rw [← hev]; have hev2 : ∃ p, ev = .iface 278 (.pointer (some p)) := (by rw [hev, unhide HCC]; rcases unhide HI with h | h | h; exact absurd h (unhide HZ); exact ⟨a, by rw [h]; rfl⟩; exact ⟨b, by rw [h]; rfl⟩); have HEV := hide hev; clear hev; obtain ⟨p, rfl⟩ := hev2)
      | (go_at_call 190; rw [unhide HEV]; refine (codeOf_any a b c _ ((unhide HG).below (unhide HL)) (by rw [unhide HCC]; exact unhide HI) (by rw [unhide HCC]; exact unhide HZ)).mono ?_; rintro e w3 ⟨rfl, rfl⟩))
    refine bodyPost_ret (v := .tuple #[.agg #[.bool false, .slice none 0 0, .slice none 0 0], .int .i64 c]) (by simp [results, Tryz.results118, go_sem, q0, q1, q2]) rfl ?_
    exact ⟨.inr ⟨unhide HZ, by rw [← unhide HCC]⟩, (((unhide HL).setCell (Nat.le_refl _) _).setCell (Nat.le_refl _) _).setCell (Nat.le_refl _) _⟩

end Go.Proofs.YtgjpchnkodnieaaGreatDoor
namespace Go.Proofs.YtgjpchnkodnieaaGreatDoor
open Go.RowKit Go.Shelf

set_option maxHeartbeats 400000 in
theorem isTruth_eq (v : Int) (w : World) (r : Bool) (h : Hid (withinB v 0 1 = r)) : Calls Tryz.prog 283 #[.int .i64 v] w fun e w' => e = .returned (.bool r) ∧ w' = w := by
  go_enter Tryz.func283, Tryz.ntmps283
  go_wp2_with (go_at_call 50; refine (isWithin_eq _ _ _ _ r h).mono ?_; rintro e w' ⟨rfl, rfl⟩)
  go_ret
  exact ⟨rfl, rfl⟩

set_option maxHeartbeats 400000 in
theorem magnitude_any (v : Int) (w : World) (hv : -1000000000000000 ≤ v ∧ v ≤ 1000000000000000) : Calls Tryz.prog 281 #[.int .i64 v] w fun e w' => e = .returned (.int .i64 (if v < 0 then -v else v)) ∧ w' = w := by
  obtain ⟨h1, h2⟩ := hv
  by_cases h : v < 0
  · rw [if_pos h]
    go_enter Tryz.func281, Tryz.ntmps281
    go_wp2
    go_ret
    exact ⟨by first | rfl | (simp; omega), rfl⟩
  · rw [if_neg h]
    go_enter Tryz.func281, Tryz.ntmps281
    go_wp2
    go_ret
    exact ⟨by first | rfl | (simp; omega), rfl⟩

theorem ret_el {a b : Addr} {r : Int × Int} {x c : Int} (h : r = (x, c)) : Ending.returned (.tuple #[.int .i64 x, errV a b c]) = Ending.returned (.tuple #[.int .i64 r.1, errV a b r.2]) := by rw [h]

end Go.Proofs.YtgjpchnkodnieaaGreatDoor
namespace Go.Proofs.YtgjpchnkodnieaaGreatDoor
open Go.RowKit Go.Shelf

set_option maxHeartbeats 400000 in
theorem change1 (v : Int) (a b : Addr) (w : World) : Calls Tryz.prog 305 #[.int .i64 v] w fun e w' => e = .returned (.tuple #[.int .i64 (oneOf 1 v).1, errV a b (oneOf 1 v).2]) ∧ ∃ q, w' = w.drewN q := by
  have e : oneOf 1 v = (v, 0) := rfl
  rw [e]
  go_enter Tryz.func305, Tryz.ntmps305
  go_wp2
  go_ret2
  exact ⟨rfl, 0, rfl⟩

set_option maxHeartbeats 400000 in
theorem change2 (v : Int) (a b : Addr) (w : World) (hv : -1000000000000000 ≤ v ∧ v ≤ 1000000000000000) : Calls Tryz.prog 306 #[.int .i64 v] w fun e w' => e = .returned (.tuple #[.int .i64 (oneOf 2 v).1, errV a b (oneOf 2 v).2]) ∧ ∃ q, w' = w.drewN q := by
  have e : oneOf 2 v = (-v, 0) := rfl
  rw [e]
  obtain ⟨h1, h2⟩ := hv
  go_enter Tryz.func306, Tryz.ntmps306
  go_wp2
  go_ret2
  exact ⟨rfl, 0, rfl⟩

set_option maxHeartbeats 400000 in
theorem change3 (v : Int) (a b : Addr) (w : World) (hv : -1000000000000000 ≤ v ∧ v ≤ 1000000000000000) : Calls Tryz.prog 307 #[.int .i64 v] w fun e w' => e = .returned (.tuple #[.int .i64 (oneOf 3 v).1, errV a b (oneOf 3 v).2]) ∧ ∃ q, w' = w.drewN q := by
  obtain ⟨h1, h2⟩ := hv
  rcases (show v < 0 ∨ v = 0 ∨ v = 1 ∨ 1 < v by omega) with h | rfl | rfl | h
  · have HE : Hid (oneOf 3 v = (-1, 0)) := by show _ = _; simp [oneOf, truth, h, Int.not_lt.mpr (Int.le_of_lt h)]
    have h3 : (if 1 < v then 1 else v) = v := if_neg (by omega)
    go_enter Tryz.func307, Tryz.ntmps307
    go_wp2
    go_ret2
    exact ⟨ret_el (c := 0) HE.out, 0, rfl⟩
  · go_enter Tryz.func307, Tryz.ntmps307
    go_wp2
    go_ret2
    exact ⟨rfl, 0, rfl⟩
  · go_enter Tryz.func307, Tryz.ntmps307
    go_wp2
    go_ret2
    exact ⟨rfl, 0, rfl⟩
  · have HE : Hid (oneOf 3 v = (1, 0)) := by show _ = _; simp [oneOf, truth, show 0 < v by omega, show ¬ v < 0 by omega]
    have h3 : (if 1 < v then 1 else v) = 1 := if_pos (by omega)
    go_enter Tryz.func307, Tryz.ntmps307
    go_wp2
    go_ret2
    exact ⟨ret_el (c := 0) HE.out, 0, rfl⟩

set_option maxHeartbeats 400000 in
theorem change7 (v : Int) (a b : Addr) (w : World) (hv : -1000000000000000 ≤ v ∧ v ≤ 1000000000000000) : Calls Tryz.prog 308 #[.int .i64 v] w fun e w' => e = .returned (.tuple #[.int .i64 (oneOf 7 v).1, errV a b (oneOf 7 v).2]) ∧ ∃ q, w' = w.drewN q := by
  have HE : Hid (oneOf 7 v = (if v < 0 then -v else v, 0)) := rfl
  obtain ⟨m, hm⟩ : ∃ m, m = if v < 0 then -v else v := ⟨_, rfl⟩
  have hcall := magnitude_any v w hv
  rw [← hm] at HE hcall
  clear hm hv
  go_enter Tryz.func308, Tryz.ntmps308
  go_wp2_with (go_at_call 281; refine hcall.mono ?_; rintro e w' ⟨rfl, rfl⟩)
  go_ret2
  exact ⟨ret_el (c := 0) HE.out, 0, rfl⟩

set_option maxHeartbeats 400000 in
theorem change17 (v : Int) (a b : Addr) (w : World) (hG : Gl w a b) (hv : -1000000000000000 ≤ v ∧ v ≤ 1000000000000000) : Calls Tryz.prog 309 #[.int .i64 v] w fun e w' => e = .returned (.tuple #[.int .i64 (oneOf 17 v).1, errV a b (oneOf 17 v).2]) ∧ ∃ q, w' = w.drewN q := by
  have hc := hG.no
  clear hG
  by_cases h : v = 0 ∨ v = 1
  · have HE : Hid (oneOf 17 v = (1 - v, 0)) := by rcases h with rfl | rfl <;> rfl
    have HT : Hid (withinB v 0 1 = true) := by rcases h with rfl | rfl <;> rfl
    clear h
    obtain ⟨h1, h2⟩ := hv
    go_enter Tryz.func309, Tryz.ntmps309
    go_wp2_with (go_at_call 283; refine (isTruth_eq _ _ _ HT).mono ?_; rintro e w' ⟨rfl, rfl⟩)
    go_ret2
    exact ⟨ret_el (c := 0) HE.out, 0, rfl⟩
  · have HE : Hid (oneOf 17 v = (0, 3)) := by show _ = _; simp only [not_or] at h; simp [oneOf, h]
    have HT : Hid (withinB v 0 1 = false) := decide_eq_false (by omega)
    clear h
    go_enter Tryz.func309, Tryz.ntmps309
    go_wp2_with (go_at_call 283; refine (isTruth_eq _ _ _ HT).mono ?_; rintro e w' ⟨rfl, rfl⟩)
    go_quiet (fail)
    go_wp2
    go_ret2
    exact ⟨ret_el (c := 3) HE.out, _, rfl⟩

end Go.Proofs.YtgjpchnkodnieaaGreatDoor
namespace Go.Proofs.YtgjpchnkodnieaaGreatDoor
open Go.RowKit Go.Shelf

/-- What changeOf answers. -/
def chV (op : Int) : Value := if op = 1 then .func (.func 305) #[] #[] else if op = 2 then .func (.func 306) #[] #[] else if op = 3 then .func (.func 307) #[] #[]
  else if op = 7 then .func (.func 308) #[] #[] else if op = 17 then .func (.func 309) #[] #[] else .nilFunc

/-- The array of functions that changeOf lays. -/
def chTab : Array Value := #[.nilFunc, .func (.func 305) #[] #[], .func (.func 306) #[] #[], .func (.func 307) #[] #[], .nilFunc, .nilFunc, .nilFunc, .func (.func 308) #[] #[], .nilFunc, .nilFunc, .nilFunc, .nilFunc, .nilFunc, .nilFunc, .nilFunc, .nilFunc, .nilFunc, .func (.func 309) #[] #[]]

theorem chTab_at (w : World) (k : Nat) (h : k ≤ 17) : (w.alloc (.cells chTab 240)).cell? ⟨w.heap.size, k, none⟩ = some (chV k) := by
  rw [cell_of_row _ _ k chTab _ (0, 0) (heap_alloc_last w _)]
  have hk : k = 0 ∨ k = 1 ∨ k = 2 ∨ k = 3 ∨ k = 4 ∨ k = 5 ∨ k = 6 ∨ k = 7 ∨ k = 8 ∨ k = 9 ∨ k = 10 ∨ k = 11 ∨ k = 12 ∨ k = 13 ∨ k = 14 ∨ k = 15 ∨ k = 16 ∨ k = 17 := by omega
  rcases hk with rfl | rfl | rfl | rfl | rfl | rfl | rfl | rfl | rfl | rfl | rfl | rfl | rfl | rfl | rfl | rfl | rfl | rfl
  all_goals rfl

set_option maxHeartbeats 4000000 in
theorem changeOf_any (op : Int) (w : World) : Calls Tryz.prog 267 #[.int .i64 op] w fun e w' => e = .returned (chV op) ∧ Below w.heap.size w w' := by
  by_cases h : 0 ≤ op ∧ op ≤ 17
  · have HT : Hid (withinB op 0 17 = true) := decide_eq_true h
    obtain ⟨k, rfl⟩ : ∃ k : Nat, op = k := ⟨op.toNat, by omega⟩
    have hk : k ≤ 17 := by omega
    have hc := chTab_at w k hk
    unfold chTab at hc
    have HV : Hid (chV k = chV k) := rfl
    obtain ⟨v, hv⟩ : ∃ v, v = chV k := ⟨_, rfl⟩
    rw [← hv] at hc
    have HVV := hide hv
    clear h hv
    go_enter Tryz.func267, Tryz.ntmps267
    go_wp2_with (go_at_call 50; refine (isWithin_eq _ _ _ _ _ HT).mono ?_; rintro e w' ⟨rfl, rfl⟩)
    go_ret
    exact ⟨by rw [← HVV.out]; rfl, (Below.refl _ _).alloc (Nat.le_refl _) _⟩
  · have HT : Hid (withinB op 0 17 = false) := decide_eq_false h
    have HE : Hid (chV op = .nilFunc) := by
      show _ = _
      unfold chV
      rw [if_neg (by omega), if_neg (by omega), if_neg (by omega), if_neg (by omega), if_neg (by omega)]
    clear h
    go_enter Tryz.func267, Tryz.ntmps267
    go_wp2_with (go_at_call 50; refine (isWithin_eq _ _ _ _ _ HT).mono ?_; rintro e w' ⟨rfl, rfl⟩)
    go_ret
    exact ⟨by rw [HE.out]; rfl, (Below.refl _ _).alloc (Nat.le_refl _) _⟩

end Go.Proofs.YtgjpchnkodnieaaGreatDoor
namespace Go.Proofs.YtgjpchnkodnieaaGreatDoor
open Go.RowKit

set_option maxHeartbeats 400000 in
theorem Clone_any (ad : Addr) (n cap : Nat) (zs : List Int) (w : World) (h : Row w (some ad) n zs) :
    Calls Tryz.prog 63 #[.slice (some ad) n cap] w fun e w' => ∃ a' cap', e = .returned (.slice a' n cap') ∧ n ≤ cap' ∧ Own w' w.heap.size a' n zs ∧ Below w.heap.size w w' := by
  have hl := h.len
  have hs := h.small
  have H := hide h
  clear h
  obtain ⟨i0, hi, hz0, hz1, hz2⟩ := info_parts info_int
  have qT : ∀ (w : World) (a : Option Addr) (n c n' c' : Nat), (binOp .eql 23 (.slice a n c) (.slice none n' c')).run Tryz.prog w = .ok (.bool a.isNone) w := fun w a n c n' c' => Lib.run_eql_slice_nil w _ _ a n c n' c' Tryz.underlying23
  go_enter Tryz.func63, Tryz.ntmps63
  go_wp2_with (at_builtin; refine wpList_append_own _ rfl _ _ 23 rfl w.heap.size 3 i0 (.int .i64 0) 1 8 Tryz.underlying23 hi hz0 hz1 hz2 rfl (by decide) _ _ _ rfl (owns_empty w) ad n cap (zs.map (Value.int .i64)) rfl (by simpa using hl) (cells_ints ((unhide H).alloc _)) (one_ints zs) (by unfold maxLen; omega) (by omega) (by simp) ?_; intro v1 w1 hown hgrow hnil)
  clear hnil
  have hown' : w1.ownsRow w.heap.size 3 1 v1 n (zs.map (Value.int .i64)) := by simpa using hown
  obtain ⟨a', cap', rfl, ho⟩ := Own.of_owns hown' hs
  have hbel : Below w.heap.size w w1 := ((Below.refl _ _).alloc (Nat.le_refl _) _).grown hgrow (by simp) (by intro k hk; cases hk; exact Nat.le_refl _)
  have hcap : n ≤ cap' := by
    rcases hown'.2 with ⟨h', h0⟩ | ⟨g', c', cur, h', _, _, hle, _⟩
    · simp at h'; omega
    · cases h'; omega
  clear hown hgrow hown'
  go_wp2
  go_ret
  exact ⟨_, _, rfl, hcap, ho, hbel⟩

set_option maxHeartbeats 400000 in
theorem Clone_nil (cap : Nat) (w : World) :
    Calls Tryz.prog 63 #[.slice none 0 cap] w fun e w' => e = .returned (.slice none 0 0) ∧ w' = w := by
  have qT : ∀ (w : World) (a : Option Addr) (n c n' c' : Nat), (binOp .eql 23 (.slice a n c) (.slice none n' c')).run Tryz.prog w = .ok (.bool a.isNone) w := fun w a n c n' c' => Lib.run_eql_slice_nil w _ _ a n c n' c' Tryz.underlying23
  go_enter Tryz.func63, Tryz.ntmps63
  go_wp2
  go_ret
  exact ⟨rfl, rfl⟩

/-- A copy of a slice that may be nil. -/
theorem Clone_opt (ad : Option Addr) (n cap : Nat) (zs : List Int) (w : World) (h : Row w ad n zs) :
    Calls Tryz.prog 63 #[.slice ad n cap] w fun e w' => ∃ a' cap', e = .returned (.slice a' n cap') ∧ n ≤ cap' ∧ Own w' w.heap.size a' n zs ∧ Below w.heap.size w w' := by
  cases ad with
  | some a => exact Clone_any a n cap zs w h
  | none =>
    have h0 : n = 0 := by
      rcases Nat.eq_zero_or_pos n with h0 | h0
      · exact h0
      · obtain ⟨b, o, e, _⟩ := h.get h0
        cases e
    have hl := h.len
    subst h0
    obtain rfl : zs = [] := List.length_eq_zero_iff.1 hl
    refine (Clone_nil cap w).mono ?_
    rintro e w' ⟨rfl, rfl⟩
    exact ⟨none, 0, rfl, Nat.le_refl _, ⟨rfl, by omega, .inl rfl⟩, Below.refl _ _⟩

end Go.Proofs.YtgjpchnkodnieaaGreatDoor
namespace Go.Proofs.YtgjpchnkodnieaaGreatDoor
open Go.RowKit

set_option maxHeartbeats 1000000 in
theorem elementsOk_any (c : Bool) (a1 a2 : Option Addr) (n1 n2 c1 c2 : Nat) (dt : List Int) (w : World) (h2 : Row w a2 n2 dt) :
    Calls Tryz.prog 136 #[.agg #[.bool c, .slice a1 n1 c1, .slice a2 n2 c2]] w fun e w' => e = .returned (.bool (dt.all (dataOk c))) ∧ Below w.heap.size w w' := by
  have hl2 := hide h2.len
  have hs2 := h2.small
  have H2 := hide h2
  clear h2
  have hW : ∀ o, Below w.heap.size w (w.alloc o) := fun o => (Below.refl _ _).alloc (Nat.le_refl _) _
  cases c with
  | true =>
    go_enter Tryz.func136, Tryz.ntmps136
    go_wp2
    go_loop [5, 11] (fun _ i => ∃ k : Nat, k ≤ n2 ∧ i = .int .i64 k ∧ Hid ((dt.take k).all (dataOk true) = true)) (fun _ i => n2 - (intOf i).toNat)
    case atStart => exact ⟨0, Nat.zero_le _, rfl, rfl⟩
    case round =>
      obtain ⟨k, hk, rfl, hall⟩ := hrel
      by_cases hlt : k < n2
      · obtain ⟨b, off, rfl, hblt, hc⟩ := (unhide H2).get hlt
        have hks : Hid (k < dt.length) := by show k < dt.length; rw [unhide hl2]; exact hlt
        obtain ⟨x, hx⟩ : ∃ x, x = dt.getD k 0 := ⟨_, rfl⟩
        rw [← hx] at hc
        have HX := hide hx
        clear hx
        cases hr : dataOk true x with
        | true =>
          have HA := hide (all_step dt (dataOk true) k (unhide hks) (unhide hall) (by rw [← unhide HX, hr]))
          have HR := hide hr
          clear hr
          go_wp2_with (go_at_call 216; refine (isCharacter_any _ _).mono ?_; rintro e w' ⟨rfl, rfl⟩; rw [unhide HR])
          go_round
          case rel => exact ⟨k + 1, by omega, by go_num, HA⟩
          case measure => simp [intOf]; omega
        | false =>
          have HE := hide (all_not dt (dataOk true) k (unhide hks) (by rw [← unhide HX, hr]))
          have HR := hide hr
          clear hr
          go_wp2_with (go_at_call 216; refine (isCharacter_any _ _).mono ?_; rintro e w' ⟨rfl, rfl⟩; rw [unhide HR])
          go_ret
          exact ⟨ret_bool HE.out.symm, hW _⟩
      · have HA : Hid (dt.all (dataOk true) = true) := by
          have := unhide hall
          rwa [List.take_of_length_le (by rw [unhide hl2]; omega)] at this
        go_wp2
        go_ret
        exact ⟨ret_bool HA.out.symm, hW _⟩
  | false =>
    go_enter Tryz.func136, Tryz.ntmps136
    go_wp2
    go_loop [5, 11] (fun _ i => ∃ k : Nat, k ≤ n2 ∧ i = .int .i64 k ∧ Hid ((dt.take k).all (dataOk false) = true)) (fun _ i => n2 - (intOf i).toNat)
    case atStart => exact ⟨0, Nat.zero_le _, rfl, rfl⟩
    case round =>
      obtain ⟨k, hk, rfl, hall⟩ := hrel
      by_cases hlt : k < n2
      · obtain ⟨b, off, rfl, hblt, hc⟩ := (unhide H2).get hlt
        have hks : Hid (k < dt.length) := by show k < dt.length; rw [unhide hl2]; exact hlt
        obtain ⟨x, hx⟩ : ∃ x, x = dt.getD k 0 := ⟨_, rfl⟩
        rw [← hx] at hc
        have HX := hide hx
        clear hx
        cases hr : dataOk false x with
        | true =>
          have HA := hide (all_step dt (dataOk false) k (unhide hks) (unhide hall) (by rw [← unhide HX, hr]))
          have HR := hide hr
          clear hr
          go_wp2_with (go_at_call 215; refine (isNumber_any _ _).mono ?_; rintro e w' ⟨rfl, rfl⟩; rw [unhide HR])
          go_round
          case rel => exact ⟨k + 1, by omega, by go_num, HA⟩
          case measure => simp [intOf]; omega
        | false =>
          have HE := hide (all_not dt (dataOk false) k (unhide hks) (by rw [← unhide HX, hr]))
          have HR := hide hr
          clear hr
          go_wp2_with (go_at_call 215; refine (isNumber_any _ _).mono ?_; rintro e w' ⟨rfl, rfl⟩; rw [unhide HR])
          go_ret
          exact ⟨ret_bool HE.out.symm, hW _⟩
      · have HA : Hid (dt.all (dataOk false) = true) := by
          have := unhide hall
          rwa [List.take_of_length_le (by rw [unhide hl2]; omega)] at this
        go_wp2
        go_ret
        exact ⟨ret_bool HA.out.symm, hW _⟩

theorem elementsOk_eq (c : Bool) (a1 a2 : Option Addr) (n1 n2 c1 c2 : Nat) (dt : List Int) (w : World) (h2 : Row w a2 n2 dt) (r : Bool) (hr : Hid (dt.all (dataOk c) = r)) :
    Calls Tryz.prog 136 #[.agg #[.bool c, .slice a1 n1 c1, .slice a2 n2 c2]] w fun e w' => e = .returned (.bool r) ∧ Below w.heap.size w w' := by
  rw [← hr.out]; exact elementsOk_any c a1 a2 n1 n2 c1 c2 dt w h2

theorem arr_shape {c : Bool} {sh dt : List Int} (h : shapeB sh = false) : arrOk c sh dt = false := by
  unfold arrOk; unfold shapeB at h
  by_cases h1 : sh.length ≤ 5
  · rw [decide_eq_true h1] at h
    have h2 : ¬ 0 ≤ countOf sh := by simpa using h
    rw [decide_eq_false (p := countOf sh = _) (by omega)]; simp
  · rw [decide_eq_false h1]; rfl

set_option maxHeartbeats 1000000 in
theorem implArrayOk_any (c : Bool) (a1 a2 : Option Addr) (n1 n2 c1 c2 : Nat) (sh dt : List Int) (w : World) (h1 : Row w a1 n1 sh) (h2 : Row w a2 n2 dt) :
    Calls Tryz.prog 51 #[.agg #[.bool c, .slice a1 n1 c1, .slice a2 n2 c2]] w fun e w' => e = .returned (.bool (arrOk c sh dt)) ∧ Below w.heap.size w w' := by
  have hl1 := hide h1.len
  have hl2 := hide h2.len
  have hs1 := h1.small
  have hs2 := h2.small
  have H1 := hide h1
  have H2 := hide h2
  clear h1 h2
  have hW : ∀ o, Below w.heap.size w (w.alloc o) := fun o => (Below.refl _ _).alloc (Nat.le_refl _) _
  cases hsb : shapeB sh with
  | false =>
    have HS := hide hsb
    have HE := hide (arr_shape (c := c) (dt := dt) hsb)
    clear hsb
    go_enter Tryz.func51, Tryz.ntmps51
    go_wp2
    go_quiet ((go_at_call 114; exact Calls.quiet_of_same (shapeOk_eq _ _ _ sh _ (((unhide H1).alloc _).drewN _) false HS)))
    go_wp2
    go_ret
    exact ⟨ret_bool HE.out.symm, Below.drewN (hW _) _⟩
  | true =>
    have HS := hide hsb
    clear hsb
    obtain ⟨cn, hcn⟩ : ∃ cn, countOf sh = cn := ⟨_, rfl⟩
    have HC := hide hcn
    clear hcn
    by_cases hcn : cn = n2
    · have hb : ((n2 : Int) == cn) = true := by simp [hcn]
      have HCN := hide hcn
      clear hcn
      obtain ⟨r, hr⟩ : ∃ r, dt.all (dataOk c) = r := ⟨_, rfl⟩
      have HR := hide hr
      clear hr
      have HE : Hid (arrOk c sh dt = r) := by
        show _ = _
        have h5 := unhide HS
        unfold shapeB at h5
        simp only [Bool.and_eq_true, decide_eq_true_eq] at h5
        unfold arrOk
        rw [unhide HR, decide_eq_true h5.1, decide_eq_true (by rw [unhide HC, unhide HCN, unhide hl2])]; rfl
      go_enter Tryz.func51, Tryz.ntmps51
      go_wp2_with fail
      go_cut [2] (fun r' wr => r' = .bool r ∧ Below w.heap.size w wr)
      case first =>
        go_region_with (first
          | (go_at_call 114; refine (shapeOk_eq _ _ _ sh _ (by first | exact ((unhide H1).alloc _).drew | exact (((unhide H1).alloc _).drewN _)) true HS).mono ?_; rintro e w' ⟨rfl, rfl⟩)
          | (go_at_call 116; refine (cellsOf_count _ _ _ sh _ (by first | exact ((unhide H1).alloc _).drew | exact (((unhide H1).alloc _).drewN _)) (unhide HS) cn HC).mono ?_; rintro e w' ⟨rfl, rfl⟩)
          | (go_at_call 136; refine (elementsOk_eq _ _ _ _ _ _ _ dt _ (by first | exact ((unhide H2).alloc _).drew | exact (((unhide H2).alloc _).drewN _)) r HR).mono ?_; rintro e w' ⟨rfl, hbe⟩))
        all_goals go_wp2_with fail
        all_goals (go_meet; case rel => exact ⟨rfl, (hW _).drew.trans (hbe.mono (by simp))⟩)
      case rest =>
        obtain ⟨rfl, hbc⟩ := hcut
        go_wp2
        go_ret
        exact ⟨ret_bool HE.out.symm, hbc⟩
    · have hb : ((n2 : Int) == cn) = false := by simp; omega
      have HE := hide (arr_count (c := c) (sh := sh) (unhide hl2) (by rw [unhide HC]; exact hcn))
      clear hcn
      go_enter Tryz.func51, Tryz.ntmps51
      go_wp2
      go_quiet (first | (go_at_call 114; exact Calls.quiet_of_same (shapeOk_eq _ _ _ sh _ (((unhide H1).alloc _).drewN _) true HS)) | (go_at_call 116; exact Calls.quiet_of_same (cellsOf_count _ _ _ sh _ (((unhide H1).alloc _).drewN _) (unhide HS) cn HC)))
      go_wp2
      go_ret
      exact ⟨ret_bool HE.out.symm, Below.drewN (hW _) _⟩

theorem implArrayOk_eq (c : Bool) (a1 a2 : Option Addr) (n1 n2 c1 c2 : Nat) (sh dt : List Int) (w : World) (h1 : Row w a1 n1 sh) (h2 : Row w a2 n2 dt) (r : Bool) (hr : Hid (arrOk c sh dt = r)) :
    Calls Tryz.prog 51 #[.agg #[.bool c, .slice a1 n1 c1, .slice a2 n2 c2]] w fun e w' => e = .returned (.bool r) ∧ Below w.heap.size w w' := by
  rw [← hr.out]; exact implArrayOk_any c a1 a2 n1 n2 c1 c2 sh dt w h1 h2

end Go.Proofs.YtgjpchnkodnieaaGreatDoor
namespace Go.Proofs.YtgjpchnkodnieaaGreatDoor
open Go.RowKit Go.Shelf

/-- The function that changeOf answers gives oneOf. -/
theorem change_calls (op x : Int) (a b : Addr) (w : World) (hop : oneOp op = true) (hG : Gl w a b) (hx : -1000000000000000 ≤ x ∧ x ≤ 1000000000000000) :
    ∃ g, chV op = .func (.func g) #[] #[] ∧ (∀ args w, (callFunc g args).run Tryz.prog w = .ok (.enter g args) w) ∧ Calls Tryz.prog g #[.int .i64 x] w fun e w' => e = .returned (.tuple #[.int .i64 (oneOf op x).1, errV a b (oneOf op x).2]) ∧ ∃ q, w' = w.drewN q := by
  have hop' : op = 1 ∨ op = 2 ∨ op = 3 ∨ op = 7 ∨ op = 17 := by simpa [oneOp] using hop
  rcases hop' with rfl | rfl | rfl | rfl | rfl
  · exact ⟨305, rfl, enters_of Tryz.func305 (by kernel_rfl) rfl, change1 x a b w⟩
  · exact ⟨306, rfl, enters_of Tryz.func306 (by kernel_rfl) rfl, change2 x a b w hx⟩
  · exact ⟨307, rfl, enters_of Tryz.func307 (by kernel_rfl) rfl, change3 x a b w hx⟩
  · exact ⟨308, rfl, enters_of Tryz.func308 (by kernel_rfl) rfl, change7 x a b w hx⟩
  · exact ⟨309, rfl, enters_of Tryz.func309 (by kernel_rfl) rfl, change17 x a b w hG hx⟩

set_option maxHeartbeats 1000000 in
theorem clo1 (op : Int) (a b a2 : Addr) (p6 pA n2 c2 k : Nat) (v1 : Value) (dt : List Int) (W : World) (hop : oneOp op = true) (hG : Gl W a b) (hc : W.cell? ⟨p6, 0, none⟩ = some (chV op)) (hB : Box W pA false v1 (.slice (some a2) n2 c2)) (h2 : Row W (some a2) n2 dt) (hk : k < n2) (hx : -1000000000000000 ≤ dt.getD k 0 ∧ dt.getD k 0 ≤ 1000000000000000) :
    Calls Tryz.prog 268 #[.int .i64 (k : Nat), .pointer (some ⟨p6, 0, none⟩), .pointer (some ⟨pA, 0, none⟩)] W fun e w' => e = .returned (.tuple #[.int .i64 (oneOf op (dt.getD k 0)).1, errV a b (oneOf op (dt.getD k 0)).2]) ∧ Below W.heap.size W w' := by
  obtain ⟨bb, off, hab, hblt, hcx⟩ := h2.get hk
  cases hab
  have hsm := h2.small
  obtain ⟨q0, q1, q2⟩ := hB.cells
  obtain ⟨x, hxe⟩ : ∃ x, x = dt.getD k 0 := ⟨_, rfl⟩
  rw [← hxe] at hcx hx ⊢
  clear hxe hB
  have HC : Hid (∀ n, ∃ g, chV op = .func (.func g) #[] #[] ∧ (∀ args w, (callFunc g args).run Tryz.prog w = .ok (.enter g args) w) ∧ Calls Tryz.prog g #[.int .i64 x] (W.drewN n) fun e w' => e = .returned (.tuple #[.int .i64 (oneOf op x).1, errV a b (oneOf op x).2]) ∧ ∃ q, w' = (W.drewN n).drewN q) := fun n => change_calls op x a b _ hop (hG.drewN n) hx
  obtain ⟨g, hg, eg, _⟩ := unhide HC 0
  rw [hg] at hc
  have HD : Hid (∀ n, Calls Tryz.prog g #[.int .i64 x] (W.drewN n) fun e w' => e = .returned (.tuple #[.int .i64 (oneOf op x).1, errV a b (oneOf op x).2]) ∧ ∃ q, w' = (W.drewN n).drewN q) := fun n => by
    obtain ⟨g', hg', _, h⟩ := unhide HC n
    rw [hg] at hg'
    cases hg'
    exact h
  clear HC hg hop hG h2 hx
  obtain ⟨r, hr⟩ : ∃ r, r = oneOf op x := ⟨_, rfl⟩
  rw [← hr] at HD ⊢
  clear hr
  obtain ⟨r1, r2⟩ := r
  obtain ⟨ev, hev⟩ : ∃ ev, ev = errV a b r2 := ⟨_, rfl⟩
  simp only [← hev] at HD ⊢
  clear hev
  go_enter Tryz.func268, Tryz.ntmps268
  go_wp2
  go_quiet (first | (go_at_fn g; exact Calls.quiet_of (unhide HD _)))
  go_wp2
  go_ret2
  exact ⟨rfl, Below.drewN (Below.refl _ _) _⟩

end Go.Proofs.YtgjpchnkodnieaaGreatDoor
namespace Go.Proofs.YtgjpchnkodnieaaGreatDoor
open Go.RowKit

set_option maxHeartbeats 2000000 in
theorem Scalar1_bad (op : Int) (c : Bool) (a1 a2 : Addr) (n1 n2 c1 c2 : Nat) (sh dt : List Int) (w : World) (h1 : Row w (some a1) n1 sh) (h2 : Row w (some a2) n2 dt) (hbad : ¬ (arrOk c sh dt = true ∧ oneOp op = true ∧ c = false)) :
    Calls Tryz.prog 68 #[.int .i64 op, .agg #[.bool c, .slice (some a1) n1 c1, .slice (some a2) n2 c2]] w (GivesRow w (scalar1 op c sh dt)) := by
  have HS : Hid (scalar1 op c sh dt = noAns 3) := by
    show _ = _
    unfold scalar1
    rw [if_neg (fun h => hbad ⟨h.1, h.2.1, h.2.2.1⟩)]
  have H1 := hide h1
  have H2 := hide h2
  clear h1 h2
  obtain ⟨r, hr⟩ : ∃ r, arrOk c sh dt = r := ⟨_, rfl⟩
  have HR := hide hr
  rw [hr] at hbad
  clear hr
  have hbad' : r = false ∨ r = true ∧ oneOp op = false ∨ r = true ∧ oneOp op = true ∧ c = true := by
    cases r <;> cases h : oneOp op <;> cases c <;> simp_all
  clear hbad
  rcases hbad' with rfl | ⟨rfl, hop⟩ | ⟨rfl, hop, rfl⟩
  · go_enter Tryz.func68, Tryz.ntmps68
    go_wp2_with fail
    refine (ArrayOk_eq _ _ _ _ _ _ _ sh dt _ (((unhide H1).alloc _).alloc _) (((unhide H2).alloc _).alloc _) _ HR).mono ?_
    rintro e w1 ⟨rfl, hb1⟩
    obtain ⟨B3, B4, hB1⟩ := boxes2 hb1
    have hz1 := B4.lt
    clear hb1
    go_wp2_with fail
    refine (l4None_any _).mono ?_
    rintro e w2 ⟨rfl, hb2⟩
    obtain ⟨q0, q1, q2, q3, q4, q5, q6⟩ := (B4.below (Nat.le_refl _) hb2).all
    have hB2 := hide (hB1.trans (hb2.mono (by omega)))
    clear hb2 hB1 B3 B4 hz1
    go_wp2
    refine bodyPost_ret (v := .tuple #[.agg #[.bool false, .slice none 0 0, .slice none 0 0], .int .i64 3]) (by simp [results, Tryz.results68, go_sem, q0, q1, q2]) rfl ?_
    rw [unhide HS]
    exact ⟨none, 0, 0, none, 0, 0, rfl, row_nil _ _, row_nil _ _, (((unhide hB2).setCell (by simp) _).setCell (by simp) _).setCell (by simp) _⟩
  · have hop' : ¬ (op = 1 ∨ op = 2 ∨ op = 3 ∨ op = 7 ∨ op = 17) := by simpa [oneOp] using hop
    have k1 : (op != 1) = true := by simp; omega
    have k2 : (op != 2) = true := by simp; omega
    have k3 : (op != 3) = true := by simp; omega
    have k4 : (op != 7) = true := by simp; omega
    have k5 : (op != 17) = true := by simp; omega
    clear hop hop'
    go_enter Tryz.func68, Tryz.ntmps68
    go_wp2_with fail
    refine (ArrayOk_eq _ _ _ _ _ _ _ sh dt _ (((unhide H1).alloc _).alloc _) (((unhide H2).alloc _).alloc _) _ HR).mono ?_
    rintro e w1 ⟨rfl, hb1⟩
    obtain ⟨B3, B4, hB1⟩ := boxes2 hb1
    have hz1 := B4.lt
    clear hb1
    go_wp2_with fail
    refine (l4None_any _).mono ?_
    rintro e w2 ⟨rfl, hb2⟩
    obtain ⟨q0, q1, q2, q3, q4, q5, q6⟩ := (B4.below (Nat.le_refl _) hb2).all
    have hB2 := hide (hB1.trans (hb2.mono (by omega)))
    clear hb2 hB1 B3 B4 hz1
    go_wp2
    refine bodyPost_ret (v := .tuple #[.agg #[.bool false, .slice none 0 0, .slice none 0 0], .int .i64 3]) (by simp [results, Tryz.results68, go_sem, q0, q1, q2]) rfl ?_
    rw [unhide HS]
    exact ⟨none, 0, 0, none, 0, 0, rfl, row_nil _ _, row_nil _ _, (((unhide hB2).setCell (by simp) _).setCell (by simp) _).setCell (by simp) _⟩
  · have hop' : op = 1 ∨ op = 2 ∨ op = 3 ∨ op = 7 ∨ op = 17 := by simpa [oneOp] using hop
    clear hop
    rcases hop' with rfl | rfl | rfl | rfl | rfl
    all_goals
      go_enter Tryz.func68, Tryz.ntmps68
      go_wp2_with fail
      refine (ArrayOk_eq _ _ _ _ _ _ _ sh dt _ (((unhide H1).alloc _).alloc _) (((unhide H2).alloc _).alloc _) _ HR).mono ?_
      rintro e w1 ⟨rfl, hb1⟩
      obtain ⟨B3, B4, hB1⟩ := boxes2 hb1
      have hz1 := B4.lt
      obtain ⟨x0, x1, x2, x3, x4, x5, x6⟩ := B3.all
      clear hb1
      go_wp2_with fail
      refine (l4None_any _).mono ?_
      rintro e w2 ⟨rfl, hb2⟩
      obtain ⟨q0, q1, q2, q3, q4, q5, q6⟩ := (B4.below (Nat.le_refl _) hb2).all
      have hB2 := hide (hB1.trans (hb2.mono (by omega)))
      clear hb2 hB1 B3 B4 hz1 x0 x1 x2 x3 x4 x5 x6
      go_wp2
      refine bodyPost_ret (v := .tuple #[.agg #[.bool false, .slice none 0 0, .slice none 0 0], .int .i64 3]) (by simp [results, Tryz.results68, go_sem, q0, q1, q2]) rfl ?_
      rw [unhide HS]
      exact ⟨none, 0, 0, none, 0, 0, rfl, row_nil _ _, row_nil _ _, (((unhide hB2).setCell (by simp) _).setCell (by simp) _).setCell (by simp) _⟩

end Go.Proofs.YtgjpchnkodnieaaGreatDoor
namespace Go.Proofs.YtgjpchnkodnieaaGreatDoor
open Go.RowKit

def oneGood (op : Int) (dt : List Int) : Bool := dt.all fun v => decide ((oneOf op v).2 = 0)

theorem scalar1_eq (op : Int) (sh dt : List Int) (h1 : arrOk false sh dt = true) (h2 : oneOp op = true) (h3 : oneGood op dt = true) : scalar1 op false sh dt = ⟨false, sh, dt.map fun v => (oneOf op v).1, 0⟩ := by
  unfold scalar1; rw [if_pos ⟨h1, h2, rfl, h3⟩]

theorem scalar1_no (op : Int) (sh dt : List Int) (h3 : oneGood op dt = false) : scalar1 op false sh dt = noAns 3 := by
  unfold scalar1; rw [if_neg]; intro h; unfold oneGood at h3; rw [h.2.2.2] at h3; cases h3

theorem code_3 {op v : Int} (h : (oneOf op v).2 ≠ 0) : (oneOf op v).2 = 3 := by
  unfold oneOf at h ⊢
  repeat' split
  all_goals simp_all

theorem one_bd {op v : Int} (hv : -1000000000000000 ≤ v ∧ v ≤ 1000000000000000) : -1000000000000000 ≤ (oneOf op v).1 ∧ (oneOf op v).1 ≤ 1000000000000000 := by
  have := truth_bd (decide (0 < v)); have := truth_bd (decide (v < 0))
  unfold oneOf
  repeat' split
  all_goals simp only []
  all_goals omega

theorem l4One_eq (op v : Int) (w : World) (hv : -1000000000000000 ≤ v ∧ v ≤ 1000000000000000) (r1 r2 : Int) (hr : Hid (oneOf op v = (r1, r2))) : Calls Tryz.prog 153 #[.int .i64 op, .int .i64 v] w fun e w' => e = .returned (.tuple #[.int .i64 r1, .int .i64 r2]) ∧ w' = w := by
  have := l4One_any op v w hv
  rw [unhide hr] at this
  exact this

set_option maxRecDepth 20000 in
set_option maxHeartbeats 4000000 in
theorem Scalar1_good (op : Int) (a1 a2 : Addr) (n1 n2 c1 c2 : Nat) (sh dt : List Int) (w : World) (h1 : Row w (some a1) n1 sh) (h2 : Row w (some a2) n2 dt) (hok : arrOk false sh dt = true) (hop : oneOp op = true) :
    Calls Tryz.prog 68 #[.int .i64 op, .agg #[.bool false, .slice (some a1) n1 c1, .slice (some a2) n2 c2]] w (GivesRow w (scalar1 op false sh dt)) := by
  have HV : Hid (∀ k, k < dt.length → -1000000000000000 ≤ dt.getD k 0 ∧ dt.getD k 0 ≤ 1000000000000000) := fun k hk => dataOk_bd hok hk
  have HR := hide hok
  have HOP := hide hop
  have hl2 := hide h2.len
  have hs2 := h2.small
  have H1 := hide h1
  have H2 := hide h2
  clear h1 h2 hok
  obtain ⟨i0, hi, hz0, hz1, hz2⟩ := info_parts info_int
  have hop' : op = 1 ∨ op = 2 ∨ op = 3 ∨ op = 7 ∨ op = 17 := by simpa [oneOp] using hop
  clear hop
  obtain ⟨o, ho⟩ : ∃ o, o = op := ⟨_, rfl⟩
  rw [← ho] at HOP
  have HGV : GivesRow w (scalar1 op false sh dt) = GivesRow w (scalar1 o false sh dt) := by rw [ho]
  rw [HGV]
  clear HGV
  have HOE := hide ho
  clear ho
  rcases hop' with rfl | rfl | rfl | rfl | rfl
  all_goals
    go_enter Tryz.func68, Tryz.ntmps68
    go_wp2_with fail
    refine (ArrayOk_eq _ _ _ _ _ _ _ sh dt _ (((unhide H1).alloc _).alloc _) (((unhide H2).alloc _).alloc _) _ HR).mono ?_
    rintro e w1 ⟨rfl, hb1⟩
    obtain ⟨B3, B4, hB1⟩ := boxes2 hb1
    have hy1 := B4.lt
    obtain ⟨x0, x1, x2, x3, x4, x5, x6⟩ := B3.all
    clear hb1
    go_wp2_with fail
    refine (l3Ints_any _ _ _ sh _ (by exact (unhide H1).below (Nat.le_refl _) hB1)).mono ?_
    rintro e w2 ⟨ash, csh, rfl, hO, hb2⟩
    have HB3 := hide (B3.below (Nat.le_refl _) hb2)
    have HB4 := hide (B4.below (Nat.le_refl _) hb2)
    have HB2 := hide (hB1.trans (hb2.mono (by omega)))
    have HO := hide (hO.mono (B' := w.heap.size) (by omega))
    have HOl : Hid (∀ k, At ash n1 k → k < w2.heap.size) := fun k hk => hO.row.hi hk
    have HOp : Hid (∀ k, At ash n1 k → k ≠ w.heap.size + 1) := fun k hk => by have := hO.low hk; omega
    have hy2 := (unhide HB4).lt
    clear hb2 hB1 B3 B4 hy1 x0 x1 x2 x3 x4 x5 x6 hO w1
    go_wp2_with fail
    go_loopw [7] (fun i wr => ∃ (k : Nat) (v : Value), k ≤ n2 ∧ i = .int .i64 k ∧ Box wr (w2.heap.size + 1) false (.slice ash n1 csh) v ∧ wr.ownsRow w2.heap.size 3 1 v k (((dt.take k).map fun x => (oneOf o x).1).map (Value.int .i64)) ∧ Below w2.heap.size w2 wr ∧ oneGood o (dt.take k) = true) (fun i _ => n2 - (intOf i).toNat)
    case atStart =>
      refine ⟨0, .slice (some ⟨w2.heap.size, 0, none⟩) 0 0, Nat.zero_le _, rfl, ?_, ?_, ((Below.refl _ _).alloc (Nat.le_refl _) _).alloc (by simp) _, rfl⟩
      · have := Box.new (w2.alloc (.cells #[] 3)) false (.slice ash n1 csh) (.slice (some ⟨w2.heap.size, 0, none⟩) 0 0)
        simpa using this
      · exact (owns_empty w2).alloc _
    case round =>
      obtain ⟨k, v, hk, rfl, hbx, hown, hbl, hgood⟩ := hrel
      have HW := hide ((unhide HB2).trans (hbl.mono (by omega)))
      obtain ⟨y0, y1, y2, y3, y4, y5, y6⟩ := hbx.all
      obtain ⟨z0, z1, z2, z3, z4, z5, z6⟩ := ((unhide HB3).low (by omega) hbl).all
      have B4' := hide ((unhide HB4).low hy2 hbl)
      have HO' := hide ((unhide HO).low' (unhide HOl) hbl)
      have hwr : w2.heap.size ≤ wr.heap.size := hbl.size
      by_cases hlt : k < n2
      · obtain ⟨b, off, hab, hblt, hc⟩ := (unhide H2).get hlt
        cases hab
        have hc' := ((unhide HW).cell (p := ⟨b, off + k, none⟩) hblt).trans hc
        have hkl : k < dt.length := by rw [unhide hl2]; exact hlt
        obtain ⟨x, hx⟩ : ∃ x, x = dt.getD k 0 := ⟨_, rfl⟩
        have hxb := unhide HV k hkl
        rw [← hx] at hc' hxb
        have HX := hide hx
        have HKL := hide hkl
        obtain ⟨r, hr⟩ : ∃ r, oneOf o x = r := ⟨_, rfl⟩
        obtain ⟨r1, r2⟩ := r
        have HRR := hide hr
        have HRO : Hid (oneOf _ x = (r1, r2)) := (unhide HOE) ▸ hr
        clear hc hx hkl hr
        by_cases hcode : r2 = 0
        · subst hcode
          have HBX := hide hbx
          have HBL := hide hbl
          have HG := hide hgood
          clear hbx hbl hgood
          go_wp2_with (first
            | (go_at_call 153; refine (l4One_eq _ _ _ hxb _ _ HRO).mono ?_; rintro e wr ⟨rfl, rfl⟩)
            | (at_builtin; refine wpList_append_own _ rfl _ _ 23 rfl w2.heap.size 3 i0 (.int .i64 0) 1 8 Tryz.underlying23 hi hz0 hz1 hz2 rfl (by decide) _ _ _ rfl (hown.alloc _) ⟨wr.heap.size, 0, none⟩ 1 1 [.int .i64 r1] rfl rfl (cells_new _ _) (one_one _) (by unfold maxLen; omega) (by omega) (by simp; omega) ?_; intro v1 w3 hown' hgrow hnil; clear hnil; obtain ⟨av, cv, rfl⟩ := owns_slice hown'; have HB := hide (below_append _ hown hwr hgrow); have HX6 := hide ((unhide HBX).grown hown _ hgrow); obtain ⟨y0', y1', y2', y3', y4', y5', y6'⟩ := (unhide HX6).all; clear hgrow))
          have HN : Hid (w3.ownsRow w2.heap.size 3 1 (.slice av (k + 1) cv) (k + 1) (((dt.take (k + 1)).map fun x => (oneOf o x).1).map (Value.int .i64))) := by
            show w3.ownsRow _ _ _ _ _ _
            rw [take_map_snoc _ _ _ (unhide HKL), ← unhide HX, unhide HRR]
            exact hown'
          go_roundw
          case rel => exact ⟨k + 1, .slice av (k + 1) cv, by omega, by go_num, (unhide HX6).set2 _, owns_box_set (unhide HN) (unhide HX6) _ _, ((unhide HBL).trans (unhide HB)).setCell (by simp) _, all_step _ _ _ (unhide HKL) (unhide HG) (by rw [← unhide HX, unhide HRR]; rfl)⟩
          case measure => simp [intOf]; omega
        · have h3 : r2 = 3 := by have := code_3 (op := o) (v := x) (by rw [unhide HRR]; exact hcode); rw [unhide HRR] at this; exact this
          subst h3
          have HS : Hid (scalar1 o false sh dt = noAns 3) := scalar1_no o sh dt (all_not _ _ k (unhide HKL) (by rw [← unhide HX, unhide HRR]; rfl))
          clear hcode hbx hgood hown
          go_wp2_with (go_at_call 153; refine (l4One_eq _ _ _ hxb _ _ HRO).mono ?_; rintro e wr ⟨rfl, rfl⟩)
          refine (l4None_any _).mono ?_
          rintro e w4 ⟨rfl, hb4⟩
          obtain ⟨q0, q1, q2, q3, q4, q5, q6⟩ := ((unhide B4').below (Nat.le_refl _) hb4).all
          have hB4 := hide ((unhide HW).trans (hb4.mono (by omega)))
          clear hb4 HW HB2 HB3 HB4 B4' HO HO' y0 y1 y2 y3 y4 y5 y6 z0 z1 z2 z3 z4 z5 z6
          go_wp2
          refine bodyPost_ret (v := .tuple #[.agg #[.bool false, .slice none 0 0, .slice none 0 0], .int .i64 3]) (by simp [results, Tryz.results68, go_sem, q0, q1, q2]) rfl ?_
          rw [unhide HS]
          exact ⟨none, 0, 0, none, 0, 0, rfl, row_nil _ _, row_nil _ _, (((unhide hB4).setCell (by simp) _).setCell (by simp) _).setCell (by simp) _⟩
      · have hkn : k = n2 := by omega
        subst hkn
        have ht : dt.take k = dt := List.take_of_length_le (by rw [unhide hl2]; exact Nat.le_refl _)
        rw [ht] at hown hgood
        have HS := hide (scalar1_eq o sh dt (unhide HR) (unhide HOP) hgood)
        obtain ⟨ad, cd, rfl, hD⟩ := Own.of_owns hown hs2
        have HD := hide hD
        clear hown hgood ht hD hbx hbl
        obtain ⟨q0, q1, q2, q3, q4, q5, q6⟩ := (unhide B4').all
        go_wp2
        refine bodyPost_ret (v := .tuple #[.agg #[.bool false, .slice ash n1 csh, .slice ad k cd], .int .i64 0]) (by simp [results, Tryz.results68, go_sem, q0, q1, q2]) rfl ?_
        rw [unhide HS]
        refine ⟨ash, n1, csh, ad, k, cd, rfl, ?_, ?_, (((unhide HW).setCell (by simp) _).setCell (by simp) _).setCell (by simp) _⟩
        · exact ((((unhide HO').other (unhide HOp) _).other (unhide HOp) _).other (unhide HOp) _).row
        · have hp : ∀ x, At ad k x → x ≠ w.heap.size + 1 := fun x hx => by have := (unhide HD).low hx; omega
          exact ((((unhide HD).other hp _).other hp _).other hp _).row

theorem Scalar1_any (op : Int) (c : Bool) (a1 a2 : Addr) (n1 n2 c1 c2 : Nat) (sh dt : List Int) (w : World) (h1 : Row w (some a1) n1 sh) (h2 : Row w (some a2) n2 dt) :
    Calls Tryz.prog 68 #[.int .i64 op, .agg #[.bool c, .slice (some a1) n1 c1, .slice (some a2) n2 c2]] w (GivesRow w (scalar1 op c sh dt)) := by
  by_cases hb : arrOk c sh dt = true ∧ oneOp op = true ∧ c = false
  · obtain ⟨h3, h4, rfl⟩ := hb
    exact Scalar1_good op a1 a2 n1 n2 c1 c2 sh dt w h1 h2 h3 h4
  · exact Scalar1_bad op c a1 a2 n1 n2 c1 c2 sh dt w h1 h2 hb

end Go.Proofs.YtgjpchnkodnieaaGreatDoor
namespace Go.Proofs.YtgjpchnkodnieaaGreatDoor
open Go.RowKit Go.Shelf

theorem chV_no {op : Int} (h : oneOp op = false) : chV op = .nilFunc := by
  have h' : ¬ (op = 1 ∨ op = 2 ∨ op = 3 ∨ op = 7 ∨ op = 17) := by simpa [oneOp] using h
  unfold chV
  rw [if_neg (by omega), if_neg (by omega), if_neg (by omega), if_neg (by omega), if_neg (by omega)]

theorem chV_yes {op : Int} (h : oneOp op = true) : ∃ g, chV op = .func (.func g) #[] #[] := by
  have h' : op = 1 ∨ op = 2 ∨ op = 3 ∨ op = 7 ∨ op = 17 := by simpa [oneOp] using h
  rcases h' with rfl | rfl | rfl | rfl | rfl <;> exact ⟨_, rfl⟩

theorem eql_func_nil (g : Nat) (w : World) : (binOp .eql 210 (.func (.func g) #[] #[]) .nilFunc).run Tryz.prog w = .ok (.bool false) w := by kernel_rfl
theorem eql_nil_func (w : World) : (binOp .eql 210 .nilFunc .nilFunc).run Tryz.prog w = .ok (.bool true) w := by kernel_rfl

set_option maxRecDepth 20000 in
set_option maxHeartbeats 4000000 in
theorem implScalar1_bad1 (op : Int) (c : Bool) (a1 a2 : Addr) (n1 n2 c1 c2 : Nat) (w : World) (hop : oneOp op = false) :
    Calls Tryz.prog 217 #[.int .i64 op, .agg #[.bool c, .slice (some a1) n1 c1, .slice (some a2) n2 c2]] w (GivesOwn w (noAns 3)) := by
  have HV := hide (chV_no hop)
  have e1 := eql_nil_func
  clear hop
  go_enter Tryz.func217, Tryz.ntmps217
  go_wp2_with (go_at_call 267; refine (changeOf_any op _).mono ?_; rintro e w1 ⟨rfl, hb1⟩; rw [unhide HV]; obtain ⟨B3, B4, hB1⟩ := boxes2 hb1; have HB := hide hB1; obtain ⟨x0, x1, x2, x3, x4, x5, x6⟩ := B3.all; obtain ⟨q0, q1, q2, q3, q4, q5, q6⟩ := B4.all; clear hb1 hB1 B3 B4)
  refine bodyPost_ret (v := .tuple #[.agg #[.bool false, .slice none 0 0, .slice none 0 0], .int .i64 3]) (by simp [results, Tryz.results217, go_sem, q0, q1, q2, q6]) rfl ?_
  exact gives_none (((((unhide HB).setCell (by simp) _).setCell (by simp) _).setCell (by simp) _).alloc (by simp; omega) _)

set_option maxRecDepth 20000 in
set_option maxHeartbeats 4000000 in
theorem implScalar1_bad2 (op : Int) (c : Bool) (a1 a2 : Addr) (n1 n2 c1 c2 : Nat) (sh dt : List Int) (w : World) (h1 : Row w (some a1) n1 sh) (h2 : Row w (some a2) n2 dt) (hop : oneOp op = true) (r : Bool) (hok : arrOk c sh dt = r) (hrc : r = false ∨ c = true) :
    Calls Tryz.prog 217 #[.int .i64 op, .agg #[.bool c, .slice (some a1) n1 c1, .slice (some a2) n2 c2]] w (GivesOwn w (noAns 3)) := by
  obtain ⟨g, hg⟩ := chV_yes hop
  have HV := hide hg
  have e1 := eql_func_nil g
  have H1 := hide h1
  have H2 := hide h2
  have HR := hide hok
  clear hop hg h1 h2 hok
  rcases hrc with rfl | rfl
  · go_enter Tryz.func217, Tryz.ntmps217
    go_wp2_with (first
      | (go_at_call 267; refine (changeOf_any op _).mono ?_; rintro e w1 ⟨rfl, hb1⟩; rw [unhide HV]; obtain ⟨B3, B4, hB1⟩ := boxes2 hb1; have HB3 := hide B3; have HB4 := hide B4; have HB := hide hB1; obtain ⟨x0, x1, x2, x3, x4, x5, x6⟩ := B3.all; clear hb1 hB1 B3 B4)
      | (go_at_call 51; refine (implArrayOk_eq _ _ _ _ _ _ _ sh dt _ (((unhide H1).below (Nat.le_refl _) (unhide HB)).alloc _) (((unhide H2).below (Nat.le_refl _) (unhide HB)).alloc _) _ HR).mono ?_; rintro e w2 ⟨rfl, hb2⟩; have hB4 := ((unhide HB4).alloc _).below (Nat.le_refl _) hb2; obtain ⟨q0, q1, q2, q3, q4, q5, q6⟩ := hB4.all; have HC := hide (((unhide HB).alloc (by omega) _).trans (hb2.mono (by simp; omega))); clear hb2 hB4 x0 x1 x2 x3 x4 x5))
    refine bodyPost_ret (v := .tuple #[.agg #[.bool false, .slice none 0 0, .slice none 0 0], .int .i64 3]) (by simp [results, Tryz.results217, go_sem, q0, q1, q2]) rfl ?_
    exact gives_none ((((unhide HC).setCell (by simp) _).setCell (by simp) _).setCell (by simp) _)
  · cases r with
    | false =>
      go_enter Tryz.func217, Tryz.ntmps217
      go_wp2_with (first
        | (go_at_call 267; refine (changeOf_any op _).mono ?_; rintro e w1 ⟨rfl, hb1⟩; rw [unhide HV]; obtain ⟨B3, B4, hB1⟩ := boxes2 hb1; have HB3 := hide B3; have HB4 := hide B4; have HB := hide hB1; obtain ⟨x0, x1, x2, x3, x4, x5, x6⟩ := B3.all; clear hb1 hB1 B3 B4)
        | (go_at_call 51; refine (implArrayOk_eq _ _ _ _ _ _ _ sh dt _ (((unhide H1).below (Nat.le_refl _) (unhide HB)).alloc _) (((unhide H2).below (Nat.le_refl _) (unhide HB)).alloc _) _ HR).mono ?_; rintro e w2 ⟨rfl, hb2⟩; have hB4 := ((unhide HB4).alloc _).below (Nat.le_refl _) hb2; obtain ⟨q0, q1, q2, q3, q4, q5, q6⟩ := hB4.all; have HC := hide (((unhide HB).alloc (by omega) _).trans (hb2.mono (by simp; omega))); clear hb2 hB4 x0 x1 x2 x3 x4 x5))
      refine bodyPost_ret (v := .tuple #[.agg #[.bool false, .slice none 0 0, .slice none 0 0], .int .i64 3]) (by simp [results, Tryz.results217, go_sem, q0, q1, q2]) rfl ?_
      exact gives_none ((((unhide HC).setCell (by simp) _).setCell (by simp) _).setCell (by simp) _)
    | true =>
      go_enter Tryz.func217, Tryz.ntmps217
      go_wp2_with (first
        | (go_at_call 267; refine (changeOf_any op _).mono ?_; rintro e w1 ⟨rfl, hb1⟩; rw [unhide HV]; obtain ⟨B3, B4, hB1⟩ := boxes2 hb1; have HB3 := hide B3; have HB4 := hide B4; have HB := hide hB1; obtain ⟨x0, x1, x2, x3, x4, x5, x6⟩ := B3.all; clear hb1 hB1 B3 B4)
        | (go_at_call 51; refine (implArrayOk_eq _ _ _ _ _ _ _ sh dt _ (((unhide H1).below (Nat.le_refl _) (unhide HB)).alloc _) (((unhide H2).below (Nat.le_refl _) (unhide HB)).alloc _) _ HR).mono ?_; rintro e w2 ⟨rfl, hb2⟩; have hB4 := ((unhide HB4).alloc _).below (Nat.le_refl _) hb2; have hB3 := ((unhide HB3).alloc _).below (Nat.le_refl _) hb2; obtain ⟨q0, q1, q2, q3, q4, q5, q6⟩ := hB4.all; have HC := hide (((unhide HB).alloc (by omega) _).trans (hb2.mono (by simp; omega))); clear hb2 hB4 x0 x1 x2 x3 x4 x5; obtain ⟨x0, x1, x2, x3, x4, x5, x7⟩ := hB3.all; clear hB3))
      refine bodyPost_ret (v := .tuple #[.agg #[.bool false, .slice none 0 0, .slice none 0 0], .int .i64 3]) (by simp [results, Tryz.results217, go_sem, q0, q1, q2]) rfl ?_
      exact gives_none ((((unhide HC).setCell (by simp) _).setCell (by simp) _).setCell (by simp) _)

/-- What Scalar1 reckons at a place. -/
def oneAt (op : Int) (dt : List Int) (k : Nat) : Int × Int := oneOf op (dt.getD k 0)

theorem oneAt_code (op : Int) (dt : List Int) (k : Nat) : codeIn (oneAt op dt k).2 := by
  by_cases h : (oneAt op dt k).2 = 0
  · exact .inl h
  · exact .inr (.inl (code_3 h))

theorem firstCode_3 (op : Int) (dt : List Int) (n : Nat) : firstCode (oneAt op dt) n = 0 ∨ firstCode (oneAt op dt) n = 3 := by
  induction n with
  | zero => exact .inl rfl
  | succ n ih =>
    simp only [firstCode]
    split
    · by_cases h : (oneAt op dt n).2 = 0
      · exact .inl h
      · exact .inr (code_3 h)
    · exact ih

theorem scalar1_gather (op : Int) (sh dt : List Int) (h1 : arrOk false sh dt = true) (h2 : oneOp op = true) : scalar1 op false sh dt = gatherAns false sh (oneAt op dt) dt.length := by
  by_cases h : oneGood op dt = true
  · rw [scalar1_eq op sh dt h1 h2 h, gather_good]
    · have : vals (oneAt op dt) dt.length = dt.map fun v => (oneOf op v).1 := by
        apply List.ext_getElem (by simp [vals])
        intro i hi hi'
        simp at hi'
        simp [vals, oneAt, hi']
      rw [this]
    · rw [firstCode_zero]
      intro k hk
      have := List.all_eq_true.mp h (dt.getD k 0) (by simp [hk])
      exact of_decide_eq_true this
  · have h' : oneGood op dt = false := by simpa using h
    have hn : firstCode (oneAt op dt) dt.length ≠ 0 := by
      intro e
      apply h
      refine List.all_eq_true.mpr fun v hv => ?_
      obtain ⟨i, hi, rfl⟩ := List.getElem_of_mem hv
      have := firstCode_zero.mp e i hi
      simp [oneAt, hi] at this
      exact decide_eq_true this
    rw [scalar1_no op sh dt h']
    unfold gatherAns
    rw [if_neg hn]
    rcases firstCode_3 op dt dt.length with e | e
    · exact absurd e hn
    · rw [e]

set_option maxRecDepth 20000 in
set_option maxHeartbeats 4000000 in
theorem implScalar1_good (op : Int) (a1 a2 : Addr) (n1 n2 c1 c2 : Nat) (sh dt : List Int) (w : World) (ga gb : Addr) (hG : Gl w ga gb) (h1 : Row w (some a1) n1 sh) (h2 : Row w (some a2) n2 dt) (hop : oneOp op = true) (hok : arrOk false sh dt = true) :
    Calls Tryz.prog 217 #[.int .i64 op, .agg #[.bool false, .slice (some a1) n1 c1, .slice (some a2) n2 c2]] w (GivesOwn w (gatherAns false sh (oneAt op dt) n2)) := by
  have hn2 : dt.length = n2 := h2.len
  have HV : Hid (∀ k, k < n2 → -1000000000000000 ≤ dt.getD k 0 ∧ dt.getD k 0 ≤ 1000000000000000) := fun k hk => dataOk_bd hok (by omega)
  obtain ⟨g, hg⟩ := chV_yes hop
  have HCV := hide hg
  have e1 := eql_func_nil g
  have H1 := hide h1
  have H2 := hide h2
  have HR := hide hok
  have HG := hide hG
  have HOP := hide hop
  have HS : Hid (shapeB sh = true ∧ countOf sh = (n2 : Int)) := by
    have hh := arr_parts hok
    rw [hn2] at hh
    exact hh
  have eg : ∀ args w, (callFunc 268 args).run Tryz.prog w = .ok (.enter 268 args) w := enters_of Tryz.func268 (by kernel_rfl) rfl
  clear hop hg h1 h2 hok hG hn2
  have HE : ∀ (p6 : Nat) (v1 : Value) (W : World), Gl W ga gb → W.cell? ⟨p6, 0, none⟩ = some (.func (.func g) #[] #[]) → Box W w.heap.size false v1 (.slice (some a2) n2 c2) → Row W (some a2) n2 dt → ElemOk ga gb 268 #[.pointer (some ⟨p6, 0, none⟩), .pointer (some ⟨w.heap.size, 0, none⟩)] (oneAt op dt) n2 W := by
    intro p6 v1 W hG hc hB h2 k hk W' hW
    have hlt : p6 < W.heap.size := World.block_lt_of_cell? _ _ hc
    exact clo1 op ga gb a2 p6 w.heap.size n2 c2 k v1 dt W' (unhide HOP) (hG.below hW) (by rw [unhide HCV]; exact (hW.cell (p := ⟨p6, 0, none⟩) hlt).trans hc) (hB.below (Nat.le_refl _) hW) (h2.below (Nat.le_refl _) hW) hk (unhide HV k hk)
  have HEE := hide HE
  clear HE
  by_cases h0 : firstCode (oneAt op dt) n2 = 0
  · have HZ := hide h0
    rw [gather_good h0]
    clear h0
    go_enter Tryz.func217, Tryz.ntmps217
    go_wp2_with (first
      | (go_at_call 267; refine (changeOf_any op _).mono ?_; rintro e w1 ⟨rfl, hb1⟩; rw [unhide HCV]; obtain ⟨B3, B4, hB1⟩ := boxes2 hb1; have HB3 := hide B3; have HB4 := hide B4; have HB := hide hB1; obtain ⟨x0, x1, x2, x3, x4, x5, x6⟩ := B3.all; clear hb1 hB1 B3 B4)
      | (go_at_call 51; refine (implArrayOk_eq _ _ _ _ _ _ _ sh dt _ (((unhide H1).below (Nat.le_refl _) (unhide HB)).alloc _) (((unhide H2).below (Nat.le_refl _) (unhide HB)).alloc _) _ HR).mono ?_; rintro e w2 ⟨rfl, hb2⟩; have hB4 := hide (((unhide HB4).alloc _).below (Nat.le_refl _) hb2); have hB3 := ((unhide HB3).alloc _).below (Nat.le_refl _) hb2; have HB3' := hide hB3; have HC := hide (((unhide HB).alloc (by omega) _).trans (hb2.mono (by simp; omega))); have hp6 : w2.cell? ⟨w1.heap.size, 0, none⟩ = some (.func (.func g) #[] #[]) := (hb2.cell (p := ⟨w1.heap.size, 0, none⟩) (by simp)).trans (by simp); clear hb2 x0 x1 x2 x3 x4 x5; obtain ⟨x0, x1, x2, x3, x4, x5, x7⟩ := hB3.all; clear hB3 HB3 HB4)
      | (go_at_call 63; refine (Clone_any a1 n1 c1 sh _ ((unhide H1).below (Nat.le_refl _) (unhide HC))).mono ?_; rintro e w3 ⟨ash, csh, rfl, hcs, hO, hb3⟩; have HO := hide (hO.mono (B' := w.heap.size) (by omega)); have HOB := hide hO; have HD := hide ((unhide HC).trans (hb3.mono (by omega))); have HB3'' := hide ((unhide HB3').below (Nat.le_refl _) hb3); have HB4'' := hide ((unhide hB4).below (Nat.le_refl _) hb3); have hs23 := hb3.size; have hp6' : w3.cell? ⟨w1.heap.size, 0, none⟩ = some (.func (.func g) #[] #[]) := (hb3.cell (p := ⟨w1.heap.size, 0, none⟩) (World.block_lt_of_cell? _ _ hp6)).trans hp6; clear hb3 hp6 x0 x1 x2 x3 x4 x5 hO)
      | (go_at_call 118; refine (reckoned_any ga gb 268 _ eg (oneAt op dt) n2 _ _ _ sh _ (unhide HO).row (unhide HS).1 (unhide HS).2 ((unhide HG).below (unhide HD)) (fun k _ => oneAt_code op dt k) (unhide HEE _ _ _ ((unhide HG).below (unhide HD)) hp6' (unhide HB3'') ((unhide H2).below (Nat.le_refl _) (unhide HD)))).mono ?_; rintro e w4 ⟨hr, hb4⟩; obtain ⟨_, p, hpl, rfl, hblk⟩ | ⟨hne, _⟩ := hr; rotate_left; exact absurd (unhide HZ) hne; have hB4 := (unhide HB4'').below (Nat.le_refl _) hb4; obtain ⟨q0, q1, q2, q3, q4, q5, q6⟩ := hB4.all; have HB5 := hide hb4; have HK := hide hblk; clear hb4 hblk hB4))
    refine bodyPost_ret (v := .tuple #[.agg #[.bool false, .slice ash n1 csh, .slice (some ⟨p, 0, none⟩) n2 n2], .int .i64 0]) (by simp [results, Tryz.results217, go_sem, q0, q1, q2]) rfl ?_
    have hO := (unhide HO).below (Nat.le_refl _) (unhide HB5)
    have hw1 : w.heap.size + 1 < w2.heap.size := (unhide hB4).lt
    have hw2 : w2.heap.size ≤ w3.heap.size := hs23
    have hk : ∀ k, At ash n1 k → k ≠ w.heap.size + 1 := fun k hk => by have := (unhide HOB).low hk; omega
    have hD : Own w4 w.heap.size (some ⟨p, 0, none⟩) n2 (vals (oneAt op dt) n2) := (unhide HK).own (vals_len _ _) (unhide H2).small (by omega)
    have hk2 : ∀ k, At (some ⟨p, 0, none⟩) n2 k → k ≠ w.heap.size + 1 := fun k hk => by have := at_eq hk; omega
    refine ⟨ash, n1, csh, some ⟨p, 0, none⟩, n2, n2, rfl, ((hO.other hk _).other hk _).other hk _, ((hD.other hk2 _).other hk2 _).other hk2 _, fun k h1 h2 => ?_, (((unhide HD).trans ((unhide HB5).mono (by omega))).setCell (by simp) _ |>.setCell (by simp) _).setCell (by simp) _⟩
    have := (unhide HOB).row.hi h1
    have := at_eq h2
    omega
  · have HZ := hide h0
    have hga : gatherAns false sh (oneAt op dt) n2 = noAns (firstCode (oneAt op dt) n2) := by unfold gatherAns; rw [if_neg h0]
    rw [hga]
    clear h0 hga
    obtain ⟨cc, hcc⟩ : ∃ cc, cc = firstCode (oneAt op dt) n2 := ⟨_, rfl⟩
    rw [← hcc]
    have HCC := hide hcc
    clear hcc
    go_enter Tryz.func217, Tryz.ntmps217
    go_wp2_with (first
      | (go_at_call 267; refine (changeOf_any op _).mono ?_; rintro e w1 ⟨rfl, hb1⟩; rw [unhide HCV]; obtain ⟨B3, B4, hB1⟩ := boxes2 hb1; have HB3 := hide B3; have HB4 := hide B4; have HB := hide hB1; obtain ⟨x0, x1, x2, x3, x4, x5, x6⟩ := B3.all; clear hb1 hB1 B3 B4)
      | (go_at_call 51; refine (implArrayOk_eq _ _ _ _ _ _ _ sh dt _ (((unhide H1).below (Nat.le_refl _) (unhide HB)).alloc _) (((unhide H2).below (Nat.le_refl _) (unhide HB)).alloc _) _ HR).mono ?_; rintro e w2 ⟨rfl, hb2⟩; have hB4 := hide (((unhide HB4).alloc _).below (Nat.le_refl _) hb2); have hB3 := ((unhide HB3).alloc _).below (Nat.le_refl _) hb2; have HB3' := hide hB3; have HC := hide (((unhide HB).alloc (by omega) _).trans (hb2.mono (by simp; omega))); have hp6 : w2.cell? ⟨w1.heap.size, 0, none⟩ = some (.func (.func g) #[] #[]) := (hb2.cell (p := ⟨w1.heap.size, 0, none⟩) (by simp)).trans (by simp); clear hb2 x0 x1 x2 x3 x4 x5; obtain ⟨x0, x1, x2, x3, x4, x5, x7⟩ := hB3.all; clear hB3 HB3 HB4)
      | (go_at_call 63; refine (Clone_any a1 n1 c1 sh _ ((unhide H1).below (Nat.le_refl _) (unhide HC))).mono ?_; rintro e w3 ⟨ash, csh, rfl, hcs, hO, hb3⟩; have HO := hide (hO.mono (B' := w.heap.size) (by omega)); have HOB := hide hO; have HD := hide ((unhide HC).trans (hb3.mono (by omega))); have HB3'' := hide ((unhide HB3').below (Nat.le_refl _) hb3); have HB4'' := hide ((unhide hB4).below (Nat.le_refl _) hb3); have hs23 := hb3.size; have hp6' : w3.cell? ⟨w1.heap.size, 0, none⟩ = some (.func (.func g) #[] #[]) := (hb3.cell (p := ⟨w1.heap.size, 0, none⟩) (World.block_lt_of_cell? _ _ hp6)).trans hp6; clear hb3 hp6 x0 x1 x2 x3 x4 x5 hO)
      | (go_at_call 118; refine (reckoned_any ga gb 268 _ eg (oneAt op dt) n2 _ _ _ sh _ (unhide HO).row (unhide HS).1 (unhide HS).2 ((unhide HG).below (unhide HD)) (fun k _ => oneAt_code op dt k) (unhide HEE _ _ _ ((unhide HG).below (unhide HD)) hp6' (unhide HB3'') ((unhide H2).below (Nat.le_refl _) (unhide HD)))).mono ?_; rintro e w4 ⟨hr, hb4⟩; obtain ⟨hne, _⟩ | ⟨_, he⟩ := hr; exact absurd hne (unhide HZ); rw [← unhide HCC] at he; subst he; have hB4 := (unhide HB4'').below (Nat.le_refl _) hb4; obtain ⟨q0, q1, q2, q3, q4, q5, q6⟩ := hB4.all; have HB5 := hide hb4; clear hb4 hB4))
    refine bodyPost_ret (v := .tuple #[.agg #[.bool false, .slice none 0 0, .slice none 0 0], .int .i64 cc]) (by simp [results, Tryz.results217, go_sem, q0, q1, q2]) rfl ?_
    exact gives_none (((((unhide HD).trans ((unhide HB5).mono (by have := (unhide hB4).lt; omega))).setCell (by simp) _).setCell (by simp) _).setCell (by simp) _)

theorem implScalar1_any (op : Int) (c : Bool) (a1 a2 : Addr) (n1 n2 c1 c2 : Nat) (sh dt : List Int) (w : World) (h1 : Row w (some a1) n1 sh) (h2 : Row w (some a2) n2 dt) (ga gb : Addr) (hG : Gl w ga gb) :
    Calls Tryz.prog 217 #[.int .i64 op, .agg #[.bool c, .slice (some a1) n1 c1, .slice (some a2) n2 c2]] w (GivesOwn w (scalar1 op c sh dt)) := by
  cases hop : oneOp op with
  | false =>
    have e : scalar1 op c sh dt = noAns 3 := by unfold scalar1; rw [if_neg (by rw [hop]; simp)]
    rw [e]
    exact implScalar1_bad1 op c a1 a2 n1 n2 c1 c2 w hop
  | true =>
    by_cases hb : arrOk c sh dt = true ∧ c = false
    · obtain ⟨hok, rfl⟩ := hb
      rw [scalar1_gather op sh dt hok hop, h2.len]
      exact implScalar1_good op a1 a2 n1 n2 c1 c2 sh dt w ga gb hG h1 h2 hop hok
    · have e : scalar1 op c sh dt = noAns 3 := by unfold scalar1; rw [if_neg (fun h => hb ⟨h.1, h.2.2.1⟩)]
      rw [e]
      refine implScalar1_bad2 op c a1 a2 n1 n2 c1 c2 sh dt w h1 h2 hop _ rfl ?_
      cases c
      · left; simpa using hb
      · exact .inr rfl

end Go.Proofs.YtgjpchnkodnieaaGreatDoor
namespace Go.Proofs.YtgjpchnkodnieaaGreatDoor
open Go.RowKit

/-- The first n numbers of D. -/
def tab (n : Nat) (D : Nat → Int) : List Int := (List.range n).map D

theorem tab_len (n : Nat) (D : Nat → Int) : (tab n D).length = n := by simp [tab]
theorem tab_get {n : Nat} (D : Nat → Int) {i : Nat} (h : i < n) : (tab n D).getD i 0 = D i := by simp [tab, h]

theorem tab_swap (n : Nat) (D : Nat → Int) {x y : Nat} (h : x ≠ y) : ((tab n D).set x (D y)).set y (D x) = tab n (swap2 D x y) := by
  refine List.ext_getElem? fun i => ?_
  rw [List.getElem?_set, List.getElem?_set]
  by_cases hi : i < n
  · by_cases h1 : y = i
    · subst h1
      rw [if_pos rfl, if_pos (by rw [List.length_set, tab_len]; exact hi)]
      unfold tab swap2
      simp [hi, Ne.symm h]
    · rw [if_neg h1]
      by_cases h2 : x = i
      · subst h2
        rw [if_pos rfl, if_pos (by rw [tab_len]; exact hi)]
        unfold tab swap2
        simp [hi]
      · rw [if_neg h2]
        unfold tab swap2
        simp [hi, Ne.symm h1, Ne.symm h2]
  · have e1 : (tab n D)[i]? = none := by rw [List.getElem?_eq_none]; rw [tab_len]; omega
    have e2 : (tab n (swap2 D x y))[i]? = none := by rw [List.getElem?_eq_none]; rw [tab_len]; omega
    rw [e1, e2]
    split
    · rw [if_neg (by rw [List.length_set, tab_len]; omega)]
    · split
      · rw [if_neg (by rw [tab_len]; omega)]
      · rfl

/-- Block g holds D's first n numbers; all else is as in W. -/
structure TabS (W : World) (g n : Nat) (D : Nat → Int) (wr : World) : Prop where
  blk : Blk wr g (tab n D)
  but : But (fun x => x = g) W wr

section
variable {W wr w' : World} {g n : Nat} {D : Nat → Int}
theorem TabS.refl (h : Blk W g (tab n D)) : TabS W g n D W := ⟨h, But.refl _ _⟩
theorem TabS.cell (h : TabS W g n D wr) {i : Nat} (hi : i < n) : wr.cell? ⟨g, i, none⟩ = some (.int .i64 (D i)) := by
  have := h.blk.cell (i := i) (by rw [tab_len]; exact hi)
  rwa [tab_get D hi] at this
theorem TabS.free (h : TabS W g n D wr) (i : Nat) : wr.frozen? ⟨g, i, none⟩ = false := h.blk.free i
theorem TabS.swap (h : TabS W g n D wr) {x y : Nat} (hxy : x ≠ y) : TabS W g n (swap2 D x y) ((wr.setCell ⟨g, x, none⟩ (.int .i64 (D y))).setCell ⟨g, y, none⟩ (.int .i64 (D x))) := by
  refine ⟨?_, (h.but.setCell (p := ⟨g, x, none⟩) rfl _).setCell (p := ⟨g, y, none⟩) rfl _⟩
  rw [← tab_swap n D hxy]
  exact (h.blk.set x _).set y _
theorem TabS.next {D' : Nat → Int} (h : TabS W g n D wr) (k : TabS wr g n D' w') : TabS W g n D' w' := ⟨k.blk, (h.but.trans k.but).mono (by rintro x (h | h) <;> exact h)⟩
theorem TabS.below (h : TabS W g n D wr) (hb : Below wr.heap.size wr w') : TabS W g n D w' := ⟨h.blk.below (Nat.le_refl _) hb, (h.but.trans (T := fun _ => False) (But.of_below hb)).mono (fun _ hk => hk.elim id False.elim)⟩
theorem TabS.drew (h : TabS W g n D wr) : TabS W g n D wr.drew := h.below (Below.refl _ _).drew
end

end Go.Proofs.YtgjpchnkodnieaaGreatDoor
namespace Go.Proofs.YtgjpchnkodnieaaGreatDoor
open Go.RowKit

/-- The comparing function cf, with its captured variables lb, gives C of two numbers of the row; it only reads. -/
def CmpOk (cf : Nat) (lb : Array Value) (C : Int → Int → Int) (P : Int → Prop) (W : World) (g : Nat) : Prop :=
  ∀ (p q : Int), P p → P q → ∀ wx, But (fun x => x = g) W wx → Calls Tryz.prog cf (#[.int .i64 p, .int .i64 q] ++ lb) wx fun e w' => e = .returned (.int .i64 (C p q)) ∧ ∃ m, w' = wx.drewN m

/-- C says by its sign whose key is less. -/
def CmpKey (C : Int → Int → Int) (K : Int → Int) : Prop := ∀ p q, C p q < 0 ↔ K p < K q

theorem CmpOk.next {cf : Nat} {lb : Array Value} {C : Int → Int → Int} {P : Int → Prop} {W W' : World} {g : Nat} (h : CmpOk cf lb C P W g) (hb : But (fun x => x = g) W W') : CmpOk cf lb C P W' g :=
  fun p q hp hq wx hwx => h p q hp hq wx ((hb.trans hwx).mono (by rintro x (h | h) <;> exact h))

theorem TabS.drewN {W wr : World} {g n : Nat} {D : Nat → Int} (h : TabS W g n D wr) (m : Nat) : TabS W g n D (wr.drewN m) := h.below ⟨rfl, rfl, rfl, Nat.le_refl _, fun _ _ => rfl⟩

set_option maxRecDepth 20000 in
set_option maxHeartbeats 8000000 in
theorem insertion_any (cf : Nat) (lb : Array Value) (eg : ∀ args w, (callFunc cf args).run Tryz.prog w = .ok (.enter cf args) w) (C : Int → Int → Int) (K : Int → Int) (hK : CmpKey C K) (P : Int → Prop) (g n cap a b : Nat) (D : Nat → Int) (w : World) (h : Blk w g (tab n D)) (hcmp : CmpOk cf lb C P w g) (hP : ∀ i, i < n → P (D i)) (hab : a ≤ b) (hbn : b ≤ n) (hn : n ≤ 1000000) (hup : ∀ i j, a ≤ i → i < j → j < b → D i < D j) :
    Calls Tryz.prog 326 #[.slice (some ⟨g, 0, none⟩) n cap, .int .i64 (a : Nat), .int .i64 (b : Nat), .func (.func cf) #[] lb] w fun e w' => (∃ v, e = .returned v) ∧ ∃ E, Merged K D E a b ∧ TabS w g n E w' := by
  have H := hide (TabS.refl h)
  have HC := hide hcmp
  have HP := hide hP
  have HU := hide hup
  clear h hcmp hP hup
  go_enter Tryz.func326, Tryz.ntmps326
  go_wp2_with fail
  go_loopw [8] (fun u wr => ∃ (i : Nat) (E : Nat → Int), u = .int .i64 i ∧ a + 1 ≤ i ∧ (i ≤ b ∨ i = a + 1) ∧ Hid (Merged K D E a i ∧ TabS w g n E wr)) (fun u _ => b - (intOf u).toNat)
  case atStart => exact ⟨a + 1, D, by go_num, Nat.le_refl _, .inr rfl, Merged.refl (fun i j h1 h2 h3 => by omega), unhide H⟩
  case round =>
    obtain ⟨i, E, rfl, hia, hib, HT⟩ := hrel
    clear H
    by_cases hlt : i < b
    case neg =>
      have hlti : ¬ (i : Int) < (b : Int) := by omega
      have HE : Hid (Merged K D E a b ∧ TabS w g n E wr) := by
        obtain ⟨h1, h2⟩ := unhide HT
        refine ⟨?_, h2⟩
        by_cases hb : b = i
        · subst hb; exact h1
        · have e : b = a := by omega
          have hi : i = a + 1 := by omega
          subst e hi
          refine ⟨by rw [seg_none (Nat.le_refl _), seg_none (Nat.le_refl _)], fun i j h3 h4 h5 => by omega, fun t ht => ?_⟩
          by_cases ht2 : t = b
          · subst ht2
            have hp := h1.perm
            rw [seg_one, seg_one] at hp
            simpa using hp
          · exact h1.out t (by omega)
      go_wp2_with fail
      go_end0
      exact ⟨⟨_, rfl⟩, E, unhide HE⟩
    have hlti : (i : Int) < (b : Int) := by omega
    have hin : i < n := by omega
    have HLO : Hid (Low E a i (i + 1)) := fun t u h1 h2 h3 h4 => by
      have eu : u = i := by omega
      rw [eu, (unhide HT).1.out i (by omega)]
      exact perm_all (P := fun x => x < D i) (unhide HT).1.perm (fun t h1 h2 => unhide HU t i h1 h2 hlt) t h1 h2
    have HPE : Hid (∀ t, t < n → P (E t)) := (unhide HT).1.all (unhide HP) (by omega)
    have HJ0 : Hid (TabS w g n (rot E i i (i + 1)) wr) := by show TabS _ _ _ _ _; rw [rot_self]; exact (unhide HT).2
    clear hib
    go_wp2_with fail
    go_loopw [9] (fun u wr => ∃ (j : Nat), u = .int .i64 j ∧ a ≤ j ∧ j ≤ i ∧ Hid ((j = i ∨ K (E i) < K (E j)) ∧ TabS w g n (rot E j i (i + 1)) wr)) (fun u _ => (intOf u).toNat)
    case atStart => exact ⟨i, rfl, by omega, Nat.le_refl _, .inl rfl, unhide HJ0⟩
    case round =>
      obtain ⟨j, rfl, haj, hji, HR⟩ := hrel
      clear HJ0
      have HPR : Hid (∀ t, t < n → P (rot E j i (i + 1) t)) := by
        have hm : ∀ t, t < n → (t < j ∨ i + 1 ≤ t) ∨ (j ≤ t ∧ t < i + 1) := fun t _ => by omega
        intro t ht
        rcases hm t ht with h1 | h1
        · rw [rot_out _ h1]; exact unhide HPE t ht
        · exact perm_all (rot_perm (D := E) hji (by omega)) (fun u h2 h3 => unhide HPE u (by omega)) t h1.1 h1.2
      by_cases hja : a < j
      case neg =>
        have hjai : ¬ (a : Int) < (j : Int) := by omega
        have HN : Hid (Merged K D (rot E j i (i + 1)) a (i + 1) ∧ TabS w g n (rot E j i (i + 1)) wr) := by
          refine ⟨(unhide HT).1.grow (ins_right haj hji (unhide HT).1.rise (unhide HLO) ?_ (.inl (by omega))) (by omega), (unhide HR).2⟩
          exact (unhide HR).1.imp (fun h => h) (fun h => h)
        clear hjai
        have hja' : j = a := by omega
        subst hja'
        clear hja
        go_wp2_with fail
        go_quiet (fail)
        go_wp2_with fail
        go_roundw
        case rel => exact ⟨i + 1, _, by go_num, by omega, .inl (by omega), (unhide HN).1, (unhide HN).2.drewN _⟩
        case measure => simp [intOf]; omega
      have hjai : (a : Int) < (j : Int) := by omega
      obtain ⟨y, hy⟩ : ∃ y, j = y + 1 := ⟨j - 1, by omega⟩
      have HY := hide hy
      have ey : (j : Int) - 1 = (y : Int) := by omega
      have hyn : (y : Int) < (n : Int) := by omega
      have hjn : (j : Int) < (n : Int) := by omega
      have HRJ : Hid (rot E j i (i + 1) j = E i) := by show _ = _; rw [rot_low (Nat.le_refl _) (by omega) hji (by omega)]; congr 1; omega
      have HRY : Hid (rot E j i (i + 1) y = E y) := rot_out _ (.inl (by omega))
      obtain ⟨R, hR⟩ : ∃ R, rot E j i (i + 1) = R := ⟨_, rfl⟩
      have HRR := hide hR
      rw [hR] at HR HRJ HRY HPR
      clear hR
      obtain ⟨u, hu⟩ : ∃ u, R j = u := ⟨_, rfl⟩
      obtain ⟨v, hv⟩ : ∃ v, R y = v := ⟨_, rfl⟩
      have c1 := (unhide HR).2.cell (i := j) (by omega)
      have c2 := (unhide HR).2.cell (i := y) (by omega)
      have pu := unhide HPR j (by omega)
      have pv := unhide HPR y (by omega)
      rw [hu] at c1 pu HRJ
      rw [hv] at c2 pv HRY
      have HU1 := hide hu
      have HV1 := hide hv
      have HCV : Hid (∀ k, Calls Tryz.prog cf (#[.int .i64 u, .int .i64 v] ++ lb) (wr.drewN k) fun e w' => e = .returned (.int .i64 (C u v)) ∧ ∃ m, w' = (wr.drewN k).drewN m) := fun k => unhide HC u v pu pv _ ((unhide HR).2.drewN k).but
      have HKC := hide (hK u v)
      obtain ⟨cv, hcv⟩ : ∃ cv, C u v = cv := ⟨_, rfl⟩
      rw [hcv] at HCV HKC
      clear hu hv hcv pu pv HPR
      by_cases hcc : cv < 0
      case neg =>
        have HN : Hid (Merged K D R a (i + 1) ∧ TabS w g n R wr) := by
          refine ⟨?_, (unhide HR).2⟩
          rw [← unhide HRR]
          refine (unhide HT).1.grow (ins_right haj hji (unhide HT).1.rise (unhide HLO) (unhide HR).1 (.inr ?_)) (by omega)
          have h1 := mt (unhide HKC).2 hcc
          rw [unhide HRJ, unhide HRY] at *
          rw [show j - 1 = y by omega]
          omega
        clear hy
        go_wp2_with fail
        have hd1 : decide (a < j) = true := by simp; omega
        have hd2 : decide (cv < 0) = false := by simp; omega
        clear hcc hjai hja
        go_quiet (first | (go_at_fn cf; exact Calls.quiet_of (unhide HCV _)))
        go_wp2_with fail
        go_roundw
        case rel => exact ⟨i + 1, _, by go_num, by omega, .inl (by omega), (unhide HN).1, (unhide HN).2.drewN _⟩
        case measure => simp [intOf]; omega
      have HKL : Hid (K (E i) < K (E y)) := by
        have h1 := (unhide HKC).1 hcc
        rw [← unhide HRJ, ← unhide HRY] at *
        exact h1
      have HNX : Hid (∀ nq, TabS w g n (rot E y i (i + 1)) (((wr.drewN nq).setCell ⟨g, j, none⟩ (.int .i64 v)).setCell ⟨g, y, none⟩ (.int .i64 u))) := fun nq => by
        have h1 := ((unhide HR).2.drewN nq).swap (x := j) (y := y) (by omega)
        rw [unhide HU1, unhide HV1] at h1
        have h2 : swap2 R j y = rot E y i (i + 1) := by
          rw [← unhide HRR, unhide HY]
          exact swap_back E (by omega)
        rw [h2] at h1
        exact h1
      have f1 := (unhide HR).2.free j
      have f2 := (unhide HR).2.free y
      have hjy : j ≠ y := by omega
      have hyj : ¬ y = j := by omega
      have hya : a ≤ y := by omega
      have hyi : y ≤ i := by omega
      clear hy
      go_wp2_with fail
      have hd1 : decide (a < j) = true := by simp; omega
      have hd2 : decide (cv < 0) = true := by simp; omega
      clear hcc hjai hja
      go_quiet (first | (go_at_fn cf; exact Calls.quiet_of (unhide HCV _)))
      clear hd1 hd2
      go_wp2_with fail
      go_region
      all_goals go_wp2_with fail
      all_goals (go_roundw; (case rel => exact ⟨y, by go_num, hya, hyi, .inr (unhide HKL), unhide HNX _⟩); (case measure => simp [intOf]; have := unhide HY; omega))

end Go.Proofs.YtgjpchnkodnieaaGreatDoor
namespace Go.Proofs.YtgjpchnkodnieaaGreatDoor
open Go.RowKit

set_option maxRecDepth 20000 in
set_option maxHeartbeats 8000000 in
theorem symB_any (cf : Nat) (lb : Array Value) (eg : ∀ args w, (callFunc cf args).run Tryz.prog w = .ok (.enter cf args) w) (C : Int → Int → Int) (K : Int → Int) (hK : CmpKey C K) (P : Int → Prop) (g n cap a m b : Nat) (D : Nat → Int) (w : World) (h : Blk w g (tab n D)) (hcmp : CmpOk cf lb C P w g) (hP : ∀ i, i < n → P (D i)) (ham : a + 1 < m) (hmb : b = m + 1) (hbn : b ≤ n) (hn : n ≤ 1000000) (hr : Rise K D a m) (hlow : Low D a m b) :
    Calls Tryz.prog 327 #[.slice (some ⟨g, 0, none⟩) n cap, .int .i64 (a : Nat), .int .i64 (m : Nat), .int .i64 (b : Nat), .func (.func cf) #[] lb] w fun e w' => (∃ v, e = .returned v) ∧ ∃ E, Merged K D E a b ∧ TabS w g n E w' := by
  have H := hide (TabS.refl h)
  have HC := hide hcmp
  have HP := hide hP
  have HR := hide hr
  have HL := hide hlow
  have HAM := hide hmb
  clear h hcmp hP hr hlow
  have e1 : (b : Int) - (m : Int) = 1 := by omega
  have q1 : ((m : Int) - (a : Int) == 1) = false := by simp; omega
  have hmn : m < n := by omega
  clear hmb
  obtain ⟨da, hda⟩ : ∃ x, D m = x := ⟨_, rfl⟩
  have HDA := hide hda
  have pa : Hid (P da) := by rw [← hda]; exact unhide HP m (by omega)
  clear hda
  have hani : (m : Int) < (n : Int) := by omega
  go_enter Tryz.func327, Tryz.ntmps327
  go_wp2_with fail
  go_loopw [14, 15] (fun u v wr => ∃ (i j : Nat), u = .int .i64 i ∧ v = .int .i64 j ∧ a ≤ i ∧ i ≤ j ∧ j ≤ m ∧ Hid ((i = a ∨ K (D (i - 1)) ≤ K da) ∧ (j = m ∨ K da < K (D j))) ∧ Hid (TabS w g n D wr)) (fun u v _ => (intOf v).toNat - (intOf u).toNat)
  case atStart => exact ⟨a, m, rfl, rfl, Nat.le_refl _, by omega, Nat.le_refl _, ⟨.inl rfl, .inl rfl⟩, H⟩
  case round =>
    obtain ⟨i, j, rfl, rfl, hmi, hij, hjb, HI, HT⟩ := hrel
    clear H
    by_cases hlt : i < j
    case neg =>
      obtain rfl : i = j := by omega
      clear hij hlt
      obtain ⟨ws, hws⟩ : ∃ x, x = wr := ⟨_, rfl⟩
      subst hws
      have HM : Hid (Merged K D (rot D i m b) a b) := by
        obtain ⟨h1, h2⟩ := unhide HI
        have q := unhide HAM
        subst q
        rw [← unhide HDA] at h1 h2
        exact ins_right hmi hjb (unhide HR) (unhide HL) h2 h1
      have H0 : Hid (TabS w g n (rot D m m b) ws) := by show TabS _ _ _ _ _; rw [rot_self]; exact unhide HT
      clear HI HT
      go_wp2_with fail
      go_loopw [17] (fun u wr => ∃ (k : Nat), u = .int .i64 k ∧ i ≤ k ∧ k ≤ m ∧ Hid (TabS w g n (rot D k m b) wr)) (fun u _ => (intOf u).toNat)
      case atStart => exact ⟨m, rfl, hjb, Nat.le_refl _, H0⟩
      case round =>
        obtain ⟨k, rfl, hak, hki, HT⟩ := hrel
        clear H0
        by_cases hkl : i < k
        · have hkli : (i : Int) < (k : Int) := by omega
          obtain ⟨R, hR⟩ : ∃ R, rot D k m b = R := ⟨_, rfl⟩
          have HRR := hide hR
          rw [hR] at HT
          clear hR
          obtain ⟨y, hy⟩ : ∃ y, k = y + 1 := ⟨k - 1, by omega⟩
          have ey : (k : Int) - 1 = (y : Int) := by omega
          have HY := hide hy
          have hyn : (y : Int) < (n : Int) := by omega
          have hkn : (k : Int) < (n : Int) := by omega
          have c1 := (unhide HT).cell (i := k) (by omega)
          have c2 := (unhide HT).cell (i := y) (by omega)
          have f1 := (unhide HT).free k
          have f2 := (unhide HT).free y
          have hne : k ≠ y := by omega
          have hen : ¬ y = k := by omega
          obtain ⟨u, hu⟩ : ∃ u, R k = u := ⟨_, rfl⟩
          obtain ⟨v, hv⟩ : ∃ v, R y = v := ⟨_, rfl⟩
          have HN : Hid (TabS w g n (rot D y m b) ((wr.setCell ⟨g, k, none⟩ (.int .i64 v)).setCell ⟨g, y, none⟩ (.int .i64 u))) := by
            have h1 := (unhide HT).swap (x := k) (y := y) (by omega)
            rw [hu, hv] at h1
            have h2 : swap2 R k y = rot D y m b := by rw [← unhide HRR, hy, unhide HAM]; exact swap_back D (by omega)
            rw [h2] at h1
            exact h1
          rw [hu] at c1
          rw [hv] at c2
          clear hu hv hy
          go_wp2_with fail
          go_region
          all_goals go_wp2_with fail
          all_goals (go_roundw; (case rel => exact ⟨y, by go_num, by have := unhide HY; omega, by have := unhide HY; omega, (unhide HN).drew⟩); (case measure => simp [intOf]; have := unhide HY; omega))
        · obtain rfl : k = i := by omega
          have HE := HT
          clear hkl
          go_wp2_with fail
          first | go_end0 | refine bodyPost_ret (results_none rfl _ _ _) rfl ?_
          exact ⟨⟨_, rfl⟩, _, unhide HM, unhide HE⟩
    have hlti : (i : Int) < (j : Int) := by omega
    obtain ⟨x, hx⟩ : ∃ x, (i + j) / 2 = x := ⟨_, rfl⟩
    have ex : ((i : Int) + (j : Int)) / 2 = (x : Int) := by omega
    have hix : i ≤ x := by omega
    have hxj : x < j := by omega
    have hxn : (x : Int) < (n : Int) := by omega
    clear hx
    obtain ⟨u, hu⟩ : ∃ u, D x = u := ⟨_, rfl⟩
    have c1 := (unhide HT).cell (i := x) (by omega)
    have c2 := (unhide HT).cell (i := m) (by omega)
    have pu := unhide HP x (by omega)
    rw [hu] at c1 pu
    rw [unhide HDA] at c2
    have HU1 := hide hu
    have HCV : Hid (∀ k, Calls Tryz.prog cf (#[.int .i64 da, .int .i64 u] ++ lb) (wr.drewN k) fun e w' => e = .returned (.int .i64 (C da u)) ∧ ∃ m, w' = (wr.drewN k).drewN m) := fun k => unhide HC da u (unhide pa) pu _ ((unhide HT).drewN k).but
    have HKC := hide (hK da u)
    obtain ⟨cv, hcv⟩ : ∃ cv, C da u = cv := ⟨_, rfl⟩
    rw [hcv] at HCV HKC
    clear hu hcv pu
    by_cases hcc : cv < 0
    · have HN : Hid (((i = a ∨ K (D (i - 1)) ≤ K da) ∧ (x = m ∨ K da < K (D x)))) := by
        refine ⟨(unhide HI).1, .inr ?_⟩
        rw [unhide HU1]
        exact (unhide HKC).1 hcc
      go_wp2_with fail
      have hd2 : decide (cv < 0) = true := by simp; omega
      clear hcc
      go_quiet (first | (go_at_fn cf; exact Calls.quiet_of (unhide HCV _)))
      go_wp2_with fail
      go_roundw
      case rel => exact ⟨i, x, rfl, rfl, hmi, hix, by omega, HN, (unhide HT).drewN _⟩
      case measure => simp [intOf]; omega
    · have HN : Hid (((x + 1 = a ∨ K (D (x + 1 - 1)) ≤ K da) ∧ (j = m ∨ K da < K (D j)))) := by
        refine ⟨.inr ?_, (unhide HI).2⟩
        rw [Nat.add_sub_cancel, unhide HU1]
        have := mt (unhide HKC).2 hcc
        omega
      go_wp2_with fail
      have hd2 : decide (cv < 0) = false := by simp; omega
      clear hcc
      go_quiet (first | (go_at_fn cf; exact Calls.quiet_of (unhide HCV _)))
      go_wp2_with fail
      go_roundw
      case rel => exact ⟨x + 1, j, by go_num, rfl, by omega, by omega, hjb, HN, (unhide HT).drewN _⟩
      case measure => simp [intOf]; omega

end Go.Proofs.YtgjpchnkodnieaaGreatDoor
namespace Go.Proofs.YtgjpchnkodnieaaGreatDoor
open Go.RowKit

set_option maxRecDepth 20000 in
set_option maxHeartbeats 8000000 in
theorem symA_any (cf : Nat) (lb : Array Value) (eg : ∀ args w, (callFunc cf args).run Tryz.prog w = .ok (.enter cf args) w) (C : Int → Int → Int) (K : Int → Int) (hK : CmpKey C K) (P : Int → Prop) (g n cap a m b : Nat) (D : Nat → Int) (w : World) (h : Blk w g (tab n D)) (hcmp : CmpOk cf lb C P w g) (hP : ∀ i, i < n → P (D i)) (ham : m = a + 1) (hmb : m < b) (hbn : b ≤ n) (hn : n ≤ 1000000) (hr : Rise K D m b) (hlow : Low D a m b) :
    Calls Tryz.prog 327 #[.slice (some ⟨g, 0, none⟩) n cap, .int .i64 (a : Nat), .int .i64 (m : Nat), .int .i64 (b : Nat), .func (.func cf) #[] lb] w fun e w' => (∃ v, e = .returned v) ∧ ∃ E, Merged K D E a b ∧ TabS w g n E w' := by
  have H := hide (TabS.refl h)
  have HC := hide hcmp
  have HP := hide hP
  have HR := hide hr
  have HL := hide hlow
  have HAM := hide ham
  clear h hcmp hP hr hlow
  have e1 : (m : Int) - (a : Int) = 1 := by omega
  have hma : a < m := by omega
  clear ham
  have ca := (unhide H).cell (i := a) (by omega)
  obtain ⟨da, hda⟩ : ∃ x, D a = x := ⟨_, rfl⟩
  rw [hda] at ca
  have HDA := hide hda
  have pa : Hid (P da) := by rw [← hda]; exact unhide HP a (by omega)
  clear hda
  have hani : (a : Int) < (n : Int) := by omega
  go_enter Tryz.func327, Tryz.ntmps327
  go_wp2_with fail
  go_loopw [10, 11] (fun u v wr => ∃ (i j : Nat), u = .int .i64 i ∧ v = .int .i64 j ∧ m ≤ i ∧ i ≤ j ∧ j ≤ b ∧ Hid ((i = m ∨ K (D (i - 1)) < K da) ∧ (j = b ∨ K da ≤ K (D j))) ∧ Hid (TabS w g n D wr)) (fun u v _ => (intOf v).toNat - (intOf u).toNat)
  case atStart => exact ⟨m, b, rfl, rfl, Nat.le_refl _, by omega, Nat.le_refl _, ⟨.inl rfl, .inl rfl⟩, H⟩
  case round =>
    obtain ⟨i, j, rfl, rfl, hmi, hij, hjb, HI, HT⟩ := hrel
    clear H ca
    by_cases hlt : i < j
    case neg =>
      obtain rfl : i = j := by omega
      clear hij hlt
      obtain ⟨ws, hws⟩ : ∃ x, x = wr := ⟨_, rfl⟩
      subst hws
      have HM : Hid (Merged K D (rot D a (a + 1) i) a b) := by
        obtain ⟨h1, h2⟩ := unhide HI
        have q := unhide HAM
        subst q
        rw [← unhide HDA] at h1 h2
        exact ins_left hmi hjb (unhide HR) (unhide HL) h1 h2
      have H0 : Hid (TabS w g n (rot D a (a + 1) (a + 1)) ws) := by show TabS _ _ _ _ _; rw [rot_self2]; exact unhide HT
      obtain ⟨i1, hi1⟩ : ∃ x, i = x + 1 := ⟨i - 1, by omega⟩
      have ei : (i : Int) - 1 = (i1 : Int) := by omega
      have hai : a ≤ i1 := by omega
      have hin : i1 < n := by omega
      have HI1 := hide hi1
      clear hi1 HI HT
      go_wp2_with fail
      go_loopw [13] (fun u wr => ∃ (k : Nat), u = .int .i64 k ∧ a ≤ k ∧ k ≤ i1 ∧ Hid (TabS w g n (rot D a (a + 1) (k + 1)) wr)) (fun u _ => i1 - (intOf u).toNat)
      case atStart => exact ⟨a, rfl, Nat.le_refl _, hai, H0⟩
      case round =>
        obtain ⟨k, rfl, hak, hki, HT⟩ := hrel
        clear H0
        by_cases hkl : k < i1
        · have hkli : (k : Int) < (i1 : Int) := by omega
          obtain ⟨R, hR⟩ : ∃ R, rot D a (a + 1) (k + 1) = R := ⟨_, rfl⟩
          have HRR := hide hR
          rw [hR] at HT
          clear hR
          obtain ⟨y, hy⟩ : ∃ y, k + 1 = y := ⟨_, rfl⟩
          have ey : (k : Int) + 1 = (y : Int) := by omega
          have HY := hide hy
          have hyn : (y : Int) < (n : Int) := by have := unhide HI1; omega
          have hkn : (k : Int) < (n : Int) := by omega
          have c1 := (unhide HT).cell (i := k) (by omega)
          have c2 := (unhide HT).cell (i := y) (by omega)
          have f1 := (unhide HT).free k
          have f2 := (unhide HT).free y
          have hne : k ≠ y := by omega
          have hen : ¬ y = k := by omega
          obtain ⟨u, hu⟩ : ∃ u, R k = u := ⟨_, rfl⟩
          obtain ⟨v, hv⟩ : ∃ v, R y = v := ⟨_, rfl⟩
          have HN : Hid (TabS w g n (rot D a (a + 1) (y + 1)) ((wr.setCell ⟨g, k, none⟩ (.int .i64 v)).setCell ⟨g, y, none⟩ (.int .i64 u))) := by
            have h1 := (unhide HT).swap (x := k) (y := y) (by omega)
            rw [hu, hv] at h1
            have h2 : swap2 R k y = rot D a (a + 1) (y + 1) := by rw [← unhide HRR, ← hy]; exact swap_on D hak
            rw [h2] at h1
            exact h1
          rw [hu] at c1
          rw [hv] at c2
          clear hu hv hy
          go_wp2_with fail
          go_region
          all_goals go_wp2_with fail
          all_goals (go_roundw; (case rel => exact ⟨y, by go_num, by have := unhide HY; omega, by have := unhide HY; omega, (unhide HN).drew⟩); (case measure => simp [intOf]; have := unhide HY; omega))
        · obtain rfl : k = i1 := by omega
          have HE : Hid (TabS w g n (rot D a (a + 1) i) wr) := by show TabS _ _ _ _ _; rw [unhide HI1]; exact unhide HT
          clear hkl
          go_wp2_with fail
          first | go_end0 | refine bodyPost_ret (results_none rfl _ _ _) rfl ?_
          exact ⟨⟨_, rfl⟩, _, unhide HM, unhide HE⟩
    have hlti : (i : Int) < (j : Int) := by omega
    obtain ⟨x, hx⟩ : ∃ x, (i + j) / 2 = x := ⟨_, rfl⟩
    have ex : ((i : Int) + (j : Int)) / 2 = (x : Int) := by omega
    have hix : i ≤ x := by omega
    have hxj : x < j := by omega
    have hxn : (x : Int) < (n : Int) := by omega
    clear hx
    obtain ⟨u, hu⟩ : ∃ u, D x = u := ⟨_, rfl⟩
    have c1 := (unhide HT).cell (i := x) (by omega)
    have c2 := (unhide HT).cell (i := a) (by omega)
    have pu := unhide HP x (by omega)
    rw [hu] at c1 pu
    rw [unhide HDA] at c2
    have HU1 := hide hu
    have HCV : Hid (∀ k, Calls Tryz.prog cf (#[.int .i64 u, .int .i64 da] ++ lb) (wr.drewN k) fun e w' => e = .returned (.int .i64 (C u da)) ∧ ∃ m, w' = (wr.drewN k).drewN m) := fun k => unhide HC u da pu (unhide pa) _ ((unhide HT).drewN k).but
    have HKC := hide (hK u da)
    obtain ⟨cv, hcv⟩ : ∃ cv, C u da = cv := ⟨_, rfl⟩
    rw [hcv] at HCV HKC
    clear hu hcv pu
    by_cases hcc : cv < 0
    · have HN : Hid (((x + 1 = m ∨ K (D (x + 1 - 1)) < K da) ∧ (j = b ∨ K da ≤ K (D j)))) := by
        refine ⟨.inr ?_, (unhide HI).2⟩
        rw [Nat.add_sub_cancel, unhide HU1]
        exact (unhide HKC).1 hcc
      go_wp2_with fail
      go_quiet (first | (go_at_fn cf; exact Calls.quiet_of (unhide HCV _)))
      go_wp2_with fail
      go_roundw
      case rel => exact ⟨x + 1, j, by go_num, rfl, by omega, by omega, hjb, HN, (unhide HT).drewN _⟩
      case measure => simp [intOf]; omega
    · have HN : Hid (((i = m ∨ K (D (i - 1)) < K da) ∧ (x = b ∨ K da ≤ K (D x)))) := by
        refine ⟨(unhide HI).1, .inr ?_⟩
        rw [unhide HU1]
        have := mt (unhide HKC).2 hcc
        omega
      go_wp2_with fail
      go_quiet (first | (go_at_fn cf; exact Calls.quiet_of (unhide HCV _)))
      go_wp2_with fail
      go_roundw
      case rel => exact ⟨i, x, rfl, rfl, hmi, hix, by omega, HN, (unhide HT).drewN _⟩
      case measure => simp [intOf]; omega

end Go.Proofs.YtgjpchnkodnieaaGreatDoor
namespace Go.Proofs.YtgjpchnkodnieaaGreatDoor
open Go.RowKit

set_option maxRecDepth 20000 in
set_option maxHeartbeats 4000000 in
theorem swapRange_any (g n cap a b cnt : Nat) (D : Nat → Int) (fv : Value) (w : World) (h : Blk w g (tab n D)) (h1 : a + cnt ≤ b) (h2 : b + cnt ≤ n) (hn : n ≤ 1000000) :
    Calls Tryz.prog 336 #[.slice (some ⟨g, 0, none⟩) n cap, .int .i64 (a : Nat), .int .i64 (b : Nat), .int .i64 (cnt : Nat), fv] w fun e w' => (∃ v, e = .returned v) ∧ TabS w g n (swapR D a b cnt) w' := by
  have H := hide h
  clear h
  go_enter Tryz.func336, Tryz.ntmps336
  go_wp2_with fail
  go_loopw [10] (fun i wr => ∃ k : Nat, k ≤ cnt ∧ i = .int .i64 k ∧ Hid (TabS w g n (swapR D a b k) wr)) (fun i _ => cnt - (intOf i).toNat)
  case atStart => exact ⟨0, Nat.zero_le _, rfl, by show TabS _ _ _ _ _; rw [swapR_zero]; exact TabS.refl (unhide H)⟩
  case round =>
    obtain ⟨k, hk, rfl, HT⟩ := hrel
    by_cases hlt : k < cnt
    · have hlti : (k : Int) < (cnt : Int) := by omega
      obtain ⟨E, hE⟩ : ∃ E, swapR D a b k = E := ⟨_, rfl⟩
      obtain ⟨x, hx⟩ : ∃ x, a + k = x := ⟨_, rfl⟩
      obtain ⟨y, hy⟩ : ∃ y, b + k = y := ⟨_, rfl⟩
      have HS : Hid (swap2 E x y = swapR D a b (k + 1)) := by show _ = _; rw [← hE, ← hx, ← hy]; exact swapR_step D (by omega)
      rw [hE] at HT
      have c1 := (unhide HT).cell (i := x) (by omega)
      have c2 := (unhide HT).cell (i := y) (by omega)
      have f1 := (unhide HT).free x
      have f2 := (unhide HT).free y
      have hne : x ≠ y := by omega
      obtain ⟨u, hu⟩ : ∃ u, E x = u := ⟨_, rfl⟩
      obtain ⟨v, hv⟩ : ∃ v, E y = v := ⟨_, rfl⟩
      have HN : Hid (TabS w g n (swapR D a b (k + 1)) ((wr.setCell ⟨g, x, none⟩ (.int .i64 v)).setCell ⟨g, y, none⟩ (.int .i64 u))) := by show TabS _ _ _ _ _; rw [← unhide HS, ← hu, ← hv]; exact (unhide HT).swap hne
      rw [hu] at c1
      rw [hv] at c2
      have i1 : (x : Int) < (n : Int) := by omega
      have i2 : (y : Int) < (n : Int) := by omega
      have e1 : (a : Int) + (k : Int) = (x : Int) := by omega
      have e2 : (b : Int) + (k : Int) = (y : Int) := by omega
      clear hE hx hy hu hv HS
      go_wp2_with fail
      go_region
      all_goals go_wp2_with fail
      all_goals (go_roundw; (case rel => exact ⟨k + 1, by omega, by go_num, (unhide HN).drew⟩); (case measure => simp [intOf]; omega))
    · obtain rfl : k = cnt := by omega
      have hlti : ¬ (k : Int) < (k : Int) := by omega
      have HE := HT
      go_wp2_with fail
      go_end0
      exact ⟨⟨_, rfl⟩, unhide HE⟩

end Go.Proofs.YtgjpchnkodnieaaGreatDoor
namespace Go.Proofs.YtgjpchnkodnieaaGreatDoor
open Go.RowKit

set_option maxRecDepth 20000 in
set_option maxHeartbeats 4000000 in
theorem rotate_any (g n cap a m b : Nat) (D : Nat → Int) (fv : Value) (w : World) (h : Blk w g (tab n D)) (h1 : a < m) (h2 : m < b) (h3 : b ≤ n) (hn : n ≤ 1000000) :
    Calls Tryz.prog 334 #[.slice (some ⟨g, 0, none⟩) n cap, .int .i64 (a : Nat), .int .i64 (m : Nat), .int .i64 (b : Nat), fv] w fun e w' => (∃ v, e = .returned v) ∧ TabS w g n (rot D a m b) w' := by
  have H := hide (TabS.refl h)
  clear h
  obtain ⟨i0, hi0⟩ : ∃ i, m - a = i := ⟨_, rfl⟩
  obtain ⟨j0, hj0⟩ : ∃ j, b - m = j := ⟨_, rfl⟩
  have e1 : (m : Int) - (a : Int) = (i0 : Int) := by omega
  have e2 : (b : Int) - (m : Int) = (j0 : Int) := by omega
  have HI0 := hide hi0
  have HJ0 := hide hj0
  have hi1 : 0 < i0 := by omega
  have hj1 : 0 < j0 := by omega
  have him0 : i0 ≤ m := by omega
  have hjm0 : m + j0 ≤ n := by omega
  clear hi0 hj0
  go_enter Tryz.func334, Tryz.ntmps334
  go_wp2_with fail
  go_loopw [10, 11] (fun u v wr => ∃ (i j : Nat) (E : Nat → Int), u = .int .i64 i ∧ v = .int .i64 j ∧ 0 < i ∧ 0 < j ∧ i ≤ m ∧ m + j ≤ n ∧ Hid (TabS w g n E wr ∧ rot E (m - i) m (m + j) = rot D a m b)) (fun u v _ => (intOf u).toNat + (intOf v).toNat)
  case atStart => exact ⟨i0, j0, D, rfl, rfl, hi1, hj1, him0, hjm0, unhide H, by rw [← unhide HI0, ← unhide HJ0]; congr 1 <;> omega⟩
  case round =>
    obtain ⟨i, j, E, rfl, rfl, hi, hj, him, hjm, HT⟩ := hrel
    clear H HI0 HJ0
    by_cases hij : i = j
    · subst hij
      have hq : ((i : Int) != (i : Int)) = false := by simp
      have hx : (m : Int) - (i : Int) = ((m - i : Nat) : Int) := by omega
      obtain ⟨x, hx2⟩ : ∃ x, m - i = x := ⟨_, rfl⟩
      rw [hx2] at hx
      have HEV : Hid (swapR E x m i = rot D a m b) := by show _ = _; rw [← hx2, rot_even E him]; exact (unhide HT).2
      have hxi : x + i ≤ m := by omega
      clear hx2
      go_wp2_with fail
      refine (swapRange_any g n cap x m i E _ _ (unhide HT).1.blk hxi hjm hn).mono ?_
      rintro e w' ⟨⟨rv, rfl⟩, hT⟩
      have HE : Hid (TabS w g n (rot D a m b) w') := by show TabS _ _ _ _ _; rw [← unhide HEV]; exact (unhide HT).1.next hT
      clear hT
      go_wp2_with fail
      go_end0
      exact ⟨⟨_, rfl⟩, unhide HE⟩
    · have hq : ((i : Int) != (j : Int)) = true := by simp; omega
      have hx : (m : Int) - (i : Int) = ((m - i : Nat) : Int) := by omega
      obtain ⟨x, hx2⟩ : ∃ x, m - i = x := ⟨_, rfl⟩
      rw [hx2] at hx
      by_cases hgt : j < i
      · have hgi : (j : Int) < (i : Int) := by omega
        obtain ⟨y, hy⟩ : ∃ y, i - j = y := ⟨_, rfl⟩
        have hyi : (i : Int) - (j : Int) = (y : Int) := by omega
        have HEV : Hid (rot (swapR E x m j) (m - y) m (m + j) = rot D a m b) := by show _ = _; rw [← hx2, ← hy, rot_more E hgt him]; exact (unhide HT).2
        have hxi : x + j ≤ m := by omega
        clear hx2 hij
        go_wp2_with fail
        refine (swapRange_any g n cap x m j E _ _ (unhide HT).1.blk hxi hjm hn).mono ?_
        rintro e w' ⟨⟨rv, rfl⟩, hT⟩
        have HE := hide ((unhide HT).1.next hT)
        clear hT
        go_wp2_with fail
        go_roundw
        case rel => exact ⟨y, j, swapR E x m j, rfl, rfl, by omega, hj, by omega, hjm, unhide HE, unhide HEV⟩
        case measure => simp [intOf]; omega
      · have hgi : ¬ (j : Int) < (i : Int) := by omega
        obtain ⟨y, hy⟩ : ∃ y, j - i = y := ⟨_, rfl⟩
        have hyi : (j : Int) - (i : Int) = (y : Int) := by omega
        obtain ⟨z, hz⟩ : ∃ z, m + j - i = z := ⟨_, rfl⟩
        have hzi : (m : Int) + (j : Int) - (i : Int) = (z : Int) := by omega
        have HEV : Hid (rot (swapR E x z i) (m - i) m (m + y) = rot D a m b) := by show _ = _; rw [← hx2, ← hy, ← hz, rot_less E (by omega) him]; exact (unhide HT).2
        have hxi : x + i ≤ z := by omega
        have hzn : z + i ≤ n := by omega
        have hy0 : 0 < y := by omega
        clear hx2 hij hz
        go_wp2_with fail
        refine (swapRange_any g n cap x z i E _ _ (unhide HT).1.blk hxi hzn hn).mono ?_
        rintro e w' ⟨⟨rv, rfl⟩, hT⟩
        have HE := hide ((unhide HT).1.next hT)
        clear hT
        go_wp2_with fail
        go_roundw
        case rel => exact ⟨i, y, swapR E x z i, rfl, rfl, hi, hy0, him, by omega, unhide HE, unhide HEV⟩
        case measure => simp [intOf]; omega

end Go.Proofs.YtgjpchnkodnieaaGreatDoor
namespace Go.Proofs.YtgjpchnkodnieaaGreatDoor
open Go.RowKit

/-- symMerge does what it should for pieces of less than len numbers. -/
def SymOk (cf : Nat) (lb : Array Value) (C : Int → Int → Int) (K : Int → Int) (P : Int → Prop) (g n cap len : Nat) : Prop :=
  ∀ (a m b : Nat) (D : Nat → Int) (w : World), b - a < len → a < m → m < b → b ≤ n → Rise K D a m → Rise K D m b → Low D a m b → Blk w g (tab n D) → CmpOk cf lb C P w g → (∀ i, i < n → P (D i)) →
    Calls Tryz.prog 327 #[.slice (some ⟨g, 0, none⟩) n cap, .int .i64 (a : Nat), .int .i64 (m : Nat), .int .i64 (b : Nat), .func (.func cf) #[] lb] w fun e w' => (∃ v, e = .returned v) ∧ ∃ E, Merged K D E a b ∧ TabS w g n E w'

/-- The left half put in order, where it is not in order already. -/
theorem left_still {K : Int → Int} {D : Nat → Int} {a s m e b : Nat} (h : Cut K D a s m e b) (hn : ¬ (a < s ∧ s < s + (e - m))) : Merged K (rot D s m e) (rot D s m e) a (s + (e - m)) := by
  have h1 := h.as_
  have h2 := h.me
  refine Merged.refl ?_
  by_cases hs : a = s
  · rw [hs]; exact h.left.2.1
  · have : s + (e - m) = s := by omega
    rw [this]; exact h.left.1

theorem right_rise {K : Int → Int} {D E1 : Nat → Int} {a s m e b : Nat} (h : Cut K D a s m e b) (m1 : Merged K (rot D s m e) E1 a (s + (e - m))) : Rise K E1 (s + (e - m)) e ∧ Rise K E1 e b ∧ Low E1 (s + (e - m)) e b := by
  have hE : ∀ i, s + (e - m) ≤ i → E1 i = rot D s m e i := fun i hi => m1.out i (by omega)
  have h1 := h.sm
  have h2 := h.me
  refine ⟨fun i j hi hij hj => ?_, fun i j hi hij hj => ?_, fun i j hi hi2 hj hj2 => ?_⟩
  · rw [hE i hi, hE j (by omega)]; exact h.right.1 i j hi hij hj
  · rw [hE i (by omega), hE j (by omega)]; exact h.right.2.1 i j hi hij hj
  · rw [hE i hi, hE j (by omega)]; exact h.right.2.2 i j hi hi2 hj hj2

theorem right_still {K : Int → Int} {D E1 : Nat → Int} {a s m e b : Nat} (h : Cut K D a s m e b) (m1 : Merged K (rot D s m e) E1 a (s + (e - m))) (hn : ¬ (s + (e - m) < e ∧ e < b)) : Merged K E1 E1 (s + (e - m)) b := by
  have h1 := h.sm
  have h2 := h.me
  have h3 := h.eb
  refine Merged.refl ?_
  have hr := right_rise h m1
  by_cases hs : e = b
  · rw [← hs]; exact hr.1
  · have : s + (e - m) = e := by omega
    rw [this]; exact hr.2.1

theorem rot_still {D : Nat → Int} {s m e : Nat} (h1 : s ≤ m) (h2 : m ≤ e) (hn : ¬ (s < m ∧ m < e)) : rot D s m e = D := by
  by_cases h : s = m
  · rw [h, rot_self]
  · have : m = e := by omega
    rw [this, rot_self2]

set_option maxRecDepth 40000 in
set_option maxHeartbeats 16000000 in
theorem symC_any (cf : Nat) (lb : Array Value) (eg : ∀ args w, (callFunc cf args).run Tryz.prog w = .ok (.enter cf args) w) (C : Int → Int → Int) (K : Int → Int) (hK : CmpKey C K) (P : Int → Prop) (g n cap a m b : Nat) (D : Nat → Int) (w : World) (ih : SymOk cf lb C K P g n cap (b - a)) (h : Blk w g (tab n D)) (hcmp : CmpOk cf lb C P w g) (hP : ∀ i, i < n → P (D i)) (ham : a + 1 < m) (hmb : m + 1 < b) (hbn : b ≤ n) (hn : n ≤ 1000000) (hl : Rise K D a m) (hr : Rise K D m b) (hlow : Low D a m b) :
    Calls Tryz.prog 327 #[.slice (some ⟨g, 0, none⟩) n cap, .int .i64 (a : Nat), .int .i64 (m : Nat), .int .i64 (b : Nat), .func (.func cf) #[] lb] w fun e w' => (∃ v, e = .returned v) ∧ ∃ E, Merged K D E a b ∧ TabS w g n E w' := by
  have H := hide (TabS.refl h)
  have HC := hide hcmp
  have HP := hide hP
  have HR := hide hr
  have HLL := hide hl
  have HL := hide hlow
  have IH := hide ih
  clear h hcmp hP hr hl hlow ih
  have q1 : ((m : Int) - (a : Int) == 1) = false := by simp; omega
  have q2 : ((b : Int) - (m : Int) == 1) = false := by simp; omega
  obtain ⟨mid, hmid⟩ : ∃ x, (a + b) / 2 = x := ⟨_, rfl⟩
  have emid : ((a : Int) + (b : Int)) / 2 = (mid : Int) := by omega
  obtain ⟨nn, hnn⟩ : ∃ x, mid + m = x := ⟨_, rfl⟩
  have enn : (mid : Int) + (m : Int) = (nn : Int) := by omega
  obtain ⟨p, hp⟩ : ∃ x, nn = x + 1 := ⟨nn - 1, by omega⟩
  have ep : (nn : Int) - 1 = (p : Int) := by omega
  have HMID := hide hmid
  have HNN := hide hnn
  have HPP := hide hp
  have hamid : a < mid := by omega
  have hmidb : mid < b := by omega
  clear hmid hnn hp
  go_enter Tryz.func327, Tryz.ntmps327
  go_upto_if 140 with fail
  go_cut [20, 21] (fun s r wx => (∃ lo hi : Nat, s = .int .i64 lo ∧ r = .int .i64 hi ∧ a ≤ lo ∧ nn ≤ lo + b ∧ hi ≤ m ∧ hi ≤ mid ∧ lo ≤ hi ∧ Hid ((lo = a ∨ lo + b = nn) ∧ (hi = m ∨ hi = mid))) ∧ wx = w)
  case first => as_aux_lemma =>
    by_cases hmm : mid < m
    · have hmmi : (mid : Int) < (m : Int) := by omega
      obtain ⟨lo, hlo⟩ : ∃ x, nn - b = x := ⟨_, rfl⟩
      have elo : (nn : Int) - (b : Int) = (lo : Int) := by have := unhide HMID; have := unhide HNN; omega
      have f1 : a ≤ lo := by have := unhide HMID; have := unhide HNN; omega
      have f2 : lo + b = nn := by have := unhide HMID; have := unhide HNN; omega
      have HF := hide f2
      clear f2 hlo
      go_wp2_with fail
      go_meet
      case rel => exact ⟨⟨lo, mid, rfl, rfl, f1, by have := unhide HF; omega, by omega, Nat.le_refl _, by have := unhide HF; have := unhide HNN; omega, .inr (unhide HF), .inr rfl⟩, rfl⟩
    · have hmmi : ¬ (mid : Int) < (m : Int) := by omega
      go_wp2_with fail
      go_meet
      case rel => exact ⟨⟨a, m, rfl, rfl, Nat.le_refl _, by have := unhide HMID; have := unhide HNN; omega, Nat.le_refl _, by omega, by omega, .inl rfl, .inl rfl⟩, rfl⟩
  case rest =>
    obtain ⟨⟨lo, hi, rfl, rfl, hlo1, hlo2, hhi1, hhi2, hlohi, HLH⟩, rfl⟩ := hcut
    go_wp2_with fail
    go_loopw [20, 21] (fun u v wr => ∃ (i j : Nat), u = .int .i64 i ∧ v = .int .i64 j ∧ lo ≤ i ∧ i ≤ j ∧ j ≤ hi ∧ Hid ((i = lo ∨ K (D (i - 1)) ≤ K (D (nn - i))) ∧ (j = hi ∨ K (D (p - j)) < K (D j))) ∧ Hid (TabS wc g n D wr)) (fun u v _ => (intOf v).toNat - (intOf u).toNat)
    case atStart => exact ⟨lo, hi, rfl, rfl, Nat.le_refl _, by omega, Nat.le_refl _, ⟨.inl rfl, .inl rfl⟩, H⟩
    case round => as_aux_lemma =>
      obtain ⟨i, j, rfl, rfl, hmi, hij, hjb, HI, HT⟩ := hrel
      clear H
      by_cases hlt : i < j
      case neg =>
        obtain rfl : i = j := by omega
        obtain ⟨e, he⟩ : ∃ x, nn - i = x := ⟨_, rfl⟩
        have ee : (nn : Int) - (i : Int) = (e : Int) := by have := unhide HNN; omega
        have hme : m ≤ e := by have := unhide HNN; omega
        have heb : e ≤ b := by have := unhide HNN; omega
        have hai : a ≤ i := by omega
        have him : i ≤ m := by omega
        have HCU : Hid (Cut K D a i m e b) := by
          obtain ⟨h1, h2⟩ := unhide HI
          obtain ⟨h3, h4⟩ := unhide HLH
          have k1 := unhide HNN
          have k2 := unhide HPP
          refine ⟨hai, him, hme, heb, unhide HLL, unhide HR, unhide HL, ?_, ?_⟩
          · rcases h1 with h1 | h1
            · rcases h3 with h3 | h3
              · left; omega
              · right; left; omega
            · rw [he] at h1
              exact .inr (.inr h1)
          · rcases h2 with h2 | h2
            · rcases h4 with h4 | h4
              · right; left; omega
              · left; omega
            · rw [show p - i = e - 1 by omega] at h2
              exact .inr (.inr h2)
        have hsm : i + (e - m) = mid := by have := unhide HNN; omega
        have HSM := hide hsm
        clear hij hlt HI HLH he hlo1 hlo2 hhi1 hhi2 hlohi hmi hjb hsm HLL HR HL
        obtain ⟨ws, hws⟩ : ∃ x, x = wr := ⟨_, rfl⟩
        subst hws
        obtain ⟨R, hR⟩ : ∃ R, rot D i m e = R := ⟨_, rfl⟩
        have HRR := hide hR
        clear hR
        have HPR : Hid (∀ t, t < n → P (R t)) := by
          intro t ht
          rw [← unhide HRR]
          by_cases h1 : i ≤ t ∧ t < e
          · exact perm_all (rot_perm (D := D) him hme) (fun u h2 h3 => unhide HP u (by omega)) t h1.1 h1.2
          · rw [rot_out _ (by omega)]; exact unhide HP t ht
        have hen : e ≤ n := by omega
        have hmidn : mid ≤ n := by omega
        have hlen1 : mid - a < b - a := by omega
        have hlen2 : b - mid < b - a := by omega
        have HLEFT : Hid (Rise K R a i ∧ Rise K R i mid ∧ Low R a i mid) := by
          have := (unhide HCU).left
          rwa [unhide HSM, unhide HRR] at this
        have HLS : Hid (¬ (a < i ∧ i < mid) → Merged K R R a mid) := fun h => by
          have := left_still (unhide HCU) (by rw [unhide HSM]; exact h)
          rwa [unhide HSM, unhide HRR] at this
        have HRIGHT : Hid (∀ E1, Merged K R E1 a mid → (Rise K E1 mid e ∧ Rise K E1 e b ∧ Low E1 mid e b) ∧ (¬ (mid < e ∧ e < b) → Merged K E1 E1 mid b) ∧ ∀ E2, Merged K E1 E2 mid b → Merged K D E2 a b) := fun E1 h => by
          have h' : Merged K (rot D i m e) E1 a (i + (e - m)) := by rw [unhide HSM, unhide HRR]; exact h
          have k1 := right_rise (unhide HCU) h'
          have k2 := right_still (unhide HCU) h'
          have k3 := fun E2 => (unhide HCU).merged (E2 := E2) h'
          rw [unhide HSM] at k1 k2 k3
          exact ⟨k1, k2, k3⟩
        have HST : Hid (¬ (i < m ∧ m < e) → D = R) := fun h => by rw [← unhide HRR, rot_still him hme h]
        clear HCU HSM HNN HPP HMID
        obtain ⟨w0, hw0⟩ : ∃ x, x = wc := ⟨_, rfl⟩
        subst hw0
        go_upto_region 39 with fail
        go_cut [185] (fun u wx => u = .bool (decide (i < m ∧ m < e)) ∧ ws = wx)
        case first => as_aux_lemma =>
          by_cases h1 : i < m
          · by_cases h2 : m < e
            · have d1 : decide (i < m) = true := by simp; omega
              have d2 : decide (m < e) = true := by simp; omega
              go_wp2_with fail
              go_meet
              case rel => exact ⟨by simp [h1, h2], rfl⟩
            · have d1 : decide (i < m) = true := by simp; omega
              have d2 : decide (m < e) = false := by simp; omega
              go_wp2_with fail
              go_meet
              case rel => exact ⟨by simp [h1, h2], rfl⟩
          · have d1 : decide (i < m) = false := by simp; omega
            go_wp2_with fail
            go_meet
            case rel => exact ⟨by simp [h1], rfl⟩
        case rest =>
          obtain ⟨rfl, rfl⟩ := hcut
          obtain ⟨rb, hrb⟩ : ∃ x, decide (i < m ∧ m < e) = x := ⟨_, rfl⟩
          rw [hrb]
          have HRB : Hid (rb = true ↔ (i < m ∧ m < e)) := by show _ ↔ _; rw [← hrb]; simp
          clear hrb
          go_upto_if 185 with fail
          go_cut [24] (fun u wx => u = .int .i64 e ∧ Hid (TabS w0 g n R wx))
          case first => as_aux_lemma =>
            cases rb with
            | true =>
              obtain ⟨h1, h2⟩ := (unhide HRB).1 rfl
              go_wp2_with fail
              refine (rotate_any g n cap i m e D _ _ (unhide HT).blk h1 h2 hen hn).mono ?_
              rintro ee2 w1 ⟨⟨rv, rfl⟩, hT⟩
              have HE : Hid (TabS w0 g n R w1) := by show TabS _ _ _ _ _; rw [← unhide HRR]; exact (unhide HT).next hT
              clear hT
              go_wp2_with fail
              go_meet
              case rel => exact ⟨rfl, HE⟩
            | false =>
              have HE : Hid (TabS w0 g n R ws) := by show TabS _ _ _ _ _; rw [← unhide HST (fun h => by have := (unhide HRB).2 h; simp at this)]; exact unhide HT
              go_wp2_with fail
              go_meet
              case rel => exact ⟨rfl, HE⟩
          case rest =>
            obtain ⟨rfl, HT1⟩ := hcut
            obtain ⟨w2, hw2⟩ : ∃ x, x = wc := ⟨_, rfl⟩
            subst hw2
            clear HT HST HRB
            go_upto_region 41 with fail
            go_cut [199] (fun u wx => u = .bool (decide (a < i ∧ i < mid)) ∧ w2 = wx)
            case first => as_aux_lemma =>
              by_cases h1 : a < i
              · by_cases h2 : i < mid
                · have d1 : decide (a < i) = true := by simp; omega
                  have d2 : decide (i < mid) = true := by simp; omega
                  go_wp2_with fail
                  go_meet
                  case rel => exact ⟨by simp [h1, h2], rfl⟩
                · have d1 : decide (a < i) = true := by simp; omega
                  have d2 : decide (i < mid) = false := by simp; omega
                  go_wp2_with fail
                  go_meet
                  case rel => exact ⟨by simp [h1, h2], rfl⟩
              · have d1 : decide (a < i) = false := by simp; omega
                go_wp2_with fail
                go_meet
                case rel => exact ⟨by simp [h1], rfl⟩
            case rest =>
              obtain ⟨rfl, rfl⟩ := hcut
              obtain ⟨rb, hrb⟩ : ∃ x, decide (a < i ∧ i < mid) = x := ⟨_, rfl⟩
              rw [hrb]
              have HRB : Hid (rb = true ↔ (a < i ∧ i < mid)) := by show _ ↔ _; rw [← hrb]; simp
              clear hrb
              go_upto_if 199 with fail
              go_cut [24] (fun u wx => u = .int .i64 e ∧ Hid (∃ E1, Merged K R E1 a mid ∧ TabS w0 g n E1 wx))
              case first => as_aux_lemma =>
                cases rb with
                | true =>
                  obtain ⟨h1, h2⟩ := (unhide HRB).1 rfl
                  go_wp2_with fail
                  refine (unhide IH a i mid R _ hlen1 h1 h2 hmidn (unhide HLEFT).1 (unhide HLEFT).2.1 (unhide HLEFT).2.2 (unhide HT1).blk ((unhide HC).next (unhide HT1).but) (unhide HPR)).mono ?_
                  rintro ee2 w1 ⟨⟨rv, rfl⟩, E1, hM, hT⟩
                  have HE : Hid (∃ E1, Merged K R E1 a mid ∧ TabS w0 g n E1 w1) := ⟨E1, hM, (unhide HT1).next hT⟩
                  clear hT hM
                  go_wp2_with fail
                  go_meet
                  case rel => exact ⟨rfl, HE⟩
                | false =>
                  have HE : Hid (∃ E1, Merged K R E1 a mid ∧ TabS w0 g n E1 w2) := ⟨R, unhide HLS (fun h => by have := (unhide HRB).2 h; simp at this), unhide HT1⟩
                  go_wp2_with fail
                  go_meet
                  case rel => exact ⟨rfl, HE⟩
              case rest =>
                obtain ⟨rfl, HT2⟩ := hcut
                obtain ⟨w3, hw3⟩ : ∃ x, x = wc := ⟨_, rfl⟩
                subst hw3
                obtain ⟨E1, hM1, hT1⟩ := unhide HT2
                have HR1 := hide (unhide HRIGHT E1 hM1)
                have HP1 : Hid (∀ t, t < n → P (E1 t)) := hM1.all (unhide HPR) hmidn
                have HT3 := hide hT1
                clear hM1 hT1 HT2 HT1 HRB HRIGHT HLS HLEFT
                go_upto_region 43 with fail
                go_cut [213] (fun u wx => u = .bool (decide (mid < e ∧ e < b)) ∧ w3 = wx)
                case first => as_aux_lemma =>
                  by_cases h1 : mid < e
                  · by_cases h2 : e < b
                    · have d1 : decide (mid < e) = true := by simp; omega
                      have d2 : decide (e < b) = true := by simp; omega
                      go_wp2_with fail
                      go_meet
                      case rel => exact ⟨by simp [h1, h2], rfl⟩
                    · have d1 : decide (mid < e) = true := by simp; omega
                      have d2 : decide (e < b) = false := by simp; omega
                      go_wp2_with fail
                      go_meet
                      case rel => exact ⟨by simp [h1, h2], rfl⟩
                  · have d1 : decide (mid < e) = false := by simp; omega
                    go_wp2_with fail
                    go_meet
                    case rel => exact ⟨by simp [h1], rfl⟩
                case rest =>
                  obtain ⟨rfl, rfl⟩ := hcut
                  obtain ⟨rb, hrb⟩ : ∃ x, decide (mid < e ∧ e < b) = x := ⟨_, rfl⟩
                  rw [hrb]
                  have HRB : Hid (rb = true ↔ (mid < e ∧ e < b)) := by show _ ↔ _; rw [← hrb]; simp
                  clear hrb
                  cases rb with
                  | true =>
                    obtain ⟨h1, h2⟩ := (unhide HRB).1 rfl
                    go_wp2_with fail
                    refine (unhide IH mid e b E1 _ hlen2 h1 h2 hbn (unhide HR1).1.1 (unhide HR1).1.2.1 (unhide HR1).1.2.2 (unhide HT3).blk ((unhide HC).next (unhide HT3).but) (unhide HP1)).mono ?_
                    rintro ee2 w1 ⟨⟨rv, rfl⟩, E2, hM, hT⟩
                    have HE : Hid (∃ E2, Merged K D E2 a b ∧ TabS w0 g n E2 w1) := ⟨E2, (unhide HR1).2.2 E2 hM, (unhide HT3).next hT⟩
                    clear hT hM
                    go_wp2_with fail
                    go_end0
                    exact ⟨⟨_, rfl⟩, unhide HE⟩
                  | false =>
                    have HE : Hid (∃ E2, Merged K D E2 a b ∧ TabS w0 g n E2 w3) := ⟨E1, (unhide HR1).2.2 E1 ((unhide HR1).2.1 (fun h => by have := (unhide HRB).2 h; simp at this)), unhide HT3⟩
                    go_wp2_with fail
                    go_end0
                    exact ⟨⟨_, rfl⟩, unhide HE⟩
      have hlti : (i : Int) < (j : Int) := by omega
      obtain ⟨x, hx⟩ : ∃ x, (i + j) / 2 = x := ⟨_, rfl⟩
      have ex : ((i : Int) + (j : Int)) / 2 = (x : Int) := by omega
      have hix : i ≤ x := by omega
      have hxj : x < j := by omega
      have hxn : (x : Int) < (n : Int) := by omega
      clear hx
      obtain ⟨y, hy⟩ : ∃ y, p - x = y := ⟨_, rfl⟩
      have hxp : x ≤ p := by have := unhide HNN; have := unhide HPP; omega
      have ey : (p : Int) - (x : Int) = (y : Int) := by omega
      have hyn0 : y < n := by have := unhide HNN; have := unhide HPP; omega
      have hyn : (y : Int) < (n : Int) := by omega
      have HY := hide hy
      obtain ⟨u, hu⟩ : ∃ u, D y = u := ⟨_, rfl⟩
      obtain ⟨v, hv⟩ : ∃ v, D x = v := ⟨_, rfl⟩
      have c1 := (unhide HT).cell (i := y) (by omega)
      have c2 := (unhide HT).cell (i := x) (by omega)
      have pu := unhide HP y (by omega)
      have pv := unhide HP x (by omega)
      rw [hu] at c1 pu
      rw [hv] at c2 pv
      have HU1 := hide hu
      have HV1 := hide hv
      have HCV : Hid (∀ k, Calls Tryz.prog cf (#[.int .i64 u, .int .i64 v] ++ lb) (wr.drewN k) fun e w' => e = .returned (.int .i64 (C u v)) ∧ ∃ m, w' = (wr.drewN k).drewN m) := fun k => unhide HC u v pu pv _ ((unhide HT).drewN k).but
      have HKC := hide (hK u v)
      obtain ⟨cv, hcv⟩ : ∃ cv, C u v = cv := ⟨_, rfl⟩
      rw [hcv] at HCV HKC
      clear hu hv hcv pu pv hy
      by_cases hcc : cv < 0
      · have HN : Hid ((i = lo ∨ K (D (i - 1)) ≤ K (D (nn - i))) ∧ (x = hi ∨ K (D (p - x)) < K (D x))) := by
          refine ⟨(unhide HI).1, .inr ?_⟩
          rw [unhide HY, unhide HU1, unhide HV1]
          exact (unhide HKC).1 hcc
        go_wp2_with fail
        have hd2 : decide (cv < 0) = true := by simp; omega
        clear hcc
        go_quiet (first | (go_at_fn cf; exact Calls.quiet_of (unhide HCV _)))
        go_wp2_with fail
        go_roundw
        case rel => exact ⟨i, x, rfl, rfl, hmi, hix, by omega, HN, (unhide HT).drewN _⟩
        case measure => simp [intOf]; omega
      · have HN : Hid ((x + 1 = lo ∨ K (D (x + 1 - 1)) ≤ K (D (nn - (x + 1)))) ∧ (j = hi ∨ K (D (p - j)) < K (D j))) := by
          refine ⟨.inr ?_, (unhide HI).2⟩
          rw [show nn - (x + 1) = y by have := unhide HPP; have := unhide HY; omega, Nat.add_sub_cancel, unhide HU1, unhide HV1]
          have := mt (unhide HKC).2 hcc
          omega
        go_wp2_with fail
        have hd2 : decide (cv < 0) = false := by simp; omega
        clear hcc
        go_quiet (first | (go_at_fn cf; exact Calls.quiet_of (unhide HCV _)))
        go_wp2_with fail
        go_roundw
        case rel => exact ⟨x + 1, j, by go_num, rfl, by omega, by omega, hjb, HN, (unhide HT).drewN _⟩
        case measure => simp [intOf]; omega

end Go.Proofs.YtgjpchnkodnieaaGreatDoor
namespace Go.Proofs.YtgjpchnkodnieaaGreatDoor

/-- E holds D's numbers of [a, b), in order. -/
structure Srt (K : Int → Int) (D E : Nat → Int) (a b : Nat) : Prop where
  perm : (seg E a b).Perm (seg D a b)
  rise : Rise K E a b

/-- D rises below n. -/
def Up (D : Nat → Int) (n : Nat) : Prop := ∀ i j, i < j → j < n → D i < D j

/-- The blocks of bs numbers that begin from lo on, below hi, are in order, each by itself. -/
def Blocks (K : Int → Int) (D E : Nat → Int) (n bs lo hi : Nat) : Prop := ∀ k, lo ≤ k * bs → k * bs < hi → Srt K D E (k * bs) (min (k * bs + bs) n)

section
variable {K : Int → Int} {D E E' : Nat → Int} {a m b n bs k : Nat}

theorem Srt.low (h0 : Up D n) (h1 : Srt K D E a m) (h2 : Srt K D E m b) (hb : b ≤ n) : Low E a m b := fun i j h3 h4 h5 h6 => by
  refine perm_all (P := fun y => E i < y) h2.perm (fun t ht1 ht2 => ?_) j h5 h6
  exact perm_all (P := fun x => x < D t) h1.perm (fun u hu1 hu2 => h0 u t (by omega) (by omega)) i h3 h4

theorem Srt.merge (h1 : Srt K D E a m) (h2 : Srt K D E m b) (ham : a ≤ m) (hmb : m ≤ b) (hm : Merged K E E' a b) : Srt K D E' a b := by
  refine ⟨hm.perm.trans ?_, hm.rise⟩
  rw [seg_split ham hmb, seg_split (D := D) ham hmb]
  exact List.Perm.append h1.perm h2.perm

theorem Srt.keep (h : Srt K D E a b) (he : ∀ i, a ≤ i → i < b → E' i = E i) : Srt K D E' a b := by
  refine ⟨by rw [seg_congr he]; exact h.perm, fun i j h1 h2 h3 => ?_⟩
  rw [he i h1 (by omega), he j (by omega) h3]
  exact h.rise i j h1 h2 h3

theorem Srt.of_merged (hm : Merged K E E' a b) (he : ∀ i, a ≤ i → i < b → E i = D i) : Srt K D E' a b := ⟨by rw [← seg_congr he]; exact hm.perm, hm.rise⟩

theorem Srt.none (h : b ≤ a + 1) (he : ∀ i, a ≤ i → i < b → E i = D i) : Srt K D E a b := ⟨by rw [seg_congr he], fun i j h1 h2 h3 => by omega⟩

theorem mul_near {x y : Nat} (h : x * bs < y * bs + bs) : x < y ∨ x = y := by
  have : x * bs < (y + 1) * bs := by rw [Nat.add_mul, Nat.one_mul]; exact h
  have := Nat.lt_of_mul_lt_mul_right this
  omega

theorem mul_step {x y : Nat} (h : x < y) : x * bs + bs ≤ y * bs := by
  have : (x + 1) * bs ≤ y * bs := Nat.mul_le_mul_right bs h
  rwa [Nat.add_mul, Nat.one_mul] at this

theorem Blocks.start : Blocks K D D n bs 0 0 := fun k _ h => absurd h (by omega)

theorem Blocks.insert (h : Blocks K D E n bs 0 (k * bs)) (hb : 0 < bs) (he : ∀ i, k * bs ≤ i → E i = D i) (hm : Merged K E E' (k * bs) (min (k * bs + bs) n)) : Blocks K D E' n bs 0 (k * bs + bs) := fun x _ hx => by
  rcases mul_near hx with h1 | h1
  · have h2 := mul_step (bs := bs) h1
    exact (h x (by omega) (by omega)).keep fun i h3 h4 => hm.out i (by omega)
  · subst h1
    exact Srt.of_merged hm fun i h3 _ => he i h3

theorem Blocks.less {hi hi' : Nat} (h : Blocks K D E n bs a hi) (hh : hi' ≤ hi) : Blocks K D E n bs a hi' := fun x h1 h2 => h x h1 (by omega)

theorem Blocks.pair (h : Blocks K D E n bs (k * (2 * bs)) n) (hb : 0 < bs) (hn : k * (2 * bs) + bs < n) : Srt K D E (k * (2 * bs)) (k * (2 * bs) + bs) ∧ Srt K D E (k * (2 * bs) + bs) (min (k * (2 * bs) + 2 * bs) n) := by
  have e1 : (2 * k) * bs = k * (2 * bs) := by rw [Nat.mul_comm 2 k, Nat.mul_assoc]
  have e2 : (2 * k + 1) * bs = k * (2 * bs) + bs := by rw [Nat.add_mul, Nat.one_mul, e1]
  have h1 := h (2 * k) (by omega) (by omega)
  have h2 := h (2 * k + 1) (by omega) (by omega)
  rw [e1, show min (k * (2 * bs) + bs) n = k * (2 * bs) + bs by omega] at h1
  rw [e2, show k * (2 * bs) + bs + bs = k * (2 * bs) + 2 * bs by omega] at h2
  exact ⟨h1, h2⟩

/-- Two blocks made one. -/
theorem Blocks.merge (h1 : Blocks K D E n (2 * bs) 0 (k * (2 * bs))) (h2 : Blocks K D E n bs (k * (2 * bs)) n) (hb : 0 < bs) (hn : k * (2 * bs) + bs < n) (hm : Merged K E E' (k * (2 * bs)) (min (k * (2 * bs) + 2 * bs) n)) : Blocks K D E' n (2 * bs) 0 (k * (2 * bs) + 2 * bs) ∧ Blocks K D E' n bs (k * (2 * bs) + 2 * bs) n := by
  have hp := h2.pair hb hn
  refine ⟨fun x _ hx => ?_, fun x hx1 hx2 => ?_⟩
  · rcases mul_near (bs := 2 * bs) hx with h3 | h3
    · have h4 := mul_step (bs := 2 * bs) h3
      exact (h1 x (by omega) (by omega)).keep fun i h3 h4 => hm.out i (by omega)
    · subst h3
      exact hp.1.merge hp.2 (by omega) (by omega) hm
  · exact (h2 x (by omega) hx2).keep fun i h3 h4 => hm.out i (by omega)

/-- A last block that has no other behind it. -/
theorem Blocks.rest (h1 : Blocks K D E n (2 * bs) 0 (k * (2 * bs))) (h2 : Blocks K D E n bs (k * (2 * bs)) n) (hb : 0 < bs) (hn : n ≤ k * (2 * bs) + bs) : Blocks K D E n (2 * bs) 0 n := fun x _ hx => by
  rcases mul_near (bs := 2 * bs) (x := x) (y := k) (by omega) with h3 | h3
  · have h4 := mul_step (bs := 2 * bs) h3
    exact h1 x (by omega) (by omega)
  · subst h3
    have e1 : (2 * x) * bs = x * (2 * bs) := by rw [Nat.mul_comm 2 x, Nat.mul_assoc]
    have h4 := h2 (2 * x) (by omega) (by omega)
    rw [e1, show min (x * (2 * bs) + bs) n = n by omega] at h4
    rw [show min (x * (2 * bs) + 2 * bs) n = n by omega]
    exact h4

theorem Blocks.whole (h : Blocks K D E n bs 0 n) (hn : n ≤ bs) (h0 : ∀ i, n ≤ i → E i = D i) : Merged K D E 0 n := by
  by_cases hz : n = 0
  · subst hz
    exact ⟨by rw [seg_none (Nat.le_refl _), seg_none (Nat.le_refl _)], fun i j _ _ h3 => by omega, fun i hi => h0 i (by omega)⟩
  · have h1 := h 0 (by omega) (by omega)
    rw [Nat.zero_mul, show min (0 + bs) n = n by omega] at h1
    exact ⟨h1.perm, h1.rise, fun i hi => h0 i (by omega)⟩

/-- The first pass has come up to x. -/
structure St1 (K : Int → Int) (D : Nat → Int) (P : Int → Prop) (n : Nat) (E : Nat → Int) (x : Nat) : Prop where
  at_ : ∃ k, x = k * 20 ∧ Blocks K D E n 20 0 (k * 20)
  out : ∀ i, x ≤ i → E i = D i
  all : ∀ i, i < n → P (E i)

/-- All blocks of bs are in order. -/
structure St2 (K : Int → Int) (D : Nat → Int) (P : Int → Prop) (n : Nat) (E : Nat → Int) (bs : Nat) : Prop where
  blk : Blocks K D E n bs 0 n
  out : ∀ i, n ≤ i → E i = D i
  all : ∀ i, i < n → P (E i)

/-- Below x all blocks of two bs are, from x on those of bs. -/
structure St3 (K : Int → Int) (D : Nat → Int) (P : Int → Prop) (n : Nat) (E : Nat → Int) (bs x : Nat) : Prop where
  at_ : ∃ k, x = k * (2 * bs) ∧ Blocks K D E n (2 * bs) 0 (k * (2 * bs)) ∧ Blocks K D E n bs (k * (2 * bs)) n
  out : ∀ i, n ≤ i → E i = D i
  all : ∀ i, i < n → P (E i)

section
variable {P : Int → Prop} {x : Nat}

theorem St1.start (hp : ∀ i, i < n → P (D i)) : St1 K D P n D 0 := ⟨⟨0, rfl, fun k _ h => absurd h (by omega)⟩, fun _ _ => rfl, hp⟩

theorem St1.step (h : St1 K D P n E x) (hx : x + 20 ≤ n) (hm : Merged K E E' x (x + 20)) : St1 K D P n E' (x + 20) := by
  obtain ⟨k, e, hb⟩ := h.at_
  refine ⟨⟨k + 1, by omega, ?_⟩, fun i hi => ?_, hm.all h.all hx⟩
  · have := hb.insert (E' := E') (by omega) (fun i hi => h.out i (by omega)) (by rw [← e, show min (x + 20) n = x + 20 by omega]; exact hm)
    rwa [show (k + 1) * 20 = k * 20 + 20 by omega]
  · rw [hm.out i (by omega)]; exact h.out i (by omega)

theorem St1.last (h : St1 K D P n E x) (hx1 : x ≤ n) (hx : n < x + 20) (hm : Merged K E E' x n) : St2 K D P n E' 20 := by
  obtain ⟨k, e, hb⟩ := h.at_
  refine ⟨?_, fun i hi => ?_, hm.all h.all (Nat.le_refl _)⟩
  · have := hb.insert (E' := E') (by omega) (fun i hi => h.out i (by omega)) (by rw [← e, show min (x + 20) n = n by omega]; exact hm)
    exact this.less (by omega)
  · rw [hm.out i (by omega)]; exact h.out i (by omega)

theorem St2.whole (h : St2 K D P n E bs) (hn : n ≤ bs) : Merged K D E 0 n := h.blk.whole hn h.out

theorem St2.start (h : St2 K D P n E bs) : St3 K D P n E bs 0 := ⟨⟨0, by omega, fun k _ h => absurd h (by omega), by rw [Nat.zero_mul]; exact h.blk⟩, h.out, h.all⟩

theorem St3.pair (h : St3 K D P n E bs x) (hu : Up D n) (hb : 0 < bs) (hx : x + bs < n) : Rise K E x (x + bs) ∧ Rise K E (x + bs) (min (x + 2 * bs) n) ∧ Low E x (x + bs) (min (x + 2 * bs) n) := by
  obtain ⟨k, e, h1, h2⟩ := h.at_
  subst e
  obtain ⟨p1, p2⟩ := h2.pair hb hx
  exact ⟨p1.rise, p2.rise, p1.low hu p2 (by omega)⟩

theorem St3.step (h : St3 K D P n E bs x) (hb : 0 < bs) (hx : x + 2 * bs ≤ n) (hm : Merged K E E' x (x + 2 * bs)) : St3 K D P n E' bs (x + 2 * bs) := by
  obtain ⟨k, e, h1, h2⟩ := h.at_
  refine ⟨⟨k + 1, by rw [Nat.add_mul]; omega, ?_⟩, fun i hi => ?_, hm.all h.all hx⟩
  · have := h1.merge (E' := E') h2 hb (by omega) (by rw [← e, show min (x + 2 * bs) n = x + 2 * bs by omega]; exact hm)
    rwa [show (k + 1) * (2 * bs) = k * (2 * bs) + 2 * bs by rw [Nat.add_mul]; omega]
  · rw [hm.out i (by omega)]; exact h.out i hi

theorem St3.last (h : St3 K D P n E bs x) (hb : 0 < bs) (hx1 : x + bs < n) (hx : n < x + 2 * bs) (hm : Merged K E E' x n) : St2 K D P n E' (2 * bs) := by
  obtain ⟨k, e, h1, h2⟩ := h.at_
  refine ⟨?_, fun i hi => ?_, hm.all h.all (Nat.le_refl _)⟩
  · have := h1.merge (E' := E') h2 hb (by omega) (by rw [← e, show min (x + 2 * bs) n = n by omega]; exact hm)
    exact this.1.less (by omega)
  · rw [hm.out i (by omega)]; exact h.out i hi

theorem St3.rest (h : St3 K D P n E bs x) (hb : 0 < bs) (hx1 : n ≤ x + bs) : St2 K D P n E (2 * bs) := by
  obtain ⟨k, e, h1, h2⟩ := h.at_
  exact ⟨h1.rest h2 hb (by omega), h.out, h.all⟩
end

end

end Go.Proofs.YtgjpchnkodnieaaGreatDoor
namespace Go.Proofs.YtgjpchnkodnieaaGreatDoor
open Go.RowKit

theorem symMerge_any (cf : Nat) (lb : Array Value) (eg : ∀ args w, (callFunc cf args).run Tryz.prog w = .ok (.enter cf args) w) (C : Int → Int → Int) (K : Int → Int) (hK : CmpKey C K) (P : Int → Prop) (g n cap : Nat) (hn : n ≤ 1000000) : ∀ len, SymOk cf lb C K P g n cap len := by
  intro len
  induction len with
  | zero => intro a m b D w h; exact absurd h (by omega)
  | succ len ih =>
    intro a m b D w hlen ham hmb hbn hl hr hlow hb hc hp
    by_cases h1 : m = a + 1
    · exact symA_any cf lb eg C K hK P g n cap a m b D w hb hc hp h1 hmb hbn hn hr hlow
    · by_cases h2 : b = m + 1
      · exact symB_any cf lb eg C K hK P g n cap a m b D w hb hc hp (by omega) h2 hbn hn hl hlow
      · exact symC_any cf lb eg C K hK P g n cap a m b D w (fun a' m' b' D' w' h => ih a' m' b' D' w' (by omega)) hb hc hp (by omega) (by omega) hbn hn hl hr hlow

set_option maxRecDepth 20000 in
set_option maxHeartbeats 8000000 in
theorem stable_any (cf : Nat) (lb : Array Value) (eg : ∀ args w, (callFunc cf args).run Tryz.prog w = .ok (.enter cf args) w) (C : Int → Int → Int) (K : Int → Int) (hK : CmpKey C K) (P : Int → Prop) (g n cap : Nat) (D : Nat → Int) (w : World) (h : Blk w g (tab n D)) (hcmp : CmpOk cf lb C P w g) (hP : ∀ i, i < n → P (D i)) (hn : n ≤ 1000000) (hup : Up D n) :
    Calls Tryz.prog 310 #[.slice (some ⟨g, 0, none⟩) n cap, .int .i64 (n : Nat), .func (.func cf) #[] lb] w fun e w' => (∃ v, e = .returned v) ∧ ∃ E, Merged K D E 0 n ∧ TabS w g n E w' := by
  have H := hide (TabS.refl h)
  have HC := hide hcmp
  have HU := hide hup
  have H1 : Hid (St1 K D P n D 0) := St1.start hP
  have HS := hide (symMerge_any cf lb eg C K hK P g n cap hn)
  clear h hcmp hP hup
  go_enter Tryz.func310, Tryz.ntmps310
  go_wp2_with fail
  go_loopw [7, 8] (fun u v wr => ∃ (x y : Nat) (E : Nat → Int), u = .int .i64 x ∧ v = .int .i64 y ∧ x + 20 = y ∧ x ≤ n ∧ Hid (St1 K D P n E x ∧ TabS w g n E wr)) (fun u _ _ => n - (intOf u).toNat)
  case atStart => exact ⟨0, 20, D, rfl, rfl, rfl, by omega, unhide H1, unhide H⟩
  case round =>
    obtain ⟨x, y, E, rfl, rfl, hxy, hxn, HT⟩ := hrel
    clear H H1
    have HXY := hide hxy
    by_cases hlt : y ≤ n
    · have hlti : (y : Int) ≤ (n : Int) := by omega
      have hupE : ∀ i j, x ≤ i → i < j → j < y → E i < E j := fun i j h1 h2 h3 => by
        rw [(unhide HT).1.out i h1, (unhide HT).1.out j (by omega)]
        exact unhide HU i j h2 (by omega)
      have hc := insertion_any cf lb eg C K hK P g n cap x y E wr (unhide HT).2.blk ((unhide HC).next (unhide HT).2.but) (unhide HT).1.all (by omega) hlt hn hupE
      clear hupE hxy
      go_wp2_with fail
      refine hc.mono ?_
      rintro e w1 ⟨⟨rv, rfl⟩, E', hM, hT⟩
      have HE : Hid (St1 K D P n E' y ∧ TabS w g n E' w1) := by
        have q := unhide HXY
        subst q
        exact ⟨(unhide HT).1.step hlt hM, (unhide HT).2.next hT⟩
      clear hc hM hT
      go_wp2_with fail
      go_roundw
      case rel => exact ⟨y, y + 20, E', rfl, by go_num, rfl, hlt, HE⟩
      case measure => simp [intOf]; have := unhide HXY; omega
    · have hlti : ¬ (y : Int) ≤ (n : Int) := by omega
      have hupE : ∀ i j, x ≤ i → i < j → j < n → E i < E j := fun i j h1 h2 h3 => by
        rw [(unhide HT).1.out i h1, (unhide HT).1.out j (by omega)]
        exact unhide HU i j h2 (by omega)
      have hc := insertion_any cf lb eg C K hK P g n cap x n E wr (unhide HT).2.blk ((unhide HC).next (unhide HT).2.but) (unhide HT).1.all (by omega) (Nat.le_refl _) hn hupE
      clear hupE hxy
      go_wp2_with fail
      refine hc.mono ?_
      rintro e w1 ⟨⟨rv, rfl⟩, E', hM, hT⟩
      have H2 : Hid (St2 K D P n E' 20 ∧ TabS w g n E' w1) := ⟨(unhide HT).1.last hxn (by have := unhide HXY; omega) hM, (unhide HT).2.next hT⟩
      clear hc hM hT HT HXY hlt hlti
      go_wp2_with fail
      go_loopw [6] (fun u wr => ∃ (bs : Nat) (E : Nat → Int), u = .int .i64 bs ∧ 0 < bs ∧ bs ≤ 2000000 ∧ Hid (St2 K D P n E bs ∧ TabS w g n E wr)) (fun u _ => n - (intOf u).toNat)
      case atStart => exact ⟨20, E', rfl, by omega, by omega, H2⟩
      case round =>
        obtain ⟨bs, E0, rfl, hbs0, hbsn, HT⟩ := hrel
        clear H2
        by_cases hlb : bs < n
        · have hlbi : (bs : Int) < (n : Int) := by omega
          obtain ⟨b2, hb2⟩ : ∃ x, 2 * bs = x := ⟨_, rfl⟩
          have eb2 : 2 * (bs : Int) = (b2 : Int) := by omega
          have eb3 : (bs : Int) * 2 = (b2 : Int) := by omega
          have HB2 := hide hb2
          have hb2n : b2 ≤ 2000000 := by omega
          have hb20 : bs < b2 := by omega
          have H3 : Hid (St3 K D P n E0 bs 0 ∧ TabS w g n E0 wr) := ⟨(unhide HT).1.start, (unhide HT).2⟩
          clear hb2 HT
          obtain ⟨ws, hws⟩ : ∃ x, x = wr := ⟨_, rfl⟩
          subst hws
          go_wp2_with fail
          go_loopw [7, 8] (fun u v wr => ∃ (x y : Nat) (E : Nat → Int), u = .int .i64 x ∧ v = .int .i64 y ∧ x + b2 = y ∧ x ≤ n ∧ Hid (St3 K D P n E bs x ∧ TabS w g n E wr)) (fun u _ _ => n - (intOf u).toNat)
          case atStart => exact ⟨0, b2, E0, rfl, rfl, by omega, by omega, H3⟩
          case round =>
            obtain ⟨x, y, E, rfl, rfl, hxy, hxn, HT⟩ := hrel
            clear H3
            have HXY := hide hxy
            obtain ⟨md, hmd⟩ : ∃ z, x + bs = z := ⟨_, rfl⟩
            have emd : (x : Int) + (bs : Int) = (md : Int) := by omega
            have HMD := hide hmd
            by_cases hyn : y ≤ n
            · have hyni : (y : Int) ≤ (n : Int) := by omega
              obtain ⟨y2, hy2⟩ : ∃ z, y + b2 = z := ⟨_, rfl⟩
              have ey2 : (y : Int) + (b2 : Int) = (y2 : Int) := by omega
              have HY2 := hide hy2
              have hpr := (unhide HT).1.pair (unhide HU) hbs0 (by omega)
              rw [show min (x + 2 * bs) n = y by have := unhide HB2; omega, hmd] at hpr
              have hc := unhide HS (y - x + 1) x md y E wr (by omega) (by omega) (by omega) hyn hpr.1 hpr.2.1 hpr.2.2 (unhide HT).2.blk ((unhide HC).next (unhide HT).2.but) (unhide HT).1.all
              clear hpr hxy hmd hy2
              go_wp2_with fail
              refine hc.mono ?_
              rintro e w2 ⟨⟨rv2, rfl⟩, E2, hM, hT⟩
              have HE : Hid (St3 K D P n E2 bs y ∧ TabS w g n E2 w2) := by
                have q : y = x + 2 * bs := by have := unhide HXY; have := unhide HB2; omega
                subst q
                exact ⟨(unhide HT).1.step hbs0 hyn hM, (unhide HT).2.next hT⟩
              clear hc hM hT
              go_wp2_with fail
              go_roundw
              case rel => exact ⟨y, y2, E2, rfl, by go_num, unhide HY2, hyn, HE⟩
              case measure => simp [intOf]; have := unhide HXY; omega
            · have hyni : ¬ (y : Int) ≤ (n : Int) := by omega
              by_cases hmn : md < n
              · have hmni : (md : Int) < (n : Int) := by omega
                have hpr := (unhide HT).1.pair (unhide HU) hbs0 (by omega)
                rw [show min (x + 2 * bs) n = n by have := unhide HB2; omega, hmd] at hpr
                have hc := unhide HS (n - x + 1) x md n E wr (by omega) (by omega) (by omega) (Nat.le_refl _) hpr.1 hpr.2.1 hpr.2.2 (unhide HT).2.blk ((unhide HC).next (unhide HT).2.but) (unhide HT).1.all
                clear hpr hxy hmd
                go_wp2_with fail
                refine hc.mono ?_
                rintro e w2 ⟨⟨rv2, rfl⟩, E2, hM, hT⟩
                have HE : Hid (St2 K D P n E2 b2 ∧ TabS w g n E2 w2) := by
                  refine ⟨?_, (unhide HT).2.next hT⟩
                  rw [← unhide HB2]
                  exact (unhide HT).1.last hbs0 (by have := unhide HMD; omega) (by have := unhide HXY; have := unhide HB2; omega) hM
                clear hc hM hT
                go_wp2_with fail
                go_roundw
                case rel => exact ⟨b2, E2, by go_num, by omega, hb2n, HE⟩
                case measure => simp [intOf]; omega
              · have hmni : ¬ (md : Int) < (n : Int) := by omega
                have HE : Hid (St2 K D P n E b2 ∧ TabS w g n E wr) := by
                  refine ⟨?_, (unhide HT).2⟩
                  rw [← unhide HB2]
                  exact (unhide HT).1.rest hbs0 (by omega)
                clear hxy hmd
                go_wp2_with fail
                go_roundw
                case rel => exact ⟨b2, E, by go_num, by omega, hb2n, HE⟩
                case measure => simp [intOf]; omega
        · have hlbi : ¬ (bs : Int) < (n : Int) := by omega
          have HE : Hid (Merged K D E0 0 n ∧ TabS w g n E0 wr) := ⟨(unhide HT).1.whole (by omega), (unhide HT).2⟩
          go_wp2_with fail
          go_end0
          exact ⟨⟨_, rfl⟩, _, unhide HE⟩

set_option maxHeartbeats 4000000 in
theorem sortStable_any (cf : Nat) (lb : Array Value) (eg : ∀ args w, (callFunc cf args).run Tryz.prog w = .ok (.enter cf args) w) (C : Int → Int → Int) (K : Int → Int) (hK : CmpKey C K) (P : Int → Prop) (g n cap : Nat) (D : Nat → Int) (w : World) (h : Blk w g (tab n D)) (hcmp : CmpOk cf lb C P w g) (hP : ∀ i, i < n → P (D i)) (hn : n ≤ 1000000) (hup : Up D n) :
    Calls Tryz.prog 269 #[.slice (some ⟨g, 0, none⟩) n cap, .func (.func cf) #[] lb] w fun e w' => (∃ v, e = .returned v) ∧ ∃ E, Merged K D E 0 n ∧ TabS w g n E w' := by
  have hc := stable_any cf lb eg C K hK P g n cap D w h hcmp hP hn hup
  clear h hcmp hP hup
  go_enter Tryz.func269, Tryz.ntmps269
  go_wp2_with fail
  refine hc.mono ?_
  rintro e w1 ⟨⟨rv, rfl⟩, hE⟩
  have HE := hide hE
  clear hc hE
  go_wp2_with fail
  go_end0
  exact ⟨⟨_, rfl⟩, unhide HE⟩

end Go.Proofs.YtgjpchnkodnieaaGreatDoor
namespace Go.Proofs.YtgjpchnkodnieaaGreatDoor
open Go.RowKit

def upToN (L k : Nat) : List Int := (List.range L).map fun (i : Nat) => if i < k then (i : Int) + 1 else 0
theorem upToN_zero (L : Nat) : upToN L 0 = List.replicate L 0 := by
  apply List.ext_getElem <;> simp [upToN]
theorem upToN_all (L : Nat) : upToN L L = upTo L := map_range_eq fun i hi => by rw [if_pos hi]
theorem upToN_step {L k : Nat} : (upToN L k).set k ((k : Int) + 1) = upToN L (k + 1) := by
  unfold upToN
  rw [map_range_set]
  refine map_range_eq fun i hi => ?_
  by_cases h : i = k
  · subst h; simp
  · rw [if_neg h]
    by_cases h2 : i < k
    · rw [if_pos h2, if_pos (by omega)]
    · rw [if_neg h2, if_neg (by omega)]

set_option maxHeartbeats 2000000 in
theorem numbersUpTo_any (L : Nat) (hL : L ≤ 10000) (w : World) :
    Calls Tryz.prog 218 #[.int .i64 (L : Nat)] w fun e w' => ∃ s g, e = .returned (.agg #[.bool false, .slice (some ⟨s, 0, none⟩) 1 1, .slice (some ⟨g, 0, none⟩) L L]) ∧ w.heap.size ≤ s ∧ w.heap.size ≤ g ∧ s ≠ g ∧ Blk w' s [(L : Int)] ∧ Blk w' g (upTo L) ∧ Below w.heap.size w w' := by
  have hmk := run_make_row' (P := Tryz.prog) 23 3 (.int .i64 0) 8 Tryz.underlying23 info_int rfl .i64 .i64 L (by omega) (by omega)
  go_enter Tryz.func218, Tryz.ntmps218
  go_wp2_with fail
  obtain ⟨g, hg⟩ : ∃ g, g = w.heap.size + 1 := ⟨_, rfl⟩
  obtain ⟨W, hW⟩ : ∃ W, W = (w.alloc (.cells #[.bool false, .slice none 0 0, .slice none 0 0] 25)).alloc (.cells (madeCells #[.int .i64 0] L) 3) := ⟨_, rfl⟩
  have HB0 : Hid (Box W w.heap.size false (.slice none 0 0) (.slice none 0 0)) := by rw [hW]; exact (Box.new w _ _ _).alloc _
  have HG : Hid (Blk W g (upToN L 0)) := by show Blk W g _; rw [upToN_zero, hW]; exact Blk.made _ _ _ (by rw [hg]; simp)
  have HBL : Hid (Below w.heap.size w W) := by rw [hW]; exact ((Below.refl _ w).alloc (Nat.le_refl _) _).alloc (by simp) _
  have hzw : W.heap.size = w.heap.size + 1 + 1 := by rw [hW]; simp
  have HZW := hide hzw
  have HGE := hide hg
  rw [← hW, ← hg]
  clear hW hzw hmk
  have hgw : w.heap.size < g := by omega
  clear hg
  go_loopw [9] (fun i wr => ∃ k : Nat, k ≤ L ∧ i = .int .i64 (k : Nat) ∧ Hid (Blk wr g (upToN L k)) ∧ Hid (But (fun x => x = g) W wr)) (fun i _ => L - (intOf i).toNat)
  case atStart => exact ⟨0, Nat.zero_le _, rfl, HG, hide (But.refl _ _)⟩
  case round =>
    obtain ⟨k, hk, rfl, hb, hbut⟩ := hrel
    by_cases hlt : k < L
    · have hc := (unhide hb).cell (i := k) (by simp [upToN, hlt])
      have hf := (unhide hb).free k
      have hkz : (k : Int) < (L : Int) := by omega
      go_wp2_with fail
      go_roundw
      case rel =>
        refine ⟨k + 1, by omega, by go_num, ?_, hide ((unhide hbut).setCell (p := ⟨g, k, none⟩) rfl _)⟩
        show Blk _ _ _
        rw [← upToN_step]
        exact (unhide hb).set k _
      case measure => simp [intOf]; omega
    · have e : k = L := by omega
      subst k
      obtain ⟨s, hs⟩ : ∃ s, s = wr.heap.size := ⟨_, rfl⟩
      have HBW : Hid (Below w.heap.size w wr) := (unhide HBL).trans ((unhide hbut).below (by have := unhide HZW; omega) (by rintro x rfl; omega))
      have hgl := (unhide hb).lt
      have hws := (unhide HBW).size
      have HB1 : Hid (Box (wr.alloc (.cells #[.int .i64 (L : Nat)] 3)) w.heap.size false (.slice none 0 0) (.slice none 0 0)) := ((unhide HB0).but (unhide hbut) (by show ¬ w.heap.size = g; omega)).alloc _
      obtain ⟨q0, q1, q2, q3, q4, q5, q6⟩ := (unhide HB1).all
      have hbs : Blk (wr.alloc (.cells #[.int .i64 (L : Nat)] 3)) wr.heap.size [(L : Int)] := by
        show (wr.heap.push _)[wr.heap.size]? = _
        simp
      have HBS := hide hbs
      clear hbs hk hlt
      go_wp2_with fail
      have hx := (unhide HB1).sets (c' := false) (u1 := .slice (some ⟨wr.heap.size, 0, none⟩) 1 1) (u2 := .slice (some ⟨g, 0, none⟩) L L)
      obtain ⟨r0, r1, r2, _, _, _⟩ := hx.all
      refine bodyPost_ret (v := .agg #[.bool false, .slice (some ⟨wr.heap.size, 0, none⟩) 1 1, .slice (some ⟨g, 0, none⟩) L L]) (by simp [results, Tryz.results218, go_sem, r0, r1, r2]) rfl ?_
      have n1 : wr.heap.size ≠ w.heap.size := by omega
      have n2 : g ≠ w.heap.size := by omega
      refine ⟨wr.heap.size, g, rfl, hws, by omega, by omega, ?_, ?_, ?_⟩
      · exact (((unhide HBS).other (p := ⟨w.heap.size, 0, none⟩) n1 _).other (p := ⟨w.heap.size, 1, none⟩) n1 _).other (p := ⟨w.heap.size, 2, none⟩) n1 _
      · rw [← upToN_all]
        exact ((((unhide hb).alloc _).other (p := ⟨w.heap.size, 0, none⟩) n2 _).other (p := ⟨w.heap.size, 1, none⟩) n2 _).other (p := ⟨w.heap.size, 2, none⟩) n2 _
      · exact ((((unhide HBW).alloc hws _).setCell (by simp) _).setCell (by simp) _).setCell (by simp) _

end Go.Proofs.YtgjpchnkodnieaaGreatDoor
namespace Go.Proofs.YtgjpchnkodnieaaGreatDoor
open Go.RowKit

def cmpI (x y : Int) : Int := if x < y then -1 else if y < x then 1 else 0

theorem isNaN_eq (x : Int) (w : World) : Calls Tryz.prog 311 #[.int .i64 x] w fun e w' => e = .returned (.bool false) ∧ w' = w := by
  have h : (x != x) = false := by simp
  go_enter Tryz.func311, Tryz.ntmps311
  go_wp2
  go_ret
  exact ⟨rfl, rfl⟩

theorem compare_eq (x y : Int) (w : World) : Calls Tryz.prog 271 #[.int .i64 x, .int .i64 y] w fun e w' => e = .returned (.int .i64 (cmpI x y)) ∧ w' = w := by
  by_cases h1 : x < y
  · have e : cmpI x y = -1 := by unfold cmpI; rw [if_pos h1]
    rw [e]
    clear e
    go_enter Tryz.func271, Tryz.ntmps271
    go_wp2_with (go_at_call 311; refine (isNaN_eq _ _).mono ?_; rintro e wx ⟨rfl, rfl⟩)
    go_ret
    exact ⟨rfl, rfl⟩
  · by_cases h2 : y < x
    · have e : cmpI x y = 1 := by unfold cmpI; rw [if_neg h1, if_pos h2]
      rw [e]
      clear e
      go_enter Tryz.func271, Tryz.ntmps271
      go_wp2_with (go_at_call 311; refine (isNaN_eq _ _).mono ?_; rintro e wx ⟨rfl, rfl⟩)
      go_ret
      exact ⟨rfl, rfl⟩
    · have e : cmpI x y = 0 := by unfold cmpI; rw [if_neg h1, if_neg h2]
      rw [e]
      clear e
      go_enter Tryz.func271, Tryz.ntmps271
      go_wp2_with (go_at_call 311; refine (isNaN_eq _ _).mono ?_; rintro e wx ⟨rfl, rfl⟩)
      go_ret
      exact ⟨rfl, rfl⟩

def gradeC (down : Bool) (dt : List Int) (p q : Int) : Int := if down then cmpI (dt.getD (q - 1).toNat 0) (dt.getD (p - 1).toNat 0) else cmpI (dt.getD (p - 1).toNat 0) (dt.getD (q - 1).toNat 0)

theorem grade_key (down : Bool) (dt : List Int) : CmpKey (gradeC down dt) (gradeK down dt) := fun p q => by
  unfold gradeC gradeK cmpI
  cases down
  · simp only [Bool.false_eq_true, if_false]
    split
    · omega
    · split <;> omega
  · simp only [if_true]
    split
    · omega
    · split <;> omega

set_option maxHeartbeats 2000000 in
theorem gradeClo (down : Bool) (pd pa : Nat) (c : Bool) (v1 : Value) (a2 : Option Addr) (n2 c2 : Nat) (dt : List Int) (W : World) (hd : W.cell? ⟨pd, 0, none⟩ = some (.bool down)) (hb : Box W pa c v1 (.slice a2 n2 c2)) (h2 : Row W a2 n2 dt) (p q : Int) (hp : 1 ≤ p ∧ p ≤ n2) (hq : 1 ≤ q ∧ q ≤ n2) (hn : n2 ≤ 10000) :
    Calls Tryz.prog 270 #[.int .i64 p, .int .i64 q, .pointer (some ⟨pd, 0, none⟩), .pointer (some ⟨pa, 0, none⟩)] W fun e w' => e = .returned (.int .i64 (gradeC down dt p q)) ∧ ∃ m, w' = W.drewN m := by
  obtain ⟨x, rfl⟩ : ∃ x : Nat, p = (x : Int) + 1 := ⟨(p - 1).toNat, by omega⟩
  obtain ⟨y, rfl⟩ : ∃ y : Nat, q = (y : Int) + 1 := ⟨(q - 1).toNat, by omega⟩
  have ex : (x : Int) + 1 - 1 = (x : Int) := by omega
  have ey : (y : Int) + 1 - 1 = (y : Int) := by omega
  have hxn : x < n2 := by omega
  have hyn : y < n2 := by omega
  have hxi : (x : Int) < (n2 : Int) := by omega
  have hyi : (y : Int) < (n2 : Int) := by omega
  obtain ⟨_, _, hc2⟩ := hb.cells
  obtain ⟨b, off, rfl, _, hcx⟩ := h2.get hxn
  obtain ⟨b', off', he, _, hcy⟩ := h2.get hyn
  cases he
  obtain ⟨u, hu⟩ : ∃ u, dt.getD x 0 = u := ⟨_, rfl⟩
  obtain ⟨v, hv⟩ : ∃ v, dt.getD y 0 = v := ⟨_, rfl⟩
  rw [hu] at hcx
  rw [hv] at hcy
  have HG : Hid (gradeC down dt ((x : Int) + 1) ((y : Int) + 1) = if down then cmpI v u else cmpI u v) := by
    show _ = _
    unfold gradeC
    rw [ex, ey, Int.toNat_natCast, Int.toNat_natCast, hu, hv]
  rw [unhide HG]
  clear HG hu hv hb h2 hp hq
  cases down with
  | true =>
    go_enter Tryz.func270, Tryz.ntmps270
    go_wp2_with fail
    go_quiet (first | (go_at_call 271; exact Calls.quiet_of_same (compare_eq _ _ _)))
    go_wp2
    go_ret
    exact ⟨rfl, _, rfl⟩
  | false =>
    go_enter Tryz.func270, Tryz.ntmps270
    go_wp2_with fail
    go_quiet (first | (go_at_call 271; exact Calls.quiet_of_same (compare_eq _ _ _)))
    go_wp2
    go_ret
    exact ⟨rfl, _, rfl⟩

theorem eg_grade : ∀ args w, (callFunc 270 args).run Tryz.prog w = .ok (.enter 270 args) w := enters_of Tryz.func270 (by kernel_rfl) rfl

end Go.Proofs.YtgjpchnkodnieaaGreatDoor
namespace Go.Proofs.YtgjpchnkodnieaaGreatDoor
open Go.RowKit

/-- The box of the answer holds an array of the call's own. -/
def Res5 (w : World) (d : Bool) (zs ys : List Int) (n N box : Nat) (wx : World) : Prop :=
  ∃ ash csh gd, Box wx box d (.slice ash n csh) (.slice (some ⟨gd, 0, none⟩) N N) ∧ Own wx w.heap.size ash n zs ∧ w.heap.size ≤ gd ∧ Blk wx gd ys ∧ ¬ At ash n gd ∧ Below w.heap.size w wx

theorem Res5.set {w W : World} {d : Bool} {zs ys : List Int} {n N box gd csh : Nat} {ash : Option Addr} {v1 v2 : Value} {c : Bool} (hb : Box W box c v1 v2) (hO : Own W w.heap.size ash n zs) (hg : w.heap.size ≤ gd) (hB : Blk W gd ys) (hne : ¬ At ash n gd) (hbl : Below w.heap.size w W) (hb1 : ¬ At ash n box) (hb2 : gd ≠ box) (hw : w.heap.size ≤ box) :
    Res5 w d zs ys n N box (((W.setCell ⟨box, 0, none⟩ (.bool d)).setCell ⟨box, 1, none⟩ (.slice ash n csh)).setCell ⟨box, 2, none⟩ (.slice (some ⟨gd, 0, none⟩) N N)) := by
  have hk : ∀ k, At ash n k → k ≠ box := fun k hk e => hb1 (e ▸ hk)
  exact ⟨ash, csh, gd, hb.sets, ((hO.other (q := ⟨box, 0, none⟩) hk _).other (q := ⟨box, 1, none⟩) hk _).other (q := ⟨box, 2, none⟩) hk _, hg, ((hB.other (p := ⟨box, 0, none⟩) hb2 _).other (p := ⟨box, 1, none⟩) hb2 _).other (p := ⟨box, 2, none⟩) hb2 _, hne, ((hbl.setCell (p := ⟨box, 0, none⟩) hw _).setCell (p := ⟨box, 1, none⟩) hw _).setCell (p := ⟨box, 2, none⟩) hw _⟩

theorem gives_res {w wx : World} {d : Bool} {zs ys : List Int} {n N gd csh : Nat} {ash : Option Addr} (hl : ys.length = N) (hN : N ≤ 17592186044416) (hO : Own wx w.heap.size ash n zs) (hg : w.heap.size ≤ gd) (hB : Blk wx gd ys) (hne : ¬ At ash n gd) (hbl : Below w.heap.size w wx) :
    GivesOwn w ⟨d, zs, ys, 0⟩ (.returned (.tuple #[.agg #[.bool d, .slice ash n csh, .slice (some ⟨gd, 0, none⟩) N N], .int .i64 0])) wx :=
  ⟨ash, n, csh, some ⟨gd, 0, none⟩, N, N, rfl, hO, hB.own hl hN hg, fun k h1 h2 => by have := at_eq h2; subst this; exact hne h1, hbl⟩

end Go.Proofs.YtgjpchnkodnieaaGreatDoor
namespace Go.Proofs.YtgjpchnkodnieaaGreatDoor
open Go.RowKit

/-- As GivesOwn, and the slices' room is said. -/
def GivesCap (w : World) (r : Ans) (e : Ending) (w' : World) : Prop := ∃ b1 m1 d1 b2 m2 d2, e = .returned (.tuple #[.agg #[.bool r.c, .slice b1 m1 d1, .slice b2 m2 d2], .int .i64 r.code]) ∧ Own w' w.heap.size b1 m1 r.sh ∧ Own w' w.heap.size b2 m2 r.dt ∧ Apart b1 m1 b2 m2 ∧ Below w.heap.size w w' ∧ (m1 ≤ d1 ∧ m2 ≤ d2 ∧ (r.code = 0 → ∃ ad, b2 = some ad))

theorem GivesCap.own {w w' : World} {r : Ans} {e : Ending} (h : GivesCap w r e w') : GivesOwn w r e w' := by
  obtain ⟨b1, m1, d1, b2, m2, d2, he, h1, h2, h3, h4, _⟩ := h
  exact ⟨b1, m1, d1, b2, m2, d2, he, h1, h2, h3, h4⟩

theorem cap_none {w w' : World} {code : Int} (hc : code ≠ 0) (h : Below w.heap.size w w') : GivesCap w (noAns code) (.returned (.tuple #[.agg #[.bool false, .slice none 0 0, .slice none 0 0], .int .i64 code])) w' :=
  ⟨none, 0, 0, none, 0, 0, rfl, own_none _ _ _, own_none _ _ _, fun _ h => absurd rfl h.1, h, Nat.le_refl _, Nat.le_refl _, fun e => absurd e hc⟩

theorem Res5.setC {w W : World} {d : Bool} {zs ys : List Int} {n N box gd csh : Nat} {ash : Option Addr} {v1 v2 : Value} {c : Bool} (hb : Box W box c v1 v2) (hO : Own W w.heap.size ash n zs) (hg : w.heap.size ≤ gd) (hB : Blk W gd ys) (hne : ¬ At ash n gd) (hbl : Below w.heap.size w W) (hb1 : ¬ At ash n box) (hb2 : gd ≠ box) (hw : w.heap.size ≤ box) (hc : n ≤ csh) :
    ∃ ash' csh' gd', Box (((W.setCell ⟨box, 0, none⟩ (.bool d)).setCell ⟨box, 1, none⟩ (.slice ash n csh)).setCell ⟨box, 2, none⟩ (.slice (some ⟨gd, 0, none⟩) N N)) box d (.slice ash' n csh') (.slice (some ⟨gd', 0, none⟩) N N) ∧ Own (((W.setCell ⟨box, 0, none⟩ (.bool d)).setCell ⟨box, 1, none⟩ (.slice ash n csh)).setCell ⟨box, 2, none⟩ (.slice (some ⟨gd, 0, none⟩) N N)) w.heap.size ash' n zs ∧ w.heap.size ≤ gd' ∧ Blk (((W.setCell ⟨box, 0, none⟩ (.bool d)).setCell ⟨box, 1, none⟩ (.slice ash n csh)).setCell ⟨box, 2, none⟩ (.slice (some ⟨gd, 0, none⟩) N N)) gd' ys ∧ ¬ At ash' n gd' ∧ Below w.heap.size w (((W.setCell ⟨box, 0, none⟩ (.bool d)).setCell ⟨box, 1, none⟩ (.slice ash n csh)).setCell ⟨box, 2, none⟩ (.slice (some ⟨gd, 0, none⟩) N N)) ∧ n ≤ csh' := by
  have hk : ∀ k, At ash n k → k ≠ box := fun k hk e => hb1 (e ▸ hk)
  exact ⟨ash, csh, gd, hb.sets, ((hO.other (q := ⟨box, 0, none⟩) hk _).other (q := ⟨box, 1, none⟩) hk _).other (q := ⟨box, 2, none⟩) hk _, hg, ((hB.other (p := ⟨box, 0, none⟩) hb2 _).other (p := ⟨box, 1, none⟩) hb2 _).other (p := ⟨box, 2, none⟩) hb2 _, hne, ((hbl.setCell (p := ⟨box, 0, none⟩) hw _).setCell (p := ⟨box, 1, none⟩) hw _).setCell (p := ⟨box, 2, none⟩) hw _, hc⟩

theorem cap_res {w wx : World} {d : Bool} {zs ys : List Int} {n N gd csh : Nat} {ash : Option Addr} (hl : ys.length = N) (hN : N ≤ 17592186044416) (hO : Own wx w.heap.size ash n zs) (hg : w.heap.size ≤ gd) (hB : Blk wx gd ys) (hne : ¬ At ash n gd) (hbl : Below w.heap.size w wx) (hc : n ≤ csh) :
    GivesCap w ⟨d, zs, ys, 0⟩ (.returned (.tuple #[.agg #[.bool d, .slice ash n csh, .slice (some ⟨gd, 0, none⟩) N N], .int .i64 0])) wx :=
  ⟨ash, n, csh, some ⟨gd, 0, none⟩, N, N, rfl, hO, hB.own hl hN hg, fun k h1 h2 => by have := at_eq h2; subst this; exact hne h1, hbl, hc, Nat.le_refl _, fun _ => ⟨_, rfl⟩⟩

end Go.Proofs.YtgjpchnkodnieaaGreatDoor
namespace Go.Proofs.YtgjpchnkodnieaaGreatDoor
open Go.RowKit

/-- Block p holds one bool. -/
def BoolAt (w : World) (p : Nat) (b : Bool) : Prop := w.heap[p]? = some (.cells #[.bool b] 4 (0, 0))
theorem BoolAt.lt {w : World} {p : Nat} {b : Bool} (h : BoolAt w p b) : p < w.heap.size := lt_of_block h
theorem BoolAt.new (w : World) (b : Bool) : BoolAt (w.alloc (.cells #[.bool b] 4)) w.heap.size b := by
  show (w.heap.push _)[w.heap.size]? = _
  simp
theorem BoolAt.alloc {w : World} {p : Nat} {b : Bool} (h : BoolAt w p b) (o : Obj) : BoolAt (w.alloc o) p b := (Below.heap_alloc w o p h.lt).trans h
theorem BoolAt.below {w w' : World} {p B : Nat} {b : Bool} (h : BoolAt w p b) (hB : w.heap.size ≤ B) (hb : Below B w w') : BoolAt w' p b := (hb.block p (Nat.lt_of_lt_of_le h.lt hB)).trans h
theorem BoolAt.but {S : Nat → Prop} {w w' : World} {p : Nat} {b : Bool} (h : BoolAt w p b) (hb : But S w w') (hn : ¬ S p) : BoolAt w' p b := (hb.block p h.lt hn).trans h
theorem BoolAt.cell {w : World} {p : Nat} {b : Bool} (h : BoolAt w p b) : w.cell? ⟨p, 0, none⟩ = some (.bool b) := by
  unfold BoolAt at h
  simp [World.cell?, h]

theorem boxesG {w w1 : World} {c fl : Bool} {v1 v2 : Value} (hb : Below (((w.alloc (.cells #[.bool c, v1, v2] 25)).alloc (.cells #[.bool fl] 4)).alloc (.cells #[.bool false, .slice none 0 0, .slice none 0 0] 25)).heap.size (((w.alloc (.cells #[.bool c, v1, v2] 25)).alloc (.cells #[.bool fl] 4)).alloc (.cells #[.bool false, .slice none 0 0, .slice none 0 0] 25)) w1) :
    Box w1 w.heap.size c v1 v2 ∧ BoolAt w1 (w.heap.size + 1) fl ∧ Box w1 (w.heap.size + 2) false (.slice none 0 0) (.slice none 0 0) ∧ Below w.heap.size w w1 := by
  have e1 : (w.alloc (.cells #[.bool c, v1, v2] 25)).heap.size = w.heap.size + 1 := by simp
  have e2 : ((w.alloc (.cells #[.bool c, v1, v2] 25)).alloc (.cells #[.bool fl] 4)).heap.size = w.heap.size + 2 := by simp
  refine ⟨(((Box.new w c v1 v2).alloc _).alloc _).below (Nat.le_refl _) hb, ?_, ?_, ((((Below.refl _ _).alloc (Nat.le_refl _) _).alloc (by simp) _).alloc (by simp <;> omega) _).trans (hb.mono (by simp; omega))⟩
  · have := ((BoolAt.new (w.alloc (.cells #[.bool c, v1, v2] 25)) fl).alloc _).below (Nat.le_refl _) hb
    rwa [e1] at this
  · have := (Box.new ((w.alloc (.cells #[.bool c, v1, v2] 25)).alloc (.cells #[.bool fl] 4)) false (.slice none 0 0) (.slice none 0 0)).below (Nat.le_refl _) hb
    rwa [e2] at this

set_option maxRecDepth 20000 in
set_option maxHeartbeats 4000000 in
theorem implGrade_bad (c fl : Bool) (a1 a2 : Option Addr) (n1 n2 c1 c2 : Nat) (sh dt : List Int) (w : World) (h1 : Row w a1 n1 sh) (h2 : Row w a2 n2 dt) (hok : arrOk c sh dt = false) :
    Calls Tryz.prog 223 #[.agg #[.bool c, .slice a1 n1 c1, .slice a2 n2 c2], .bool fl] w (GivesCap w (noAns 3)) := by
  have HR := hide hok
  have H1 := hide h1
  have H2 := hide h2
  clear h1 h2 hok
  go_enter Tryz.func223, Tryz.ntmps223
  go_wp2_with (first | (go_at_call 51; refine (implArrayOk_eq _ _ _ _ _ _ _ sh dt _ ((((unhide H1).alloc _).alloc _).alloc _) ((((unhide H2).alloc _).alloc _).alloc _) _ HR).mono ?_; rintro e w1 ⟨rfl, hb1⟩; obtain ⟨B0, B1, B2, hB1⟩ := boxesG hb1; have HB := hide hB1; obtain ⟨q0, q1, q2, q3, q4, q5, q6⟩ := B2.all; clear hb1 hB1 B0 B1 B2))
  refine bodyPost_ret (v := .tuple #[.agg #[.bool false, .slice none 0 0, .slice none 0 0], .int .i64 3]) (by simp [results, Tryz.results223, go_sem, q0, q1, q2]) rfl ?_
  exact cap_none (by decide) ((((unhide HB).setCell (by simp <;> omega) _).setCell (by simp <;> omega) _).setCell (by simp <;> omega) _)

set_option maxRecDepth 20000 in
set_option maxHeartbeats 4000000 in
theorem implGrade_rank (c fl : Bool) (a1 a2 : Option Addr) (n1 n2 c1 c2 : Nat) (sh dt : List Int) (w : World) (h1 : Row w a1 n1 sh) (h2 : Row w a2 n2 dt) (hok : arrOk c sh dt = true) (hne : n1 ≠ 1) :
    Calls Tryz.prog 223 #[.agg #[.bool c, .slice a1 n1 c1, .slice a2 n2 c2], .bool fl] w (GivesCap w (noAns 4)) := by
  have HR := hide hok
  have H1 := hide h1
  have H2 := hide h2
  clear h1 h2 hok
  have q : ((n1 : Int) != 1) = true := by simp; omega
  go_enter Tryz.func223, Tryz.ntmps223
  go_wp2_with (first | (go_at_call 51; refine (implArrayOk_eq _ _ _ _ _ _ _ sh dt _ ((((unhide H1).alloc _).alloc _).alloc _) ((((unhide H2).alloc _).alloc _).alloc _) _ HR).mono ?_; rintro e w1 ⟨rfl, hb1⟩; obtain ⟨B0, B1, B2, hB1⟩ := boxesG hb1; have HB := hide hB1; obtain ⟨q0, q1, q2, q3, q4, q5, q6⟩ := B2.all; obtain ⟨x0, x1, x2, x3, x4, x5, x6⟩ := B0.all; clear hb1 hB1 B0 B1 B2))
  refine bodyPost_ret (v := .tuple #[.agg #[.bool false, .slice none 0 0, .slice none 0 0], .int .i64 4]) (by simp [results, Tryz.results223, go_sem, q0, q1, q2]) rfl ?_
  exact cap_none (by decide) ((((unhide HB).setCell (by simp <;> omega) _).setCell (by simp <;> omega) _).setCell (by simp <;> omega) _)

set_option maxRecDepth 20000 in
set_option maxHeartbeats 4000000 in
theorem implGrade_good (c fl : Bool) (a1 a2 : Option Addr) (n2 c1 c2 : Nat) (sh dt : List Int) (w : World) (h1 : Row w a1 1 sh) (h2 : Row w a2 n2 dt) (hok : arrOk c sh dt = true) (hn2 : n2 ≤ 10000) :
    Calls Tryz.prog 223 #[.agg #[.bool c, .slice a1 1 c1, .slice a2 n2 c2], .bool fl] w (GivesCap w (gradeA c sh dt fl)) := by
  have HR := hide hok
  have H1 := hide h1
  have H2 := hide h2
  have HLN := hide h2.len
  have HSH := hide (line_shape hok h1.len)
  have HL1 := hide h1.len
  clear h1 h2 hok
  go_enter Tryz.func223, Tryz.ntmps223
  go_wp2_with (first | (go_at_call 51; refine (implArrayOk_eq _ _ _ _ _ _ _ sh dt _ ((((unhide H1).alloc _).alloc _).alloc _) ((((unhide H2).alloc _).alloc _).alloc _) _ HR).mono ?_; rintro e w1 ⟨rfl, hb1⟩; obtain ⟨B0, B1, B2, hB1⟩ := boxesG hb1; have HB := hide hB1; have HB0 := hide B0; have HB1 := hide B1; have HB2 := hide B2; obtain ⟨x0, x1, x2, x3, x4, x5, x6⟩ := B0.all; clear hb1 hB1 B0 B1 B2) | (go_at_call 218; refine (numbersUpTo_any n2 hn2 _).mono ?_; rintro e w2 ⟨s, g, rfl, hs, hg, hsg, hBs, hBg, hb2⟩; have HC := hide ((unhide HB).trans (hb2.mono (unhide HB).size)); have HC0 := hide ((unhide HB0).below (Nat.le_refl _) hb2); have HC1 := hide ((unhide HB1).below (Nat.le_refl _) hb2); have HC2 := hide ((unhide HB2).below (Nat.le_refl _) hb2); have HBS := hide hBs; have HBG := hide hBg; have k1 := (unhide HB2).lt; have hws := hb2.size; clear x0 x1 x2 x3 x4 x5 x6 hb2 hBs hBg HB HB0 HB1 HB2))
  have hzs := (unhide HC).size
  have HW := hide hws
  have nP : w.heap.size + 2 < w2.heap.size := by have := (unhide HC2).lt; omega
  have HROW : Hid (Row (w2.alloc (.cells #[.bool false, .slice (some ⟨s, 0, none⟩) 1 1, .slice (some ⟨g, 0, none⟩) n2 n2] 25)) a2 n2 dt) := ((unhide H2).below (Nat.le_refl _) (unhide HC)).alloc _
  have hgw : w.heap.size + 2 < g := by omega
  have hsw : w.heap.size + 2 < s := by omega
  have hgl := (unhide HBG).lt
  have hsl := (unhide HBS).lt
  refine (sortStable_any 270 #[.pointer (some ⟨w.heap.size + 1, 0, none⟩), .pointer (some ⟨w.heap.size, 0, none⟩)] eg_grade (gradeC fl dt) (gradeK fl dt) (grade_key fl dt) (fun p => 1 ≤ p ∧ p ≤ n2) g n2 n2 (fun i => (i : Int) + 1) _ (by exact (unhide HBG).alloc _) ?_ (fun i hi => by constructor <;> omega) (by omega) (fun i j h1 h2 => by show (i : Int) + 1 < (j : Int) + 1; omega)).mono ?_
  · intro p q hp hq wx hwx
    have hap : ∀ k, k = g → ¬ At a2 n2 k := fun k hk hA => by
      have := (unhide H2).hi hA
      omega
    exact gradeClo fl (w.heap.size + 1) w.heap.size c (.slice a1 1 c1) a2 n2 c2 dt wx (((unhide HC1).alloc _).but hwx (by omega)).cell (((unhide HC0).alloc _).but hwx (by omega)) (hwx.row (unhide HROW) hap) p q hp hq hn2
  · rintro e w3 ⟨⟨rv, rfl⟩, E, hM, hT⟩
    have HT := hide hT
    have HGR : Hid (gradeA c sh dt fl = ⟨false, sh, tab n2 E, 0⟩) := by
      have := unhide HLN
      subst this
      exact grade_go (unhide HR) (unhide HL1) (merged_grade hM)
    have HD0 := hide (((unhide HC2).alloc (.cells #[.bool false, .slice (some ⟨s, 0, none⟩) 1 1, .slice (some ⟨g, 0, none⟩) n2 n2] 25)).but hT.but (by omega))
    have HD1 := hide ((Box.new w2 false (.slice (some ⟨s, 0, none⟩) 1 1) (.slice (some ⟨g, 0, none⟩) n2 n2)).but hT.but (by omega))
    have HBS3 : Hid (Blk w3 s sh) := by
      rw [unhide HSH, unhide HLN]
      exact ((hT.but.block s (by simp; omega) (by omega)).trans ((unhide HBS).alloc _))
    have HBL : Hid (Below w.heap.size w w3) := ((unhide HC).alloc hzs _).trans (hT.but.below (by simp; omega) (by rintro x rfl; omega))
    obtain ⟨q0, q1, q2, q3, q4, q5, q6⟩ := (unhide HD0).all
    obtain ⟨y0, y1, y2, y3, y4, y5, y6⟩ := (unhide HD1).all
    clear hT hM
    go_wp2_with fail
    have hx := (unhide HD0).sets (c' := false) (u1 := .slice (some ⟨s, 0, none⟩) 1 1) (u2 := .slice (some ⟨g, 0, none⟩) n2 n2)
    obtain ⟨r0, r1, r2, _, _, _⟩ := hx.all
    refine bodyPost_ret (v := .tuple #[.agg #[.bool false, .slice (some ⟨s, 0, none⟩) 1 1, .slice (some ⟨g, 0, none⟩) n2 n2], .int .i64 0]) (by simp [results, Tryz.results223, go_sem, r0, r1, r2]) rfl ?_
    rw [unhide HGR]
    have n1 : s ≠ w.heap.size + 2 := by omega
    have n2' : g ≠ w.heap.size + 2 := by omega
    refine cap_res (tab_len _ _) (by omega) (Blk.own ?_ (unhide HL1) (by omega) (by omega)) (by omega) ?_ (fun h => hsg (at_eq h)) ?_ (Nat.le_refl _)
    · exact (((unhide HBS3).other (p := ⟨w.heap.size + 2, 0, none⟩) n1 _).other (p := ⟨w.heap.size + 2, 1, none⟩) n1 _).other (p := ⟨w.heap.size + 2, 2, none⟩) n1 _
    · exact (((unhide HT).blk.other (p := ⟨w.heap.size + 2, 0, none⟩) n2' _).other (p := ⟨w.heap.size + 2, 1, none⟩) n2' _).other (p := ⟨w.heap.size + 2, 2, none⟩) n2' _
    · exact (((unhide HBL).setCell (by simp <;> omega) _).setCell (by simp <;> omega) _).setCell (by simp <;> omega) _

theorem implGrade_any (c fl : Bool) (a1 a2 : Option Addr) (n1 n2 c1 c2 : Nat) (sh dt : List Int) (w : World) (h1 : Row w a1 n1 sh) (h2 : Row w a2 n2 dt) :
    Calls Tryz.prog 223 #[.agg #[.bool c, .slice a1 n1 c1, .slice a2 n2 c2], .bool fl] w (GivesCap w (gradeA c sh dt fl)) := by
  cases hok : arrOk c sh dt with
  | false => rw [grade_bad hok]; exact implGrade_bad c fl a1 a2 n1 n2 c1 c2 sh dt w h1 h2 hok
  | true =>
    by_cases hn : n1 = 1
    · subst hn
      refine implGrade_good c fl a1 a2 n2 c1 c2 sh dt w h1 h2 hok ?_
      have e := arr_parts hok
      have e1 := prodAll_bd sh e.1 sh.length
      rw [List.take_length, prodAll_count sh e.1, e.2] at e1
      have := h2.len
      omega
    · rw [grade_rank hok (by rw [h1.len]; exact hn)]
      exact implGrade_rank c fl a1 a2 n1 n2 c1 c2 sh dt w h1 h2 hok hn

end Go.Proofs.YtgjpchnkodnieaaGreatDoor
namespace Go.Proofs.YtgjpchnkodnieaaGreatDoor
open Go.RowKit

set_option maxHeartbeats 1000000 in
theorem lineOf_any (c : Bool) (v1 : Value) (a2 : Option Addr) (n2 c2 : Nat) (w : World) : Calls Tryz.prog 170 #[.agg #[.bool c, v1, .slice a2 n2 c2]] w fun e w' => ∃ s, e = .returned (.agg #[.bool c, .slice (some ⟨s, 0, none⟩) 1 1, .slice a2 n2 c2]) ∧ w.heap.size ≤ s ∧ Blk w' s [(n2 : Int)] ∧ Below w.heap.size w w' := by
  have hB1 : Box ((w.alloc (.cells #[.bool c, v1, .slice a2 n2 c2] 25)).alloc (.cells #[.bool false, .slice none 0 0, .slice none 0 0] 25)) (w.heap.size + 1) false (.slice none 0 0) (.slice none 0 0) := by
    have := Box.new (w.alloc (.cells #[.bool c, v1, .slice a2 n2 c2] 25)) false (.slice none 0 0) (.slice none 0 0)
    simpa using this
  have HB1 := hide hB1
  clear hB1
  obtain ⟨W, hW⟩ : ∃ W, W = (w.alloc (.cells #[.bool c, v1, .slice a2 n2 c2] 25)).alloc (.cells #[.bool false, .slice none 0 0, .slice none 0 0] 25) := ⟨_, rfl⟩
  have hz : W.heap.size = w.heap.size + 1 + 1 := by rw [hW]; simp
  have HBL : Hid (Below w.heap.size w W) := by rw [hW]; exact ((Below.refl _ w).alloc (Nat.le_refl _) _).alloc (by simp) _
  have HX0 : Hid (Box W w.heap.size c v1 (.slice a2 n2 c2)) := by rw [hW]; exact (Box.new w _ _ _).alloc _
  rw [← hW] at HB1
  go_enter Tryz.func170, Tryz.ntmps170
  go_upto_region 1 with fail
  rw [← hW]
  clear hW
  obtain ⟨p, hp⟩ : ∃ p, p = W.heap.size := ⟨_, rfl⟩
  have hpw : w.heap.size + 1 < p := by omega
  have hblk : Blk (W.alloc (.cells #[.int .i64 (n2 : Nat)] 3)) p [(n2 : Int)] := by rw [hp]; exact World.alloc_heap_new W _
  have HBK := hide hblk
  have hbox := HB1.out.alloc (.cells #[.int .i64 (n2 : Nat)] 3)
  have HBX := hide hbox
  obtain ⟨x0, x1, x2, x3, x4, x5⟩ := HX0.out.all
  obtain ⟨y0, y1, y2, y3, y4, y5⟩ := hbox.all
  have HP := hide hp
  clear hz hp hblk hbox
  go_wp2_with fail
  have hx := HBX.out.sets (c' := c) (u1 := .slice (some ⟨W.heap.size, 0, none⟩) 1 1) (u2 := .slice a2 n2 c2)
  obtain ⟨q0, q1, q2, _, _, _⟩ := hx.all
  refine bodyPost_ret (v := .agg #[.bool c, .slice (some ⟨W.heap.size, 0, none⟩) 1 1, .slice a2 n2 c2]) (by simp [results, Tryz.results170, go_sem, q0, q1, q2]) rfl ?_
  rw [← HP.out]
  exact ⟨p, rfl, by omega, ((HBK.out.other (p := ⟨w.heap.size + 1, 0, none⟩) (by show p ≠ w.heap.size + 1; omega) _).other (p := ⟨w.heap.size + 1, 1, none⟩) (by show p ≠ w.heap.size + 1; omega) _).other (p := ⟨w.heap.size + 1, 2, none⟩) (by show p ≠ w.heap.size + 1; omega) _, (((HBL.out.alloc (by rw [← HP.out]; omega) _).setCell (p := ⟨w.heap.size + 1, 0, none⟩) (by simp) _).setCell (p := ⟨w.heap.size + 1, 1, none⟩) (by simp) _).setCell (p := ⟨w.heap.size + 1, 2, none⟩) (by simp) _⟩

end Go.Proofs.YtgjpchnkodnieaaGreatDoor
namespace Go.Proofs.YtgjpchnkodnieaaGreatDoor
open Go.RowKit

/-- A function that hands out N rounds, each with its number and a value of which H says what lies there, and that keeps cells of its own from one round to the next. T: the blocks that a round may change. -/
def SeqCells (m : Nat) (P : Program) (g : Nat) (lb : Array Value) (N : Nat) (H : Nat → Value → World → Prop) (T : Nat → Prop) (w0 : World) : Prop :=
  ∀ (l : Nat) (J : Nat → World → Prop) (W : World), Below w0.heap.size w0 W → w0.heap.size + 2 ≤ W.heap.size → (∀ k, T k → k < W.heap.size) → (∀ k A B, J k A → Below W.heap.size A B → J k B) →
    (∀ k v W1, k < N → J k W1 → H k v W1 → YieldAt Fence.wide (m - 1) P l #[.int .i64 (k : Nat), v] W1 fun e W' => e = .returned (.bool true) ∧ J (k + 1) W' ∧ But T W1 W') →
    J 0 W → CallsIn Fence.wide m P g (#[.func (.yield l) #[] #[]] ++ lb) W fun e W' => (∃ v, e = .returned v) ∧ J N W'

/-- How a round's body is left: off its end, with what it wrote in S alone. -/
def roundEnd (S : Nat → Prop) (I : World → Prop) (W : World) : Exit → Act → World → Prop
  | .normal, _, W' => But S W W' ∧ I W'
  | _, _, _ => False

theorem But.putObj {S : Nat → Prop} (W : World) {l : Nat} (hl : S l) (o : Obj) : But S W (W.putObj l o) :=
  ⟨rfl, rfl, rfl, by simp, fun k _ hn => World.putObj_heap_other (fun e => hn (e ▸ hl))⟩

theorem below_putObj {B : Nat} (W : World) {l : Nat} (hl : B ≤ l) (o : Obj) : Below B W (W.putObj l o) :=
  ⟨rfl, rfl, rfl, by simp, fun k hk => World.putObj_heap_other (by omega)⟩

/-- A range over such a function whose body never leaves it. -/
theorem range_cells {P : Program} {m N : Nat} {g : Operand} {ps : Array Tmp} {assign body : Code} {Q : Exit → Act → World → Prop} {a : Act} {w : World}
    {gf : Nat} {lb : Array Value} (hg : a.eval g = .func (.func gf) #[] lb) (eg : ∀ args w, (callFunc gf args).run P w = .ok (.enter gf args) w) (hps : ps.size = 2)
    {H : Nat → Value → World → Prop} (S : Nat → Prop) (hS : ∀ k, S k → k < w.heap.size) (hseq : SeqCells (m - 1) P gf lb N H (fun k => S k ∨ k = w.heap.size + 1) w)
    (hH : ∀ k v A o, H k v A → w.heap.size + 1 < A.heap.size → H k v (A.putObj (w.heap.size + 1) o))
    (I : Nat → World → Prop) (hI : ∀ k A B, I k A → Below w.heap.size A B → I k B) (h0 : I 0 w) (a₁ : Nat → Value → Act)
    (hassign : ∀ (l k : Nat) (v : Value) (W : World) (K : Act → World → Prop), K (a₁ k v) W →
      assign.wpIn (Fence.wide.inRound l) (m - 1 - 1) P (Exit.then K (fun _ _ _ => False)) { tmps := (ps.zip #[.int .i64 (k : Nat), v]).foldl (fun t (p, v) => t.setIfInBounds p v) a.tmps, defers := [] } W)
    (hbody : ∀ (l k : Nat) (v : Value) (W : World), k < N → I k W → H k v W → w.heap.size ≤ W.heap.size → body.wpIn (Fence.wide.inRound l) (m - 1 - 1) P (roundEnd S (I (k + 1)) W) (a₁ k v) W)
    (hdone : ∀ (D : Nat) (W : World), w.heap.size ≤ D → I N W → W.heap[D]? = some (.deferred (some [])) → Q .normal { a with defers := { target := .collected D, args := #[] } :: a.defers } W) :
    (Code.rangeFunc g ps assign body).wpIn Fence.wide m P Q a w := by
  refine wpIn_rangeFunc ?_
  intro fn hfn
  obtain ⟨rec, hrec⟩ : ∃ rec : LoopState → Loop, rec = fun st => { state := st, pending := none, fn, tmps := a.tmps, params := ps, assign, body, defers := w.heap.size } := ⟨_, rfl⟩
  obtain ⟨W1, hW1⟩ : ∃ W1, (w.alloc (.deferred (some []))).alloc (.loop (rec .ready)) = W1 := ⟨_, rfl⟩
  have hL1 : W1.heap[w.heap.size + 1]? = some (.loop (rec .ready)) := by
    rw [← hW1]; have := World.alloc_heap_new (w.alloc (.deferred (some []))) (.loop (rec .ready)); rwa [World.size_alloc] at this
  have hK1 : W1.heap[w.heap.size]? = some (.deferred (some [])) := by rw [← hW1]; exact (Below.heap_alloc _ _ _ (by simp)).trans (World.alloc_heap_new w _)
  have hb1 : Below w.heap.size w W1 := by rw [← hW1]; exact ((Below.refl _ w).alloc (Nat.le_refl _) _).alloc (by simp) _
  have hz1 : W1.heap.size = w.heap.size + 2 := by rw [← hW1]; simp
  refine ⟨w.heap.size + 1, [{ target := .collected w.heap.size, args := #[] }], W1, { target := .fn (.func gf) lb, args := #[.func (.yield (w.heap.size + 1)) #[] #[]] }, W1, gf,
    #[.func (.yield (w.heap.size + 1)) #[] #[]] ++ lb, W1, ?_, ?_, ?_, ?_, ?_, ?_⟩
  · rw [← hW1, hrec]; exact run_enterLoop_outer _ _ _ _ _
  · simp only [resolve, hg]; simp [go_sem]
  · intro _ _; exact trivial
  · simp [invoke, go_sem, eg]
  · intro h; simp [Fence.wide] at h
  · refine (hseq (w.heap.size + 1) (fun k W => I k W ∧ W.heap[w.heap.size + 1]? = some (.loop (rec .ready)) ∧ W.heap[w.heap.size]? = some (.deferred (some []))) W1 hb1 (by omega)
      (by rintro k (h | rfl); exact Nat.lt_of_lt_of_le (hS k h) (by omega); omega) ?_ ?_ ⟨hI _ _ _ h0 hb1, hL1, hK1⟩).mono ?_
    · rintro k A B ⟨i, l, d⟩ hb
      rw [hz1] at hb
      exact ⟨hI _ _ _ i (hb.mono (by omega)), (hb.block _ (by omega)).trans l, (hb.block _ (by omega)).trans d⟩
    · rintro k v W hk ⟨hi, hl, hd⟩ hh
      have hlt : w.heap.size + 1 < W.heap.size := (Array.getElem?_eq_some_iff.1 hl).1
      have hy := run_yield (P := P) (args := #[.int .i64 (k : Nat), v]) hl (by rw [hrec]; simp [hps])
      rw [hrec] at hy
      refine ⟨fn, _, assign, body, hy, roundIn_of_wpIn hfn (hassign _ k v W _ ⟨_, run_beginRound hl (by rw [hrec]), ?_⟩)⟩
      refine wpIn_mono (hbody _ k v _ hk (hI _ _ _ hi (below_putObj W (by omega) _)) (hH _ _ _ _ hh hlt) (by simp; omega)) ?_
      rintro e a3 W3 hp
      cases e with
      | normal =>
        obtain ⟨hbut, hi3⟩ := hp
        have hne : ¬ S (w.heap.size + 1) := fun h => by have := hS _ h; omega
        have hnd : ¬ S w.heap.size := fun h => by have := hS _ h; omega
        have hl3 := (hbut.block (w.heap.size + 1) (by simpa using hlt) hne).trans (World.putObj_heap_same hlt)
        have hd3 := (hbut.block w.heap.size (by simp; omega) hnd).trans ((World.putObj_heap_other (by omega)).trans hd)
        have hr := run_endRound (P := P) none hl3
        have hlt3 : w.heap.size + 1 < W3.heap.size := (Array.getElem?_eq_some_iff.1 hl3).1
        refine ⟨_, _, hr, rfl, ⟨hI _ _ _ hi3 (below_putObj W3 (by omega) _), ?_, (World.putObj_heap_other (by omega)).trans hd3⟩, ?_⟩
        · rw [World.putObj_heap_same hlt3, hrec]; rfl
        · exact (((But.putObj (S := fun k => S k ∨ k = w.heap.size + 1) W (.inr rfl) _).trans (hbut.mono (T := fun k => S k ∨ k = w.heap.size + 1) (fun k hk => Or.inl hk))).trans (But.putObj (S := fun k => S k ∨ k = w.heap.size + 1) W3 (.inr rfl) _)).mono (by rintro k ((h | h) | h) <;> exact h)
      | ret => exact hp.elim
      | exit id => exact hp.elim
      | goto t => exact hp.elim
      | panic ch => exact hp.elim
      | outgrown => exact hp.elim
    · rintro e W2 ⟨⟨v, rfl⟩, hi, hl, hd⟩
      refine ⟨none, _, by have := run_endLoop (P := P) hl (by rw [hrec]; simp); rw [hrec] at this; exact this, hdone w.heap.size _ (Nat.le_refl _) (hI _ _ _ hi (below_putObj W2 (by omega) _)) ((World.putObj_heap_other (by omega)).trans hd)⟩

end Go.Proofs.YtgjpchnkodnieaaGreatDoor

namespace Go.Proofs.YtgjpchnkodnieaaGreatDoor
open Go.RowKit

theorem But.drewN {S : Nat → Prop} {w w' : World} (h : But S w w') (q : Nat) : But S w (w'.drewN q) := ⟨h.os, h.tape, h.output, h.size, h.block⟩

set_option maxRecDepth 20000 in
set_option maxHeartbeats 2000000 in
theorem advance_any (g : Nat) (sa : Option Addr) (n c1 c2 : Nat) (sh : List Int) (p : Int) (w : World) (h : Blk w g (digits sh p)) (hr : Row w sa n sh) (hne : ¬ At sa n g) (hf : Full sh) (hs : ShapeIn sh) :
    Calls Tryz.prog 229 #[.slice (some ⟨g, 0, none⟩) n c1, .slice sa n c2] w fun e w' => (∃ v, e = .returned v) ∧ Blk w' g (digits sh (p + 1)) ∧ But (fun k => k = g) w w' := by
  have hl := hr.len
  have hsm := hr.small
  have H0 : Hid (Blk w g (mid sh p 0)) := by show Blk _ _ _; rw [mid_zero]; exact h
  have HR := hide hr
  have HF := hide hf
  have HS := hide hs
  have HNE := hide hne
  have HC0 := hide (carry_zero sh p)
  have HL := hide hl
  clear h hr hf hs hne
  go_enter Tryz.func229, Tryz.ntmps229
  go_wp2_with fail
  go_loopw [4] (fun i wr => ∃ j : Nat, j ≤ n ∧ i = .int .i64 ((n : Int) - 1 - (j : Nat)) ∧ Hid (Carry sh p j) ∧ Hid (Blk wr g (mid sh p j)) ∧ Hid (But (fun k => k = g) w wr)) (fun i _ => (intOf i + 1).toNat)
  case atStart => exact ⟨0, Nat.zero_le _, by simp, HC0, H0, hide (But.refl _ _)⟩
  case round =>
    obtain ⟨j, hj, rfl, hc, hb, hbut⟩ := hrel
    clear H0 HC0
    by_cases hlt : j < n
    · obtain ⟨i, hi⟩ : ∃ i : Nat, i = n - 1 - j := ⟨_, rfl⟩
      have e1 : (n : Int) - 1 - (j : Nat) = (i : Nat) := by omega
      rw [e1]
      obtain ⟨d, hd⟩ : ∃ d, d = digit sh p i := ⟨_, rfl⟩
      obtain ⟨s, hs'⟩ : ∃ s, s = sh.getD i 0 := ⟨_, rfl⟩
      have hin : i < n := by omega
      have hrow := (hbut.out.row HR.out (by rintro k rfl; exact HNE.out))
      obtain ⟨b, off, rfl, hblt, hcs⟩ := hrow.get hin
      have hbg : b ≠ g := fun e => HNE.out ⟨by omega, _, rfl, e⟩
      rw [← hs'] at hcs
      have hgi : sh.length - 1 - j = i := by omega
      have hcd := hb.out.cell (i := i) (by rw [mid_len]; omega)
      have hmg := mid_get sh p j (by omega)
      rw [hgi, ← hd] at hmg
      rw [hmg] at hcd
      have hfr := hb.out.free i
      have hdb : 0 ≤ d ∧ d < s := by
        have hs0 := HF.out i (by omega)
        rw [hd, hs']
        unfold digit
        exact ⟨Int.emod_nonneg _ (by omega), Int.emod_lt_of_pos _ hs0⟩
      have hsb : s ≤ 10000 := by rw [hs']; exact (HS.out.cell i).2
      have hw1 : IntKind.i64.wrap (d + 1) = d + 1 := by rw [IntKind.wrap_i64]; omega
      have HD := hide hd
      have HSS := hide hs'
      have HI := hide hi
      have HGI := hide hgi
      clear hd hs' hi hgi hmg hrow e1
      have hc2 : (wr.setCell ⟨g, i, none⟩ (.int .i64 (d + 1))).cell? ⟨g, i, none⟩ = some (.int .i64 (d + 1)) := World.cell?_setCell_same' _ _ _ (by rw [hcd]; rfl)
      have hc3 : (wr.setCell ⟨g, i, none⟩ (.int .i64 (d + 1))).cell? ⟨b, off + i, none⟩ = some (.int .i64 s) := (World.cell?_setCell_other _ _ _ _ (by simp <;> omega)).trans hcs
      have hf2 : (wr.setCell ⟨g, i, none⟩ (.int .i64 (d + 1))).frozen? ⟨g, i, none⟩ = false := by rw [World.frozen?_setCell]; exact hfr
      by_cases hd1 : d + 1 < s
      · go_upto_region 4 with fail
        go_quiet (fail)
        go_wp2_with fail
        refine bodyPost_ret (results_none rfl _ _ _) rfl ?_
        refine ⟨⟨_, rfl⟩, ?_, ?_⟩
        · have e := hb.out.set i (d + 1)
          have e2 := carry_stop HF.out hc.out (by omega) (by rw [HGI.out, ← HD.out, ← HSS.out]; exact hd1)
          rw [HGI.out, ← HD.out] at e2
          rw [e2] at e
          exact e
        · exact (hbut.out.setCell (p := ⟨g, i, none⟩) rfl _).drewN _
      · go_upto_region 4 with fail
        go_quiet (fail)
        go_wp2_with fail
        go_roundw
        case rel =>
          refine ⟨j + 1, by omega, by rw [HI.out]; go_num, hide (carry_step HF.out hc.out (by omega) (by rw [HGI.out, ← HD.out, ← HSS.out]; exact hd1)), ?_, hide (((hbut.out.setCell (p := ⟨g, i, none⟩) rfl _).drewN _).setCell (p := ⟨g, i, none⟩) rfl _)⟩
          have e2 := mid_step sh p j (by omega)
          rw [HGI.out] at e2
          have e3 : mid sh p (j + 1) = ((mid sh p j).set i (d + 1)).set i 0 := by rw [List.set_set, e2]
          show Blk _ _ _
          rw [e3]
          exact Blk.set (hb.out.set i (d + 1)) i 0
        case measure => simp [intOf]
    · have : j = n := by omega
      subst this
      have e1 : (j : Int) - 1 - (j : Nat) = -1 := by omega
      rw [e1]
      go_wp2_with fail
      go_end0
      refine ⟨⟨_, rfl⟩, ?_, hbut.out⟩
      have e := hb.out
      rw [carry_end hc.out (by rw [HL.out]; exact Nat.le_refl _)] at e
      exact e

end Go.Proofs.YtgjpchnkodnieaaGreatDoor
namespace Go.Proofs.YtgjpchnkodnieaaGreatDoor
open Go.RowKit Go.Shelf

attribute [local go_sem] Oper.semAt_some

/-- What a round is handed: the index of its number, in a block from lo on. -/
def ixAt (n : Nat) (sh : List Int) (lo : Nat) (k : Nat) (v : Value) (W : World) : Prop := ∃ g, lo ≤ g ∧ v = .slice (some ⟨g, 0, none⟩) n n ∧ Blk W g (digits sh k)

theorem indexesIn_any (sa : Option Addr) (n cap : Nat) (w : World) : Calls Tryz.prog 150 #[.slice sa n cap] w fun e w' => e = .returned (.func (.func 228) #[] #[.pointer (some ⟨w.heap.size, 0, none⟩)]) ∧ w' = w.alloc (.cells #[.slice sa n cap] 23) := by
  go_enter Tryz.func150, Tryz.ntmps150
  go_wp2
  go_ret
  exact ⟨rfl, rfl⟩

theorem cellsOf_n (a : Option Addr) (n cap : Nat) (sh : List Int) (w : World) (h : Row w a n sh) (hin : ShapeIn sh) (N : Nat) (hr : Hid (prodAll sh = (N : Int))) : Calls Tryz.prog 116 #[.slice a n cap] w fun e w' => e = .returned (.int .i64 (N : Int)) ∧ w' = w := by
  rw [← hr.out]
  exact cellsOf_any a n cap sh w h (fun k => (hin.take k).bd)

set_option maxRecDepth 100000 in
set_option maxHeartbeats 2000000 in
theorem indexesIn1_seq (m Bn : Nat) (sa : Option Addr) (n cap : Nat) (sh : List Int) (w0 : World) (N : Nat) (T : Nat → Prop) (hBox : w0.cell? ⟨Bn, 0, none⟩ = some (.slice sa n cap)) (hBn : Bn < w0.heap.size) (hr : Row w0 sa n sh) (h5 : n ≤ 5) (hs : ShapeIn sh) (hN : prodAll sh = (N : Int)) (hT1 : ¬ T Bn) (hT2 : ∀ k, T k → ¬ At sa n k) :
    SeqCells m Tryz.prog 228 #[.pointer (some ⟨Bn, 0, none⟩)] N (ixAt n sh (w0.heap.size + 2)) T w0 := by
  intro l J W hW hz hTl hJ hY h0
  have hl := hr.len
  have hsm := hr.small
  have hNb : N ≤ 10000 := by have := hs.bd; omega
  have hBW : Bn < W.heap.size := by omega
  have hRW : Row W sa n sh := hr.below (Nat.le_refl _) hW
  have hbox := (hW.cell (p := ⟨Bn, 0, none⟩) hBn).trans hBox
  have hbox2 : (W.alloc (.cells (madeCells #[.int .i64 0] n) 3)).cell? ⟨Bn, 0, none⟩ = some (.slice sa n cap) := (((Below.refl _ W).alloc (Nat.le_refl _) _).cell (p := ⟨Bn, 0, none⟩) hBW).trans hbox
  have hmk := run_make_row' (P := Tryz.prog) 23 3 (.int .i64 0) 8 Tryz.underlying23 info_int rfl .i64 .i64 n (by omega) (by omega)
  have HRW := hide hRW
  have HS := hide hs
  have HN := hide hN
  have HY : Hid (∀ k v W1, k < N → J k W1 → ixAt n sh (w0.heap.size + 2) k v W1 → YieldAt Fence.wide (m - 1) Tryz.prog l #[.int .i64 (k : Nat), v] W1 fun e W' => e = .returned (.bool true) ∧ J (k + 1) W' ∧ But T W1 W') := hY
  have HJ : Hid (∀ k A B, J k A → Below W.heap.size A B → J k B) := hJ
  have HTL : Hid (∀ k, T k → k < W.heap.size) := hTl
  have HT1 := hide hT1
  have HT2 : Hid (∀ k, T k → ¬ At sa n k) := hT2
  have H0 := hide h0
  have HL := hide hl
  clear hRW hs hN hY hJ hTl hT1 hT2 h0 hl hr hBox hW
  refine callsIn_of_wp Tryz.func228 rfl trivial ?_ rfl
  simp only [Tryz.ntmps228, List.size_toArray, List.length_cons, List.length_nil, Nat.reduceAdd, Nat.reduceSub, Array.replicate_succ, Array.replicate_zero, List.push_toArray, List.append_toArray, List.nil_append, List.cons_append]
  gi_wp2_with (refine ⟨trivial, fun h => (by simp [Fence.wide] at h), ?_⟩; gi_at_call 116; refine (callsIn_wide.2 (cellsOf_n _ _ _ sh _ ((unhide HRW).alloc _) (unhide HS) N HN)).mono ?_; rintro e w1 ⟨rfl, rfl⟩)
  gi_loopw [10] (fun i wr => ∃ k : Nat, k ≤ N ∧ i = .int .i64 (k : Nat) ∧ Hid (J k wr) ∧ Hid (Blk wr W.heap.size (digits sh k)) ∧ Hid (But T W wr)) (fun i _ => N - (intOf i).toNat)
  case atStart =>
    refine ⟨0, Nat.zero_le _, rfl, hide (HJ.out _ _ _ H0.out ((Below.refl _ _).alloc (Nat.le_refl _) _)), ?_, hide ((But.refl _ _).alloc _)⟩
    show Blk _ _ _
    rw [show ((0 : Nat) : Int) = 0 from rfl, digits_zero, HL.out]
    exact Blk.made _ _ _ rfl
  case round =>
    obtain ⟨k, hk, rfl, hj, hb, hbut⟩ := hrel
    clear hbox2 hmk H0
    by_cases hlt : k < N
    · have HF : Hid (Full sh) := full_of HS.out (by rw [HN.out]; omega)
      obtain ⟨fn, tmps, assign, body, hy, hR⟩ := HY.out k _ wr hlt hj.out ⟨W.heap.size, hz, rfl, hb.out⟩
      gi_wp2
      refine ⟨fun h => (by simp [Fence.wide] at h), hR.mono ?_⟩
      rintro e W3 ⟨rfl, hJ3, hbut3⟩
      have hbt : But T W W3 := (hbut.out.trans hbut3).mono (by rintro x (h | h) <;> exact h)
      have hb3 : Blk W3 W.heap.size (digits sh k) := (hbut3.block _ hb.out.lt (fun h => by have := HTL.out _ h; omega)).trans hb.out
      have hr3 := hide (hbt.row HRW.out HT2.out)
      have hx3 : W3.cell? ⟨Bn, 0, none⟩ = some (.slice sa n cap) := (hbt.cellAt hBW HT1.out).trans hbox
      have HBT := hide hbt
      have HB3 := hide hb3
      have HJ3 := hide hJ3
      have hgs : ¬ At sa n W.heap.size := fun h => by have := HRW.out.hi h; omega
      clear hR hy hb3 hbt hbut3 hJ3 hj hb hbut
      gi_wp2_with (refine ⟨trivial, fun h => (by simp [Fence.wide] at h), ?_⟩; gi_at_call 229; refine (callsIn_wide.2 (advance_any _ _ _ _ _ sh k _ HB3.out hr3.out hgs HF.out HS.out)).mono ?_; rintro e w4 ⟨⟨v, rfl⟩, hb4, hbut4⟩)
      go_roundw
      case rel =>
        refine ⟨k + 1, by omega, by go_num, hide (HJ.out _ _ _ HJ3.out (hbut4.below HBT.out.size (by rintro x rfl; exact Nat.le_refl _))), ?_, ?_⟩
        · show Blk _ _ _
          rw [show ((k + 1 : Nat) : Int) = (k : Int) + 1 by omega]
          exact hb4
        · exact hide ⟨hbut4.os.trans HBT.out.os, hbut4.tape.trans HBT.out.tape, hbut4.output.trans HBT.out.output, Nat.le_trans HBT.out.size hbut4.size, fun x hx hn => (hbut4.block x (Nat.lt_of_lt_of_le hx HBT.out.size) (by omega)).trans (HBT.out.block x hx hn)⟩
      case measure => simp [intOf]; go_num
    · have : k = N := by omega
      subst this
      gi_wp2
      go_end0
      exact ⟨⟨_, rfl⟩, hj.out⟩

end Go.Proofs.YtgjpchnkodnieaaGreatDoor
namespace Go.Proofs.YtgjpchnkodnieaaGreatDoor
open Go.RowKit

/-- The function value (g, lb) gives of each index D of the shape zs at each axis below r what f says, in whatever world holds what lay in w. -/
def NumOk (g : Nat) (lb : Array Value) (f : List Int → Nat → Int) (zs : List Int) (r : Nat) (w : World) : Prop :=
  ∀ D, IxIn zs D → D.length = zs.length → ∀ k, k < r → ∀ (ib : Nat) W, Below w.heap.size w W → Blk W ib D → Calls Tryz.prog g (#[.slice (some ⟨ib, 0, none⟩) zs.length zs.length, .int .i64 (k : Nat)] ++ lb) W fun e w' => e = .returned (.int .i64 (f D k)) ∧ Below W.heap.size W w'

theorem NumOk.low {g : Nat} {lb : Array Value} {f : List Int → Nat → Int} {zs : List Int} {r : Nat} {w w1 : World} (h : NumOk g lb f zs r w) (hb : Below w.heap.size w w1) : NumOk g lb f zs r w1 :=
  fun D h1 h2 k hk ib W hW hB => h D h1 h2 k hk ib W (hb.trans (hW.mono hb.size)) hB

set_option maxRecDepth 20000 in
set_option maxHeartbeats 2000000 in
theorem placeIn_any (g : Nat) (lb : Array Value) (eg : ∀ args w, (callFunc g args).run Tryz.prog w = .ok (.enter g args) w) (f : List Int → Nat → Int) (zs D sh : List Int) (sa : Option Addr) (n cap ib : Nat) (w : World)
    (hr : Row w sa n sh) (hN : NumOk g lb f zs n w) (hD : IxIn zs D) (hDl : D.length = zs.length) (hb : Blk w ib D) (hs : ShapeIn sh) (r : Bool) (hres : Hid (insideN sh (meant sh f D) sh.length = r)) (p : Int) (hp : Hid ((if r then place sh (meant sh f D) else 0) = p)) :
    Calls Tryz.prog 151 #[.slice sa n cap, .slice (some ⟨ib, 0, none⟩) zs.length zs.length, .func (.func g) #[] lb] w fun e w' => e = .returned (.tuple #[.int .i64 p, .bool r]) ∧ Below w.heap.size w w' := by
  have hl := hr.len
  have hsm := hr.small
  obtain ⟨zl, hzl⟩ : ∃ zl, zs.length = zl := ⟨_, rfl⟩
  have HNUM : Hid (∀ k, k < n → ∀ W, Below w.heap.size w W → Calls Tryz.prog g (#[.slice (some ⟨ib, 0, none⟩) zl zl, .int .i64 (k : Nat)] ++ lb) W fun e w' => e = .returned (.int .i64 (f D k)) ∧ Below W.heap.size W w') := fun k hk W hW => by
    have := hN D hD hDl k hk ib W hW (hb.below (Nat.le_refl _) hW)
    rwa [hzl] at this
  rw [hzl]
  clear hN hD hDl hb hzl
  obtain ⟨M, hM⟩ : ∃ M, M = meant sh f D := ⟨_, rfl⟩
  have HMG : Hid (∀ k, k < n → M.getD k 0 = f D k) := fun k hk => by rw [hM]; exact meant_get sh f D k (by omega)
  rw [← hM] at hres hp
  have HR := hide hr
  have HS := hide hs
  have HL := hide hl
  clear hr hs hM
  go_enter Tryz.func151, Tryz.ntmps151
  go_wp2_with fail
  go_loopw [8, 14] (fun q i wr => ∃ k : Nat, k ≤ n ∧ i = .int .i64 (k : Nat) ∧ q = .int .i64 (placeN sh M k) ∧ Hid (insideN sh M k = true) ∧ Hid (Below w.heap.size w wr)) (fun _ i _ => n - (intOf i).toNat)
  case atStart => exact ⟨0, Nat.zero_le _, rfl, rfl, rfl, hide (Below.refl _ _)⟩
  case round =>
    obtain ⟨k, hk, rfl, rfl, hin, hbl⟩ := hrel
    by_cases hlt : k < n
    · obtain ⟨s, hs'⟩ : ∃ s, s = sh.getD k 0 := ⟨_, rfl⟩
      obtain ⟨v, hv⟩ : ∃ v, v = f D k := ⟨_, rfl⟩
      obtain ⟨q, hq⟩ : ∃ q, q = placeN sh M k := ⟨_, rfl⟩
      obtain ⟨b, off, rfl, hblt, hcs⟩ := (HR.out.below (Nat.le_refl _) hbl.out).get hlt
      have hcall := HNUM.out k hlt wr hbl.out
      rw [← hv] at hcall
      rw [← hs'] at hcs
      have hmv : M.getD k 0 = v := by rw [HMG.out k hlt, hv]
      have hsb : 0 ≤ s ∧ s ≤ 10000 := by rw [hs']; exact HS.out.cell k
      have hw1 : IntKind.i64.wrap (s - 1) = s - 1 := by rw [IntKind.wrap_i64]; omega
      by_cases hvi : 0 ≤ v ∧ v < s
      · have hin1 : insideN sh M (k + 1) = true := inside_step hin.out (by omega) (by rw [hmv, ← hs']; omega)
        have hpn : placeN sh M (k + 1) = q * s + v := by show placeN sh M k * _ + _ = _; rw [← hq, ← hs', hmv]
        have hbd := placeN_bd' (k + 1) hin1 (by rw [HL.out]; omega)
        have hpb := (HS.out.take (k + 1)).bd
        have hq0 : 0 ≤ q := by
          rcases placeN_bd' k hin.out (by rw [HL.out]; omega) with h | h
          · rw [hq]; exact h.1
          · subst h; rw [hq]; exact Int.le_refl _
        have hqs : 0 ≤ q * s := Int.mul_nonneg hq0 hsb.1
        have hw2 : IntKind.i64.wrap (q * s) = q * s := by rw [IntKind.wrap_i64]; rw [hpn] at hbd; omega
        have hw3 : IntKind.i64.wrap (q * s + v) = q * s + v := by rw [IntKind.wrap_i64]; rw [hpn] at hbd; omega
        have HWI : Hid (withinB v 0 (s - 1) = true) := decide_eq_true ⟨hvi.1, by omega⟩
        obtain ⟨t, ht⟩ : ∃ t, t = q * s := ⟨_, rfl⟩
        rw [← ht] at hw2 hw3 hpn
        have HPN := hide hpn
        have HQ := hide hq
        have HIN1 := hide hin1
        have ht2 : q * s = t := ht.symm
        rw [← hq]
        clear hbd hpb hqs hin1 hpn hq hs' hv hmv ht hin hvi hsb hq0 HS HMG
        go_wp2_with (first | (go_at_fn g; refine hcall.mono ?_; rintro e w2 ⟨rfl, hb2⟩; have HL2 := hide (hbl.out.trans (hb2.mono hbl.out.size)); clear hb2) | (go_at_call 50; refine (isWithin_eq _ _ _ _ true HWI).mono ?_; rintro e w' ⟨rfl, rfl⟩))
        go_roundw
        case rel => exact ⟨k + 1, by omega, by go_num, by rw [HPN.out], HIN1, HL2⟩
        case measure => simp [intOf]; omega
      · have hno : insideN sh M sh.length = false := inside_not (by rw [HL.out]; exact hlt) (by rw [hmv, ← hs']; exact hvi)
        obtain rfl : r = false := by rw [← hres.out, hno]
        obtain rfl : p = 0 := by rw [← hp.out]; rfl
        have HWI : Hid (withinB v 0 (s - 1) = false) := decide_eq_false (by omega)
        obtain ⟨q', hq'⟩ : ∃ q', q' = placeN sh M k := ⟨_, rfl⟩
        rw [← hq']
        clear hno hmv hs' hv hvi hsb hres hp hin HS HMG hq hq'
        go_wp2_with (first | (go_at_fn g; refine hcall.mono ?_; rintro e w2 ⟨rfl, hb2⟩; have HL2 := hide (hbl.out.trans (hb2.mono hbl.out.size)); clear hb2) | (go_at_call 50; refine (isWithin_eq _ _ _ _ false HWI).mono ?_; rintro e w' ⟨rfl, rfl⟩))
        go_ret2
        exact ⟨rfl, HL2.out⟩
    · have : k = n := by omega
      subst this
      have hfin : insideN sh M sh.length = true := by rw [HL.out]; exact hin.out
      obtain rfl : r = true := by rw [← hres.out, hfin]
      have hpp : placeN sh M k = p := by rw [← hp.out, if_pos rfl]; unfold place; rw [HL.out]
      rw [hpp]
      clear hfin hpp
      go_wp2
      go_ret2
      exact ⟨rfl, hbl.out⟩

end Go.Proofs.YtgjpchnkodnieaaGreatDoor
namespace Go.Proofs.YtgjpchnkodnieaaGreatDoor
open Go.RowKit

set_option maxHeartbeats 1000000 in
theorem Mul64_one (n : Nat) (hn : n ≤ 10000) (w : World) : Calls Tryz.prog 276 #[.int .u64 1, .int .u64 (n : Nat)] w fun e w' => e = .returned (.tuple #[.int .u64 0, .int .u64 (n : Nat)]) ∧ w' = w := by
  have hA : bits .and .u64 (n : Int) 4294967295 = (n : Int) := by
    have h := bits_and_u64_nat n 4294967295 (by omega) (by omega)
    rw [show n &&& 4294967295 = n % 4294967296 from Nat.and_two_pow_sub_one_eq_mod n 32, Nat.mod_eq_of_lt (by omega)] at h
    exact h
  have h1 : bits .and .u64 1 4294967295 = 1 := by decide
  have h0 : bits .and .u64 0 4294967295 = 0 := by decide
  have hD : (n : Int) / 4294967296 = 0 := by omega
  go_enter Tryz.func276, Tryz.ntmps276
  go_wp2
  go_ret2
  exact ⟨by simp, rfl⟩

theorem Mul_one (n : Nat) (hn : n ≤ 10000) (w : World) : Calls Tryz.prog 227 #[.int .u64 1, .int .u64 (n : Nat)] w fun e w' => e = .returned (.tuple #[.int .u64 0, .int .u64 (n : Nat)]) ∧ w' = w := by
  go_enter Tryz.func227, Tryz.ntmps227
  go_wp2_with (go_at_call 276; refine (Mul64_one n hn _).mono ?_; rintro e w1 ⟨rfl, rfl⟩)
  go_ret2
  exact ⟨rfl, rfl⟩

theorem splice_rep (v : Int) (k m n : Nat) (h : k + m ≤ n) : splice ((List.replicate k v ++ List.replicate (n - k) 0).map (Value.int .i64)) k (List.replicate m (Value.int .i64 v)) = (List.replicate (k + m) v ++ List.replicate (n - (k + m)) 0).map (Value.int .i64) := by
  unfold splice
  simp only [List.map_append, List.map_replicate, List.length_replicate]
  rw [List.take_append_of_le_length (by simp), List.take_of_length_le (by simp), List.drop_append, List.drop_eq_nil_of_le (by simp), List.nil_append, List.length_replicate, List.drop_replicate, ← List.append_assoc, List.replicate_append_replicate]
  rw [show n - k - (k + m - k) = n - (k + m) by omega]

set_option maxRecDepth 20000 in
set_option maxHeartbeats 4000000 in
theorem Repeat_any (a : Addr) (ca n : Nat) (v : Int) (w : World) (h : Row w (some a) 1 [v]) (hn : n ≤ 10000) :
    Calls Tryz.prog 148 #[.slice (some a) 1 ca, .int .i64 (n : Nat)] w fun e w' => e = .returned (.slice (some ⟨w.heap.size, 0, none⟩) n n) ∧ Blk w' w.heap.size (List.replicate n v) ∧ Below w.heap.size w w' := by
  obtain ⟨i0, hi, hz0, hz1, hz2⟩ := info_parts info_int
  have hsz : (Tryz.prog.info? 3).map (·.size) = some 1 := by rw [hi]; simp [hz1]
  obtain ⟨ba, oa, hab, hblt, hc⟩ := h.get (show 0 < 1 by omega)
  cases hab
  have HC : Hid (∀ w1, Below w.heap.size w w1 → w1.cell? ⟨ba, oa, none⟩ = some (.int .i64 v)) := fun w1 hb => (hb.cell (p := ⟨ba, oa, none⟩) hblt).trans (by simpa using hc)
  clear h hc hblt
  obtain ⟨m, hm⟩ : ∃ m, m = Nat.min 1 n := ⟨_, rfl⟩
  have hm1 : m ≤ n := by rw [hm]; exact Nat.min_le_right _ _
  have hm2 : m = 0 → n = 0 := by intro e; rw [hm] at e; exact (Nat.eq_zero_or_pos n).elim id fun h0 => by rw [show Nat.min 1 n = 1 from Nat.min_eq_left h0] at e; cases e
  obtain ⟨cs, hcs⟩ : ∃ cs, cs = List.replicate m (Value.int .i64 v) := ⟨_, rfl⟩
  have hcl : cs.length = m := by rw [hcs]; simp
  have HM := hide hm
  have HCS := hide hcs
  have HM2 := hide hm2
  have HPOS : Hid (∀ w1, Below w.heap.size w w1 → ∀ j x, cs[j]? = some x → w1.cell? ((⟨ba, oa, none⟩ : Addr).add j) = some x) := by
    intro w1 hb j x hx
    have hj : j = 0 ∧ x = .int .i64 v := by
      rw [unhide HCS] at hx
      have hm' : m ≤ 1 := by rw [unhide HM]; exact Nat.min_le_left _ _
      rw [List.getElem?_replicate] at hx
      split at hx
      · exact ⟨by omega, by simpa using hx.symm⟩
      · cases hx
    obtain ⟨rfl, rfl⟩ := hj
    exact unhide HC _ hb
  clear hm hcs hm2
  go_enter Tryz.func148, Tryz.ntmps148
  go_wp2_with (first | (go_at_call 227; go_loud (refine (Mul_one n hn _).mono ?_); rintro e w1 ⟨rfl, hw⟩; obtain rfl := hw.symm) | (at_make; go_loud (refine wpList_make_full _ rfl _ _ 23 rfl w.heap.size 3 i0 (.int .i64 0) 1 Tryz.underlying23 hi hz0 hz1 _ _ _ _ n rfl rfl rfl rfl (by rw [hz2]; omega) (by unfold maxLen; omega) (Nat.le_refl _) ?_); intro w1 hown hgrow; have HBK : Hid (Blk w1 w.heap.size (List.replicate 0 v ++ List.replicate (n - 0) 0)) := Blk.of_owns (n := n) (base := w.heap.size) (by simpa [toList_madeCells_one, Value.cells] using hown); have HBL : Hid (Below w.heap.size w w1) := (Below.refl _ _).grown hgrow (Nat.le_refl _) (by simp); clear hown hgrow) | (refine wpList_copy_splice rfl (.tmp 31) (.tmp 32) 23 23 rfl 3 Tryz.underlying23 hsz _ _ _ _ _ _ rfl rfl w.heap.size 0 _ 3 (unhide HBK) cs (hcl.trans (unhide HM)) (fun _ => ⟨rfl, _, rfl, unhide HPOS _ (unhide HBL)⟩) (by rw [hcl]; simp; omega) (by rw [unhide HCS]; intro x hx; rw [List.eq_of_mem_replicate hx]; rfl) w.heap.size w (unhide HBL) (Nat.le_refl _) ?_; intro w2 hg2 hb2; have HG2 := hide hg2.out; have HL2 := hide hb2; clear hg2 hb2))
  · have HB2 : Hid (Blk w2 w.heap.size (List.replicate m v ++ List.replicate (n - m) 0)) := by
      have e := unhide HG2
      rw [unhide HCS, splice_rep v 0 m n (by omega)] at e
      show Blk _ _ _
      rw [Nat.zero_add] at e
      exact e
    clear HG2 HBK HBL w1 HC HCS HM HPOS hcl cs
    go_loopw [8] (fun i wr => ∃ k : Nat, k ≤ n ∧ (k = 0 → n = 0) ∧ i = .int .i64 k ∧ Hid (Blk wr w.heap.size (List.replicate k v ++ List.replicate (n - k) 0)) ∧ Hid (Below w.heap.size w wr)) (fun i _ => n - (intOf i).toNat)
    case atStart => exact ⟨m, hm1, unhide HM2, rfl, HB2, HL2⟩
    case round =>
      obtain ⟨k, hk, hk0, rfl, hb, hbl⟩ := hrel
      clear HB2 HL2 w2 HM2 hm1
      by_cases hlt : k < n
      · have hk1 : 1 ≤ k := by omega
        obtain ⟨q, hq⟩ : ∃ q, q = Nat.min k (n - k) := ⟨_, rfl⟩
        have hq1 : q ≤ n - k := by rw [hq]; exact Nat.min_le_right _ _
        have hq2 : q ≤ k := by rw [hq]; exact Nat.min_le_left _ _
        have hq3 : 1 ≤ q := by rw [hq]; exact Nat.le_min.mpr ⟨hk1, by omega⟩
        obtain ⟨cs, hcs⟩ : ∃ cs, cs = List.replicate q (Value.int .i64 v) := ⟨_, rfl⟩
        have hcl : cs.length = q := by rw [hcs]; simp
        have HCS := hide hcs
        have HQ := hide hq
        have HPOS : Hid (∀ j x, cs[j]? = some x → wr.drew.cell? ((⟨w.heap.size, 0, none⟩ : Addr).add j) = some x) := by
          intro j x hx
          rw [hcs, List.getElem?_replicate] at hx
          split at hx
          · rename_i hjq
            have hc := (unhide hb).cell (i := j) (by simp; omega)
            have hjk : j < k := by omega
            have hg : (List.replicate k v ++ List.replicate (n - k) 0).getD j 0 = v := by simp [List.getD, List.getElem?_append, hjk]
            rw [hg] at hc
            cases hx
            have ha : (⟨w.heap.size, 0, none⟩ : Addr).add j = ⟨w.heap.size, j, none⟩ := by cases j <;> simp [Addr.add]
            rw [ha]
            simpa using hc
          · cases hx
        clear hcs hq hk0
        go_upto_region 9 with fail
        go_region_held3 (fun _ => True) (first | exact trivial) (first | (refine step_copy_splice rfl (.tmp 41) (.tmp 44) 23 23 rfl 3 Tryz.underlying23 hsz _ _ _ _ _ _ rfl rfl w.heap.size k _ 3 (unhide hb).drew cs (hcl.trans (unhide HQ)) (fun _ => ⟨by first | rfl | rw [if_neg (by omega)], _, rfl, unhide HPOS⟩) (by rw [hcl]; simp; omega) (by rw [unhide HCS]; intro x hx; rw [List.eq_of_mem_replicate hx]; rfl) w.heap.size w (unhide hbl).drew (Nat.le_refl _) ?_; intro w4 hg4 hb4; have HG4 := hide hg4.out; have HL4 := hide hb4; clear hg4 hb4))
        have HB4 : Hid (Blk w4 w.heap.size (List.replicate (k + q) v ++ List.replicate (n - (k + q)) 0)) := by
          have e := unhide HG4
          rw [unhide HCS, splice_rep v k q n (by omega)] at e
          exact e
        clear HG4
        have hkw : IntKind.i64.wrap ((k : Int) + (q : Int)) = ((k + q : Nat) : Int) := by rw [IntKind.wrap_i64]; omega
        go_wp2_with fail
        go_roundw
        case rel => exact ⟨(k + q : Nat), by omega, by omega, by first | rfl | rw [hkw], HB4, HL4⟩
        case measure => (first | rw [hkw] | skip); simp [intOf]; omega
      · have hkn : k = n := by omega
        subst hkn
        go_wp2
        go_ret
        exact ⟨rfl, by simpa using unhide hb, unhide hbl⟩

theorem Repeat_ex (a : Addr) (ca n : Nat) (v : Int) (w : World) (h : Row w (some a) 1 [v]) (hn : n ≤ 10000) :
    Calls Tryz.prog 148 #[.slice (some a) 1 ca, .int .i64 (n : Nat)] w fun e w' => ∃ g, e = .returned (.slice (some ⟨g, 0, none⟩) n n) ∧ Row w' (some ⟨g, 0, none⟩) n (List.replicate n v) ∧ Below w.heap.size w w' := by
  refine (Repeat_any a ca n v w h hn).mono ?_
  rintro e w' ⟨rfl, hb, hl⟩
  exact ⟨_, rfl, hb.row (by simp) (by omega), hl⟩

end Go.Proofs.YtgjpchnkodnieaaGreatDoor
namespace Go.Proofs.YtgjpchnkodnieaaGreatDoor
open Go.RowKit Go.Shelf

attribute [local go_sem] Oper.semAt_some

theorem fillOf_any (c : Bool) (v1 v2 : Value) (w : World) : Calls Tryz.prog 149 #[.agg #[.bool c, v1, v2]] w fun e w' => e = .returned (.int .i64 (fillOf c)) ∧ Below w.heap.size w w' := by
  have hb : Below w.heap.size w (w.alloc (.cells #[.bool c, v1, v2] 25)) := (Below.refl _ w).alloc (Nat.le_refl _) _
  cases c
  · go_enter Tryz.func149, Tryz.ntmps149
    go_wp2
    go_ret
    exact ⟨rfl, hb⟩
  · go_enter Tryz.func149, Tryz.ntmps149
    go_wp2
    go_ret
    exact ⟨rfl, hb⟩

theorem Row.one (w : World) (x : Int) : Row (w.alloc (.cells #[.int .i64 x] 3)) (some ⟨w.heap.size, 0, none⟩) 1 [x] :=
  Blk.row (show Blk _ _ [x] from World.alloc_heap_new w _) rfl (by omega)

set_option maxRecDepth 100000 in
set_option maxHeartbeats 4000000 in
theorem gathered_in (c : Bool) (a1 a2 sa : Option Addr) (n1 n2 c1 c2 n cap : Nat) (sh dt zs : List Int) (g : Nat) (lb : Array Value) (eg : ∀ args w, (callFunc g args).run Tryz.prog w = .ok (.enter g args) w) (f : List Int → Nat → Int) (w : World) (N : Nat)
    (h1 : Row w a1 n1 sh) (h2 : Row w a2 n2 dt) (hz : Row w sa n zs) (hs : ShapeIn sh) (hsz : ShapeIn zs) (h5 : n ≤ 5) (hN : prodAll zs = (N : Int)) (hd : prodAll sh = (n2 : Int)) (hnum : NumOk g lb f zs n1 w) :
    CallsIn Fence.wide 9 Tryz.prog 59 #[.agg #[.bool c, .slice a1 n1 c1, .slice a2 n2 c2], .slice sa n cap, .func (.func g) #[] lb] w fun e w' => ∃ gd, e = .returned (.agg #[.bool c, .slice sa n cap, .slice (some ⟨gd, 0, none⟩) N N]) ∧ w.heap.size ≤ gd ∧ Blk w' gd (vals (gatherAt c sh dt f zs) N) ∧ Below w.heap.size w w' := by
  have hNb : N ≤ 10000 := by have := hsz.bd; omega
  have H1 := hide h1
  have H2 := hide h2
  have HZ := hide hz
  have HS := hide hs
  have HSZ := hide hsz
  have HN := hide hN
  have HD := hide hd
  have HNUM := hide hnum
  clear h1 h2 hz hs hsz hN hd hnum
  refine callsIn_of_wp_marks Tryz.func59 rfl trivial ?_ rfl
  simp only [Tryz.ntmps59, List.size_toArray, List.length_cons, List.length_nil, Nat.reduceAdd, Nat.reduceSub, Array.replicate_succ, Array.replicate_zero, List.push_toArray, List.append_toArray, List.nil_append, List.cons_append]
  obtain ⟨W0, hW0⟩ : ∃ W0, W0 = ((w.alloc (.cells #[.bool c, .slice a1 n1 c1, .slice a2 n2 c2] 25)).alloc (.cells #[.func (.func g) #[] lb] 89)).alloc (.cells #[.bool false, .slice none 0 0, .slice none 0 0] 25) := ⟨_, rfl⟩
  have hz0 : W0.heap.size = w.heap.size + 3 := by rw [hW0]; simp
  have HB0 : Hid (Below w.heap.size w W0) := by rw [hW0]; exact (((Below.refl _ w).alloc (Nat.le_refl _) _).alloc (by simp) _).alloc (by simp; omega) _
  have HX0 : Hid (Box W0 w.heap.size c (.slice a1 n1 c1) (.slice a2 n2 c2)) := by rw [hW0]; exact ((Box.new w _ _ _).alloc _).alloc _
  have HX2 : Hid (Box W0 (w.heap.size + 1 + 1) false (.slice none 0 0) (.slice none 0 0)) := by
    rw [hW0]
    show Box _ _ _ _ _
    have := Box.new ((w.alloc (.cells #[.bool c, .slice a1 n1 c1, .slice a2 n2 c2] 25)).alloc (.cells #[.func (.func g) #[] lb] 89)) false (.slice none 0 0) (.slice none 0 0)
    simpa using this
  have HX1 : Hid (W0.heap[w.heap.size + 1]? = some (.cells #[.func (.func g) #[] lb] 89 (0, 0))) := by
    rw [hW0]
    refine (Below.heap_alloc _ _ _ (by simp)).trans ?_
    have := World.alloc_heap_new (w.alloc (.cells #[.bool c, .slice a1 n1 c1, .slice a2 n2 c2] 25)) (.cells #[.func (.func g) #[] lb] 89)
    simpa using this
  have HW0 := hide hW0
  clear hW0
  gi_wp2_with (first | (refine ⟨trivial, ?_⟩; gi_at_call 149; rw [← HW0.out]; refine (callsIn_wide.2 (fillOf_any _ _ _ _)).mono ?_; rintro e wA ⟨rfl, hbA⟩; have HBA := hide hbA; clear hbA) | (refine ⟨trivial, ?_⟩; gi_at_call 116; refine (callsIn_wide.2 (cellsOf_n _ _ _ zs _ (((HZ.out.below (Nat.le_refl _) HB0.out).below (Nat.le_refl _) HBA.out).alloc _) HSZ.out N HN)).mono ?_; rintro e wB ⟨rfl, hwB⟩; obtain rfl := hwB.symm) | (refine ⟨trivial, ?_⟩; gi_at_call 148; refine (callsIn_wide.2 (Repeat_any ⟨wA.heap.size, 0, none⟩ _ N (fillOf c) _ (Row.one wA _) hNb)).mono ?_; rintro e wR ⟨rfl, hR1, hR2⟩; have HR1 := hide hR1; have HR2 := hide hR2; clear hR1 hR2) | (refine ⟨trivial, ?_⟩; gi_at_call 150; refine (callsIn_wide.2 (indexesIn_any _ _ _ _)).mono ?_; rintro e wI ⟨rfl, hwI⟩; obtain rfl := hwI.symm))
  obtain ⟨p, hp⟩ : ∃ p, p = w.heap.size := ⟨_, rfl⟩
  obtain ⟨gd, hgd⟩ : ∃ gd, gd = wA.heap.size + 1 := ⟨_, rfl⟩
  obtain ⟨pd, hpd⟩ : ∃ pd, pd = wR.heap.size := ⟨_, rfl⟩
  obtain ⟨W, hW⟩ : ∃ W, W = (wR.alloc (.cells #[.slice (some ⟨wA.heap.size + 1, 0, none⟩) N N] 23)).alloc (.cells #[.slice sa n cap] 23) := ⟨_, rfl⟩
  have hzA := HBA.out.size
  have hzR := HR2.out.size
  rw [World.size_alloc] at hzR
  have hBR : Below W0.heap.size W0 wR := (HBA.out.alloc hzA _).trans (HR2.out.mono (by simp; omega))
  have hBW : Below W0.heap.size W0 W := by rw [hW]; exact (hBR.alloc (by omega) _).alloc (by simp; omega) _
  have HBW : Hid (Below p w W) := by rw [hp]; exact HB0.out.trans (hBW.mono (by omega))
  have HY0 : Hid (Box W p c (.slice a1 n1 c1) (.slice a2 n2 c2)) := by rw [hp]; exact HX0.out.low (by omega) hBW
  have HY1 : Hid (W.heap[p + 1]? = some (.cells #[.func (.func g) #[] lb] 89 (0, 0))) := by rw [hp]; exact (hBW.block _ (by omega)).trans HX1.out
  have HY2 : Hid (Box W (p + 1 + 1) false (.slice none 0 0) (.slice none 0 0)) := by rw [hp]; exact HX2.out.low (by omega) hBW
  have HY3 : Hid (W.heap[pd]? = some (.cells #[.slice (some ⟨gd, 0, none⟩) N N] 23 (0, 0))) := by
    rw [hW, hpd, hgd]; exact (Below.heap_alloc _ _ _ (by simp)).trans (World.alloc_heap_new wR _)
  have HY4 : Hid (W.heap[pd + 1]? = some (.cells #[.slice sa n cap] 23 (0, 0))) := by
    rw [hW, hpd]; have := World.alloc_heap_new (wR.alloc (.cells #[.slice (some ⟨wA.heap.size + 1, 0, none⟩) N N] 23)) (.cells #[.slice sa n cap] 23); rwa [World.size_alloc] at this
  have HG : Hid (Blk W gd (halfway c sh dt f zs N 0)) := by
    show Blk _ _ _
    rw [half_zero, hW, hgd]
    have := HR1.out
    rw [World.size_alloc] at this
    exact (this.alloc _).alloc _
  have hzW : W.heap.size = pd + 2 := by rw [hW, hpd]; simp
  have hpg : p + 3 ≤ gd := by omega
  have hgp : gd < pd := by have := HR1.out.lt; rw [World.size_alloc] at this; omega
  have H1W := hide (H1.out.below (by omega) HBW.out)
  have H2W := hide (H2.out.below (by omega) HBW.out)
  have HZW := hide (HZ.out.below (by omega) HBW.out)
  have HPL : Hid ((∀ k, At a1 n1 k → k < p) ∧ (∀ k, At a2 n2 k → k < p) ∧ (∀ k, At sa n k → k < p)) := ⟨fun k h => by rw [hp]; exact H1.out.hi h, fun k h => by rw [hp]; exact H2.out.hi h, fun k h => by rw [hp]; exact HZ.out.hi h⟩
  rw [← hW, ← hp, ← hgd, ← hpd]
  clear hzA hzR hBR hBW HX0 HX1 HX2 HBA HR1 HR2 hW hgd hpd hwB hwI HW0 HB0 hz0 H1 H2 HZ
  have HP := hide hp
  clear hp
  refine range_cells (gf := 228) (lb := #[.pointer (some ⟨pd + 1, 0, none⟩)]) rfl (enters_of Tryz.func228 (by kernel_rfl) rfl) rfl (fun k => k = gd) (by rintro k rfl; omega)
    (indexesIn1_seq _ (pd + 1) sa n cap zs W N _ (by simp [World.cell?, HY4.out]) (by omega) HZW.out h5 HSZ.out HN.out (by omega) (by rintro k (rfl | rfl) h <;> have := HPL.out.2.2 _ h <;> omega))
    (by rintro k v A o ⟨ib, hlo, rfl, hb⟩ _; exact ⟨ib, hlo, rfl, (World.putObj_heap_other (by omega)).trans hb⟩)
    (fun k A => Blk A gd (halfway c sh dt f zs N k) ∧ But (fun b => b = gd) W A)
    (by rintro k A B ⟨h, hb⟩ hbl; exact ⟨(hbl.block _ (by omega)).trans h, hbl.os.trans hb.os, hbl.tape.trans hb.tape, hbl.output.trans hb.output, Nat.le_trans hb.size hbl.size, fun x hx hn => (hbl.block x hx).trans (hb.block x hx hn)⟩)
    ⟨HG.out, But.refl _ _⟩
    (fun k v => { tmps := #[.agg #[.bool c, .slice a1 n1 c1, .slice a2 n2 c2], .slice sa n cap, .func (.func g) #[] lb, .pointer (some ⟨p, 0, none⟩), undef, .pointer (some ⟨p + 1, 0, none⟩), .pointer (some ⟨p + 1 + 1, 0, none⟩), .pointer (some ⟨pd, 0, none⟩), .int .i64 (k : Nat), v, undef, undef, .agg #[.bool c, .slice a1 n1 c1, .slice a2 n2 c2], .int .i64 (fillOf c), .slice (some ⟨wA.heap.size, 0, none⟩) 1 1, .slice sa n cap, .int .i64 (N : Nat), .slice (some ⟨gd, 0, none⟩) N N, .slice sa n cap, .func (.func 228) #[] #[.pointer (some ⟨pd + 1, 0, none⟩)], .int .i64 (k : Nat), v, undef, undef, undef, undef, undef, undef, undef, undef, undef, undef, undef, undef, undef, undef, undef, undef, undef, undef, undef, undef, undef, undef], defers := [] }) ?assign ?body ?done
  case assign =>
    intro l k v A K hK
    gi_wp2
    exact hK
  case body =>
    rintro l k v A hk ⟨hb, hbut⟩ ⟨ib, hlo, rfl, hix⟩ hzA
    have hA0 : Box A p c (.slice a1 n1 c1) (.slice a2 n2 c2) := (hbut.block p (by omega) (by omega)).trans HY0.out
    have hA1 := (hbut.block (p + 1) (by omega) (by omega)).trans HY1.out
    have hA3 := (hbut.block pd (by omega) (by omega)).trans HY3.out
    have hr1 := hbut.row H1W.out (by rintro x rfl h; have := HPL.out.1 _ h; omega)
    have hr2 := hbut.row H2W.out (by rintro x rfl h; have := HPL.out.2.1 _ h; omega)
    have hBA : Below p w A := HBW.out.trans (hbut.below (by omega) (by rintro x rfl; omega))
    have hnA : NumOk g lb f zs n1 A := HNUM.out.low (by rw [← HP.out]; exact hBA)
    have hF : Full zs := full_of HSZ.out (by rw [HN.out]; omega)
    obtain ⟨r, hr⟩ : ∃ r, insideN sh (meant sh f (digits zs k)) sh.length = r := ⟨_, rfl⟩
    obtain ⟨q, hq⟩ : ∃ q, (if r then place sh (meant sh f (digits zs k)) else 0) = q := ⟨_, rfl⟩
    have hpl := placeIn_any g lb eg f zs (digits zs k) sh a1 n1 c1 ib A hr1 hnA (digits_in hF _) (digits_len _ _) hix HS.out r (hide hr) q (hide hq)
    rw [HZW.out.len] at hpl
    obtain ⟨ca0, ca1, ca2, _, _, _⟩ := hA0.all
    have cn : A.cell? ⟨p + 1, 0, none⟩ = some (.func (.func g) #[] lb) := by simp [World.cell?, hA1]
    have hzp : p + 1 < A.heap.size := by omega
    have HPL2 := hide hpl
    have HA0 := hide hA0
    have HA3 := hide hA3
    have HBT := hide hbut
    have HBK := hide hb
    have HR := hide hr
    have HQ := hide hq
    have HR2 := hide hr2
    clear hpl hA0 hA1 hA3 hr1 hr2 hBA hnA hF hb hbut hr hq hix
    cases r with
    | false =>
      gi_wp2_with (refine ⟨trivial, ?_⟩; gi_at_call 151; refine (CallsIn.inRound l (callsIn_wide.2 HPL2.out)).mono ?_; rintro e wP ⟨rfl, hbP⟩)
      refine ⟨?_, ?_, ?_⟩
      · exact But.of_below hbP
      · have := HBK.out.below (Nat.le_refl _) hbP
        rwa [half_out c sh dt f zs N k HR.out] at this
      · exact ⟨hbP.os.trans HBT.out.os, hbP.tape.trans HBT.out.tape, hbP.output.trans HBT.out.output, Nat.le_trans HBT.out.size hbP.size, fun x hx hn => (hbP.block x (Nat.lt_of_lt_of_le hx HBT.out.size)).trans (HBT.out.block x hx hn)⟩
    | true =>
      have hpb := place_bd (inside_in HR.out)
      obtain ⟨j, rfl⟩ : ∃ j : Nat, q = (j : Int) := ⟨q.toNat, by have := HQ.out; rw [if_pos rfl] at this; omega⟩
      have hj : (j : Int) < n2 := by have := HQ.out; rw [if_pos rfl] at this; have := HD.out; omega
      gi_wp2_with (refine ⟨trivial, ?_⟩; gi_at_call 151; refine (CallsIn.inRound l (callsIn_wide.2 HPL2.out)).mono ?_; rintro e wP ⟨rfl, hbP⟩; obtain ⟨cb0, cb1, cb2, _, _, _⟩ := (Box.low HA0.out (by omega) hbP).all; have cd : wP.cell? ⟨pd, 0, none⟩ = some (.slice (some ⟨gd, 0, none⟩) N N) := (by have h3 := (hbP.block pd (by omega)).trans HA3.out; simp [World.cell?, h3]); have HKP := hide (HBK.out.below (Nat.le_refl _) hbP); have cg := HKP.out.cell (i := k) (by rw [half_len]; exact hk); have cf := HKP.out.free k; have HRP := hide (HR2.out.below (Nat.le_refl _) hbP); obtain ⟨bd, od, hbd, hbd2, cdt⟩ := HRP.out.get (show j < n2 by omega); cases hbd; have HBP := hide hbP; clear hbP)
      have hmx : Tryz.prog.follows .mixedOrders = true := by kernel_rfl
      clear HPL2 HA0 HA3 ca0 ca1 ca2 cn cb0 cb1
      have HFIN : Hid (But (fun b => b = gd) A ((wP.setCell ⟨gd, k, none⟩ (.int .i64 (dt.getD j 0))).drew) ∧ (Blk ((wP.setCell ⟨gd, k, none⟩ (.int .i64 (dt.getD j 0))).drew) gd (halfway c sh dt f zs N (k + 1)) ∧ But (fun b => b = gd) W ((wP.setCell ⟨gd, k, none⟩ (.int .i64 (dt.getD j 0))).drew))) := by
        have e1 : But (fun b => b = gd) A ((wP.setCell ⟨gd, k, none⟩ (.int .i64 (dt.getD j 0))).drew) := ((But.of_below (S := fun b => b = gd) HBP.out).setCell (p := ⟨gd, k, none⟩) rfl _).drew
        refine ⟨e1, ?_, (HBT.out.trans e1).mono (by rintro x (h | h) <;> exact h)⟩
        have hg : (gatherAt c sh dt f zs k).1 = dt.getD j 0 := by rw [gather_in HR.out]; have := HQ.out; simp only [if_true] at this; rw [this]; simp
        have e2 := Blk.set HKP.out k (dt.getD j 0)
        rw [half_in c sh dt f zs N k _ hg] at e2
        exact e2
      clear HKP HBP HBK HBT HR HQ HRP HR2
      gi_region_with_o (fail)
      all_goals exact HFIN.out
  case done =>
    rintro D A hD ⟨hb, hbut⟩ hK
    have hA0 : Box A p c (.slice a1 n1 c1) (.slice a2 n2 c2) := (hbut.block p (by omega) (by omega)).trans HY0.out
    have hA2 : Box A (p + 1 + 1) false (.slice none 0 0) (.slice none 0 0) := (hbut.block (p + 1 + 1) (by omega) (by omega)).trans HY2.out
    have hA3 := (hbut.block pd (by omega) (by omega)).trans HY3.out
    obtain ⟨ca0, ca1, ca2, _, _, _⟩ := hA0.all
    obtain ⟨cc0, cc1, cc2, cf0, cf1, cf2⟩ := hA2.all
    have cd : A.cell? ⟨pd, 0, none⟩ = some (.slice (some ⟨gd, 0, none⟩) N N) := by simp [World.cell?, hA3]
    have HBT := hide hbut
    have HB := hide hb
    have HA2 := hide hA2
    clear hb hbut hA0 hA2 hA3
    gi_wp2
    obtain ⟨WX, hWX⟩ : ∃ WX, WX = ((A.setCell ⟨p + 1 + 1, 0, none⟩ (.bool c)).setCell ⟨p + 1 + 1, 1, none⟩ (.slice sa n cap)).setCell ⟨p + 1 + 1, 2, none⟩ (.slice (some ⟨gd, 0, none⟩) N N) := ⟨_, rfl⟩
    have hX : Box WX (p + 1 + 1) c (.slice sa n cap) (.slice (some ⟨gd, 0, none⟩) N N) := by rw [hWX]; exact HA2.out.sets
    have hbX : But (fun b => b = p + 1 + 1) A WX := by rw [hWX]; exact (((But.refl (fun b => b = p + 1 + 1) A).setCell (p := ⟨p + 1 + 1, 0, none⟩) rfl _).setCell (p := ⟨p + 1 + 1, 1, none⟩) rfl _).setCell (p := ⟨p + 1 + 1, 2, none⟩) rfl _
    have hlD : D < A.heap.size := (Array.getElem?_eq_some_iff.1 hK).1
    have hKX : WX.heap[D]? = some (.deferred (some [])) := (hbX.block D hlD (by omega)).trans hK
    have hbD : But (fun b => b = D) WX (WX.putObj D (.deferred none)) := But.putObj (S := fun b => b = D) WX rfl _
    have hXD : Box (WX.putObj D (.deferred none)) (p + 1 + 1) c (.slice sa n cap) (.slice (some ⟨gd, 0, none⟩) N N) := (World.putObj_heap_other (by omega)).trans hX
    obtain ⟨x0, x1, x2, _, _, _⟩ := hXD.all
    rw [← hWX]
    refine ⟨by simp, .inl ⟨_, _, rfl, run_takeDeferred hKX, ?_⟩⟩
    refine ⟨.agg #[.bool c, .slice sa n cap, .slice (some ⟨gd, 0, none⟩) N N], ?_, gd, rfl, by rw [← HP.out]; omega, ?_, ?_⟩
    · simp [results, Tryz.f59, go_sem, x0, x1, x2]
      done
    · rw [← half_all]
      exact (hbD.block gd (by have := hbX.size; have := HB.out.lt; omega) (by omega)).trans ((hbX.block gd HB.out.lt (by omega)).trans HB.out)
    · have e := (HBW.out.trans (HBT.out.below (B := p) (by omega) (by rintro x rfl; omega))).trans ((hbX.trans hbD).below (B := p) (by have := HBT.out.size; omega) (by rintro x (rfl | rfl) <;> omega))
      rw [← HP.out]
      exact e

theorem gathered_any (c : Bool) (a1 a2 sa : Option Addr) (n1 n2 c1 c2 n cap : Nat) (sh dt zs : List Int) (g : Nat) (lb : Array Value) (eg : ∀ args w, (callFunc g args).run Tryz.prog w = .ok (.enter g args) w) (f : List Int → Nat → Int) (w : World) (N : Nat)
    (h1 : Row w a1 n1 sh) (h2 : Row w a2 n2 dt) (hz : Row w sa n zs) (hs : ShapeIn sh) (hsz : ShapeIn zs) (h5 : n ≤ 5) (hN : prodAll zs = (N : Int)) (hd : prodAll sh = (n2 : Int)) (hnum : NumOk g lb f zs n1 w) :
    Calls Tryz.prog 59 #[.agg #[.bool c, .slice a1 n1 c1, .slice a2 n2 c2], .slice sa n cap, .func (.func g) #[] lb] w fun e w' => ∃ gd, e = .returned (.agg #[.bool c, .slice sa n cap, .slice (some ⟨gd, 0, none⟩) N N]) ∧ w.heap.size ≤ gd ∧ Blk w' gd (vals (gatherAt c sh dt f zs) N) ∧ Below w.heap.size w w' :=
  callsIn_wide.1 (gathered_in c a1 a2 sa n1 n2 c1 c2 n cap sh dt zs g lb eg f w N h1 h2 hz hs hsz h5 hN hd hnum)

end Go.Proofs.YtgjpchnkodnieaaGreatDoor
