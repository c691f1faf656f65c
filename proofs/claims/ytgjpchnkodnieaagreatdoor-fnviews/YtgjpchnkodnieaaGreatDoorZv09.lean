import Derived.Test.YtgjpchnkodnieaaGreatDoorZv03
import Derived.Test.YtgjpchnkodnieaaGreatDoorZv04
import Derived.Test.YtgjpchnkodnieaaGreatDoorZv00
import Derived.Test.YtgjpchnkodnieaaGreatDoorZv01
import Derived.Test.YtgjpchnkodnieaaGreatDoorZv07
import Derived.RangeFuncRecord
import Derived.MapKept
import Derived.Shelf.Abstract
import Derived.Laws.EntriesVeiled
namespace Go.Proofs.YtgjpchnkodnieaaGreatDoor
open Go.RowKit
theorem arr_long {c : Bool} {sh dt : List Int} {n1 : Nat} (hl : sh.length = n1) (h : 5 < n1) : arrOk c sh dt = false := by
  unfold arrOk; rw [decide_eq_false (by omega)]; rfl
theorem arr_count {c : Bool} {sh dt : List Int} {n2 : Nat} (hl : dt.length = n2) (h : countOf sh ≠ n2) : arrOk c sh dt = false := by
  unfold arrOk; rw [decide_eq_false (p := countOf sh = _) (by rw [hl]; exact h)]; simp
theorem arr_data {c : Bool} {sh dt : List Int} (h : dt.all (dataOk c) = false) : arrOk c sh dt = false := by
  unfold arrOk; rw [h]; simp
theorem arr_good {c : Bool} {sh dt : List Int} {n1 n2 : Nat} (hl1 : sh.length = n1) (hl2 : dt.length = n2) (h5 : n1 ≤ 5) (hc : countOf sh = n2) (h : dt.all (dataOk c) = true) : arrOk c sh dt = true := by
  unfold arrOk; rw [h, decide_eq_true (by omega), decide_eq_true (by rw [hl2]; exact hc)]; rfl
set_option maxHeartbeats 1000000 in
theorem ArrayOk_any (c : Bool) (a1 a2 : Option Addr) (n1 n2 c1 c2 : Nat) (sh dt : List Int) (w : World) (h1 : Row w a1 n1 sh) (h2 : Row w a2 n2 dt) :
    Calls Tryz.prog 10 #[.agg #[.bool c, .slice a1 n1 c1, .slice a2 n2 c2]] w fun e w' => e = .returned (.bool (arrOk c sh dt)) ∧ Below w.heap.size w w' := by
  have hl1 := hide h1.len
  have hl2 := hide h2.len
  have hs1 := h1.small
  have hs2 := h2.small
  have H1 := hide h1
  have H2 := hide h2
  clear h1 h2
  have hW : ∀ o, Below w.heap.size w (w.alloc o) := fun o => (Below.refl _ _).alloc (Nat.le_refl _) _
  have hcb := count_bd sh
  obtain ⟨hcb1, hcb2⟩ := hcb
  by_cases h5 : 5 < n1
  · have hd : decide ((5 : Int) < (n1 : Int)) = true := by simp; omega
    have HE := hide (arr_long (c := c) (dt := dt) (unhide hl1) h5)
    go_enter Tryz.func10, Tryz.ntmps10
    go_wp2
    go_quiet (fail)
    go_wp2
    go_ret
    exact ⟨ret_bool HE.out.symm, Below.drewN (hW _) _⟩
  · have hd : decide ((5 : Int) < (n1 : Int)) = false := by simp; omega
    obtain ⟨cn, hcn⟩ : ∃ cn, countOf sh = cn := ⟨_, rfl⟩
    rw [hcn] at hcb1 hcb2
    have HC := hide hcn
    clear hcn
    by_cases hcn : cn = n2
    · have hb : (cn != (n2 : Int)) = false := by simp [hcn]
      have HCN := hide hcn
      clear hcn
      go_enter Tryz.func10, Tryz.ntmps10
      go_wp2
      go_quiet ((go_at_call 48; exact Calls.quiet_of_same (l3Count_eq _ _ _ sh _ (((unhide H1).alloc _).drewN _) cn HC)))
      go_wp2
      go_loopw [3, 4] (fun i v wr => ∃ k : Nat, k ≤ n2 ∧ i = .int .i64 k ∧ Hid ((dt.take k).all (dataOk c) = true) ∧ wr = (w.alloc (.cells #[.bool c, .slice a1 n1 c1, .slice a2 n2 c2] 25)).drewN nq) (fun i _ _ => n2 - (intOf i).toNat)
      case atStart => exact ⟨0, Nat.zero_le _, rfl, rfl, rfl⟩
      case round =>
        obtain ⟨k, hk, rfl, hall, rfl⟩ := hrel
        by_cases hlt : k < n2
        · obtain ⟨b, off, rfl, hblt, hc⟩ := (unhide H2).get hlt
          have hks : Hid (k < dt.length) := by show k < dt.length; rw [unhide hl2]; exact hlt
          obtain ⟨x, hx⟩ : ∃ x, x = dt.getD k 0 := ⟨_, rfl⟩
          rw [← hx] at hc
          have HX := hide hx
          clear hx
          have hN : ∀ {r : Bool}, dataOk c x = r → r = false → Hid (arrOk c sh dt = false) := fun h1 h2 => arr_data (all_not dt (dataOk c) k (unhide hks) (by rw [← unhide HX, h1, h2]))
          have hY : ∀ {r : Bool}, dataOk c x = r → r = true → Hid ((dt.take (k + 1)).all (dataOk c) = true) := fun h1 h2 => all_step dt (dataOk c) k (unhide hks) (unhide hall) (by rw [← unhide HX, h1, h2])
          cases c with
          | true =>
            cases hr : runeOk x with
            | true =>
              have hxb := of_decide_eq_true hr
              have HR := hide hr
              have HA := hY (show dataOk true x = true by unfold dataOk; rw [hr, decide_eq_true (by omega)]; rfl) rfl
              have hx1 : x ≤ 1000000000000000 := by omega
              have hx2 : -1000000000000000 ≤ x := by omega
              clear hr hxb hN hY
              go_wp2_with (go_at_call 49; refine (l1RuneOk_eq _ _ true HR).mono ?_; rintro e w' ⟨rfl, rfl⟩)
              go_roundw
              case rel => exact ⟨k + 1, by omega, by go_num, HA, by first | exact trivial | rfl⟩
              case measure => simp [intOf]; omega
            | false =>
              have HR := hide hr
              have HE := hN (show dataOk true x = false by unfold dataOk; rw [hr]; rfl) rfl
              clear hr hN hY
              go_wp2_with (go_at_call 49; refine (l1RuneOk_eq _ _ false HR).mono ?_; rintro e w' ⟨rfl, rfl⟩)
              go_ret
              exact ⟨ret_bool HE.out.symm, Below.drewN (hW _) _⟩
          | false =>
            by_cases hx1 : 1000000000000000 < x
            · have HE := hN (show dataOk false x = false by unfold dataOk; rw [decide_eq_false (by omega)]; rfl) rfl
              clear hN hY
              go_wp2
              go_ret
              exact ⟨ret_bool HE.out.symm, Below.drewN (hW _) _⟩
            · by_cases hx2 : x < -1000000000000000
              · have HE := hN (show dataOk false x = false by unfold dataOk; rw [decide_eq_false (by omega)]; rfl) rfl
                clear hN hY
                go_wp2
                go_ret
                exact ⟨ret_bool HE.out.symm, Below.drewN (hW _) _⟩
              · have HA := hY (show dataOk false x = true by unfold dataOk; rw [decide_eq_true (by omega)]; rfl) rfl
                clear hN hY
                go_wp2
                go_roundw
                case rel => exact ⟨k + 1, by omega, by go_num, HA, by first | exact trivial | rfl⟩
                case measure => simp [intOf]; omega
        · have HA : Hid (dt.all (dataOk c) = true) := by
            have := unhide hall
            rwa [List.take_of_length_le (by rw [unhide hl2]; omega)] at this
          have HE := hide (arr_good (unhide hl1) (unhide hl2) (by omega) ((unhide HC).trans (unhide HCN)) (unhide HA))
          go_wp2
          go_ret
          exact ⟨ret_bool HE.out.symm, Below.drewN (hW _) _⟩
    · have hb : (cn != (n2 : Int)) = true := by simp [hcn]
      have HE := hide (arr_count (c := c) (sh := sh) (unhide hl2) (by rw [unhide HC]; exact hcn))
      clear hcn
      go_enter Tryz.func10, Tryz.ntmps10
      go_wp2
      go_quiet ((go_at_call 48; exact Calls.quiet_of_same (l3Count_eq _ _ _ sh _ (((unhide H1).alloc _).drewN _) cn HC)))
      go_wp2
      go_ret
      exact ⟨ret_bool HE.out.symm, Below.drewN (hW _) _⟩
theorem ArrayOk_eq (c : Bool) (a1 a2 : Option Addr) (n1 n2 c1 c2 : Nat) (sh dt : List Int) (w : World) (h1 : Row w a1 n1 sh) (h2 : Row w a2 n2 dt) (r : Bool) (hr : Hid (arrOk c sh dt = r)) :
    Calls Tryz.prog 10 #[.agg #[.bool c, .slice a1 n1 c1, .slice a2 n2 c2]] w fun e w' => e = .returned (.bool r) ∧ Below w.heap.size w w' := by
  rw [← hr.out]; exact ArrayOk_any c a1 a2 n1 n2 c1 c2 sh dt w h1 h2
end Go.Proofs.YtgjpchnkodnieaaGreatDoor
namespace Go.Proofs.YtgjpchnkodnieaaGreatDoor
open Go.RowKit
structure Gl (w : World) (a b : Addr) : Prop where
  no : w.cell? ⟨2, 0, none⟩ = some (.iface 278 (.pointer (some a)))
  big : w.cell? ⟨1, 0, none⟩ = some (.iface 278 (.pointer (some b)))
  ne : a ≠ b
  rowA : ∃ ca ta, w.heap[a.block]? = some (.cells ca ta (0, 0))
  rowB : ∃ cb tb, w.heap[b.block]? = some (.cells cb tb (0, 0))
theorem Gl.below {w w' : World} {a b : Addr} (h : Gl w a b) (hb : Below w.heap.size w w') : Gl w' a b := by
  obtain ⟨h1, h2, h3, ⟨ca, ta, h4⟩, ⟨cb, tb, h5⟩⟩ := h
  exact ⟨(hb.cell (p := ⟨2, 0, none⟩) (World.block_lt_of_cell? _ _ h1)).trans h1, (hb.cell (p := ⟨1, 0, none⟩) (World.block_lt_of_cell? _ _ h2)).trans h2, h3,
    ⟨ca, ta, (hb.block _ (lt_of_block h4)).trans h4⟩, ⟨cb, tb, (hb.block _ (lt_of_block h5)).trans h5⟩⟩
theorem Gl.alloc {w : World} {a b : Addr} (h : Gl w a b) (o : Obj) : Gl (w.alloc o) a b := h.below ((Below.refl _ _).alloc (Nat.le_refl _) _)
theorem Gl.drewN {w : World} {a b : Addr} (h : Gl w a b) (q : Nat) : Gl (w.drewN q) a b := h.below (Below.drewN (Below.refl _ _) _)
def emptyTab : List Int := [0, 0, 1, 1, 1000000000000000, -1000000000000000, 0, 1, 1, 0, 0, 1, 1, 0, 1, 0]
structure GlF (w : World) (a b : Addr) : Prop where
  gl : Gl w a b
  tab : ∀ i, i < 16 → w.cell? ⟨0, i, none⟩ = some (.int .i64 (emptyTab.getD i 0))
theorem GlF.below {w w' : World} {a b : Addr} (h : GlF w a b) (hb : Below w.heap.size w w') : GlF w' a b :=
  ⟨h.gl.below hb, fun i hi => (hb.cell (p := ⟨0, i, none⟩) (World.block_lt_of_cell? _ _ (h.tab i hi))).trans (h.tab i hi)⟩
theorem GlF.alloc {w : World} {a b : Addr} (h : GlF w a b) (o : Obj) : GlF (w.alloc o) a b := h.below ((Below.refl _ _).alloc (Nat.le_refl _) _)
def errV (a b : Addr) (code : Int) : Value := if code = 0 then .nilIface else if code = 7 then .iface 278 (.pointer (some b)) else .iface 278 (.pointer (some a))
end Go.Proofs.YtgjpchnkodnieaaGreatDoor
namespace Go.Proofs.YtgjpchnkodnieaaGreatDoor
open Go.RowKit
theorem withinM_any (n lo hi : Int) (w : World) : Calls Tryz.prog 50 #[.int .i64 n, .int .i64 lo, .int .i64 hi] w fun e w' => e = .returned (.bool (decide (lo ≤ n ∧ n ≤ hi))) ∧ w' = w := by
  obtain ⟨r, hr⟩ : ∃ r, decide (lo ≤ n ∧ n ≤ hi) = r := ⟨_, rfl⟩
  rw [hr]
  have HR := hide hr
  clear hr
  by_cases h1 : lo ≤ n
  · by_cases h2 : n ≤ hi
    · have HE : Hid (true = r) := by show _ = _; rw [← unhide HR, decide_eq_true ⟨h1, h2⟩]
      go_enter Tryz.func50, Tryz.ntmps50
      go_wp2
      go_ret
      refine ⟨ret_bool ?_, rfl⟩
      first | exact unhide HE | (rw [← unhide HE]; simp; omega)
    · have HE : Hid (false = r) := by show _ = _; rw [← unhide HR, decide_eq_false (fun h => h2 h.2)]
      go_enter Tryz.func50, Tryz.ntmps50
      go_wp2
      go_ret
      refine ⟨ret_bool ?_, rfl⟩
      first | exact unhide HE | (rw [← unhide HE]; simp; omega)
  · have HE : Hid (false = r) := by show _ = _; rw [← unhide HR, decide_eq_false (fun h => h1 h.1)]
    go_enter Tryz.func50, Tryz.ntmps50
    go_wp2
    go_ret
    refine ⟨ret_bool ?_, rfl⟩
    first | exact unhide HE | (rw [← unhide HE]; simp; omega)
theorem withinM (n lo hi : Int) (r : Bool) (h : decide (lo ≤ n ∧ n ≤ hi) = r) (w : World) : Calls Tryz.prog 50 #[.int .i64 n, .int .i64 lo, .int .i64 hi] w fun e w' => e = .returned (.bool r) ∧ w' = w := by
  rw [← h]; exact withinM_any n lo hi w
end Go.Proofs.YtgjpchnkodnieaaGreatDoor
namespace Go.Proofs.YtgjpchnkodnieaaGreatDoor
open Go.RowKit
theorem eqArray_refl (c : Bool) (a1 a2 b1 b2 : Option Addr) (n1 n2 m1 m2 c1 c2 d1 d2 : Nat) (sh dt : List Int) (w : World) (h1 : Row w a1 n1 sh) (h2 : Row w a2 n2 dt) (k1 : Row w b1 m1 sh) (k2 : Row w b2 m2 dt) :
    Calls Tryz.prog 13 #[.agg #[.bool c, .slice a1 n1 c1, .slice a2 n2 c2], .agg #[.bool c, .slice b1 m1 d1, .slice b2 m2 d2]] w fun e w' => e = .returned (.bool true) ∧ Below w.heap.size w w' := by
  have := eqArray_any c c a1 a2 b1 b2 n1 n2 m1 m2 c1 c2 d1 d2 sh dt sh dt w h1 h2 k1 k2
  rwa [decide_eq_true ⟨rfl, rfl, rfl⟩] at this
end Go.Proofs.YtgjpchnkodnieaaGreatDoor
namespace Go.Proofs.YtgjpchnkodnieaaGreatDoor
open Go.RowKit Go.Shelf
theorem check_int (w : World) (em : Bool) (k : Int) : (Instr.checkKey em 10000 3 (.int .i64 k)).run Tryz.prog w = .ok () w := MapKept.run_checkKey Tryz.underlying3 (by simp [MapKept.IsKey]) em 9999
theorem find_int (w : World) (k : Int) (es : List MapEntry) (r : Option (Nat × Value)) (hf : Instr.findNow (.int .i64) (.int .i64 k) es 0 = some r) : (Instr.findKey 3 (.int .i64 k) es).run Tryz.prog w = .ok r w := by
  unfold Instr.findKey
  simp only [Sem.run_bind, run_underlying Tryz.underlying3, Result.andThen, hf]
  rfl
theorem ins_step (T E : TypeId) (hT : Tryz.prog.underlying T = some (.map 3 E)) (w : World) (es : List MapEntry) (c : Nat) (k : Int) (v : Value) (hf : Instr.findNow (.int .i64) (.int .i64 k) es 0 = some none) :
    (Instr.mapUpdate T (.map (some w.heap.size)) (.int .i64 k) v).run Tryz.prog (w.alloc (.map es.toArray c)) = .ok () (w.alloc (.map (es ++ [(⟨.int .i64 k, v, c⟩ : MapEntry)]).toArray (c + 1))) := by
  have hb := World.alloc_heap_new w (.map es.toArray c)
  have e : (w.heap.push (Obj.map es.toArray c)).setIfInBounds w.heap.size (Obj.map (es ++ [(⟨.int .i64 k, v, c⟩ : MapEntry)]).toArray (c + 1)) = w.heap.push (Obj.map (es ++ [(⟨.int .i64 k, v, c⟩ : MapEntry)]).toArray (c + 1)) := by
    apply Array.ext'
    simp
  unfold Instr.mapUpdate
  simp only [Sem.run_bind, run_underlying hT, Result.andThen, MapKept.run_getObj_map hb, check_int, find_int _ _ _ _ hf]
  rw [show (es.toArray.push ({ key := Value.int IntKind.i64 k, val := v, born := c } : MapEntry)) = (es ++ [(⟨.int .i64 k, v, c⟩ : MapEntry)]).toArray by simp]
  rw [MapKept.run_setObj_map _ hb]
  exact congrArg (fun h => Result.ok () ({ w with heap := h } : World)) e
theorem look_hit (T E : TypeId) (hT : Tryz.prog.underlying T = some (.map 3 E)) (w : World) (p : Nat) (es : List MapEntry) (c i : Nat) (k : Int) (v : Value) (hb : w.heap[p]? = some (.map es.toArray c)) (hf : Instr.findNow (.int .i64) (.int .i64 k) es 0 = some (some (i, v))) :
    (Instr.lookup T (.map (some p)) (.int .i64 k) true).run Tryz.prog w = .ok (.tuple #[v, .bool true]) w := by
  simp [Instr.lookup, run_underlying hT, MapKept.run_getObj_map hb, check_int, find_int _ _ _ _ hf, Result.andThen]
theorem make_map (T : TypeId) (w : World) : (Instr.makeMap T none).run Tryz.prog w = .ok (.map (some w.heap.size)) (w.alloc (.map #[] 0)) := by
  simp [Instr.makeMap, Result.andThen]
def monTab (op : Int) : List MapEntry := [⟨.int .i64 1, .func (.func 137) #[.int .i64 op] #[], 0⟩,
  ⟨.int .i64 2, .func (.func 137) #[.int .i64 op] #[], 1⟩,
  ⟨.int .i64 3, .func (.func 137) #[.int .i64 op] #[], 2⟩,
  ⟨.int .i64 7, .func (.func 137) #[.int .i64 op] #[], 3⟩,
  ⟨.int .i64 17, .func (.func 137) #[.int .i64 op] #[], 4⟩,
  ⟨.int .i64 18, .func (.func 138) #[.int .i64 op] #[], 5⟩,
  ⟨.int .i64 19, .func (.func 139) #[.int .i64 op] #[], 6⟩,
  ⟨.int .i64 20, .func (.func 140) #[.int .i64 op] #[], 7⟩,
  ⟨.int .i64 28, .func (.func 140) #[.int .i64 op] #[], 8⟩,
  ⟨.int .i64 21, .func (.func 141) #[.int .i64 op] #[], 9⟩,
  ⟨.int .i64 22, .func (.func 141) #[.int .i64 op] #[], 10⟩,
  ⟨.int .i64 23, .func (.func 142) #[.int .i64 op] #[], 11⟩,
  ⟨.int .i64 24, .func (.func 143) #[.int .i64 op] #[], 12⟩,
  ⟨.int .i64 26, .func (.func 144) #[.int .i64 op] #[], 13⟩,
  ⟨.int .i64 27, .func (.func 144) #[.int .i64 op] #[], 14⟩,
  ⟨.int .i64 33, .func (.func 145) #[.int .i64 op] #[], 15⟩]
set_option maxRecDepth 100000 in
set_option maxHeartbeats 8000000 in
theorem monads_any (op : Int) (w : World) :
    Calls Tryz.prog 52 #[.int .i64 op] w fun e w' => e = .returned (.map (some w.heap.size)) ∧ w' = w.alloc (.map (monTab op).toArray 16) := by
  have i0 := ins_step 74 _ Tryz.underlying74 w [] 0 1 (.func (.func 137) #[.int .i64 op] #[]) (by rfl)
  simp only [List.nil_append, Nat.reduceAdd] at i0
  have i1 := ins_step 74 _ Tryz.underlying74 w [⟨.int .i64 1, .func (.func 137) #[.int .i64 op] #[], 0⟩] 1 2 (.func (.func 137) #[.int .i64 op] #[]) (by rfl)
  simp only [List.cons_append, List.nil_append, Nat.reduceAdd] at i1
  have i2 := ins_step 74 _ Tryz.underlying74 w [⟨.int .i64 1, .func (.func 137) #[.int .i64 op] #[], 0⟩, ⟨.int .i64 2, .func (.func 137) #[.int .i64 op] #[], 1⟩] 2 3 (.func (.func 137) #[.int .i64 op] #[]) (by rfl)
  simp only [List.cons_append, List.nil_append, Nat.reduceAdd] at i2
  have i3 := ins_step 74 _ Tryz.underlying74 w [⟨.int .i64 1, .func (.func 137) #[.int .i64 op] #[], 0⟩, ⟨.int .i64 2, .func (.func 137) #[.int .i64 op] #[], 1⟩, ⟨.int .i64 3, .func (.func 137) #[.int .i64 op] #[], 2⟩] 3 7 (.func (.func 137) #[.int .i64 op] #[]) (by rfl)
  simp only [List.cons_append, List.nil_append, Nat.reduceAdd] at i3
  have i4 := ins_step 74 _ Tryz.underlying74 w [⟨.int .i64 1, .func (.func 137) #[.int .i64 op] #[], 0⟩, ⟨.int .i64 2, .func (.func 137) #[.int .i64 op] #[], 1⟩, ⟨.int .i64 3, .func (.func 137) #[.int .i64 op] #[], 2⟩, ⟨.int .i64 7, .func (.func 137) #[.int .i64 op] #[], 3⟩] 4 17 (.func (.func 137) #[.int .i64 op] #[]) (by rfl)
  simp only [List.cons_append, List.nil_append, Nat.reduceAdd] at i4
  have i5 := ins_step 74 _ Tryz.underlying74 w [⟨.int .i64 1, .func (.func 137) #[.int .i64 op] #[], 0⟩, ⟨.int .i64 2, .func (.func 137) #[.int .i64 op] #[], 1⟩, ⟨.int .i64 3, .func (.func 137) #[.int .i64 op] #[], 2⟩, ⟨.int .i64 7, .func (.func 137) #[.int .i64 op] #[], 3⟩, ⟨.int .i64 17, .func (.func 137) #[.int .i64 op] #[], 4⟩] 5 18 (.func (.func 138) #[.int .i64 op] #[]) (by rfl)
  simp only [List.cons_append, List.nil_append, Nat.reduceAdd] at i5
  have i6 := ins_step 74 _ Tryz.underlying74 w [⟨.int .i64 1, .func (.func 137) #[.int .i64 op] #[], 0⟩, ⟨.int .i64 2, .func (.func 137) #[.int .i64 op] #[], 1⟩, ⟨.int .i64 3, .func (.func 137) #[.int .i64 op] #[], 2⟩, ⟨.int .i64 7, .func (.func 137) #[.int .i64 op] #[], 3⟩, ⟨.int .i64 17, .func (.func 137) #[.int .i64 op] #[], 4⟩, ⟨.int .i64 18, .func (.func 138) #[.int .i64 op] #[], 5⟩] 6 19 (.func (.func 139) #[.int .i64 op] #[]) (by rfl)
  simp only [List.cons_append, List.nil_append, Nat.reduceAdd] at i6
  have i7 := ins_step 74 _ Tryz.underlying74 w [⟨.int .i64 1, .func (.func 137) #[.int .i64 op] #[], 0⟩, ⟨.int .i64 2, .func (.func 137) #[.int .i64 op] #[], 1⟩, ⟨.int .i64 3, .func (.func 137) #[.int .i64 op] #[], 2⟩, ⟨.int .i64 7, .func (.func 137) #[.int .i64 op] #[], 3⟩, ⟨.int .i64 17, .func (.func 137) #[.int .i64 op] #[], 4⟩, ⟨.int .i64 18, .func (.func 138) #[.int .i64 op] #[], 5⟩, ⟨.int .i64 19, .func (.func 139) #[.int .i64 op] #[], 6⟩] 7 20 (.func (.func 140) #[.int .i64 op] #[]) (by rfl)
  simp only [List.cons_append, List.nil_append, Nat.reduceAdd] at i7
  have i8 := ins_step 74 _ Tryz.underlying74 w [⟨.int .i64 1, .func (.func 137) #[.int .i64 op] #[], 0⟩, ⟨.int .i64 2, .func (.func 137) #[.int .i64 op] #[], 1⟩, ⟨.int .i64 3, .func (.func 137) #[.int .i64 op] #[], 2⟩, ⟨.int .i64 7, .func (.func 137) #[.int .i64 op] #[], 3⟩, ⟨.int .i64 17, .func (.func 137) #[.int .i64 op] #[], 4⟩, ⟨.int .i64 18, .func (.func 138) #[.int .i64 op] #[], 5⟩, ⟨.int .i64 19, .func (.func 139) #[.int .i64 op] #[], 6⟩, ⟨.int .i64 20, .func (.func 140) #[.int .i64 op] #[], 7⟩] 8 28 (.func (.func 140) #[.int .i64 op] #[]) (by rfl)
  simp only [List.cons_append, List.nil_append, Nat.reduceAdd] at i8
  have i9 := ins_step 74 _ Tryz.underlying74 w [⟨.int .i64 1, .func (.func 137) #[.int .i64 op] #[], 0⟩, ⟨.int .i64 2, .func (.func 137) #[.int .i64 op] #[], 1⟩, ⟨.int .i64 3, .func (.func 137) #[.int .i64 op] #[], 2⟩, ⟨.int .i64 7, .func (.func 137) #[.int .i64 op] #[], 3⟩, ⟨.int .i64 17, .func (.func 137) #[.int .i64 op] #[], 4⟩, ⟨.int .i64 18, .func (.func 138) #[.int .i64 op] #[], 5⟩, ⟨.int .i64 19, .func (.func 139) #[.int .i64 op] #[], 6⟩, ⟨.int .i64 20, .func (.func 140) #[.int .i64 op] #[], 7⟩, ⟨.int .i64 28, .func (.func 140) #[.int .i64 op] #[], 8⟩] 9 21 (.func (.func 141) #[.int .i64 op] #[]) (by rfl)
  simp only [List.cons_append, List.nil_append, Nat.reduceAdd] at i9
  have i10 := ins_step 74 _ Tryz.underlying74 w [⟨.int .i64 1, .func (.func 137) #[.int .i64 op] #[], 0⟩, ⟨.int .i64 2, .func (.func 137) #[.int .i64 op] #[], 1⟩, ⟨.int .i64 3, .func (.func 137) #[.int .i64 op] #[], 2⟩, ⟨.int .i64 7, .func (.func 137) #[.int .i64 op] #[], 3⟩, ⟨.int .i64 17, .func (.func 137) #[.int .i64 op] #[], 4⟩, ⟨.int .i64 18, .func (.func 138) #[.int .i64 op] #[], 5⟩, ⟨.int .i64 19, .func (.func 139) #[.int .i64 op] #[], 6⟩, ⟨.int .i64 20, .func (.func 140) #[.int .i64 op] #[], 7⟩, ⟨.int .i64 28, .func (.func 140) #[.int .i64 op] #[], 8⟩, ⟨.int .i64 21, .func (.func 141) #[.int .i64 op] #[], 9⟩] 10 22 (.func (.func 141) #[.int .i64 op] #[]) (by rfl)
  simp only [List.cons_append, List.nil_append, Nat.reduceAdd] at i10
  have i11 := ins_step 74 _ Tryz.underlying74 w [⟨.int .i64 1, .func (.func 137) #[.int .i64 op] #[], 0⟩, ⟨.int .i64 2, .func (.func 137) #[.int .i64 op] #[], 1⟩, ⟨.int .i64 3, .func (.func 137) #[.int .i64 op] #[], 2⟩, ⟨.int .i64 7, .func (.func 137) #[.int .i64 op] #[], 3⟩, ⟨.int .i64 17, .func (.func 137) #[.int .i64 op] #[], 4⟩, ⟨.int .i64 18, .func (.func 138) #[.int .i64 op] #[], 5⟩, ⟨.int .i64 19, .func (.func 139) #[.int .i64 op] #[], 6⟩, ⟨.int .i64 20, .func (.func 140) #[.int .i64 op] #[], 7⟩, ⟨.int .i64 28, .func (.func 140) #[.int .i64 op] #[], 8⟩, ⟨.int .i64 21, .func (.func 141) #[.int .i64 op] #[], 9⟩, ⟨.int .i64 22, .func (.func 141) #[.int .i64 op] #[], 10⟩] 11 23 (.func (.func 142) #[.int .i64 op] #[]) (by rfl)
  simp only [List.cons_append, List.nil_append, Nat.reduceAdd] at i11
  have i12 := ins_step 74 _ Tryz.underlying74 w [⟨.int .i64 1, .func (.func 137) #[.int .i64 op] #[], 0⟩, ⟨.int .i64 2, .func (.func 137) #[.int .i64 op] #[], 1⟩, ⟨.int .i64 3, .func (.func 137) #[.int .i64 op] #[], 2⟩, ⟨.int .i64 7, .func (.func 137) #[.int .i64 op] #[], 3⟩, ⟨.int .i64 17, .func (.func 137) #[.int .i64 op] #[], 4⟩, ⟨.int .i64 18, .func (.func 138) #[.int .i64 op] #[], 5⟩, ⟨.int .i64 19, .func (.func 139) #[.int .i64 op] #[], 6⟩, ⟨.int .i64 20, .func (.func 140) #[.int .i64 op] #[], 7⟩, ⟨.int .i64 28, .func (.func 140) #[.int .i64 op] #[], 8⟩, ⟨.int .i64 21, .func (.func 141) #[.int .i64 op] #[], 9⟩, ⟨.int .i64 22, .func (.func 141) #[.int .i64 op] #[], 10⟩, ⟨.int .i64 23, .func (.func 142) #[.int .i64 op] #[], 11⟩] 12 24 (.func (.func 143) #[.int .i64 op] #[]) (by rfl)
  simp only [List.cons_append, List.nil_append, Nat.reduceAdd] at i12
  have i13 := ins_step 74 _ Tryz.underlying74 w [⟨.int .i64 1, .func (.func 137) #[.int .i64 op] #[], 0⟩, ⟨.int .i64 2, .func (.func 137) #[.int .i64 op] #[], 1⟩, ⟨.int .i64 3, .func (.func 137) #[.int .i64 op] #[], 2⟩, ⟨.int .i64 7, .func (.func 137) #[.int .i64 op] #[], 3⟩, ⟨.int .i64 17, .func (.func 137) #[.int .i64 op] #[], 4⟩, ⟨.int .i64 18, .func (.func 138) #[.int .i64 op] #[], 5⟩, ⟨.int .i64 19, .func (.func 139) #[.int .i64 op] #[], 6⟩, ⟨.int .i64 20, .func (.func 140) #[.int .i64 op] #[], 7⟩, ⟨.int .i64 28, .func (.func 140) #[.int .i64 op] #[], 8⟩, ⟨.int .i64 21, .func (.func 141) #[.int .i64 op] #[], 9⟩, ⟨.int .i64 22, .func (.func 141) #[.int .i64 op] #[], 10⟩, ⟨.int .i64 23, .func (.func 142) #[.int .i64 op] #[], 11⟩, ⟨.int .i64 24, .func (.func 143) #[.int .i64 op] #[], 12⟩] 13 26 (.func (.func 144) #[.int .i64 op] #[]) (by rfl)
  simp only [List.cons_append, List.nil_append, Nat.reduceAdd] at i13
  have i14 := ins_step 74 _ Tryz.underlying74 w [⟨.int .i64 1, .func (.func 137) #[.int .i64 op] #[], 0⟩, ⟨.int .i64 2, .func (.func 137) #[.int .i64 op] #[], 1⟩, ⟨.int .i64 3, .func (.func 137) #[.int .i64 op] #[], 2⟩, ⟨.int .i64 7, .func (.func 137) #[.int .i64 op] #[], 3⟩, ⟨.int .i64 17, .func (.func 137) #[.int .i64 op] #[], 4⟩, ⟨.int .i64 18, .func (.func 138) #[.int .i64 op] #[], 5⟩, ⟨.int .i64 19, .func (.func 139) #[.int .i64 op] #[], 6⟩, ⟨.int .i64 20, .func (.func 140) #[.int .i64 op] #[], 7⟩, ⟨.int .i64 28, .func (.func 140) #[.int .i64 op] #[], 8⟩, ⟨.int .i64 21, .func (.func 141) #[.int .i64 op] #[], 9⟩, ⟨.int .i64 22, .func (.func 141) #[.int .i64 op] #[], 10⟩, ⟨.int .i64 23, .func (.func 142) #[.int .i64 op] #[], 11⟩, ⟨.int .i64 24, .func (.func 143) #[.int .i64 op] #[], 12⟩, ⟨.int .i64 26, .func (.func 144) #[.int .i64 op] #[], 13⟩] 14 27 (.func (.func 144) #[.int .i64 op] #[]) (by rfl)
  simp only [List.cons_append, List.nil_append, Nat.reduceAdd] at i14
  have i15 := ins_step 74 _ Tryz.underlying74 w [⟨.int .i64 1, .func (.func 137) #[.int .i64 op] #[], 0⟩, ⟨.int .i64 2, .func (.func 137) #[.int .i64 op] #[], 1⟩, ⟨.int .i64 3, .func (.func 137) #[.int .i64 op] #[], 2⟩, ⟨.int .i64 7, .func (.func 137) #[.int .i64 op] #[], 3⟩, ⟨.int .i64 17, .func (.func 137) #[.int .i64 op] #[], 4⟩, ⟨.int .i64 18, .func (.func 138) #[.int .i64 op] #[], 5⟩, ⟨.int .i64 19, .func (.func 139) #[.int .i64 op] #[], 6⟩, ⟨.int .i64 20, .func (.func 140) #[.int .i64 op] #[], 7⟩, ⟨.int .i64 28, .func (.func 140) #[.int .i64 op] #[], 8⟩, ⟨.int .i64 21, .func (.func 141) #[.int .i64 op] #[], 9⟩, ⟨.int .i64 22, .func (.func 141) #[.int .i64 op] #[], 10⟩, ⟨.int .i64 23, .func (.func 142) #[.int .i64 op] #[], 11⟩, ⟨.int .i64 24, .func (.func 143) #[.int .i64 op] #[], 12⟩, ⟨.int .i64 26, .func (.func 144) #[.int .i64 op] #[], 13⟩, ⟨.int .i64 27, .func (.func 144) #[.int .i64 op] #[], 14⟩] 15 33 (.func (.func 145) #[.int .i64 op] #[]) (by rfl)
  simp only [List.cons_append, List.nil_append, Nat.reduceAdd] at i15
  have hmm := make_map 74 w
  go_enter Tryz.func52, Tryz.ntmps52
  go_wp2_with fail
  go_ret
  exact ⟨rfl, rfl⟩
end Go.Proofs.YtgjpchnkodnieaaGreatDoor
