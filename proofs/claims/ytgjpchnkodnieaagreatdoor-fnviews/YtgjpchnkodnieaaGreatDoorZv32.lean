import Derived.Test.YtgjpchnkodnieaaGreatDoorZv11
import Derived.Test.YtgjpchnkodnieaaGreatDoorZv15
import Derived.Test.YtgjpchnkodnieaaGreatDoorZv30
import Derived.Test.YtgjpchnkodnieaaGreatDoorZv13
import Derived.Test.YtgjpchnkodnieaaGreatDoorZv05
import Derived.Test.YtgjpchnkodnieaaGreatDoorZv00
import Derived.Test.YtgjpchnkodnieaaGreatDoorZv14
import Derived.BigQuiet
import Derived.Test.YtgjpchnkodnieaaGreatDoorZv17
import Derived.Test.YtgjpchnkodnieaaGreatDoorZv07
import Derived.Test.YtgjpchnkodnieaaGreatDoorZv26
import Derived.Shelf.Spec.SlicesGrow
import Derived.Deep.WholeRow
import Derived.Test.YtgjpchnkodnieaaGreatDoorZv12
import Derived.Test.YtgjpchnkodnieaaGreatDoorZv01
import Derived.Test.YtgjpchnkodnieaaGreatDoorZv03
import Derived.Test.YtgjpchnkodnieaaGreatDoorZv09
import Derived.Test.YtgjpchnkodnieaaGreatDoorZv04
import Derived.Test.YtgjpchnkodnieaaGreatDoorZv02
import Derived.Deep.RegionHeld
import Derived.Deep.DeepCutAuto
import Derived.Lib.SliceRun
import Derived.Test.YtgjpchnkodnieaaGreatDoorZv29
import Derived.Test.YtgjpchnkodnieaaGreatDoorZv20
import Derived.RangeFuncRecord
import Derived.Deep.RegionHeld3
namespace Go.Proofs.YtgjpchnkodnieaaGreatDoor
open Go.RowKit
set_option maxHeartbeats 2000000 in
theorem isNothing_any (c : Bool) (a1 a2 : Option Addr) (n1 n2 c1 c2 : Nat) (w : World) (h1 : n1 ≤ 17592186044416) (h2 : n2 ≤ 17592186044416) (r : Bool) (hr : Hid ((!c && (decide (n1 = 0) && decide (n2 = 0))) = r)) :
    Calls Tryz.prog 280 #[.agg #[.bool c, .slice a1 n1 c1, .slice a2 n2 c2]] w fun e w' => e = .returned (.bool r) ∧ Below w.heap.size w w' := by
  cases c with
  | true =>
    obtain rfl : r = false := by rw [← unhide hr]; rfl
    go_enter Tryz.func280, Tryz.ntmps280
    go_wp2_with fail
    go_ret
    exact ⟨rfl, (Below.refl _ _).alloc (Nat.le_refl _) _⟩
  | false =>
    by_cases e1 : n1 = 0
    · subst e1
      by_cases e2 : n2 = 0
      · subst e2
        obtain rfl : r = true := by rw [← unhide hr]; rfl
        go_enter Tryz.func280, Tryz.ntmps280
        go_wp2_with fail
        go_ret
        exact ⟨rfl, (Below.refl _ _).alloc (Nat.le_refl _) _⟩
      · obtain rfl : r = false := by rw [← unhide hr]; simp [e2]
        have hb : ((n2 : Int) == 0) = false := by simp; omega
        clear e2
        go_enter Tryz.func280, Tryz.ntmps280
        go_wp2_with fail
        go_ret
        exact ⟨rfl, (Below.refl _ _).alloc (Nat.le_refl _) _⟩
    · obtain rfl : r = false := by rw [← unhide hr]; simp [e1]
      have hb : ((n1 : Int) == 0) = false := by simp; omega
      clear e1
      go_enter Tryz.func280, Tryz.ntmps280
      go_wp2_with fail
      go_ret
      exact ⟨rfl, (Below.refl _ _).alloc (Nat.le_refl _) _⟩
def PickAns (B : Nat) (w : World) (p : PartD) (L : Int) (s1 : Option Addr) (m1 : Nat) (s2 : Option Addr) (m2 : Nat) (v1 v2 : Value) : Prop := ∃ t1 k1 e1 t2 k2 e2, v1 = .slice (some t1) k1 e1 ∧ v2 = .slice t2 k2 e2 ∧ Row w (some t1) k1 (pickSh p L) ∧ Row w t2 k2 (pickDt p L) ∧ (∀ x, At (some t1) k1 x → At s1 m1 x ∨ B ≤ x) ∧ (∀ x, At t2 k2 x → At s2 m2 x ∨ B ≤ x)
def PickGives (w : World) (p : PartD) (L : Int) (s1 : Option Addr) (m1 : Nat) (s2 : Option Addr) (m2 : Nat) (code : Int) (e : Ending) (w' : World) : Prop := ∃ x1 j1 l1 x2 j2 l2, e = .returned (.tuple #[.agg #[.bool false, .slice x1 j1 l1, .slice x2 j2 l2], .int .i64 code]) ∧ (code = 0 → PickAns w.heap.size w' p L s1 m1 s2 m2 (.slice x1 j1 l1) (.slice x2 j2 l2)) ∧ Below w.heap.size w w'
theorem pickCode_nothing {p : PartD} {L : Int} {m1 m2 : Nat} (h1 : p.sh.length = m1) (h2 : p.dt.length = m2) (ha : p.all = true) : pickCode p L = if (!p.c && (decide (m1 = 0) && decide (m2 = 0))) = true then 0 else 3 := by
  have e : nothing p ↔ (!p.c && (decide (m1 = 0) && decide (m2 = 0))) = true := by
    unfold nothing
    simp only [Bool.and_eq_true, decide_eq_true_eq, Bool.not_eq_true']
    rw [← h1, ← h2, List.length_eq_zero_iff, List.length_eq_zero_iff]
  by_cases hn : nothing p
  · rw [pick_all0 ha hn, if_pos (e.1 hn)]
  · rw [pick_all3 ha hn, if_neg (fun h => hn (e.2 h))]
set_option maxRecDepth 20000 in
set_option maxHeartbeats 8000000 in
theorem pickOf_any (p : PartD) (s1 s2 : Option Addr) (m1 m2 d1 d2 L : Nat) (w : World) (h1 : Row w s1 m1 p.sh) (h2 : Row w s2 m2 p.dt) (hL : L ≤ 10000) (hnn : p.all = false → ∃ ad, s1 = some ad) (code : Int) (hcode : Hid (pickCode p L = code)) :
    Calls Tryz.prog 235 #[.agg #[.bool p.all, .bool p.c, .slice s1 m1 d1, .slice s2 m2 d2], .int .i64 (L : Nat)] w (PickGives w p L s1 m1 s2 m2 code) := by
  obtain ⟨pa, hpa⟩ : ∃ x, p.all = x := ⟨_, rfl⟩
  obtain ⟨pc, hpc⟩ : ∃ x, p.c = x := ⟨_, rfl⟩
  have HPA := hide hpa
  have HPC := hide hpc
  have hm1 := h1.small
  have hm2 := h2.small
  have H1 := hide h1
  have H2 := hide h2
  have HNN := hide hnn
  rw [hpa, hpc]
  clear hpa hpc h1 h2 hnn
  obtain ⟨W0, hW0⟩ : ∃ x, x = (w.alloc (.cells #[.bool pa, .bool pc, .slice s1 m1 d1, .slice s2 m2 d2] 119)).alloc (.cells #[.bool false, .slice none 0 0, .slice none 0 0] 25) := ⟨_, rfl⟩
  have HB0 : Hid (Below w.heap.size w W0) := by rw [hW0]; exact ((Below.refl _ _).alloc (Nat.le_refl _) _).alloc (by simp) _
  have HS0 : Hid (W0.heap.size = w.heap.size + 2) := by
    show _ = _
    rw [hW0]; simp
  have HX0 : Hid (Box W0 (w.heap.size + 1) false (.slice none 0 0) (.slice none 0 0)) := by
    show Box _ _ _ _ _
    rw [hW0]
    have := Box.new (w.alloc (.cells #[.bool pa, .bool pc, .slice s1 m1 d1, .slice s2 m2 d2] 119)) false (.slice none 0 0) (.slice none 0 0)
    simpa using this
  have HPB : Hid (∀ wx, Below W0.heap.size W0 wx → wx.cell? ⟨w.heap.size, 0, none⟩ = some (.bool pa) ∧ wx.cell? ⟨w.heap.size, 1, none⟩ = some (.bool pc) ∧ wx.cell? ⟨w.heap.size, 2, none⟩ = some (.slice s1 m1 d1) ∧ wx.cell? ⟨w.heap.size, 3, none⟩ = some (.slice s2 m2 d2)) := fun wx hwx => by
    have hh : wx.heap[w.heap.size]? = some (.cells #[.bool pa, .bool pc, .slice s1 m1 d1, .slice s2 m2 d2] 119 (0, 0)) := (hwx.block _ (by rw [unhide HS0]; omega)).trans (by
      rw [hW0]
      refine (Below.heap_alloc _ _ _ (by simp)).trans ?_
      show (w.heap.push _)[w.heap.size]? = _
      simp)
    simp [World.cell?, hh]
  have HW0 := hide hW0
  clear hW0
  cases pa with
  | true =>
    obtain ⟨r, hr⟩ : ∃ x, (!pc && (decide (m1 = 0) && decide (m2 = 0))) = x := ⟨_, rfl⟩
    have HCR : Hid (code = if r = true then 0 else 3) := by
      show _ = _
      rw [← unhide hcode, pickCode_nothing (unhide H1).len (unhide H2).len (unhide HPA), unhide HPC, hr]
    have HR := hide hr
    clear hr hcode
    go_enter Tryz.func235, Tryz.ntmps235
    go_wp2_with fail
    refine (isNothing_any _ _ _ _ _ _ _ _ hm1 hm2 r HR).mono ?_
    rintro e w1 ⟨rfl, hb1⟩
    rw [← unhide HW0] at hb1
    obtain ⟨u0, u1, u2, u3⟩ := unhide HPB _ hb1
    obtain ⟨q0, q1, q2, q3, q4, q5, q6⟩ := ((unhide HX0).below (Nat.le_refl _) hb1).all
    have HB1 := hide ((unhide HB0).trans (hb1.mono (unhide HB0).size))
    cases r with
    | false =>
      obtain rfl : code = 3 := unhide HCR
      clear hb1
      go_wp2
      refine bodyPost_ret (v := .tuple #[.agg #[.bool false, .slice none 0 0, .slice none 0 0], .int .i64 3]) (by simp [results, Tryz.results235, go_sem, q0, q1, q2]) rfl ⟨_, _, _, _, _, _, rfl, fun h => by omega, (((unhide HB1).setCell (by simp) _).setCell (by simp) _).setCell (by simp) _⟩
    | true =>
      obtain rfl : code = 0 := unhide HCR
      have HX1 := hide ((unhide HX0).below (Nat.le_refl _) hb1)
      clear hb1 q0 q1 q2 q3 q4 q5 q6 u0 u1 u2 u3
      go_wp2_with fail
      refine (numbersUpTo_any L hL _).mono ?_
      rintro e w2 ⟨sa, ga, rfl, hsa, hga, hne, hB1, hB2, hb2⟩
      have Z := (unhide HX1).below (Nat.le_refl _) hb2
      have HZ := hide Z
      obtain ⟨q0, q1, q2, q3, q4, q5, q6⟩ := Z.all
      have HB2 := hide ((unhide HB1).trans (hb2.mono (unhide HB1).size))
      have HR1 : Hid (Row w2 (some ⟨sa, 0, none⟩) 1 (pickSh p L)) := by rw [pickSh_all (unhide HPA)]; exact hB1.row rfl (by omega)
      have HR2 : Hid (Row w2 (some ⟨ga, 0, none⟩) L (pickDt p L)) := by rw [pickDt_all (unhide HPA)]; exact hB2.row (upTo_len L) (by omega)
      have hw1z := (unhide HB1).size
      have hsa' : w.heap.size ≤ sa := Nat.le_trans hw1z hsa
      have hga' : w.heap.size ≤ ga := Nat.le_trans hw1z hga
      clear hb2 Z hB1 hB2 hsa hga hne HX1 HB1 hw1z
      go_wp2
      have hx := (unhide HZ).sets (c' := false) (u1 := .slice (some ⟨sa, 0, none⟩) 1 1) (u2 := .slice (some ⟨ga, 0, none⟩) L L)
      obtain ⟨r0, r1, r2, _, _, _⟩ := hx.all
      refine bodyPost_ret (v := .tuple #[.agg #[.bool false, .slice (some ⟨sa, 0, none⟩) 1 1, .slice (some ⟨ga, 0, none⟩) L L], .int .i64 0]) (by simp [results, Tryz.results235, go_sem, r0, r1, r2]) rfl ?_
      refine ⟨_, _, _, _, _, _, rfl, fun _ => ⟨_, _, _, _, _, _, rfl, rfl, (unhide HR1).sets (unhide HZ) _ _ _, (unhide HR2).sets (unhide HZ) _ _ _, fun x hx => .inr (by have := at_eq hx; omega), fun x hx => .inr (by have := at_eq hx; omega)⟩, (((unhide HB2).setCell (by simp) _).setCell (by simp) _).setCell (by simp) _⟩
  | false =>
    obtain ⟨ad, rfl⟩ := unhide HNN (unhide HPA)
    obtain ⟨ok, hok⟩ : ∃ x, arrOk pc p.sh p.dt = x := ⟨_, rfl⟩
    have HOK := hide hok
    clear hok
    go_enter Tryz.func235, Tryz.ntmps235
    go_wp2_with fail
    refine (implArrayOk_eq _ _ _ _ _ _ _ p.sh p.dt _ (by exact ((unhide H1).alloc _).alloc _) (by exact ((unhide H2).alloc _).alloc _) ok HOK).mono ?_
    rintro e w1 ⟨rfl, hb1⟩
    rw [← unhide HW0] at hb1
    obtain ⟨u0, u1, u2, u3⟩ := unhide HPB _ hb1
    obtain ⟨q0, q1, q2, q3, q4, q5, q6⟩ := ((unhide HX0).below (Nat.le_refl _) hb1).all
    have HB1 := hide ((unhide HB0).trans (hb1.mono (unhide HB0).size))
    have HX1 := hide ((unhide HX0).below (Nat.le_refl _) hb1)
    clear hb1
    by_cases hgood : ok = true ∧ pc = false
    case neg =>
      obtain rfl : code = 3 := by rw [← unhide hcode]; exact pick_bad (unhide HPA) (by rw [unhide HPC, unhide HOK]; exact hgood)
      have htwo : ok = false ∨ (ok = true ∧ pc = true) := by cases ok <;> cases pc <;> simp at hgood ⊢
      clear hgood
      rcases htwo with rfl | ⟨rfl, rfl⟩
      · go_wp2
        refine bodyPost_ret (v := .tuple #[.agg #[.bool false, .slice none 0 0, .slice none 0 0], .int .i64 3]) (by simp [results, Tryz.results235, go_sem, q0, q1, q2]) rfl ⟨_, _, _, _, _, _, rfl, fun h => by omega, (((unhide HB1).setCell (by simp) _).setCell (by simp) _).setCell (by simp) _⟩
      · go_wp2
        refine bodyPost_ret (v := .tuple #[.agg #[.bool false, .slice none 0 0, .slice none 0 0], .int .i64 3]) (by simp [results, Tryz.results235, go_sem, q0, q1, q2]) rfl ⟨_, _, _, _, _, _, rfl, fun h => by omega, (((unhide HB1).setCell (by simp) _).setCell (by simp) _).setCell (by simp) _⟩
    obtain ⟨rfl, rfl⟩ := hgood
    have HR2 : Hid (Row w1 s2 m2 p.dt) := (unhide H2).below (Nat.le_refl _) (unhide HB1)
    have HR1 : Hid (Row w1 (some ad) m1 p.sh) := (unhide H1).below (Nat.le_refl _) (unhide HB1)
    obtain ⟨D, hD⟩ : ∃ x, x = p.dt := ⟨_, rfl⟩
    have HDL : Hid (D.length = m2) := by rw [hD]; exact (unhide H2).len
    have HDA : Hid (D.all (within L) = false → code = 6) := fun h => by rw [← unhide hcode]; exact pick_out (unhide HPA) (by rw [unhide HPC]; exact unhide HOK) (unhide HPC) (by rw [← hD]; exact h)
    have HDP : Hid (D.all (within L) = true → code = 0) := fun h => by rw [← unhide hcode]; exact pick_in (unhide HPA) (by rw [unhide HPC]; exact unhide HOK) (unhide HPC) (by rw [← hD]; exact h)
    have HRD : Hid (Row w1 s2 m2 D) := by rw [hD]; exact unhide HR2
    clear hD hcode
    go_wp2_with fail
    go_loopw [31] (fun i wr => ∃ j : Nat, j ≤ m2 ∧ i = .int .i64 j ∧ wr = w1 ∧ Hid ((D.take j).all (within L) = true)) (fun i _ => m2 - (intOf i).toNat)
    case atStart => exact ⟨0, Nat.zero_le _, rfl, rfl, rfl⟩
    case round =>
      obtain ⟨j, hj, rfl, hw, HT⟩ := hrel
      subst hw
      by_cases hjl : j < m2
      · obtain ⟨b2, o2, rfl, hb2, hcd⟩ := (unhide HRD).get hjl
        obtain ⟨x, hx⟩ : ∃ x, D.getD j 0 = x := ⟨_, rfl⟩
        rw [hx] at hcd
        obtain ⟨bt, hbt⟩ : ∃ y, withinB x 1 L = y := ⟨_, rfl⟩
        have HBT := hide hbt
        have hwi : within L x = bt := by rw [← hbt]; unfold within withinB; simp
        have HX := hide hx
        clear hx hbt
        go_wp2_with fail
        refine (isWithin_eq _ _ _ _ bt HBT).mono ?_
        rintro e wq ⟨rfl, hwq⟩
        obtain rfl := hwq.symm
        cases bt with
        | true =>
          have HT2 : Hid ((D.take (j + 1)).all (within L) = true) := all_step D _ j (by rw [unhide HDL]; exact hjl) (unhide HT) (by rw [unhide HX]; exact hwi)
          clear HT
          go_wp2_with fail
          go_roundw
          case rel => exact ⟨j + 1, by omega, by go_num, (by first | rfl | trivial), unhide HT2⟩
          case measure => simp [intOf]; omega
        | false =>
          obtain rfl : code = 6 := unhide HDA (all_not D _ j (by rw [unhide HDL]; exact hjl) (by rw [unhide HX]; exact hwi))
          go_wp2
          refine bodyPost_ret (v := .tuple #[.agg #[.bool false, .slice none 0 0, .slice none 0 0], .int .i64 6]) (by simp [results, Tryz.results235, go_sem, q0, q1, q2]) rfl ⟨_, _, _, _, _, _, rfl, fun h => by omega, (((unhide HB1).setCell (by simp) _).setCell (by simp) _).setCell (by simp) _⟩
      · obtain rfl : j = m2 := by omega
        have htk : D.take j = D := List.take_of_length_le (by rw [unhide HDL]; exact Nat.le_refl _)
        obtain rfl : code = 0 := unhide HDP (by rw [← htk]; exact unhide HT)
        have HPS : Hid (Row wr (some ad) m1 (pickSh p L)) := by rw [pickSh_not (unhide HPA)]; exact unhide HR1
        have HPD : Hid (Row wr s2 j (pickDt p L)) := by rw [pickDt_not (unhide HPA)]; exact unhide HR2
        clear htk HT
        go_wp2
        have hx := (unhide HX1).sets (c' := false) (u1 := .slice (some ad) m1 d1) (u2 := .slice s2 j d2)
        obtain ⟨r0, r1, r2, _, _, _⟩ := hx.all
        refine bodyPost_ret (v := .tuple #[.agg #[.bool false, .slice (some ad) m1 d1, .slice s2 j d2], .int .i64 0]) (by simp [results, Tryz.results235, go_sem, r0, r1, r2]) rfl ?_
        refine ⟨_, _, _, _, _, _, rfl, fun _ => ⟨_, _, _, _, _, _, rfl, rfl, (unhide HPS).sets (unhide HX1) _ _ _, (unhide HPD).sets (unhide HX1) _ _ _, fun x hx => .inl hx, fun x hx => .inl hx⟩, (((unhide HB1).setCell (by simp) _).setCell (by simp) _).setCell (by simp) _⟩
end Go.Proofs.YtgjpchnkodnieaaGreatDoor
namespace Go.Proofs.YtgjpchnkodnieaaGreatDoor
open Go.RowKit
def BoolAt (w : World) (p : Nat) (b : Bool) : Prop := w.heap[p]? = some (.cells #[.bool b] 4 (0, 0))
theorem BoolAt.lt {w : World} {p : Nat} {b : Bool} (h : BoolAt w p b) : p < w.heap.size := lt_of_block h
theorem BoolAt.new (w : World) (b : Bool) : BoolAt (w.alloc (.cells #[.bool b] 4)) w.heap.size b := by
  show (w.heap.push _)[w.heap.size]? = _
  simp
theorem BoolAt.alloc {w : World} {p : Nat} {b : Bool} (h : BoolAt w p b) (o : Obj) : BoolAt (w.alloc o) p b := (Below.heap_alloc w o p h.lt).trans h
theorem BoolAt.below {w w' : World} {p B : Nat} {b : Bool} (h : BoolAt w p b) (hB : w.heap.size ≤ B) (hb : Below B w w') : BoolAt w' p b := (hb.block p (Nat.lt_of_lt_of_le h.lt hB)).trans h
theorem BoolAt.but {S : Nat → Prop} {w w' : World} {p : Nat} {b : Bool} (h : BoolAt w p b) (hb : But S w w') (hn : ¬ S p) : BoolAt w' p b := (hb.block p h.lt hn).trans h
theorem BoolAt.cell {w : World} {p : Nat} {b : Bool} (h : BoolAt w p b) : w.cell? ⟨p, 0, none⟩ = some (.bool b) := by
  unfold BoolAt at h
  simp [World.cell?, h]
end Go.Proofs.YtgjpchnkodnieaaGreatDoor
namespace Go.Proofs.YtgjpchnkodnieaaGreatDoor
open Go.RowKit Go.Shelf
theorem But.cell {S : Nat → Prop} {w w' : World} (h : But S w w') {k o : Nat} (hk : k < w.heap.size) (hn : ¬ S k) : w'.cell? ⟨k, o, none⟩ = w.cell? ⟨k, o, none⟩ := World.cell?_of_block (w := w) (a := ⟨k, o, none⟩) (h.block k hk hn)
end Go.Proofs.YtgjpchnkodnieaaGreatDoor
namespace Go.Proofs.YtgjpchnkodnieaaGreatDoor
open Go.RowKit
theorem step_append_srcV {V : World} {ops : Array Oper} {o : Oper} {a : Act} {K : Act → World → Prop} {Q : Exit → Act → World → Prop} {E : Prop} (hgd : o.guard = none) (s x : Operand)
    (ho : o.op = .call { callee := .builtin .append, args := #[s, x], argTypes := #[23, 23] }) (base g0 : Nat)
    (hs : a.eval s = .slice (some ⟨g0, 0, none⟩) 0 0) (hown : V.ownsRow base 3 1 (.slice (some ⟨g0, 0, none⟩) 0 0) 0 []) (ad : Option Addr) (m c : Nat) (zs : List Int) (hx : a.eval x = .slice ad m c) (hr : Row V ad m zs) (hm : m ≤ 20000) (hbase : base ≤ V.heap.size)
    (h : ∀ g' cap' V', V'.ownsRow base 3 1 (.slice (some ⟨g', 0, none⟩) m cap') m (zs.map (Value.int .i64)) → V.grownBy V' (some g0) → K (a.put o.dst (.slice (some ⟨g', 0, none⟩) m cap')) V') :
    if Region.wanted o (yielded ops a.tmps) = true then Oper.wp Tryz.prog o a V K Q else E := by
  obtain ⟨i0, hi, hz0, hz1, hz2⟩ := info_parts info_int
  rw [if_pos (by simp [Region.wanted, hgd])]
  exact wp_append_src V s x 23 ho base 3 i0 Tryz.underlying23 hi hz0 hz1 hz2 g0 hs hown ad m c zs hx (Src.of hr) hm hbase (fun g cap w' h1 h2 _ => h g cap w' h1 h2)
theorem but_grownV {w w1 : World} {g : Nat} (hg : w.grownBy w1 (some g)) : But (fun x => x = g) w w1 :=
  ⟨hg.os, hg.tape, hg.output, hg.size, fun k hk hne => hg.block k hk (fun e => hne (by simpa using e))⟩
def PlacesA (n1 : Nat) (sh ps : List Int) (w : World) (e : Ending) (w' : World) : Prop := ∃ (e1 : Option Addr) (k1 f1 : Nat) (e2 : Option Addr) (k2 f2 : Nat), e = .returned (.agg #[.bool false, .slice e1 k1 f1, .slice e2 k2 f2]) ∧ k1 = n1 ∧ Row w' e1 k1 sh ∧ Row w' e2 k2 ps ∧ Below w.heap.size w w'
set_option maxRecDepth 20000 in
set_option maxHeartbeats 4000000 in
theorem lwPlaces_any (c : Int) (a1 a2 : Option Addr) (n1 n2 c1 c2 : Nat) (sh st : List Int) (cells : Int) (w : World) (h1 : Row w a1 n1 sh) (h2 : Row w a2 n2 st) (hn : n1 ≤ 20000) :
    Calls Tryz.prog 27 #[.agg #[.int .i64 c, .slice a1 n1 c1, .slice a2 n2 c2], .int .i64 cells] w (PlacesA n1 sh (places c sh st cells) w) := by
  obtain ⟨W0, hW0⟩ : ∃ W0, W0 = (w.alloc (.cells #[.int .i64 c, .slice a1 n1 c1, .slice a2 n2 c2] 46)).alloc (.cells #[.bool false, .slice none 0 0, .slice none 0 0] 25) := ⟨_, rfl⟩
  have X4 : Hid (VBox W0 w.heap.size c (.slice a1 n1 c1) (.slice a2 n2 c2)) := by rw [hW0]; exact (VBox.new w _ _ _).alloc _
  have X5 : Hid (Box W0 (w.heap.size + 1) false (.slice none 0 0) (.slice none 0 0)) := by
    rw [hW0]
    have := Box.new (w.alloc (.cells #[.int .i64 c, .slice a1 n1 c1, .slice a2 n2 c2] 46)) false (.slice none 0 0) (.slice none 0 0)
    rw [World.size_alloc] at this
    exact this
  have HB : Hid (Below w.heap.size w W0) := by rw [hW0]; exact ((Below.refl _ _).alloc (Nat.le_refl _) _).alloc (by simp) _
  have H1 := hide (h1.below (Nat.le_refl _) (unhide HB))
  have H2 := hide (h2.below (Nat.le_refl _) (unhide HB))
  have hw05 : w.heap.size + 1 < W0.heap.size := (unhide X5).lt
  obtain ⟨ps, hps⟩ : ∃ p, p = places c sh st cells := ⟨_, rfl⟩
  have HPS := hide hps
  rw [← hps]
  clear h1 h2 hps
  have HKEEP : ∀ wx, But (fun k => k = w.heap.size + 1) W0 wx → wx.cell? ⟨w.heap.size, 0, none⟩ = some (.int .i64 c) ∧ wx.cell? ⟨w.heap.size, 1, none⟩ = some (.slice a1 n1 c1) ∧ wx.cell? ⟨w.heap.size, 2, none⟩ = some (.slice a2 n2 c2) := fun wx hwx => ((unhide X4).but hwx (by show ¬ w.heap.size = w.heap.size + 1; omega)).cells
  go_enter Tryz.func27, Tryz.ntmps27
  go_upto_region 1 with fail
  rw [← hW0]
  clear hW0
  go_region_held3 (fun wx => wx.cell? ⟨w.heap.size, 0, none⟩ = some (.int .i64 c) ∧ wx.cell? ⟨w.heap.size, 1, none⟩ = some (.slice a1 n1 c1) ∧ wx.cell? ⟨w.heap.size, 2, none⟩ = some (.slice a2 n2 c2)) (first | exact HKEEP _ (But.of_below (Below.refl _ _).drew) | exact HKEEP _ (But.of_below ((Below.refl _ _).alloc (Nat.le_refl _) _).drew) | exact HKEEP _ (But.of_below (unhide HKP)) | exact HKEEP _ (But.of_below (unhide HKA)) | exact HKEEP _ (But.of_below ((unhide HKP).alloc (unhide HKP).size _)) | exact HKEEP _ ((((But.of_below (S := fun k => k = w.heap.size + 1) (unhide HKP)).setCell (p := ⟨w.heap.size + 1, 0, none⟩) rfl _).setCell (p := ⟨w.heap.size + 1, 1, none⟩) rfl _).setCell (p := ⟨w.heap.size + 1, 2, none⟩) rfl _) | exact HKEEP _ ((((But.of_below (S := fun k => k = w.heap.size + 1) (unhide HKA)).setCell (p := ⟨w.heap.size + 1, 0, none⟩) rfl _).setCell (p := ⟨w.heap.size + 1, 1, none⟩) rfl _).setCell (p := ⟨w.heap.size + 1, 2, none⟩) rfl _))
    (first
    | (go_at_call 85; refine (places_new c a1 a2 n1 n2 c1 c2 sh st cells (VA) ((unhide H1).below (Nat.le_refl _) ((unhide HKA))) ((unhide H2).below (Nat.le_refl _) ((unhide HKA)))).mono ?_; rintro e wP ⟨b2, m2, d2, rfl, hO, hbP⟩; rw [← unhide HPS] at hO; have HKP : Hid (Below W0.heap.size W0 wP) := ((unhide HKA)).trans (hbP.mono ((unhide HKA)).size); have HPR := hide hO.row; have HPL := hide (fun x (hx : At b2 m2 x) => hO.low hx); have HOB := hide (owns_below (unhide HOA) (Nat.le_refl _) hbP); obtain ⟨q0, q1, q2, q3, q4, q5, q6⟩ := ((unhide X5).below (Nat.le_refl _) (unhide HKP)).all; clear hO hbP)
    | (go_at_call 85; refine (places_new c a1 a2 n1 n2 c1 c2 sh st cells ((W0.alloc (.cells #[] 3)).drew) ((unhide H1).below (Nat.le_refl _) ((((Below.refl W0.heap.size W0).alloc (Nat.le_refl _) (.cells #[] 3)).drew))) ((unhide H2).below (Nat.le_refl _) ((((Below.refl W0.heap.size W0).alloc (Nat.le_refl _) (.cells #[] 3)).drew)))).mono ?_; rintro e wP ⟨b2, m2, d2, rfl, hO, hbP⟩; rw [← unhide HPS] at hO; have HKP : Hid (Below W0.heap.size W0 wP) := ((((Below.refl W0.heap.size W0).alloc (Nat.le_refl _) (.cells #[] 3)).drew)).trans (hbP.mono ((((Below.refl W0.heap.size W0).alloc (Nat.le_refl _) (.cells #[] 3)).drew)).size); have HPR := hide hO.row; have HPL := hide (fun x (hx : At b2 m2 x) => hO.low hx); have HOW := hide (owns_below (owns_empty W0) (Nat.le_refl _) hbP); obtain ⟨q0, q1, q2, q3, q4, q5, q6⟩ := ((unhide X5).below (Nat.le_refl _) (unhide HKP)).all; clear hO hbP)
    | (go_at_call 85; refine (places_new c a1 a2 n1 n2 c1 c2 sh st cells (W0.drew) ((unhide H1).below (Nat.le_refl _) (((Below.refl W0.heap.size W0).drew))) ((unhide H2).below (Nat.le_refl _) (((Below.refl W0.heap.size W0).drew)))).mono ?_; rintro e wP ⟨b2, m2, d2, rfl, hO, hbP⟩; rw [← unhide HPS] at hO; have HKP : Hid (Below W0.heap.size W0 wP) := (((Below.refl W0.heap.size W0).drew)).trans (hbP.mono (((Below.refl W0.heap.size W0).drew)).size); have HPR := hide hO.row; have HPL := hide (fun x (hx : At b2 m2 x) => hO.low hx); skip; obtain ⟨q0, q1, q2, q3, q4, q5, q6⟩ := ((unhide X5).below (Nat.le_refl _) (unhide HKP)).all; clear hO hbP)
    | (refine step_append_srcV (V := wP) (by rfl) _ _ (by rfl) W0.heap.size _ (by rfl) (unhide HOW) a1 n1 c1 sh (by rfl) ((unhide H1).below (Nat.le_refl _) (unhide HKP)) hn ((unhide HKP).size) ?_; intro g' cap' VA hown hgr; have HKA : Hid (Below W0.heap.size W0 VA) := (unhide HKP).grown hgr (unhide HKP).size (by intro k hk; cases hk; exact Nat.le_refl _); have HOA := hide hown; have HPA : Hid (Row VA b2 m2 ps) := (but_grownV hgr).row (unhide HPR) (fun x hx hk => by have := unhide HPL x hk; simp at this; omega); obtain ⟨q0, q1, q2, q3, q4, q5, q6⟩ := ((unhide X5).below (Nat.le_refl _) (unhide HKA)).all; clear hown hgr)
    | (refine step_append_srcV (V := wP.alloc (.cells #[] 3)) (by rfl) _ _ (by rfl) W0.heap.size _ (by rfl) (owns_mono (owns_empty wP) (unhide HKP).size) a1 n1 c1 sh (by rfl) ((unhide H1).below (Nat.le_refl _) ((unhide HKP).alloc (unhide HKP).size _)) hn (by have := (unhide HKP).size; simp; omega) ?_; intro g' cap' VA hown hgr; have HKA : Hid (Below W0.heap.size W0 VA) := ((unhide HKP).alloc (unhide HKP).size _).grown hgr (by have := (unhide HKP).size; simp; omega) (by intro k hk; cases hk; exact (unhide HKP).size); have HOA := hide hown; have HPA : Hid (Row VA b2 m2 ps) := (but_grownV hgr).row ((unhide HPR).alloc _) (fun x hx hk => by have := (unhide HPR).hi hk; omega); obtain ⟨q0, q1, q2, q3, q4, q5, q6⟩ := ((unhide X5).below (Nat.le_refl _) (unhide HKA)).all; clear hown hgr)
    | (refine step_append_srcV (V := (W0.alloc (.cells #[] 3)).drew) (by rfl) _ _ (by rfl) W0.heap.size _ (by rfl) (owns_empty W0) a1 n1 c1 sh (by rfl) ((unhide H1).below (Nat.le_refl _) ((Below.refl W0.heap.size W0).alloc (Nat.le_refl _) (.cells #[] 3)).drew) hn (by simp) ?_; intro g' cap' VA hown hgr; have HKA : Hid (Below W0.heap.size W0 VA) := (((Below.refl W0.heap.size W0).alloc (Nat.le_refl _) (.cells #[] 3)).drew).grown hgr (by simp) (by intro k hk; cases hk; exact Nat.le_refl _); have HOA := hide hown; skip; obtain ⟨q0, q1, q2, q3, q4, q5, q6⟩ := ((unhide X5).below (Nat.le_refl _) (unhide HKA)).all; clear hown hgr))
  all_goals go_wp2_with fail
  all_goals first
    | (have hx := ((unhide X5).below (Nat.le_refl _) (unhide HKP)).sets (c' := false) (u1 := .slice (some ⟨g', 0, none⟩) n1 cap') (u2 := .slice b2 m2 d2); obtain ⟨r0, r1, r2, _, _, _⟩ := hx.all; refine bodyPost_ret (v := .agg #[.bool false, .slice (some ⟨g', 0, none⟩) n1 cap', .slice b2 m2 d2]) (by simp [results, Tryz.results27, go_sem, r0, r1, r2]) rfl ?_; have hbx := (unhide X5).below (Nat.le_refl _) (unhide HKP); obtain ⟨_, _, ev, hO1⟩ := Own.of_owns (unhide HOB) (by omega); cases ev; exact ⟨_, _, _, _, _, _, rfl, rfl, hO1.row.sets hbx _ _ _, (unhide HPR).sets hbx _ _ _, (((((unhide HB).trans ((unhide HKP).mono (unhide HB).size)).setCell (p := ⟨w.heap.size + 1, 0, none⟩) (by show _ ≤ w.heap.size + 1; omega) _).setCell (p := ⟨w.heap.size + 1, 1, none⟩) (by show _ ≤ w.heap.size + 1; omega) _).setCell (p := ⟨w.heap.size + 1, 2, none⟩) (by show _ ≤ w.heap.size + 1; omega) _)⟩)
    | (have hx := ((unhide X5).below (Nat.le_refl _) (unhide HKA)).sets (c' := false) (u1 := .slice (some ⟨g', 0, none⟩) n1 cap') (u2 := .slice b2 m2 d2); obtain ⟨r0, r1, r2, _, _, _⟩ := hx.all; refine bodyPost_ret (v := .agg #[.bool false, .slice (some ⟨g', 0, none⟩) n1 cap', .slice b2 m2 d2]) (by simp [results, Tryz.results27, go_sem, r0, r1, r2]) rfl ?_; have hbx := (unhide X5).below (Nat.le_refl _) (unhide HKA); obtain ⟨_, _, ev, hO1⟩ := Own.of_owns (unhide HOA) (by omega); cases ev; exact ⟨_, _, _, _, _, _, rfl, rfl, hO1.row.sets hbx _ _ _, (unhide HPA).sets hbx _ _ _, (((((unhide HB).trans ((unhide HKA).mono (unhide HB).size)).setCell (p := ⟨w.heap.size + 1, 0, none⟩) (by show _ ≤ w.heap.size + 1; omega) _).setCell (p := ⟨w.heap.size + 1, 1, none⟩) (by show _ ≤ w.heap.size + 1; omega) _).setCell (p := ⟨w.heap.size + 1, 2, none⟩) (by show _ ≤ w.heap.size + 1; omega) _)⟩)
end Go.Proofs.YtgjpchnkodnieaaGreatDoor
