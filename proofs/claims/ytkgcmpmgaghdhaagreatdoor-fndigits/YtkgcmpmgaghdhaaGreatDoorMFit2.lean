import Derived.Test.YtkgcmpmgaghdhaaGreatDoorMFit1
import Derived.Test.YtkgcmpmgaghdhaaGreatDoorMFit1
import Derived.Test.YtkgcmpmgaghdhaaGreatDoorMFit1
import Derived.Test.YtkgcmpmgaghdhaaGreatDoorMFit1
import Derived.Test.YtkgcmpmgaghdhaaGreatDoorMFit0
import Derived.Sort.CutIn
import Derived.Shelf.Abstract
import Derived.WalkKit
import Derived.Deep.DeepCutAuto
import Derived.Shelf.Spec.SlicesGrow
import Derived.Deep.WholeRow
import Derived.Test.YtkgcmpmgaghdhaaGreatDoorChecked
import Derived.LaidEql
import Derived.Stop.Asserts
import Derived.RowKitTokens
namespace Go.Proofs.YtkgcmpmgaghdhaaGreatDoor
open Go.RowKit Go.Shelf

attribute [local go_sem] Oper.semAt_some

/-- Behind k rounds: the digits so far lie in gd, what is left in pn. -/
def Digs (dt : List Int) (b : Int) (pn gd : Nat) (W : World) (k : Nat) (A : World) : Prop :=
  Blk A gd (digN dt b k) ∧ A.heap[pn]? = some (.cells #[.int .i64 (encLeft dt b k)] 3 (0, 0)) ∧ But (fun x => x = gd ∨ x = pn) W A

theorem Digs.putObj {dt : List Int} {b : Int} {pn gd : Nat} {W : World} {k : Nat} {A : World} {l : Nat} {o : Obj} (h : Digs dt b pn gd W k A) (hl : W.heap.size ≤ l) (ho : A.heap[l]? = some o) (hc : o.isCells = false) (o' : Obj) : Digs dt b pn gd W k (A.putObj l o') := by
  obtain ⟨h1, h2, h3⟩ := h
  have n1 : gd ≠ l := fun e => by subst e; rw [show A.heap[gd]? = _ from h1] at ho; cases ho; cases hc
  have n2 : pn ≠ l := fun e => by subst e; rw [h2] at ho; cases ho; cases hc
  have hb := below_putObj A hl o'
  exact ⟨(World.putObj_heap_other n1).trans h1, (World.putObj_heap_other n2).trans h2, hb.os.trans h3.os, hb.tape.trans h3.tape, hb.output.trans h3.output, Nat.le_trans h3.size hb.size, fun x hx hn => (hb.block x hx).trans (h3.block x hx hn)⟩

theorem Digs.alloc {dt : List Int} {b : Int} {pn gd : Nat} {W : World} {k : Nat} {A : World} (h : Digs dt b pn gd W k A) (o : Obj) : Digs dt b pn gd W k (A.alloc o) := by
  obtain ⟨h1, h2, h3⟩ := h
  exact ⟨h1.alloc o, (Below.heap_alloc A o pn (Array.getElem?_eq_some_iff.1 h2).1).trans h2, h3.alloc o⟩

theorem Digs.drew {dt : List Int} {b : Int} {pn gd : Nat} {W : World} {k : Nat} {A : World} (h : Digs dt b pn gd W k A) : Digs dt b pn gd W k A.drew := ⟨h.1, h.2.1, h.2.2.drew⟩

set_option maxRecDepth 100000 in
set_option maxHeartbeats 4000000 in
theorem digitsOf_in (b : Int) (sa : Option Addr) (n cap : Nat) (dt : List Int) (w : World) (h : Row w sa n dt) (hd : ∀ k, k < dt.length → 0 ≤ dt.getD k 0 ∧ dt.getD k 0 ≤ 1000000000000000) (hb : -1000000000000000 ≤ b ∧ b ≤ 1000000000000000) :
    CallsIn Fence.wide 9 Tryz.prog 81 #[.int .i64 b, .slice sa n cap] w fun e w' => ∃ gd, e = .returned (.slice (some ⟨gd, 0, none⟩) n n) ∧ w.heap.size ≤ gd ∧ Blk w' gd ((List.range dt.length).map (encDigit dt b)) ∧ Below w.heap.size w w' := by
  have hlen := h.len
  have hsm := h.small
  have H := hide h
  have HD := hide hd
  have HBD := hide hb
  have HAT : Hid (∀ k, At sa n k → k < w.heap.size) := fun k hk => h.hi hk
  clear h hd hb
  have hmk := run_make_row' (P := Tryz.prog) 23 3 (.int .i64 0) 8 Tryz.underlying23 info_int rfl .i64 .i64 n (by omega) (by omega)
  refine callsIn_of_wp_marks Tryz.func81 rfl trivial ?_ rfl
  simp only [Tryz.ntmps81, List.size_toArray, List.length_cons, List.length_nil, Nat.reduceAdd, Nat.reduceSub, Array.replicate_succ, Array.replicate_zero, List.push_toArray, List.append_toArray, List.nil_append, List.cons_append]
  gi_wp2_with (refine ⟨trivial, ?_⟩; gi_at_call 132; refine (callsIn_wide.2 (Backward_any _ _ _ _)).mono ?_; rintro e wI ⟨rfl, hwI⟩; obtain rfl := hwI.symm)
  obtain ⟨p, hp⟩ : ∃ p, p = w.heap.size := ⟨_, rfl⟩
  obtain ⟨W, hW⟩ : ∃ W, W = (((w.alloc (.cells #[.int .i64 b] 3)).alloc (.cells (madeCells #[.int .i64 0] n) 3)).alloc (.cells #[.slice (some ⟨w.heap.size + 1, 0, none⟩) n n] 23)).alloc (.cells #[.slice sa n cap] 23) := ⟨_, rfl⟩
  have hzW : W.heap.size = p + 1 + 1 + 1 + 1 := by rw [hW, hp]; simp
  have HBW : Hid (Below p w W) := by rw [hW, hp]; exact ((((Below.refl _ w).alloc (Nat.le_refl _) _).alloc (by simp) _).alloc (by simp; omega) _).alloc (by simp; omega) _
  have HY0 : Hid (W.heap[p]? = some (.cells #[.int .i64 b] 3 (0, 0))) := by
    rw [hW, hp]; exact (Below.heap_alloc _ _ _ (by simp; omega)).trans ((Below.heap_alloc _ _ _ (by simp; omega)).trans ((Below.heap_alloc _ _ _ (by simp)).trans (World.alloc_heap_new w _)))
  have HY1 : Hid (Blk W (p + 1) (List.replicate n 0)) := by rw [hW, hp]; exact ((Blk.made _ n _ (by simp)).alloc _).alloc _
  have HY2 : Hid (W.heap[p + 1 + 1]? = some (.cells #[.slice (some ⟨p + 1, 0, none⟩) n n] 23 (0, 0))) := by
    rw [hW, hp]
    have := World.alloc_heap_new ((w.alloc (.cells #[.int .i64 b] 3)).alloc (.cells (madeCells #[.int .i64 0] n) 3)) (.cells #[.slice (some ⟨w.heap.size + 1, 0, none⟩) n n] 23)
    exact (Below.heap_alloc _ _ _ (by simp)).trans (by simpa using this)
  have HY3 : Hid (W.heap[p + 1 + 1 + 1]? = some (.cells #[.slice sa n cap] 23 (0, 0))) := by
    rw [hW, hp]
    have := World.alloc_heap_new (((w.alloc (.cells #[.int .i64 b] 3)).alloc (.cells (madeCells #[.int .i64 0] n) 3)).alloc (.cells #[.slice (some ⟨w.heap.size + 1, 0, none⟩) n n] 23)) (.cells #[.slice sa n cap] 23)
    rwa [World.size_alloc, World.size_alloc, World.size_alloc] at this
  have HW := hide (H.out.below (by omega) HBW.out)
  rw [← hW, ← hp]
  have HAT' : Hid (∀ k, At sa n k → k < p) := by rw [hp]; exact HAT
  have HP := hide hp
  clear hW hp HAT H hwI
  have h0 : Digs dt b p (p + 1) W 0 W := ⟨by rw [digN_zero, hlen]; exact HY1.out, HY0.out, But.refl _ _⟩
  have HC3 : Hid (∀ k A, Digs dt b p (p + 1) W k A → A.cell? ⟨p + 1 + 1 + 1, 0, none⟩ = some (.slice sa n cap) ∧ Row A sa n dt) := fun k A hA => by
    obtain ⟨_, _, hbut⟩ := hA
    refine ⟨?_, hbut.row HW.out (by rintro x (rfl | rfl) hx <;> have := HAT'.out _ hx <;> omega)⟩
    have h3 := (hbut.block (p + 1 + 1 + 1) (by omega) (by omega)).trans HY3.out
    simp [World.cell?, h3]
  refine range_when (gf := 170) (lb := #[.pointer (some ⟨p + 1 + 1 + 1, 0, none⟩)]) rfl eg_back (ar := backAr n dt) (fun _ => rfl) (back1_seq _ (p + 1 + 1 + 1) sa n cap dt hsm)
    (Digs dt b p (p + 1) W) HC3.out (fun k A l o o' h hl ho hc => h.putObj (by omega) ho hc o') (fun o o' => (h0.alloc o).alloc o')
    (fun k => { tmps := #[.int .i64 b, .slice sa n cap, .pointer (some ⟨p, 0, none⟩), undef, .slice none 0 0, .pointer (some ⟨p + 1 + 1, 0, none⟩), .int .i64 ((n - 1 - k : Nat) : Int), .int .i64 (dt.getD (n - 1 - k) 0), .slice sa n cap, .int .i64 (n : Nat), .slice (some ⟨p + 1, 0, none⟩) n n, .slice sa n cap, .func (.func 170) #[] #[.pointer (some ⟨p + 1 + 1 + 1, 0, none⟩)], .int .i64 ((n - 1 - k : Nat) : Int), .int .i64 (dt.getD (n - 1 - k) 0), undef, undef, undef, undef, undef, undef, undef, undef, undef, undef, undef, undef, undef, undef, undef, undef], defers := [] }) ?assign ?body ?done
  case assign =>
    intro l k A K hK
    unfold backAr
    gi_wp2
    exact hK
  case body =>
    rintro l k A hk ⟨hB, hN, hbut⟩
    clear h0 HC3
    have hmx : Tryz.prog.follows .mixedOrders = true := by kernel_rfl
    obtain ⟨j, hj⟩ : ∃ j : Nat, j = n - 1 - k := ⟨_, rfl⟩
    obtain ⟨a, ha⟩ : ∃ a, a = dt.getD j 0 := ⟨_, rfl⟩
    obtain ⟨x, hx⟩ : ∃ x, x = encLeft dt b k := ⟨_, rfl⟩
    obtain ⟨d, hd⟩ : ∃ d, d = modOf a x := ⟨_, rfl⟩
    have hjn : j < n := by omega
    have hab := HD.out j (by omega)
    rw [← ha] at hab
    have hxb := encLeft_bd (fun q hq => (HD.out q hq).1) HBD.out k (by omega)
    have hyb := encLeft_bd (fun q hq => (HD.out q hq).1) HBD.out (k + 1) (by omega)
    have hst := encLeft_step (dt := dt) (b := b) (k := k) (by rw [hlen, ← hj, ← ha]; exact hab.1)
    rw [hlen, ← hj, ← ha, ← hx, ← hd] at hst
    rw [← hx] at hxb
    obtain ⟨y, hy⟩ : ∃ y, y = encLeft dt b (k + 1) := ⟨_, rfl⟩
    rw [← hy] at hst hyb
    have hgs : (digN dt b k).set j d = digN dt b (k + 1) := by
      have h1 := digN_step dt b (k := k) (by omega)
      rw [encDigit_here (by omega), hlen, ← hj, ← ha, ← hx, ← hd] at h1
      exact h1
    have hdb : -1000000000000000 ≤ d ∧ d ≤ 1000000000000000 := by
      rw [hd]
      by_cases h0 : a = 0
      · subst h0; simp [modOf]; exact hxb
      · have h1 := div_left (x := x) (a := a) (by omega)
        unfold modOf
        rw [if_neg h0]
        have h2 := Int.tmod_lt_of_pos x (show 0 < a by omega)
        have h3 : -a < x.tmod a := Int.lt_tmod_of_pos x (by omega)
        split
        · rename_i h
          have h4 : x.tmod a < 0 := by
            by_cases h4 : x.tmod a < 0
            · exact h4
            · exfalso; apply h.2; rw [decide_eq_false h4, decide_eq_false (by omega)]
          omega
        · omega
    rw [← hj, ← ha]
    rw [← hx] at hN
    have cN : A.cell? ⟨p, 0, none⟩ = some (.int .i64 x) := by simp [World.cell?, hN]
    have cP : A.cell? ⟨p + 1 + 1, 0, none⟩ = some (.slice (some ⟨p + 1, 0, none⟩) n n) := by
      have h3 := (hbut.block (p + 1 + 1) (by omega) (by omega)).trans HY2.out
      simp [World.cell?, h3]
    have fG := hB.free j
    have hzA : p + 1 + 1 + 1 < A.heap.size := by have := hbut.size; omega
    have hBs := hB.set j d
    rw [hgs] at hBs
    have hNs : (A.setCell ⟨p + 1, j, none⟩ (.int .i64 d)).heap[p]? = some (.cells #[.int .i64 x] 3 (0, 0)) := (heap_setCell_other A _ p _ (by show p ≠ p + 1; omega)).trans hN
    have hbs : But (fun x => x = p + 1 ∨ x = p) A (A.setCell ⟨p + 1, j, none⟩ (.int .i64 d)) := (But.refl _ A).setCell (p := ⟨p + 1, j, none⟩) (.inl rfl) _
    have HA : Hid (But (fun x => x = p + 1 ∨ x = p) W A) := hbut
    obtain ⟨A1, hA1⟩ : ∃ A1, A1 = A.setCell ⟨p + 1, j, none⟩ (.int .i64 d) := ⟨_, rfl⟩
    rw [← hA1] at hBs hNs hbs
    have HB1 := hide hBs
    have HN1 := hide hNs
    have HA1 := hide hbs
    have HRES := hide (residue_any a x A (by omega) (by omega))
    rw [← hd] at HRES
    have HST := hide hst
    have HGS := hide hgs
    have HX := hide hx
    have HY := hide hy
    have HDD := hide hd
    have HBB := hide hB
    have hwz : (digN dt b k).length = n := by rw [digN_len, hlen]
    have cG := hB.cell (i := j) (by rw [hwz]; exact hjn)
    clear hst hgs hx hy hd hB hN hbut hBs hNs hbs ha hj hwz
    have HC1 : Hid (A1.cell? ⟨p + 1, j, none⟩ = some (.int .i64 d) ∧ A1.cell? ⟨p, 0, none⟩ = some (.int .i64 x) ∧ A1.frozen? ⟨p, 0, none⟩ = false ∧ A1.cell? ⟨p + 1 + 1, 0, none⟩ = some (.slice (some ⟨p + 1, 0, none⟩) n n)) := by
      have hG1 := HB1.out.cell (i := j) (by rw [digN_len, hlen]; exact hjn)
      rw [← HGS.out] at hG1
      have h3 := (HA1.out.block (p + 1 + 1) (by omega) (by omega)).trans ((HA.out.block (p + 1 + 1) (by omega) (by omega)).trans HY2.out)
      refine ⟨?_, ?_, frozen_of_row A1 p 0 _ _ HN1.out, ?_⟩
      · rw [hG1]; simp [List.getD, show j < (digN dt b k).length from by rw [digN_len, hlen]; exact hjn]
      · simp [World.cell?, HN1.out]
      · simp [World.cell?, h3]
    have HK : Hid (KeepsOthers A (A1.setCell ⟨p, 0, none⟩ (.int .i64 y))) := by rw [hA1]; exact (KeepsOthers.setCell _ _ _).trans (KeepsOthers.setCell _ _ _)
    have HX2 : Hid (Digs dt b p (p + 1) W (k + 1) (A1.setCell ⟨p, 0, none⟩ (.int .i64 y))) := by
      refine ⟨HB1.out.other (p := ⟨p, 0, none⟩) (by show p + 1 ≠ p; omega) _, ?_, ?_⟩
      · rw [← HY.out, heap_setCell_same A1 p 0 _ _ _ HN1.out]; simp
      · exact ((HA.out.trans HA1.out).mono (by rintro q (h | h) <;> exact h)).setCell (p := ⟨p, 0, none⟩) (.inr rfl) _
    have HZA1 : Hid (p + 1 + 1 + 1 < A1.heap.size) := Nat.lt_of_lt_of_le hzA HA1.out.size
    have HE1 := hide hA1
    clear hA1 HB1 HN1 HA1 HA HBB HRES HGS
    obtain ⟨mx, hm2⟩ : ∃ mx, (if a < 1 then 1 else a) = mx := ⟨_, rfl⟩
    have hq0 : ¬ mx = 0 := by rw [← hm2]; split <;> omega
    obtain ⟨u, hu⟩ : ∃ u, u = x - d := ⟨_, rfl⟩
    have HUS : Hid (IntKind.i64.wrap (x - d) = u ∧ x - d = u ∧ u.tdiv mx = y ∧ -2000000000000000 ≤ u ∧ u ≤ 2000000000000000 ∧ (if a < 1 then 1 else a) = mx) := ⟨by rw [IntKind.wrap_i64, hu]; omega, hu.symm, by have h1 := HST.out; rw [hm2, ← hu] at h1; exact h1.symm, by omega, by omega, hm2⟩
    clear hu HST HY hm2
    gi_wp2_with fail
    gi_cut [] from 15 (fun wx => A1.drew = wx)
    case first =>
      rename_i J K' hRJ hMK
      gi_region_with_o (first | (refine ⟨trivial, ?_⟩; gi_at_call 133; refine (CallsIn.inRound l (callsIn_wide.2 (residue_any a x _ (by omega) (by omega)))).mono ?_; rintro e wP ⟨rfl, hwP⟩; obtain rfl := hwP.symm; rw [← HDD.out]))
      all_goals (refine hMK _ _ (Met.intro (hRJ _ _ ?_)); (repeat apply Exists.intro); exact ⟨by rw [HE1.out], rfl⟩)
    case rest =>
      subst hcut
      clear cN cP fG cG hzA HE1
      obtain ⟨cG1, cN1, fN1, cP1⟩ := HC1.out
      have hzA1 := HZA1.out
      obtain ⟨hus, hxd, hut, hu1, hu2, hm2⟩ := HUS.out
      clear HC1 HZA1 HDD HUS
      gi_wp2_with fail
      refine regionD _ A1.drew (by simp) p j n x d u a mx y rfl rfl rfl rfl hjn hus hm2 hq0 hut hyb cG1 cN1 fN1 cP1 (fun _ _ _ _ _ h => h) (by rintro ⟨_, _, h⟩; exact h) ?_
      exact ⟨(HK.out.trans ((KeepsOthers.drew _).trans (KeepsOthers.drew _))).from _, HX2.out.drew.drew⟩
  case done =>
    rintro D A hD ⟨hB, hN, hbut⟩ hK
    have h3 := (hbut.block (p + 1 + 1) (by omega) (by omega)).trans HY2.out
    have cP : A.cell? ⟨p + 1 + 1, 0, none⟩ = some (.slice (some ⟨p + 1, 0, none⟩) n n) := by simp [World.cell?, h3]
    have HBT := hide hbut
    have HB := hide hB
    clear hB hN hbut h3 h0
    gi_wp2
    refine ⟨by simp, .inl ⟨_, _, rfl, run_takeDeferred hK, ?_⟩⟩
    refine ⟨_, results_tmp rfl _ _ _, p + 1, rfl, by rw [← HP.out]; omega, ?_, ?_⟩
    · rw [← digN_all, hlen]
      have hlB := HB.out
      have hne : p + 1 ≠ D := by omega
      exact (World.putObj_heap_other hne).trans hlB
    · rw [← HP.out]
      exact (HBW.out.trans (HBT.out.below (B := p) (by omega) (by rintro x (rfl | rfl) <;> omega))).trans (below_putObj A (by omega) _)

theorem digitsOf_any (b : Int) (sa : Option Addr) (n cap : Nat) (dt : List Int) (w : World) (h : Row w sa n dt) (hd : ∀ k, k < dt.length → 0 ≤ dt.getD k 0 ∧ dt.getD k 0 ≤ 1000000000000000) (hb : -1000000000000000 ≤ b ∧ b ≤ 1000000000000000) :
    Calls Tryz.prog 81 #[.int .i64 b, .slice sa n cap] w fun e w' => ∃ gd, e = .returned (.slice (some ⟨gd, 0, none⟩) n n) ∧ w.heap.size ≤ gd ∧ Blk w' gd ((List.range dt.length).map (encDigit dt b)) ∧ Below w.heap.size w w' :=
  callsIn_wide.1 (digitsOf_in b sa n cap dt w h hd hb)

end Go.Proofs.YtkgcmpmgaghdhaaGreatDoor
namespace Go.Proofs.YtkgcmpmgaghdhaaGreatDoor
open Go.RowKit Go.Shelf

theorem eg_neg : ∀ args w, (callFunc 123 args).run Tryz.prog w = .ok (.enter 123 args) w := enters_of Tryz.func123 (by kernel_rfl) rfl

theorem negClo (v : Int) (w : World) : Calls Tryz.prog 123 #[.int .i64 v] w fun e w' => e = .returned (.bool (decide (v < 0))) ∧ w' = w := by
  go_enter Tryz.func123, Tryz.ntmps123
  go_wp2
  go_ret
  exact ⟨rfl, rfl⟩

theorem neg_found {dt : List Int} {k : Nat} (hk : k < dt.length) (h : dt.getD k 0 < 0) : dt.all nonNeg = false := by
  cases e : dt.all nonNeg with
  | false => rfl
  | true =>
    have hm : dt.getD k 0 ∈ dt := by simp [List.getD, hk]
    have h2 := List.all_eq_true.1 e _ hm
    unfold nonNeg at h2
    have := of_decide_eq_true h2
    omega

theorem neg_none {dt : List Int} (h : ∀ k, k < dt.length → 0 ≤ dt.getD k 0) : dt.all nonNeg = true := by
  rw [List.all_eq_true]
  intro x hx
  obtain ⟨k, hk, rfl⟩ := List.getElem_of_mem hx
  have := h k hk
  simp [List.getD, hk] at this
  simp [nonNeg]
  exact this

set_option maxHeartbeats 1000000 in
theorem IndexFunc_neg (a : Option Addr) (n cap : Nat) (dt : List Int) (w : World) (h : Row w a n dt) : Calls Tryz.prog 161 #[.slice a n cap, .func (.func 123) #[] #[]] w fun e w' => (∃ v : Int, e = .returned (.int .i64 v) ∧ decide (0 ≤ v) = !dt.all nonNeg) ∧ w' = w := by
  have hl := hide h.len
  have hsm := h.small
  have H := hide h
  clear h
  have heg := eg_neg
  go_enter Tryz.func161, Tryz.ntmps161
  go_wp2_with fail
  go_loopw [8] (fun i wr => ∃ k : Nat, k ≤ n ∧ i = .int .i64 (k : Nat) ∧ wr = w ∧ Hid (∀ j, j < k → 0 ≤ dt.getD j 0)) (fun i _ => n - (intOf i).toNat)
  case atStart => exact ⟨0, Nat.zero_le _, rfl, rfl, fun j hj => absurd hj (Nat.not_lt_zero _)⟩
  case round =>
    obtain ⟨k, hk, rfl, hw, hno⟩ := hrel
    subst hw
    by_cases hlt : k < n
    · obtain ⟨b, off, rfl, hblt, hc⟩ := H.out.get hlt
      obtain ⟨v, hv⟩ : ∃ v, v = dt.getD k 0 := ⟨_, rfl⟩
      rw [← hv] at hc
      by_cases hneg : v < 0
      · have HA : Hid (dt.all nonNeg = false) := neg_found (k := k) (by rw [hl.out]; exact hlt) (by rw [← hv]; exact hneg)
        have hd : decide (v < 0) = true := decide_eq_true hneg
        clear hv
        go_wp2_with (go_at_call 123; refine (negClo _ _).mono ?_; rintro e w' ⟨rfl, rfl⟩; rw [hd])
        go_ret
        exact ⟨⟨_, rfl, by rw [HA.out, decide_eq_true (by omega)]; rfl⟩, rfl⟩
      · have hd : decide (v < 0) = false := decide_eq_false hneg
        have HV := hide hv
        clear hv
        go_wp2_with (go_at_call 123; refine (negClo _ _).mono ?_; rintro e w' ⟨rfl, rfl⟩; rw [hd])
        go_roundw
        case rel => exact ⟨k + 1, by omega, by go_num, by first | rfl | trivial, fun j hj => by
          by_cases e : j = k
          · subst e; rw [← HV.out]; omega
          · exact hno.out j (by omega)⟩
        case measure => simp [intOf]; omega
    · have : k = n := by omega
      subst this
      have HA : Hid (dt.all nonNeg = true) := neg_none (fun j hj => hno.out j (by rw [← hl.out]; exact hj))
      go_wp2_with fail
      go_ret
      exact ⟨⟨_, rfl, by rw [HA.out]; rfl⟩, rfl⟩

set_option maxHeartbeats 1000000 in
theorem ContainsFunc_neg (a : Option Addr) (n cap : Nat) (dt : List Int) (w : World) (h : Row w a n dt) (r : Bool) (hr : Hid ((!dt.all nonNeg) = r)) : Calls Tryz.prog 122 #[.slice a n cap, .func (.func 123) #[] #[]] w fun e w' => e = .returned (.bool r) ∧ w' = w := by
  have H := hide h
  clear h
  go_enter Tryz.func122, Tryz.ntmps122
  go_wp2_with (go_at_call 161; refine (IndexFunc_neg _ _ _ dt _ H.out).mono ?_; rintro e w' ⟨⟨v, rfl, hv⟩, rfl⟩; have HV := hide hv; clear hv)
  go_ret
  exact ⟨ret_bool (by rw [HV.out, hr.out]), rfl⟩

set_option maxHeartbeats 1000000 in
theorem hasBelow0_eq (a : Option Addr) (n cap : Nat) (dt : List Int) (w : World) (h : Row w a n dt) (r : Bool) (hr : Hid ((!dt.all nonNeg) = r)) : Calls Tryz.prog 64 #[.slice a n cap] w fun e w' => e = .returned (.bool r) ∧ w' = w := by
  have H := hide h
  clear h
  go_enter Tryz.func64, Tryz.ntmps64
  go_wp2_with (go_at_call 122; refine (ContainsFunc_neg _ _ _ dt _ H.out _ hr).mono ?_; rintro e w' ⟨rfl, rfl⟩)
  go_ret
  exact ⟨rfl, rfl⟩

end Go.Proofs.YtkgcmpmgaghdhaaGreatDoor
namespace Go.Proofs.YtkgcmpmgaghdhaaGreatDoor
open Go.RowKit

set_option maxHeartbeats 1000000 in
theorem elementsOk_any (c : Bool) (a1 a2 : Option Addr) (n1 n2 c1 c2 : Nat) (dt : List Int) (w : World) (h2 : Row w a2 n2 dt) :
    Calls Tryz.prog 113 #[.agg #[.bool c, .slice a1 n1 c1, .slice a2 n2 c2]] w fun e w' => e = .returned (.bool (dt.all (dataOk c))) ∧ Below w.heap.size w w' := by
  have hl2 := hide h2.len
  have hs2 := h2.small
  have H2 := hide h2
  clear h2
  have hW : ∀ o, Below w.heap.size w (w.alloc o) := fun o => (Below.refl _ _).alloc (Nat.le_refl _) _
  cases c with
  | true =>
    go_enter Tryz.func113, Tryz.ntmps113
    go_wp2
    go_loop [5, 11] (fun _ i => ∃ k : Nat, k ≤ n2 ∧ i = .int .i64 k ∧ Hid ((dt.take k).all (dataOk true) = true)) (fun _ i => n2 - (intOf i).toNat)
    case atStart => exact ⟨0, Nat.zero_le _, rfl, rfl⟩
    case round =>
      obtain ⟨k, hk, rfl, hall⟩ := hrel
      by_cases hlt : k < n2
      · obtain ⟨b, off, rfl, hblt, hc⟩ := (unhide H2).get hlt
        have hks : Hid (k < dt.length) := by show k < dt.length; rw [unhide hl2]; exact hlt
        obtain ⟨x, hx⟩ : ∃ x, x = dt.getD k 0 := ⟨_, rfl⟩
        rw [← hx] at hc
        have HX := hide hx
        clear hx
        cases hr : dataOk true x with
        | true =>
          have HA := hide (all_step dt (dataOk true) k (unhide hks) (unhide hall) (by rw [← unhide HX, hr]))
          have HR := hide hr
          clear hr
          go_wp2_with (go_at_call 143; refine (isCharacter_any _ _).mono ?_; rintro e w' ⟨rfl, rfl⟩; rw [unhide HR])
          go_round
          case rel => exact ⟨k + 1, by omega, by go_num, HA⟩
          case measure => simp [intOf]; omega
        | false =>
          have HE := hide (all_not dt (dataOk true) k (unhide hks) (by rw [← unhide HX, hr]))
          have HR := hide hr
          clear hr
          go_wp2_with (go_at_call 143; refine (isCharacter_any _ _).mono ?_; rintro e w' ⟨rfl, rfl⟩; rw [unhide HR])
          go_ret
          exact ⟨ret_bool HE.out.symm, hW _⟩
      · have HA : Hid (dt.all (dataOk true) = true) := by
          have := unhide hall
          rwa [List.take_of_length_le (by rw [unhide hl2]; omega)] at this
        go_wp2
        go_ret
        exact ⟨ret_bool HA.out.symm, hW _⟩
  | false =>
    go_enter Tryz.func113, Tryz.ntmps113
    go_wp2
    go_loop [5, 11] (fun _ i => ∃ k : Nat, k ≤ n2 ∧ i = .int .i64 k ∧ Hid ((dt.take k).all (dataOk false) = true)) (fun _ i => n2 - (intOf i).toNat)
    case atStart => exact ⟨0, Nat.zero_le _, rfl, rfl⟩
    case round =>
      obtain ⟨k, hk, rfl, hall⟩ := hrel
      by_cases hlt : k < n2
      · obtain ⟨b, off, rfl, hblt, hc⟩ := (unhide H2).get hlt
        have hks : Hid (k < dt.length) := by show k < dt.length; rw [unhide hl2]; exact hlt
        obtain ⟨x, hx⟩ : ∃ x, x = dt.getD k 0 := ⟨_, rfl⟩
        rw [← hx] at hc
        have HX := hide hx
        clear hx
        cases hr : dataOk false x with
        | true =>
          have HA := hide (all_step dt (dataOk false) k (unhide hks) (unhide hall) (by rw [← unhide HX, hr]))
          have HR := hide hr
          clear hr
          go_wp2_with (go_at_call 142; refine (isNumber_any _ _).mono ?_; rintro e w' ⟨rfl, rfl⟩; rw [unhide HR])
          go_round
          case rel => exact ⟨k + 1, by omega, by go_num, HA⟩
          case measure => simp [intOf]; omega
        | false =>
          have HE := hide (all_not dt (dataOk false) k (unhide hks) (by rw [← unhide HX, hr]))
          have HR := hide hr
          clear hr
          go_wp2_with (go_at_call 142; refine (isNumber_any _ _).mono ?_; rintro e w' ⟨rfl, rfl⟩; rw [unhide HR])
          go_ret
          exact ⟨ret_bool HE.out.symm, hW _⟩
      · have HA : Hid (dt.all (dataOk false) = true) := by
          have := unhide hall
          rwa [List.take_of_length_le (by rw [unhide hl2]; omega)] at this
        go_wp2
        go_ret
        exact ⟨ret_bool HA.out.symm, hW _⟩

theorem elementsOk_eq (c : Bool) (a1 a2 : Option Addr) (n1 n2 c1 c2 : Nat) (dt : List Int) (w : World) (h2 : Row w a2 n2 dt) (r : Bool) (hr : Hid (dt.all (dataOk c) = r)) :
    Calls Tryz.prog 113 #[.agg #[.bool c, .slice a1 n1 c1, .slice a2 n2 c2]] w fun e w' => e = .returned (.bool r) ∧ Below w.heap.size w w' := by
  rw [← hr.out]; exact elementsOk_any c a1 a2 n1 n2 c1 c2 dt w h2

theorem arr_shape {c : Bool} {sh dt : List Int} (h : shapeB sh = false) : arrOk c sh dt = false := by
  unfold arrOk; unfold shapeB at h
  by_cases h1 : sh.length ≤ 5
  · rw [decide_eq_true h1] at h
    have h2 : ¬ 0 ≤ countOf sh := by simpa using h
    rw [decide_eq_false (p := countOf sh = _) (by omega)]; simp
  · rw [decide_eq_false h1]; rfl

set_option maxHeartbeats 1000000 in
theorem implArrayOk_any (c : Bool) (a1 a2 : Option Addr) (n1 n2 c1 c2 : Nat) (sh dt : List Int) (w : World) (h1 : Row w a1 n1 sh) (h2 : Row w a2 n2 dt) :
    Calls Tryz.prog 43 #[.agg #[.bool c, .slice a1 n1 c1, .slice a2 n2 c2]] w fun e w' => e = .returned (.bool (arrOk c sh dt)) ∧ Below w.heap.size w w' := by
  have hl1 := hide h1.len
  have hl2 := hide h2.len
  have hs1 := h1.small
  have hs2 := h2.small
  have H1 := hide h1
  have H2 := hide h2
  clear h1 h2
  have hW : ∀ o, Below w.heap.size w (w.alloc o) := fun o => (Below.refl _ _).alloc (Nat.le_refl _) _
  cases hsb : shapeB sh with
  | false =>
    have HS := hide hsb
    have HE := hide (arr_shape (c := c) (dt := dt) hsb)
    clear hsb
    go_enter Tryz.func43, Tryz.ntmps43
    go_wp2
    go_quiet ((go_at_call 67; exact Calls.quiet_of_same (shapeOk_eq _ _ _ sh _ (((unhide H1).alloc _).drewN _) false HS)))
    go_wp2
    go_ret
    exact ⟨ret_bool HE.out.symm, Below.drewN (hW _) _⟩
  | true =>
    have HS := hide hsb
    clear hsb
    obtain ⟨cn, hcn⟩ : ∃ cn, countOf sh = cn := ⟨_, rfl⟩
    have HC := hide hcn
    clear hcn
    by_cases hcn : cn = n2
    · have hb : ((n2 : Int) == cn) = true := by simp [hcn]
      have HCN := hide hcn
      clear hcn
      obtain ⟨r, hr⟩ : ∃ r, dt.all (dataOk c) = r := ⟨_, rfl⟩
      have HR := hide hr
      clear hr
      have HE : Hid (arrOk c sh dt = r) := by
        show _ = _
        have h5 := unhide HS
        unfold shapeB at h5
        simp only [Bool.and_eq_true, decide_eq_true_eq] at h5
        unfold arrOk
        rw [unhide HR, decide_eq_true h5.1, decide_eq_true (by rw [unhide HC, unhide HCN, unhide hl2])]; rfl
      go_enter Tryz.func43, Tryz.ntmps43
      go_wp2_with fail
      go_cut [2] (fun r' wr => r' = .bool r ∧ Below w.heap.size w wr)
      case first =>
        go_region_with (first
          | (go_at_call 67; refine (shapeOk_eq _ _ _ sh _ (by first | exact ((unhide H1).alloc _).drew | exact (((unhide H1).alloc _).drewN _)) true HS).mono ?_; rintro e w' ⟨rfl, rfl⟩)
          | (go_at_call 51; refine (cellsOf_count _ _ _ sh _ (by first | exact ((unhide H1).alloc _).drew | exact (((unhide H1).alloc _).drewN _)) (unhide HS) cn HC).mono ?_; rintro e w' ⟨rfl, rfl⟩)
          | (go_at_call 113; refine (elementsOk_eq _ _ _ _ _ _ _ dt _ (by first | exact ((unhide H2).alloc _).drew | exact (((unhide H2).alloc _).drewN _)) r HR).mono ?_; rintro e w' ⟨rfl, hbe⟩))
        all_goals go_wp2_with fail
        all_goals (go_meet; case rel => exact ⟨rfl, (hW _).drew.trans (hbe.mono (by simp))⟩)
      case rest =>
        obtain ⟨rfl, hbc⟩ := hcut
        go_wp2
        go_ret
        exact ⟨ret_bool HE.out.symm, hbc⟩
    · have hb : ((n2 : Int) == cn) = false := by simp; omega
      have HE := hide (arr_count (c := c) (sh := sh) (unhide hl2) (by rw [unhide HC]; exact hcn))
      clear hcn
      go_enter Tryz.func43, Tryz.ntmps43
      go_wp2
      go_quiet (first | (go_at_call 67; exact Calls.quiet_of_same (shapeOk_eq _ _ _ sh _ (((unhide H1).alloc _).drewN _) true HS)) | (go_at_call 51; exact Calls.quiet_of_same (cellsOf_count _ _ _ sh _ (((unhide H1).alloc _).drewN _) (unhide HS) cn HC)))
      go_wp2
      go_ret
      exact ⟨ret_bool HE.out.symm, Below.drewN (hW _) _⟩

theorem implArrayOk_eq (c : Bool) (a1 a2 : Option Addr) (n1 n2 c1 c2 : Nat) (sh dt : List Int) (w : World) (h1 : Row w a1 n1 sh) (h2 : Row w a2 n2 dt) (r : Bool) (hr : Hid (arrOk c sh dt = r)) :
    Calls Tryz.prog 43 #[.agg #[.bool c, .slice a1 n1 c1, .slice a2 n2 c2]] w fun e w' => e = .returned (.bool r) ∧ Below w.heap.size w w' := by
  rw [← hr.out]; exact implArrayOk_any c a1 a2 n1 n2 c1 c2 sh dt w h1 h2

end Go.Proofs.YtkgcmpmgaghdhaaGreatDoor
namespace Go.Proofs.YtkgcmpmgaghdhaaGreatDoor
open Go.RowKit

set_option maxRecDepth 20000 in
set_option maxHeartbeats 4000000 in
theorem listCode_bad1 (c d : Bool) (a1 a2 b1 b2 : Option Addr) (n1 n2 m1 m2 c1 c2 d1 d2 : Nat) (sh dt sh' dt' : List Int) (w : World) (h1 : Row w a1 n1 sh) (h2 : Row w a2 n2 dt) (k1 : Row w b1 m1 sh') (k2 : Row w b2 m2 dt') (hok : arrOk c sh dt = false) :
    Calls Tryz.prog 59 #[.agg #[.bool c, .slice a1 n1 c1, .slice a2 n2 c2], .agg #[.bool d, .slice b1 m1 d1, .slice b2 m2 d2]] w fun e w' => e = .returned (.int .i64 3) ∧ Below w.heap.size w w' := by
  obtain ⟨W0, hW0⟩ : ∃ W0, W0 = (w.alloc (.cells #[.bool c, .slice a1 n1 c1, .slice a2 n2 c2] 25)).alloc (.cells #[.bool d, .slice b1 m1 d1, .slice b2 m2 d2] 25) := ⟨_, rfl⟩
  have hz0 : W0.heap.size = w.heap.size + 2 := by rw [hW0]; simp
  have HB0 : Hid (Below w.heap.size w W0) := by rw [hW0]; exact ((Below.refl _ w).alloc (Nat.le_refl _) _).alloc (by simp) _
  have HX0 : Hid (Box W0 w.heap.size c (.slice a1 n1 c1) (.slice a2 n2 c2)) := by rw [hW0]; exact (Box.new w _ _ _).alloc _
  have HX1 : Hid (Box W0 (w.heap.size + 1) d (.slice b1 m1 d1) (.slice b2 m2 d2)) := by
    rw [hW0]
    show Box _ _ _ _ _
    have := Box.new (w.alloc (.cells #[.bool c, .slice a1 n1 c1, .slice a2 n2 c2] 25)) d (.slice b1 m1 d1) (.slice b2 m2 d2)
    simpa using this
  have H1 := hide (h1.below (Nat.le_refl _) HB0.out)
  have H2 := hide (h2.below (Nat.le_refl _) HB0.out)
  have K1 := hide (k1.below (Nat.le_refl _) HB0.out)
  have K2 := hide (k2.below (Nat.le_refl _) HB0.out)
  have hs1 := h1.small
  have HW0 := hide hW0
  have HR := hide hok
  clear h1 h2 k1 k2 hok hW0
  go_enter Tryz.func59, Tryz.ntmps59
  go_wp2_with (first | (go_at_call_of 43 (Value.slice a1 n1 c1); rw [← HW0.out]; refine (implArrayOk_eq _ _ _ _ _ _ _ sh dt _ H1.out H2.out _ HR).mono ?_; rintro e w1 ⟨rfl, hb1⟩; have HE1 := hide hb1; clear hb1; obtain ⟨x0, x1, x2, _, _, _⟩ := (HX0.out.below (Nat.le_refl _) HE1.out).all; obtain ⟨y0, y1, y2, _, _, _⟩ := (HX1.out.below (Nat.le_refl _) HE1.out).all; have hp1 : w.heap.size + 1 < w1.heap.size := (by have := HE1.out.size; omega)))
  go_ret
  exact ⟨rfl, HB0.out.trans (HE1.out.mono (by omega))⟩

set_option maxRecDepth 20000 in
set_option maxHeartbeats 4000000 in
theorem listCode_bad2 (c d : Bool) (a1 a2 b1 b2 : Option Addr) (n1 n2 m1 m2 c1 c2 d1 d2 : Nat) (sh dt sh' dt' : List Int) (w : World) (h1 : Row w a1 n1 sh) (h2 : Row w a2 n2 dt) (k1 : Row w b1 m1 sh') (k2 : Row w b2 m2 dt') (hok : arrOk c sh dt = true) (hok' : arrOk d sh' dt' = false) :
    Calls Tryz.prog 59 #[.agg #[.bool c, .slice a1 n1 c1, .slice a2 n2 c2], .agg #[.bool d, .slice b1 m1 d1, .slice b2 m2 d2]] w fun e w' => e = .returned (.int .i64 3) ∧ Below w.heap.size w w' := by
  obtain ⟨W0, hW0⟩ : ∃ W0, W0 = (w.alloc (.cells #[.bool c, .slice a1 n1 c1, .slice a2 n2 c2] 25)).alloc (.cells #[.bool d, .slice b1 m1 d1, .slice b2 m2 d2] 25) := ⟨_, rfl⟩
  have hz0 : W0.heap.size = w.heap.size + 2 := by rw [hW0]; simp
  have HB0 : Hid (Below w.heap.size w W0) := by rw [hW0]; exact ((Below.refl _ w).alloc (Nat.le_refl _) _).alloc (by simp) _
  have HX0 : Hid (Box W0 w.heap.size c (.slice a1 n1 c1) (.slice a2 n2 c2)) := by rw [hW0]; exact (Box.new w _ _ _).alloc _
  have HX1 : Hid (Box W0 (w.heap.size + 1) d (.slice b1 m1 d1) (.slice b2 m2 d2)) := by
    rw [hW0]
    show Box _ _ _ _ _
    have := Box.new (w.alloc (.cells #[.bool c, .slice a1 n1 c1, .slice a2 n2 c2] 25)) d (.slice b1 m1 d1) (.slice b2 m2 d2)
    simpa using this
  have H1 := hide (h1.below (Nat.le_refl _) HB0.out)
  have H2 := hide (h2.below (Nat.le_refl _) HB0.out)
  have K1 := hide (k1.below (Nat.le_refl _) HB0.out)
  have K2 := hide (k2.below (Nat.le_refl _) HB0.out)
  have hs1 := h1.small
  have HW0 := hide hW0
  have HR := hide hok
  have HR' := hide hok'
  clear hok'
  clear h1 h2 k1 k2 hok hW0
  go_enter Tryz.func59, Tryz.ntmps59
  go_wp2_with (first | (go_at_call_of 43 (Value.slice a1 n1 c1); rw [← HW0.out]; refine (implArrayOk_eq _ _ _ _ _ _ _ sh dt _ H1.out H2.out _ HR).mono ?_; rintro e w1 ⟨rfl, hb1⟩; have HE1 := hide hb1; clear hb1; obtain ⟨x0, x1, x2, _, _, _⟩ := (HX0.out.below (Nat.le_refl _) HE1.out).all; obtain ⟨y0, y1, y2, _, _, _⟩ := (HX1.out.below (Nat.le_refl _) HE1.out).all; have hp1 : w.heap.size + 1 < w1.heap.size := (by have := HE1.out.size; omega)) | (go_at_call 43; refine (implArrayOk_eq _ _ _ _ _ _ _ sh' dt' _ (K1.out.below (Nat.le_refl _) HE1.out) (K2.out.below (Nat.le_refl _) HE1.out) _ HR').mono ?_; rintro e w2 ⟨rfl, hb2⟩; have HE2 := hide (HE1.out.trans (hb2.mono HE1.out.size)); clear hb2 x0 x1 x2 y0 y1 y2; obtain ⟨x0, x1, x2, _, _, _⟩ := (HX0.out.below (Nat.le_refl _) HE2.out).all; have hp2 : w.heap.size + 1 < w2.heap.size := (by have := HE2.out.size; omega)))
  go_ret
  exact ⟨rfl, HB0.out.trans (HE2.out.mono (by omega))⟩

set_option maxRecDepth 20000 in
set_option maxHeartbeats 4000000 in
theorem listCode_long (c d : Bool) (a1 a2 b1 b2 : Option Addr) (n1 n2 m1 m2 c1 c2 d1 d2 : Nat) (sh dt sh' dt' : List Int) (w : World) (h1 : Row w a1 n1 sh) (h2 : Row w a2 n2 dt) (k1 : Row w b1 m1 sh') (k2 : Row w b2 m2 dt') (hok : arrOk c sh dt = true) (hok' : arrOk d sh' dt' = true) (hn : 1 < n1) :
    Calls Tryz.prog 59 #[.agg #[.bool c, .slice a1 n1 c1, .slice a2 n2 c2], .agg #[.bool d, .slice b1 m1 d1, .slice b2 m2 d2]] w fun e w' => e = .returned (.int .i64 4) ∧ Below w.heap.size w w' := by
  obtain ⟨W0, hW0⟩ : ∃ W0, W0 = (w.alloc (.cells #[.bool c, .slice a1 n1 c1, .slice a2 n2 c2] 25)).alloc (.cells #[.bool d, .slice b1 m1 d1, .slice b2 m2 d2] 25) := ⟨_, rfl⟩
  have hz0 : W0.heap.size = w.heap.size + 2 := by rw [hW0]; simp
  have HB0 : Hid (Below w.heap.size w W0) := by rw [hW0]; exact ((Below.refl _ w).alloc (Nat.le_refl _) _).alloc (by simp) _
  have HX0 : Hid (Box W0 w.heap.size c (.slice a1 n1 c1) (.slice a2 n2 c2)) := by rw [hW0]; exact (Box.new w _ _ _).alloc _
  have HX1 : Hid (Box W0 (w.heap.size + 1) d (.slice b1 m1 d1) (.slice b2 m2 d2)) := by
    rw [hW0]
    show Box _ _ _ _ _
    have := Box.new (w.alloc (.cells #[.bool c, .slice a1 n1 c1, .slice a2 n2 c2] 25)) d (.slice b1 m1 d1) (.slice b2 m2 d2)
    simpa using this
  have H1 := hide (h1.below (Nat.le_refl _) HB0.out)
  have H2 := hide (h2.below (Nat.le_refl _) HB0.out)
  have K1 := hide (k1.below (Nat.le_refl _) HB0.out)
  have K2 := hide (k2.below (Nat.le_refl _) HB0.out)
  have hs1 := h1.small
  have HW0 := hide hW0
  have HR := hide hok
  have HR' := hide hok'
  clear hok'
  clear h1 h2 k1 k2 hok hW0
  go_enter Tryz.func59, Tryz.ntmps59
  go_wp2_with (first | (go_at_call_of 43 (Value.slice a1 n1 c1); rw [← HW0.out]; refine (implArrayOk_eq _ _ _ _ _ _ _ sh dt _ H1.out H2.out _ HR).mono ?_; rintro e w1 ⟨rfl, hb1⟩; have HE1 := hide hb1; clear hb1; obtain ⟨x0, x1, x2, _, _, _⟩ := (HX0.out.below (Nat.le_refl _) HE1.out).all; obtain ⟨y0, y1, y2, _, _, _⟩ := (HX1.out.below (Nat.le_refl _) HE1.out).all; have hp1 : w.heap.size + 1 < w1.heap.size := (by have := HE1.out.size; omega)) | (go_at_call 43; refine (implArrayOk_eq _ _ _ _ _ _ _ sh' dt' _ (K1.out.below (Nat.le_refl _) HE1.out) (K2.out.below (Nat.le_refl _) HE1.out) _ HR').mono ?_; rintro e w2 ⟨rfl, hb2⟩; have HE2 := hide (HE1.out.trans (hb2.mono HE1.out.size)); clear hb2 x0 x1 x2 y0 y1 y2; obtain ⟨x0, x1, x2, _, _, _⟩ := (HX0.out.below (Nat.le_refl _) HE2.out).all; have hp2 : w.heap.size + 1 < w2.heap.size := (by have := HE2.out.size; omega)))
  go_ret
  exact ⟨rfl, HB0.out.trans (HE2.out.mono (by omega))⟩

set_option maxRecDepth 20000 in
set_option maxHeartbeats 4000000 in
theorem listCode_rest (c d : Bool) (a1 a2 b1 b2 : Option Addr) (n1 n2 m1 m2 c1 c2 d1 d2 : Nat) (sh dt sh' dt' : List Int) (w : World) (h1 : Row w a1 n1 sh) (h2 : Row w a2 n2 dt) (k1 : Row w b1 m1 sh') (k2 : Row w b2 m2 dt') (hok : arrOk c sh dt = true) (hok' : arrOk d sh' dt' = true) (hn : ¬ 1 < n1) :
    Calls Tryz.prog 59 #[.agg #[.bool c, .slice a1 n1 c1, .slice a2 n2 c2], .agg #[.bool d, .slice b1 m1 d1, .slice b2 m2 d2]] w fun e w' => e = .returned (.int .i64 (if c then 3 else 0)) ∧ Below w.heap.size w w' := by
  cases c with
  | false =>
    obtain ⟨W0, hW0⟩ : ∃ W0, W0 = (w.alloc (.cells #[.bool false, .slice a1 n1 c1, .slice a2 n2 c2] 25)).alloc (.cells #[.bool d, .slice b1 m1 d1, .slice b2 m2 d2] 25) := ⟨_, rfl⟩
    have hz0 : W0.heap.size = w.heap.size + 2 := by rw [hW0]; simp
    have HB0 : Hid (Below w.heap.size w W0) := by rw [hW0]; exact ((Below.refl _ w).alloc (Nat.le_refl _) _).alloc (by simp) _
    have HX0 : Hid (Box W0 w.heap.size false (.slice a1 n1 c1) (.slice a2 n2 c2)) := by rw [hW0]; exact (Box.new w _ _ _).alloc _
    have HX1 : Hid (Box W0 (w.heap.size + 1) d (.slice b1 m1 d1) (.slice b2 m2 d2)) := by
      rw [hW0]
      show Box _ _ _ _ _
      have := Box.new (w.alloc (.cells #[.bool false, .slice a1 n1 c1, .slice a2 n2 c2] 25)) d (.slice b1 m1 d1) (.slice b2 m2 d2)
      simpa using this
    have H1 := hide (h1.below (Nat.le_refl _) HB0.out)
    have H2 := hide (h2.below (Nat.le_refl _) HB0.out)
    have K1 := hide (k1.below (Nat.le_refl _) HB0.out)
    have K2 := hide (k2.below (Nat.le_refl _) HB0.out)
    have hs1 := h1.small
    have HW0 := hide hW0
    have HR := hide hok
    have HR' := hide hok'
    clear hok'
    clear h1 h2 k1 k2 hok hW0
    go_enter Tryz.func59, Tryz.ntmps59
    go_wp2_with (first | (go_at_call_of 43 (Value.slice a1 n1 c1); rw [← HW0.out]; refine (implArrayOk_eq _ _ _ _ _ _ _ sh dt _ H1.out H2.out _ HR).mono ?_; rintro e w1 ⟨rfl, hb1⟩; have HE1 := hide hb1; clear hb1; obtain ⟨x0, x1, x2, _, _, _⟩ := (HX0.out.below (Nat.le_refl _) HE1.out).all; obtain ⟨y0, y1, y2, _, _, _⟩ := (HX1.out.below (Nat.le_refl _) HE1.out).all; have hp1 : w.heap.size + 1 < w1.heap.size := (by have := HE1.out.size; omega)) | (go_at_call 43; refine (implArrayOk_eq _ _ _ _ _ _ _ sh' dt' _ (K1.out.below (Nat.le_refl _) HE1.out) (K2.out.below (Nat.le_refl _) HE1.out) _ HR').mono ?_; rintro e w2 ⟨rfl, hb2⟩; have HE2 := hide (HE1.out.trans (hb2.mono HE1.out.size)); clear hb2 x0 x1 x2 y0 y1 y2; obtain ⟨x0, x1, x2, _, _, _⟩ := (HX0.out.below (Nat.le_refl _) HE2.out).all; have hp2 : w.heap.size + 1 < w2.heap.size := (by have := HE2.out.size; omega)))
    go_ret
    exact ⟨rfl, HB0.out.trans (HE2.out.mono (by omega))⟩
  | true =>
    obtain ⟨W0, hW0⟩ : ∃ W0, W0 = (w.alloc (.cells #[.bool true, .slice a1 n1 c1, .slice a2 n2 c2] 25)).alloc (.cells #[.bool d, .slice b1 m1 d1, .slice b2 m2 d2] 25) := ⟨_, rfl⟩
    have hz0 : W0.heap.size = w.heap.size + 2 := by rw [hW0]; simp
    have HB0 : Hid (Below w.heap.size w W0) := by rw [hW0]; exact ((Below.refl _ w).alloc (Nat.le_refl _) _).alloc (by simp) _
    have HX0 : Hid (Box W0 w.heap.size true (.slice a1 n1 c1) (.slice a2 n2 c2)) := by rw [hW0]; exact (Box.new w _ _ _).alloc _
    have HX1 : Hid (Box W0 (w.heap.size + 1) d (.slice b1 m1 d1) (.slice b2 m2 d2)) := by
      rw [hW0]
      show Box _ _ _ _ _
      have := Box.new (w.alloc (.cells #[.bool true, .slice a1 n1 c1, .slice a2 n2 c2] 25)) d (.slice b1 m1 d1) (.slice b2 m2 d2)
      simpa using this
    have H1 := hide (h1.below (Nat.le_refl _) HB0.out)
    have H2 := hide (h2.below (Nat.le_refl _) HB0.out)
    have K1 := hide (k1.below (Nat.le_refl _) HB0.out)
    have K2 := hide (k2.below (Nat.le_refl _) HB0.out)
    have hs1 := h1.small
    have HW0 := hide hW0
    have HR := hide hok
    have HR' := hide hok'
    clear hok'
    clear h1 h2 k1 k2 hok hW0
    go_enter Tryz.func59, Tryz.ntmps59
    go_wp2_with (first | (go_at_call_of 43 (Value.slice a1 n1 c1); rw [← HW0.out]; refine (implArrayOk_eq _ _ _ _ _ _ _ sh dt _ H1.out H2.out _ HR).mono ?_; rintro e w1 ⟨rfl, hb1⟩; have HE1 := hide hb1; clear hb1; obtain ⟨x0, x1, x2, _, _, _⟩ := (HX0.out.below (Nat.le_refl _) HE1.out).all; obtain ⟨y0, y1, y2, _, _, _⟩ := (HX1.out.below (Nat.le_refl _) HE1.out).all; have hp1 : w.heap.size + 1 < w1.heap.size := (by have := HE1.out.size; omega)) | (go_at_call 43; refine (implArrayOk_eq _ _ _ _ _ _ _ sh' dt' _ (K1.out.below (Nat.le_refl _) HE1.out) (K2.out.below (Nat.le_refl _) HE1.out) _ HR').mono ?_; rintro e w2 ⟨rfl, hb2⟩; have HE2 := hide (HE1.out.trans (hb2.mono HE1.out.size)); clear hb2 x0 x1 x2 y0 y1 y2; obtain ⟨x0, x1, x2, _, _, _⟩ := (HX0.out.below (Nat.le_refl _) HE2.out).all; have hp2 : w.heap.size + 1 < w2.heap.size := (by have := HE2.out.size; omega)))
    go_ret
    exact ⟨rfl, HB0.out.trans (HE2.out.mono (by omega))⟩

/-- The code of what must be a list of numbers, beside an array. -/
def codeList (c d : Bool) (sh dt sh' dt' : List Int) : Int := if arrOk c sh dt = true ∧ arrOk d sh' dt' = true then listCode c sh.length else 3

theorem implListCode_any (c d : Bool) (a1 a2 b1 b2 : Option Addr) (n1 n2 m1 m2 c1 c2 d1 d2 : Nat) (sh dt sh' dt' : List Int) (w : World) (h1 : Row w a1 n1 sh) (h2 : Row w a2 n2 dt) (k1 : Row w b1 m1 sh') (k2 : Row w b2 m2 dt') (r : Int) (hr : Hid (codeList c d sh dt sh' dt' = r)) :
    Calls Tryz.prog 59 #[.agg #[.bool c, .slice a1 n1 c1, .slice a2 n2 c2], .agg #[.bool d, .slice b1 m1 d1, .slice b2 m2 d2]] w fun e w' => e = .returned (.int .i64 r) ∧ Below w.heap.size w w' := by
  have hr' := hr.out
  clear hr
  subst hr'
  unfold codeList
  cases hok : arrOk c sh dt with
  | false => rw [if_neg (by simp)]; exact listCode_bad1 c d a1 a2 b1 b2 n1 n2 m1 m2 c1 c2 d1 d2 sh dt sh' dt' w h1 h2 k1 k2 hok
  | true =>
    cases hok' : arrOk d sh' dt' with
    | false => rw [if_neg (by simp)]; exact listCode_bad2 c d a1 a2 b1 b2 n1 n2 m1 m2 c1 c2 d1 d2 sh dt sh' dt' w h1 h2 k1 k2 hok hok'
    | true =>
      rw [if_pos ⟨rfl, rfl⟩, h1.len]
      unfold listCode
      by_cases hn : 1 < n1
      · rw [if_pos hn]; exact listCode_long c d a1 a2 b1 b2 n1 n2 m1 m2 c1 c2 d1 d2 sh dt sh' dt' w h1 h2 k1 k2 hok hok' hn
      · rw [if_neg hn]; exact listCode_rest c d a1 a2 b1 b2 n1 n2 m1 m2 c1 c2 d1 d2 sh dt sh' dt' w h1 h2 k1 k2 hok hok' hn

end Go.Proofs.YtkgcmpmgaghdhaaGreatDoor
namespace Go.Proofs
open Go.Shelf
def Tryz.growI_ren : Go.Shelf.Ren := ⟨fun | 4 => 131 | n => n, fun | 22 => 23 | 25 => 3 | 3 => 3 | 4 => 4 | 9 => 9 | 20 => 20 | 0 => 0 | n => n, fun | n => n⟩
theorem Tryz.growI : Go.Proofs.Lays8.n4 Tryz.prog Tryz.growI_ren := {
  mixed := by kernel_rfl
  f4 := ⟨Tryz.f131.name, by decide, Tryz.func131.trans (congrArg some (by kernel_rfl))⟩
  t0 := Tryz.underlying0
  a0 := Tryz.isAgg0
  z0 := Tryz.sizeOf0
  v0 := Tryz.zeroValue0
  t3 := Tryz.underlying3
  a3 := Tryz.isAgg3
  z3 := Tryz.sizeOf3
  v3 := Tryz.zeroValue3
  t4 := Tryz.underlying4
  a4 := Tryz.isAgg4
  z4 := Tryz.sizeOf4
  v4 := Tryz.zeroValue4
  t9 := Tryz.underlying9
  a9 := Tryz.isAgg9
  z9 := Tryz.sizeOf9
  v9 := Tryz.zeroValue9
  t20 := Tryz.underlying20
  a20 := Tryz.isAgg20
  z20 := Tryz.sizeOf20
  v20 := Tryz.zeroValue20
  t22 := Tryz.underlying23
  a22 := Tryz.isAgg23
  z22 := Tryz.sizeOf23
  v22 := Tryz.zeroValue23 }
end Go.Proofs
namespace Go.Proofs.YtkgcmpmgaghdhaaGreatDoor
open Go.RowKit Go.Shelf

theorem zero_cells_len (n : Nat) : (Builtin.zeroCells (Value.int .i64 0).cells n).size = n := by
  simp [Builtin.zeroCells, Value.cells]

theorem Grow_own (n : Nat) (w : World) (hn : n ≤ 17592186044416) : Calls Tryz.prog 131 #[.slice none 0 0, .int .i64 (n : Nat)] w fun e w' => ∃ v, e = .returned v ∧ w'.ownsRow w.heap.size 3 1 v 0 [] ∧ Below w.heap.size w w' := by
  obtain ⟨i0, hi, hz0, hz1, hz2⟩ := info_parts info_int
  by_cases h0 : n = 0
  · subst h0
    refine (Any8.slices_Grow_room Tryz.growI none 0 0 0 w (Nat.le_refl _) (by omega) (by omega) (by omega)).mono ?_
    rintro e w' ⟨rfl, rfl⟩
    exact ⟨_, rfl, ⟨rfl, .inl ⟨rfl, rfl⟩⟩, Below.refl _ _⟩
  · refine (Any8.slices_Grow_grow Tryz.growI i0 (.int .i64 0) hi hz0 (by rw [hz1]; omega) none 0 0 n [] w (Nat.le_refl _) (by omega) (by rw [hz2]; omega) (by omega) (by simp) (fun _ => rfl) (fun a ha => by cases ha)).mono ?_
    rintro e w' ⟨rfl, rfl⟩
    have hge := grownCap_ge w (0 + n) 0 (Tryz.growI_ren.t 25)
    have hle := grownCap_le_maxLen w (0 + n) 0 (Tryz.growI_ren.t 25) (by unfold maxLen; omega)
    refine ⟨_, rfl, ⟨rfl, .inr ⟨w.heap.size, _, _, rfl, Nat.le_refl _, by exact heap_alloc_last w.drew _, Nat.zero_le _, hle, ?_, rfl⟩⟩, (Below.refl _ _).drew.alloc (by simp) _⟩
    simp only [Nat.zero_add] at hge
    simp only [Array.size_append, zero_cells_len]
    simp
    omega

theorem below_append0 {w w1 : World} {base n : Nat} {v : Value} {xs : List Value} (hown : w.ownsRow base 3 1 v n xs) (hb : base ≤ w.heap.size) (hg : w.grownBy w1 v.ownBlock) : Below base w w1 :=
  (Below.refl _ _).grown hg hb (by
    intro k hk
    rcases hown.2 with ⟨rfl, _⟩ | ⟨g, cap, cur, rfl, hbg, _⟩
    · cases hk
    · cases hk; exact hbg)

set_option maxRecDepth 20000 in
set_option maxHeartbeats 2000000 in
theorem Concat2_any (bs : Nat) (a b : Addr) (n m ca cb : Nat) (xs ys : List Int) (w : World) (h0 : w.cell? ⟨bs, 0, none⟩ = some (.slice (some a) n ca)) (h1 : w.cell? ⟨bs, 1, none⟩ = some (.slice (some b) m cb)) (hx : Row w (some a) n xs) (hy : Row w (some b) m ys) (hn : n ≤ 1000000) (hm : m ≤ 1000000) :
    Calls Tryz.prog 80 #[.slice (some ⟨bs, 0, none⟩) 2 2] w fun e w' => ∃ a' cap', e = .returned (.slice a' (n + m) cap') ∧ Own w' w.heap.size a' (n + m) (xs ++ ys) ∧ Below w.heap.size w w' := by
  have hl1 := hx.len
  have hl2 := hy.len
  have HX := hide hx
  have HY := hide hy
  clear hx hy
  have hbs := World.block_lt_of_cell? _ _ h0
  obtain ⟨i0, hi, hz0, hz1, hz2⟩ := info_parts info_int
  have hs1 : (n : Int) + (m : Int) = ((n + m : Nat) : Int) := by simp
  obtain ⟨s, hs⟩ : ∃ s, s = n + m := ⟨_, rfl⟩
  rw [← hs] at hs1
  have HS := hide hs
  have hsb : s ≤ 2000000 := by omega
  clear hs
  go_enter Tryz.func80, Tryz.ntmps80
  go_wp2
  refine wp_loop_rounds 3 ?_
  rw [rounds_succ]
  go_wp2
  rw [rounds_succ]
  go_wp2
  rw [rounds_succ]
  go_wp2_with fail
  refine (Grow_own s w (by omega)).mono ?_
  rintro e w1 ⟨v, rfl, hown, hb1⟩
  have k0 := (hb1.cell (p := ⟨bs, 0, none⟩) hbs).trans h0
  have k1 := (hb1.cell (p := ⟨bs, 1, none⟩) hbs).trans h1
  have hsz := hb1.size
  have HB1 := hide hb1
  have HC1 := hide h1
  clear hb1 h0 h1
  go_wp2
  refine wp_loop_rounds 3 ?_
  rw [rounds_succ]
  obtain ⟨av, cv, rfl⟩ := owns_slice hown
  go_wp2_with (at_builtin; refine wpList_append_own _ rfl _ _ 23 rfl w.heap.size 3 i0 (.int .i64 0) 1 8 Tryz.underlying23 hi hz0 hz1 hz2 rfl (by decide) _ _ _ rfl hown a n ca (xs.map (Value.int .i64)) rfl (by simpa using hl1) (cells_ints ((unhide HX).below (Nat.le_refl _) (unhide HB1))) (one_ints xs) (by unfold maxLen; omega) (by omega) (by omega) ?_; intro v1 w2 hown1 hgrow1 hnil1; clear hnil1; have HB2 := hide ((unhide HB1).trans (below_append0 hown hsz hgrow1)); have hsz2 := (unhide HB2).size; clear hgrow1 hown k0 k1; have k1 := ((unhide HB2).cell (p := ⟨bs, 1, none⟩) hbs).trans (unhide HC1); obtain ⟨av1, cv1, rfl⟩ := owns_slice hown1)
  have hown1' : w2.ownsRow w.heap.size 3 1 (.slice av1 n cv1) n (xs.map (Value.int .i64)) := by simpa using hown1
  clear hown1
  rw [rounds_succ]
  go_wp2_with (at_builtin; refine wpList_append_own _ rfl _ _ 23 rfl w.heap.size 3 i0 (.int .i64 0) 1 8 Tryz.underlying23 hi hz0 hz1 hz2 rfl (by decide) _ _ _ rfl hown1' b m cb (ys.map (Value.int .i64)) rfl (by simpa using hl2) (cells_ints ((unhide HY).below (Nat.le_refl _) (unhide HB2))) (one_ints ys) (by unfold maxLen; omega) (by omega) (by omega) ?_; intro v2 w3 hown2 hgrow2 hnil2; clear hnil2; have HB3 := hide ((unhide HB2).trans (below_append0 hown1' hsz2 hgrow2)); clear hgrow2 hown1' k1; obtain ⟨av2, cv2, rfl⟩ := owns_slice hown2)
  rw [rounds_succ]
  go_wp2
  go_ret
  obtain ⟨a', cap', he, hO⟩ := Own.of_owns (zs := xs ++ ys) (by rw [List.map_append]; exact hown2) (by omega)
  cases he
  exact ⟨_, _, rfl, hO, unhide HB3⟩

end Go.Proofs.YtkgcmpmgaghdhaaGreatDoor
namespace Go.Proofs.YtkgcmpmgaghdhaaGreatDoor
open Go.RowKit Go.Shelf

set_option maxRecDepth 20000 in
set_option maxHeartbeats 2000000 in
theorem Concat2_ns (bs : Nat) (b : Addr) (n m ca cb : Nat) (xs ys : List Int) (w : World) (h0 : w.cell? ⟨bs, 0, none⟩ = some (.slice none n ca)) (h1 : w.cell? ⟨bs, 1, none⟩ = some (.slice (some b) m cb)) (hx : Row w none n xs) (hy : Row w (some b) m ys) (hn : n ≤ 1000000) (hm : m ≤ 1000000) :
    Calls Tryz.prog 80 #[.slice (some ⟨bs, 0, none⟩) 2 2] w fun e w' => ∃ a' cap', e = .returned (.slice a' (n + m) cap') ∧ Own w' w.heap.size a' (n + m) (xs ++ ys) ∧ Below w.heap.size w w' := by
  have HN1 := hide (row_none hx)
  have hl1 := hx.len
  have hl2 := hy.len
  have HX := hide hx
  have HY := hide hy
  clear hx hy
  have hbs := World.block_lt_of_cell? _ _ h0
  obtain ⟨i0, hi, hz0, hz1, hz2⟩ := info_parts info_int
  have hs1 : (n : Int) + (m : Int) = ((n + m : Nat) : Int) := by simp
  obtain ⟨s, hs⟩ : ∃ s, s = n + m := ⟨_, rfl⟩
  rw [← hs] at hs1
  have HS := hide hs
  have hsb : s ≤ 2000000 := by omega
  clear hs
  go_enter Tryz.func80, Tryz.ntmps80
  go_wp2
  refine wp_loop_rounds 3 ?_
  rw [rounds_succ]
  go_wp2
  rw [rounds_succ]
  go_wp2
  rw [rounds_succ]
  go_wp2_with fail
  refine (Grow_own s w (by omega)).mono ?_
  rintro e w1 ⟨v, rfl, hown, hb1⟩
  have k0 := (hb1.cell (p := ⟨bs, 0, none⟩) hbs).trans h0
  have k1 := (hb1.cell (p := ⟨bs, 1, none⟩) hbs).trans h1
  have hsz := hb1.size
  have HB1 := hide hb1
  have HC1 := hide h1
  clear hb1 h0 h1
  go_wp2
  refine wp_loop_rounds 3 ?_
  rw [rounds_succ]
  obtain ⟨av, cv, rfl⟩ := owns_slice hown
  go_wp2_with (at_builtin; refine wpList_append_nocap rfl _ _ 23 rfl w.heap.size 3 i0 1 Tryz.underlying23 hi _ 0 [] rfl hown n (unhide HN1).1 ca rfl ?_; have HB2 := HB1; have hsz2 := hsz; clear k0 k1; have k1 := ((unhide HB2).cell (p := ⟨bs, 1, none⟩) hbs).trans (unhide HC1))
  have hown1' := hown
  clear hown
  rw [rounds_succ]
  go_wp2_with (at_builtin; refine wpList_append_own _ rfl _ _ 23 rfl w.heap.size 3 i0 (.int .i64 0) 1 8 Tryz.underlying23 hi hz0 hz1 hz2 rfl (by decide) _ _ _ rfl hown1' b m cb (ys.map (Value.int .i64)) rfl (by simpa using hl2) (cells_ints ((unhide HY).below (Nat.le_refl _) (unhide HB2))) (one_ints ys) (by unfold maxLen; omega) (by omega) (by omega) ?_; intro v2 w3 hown2 hgrow2 hnil2; clear hnil2; have HB3 := hide ((unhide HB2).trans (below_append0 hown1' hsz2 hgrow2)); clear hgrow2 hown1' k1; obtain ⟨av2, cv2, rfl⟩ := owns_slice hown2)
  rw [rounds_succ]
  go_wp2
  go_ret
  obtain ⟨rfl, rfl⟩ := unhide HN1
  obtain ⟨a', cap', he, hO⟩ := Own.of_owns (zs := [] ++ ys) (by simpa using hown2) (by omega)
  cases he
  rw [Nat.zero_add]
  exact ⟨_, _, rfl, hO, unhide HB3⟩

set_option maxRecDepth 20000 in
set_option maxHeartbeats 2000000 in
theorem Concat2_sn (bs : Nat) (a : Addr) (n m ca cb : Nat) (xs ys : List Int) (w : World) (h0 : w.cell? ⟨bs, 0, none⟩ = some (.slice (some a) n ca)) (h1 : w.cell? ⟨bs, 1, none⟩ = some (.slice none m cb)) (hx : Row w (some a) n xs) (hy : Row w none m ys) (hn : n ≤ 1000000) (hm : m ≤ 1000000) :
    Calls Tryz.prog 80 #[.slice (some ⟨bs, 0, none⟩) 2 2] w fun e w' => ∃ a' cap', e = .returned (.slice a' (n + m) cap') ∧ Own w' w.heap.size a' (n + m) (xs ++ ys) ∧ Below w.heap.size w w' := by
  have HN2 := hide (row_none hy)
  have hl1 := hx.len
  have hl2 := hy.len
  have HX := hide hx
  have HY := hide hy
  clear hx hy
  have hbs := World.block_lt_of_cell? _ _ h0
  obtain ⟨i0, hi, hz0, hz1, hz2⟩ := info_parts info_int
  have hs1 : (n : Int) + (m : Int) = ((n + m : Nat) : Int) := by simp
  obtain ⟨s, hs⟩ : ∃ s, s = n + m := ⟨_, rfl⟩
  rw [← hs] at hs1
  have HS := hide hs
  have hsb : s ≤ 2000000 := by omega
  clear hs
  go_enter Tryz.func80, Tryz.ntmps80
  go_wp2
  refine wp_loop_rounds 3 ?_
  rw [rounds_succ]
  go_wp2
  rw [rounds_succ]
  go_wp2
  rw [rounds_succ]
  go_wp2_with fail
  refine (Grow_own s w (by omega)).mono ?_
  rintro e w1 ⟨v, rfl, hown, hb1⟩
  have k0 := (hb1.cell (p := ⟨bs, 0, none⟩) hbs).trans h0
  have k1 := (hb1.cell (p := ⟨bs, 1, none⟩) hbs).trans h1
  have hsz := hb1.size
  have HB1 := hide hb1
  have HC1 := hide h1
  clear hb1 h0 h1
  go_wp2
  refine wp_loop_rounds 3 ?_
  rw [rounds_succ]
  obtain ⟨av, cv, rfl⟩ := owns_slice hown
  go_wp2_with (at_builtin; refine wpList_append_own _ rfl _ _ 23 rfl w.heap.size 3 i0 (.int .i64 0) 1 8 Tryz.underlying23 hi hz0 hz1 hz2 rfl (by decide) _ _ _ rfl hown a n ca (xs.map (Value.int .i64)) rfl (by simpa using hl1) (cells_ints ((unhide HX).below (Nat.le_refl _) (unhide HB1))) (one_ints xs) (by unfold maxLen; omega) (by omega) (by omega) ?_; intro v1 w2 hown1 hgrow1 hnil1; clear hnil1; have HB2 := hide ((unhide HB1).trans (below_append0 hown hsz hgrow1)); have hsz2 := (unhide HB2).size; clear hgrow1 hown k0 k1; have k1 := ((unhide HB2).cell (p := ⟨bs, 1, none⟩) hbs).trans (unhide HC1); obtain ⟨av1, cv1, rfl⟩ := owns_slice hown1)
  have hown1' : w2.ownsRow w.heap.size 3 1 (.slice av1 n cv1) n (xs.map (Value.int .i64)) := by simpa using hown1
  clear hown1
  rw [rounds_succ]
  go_wp2_with (at_builtin; refine wpList_append_nocap rfl _ _ 23 rfl w.heap.size 3 i0 1 Tryz.underlying23 hi _ _ _ rfl hown1' m (unhide HN2).1 cb rfl ?_; have HB3 := HB2)
  have hown2 := hown1'
  rw [rounds_succ]
  go_wp2
  go_ret
  obtain ⟨rfl, rfl⟩ := unhide HN2
  obtain ⟨a', cap', he, hO⟩ := Own.of_owns (zs := xs ++ []) (by simpa using hown2) (by omega)
  cases he
  exact ⟨_, _, rfl, hO, unhide HB3⟩

set_option maxRecDepth 20000 in
set_option maxHeartbeats 2000000 in
theorem Concat2_nn (bs : Nat) (n m ca cb : Nat) (xs ys : List Int) (w : World) (h0 : w.cell? ⟨bs, 0, none⟩ = some (.slice none n ca)) (h1 : w.cell? ⟨bs, 1, none⟩ = some (.slice none m cb)) (hx : Row w none n xs) (hy : Row w none m ys) (hn : n ≤ 1000000) (hm : m ≤ 1000000) :
    Calls Tryz.prog 80 #[.slice (some ⟨bs, 0, none⟩) 2 2] w fun e w' => ∃ a' cap', e = .returned (.slice a' (n + m) cap') ∧ Own w' w.heap.size a' (n + m) (xs ++ ys) ∧ Below w.heap.size w w' := by
  have HN1 := hide (row_none hx)
  have HN2 := hide (row_none hy)
  have hl1 := hx.len
  have hl2 := hy.len
  have HX := hide hx
  have HY := hide hy
  clear hx hy
  have hbs := World.block_lt_of_cell? _ _ h0
  obtain ⟨i0, hi, hz0, hz1, hz2⟩ := info_parts info_int
  have hs1 : (n : Int) + (m : Int) = ((n + m : Nat) : Int) := by simp
  obtain ⟨s, hs⟩ : ∃ s, s = n + m := ⟨_, rfl⟩
  rw [← hs] at hs1
  have HS := hide hs
  have hsb : s ≤ 2000000 := by omega
  clear hs
  go_enter Tryz.func80, Tryz.ntmps80
  go_wp2
  refine wp_loop_rounds 3 ?_
  rw [rounds_succ]
  go_wp2
  rw [rounds_succ]
  go_wp2
  rw [rounds_succ]
  go_wp2_with fail
  refine (Grow_own s w (by omega)).mono ?_
  rintro e w1 ⟨v, rfl, hown, hb1⟩
  have k0 := (hb1.cell (p := ⟨bs, 0, none⟩) hbs).trans h0
  have k1 := (hb1.cell (p := ⟨bs, 1, none⟩) hbs).trans h1
  have hsz := hb1.size
  have HB1 := hide hb1
  have HC1 := hide h1
  clear hb1 h0 h1
  go_wp2
  refine wp_loop_rounds 3 ?_
  rw [rounds_succ]
  obtain ⟨av, cv, rfl⟩ := owns_slice hown
  go_wp2_with (at_builtin; refine wpList_append_nocap rfl _ _ 23 rfl w.heap.size 3 i0 1 Tryz.underlying23 hi _ 0 [] rfl hown n (unhide HN1).1 ca rfl ?_; have HB2 := HB1; have hsz2 := hsz; clear k0 k1; have k1 := ((unhide HB2).cell (p := ⟨bs, 1, none⟩) hbs).trans (unhide HC1))
  have hown1' := hown
  clear hown
  rw [rounds_succ]
  go_wp2_with (at_builtin; refine wpList_append_nocap rfl _ _ 23 rfl w.heap.size 3 i0 1 Tryz.underlying23 hi _ _ _ rfl hown1' m (unhide HN2).1 cb rfl ?_; have HB3 := HB2)
  have hown2 := hown1'
  rw [rounds_succ]
  go_wp2
  go_ret
  obtain ⟨rfl, rfl⟩ := unhide HN1
  obtain ⟨rfl, rfl⟩ := unhide HN2
  obtain ⟨a', cap', he, hO⟩ := Own.of_owns (zs := [] ++ []) (by simpa using hown2) (by omega)
  cases he
  exact ⟨_, _, rfl, hO, unhide HB3⟩


/-- slices.Concat of two slices, whatever they are. -/
theorem Concat2_opt (bs : Nat) (oa ob : Option Addr) (n m ca cb : Nat) (xs ys : List Int) (w : World) (h0 : w.cell? ⟨bs, 0, none⟩ = some (.slice oa n ca)) (h1 : w.cell? ⟨bs, 1, none⟩ = some (.slice ob m cb)) (hx : Row w oa n xs) (hy : Row w ob m ys) (hn : n ≤ 1000000) (hm : m ≤ 1000000) :
    Calls Tryz.prog 80 #[.slice (some ⟨bs, 0, none⟩) 2 2] w fun e w' => ∃ a' cap', e = .returned (.slice a' (n + m) cap') ∧ Own w' w.heap.size a' (n + m) (xs ++ ys) ∧ Below w.heap.size w w' := by
  cases oa with
  | none =>
    cases ob with
    | none => exact Concat2_nn bs n m ca cb xs ys w h0 h1 hx hy hn hm
    | some b => exact Concat2_ns bs b n m ca cb xs ys w h0 h1 hx hy hn hm
  | some a =>
    cases ob with
    | none => exact Concat2_sn bs a n m ca cb xs ys w h0 h1 hx hy hn hm
    | some b => exact Concat2_any bs a b n m ca cb xs ys w h0 h1 hx hy hn hm

end Go.Proofs.YtkgcmpmgaghdhaaGreatDoor
namespace Go.Proofs.YtkgcmpmgaghdhaaGreatDoor
open Go.RowKit

/-- The box of the answer holds an array of the call's own. -/
def Res5 (w : World) (d : Bool) (zs ys : List Int) (n N box : Nat) (wx : World) : Prop :=
  ∃ ash csh gd, Box wx box d (.slice ash n csh) (.slice (some ⟨gd, 0, none⟩) N N) ∧ Own wx w.heap.size ash n zs ∧ w.heap.size ≤ gd ∧ Blk wx gd ys ∧ ¬ At ash n gd ∧ Below w.heap.size w wx

theorem Res5.set {w W : World} {d : Bool} {zs ys : List Int} {n N box gd csh : Nat} {ash : Option Addr} {v1 v2 : Value} {c : Bool} (hb : Box W box c v1 v2) (hO : Own W w.heap.size ash n zs) (hg : w.heap.size ≤ gd) (hB : Blk W gd ys) (hne : ¬ At ash n gd) (hbl : Below w.heap.size w W) (hb1 : ¬ At ash n box) (hb2 : gd ≠ box) (hw : w.heap.size ≤ box) :
    Res5 w d zs ys n N box (((W.setCell ⟨box, 0, none⟩ (.bool d)).setCell ⟨box, 1, none⟩ (.slice ash n csh)).setCell ⟨box, 2, none⟩ (.slice (some ⟨gd, 0, none⟩) N N)) := by
  have hk : ∀ k, At ash n k → k ≠ box := fun k hk e => hb1 (e ▸ hk)
  exact ⟨ash, csh, gd, hb.sets, ((hO.other (q := ⟨box, 0, none⟩) hk _).other (q := ⟨box, 1, none⟩) hk _).other (q := ⟨box, 2, none⟩) hk _, hg, ((hB.other (p := ⟨box, 0, none⟩) hb2 _).other (p := ⟨box, 1, none⟩) hb2 _).other (p := ⟨box, 2, none⟩) hb2 _, hne, ((hbl.setCell (p := ⟨box, 0, none⟩) hw _).setCell (p := ⟨box, 1, none⟩) hw _).setCell (p := ⟨box, 2, none⟩) hw _⟩

theorem gives_res {w wx : World} {d : Bool} {zs ys : List Int} {n N gd csh : Nat} {ash : Option Addr} (hl : ys.length = N) (hN : N ≤ 17592186044416) (hO : Own wx w.heap.size ash n zs) (hg : w.heap.size ≤ gd) (hB : Blk wx gd ys) (hne : ¬ At ash n gd) (hbl : Below w.heap.size w wx) :
    GivesOwn w ⟨d, zs, ys, 0⟩ (.returned (.tuple #[.agg #[.bool d, .slice ash n csh, .slice (some ⟨gd, 0, none⟩) N N], .int .i64 0])) wx :=
  ⟨ash, n, csh, some ⟨gd, 0, none⟩, N, N, rfl, hO, hB.own hl hN hg, fun k h1 h2 => by have := at_eq h2; subst this; exact hne h1, hbl⟩

end Go.Proofs.YtkgcmpmgaghdhaaGreatDoor
namespace Go.Proofs.YtkgcmpmgaghdhaaGreatDoor
open Go.RowKit Go.Shelf

set_option maxRecDepth 20000 in
set_option maxHeartbeats 4000000 in
theorem implEncode_code (c d : Bool) (a1 a2 b1 b2 : Option Addr) (n1 n2 m1 m2 c1 c2 d1 d2 : Nat) (sh dt sh' dt' : List Int) (w : World) (h1 : Row w a1 n1 sh) (h2 : Row w a2 n2 dt) (k1 : Row w b1 m1 sh') (k2 : Row w b2 m2 dt') (r : Int) (hrc : codeList c d sh dt sh' dt' = r) (hr : r ≠ 0) :
    Calls Tryz.prog 24 #[.agg #[.bool c, .slice a1 n1 c1, .slice a2 n2 c2], .agg #[.bool d, .slice b1 m1 d1, .slice b2 m2 d2]] w (GivesOwn w (noAns r)) := by
  have HRC := hide hrc
  have hs2 := h2.small
  have hs4 := k2.small
  have H1 := hide h1
  have H2 := hide h2
  have K1 := hide k1
  have K2 := hide k2
  have q : (r != 0) = true := by simp [hr]
  clear h1 h2 k1 k2 hrc hr
  go_enter Tryz.func24, Tryz.ntmps24
  go_wp2_with (first | (go_at_call 59; refine (implListCode_any c d a1 a2 b1 b2 n1 n2 m1 m2 c1 c2 d1 d2 sh dt sh' dt' _ ((((unhide H1).alloc _).alloc _).alloc _) ((((unhide H2).alloc _).alloc _).alloc _) ((((unhide K1).alloc _).alloc _).alloc _) ((((unhide K2).alloc _).alloc _).alloc _) _ HRC).mono ?_; rintro e w1 ⟨rfl, hb1⟩; obtain ⟨B0, B1, B2, hB1⟩ := boxes3 hb1; have HB0 := hide B0; have HB1 := hide B1; have HB2 := hide B2; have HB := hide hB1; obtain ⟨x0, x1, x2, x3, x4, x5, x6⟩ := B0.all; obtain ⟨y0, y1, y2, y3, y4, y5, y6⟩ := B1.all; obtain ⟨q0, q1, q2, q3, q4, q5, q6⟩ := B2.all; clear hb1 hB1 B0 B1 B2))
  refine bodyPost_ret (v := .tuple #[.agg #[.bool false, .slice none 0 0, .slice none 0 0], .int .i64 r]) (by simp [results, Tryz.results24, go_sem, q0, q1, q2]) rfl ?_
  exact gives_none ((((unhide HB).setCell (by simp <;> omega) _).setCell (by simp <;> omega) _).setCell (by simp <;> omega) _)

set_option maxRecDepth 20000 in
set_option maxHeartbeats 4000000 in
theorem implEncode_neg (c d : Bool) (a1 a2 b1 b2 : Option Addr) (n1 n2 m1 m2 c1 c2 d1 d2 : Nat) (sh dt sh' dt' : List Int) (w : World) (h1 : Row w a1 n1 sh) (h2 : Row w a2 n2 dt) (k1 : Row w b1 m1 sh') (k2 : Row w b2 m2 dt') (hrc : codeList c d sh dt sh' dt' = 0) (hn : dt.all nonNeg = false) :
    Calls Tryz.prog 24 #[.agg #[.bool c, .slice a1 n1 c1, .slice a2 n2 c2], .agg #[.bool d, .slice b1 m1 d1, .slice b2 m2 d2]] w (GivesOwn w (noAns 3)) := by
  have HRC := hide hrc
  have HNG : Hid ((!dt.all nonNeg) = true) := by rw [hn]; exact hide rfl
  have hs2 := h2.small
  have hs4 := k2.small
  have H1 := hide h1
  have H2 := hide h2
  have K1 := hide k1
  have K2 := hide k2
  clear h1 h2 k1 k2 hrc hn
  go_enter Tryz.func24, Tryz.ntmps24
  go_wp2_with (first | (go_at_call 59; refine (implListCode_any c d a1 a2 b1 b2 n1 n2 m1 m2 c1 c2 d1 d2 sh dt sh' dt' _ ((((unhide H1).alloc _).alloc _).alloc _) ((((unhide H2).alloc _).alloc _).alloc _) ((((unhide K1).alloc _).alloc _).alloc _) ((((unhide K2).alloc _).alloc _).alloc _) _ HRC).mono ?_; rintro e w1 ⟨rfl, hb1⟩; obtain ⟨B0, B1, B2, hB1⟩ := boxes3 hb1; have HB0 := hide B0; have HB1 := hide B1; have HB2 := hide B2; have HB := hide hB1; obtain ⟨x0, x1, x2, x3, x4, x5, x6⟩ := B0.all; obtain ⟨y0, y1, y2, y3, y4, y5, y6⟩ := B1.all; obtain ⟨q0, q1, q2, q3, q4, q5, q6⟩ := B2.all; clear hb1 hB1 B0 B1 B2) | (go_at_call 64; refine (hasBelow0_eq _ _ _ dt _ ((unhide H2).below (Nat.le_refl _) (unhide HB)) _ HNG).mono ?_; rintro e w2 ⟨rfl, hw⟩; obtain rfl := hw.symm))
  refine bodyPost_ret (v := .tuple #[.agg #[.bool false, .slice none 0 0, .slice none 0 0], .int .i64 3]) (by simp [results, Tryz.results24, go_sem, q0, q1, q2]) rfl ?_
  exact gives_none ((((unhide HB).setCell (by simp <;> omega) _).setCell (by simp <;> omega) _).setCell (by simp <;> omega) _)

set_option maxRecDepth 20000 in
set_option maxHeartbeats 4000000 in
theorem implEncode_char (c : Bool) (a1 a2 b1 b2 : Option Addr) (n1 n2 m1 m2 c1 c2 d1 d2 : Nat) (sh dt sh' dt' : List Int) (w : World) (h1 : Row w a1 n1 sh) (h2 : Row w a2 n2 dt) (k1 : Row w b1 m1 sh') (k2 : Row w b2 m2 dt') (hrc : codeList c true sh dt sh' dt' = 0) (hn : dt.all nonNeg = true) :
    Calls Tryz.prog 24 #[.agg #[.bool c, .slice a1 n1 c1, .slice a2 n2 c2], .agg #[.bool true, .slice b1 m1 d1, .slice b2 m2 d2]] w (GivesOwn w (noAns 3)) := by
  have HRC := hide hrc
  have HNG : Hid ((!dt.all nonNeg) = false) := by rw [hn]; exact hide rfl
  have hs2 := h2.small
  have hs4 := k2.small
  have H1 := hide h1
  have H2 := hide h2
  have K1 := hide k1
  have K2 := hide k2
  clear h1 h2 k1 k2 hrc hn
  go_enter Tryz.func24, Tryz.ntmps24
  go_wp2_with (first | (go_at_call 59; refine (implListCode_any c true a1 a2 b1 b2 n1 n2 m1 m2 c1 c2 d1 d2 sh dt sh' dt' _ ((((unhide H1).alloc _).alloc _).alloc _) ((((unhide H2).alloc _).alloc _).alloc _) ((((unhide K1).alloc _).alloc _).alloc _) ((((unhide K2).alloc _).alloc _).alloc _) _ HRC).mono ?_; rintro e w1 ⟨rfl, hb1⟩; obtain ⟨B0, B1, B2, hB1⟩ := boxes3 hb1; have HB0 := hide B0; have HB1 := hide B1; have HB2 := hide B2; have HB := hide hB1; obtain ⟨x0, x1, x2, x3, x4, x5, x6⟩ := B0.all; obtain ⟨y0, y1, y2, y3, y4, y5, y6⟩ := B1.all; obtain ⟨q0, q1, q2, q3, q4, q5, q6⟩ := B2.all; clear hb1 hB1 B0 B1 B2) | (go_at_call 64; refine (hasBelow0_eq _ _ _ dt _ ((unhide H2).below (Nat.le_refl _) (unhide HB)) _ HNG).mono ?_; rintro e w2 ⟨rfl, hw⟩; obtain rfl := hw.symm))
  refine bodyPost_ret (v := .tuple #[.agg #[.bool false, .slice none 0 0, .slice none 0 0], .int .i64 3]) (by simp [results, Tryz.results24, go_sem, q0, q1, q2]) rfl ?_
  exact gives_none ((((unhide HB).setCell (by simp <;> omega) _).setCell (by simp <;> omega) _).setCell (by simp <;> omega) _)

set_option maxRecDepth 20000 in
set_option maxHeartbeats 4000000 in
theorem implEncode_big (c : Bool) (a1 a2 b1 b2 : Option Addr) (n1 n2 m1 m2 c1 c2 d1 d2 : Nat) (sh dt sh' dt' : List Int) (w : World) (h1 : Row w a1 n1 sh) (h2 : Row w a2 n2 dt) (k1 : Row w b1 m1 sh') (k2 : Row w b2 m2 dt') (hrc : codeList c false sh dt sh' dt' = 0) (hn : dt.all nonNeg = true) (hl1 : sh.length ≤ 5) (hl3 : sh'.length ≤ 5) (hs : shapeB (sh ++ sh') = false) :
    Calls Tryz.prog 24 #[.agg #[.bool c, .slice a1 n1 c1, .slice a2 n2 c2], .agg #[.bool false, .slice b1 m1 d1, .slice b2 m2 d2]] w (GivesOwn w (noAns 7)) := by
  have HRC := hide hrc
  have HNG : Hid ((!dt.all nonNeg) = false) := by rw [hn]; exact hide rfl
  have HSB := hide hs
  have hz1 : n1 ≤ 1000000 := by have := h1.len; omega
  have hz3 : m1 ≤ 1000000 := by have := k1.len; omega
  have hs2 := h2.small
  have hs4 := k2.small
  have H1 := hide h1
  have H2 := hide h2
  have K1 := hide k1
  have K2 := hide k2
  clear h1 h2 k1 k2 hrc hn hs hl1 hl3
  go_enter Tryz.func24, Tryz.ntmps24
  go_wp2_with (first | (go_at_call 59; refine (implListCode_any c false a1 a2 b1 b2 n1 n2 m1 m2 c1 c2 d1 d2 sh dt sh' dt' _ ((((unhide H1).alloc _).alloc _).alloc _) ((((unhide H2).alloc _).alloc _).alloc _) ((((unhide K1).alloc _).alloc _).alloc _) ((((unhide K2).alloc _).alloc _).alloc _) _ HRC).mono ?_; rintro e w1 ⟨rfl, hb1⟩; obtain ⟨B0, B1, B2, hB1⟩ := boxes3 hb1; have HB0 := hide B0; have HB1 := hide B1; have HB2 := hide B2; have HB := hide hB1; obtain ⟨x0, x1, x2, x3, x4, x5, x6⟩ := B0.all; obtain ⟨y0, y1, y2, y3, y4, y5, y6⟩ := B1.all; obtain ⟨q0, q1, q2, q3, q4, q5, q6⟩ := B2.all; clear hb1 hB1 B0 B1 B2) | (go_at_call 64; refine (hasBelow0_eq _ _ _ dt _ ((unhide H2).below (Nat.le_refl _) (unhide HB)) _ HNG).mono ?_; rintro e w2 ⟨rfl, hw⟩; obtain rfl := hw.symm) | (go_at_call 80; refine (Concat2_opt _ a1 b1 n1 m1 c1 d1 sh sh' _ (by simp) (by simp) (((unhide H1).below (Nat.le_refl _) (unhide HB)).alloc _) (((unhide K1).below (Nat.le_refl _) (unhide HB)).alloc _) hz1 hz3).mono ?_; rintro e w3 ⟨ash, csh, rfl, hO, hb3⟩; have hs23 : w1.heap.size + 1 ≤ w3.heap.size := (by have := hb3.size; simpa using this); have HO : Hid (Own w3 (w.heap.size + 3) ash (n1 + m1) (sh ++ sh')) := hO.mono (by simp; omega); have HC0 := hide (((unhide HB0).alloc _).below (Nat.le_refl _) hb3); have HC1 := hide (((unhide HB1).alloc _).below (Nat.le_refl _) hb3); have HC2 := hide (((unhide HB2).alloc _).below (Nat.le_refl _) hb3); have HC := hide (((unhide HB).alloc (by omega) _).trans (hb3.mono (by simp; omega))); clear hO hb3 x0 x1 x2 x3 x4 x5 x6 y0 y1 y2 y3 y4 y5 y6 q0 q1 q2 q3 q4 q5 q6 HB0 HB1 HB2; obtain ⟨x0, x1, x2, x3, x4, x5, x6⟩ := (unhide HC0).all; obtain ⟨y0, y1, y2, y3, y4, y5, y6⟩ := (unhide HC1).all; obtain ⟨q0, q1, q2, q3, q4, q5, q6⟩ := (unhide HC2).all) | (go_at_call 67; refine (shapeOk_eq _ _ _ (sh ++ sh') _ (unhide HO).row _ HSB).mono ?_; rintro e w4 ⟨rfl, hw⟩; obtain rfl := hw.symm))
  refine bodyPost_ret (v := .tuple #[.agg #[.bool false, .slice none 0 0, .slice none 0 0], .int .i64 7]) (by simp [results, Tryz.results24, go_sem, q0, q1, q2]) rfl ?_
  exact gives_none ((((unhide HC).setCell (by simp <;> omega) _).setCell (by simp <;> omega) _).setCell (by simp <;> omega) _)

set_option maxRecDepth 20000 in
set_option maxHeartbeats 4000000 in
theorem implEncode_good (c : Bool) (a1 a2 b1 b2 : Option Addr) (n1 n2 m1 m2 c1 c2 d1 d2 : Nat) (sh dt sh' dt' : List Int) (w : World) (h1 : Row w a1 n1 sh) (h2 : Row w a2 n2 dt) (k1 : Row w b1 m1 sh') (k2 : Row w b2 m2 dt') (hrc : codeList c false sh dt sh' dt' = 0) (hok : arrOk c sh dt = true) (hok' : arrOk false sh' dt' = true) (hn : dt.all nonNeg = true) (hl1 : sh.length ≤ 5) (hl3 : sh'.length ≤ 5) (hs : shapeB (sh ++ sh') = true) :
    Calls Tryz.prog 24 #[.agg #[.bool c, .slice a1 n1 c1, .slice a2 n2 c2], .agg #[.bool false, .slice b1 m1 d1, .slice b2 m2 d2]] w (GivesOwn w ⟨false, sh ++ sh', encAll dt dt' m2, 0⟩) := by
  have HRC := hide hrc
  have HNG : Hid ((!dt.all nonNeg) = false) := by rw [hn]; exact hide rfl
  have HSB := hide hs
  have hl2 := hide h2.len
  have hl4 := hide k2.len
  obtain ⟨hT, hTb⟩ := enc_total h2.len k2.len hok hok' hs
  obtain ⟨T, hTT⟩ : ∃ T, T = n2 * m2 := ⟨_, rfl⟩
  rw [← hTT] at hT hTb
  have HN := hide hT
  have HT := hide hTT
  have HDB : Hid (∀ q, q < dt.length → 0 ≤ dt.getD q 0 ∧ dt.getD q 0 ≤ 1000000000000000) := fun q hq => ⟨nonNeg_at hn hq, (dataOk_bd hok hq).2⟩
  have HBB : Hid (∀ q, q < m2 → -1000000000000000 ≤ dt'.getD q 0 ∧ dt'.getD q 0 ≤ 1000000000000000) := fun q hq => dataOk_bd hok' (by rw [k2.len]; exact hq)
  have hz1 : n1 ≤ 1000000 := by have := h1.len; omega
  have hz3 : m1 ≤ 1000000 := by have := k1.len; omega
  have hs2 := h2.small
  have hs4 := k2.small
  have H1 := hide h1
  have H2 := hide h2
  have K1 := hide k1
  have K2 := hide k2
  clear h1 h2 k1 k2 hrc hn hs hl1 hl3 hok hok' hT hTT
  have hmk := run_make_row' (P := Tryz.prog) 23 3 (.int .i64 0) 8 Tryz.underlying23 info_int rfl .i64 .i64 T (by omega) (by omega)
  go_enter Tryz.func24, Tryz.ntmps24
  go_upto_region 10 with (first | (go_at_call 59; refine (implListCode_any c false a1 a2 b1 b2 n1 n2 m1 m2 c1 c2 d1 d2 sh dt sh' dt' _ ((((unhide H1).alloc _).alloc _).alloc _) ((((unhide H2).alloc _).alloc _).alloc _) ((((unhide K1).alloc _).alloc _).alloc _) ((((unhide K2).alloc _).alloc _).alloc _) _ HRC).mono ?_; rintro e w1 ⟨rfl, hb1⟩; obtain ⟨B0, B1, B2, hB1⟩ := boxes3 hb1; have HB0 := hide B0; have HB1 := hide B1; have HB2 := hide B2; have HB := hide hB1; obtain ⟨x0, x1, x2, x3, x4, x5, x6⟩ := B0.all; obtain ⟨y0, y1, y2, y3, y4, y5, y6⟩ := B1.all; obtain ⟨q0, q1, q2, q3, q4, q5, q6⟩ := B2.all; clear hb1 hB1 B0 B1 B2) | (go_at_call 64; refine (hasBelow0_eq _ _ _ dt _ ((unhide H2).below (Nat.le_refl _) (unhide HB)) _ HNG).mono ?_; rintro e w2 ⟨rfl, hw⟩; obtain rfl := hw.symm) | (go_at_call 80; refine (Concat2_opt _ a1 b1 n1 m1 c1 d1 sh sh' _ (by simp) (by simp) (((unhide H1).below (Nat.le_refl _) (unhide HB)).alloc _) (((unhide K1).below (Nat.le_refl _) (unhide HB)).alloc _) hz1 hz3).mono ?_; rintro e w3 ⟨ash, csh, rfl, hO, hb3⟩; have hs23 : w1.heap.size + 1 ≤ w3.heap.size := (by have := hb3.size; simpa using this); have HO : Hid (Own w3 (w.heap.size + 3) ash (n1 + m1) (sh ++ sh')) := hO.mono (by simp; omega); have HC0 := hide (((unhide HB0).alloc _).below (Nat.le_refl _) hb3); have HC1 := hide (((unhide HB1).alloc _).below (Nat.le_refl _) hb3); have HC2 := hide (((unhide HB2).alloc _).below (Nat.le_refl _) hb3); have HC := hide (((unhide HB).alloc (by omega) _).trans (hb3.mono (by simp; omega))); clear hO hb3 x0 x1 x2 x3 x4 x5 x6 y0 y1 y2 y3 y4 y5 y6 q0 q1 q2 q3 q4 q5 q6 HB0 HB1 HB2; obtain ⟨x0, x1, x2, x3, x4, x5, x6⟩ := (unhide HC0).all; obtain ⟨y0, y1, y2, y3, y4, y5, y6⟩ := (unhide HC1).all; obtain ⟨q0, q1, q2, q3, q4, q5, q6⟩ := (unhide HC2).all) | (go_at_call 67; refine (shapeOk_eq _ _ _ (sh ++ sh') _ (unhide HO).row _ HSB).mono ?_; rintro e w4 ⟨rfl, hw⟩; obtain rfl := hw.symm) | (go_at_call 51; refine (cellsOf_count _ _ _ (sh ++ sh') _ (unhide HO).row (unhide HSB) _ HN).mono ?_; rintro e w5 ⟨rfl, hw⟩; obtain rfl := hw.symm))
  obtain ⟨p0, hp0⟩ : ∃ p0, p0 = w.heap.size := ⟨_, rfl⟩
  obtain ⟨gd, hgd⟩ : ∃ gd, gd = w3.heap.size := ⟨_, rfl⟩
  obtain ⟨W, hW⟩ : ∃ W, W = (w3.alloc (.cells (madeCells #[.int .i64 0] T) 3)).alloc (.cells #[.bool false, .slice ash (n1 + m1) csh, .slice (some ⟨w3.heap.size, 0, none⟩) T T] 25) := ⟨_, rfl⟩
  have hzW : gd + 1 < W.heap.size := by rw [hW, hgd]; simp
  have hpg : p0 + 2 < gd := by rw [hgd, hp0]; exact q6
  have HZ0 : Hid (Box W p0 c (.slice a1 n1 c1) (.slice a2 n2 c2)) := by rw [hW, hp0]; exact ((unhide HC0).alloc _).alloc _
  have HZ1 : Hid (Box W (p0 + 1) false (.slice b1 m1 d1) (.slice b2 m2 d2)) := by rw [hW, hp0]; exact ((unhide HC1).alloc _).alloc _
  have HZ2 : Hid (Box W (p0 + 2) false (.slice none 0 0) (.slice none 0 0)) := by rw [hW, hp0]; exact ((unhide HC2).alloc _).alloc _
  have HZR : Hid (Box W (gd + 1) false (.slice ash (n1 + m1) csh) (.slice (some ⟨gd, 0, none⟩) T T)) := by
    rw [hW, hgd]
    have := Box.new (w3.alloc (.cells (madeCells #[.int .i64 0] T) 3)) false (.slice ash (n1 + m1) csh) (.slice (some ⟨w3.heap.size, 0, none⟩) T T)
    rw [World.size_alloc] at this
    exact this
  have HZO : Hid (Own W (p0 + 3) ash (n1 + m1) (sh ++ sh')) := by rw [hW, hp0]; exact ((unhide HO).alloc _).alloc _
  have HZL : Hid (∀ x, At ash (n1 + m1) x → x < gd) := fun x h => by rw [hgd]; exact (unhide HO).row.hi h
  have HZG : Hid (Blk W gd (encFwd dt dt' m2 0 0)) := by show Blk W gd _; rw [encFwd_zero, hl2.out, ← HT.out, hW]; exact (Blk.made _ _ _ hgd).alloc _
  have HZB : Hid (Below p0 w W) := by rw [hW, hp0]; exact ((unhide HC).alloc (unhide HC).size _).alloc (by have := (unhide HC).size; simp; omega) _
  have H2Z := hide ((unhide H2).below (by omega) HZB.out)
  have K2Z := hide ((unhide K2).below (by omega) HZB.out)
  have HP2 : Hid (∀ q, At a2 n2 q → q < p0) := fun q h => by rw [hp0]; exact (unhide H2).hi h
  have HP4 : Hid (∀ q, At b2 m2 q → q < p0) := fun q h => by rw [hp0]; exact (unhide K2).hi h
  rw [← hW, ← hgd, ← hp0]
  have HP := hide hp0
  clear hW hgd hp0 HC0 HC1 HC2 HC HO HB H1 H2 K1 K2 hmk HRC HNG HN x0 x1 x2 x3 x4 x5 x6 y0 y1 y2 y3 y4 y5 y6 q0 q1 q2 q3 q4 q5 q6 hs23 w3 hz1 hz3
  obtain ⟨y0, y1, y2, y3, y4, y5, y6⟩ := HZ1.out.all
  go_wp2_with fail
  clear y0 y1 y2 y3 y4 y5 y6
  go_loopw [46] (fun i wr => ∃ j : Nat, j ≤ m2 ∧ i = .int .i64 (j : Nat) ∧ Hid (Blk wr gd (encFwd dt dt' m2 j 0)) ∧ Hid (But (fun x => x = gd) W wr)) (fun i _ => m2 - (intOf i).toNat)
  case atStart => exact ⟨0, Nat.zero_le _, rfl, HZG, hide (But.refl _ _)⟩
  case round =>
    obtain ⟨j, hj, rfl, hb, hbut⟩ := hrel
    have hzr := hbut.out.size
    obtain ⟨x0, x1, x2, x3, x4, x5, x6⟩ := (show Box wr p0 c (.slice a1 n1 c1) (.slice a2 n2 c2) from (hbut.out.block _ (by omega) (by omega)).trans HZ0.out).all
    by_cases hjm : j < m2
    · obtain ⟨bb, ob, hbb, _, cb⟩ := (hbut.out.row K2Z.out (by rintro x rfl h; have := HP4.out _ h; omega)).get hjm
      cases hbb
      obtain ⟨b, hbv⟩ : ∃ b, dt'.getD j 0 = b := ⟨_, rfl⟩
      rw [hbv] at cb
      have hbd : -1000000000000000 ≤ b ∧ b ≤ 1000000000000000 := by rw [← hbv]; exact HBB.out j hjm
      have HBV := hide hbv
      clear hbv
      have HDG := hide (digitsOf_any b a2 n2 c2 dt wr (hbut.out.row H2Z.out (by rintro x rfl h; have := HP2.out _ h; omega)) HDB.out hbd)
      go_wp2_with (go_at_call 81; refine HDG.out.mono ?_; rintro e wd ⟨gg, rfl, hgg, hBg, hbD⟩; have HGB := hide hBg; have HBD2 := hide hbD; clear hBg hbD)
      clear HDG
      have HBW : Hid (But (fun x => x = gd) W wd) := (hbut.out.trans (But.of_below (S := fun x => x = gd) HBD2.out)).mono (by rintro q (h | h) <;> exact h)
      have HB2 : Hid (Blk wd gd (encFwd dt dt' m2 j 0)) := hb.out.below (Nat.le_refl _) HBD2.out
      have hzd := HBW.out.size
      have hgw : gg < wd.heap.size := HGB.out.lt
      have hglen : ((List.range dt.length).map (encDigit dt b)).length = n2 := by rw [List.length_map, List.length_range]; exact hl2.out
      have HGL := hide hglen
      clear hglen hb hbut HBD2 x0 x1 x2 x3 x4 x5 x6 cb
      have hggd : gd + 1 < gg := by omega
      clear hzr hgg
      go_loopw [56] (fun i wr => ∃ s : Nat, s ≤ n2 ∧ i = .int .i64 (s : Nat) ∧ Hid (Blk wr gd (encFwd dt dt' m2 j s)) ∧ Hid (But (fun x => x = gd) wd wr)) (fun i _ => n2 - (intOf i).toNat)
      case atStart => exact ⟨0, Nat.zero_le _, rfl, HB2, hide (But.refl _ _)⟩
      case round =>
        obtain ⟨s, hs, rfl, hb, hbut⟩ := hrel
        have hzr := hbut.out.size
        have hbw : But (fun x => x = gd) W wr := (HBW.out.trans hbut.out).mono (by rintro q (h | h) <;> exact h)
        by_cases hsn : s < n2
        · obtain ⟨y0, y1, y2, y3, y4, y5, y6⟩ := (show Box wr (p0 + 1) false (.slice b1 m1 d1) (.slice (some ⟨bb, ob, none⟩) m2 d2) from (hbw.block _ (by omega) (by omega)).trans HZ1.out).all
          obtain ⟨z0, z1, z2, z3, z4, z5, z6⟩ := (show Box wr (gd + 1) false (.slice ash (n1 + m1) csh) (.slice (some ⟨gd, 0, none⟩) T T) from (hbw.block _ (by omega) (by omega)).trans HZR.out).all
          have hGr : Blk wr gg ((List.range dt.length).map (encDigit dt b)) := (hbut.out.block gg hgw (by omega)).trans HGB.out
          have cgg := hGr.cell (i := s) (by rw [HGL.out]; exact hsn)
          obtain ⟨dg, hdg⟩ : ∃ dg, ((List.range dt.length).map (encDigit dt b)).getD s 0 = dg := ⟨_, rfl⟩
          rw [hdg] at cgg
          have hdv : encDigit dt (dt'.getD j 0) s = dg := by rw [HBV.out, ← hdg]; simp [List.getD, show s < dt.length from by rw [hl2.out]; exact hsn]
          obtain ⟨P, hP⟩ : ∃ P, P = s * m2 := ⟨_, rfl⟩
          obtain ⟨Qp, hQ⟩ : ∃ Qp, Qp = P + j := ⟨_, rfl⟩
          have hPl : Qp < T := by rw [HT.out, hQ, hP]; exact place_lt hsn hjm
          have hPi : (s : Int) * (m2 : Int) = (P : Int) := by rw [hP, Int.natCast_mul]
          have hwP : IntKind.i64.wrap ((s : Int) * (m2 : Int)) = (P : Int) := by rw [hPi, IntKind.wrap_i64]; omega
          have hwQ : IntKind.i64.wrap ((P : Int) + (j : Int)) = (Qp : Int) := by rw [IntKind.wrap_i64]; omega
          have hQi : (P : Int) + (j : Int) = (Qp : Int) := by omega
          have cg := hb.out.cell (i := Qp) (by rw [encFwd_len, hl2.out, ← HT.out]; exact hPl)
          have cf := hb.out.free Qp
          have HST : Hid (encFwd dt dt' m2 j (s + 1) = (encFwd dt dt' m2 j s).set Qp dg) := by
            have h := encFwd_step dt dt' (t := s) hjm
            rw [hdv, ← hP, ← hQ] at h
            exact h.symm
          have HBUT2 := hide hbut.out
          clear hdg hdv hP hQ hGr hbw
          go_wp2_with fail
          go_roundw
          case rel =>
            refine ⟨s + 1, by omega, by go_num, ?_, hide (HBUT2.out.setCell (p := ⟨gd, Qp, none⟩) rfl _)⟩
            show Blk _ _ _
            rw [HST.out]
            exact hb.out.set Qp dg
          case measure => simp [intOf]; omega
        · have hse : s = n2 := by omega
          subst hse
          have HBR := hide hbw
          clear hbw
          go_wp2_with fail
          go_roundw
          case rel =>
            refine ⟨j + 1, by omega, by go_num, ?_, HBR⟩
            show Blk _ _ _
            rw [← encFwd_col, hl2.out]
            exact hb.out
          case measure => simp [intOf]; omega
    · have hje : j = m2 := by omega
      subst hje
      obtain ⟨z0, z1, z2, z3, z4, z5, z6⟩ := (show Box wr (gd + 1) false (.slice ash (n1 + m1) csh) (.slice (some ⟨gd, 0, none⟩) T T) from (hbut.out.block _ (by omega) (by omega)).trans HZR.out).all
      have hB2 : Box wr (p0 + 2) false (.slice none 0 0) (.slice none 0 0) := (hbut.out.block _ (by omega) (by omega)).trans HZ2.out
      obtain ⟨q0, q1, q2, q3, q4, q5, q6⟩ := hB2.all
      have HB2 := hide hB2
      clear hB2 x0 x1 x2 x3 x4 x5 x6
      go_wp2_with fail
      have hOr : Own wr (p0 + 3) ash (n1 + m1) (sh ++ sh') := hbut.out.own HZO.out (by rintro k rfl h; have := HZL.out _ h; omega)
      have hres := Res5.set (w := w) (W := wr) (d := false) (zs := sh ++ sh') (ys := encAll dt dt' j) (n := n1 + m1) (N := T) (box := p0 + 2) (gd := gd) (csh := csh) (ash := ash) HB2.out (hOr.mono (by rw [← HP.out]; omega)) (by rw [← HP.out]; omega) (by rw [← encFwd_all]; exact hb.out) (fun h => by have := HZL.out _ h; omega) (by rw [← HP.out]; exact HZB.out.trans (hbut.out.below (B := p0) (by omega) (by rintro x rfl; omega))) (fun h => by have := hOr.low h; omega) (by omega) (by rw [← HP.out]; omega)
      obtain ⟨ash', csh', gd', hbx, hO', hgd', hB', hne', hbl'⟩ := hres
      obtain ⟨q0, q1, q2, q3, q4, q5, q6⟩ := hbx.all
      refine bodyPost_ret (v := .tuple #[.agg #[.bool false, .slice ash' (n1 + m1) csh', .slice (some ⟨gd', 0, none⟩) T T], .int .i64 0]) (by simp [results, Tryz.results24, go_sem, q0, q1, q2]) rfl ?_
      exact gives_res (by simp [encAll]; rw [hl2.out, ← HT.out]) (by omega) hO' hgd' hB' hne' hbl'

end Go.Proofs.YtkgcmpmgaghdhaaGreatDoor
namespace Go.Proofs.YtkgcmpmgaghdhaaGreatDoor
open Go.RowKit

theorem implEncode_any (c d : Bool) (a1 a2 b1 b2 : Option Addr) (n1 n2 m1 m2 c1 c2 d1 d2 : Nat) (sh dt sh' dt' : List Int) (w : World) (h1 : Row w a1 n1 sh) (h2 : Row w a2 n2 dt) (k1 : Row w b1 m1 sh') (k2 : Row w b2 m2 dt') :
    Calls Tryz.prog 24 #[.agg #[.bool c, .slice a1 n1 c1, .slice a2 n2 c2], .agg #[.bool d, .slice b1 m1 d1, .slice b2 m2 d2]] w (GivesOwn w (encode c d sh dt sh' dt')) := by
  cases hok : arrOk c sh dt with
  | false => rw [encode_bad1 hok]; exact implEncode_code c d a1 a2 b1 b2 n1 n2 m1 m2 c1 c2 d1 d2 sh dt sh' dt' w h1 h2 k1 k2 3 (by unfold codeList; rw [if_neg (by simp [hok])]) (by omega)
  | true =>
    cases hok' : arrOk d sh' dt' with
    | false => rw [encode_bad2 hok']; exact implEncode_code c d a1 a2 b1 b2 n1 n2 m1 m2 c1 c2 d1 d2 sh dt sh' dt' w h1 h2 k1 k2 3 (by unfold codeList; rw [if_neg (by simp [hok'])]) (by omega)
    | true =>
      have hcl : codeList c d sh dt sh' dt' = listCode c sh.length := by unfold codeList; rw [if_pos ⟨hok, hok'⟩]
      by_cases h0 : listCode c sh.length = 0
      · rw [h0] at hcl
        cases hn : dt.all nonNeg with
        | false => rw [encode_neg hok hok' h0 hn]; exact implEncode_neg c d a1 a2 b1 b2 n1 n2 m1 m2 c1 c2 d1 d2 sh dt sh' dt' w h1 h2 k1 k2 hcl hn
        | true =>
          obtain ⟨hin, _, hl1⟩ := shapeIn_of hok
          obtain ⟨hin', _, hl3⟩ := shapeIn_of hok'
          cases d with
          | true => rw [encode_char hok hok' h0 hn]; exact implEncode_char c a1 a2 b1 b2 n1 n2 m1 m2 c1 c2 d1 d2 sh dt sh' dt' w h1 h2 k1 k2 hcl hn
          | false =>
            cases hs : shapeB (sh ++ sh') with
            | false => rw [encode_big hok hok' h0 hn hs]; exact implEncode_big c a1 a2 b1 b2 n1 n2 m1 m2 c1 c2 d1 d2 sh dt sh' dt' w h1 h2 k1 k2 hcl hn (by omega) (by omega) hs
            | true => rw [encode_go hok hok' h0 hn hs, k2.len]; exact implEncode_good c a1 a2 b1 b2 n1 n2 m1 m2 c1 c2 d1 d2 sh dt sh' dt' w h1 h2 k1 k2 hcl hok hok' hn (by omega) (by omega) hs
      · rw [encode_list hok hok' _ rfl h0]
        exact implEncode_code c d a1 a2 b1 b2 n1 n2 m1 m2 c1 c2 d1 d2 sh dt sh' dt' w h1 h2 k1 k2 _ hcl h0

end Go.Proofs.YtkgcmpmgaghdhaaGreatDoor
namespace Go.Proofs.YtkgcmpmgaghdhaaGreatDoor

theorem vals_set (f : Nat → Int × Int) (m k : Nat) : (vals f k ++ List.replicate (m + 1) (0 : Int)).set k (f k).1 = vals f (k + 1) ++ List.replicate m 0 := by
  have hk : (vals f k).length = k := vals_len f k
  rw [List.replicate_succ, List.set_append_right _ _ (by omega), hk, Nat.sub_self, List.set_cons_zero]
  simp [vals, List.range_succ]

theorem vals_pre_len (f : Nat → Int × Int) (n k : Nat) (h : k ≤ n) : (vals f k ++ List.replicate (n - k) (0 : Int)).length = n := by
  simp [vals_len]; omega

end Go.Proofs.YtkgcmpmgaghdhaaGreatDoor
namespace Go.Proofs.YtkgcmpmgaghdhaaGreatDoor
open Go.RowKit

/-- The two sentinels lie as their initialisers lay them: errNoResult points to a, errTooGreat to b. -/
structure Gl (w : World) (a b : Addr) : Prop where
  no : w.cell? ⟨2, 0, none⟩ = some (.iface 175 (.pointer (some a)))
  big : w.cell? ⟨1, 0, none⟩ = some (.iface 175 (.pointer (some b)))
  ne : a ≠ b
  rowA : ∃ ca ta, w.heap[a.block]? = some (.cells ca ta (0, 0))
  rowB : ∃ cb tb, w.heap[b.block]? = some (.cells cb tb (0, 0))

theorem Gl.below {w w' : World} {a b : Addr} (h : Gl w a b) (hb : Below w.heap.size w w') : Gl w' a b := by
  obtain ⟨h1, h2, h3, ⟨ca, ta, h4⟩, ⟨cb, tb, h5⟩⟩ := h
  exact ⟨(hb.cell (p := ⟨2, 0, none⟩) (World.block_lt_of_cell? _ _ h1)).trans h1, (hb.cell (p := ⟨1, 0, none⟩) (World.block_lt_of_cell? _ _ h2)).trans h2, h3,
    ⟨ca, ta, (hb.block _ (lt_of_block h4)).trans h4⟩, ⟨cb, tb, (hb.block _ (lt_of_block h5)).trans h5⟩⟩

theorem Gl.alloc {w : World} {a b : Addr} (h : Gl w a b) (o : Obj) : Gl (w.alloc o) a b := h.below ((Below.refl _ _).alloc (Nat.le_refl _) _)
theorem Gl.drewN {w : World} {a b : Addr} (h : Gl w a b) (q : Nat) : Gl (w.drewN q) a b := h.below (Below.drewN (Below.refl _ _) _)

/-- What an axis of no elements gives for the ops 1 to 16. -/
def emptyTab : List Int := [0, 0, 1, 1, 1000000000000000, -1000000000000000, 0, 1, 1, 0, 0, 1, 1, 0, 1, 0]

/-- The sentinels and the table emptyFolds lie as laid. -/
structure GlF (w : World) (a b : Addr) : Prop where
  gl : Gl w a b
  tab : ∀ i, i < 16 → w.cell? ⟨0, i, none⟩ = some (.int .i64 (emptyTab.getD i 0))

theorem GlF.below {w w' : World} {a b : Addr} (h : GlF w a b) (hb : Below w.heap.size w w') : GlF w' a b :=
  ⟨h.gl.below hb, fun i hi => (hb.cell (p := ⟨0, i, none⟩) (World.block_lt_of_cell? _ _ (h.tab i hi))).trans (h.tab i hi)⟩
theorem GlF.alloc {w : World} {a b : Addr} (h : GlF w a b) (o : Obj) : GlF (w.alloc o) a b := h.below ((Below.refl _ _).alloc (Nat.le_refl _) _)

/-- What an element's function gives for a code: nil, errTooGreat or errNoResult. -/
def errV (a b : Addr) (code : Int) : Value := if code = 0 then .nilIface else if code = 7 then .iface 175 (.pointer (some b)) else .iface 175 (.pointer (some a))

theorem errV_0 (a b : Addr) : errV a b 0 = .nilIface := rfl
theorem errV_7 (a b : Addr) : errV a b 7 = .iface 175 (.pointer (some b)) := rfl
theorem errV_3 (a b : Addr) : errV a b 3 = .iface 175 (.pointer (some a)) := rfl

/-- The codes that elements can have. -/
def codeIn (code : Int) : Prop := code = 0 ∨ code = 3 ∨ code = 7

end Go.Proofs.YtkgcmpmgaghdhaaGreatDoor
namespace Go.Proofs.YtkgcmpmgaghdhaaGreatDoor
open Go.RowKit Go.Extern.Stop Go.Stop Go.Extern

theorem is_typeOf (v : Value) (w : World) : (Extern.ReflectliteType.typeOf #[.iface 175 v]).run Tryz.prog w = .ok (.iface 165 (.agg #[.pointer (some ⟨3, 175, none⟩)])) w := by kernel_rfl
/-- The model's entry for (rtype).Comparable, under a name of its own. -/
def cmpEntry : Array Value → Sem Value := Extern.ReflectliteType.method fun t => do Extern.Rtype.noPackHeld "Comparable" t; pure (.bool (← typeInfo t).comparable)
theorem is_comparable (w : World) : (cmpEntry #[.agg #[.pointer (some ⟨3, 175, none⟩)]]).run Tryz.prog w = .ok (.bool true) w := by kernel_rfl
theorem is_methodComparable (v : Value) (w : World) : (Go.method 311 165 v "Comparable").run Tryz.prog w = .ok (198, v) w := by kernel_rfl
theorem is_comp : (Tryz.prog.info? 175).map (·.comparable) = some true := by kernel_rfl
theorem is_size : (Tryz.prog.info? 199).map (·.size) = some 1 := by kernel_rfl
theorem is_noIs (v : Value) (xT : TypeId) (w : World) : (Instr.typeAssert (.iface 175 v) xT 167 true).run Tryz.prog w = .ok (.tuple #[.nilIface, .bool false]) w := run_typeAssert_lacksB Tryz.underlying167 (by kernel_rfl) (by kernel_rfl) v xT w
theorem is_noUnwrap (v : Value) (xT : TypeId) (w : World) : (Instr.typeAssert (.iface 175 v) xT 170 true).run Tryz.prog w = .ok (.tuple #[.nilIface, .bool false]) w := run_typeAssert_lacksB Tryz.underlying170 (by kernel_rfl) (by kernel_rfl) v xT w
theorem is_noUnwraps (v : Value) (xT : TypeId) (w : World) : (Instr.typeAssert (.iface 175 v) xT 172 true).run Tryz.prog w = .ok (.tuple #[.nilIface, .bool false]) w := run_typeAssert_lacksB Tryz.underlying172 (by kernel_rfl) (by kernel_rfl) v xT w

/-- errors.Is(x, x), x a pointer to an errors.errorString. -/
theorem is_same (a : Addr) (w : World) :
    Calls Tryz.prog 160 #[.iface 175 (.pointer (some a)), .iface 175 (.pointer (some a))] w fun e w' => e = .returned (.bool true) ∧ w' = w := by
  obtain ⟨i, hi, hcmp⟩ := Option.map_eq_some_iff.1 is_comp
  obtain ⟨j, hj, hjs⟩ := Option.map_eq_some_iff.1 is_size
  have h8 := @run_callFunc_extern Tryz.prog 175 _ Extern.ReflectliteType.typeOf Tryz.func175 (by kernel_rfl) (by kernel_rfl) (by kernel_rfl) (by kernel_rfl)
  have h32 := @run_callFunc_extern Tryz.prog 198 _ cmpEntry Tryz.func198 (by kernel_rfl) (by kernel_rfl) (by kernel_rfl) (by kernel_rfl)
  have tT := is_typeOf
  have cT := is_comparable
  have mR := is_methodComparable
  have heq := run_eql_iface_ptr_same (P := Tryz.prog) w a Tryz.underlying92 Tryz.underlying175 hi hcmp hj
  go_enter Tryz.func160, Tryz.ntmps160
  go_wp2
  refine wp_loop_rounds 1 ?_
  rw [rounds_succ]
  go_wp2
  go_ret
  exact ⟨rfl, rfl⟩

/-- errors.Is(x, y), two different pointers to errors.errorString. -/
theorem is_other (a b : Addr) (ca cb : Array Value) (ta tb : TypeId) (w : World) (hne : a ≠ b) (ha : w.heap[a.block]? = some (.cells ca ta (0, 0))) (hb : w.heap[b.block]? = some (.cells cb tb (0, 0))) :
    Calls Tryz.prog 160 #[.iface 175 (.pointer (some a)), .iface 175 (.pointer (some b))] w fun e w' => e = .returned (.bool false) ∧ w' = w := by
  obtain ⟨i, hi, hcmp⟩ := Option.map_eq_some_iff.1 is_comp
  obtain ⟨j, hj, hjs⟩ := Option.map_eq_some_iff.1 is_size
  have h8 := @run_callFunc_extern Tryz.prog 175 _ Extern.ReflectliteType.typeOf Tryz.func175 (by kernel_rfl) (by kernel_rfl) (by kernel_rfl) (by kernel_rfl)
  have h32 := @run_callFunc_extern Tryz.prog 198 _ cmpEntry Tryz.func198 (by kernel_rfl) (by kernel_rfl) (by kernel_rfl) (by kernel_rfl)
  have tT := is_typeOf
  have cT := is_comparable
  have mR := is_methodComparable
  have nE := is_noIs
  have uE := is_noUnwrap
  have vE := is_noUnwraps
  have heq := run_eql_iface_ptr_other (P := Tryz.prog) w Tryz.underlying92 Tryz.underlying175 hi hcmp hj (by rw [hjs]; decide) hne ha hb
  go_enter Tryz.func160, Tryz.ntmps160
  go_wp2
  refine wp_loop_rounds 1 ?_
  rw [rounds_succ]
  go_wp2
  go_ret
  exact ⟨rfl, rfl⟩

set_option maxHeartbeats 400000 in
theorem codeOf_big (a b : Addr) (w : World) (hG : Gl w a b) : Calls Tryz.prog 119 #[errV a b 7] w fun e w' => e = .returned (.int .i64 7) ∧ w' = w := by
  have hc := hG.big
  rw [errV_7]
  go_enter Tryz.func119, Tryz.ntmps119
  go_wp2_with (go_at_call 160; refine (is_same b _).mono ?_; rintro e w' ⟨rfl, rfl⟩)
  go_ret
  exact ⟨rfl, rfl⟩

set_option maxHeartbeats 400000 in
theorem codeOf_no (a b : Addr) (w : World) (hG : Gl w a b) : Calls Tryz.prog 119 #[errV a b 3] w fun e w' => e = .returned (.int .i64 3) ∧ w' = w := by
  have hc := hG.big
  obtain ⟨ca, ta, h4⟩ := hG.rowA
  obtain ⟨cb, tb, h5⟩ := hG.rowB
  have HN := hide hG.ne
  have H4 := hide h4
  have H5 := hide h5
  clear h4 h5 hG
  rw [errV_3]
  go_enter Tryz.func119, Tryz.ntmps119
  go_wp2_with (go_at_call 160; refine (is_other a b _ _ _ _ _ (unhide HN) (unhide H4) (unhide H5)).mono ?_; rintro e w' ⟨rfl, rfl⟩)
  go_ret
  exact ⟨rfl, rfl⟩

theorem codeOf_any (a b : Addr) (code : Int) (w : World) (hG : Gl w a b) (hc : codeIn code) (h0 : code ≠ 0) : Calls Tryz.prog 119 #[errV a b code] w fun e w' => e = .returned (.int .i64 code) ∧ w' = w := by
  rcases hc with h | rfl | rfl
  · exact absurd h h0
  · exact codeOf_no a b w hG
  · exact codeOf_big a b w hG

end Go.Proofs.YtkgcmpmgaghdhaaGreatDoor
namespace Go.Proofs.YtkgcmpmgaghdhaaGreatDoor
open Go.RowKit Go.Shelf

/-- The function value (g, lb) gives at each place below n what f says, in whatever world holds what lay in w. -/
def ElemOk (a b : Addr) (g : Nat) (lb : Array Value) (f : Nat → Int × Int) (n : Nat) (w : World) : Prop :=
  ∀ k, k < n → ∀ W, Below w.heap.size w W → Calls Tryz.prog g (#[.int .i64 (k : Nat)] ++ lb) W fun e w' => e = .returned (.tuple #[.int .i64 (f k).1, errV a b (f k).2]) ∧ Below W.heap.size W w'

theorem ElemOk.low {a b : Addr} {g : Nat} {lb : Array Value} {f : Nat → Int × Int} {n : Nat} {w w1 : World} (h : ElemOk a b g lb f n w) (hb : Below w.heap.size w w1) : ElemOk a b g lb f n w1 :=
  fun k hk W hW => h k hk W (hb.trans (hW.mono hb.size))

theorem neq_nil_nil (w : World) : (binOp .neq 92 .nilIface .nilIface).run Tryz.prog w = .ok (.bool false) w := by kernel_rfl

set_option maxHeartbeats 2000000 in
theorem listOf_any (a b : Addr) (g : Nat) (lb : Array Value) (eg : ∀ args w, (callFunc g args).run Tryz.prog w = .ok (.enter g args) w) (f : Nat → Int × Int) (n : Nat) (w : World) (hn : n ≤ 17592186044416) (hf : ∀ k, k < n → codeIn (f k).2) (hE : ElemOk a b g lb f n w) :
    Calls Tryz.prog 98 #[.int .i64 (n : Nat), .func (.func g) #[] lb] w fun e w' =>
      ((firstCode f n = 0 ∧ e = .returned (.tuple #[.slice (some ⟨w.heap.size, 0, none⟩) n n, .nilIface]) ∧ Blk w' w.heap.size (vals f n)) ∨ (firstCode f n ≠ 0 ∧ codeIn (firstCode f n) ∧ e = .returned (.tuple #[.slice none 0 0, errV a b (firstCode f n)]))) ∧ Below w.heap.size w w' := by
  have HE := hide hE
  have HF := hide hf
  clear hE hf
  obtain ⟨i0, hi, hz0, hz1, hz2⟩ := info_parts info_int
  go_enter Tryz.func98, Tryz.ntmps98
  go_wp2_with (at_make; refine wpList_make_full _ rfl _ _ 23 rfl w.heap.size 3 i0 (.int .i64 0) 1 Tryz.underlying23 hi hz0 hz1 _ _ _ _ n rfl rfl rfl rfl (by rw [hz2]; omega) (by unfold maxLen; omega) (Nat.le_refl _) ?_; intro w1 hown hgrow)
  have hblk : Blk w1 w.heap.size (vals f 0 ++ List.replicate (n - 0) 0) := Blk.of_owns (n := n) (base := w.heap.size) (by simpa [toList_madeCells_one, Value.cells, vals] using hown)
  have hbel : Below w.heap.size w w1 := (Below.refl _ _).grown hgrow (Nat.le_refl _) (by simp)
  clear hown hgrow hi hz0 hz1 hz2
  have HBK := hide hblk
  have HBL := hide hbel
  clear hblk hbel
  go_wp2
  go_loopw [7, 8, 9, 14] (fun _ _ _ i wr => ∃ k : Nat, k ≤ n ∧ i = .int .i64 k ∧ Hid (Blk wr w.heap.size (vals f k ++ List.replicate (n - k) 0)) ∧ Hid (Below w.heap.size w wr) ∧ Hid (firstCode f k = 0)) (fun _ _ _ i _ => n - (intOf i).toNat)
  case atStart => exact ⟨0, Nat.zero_le _, rfl, HBK, HBL, rfl⟩
  case round =>
    obtain ⟨k, hk, rfl, hb, hbl, hfc⟩ := hrel
    clear HBK HBL w1
    by_cases hlt : k < n
    · obtain ⟨r, hr⟩ : ∃ r, r = f k := ⟨_, rfl⟩
      obtain ⟨r1, r2⟩ := r
      have hcall := unhide HE k hlt wr (unhide hbl)
      rw [← hr] at hcall
      have hcode := unhide HF k hlt
      rw [← hr] at hcode
      have HR := hide hr
      clear hr
      by_cases h0 : r2 = 0
      · subst h0
        clear hcode
        rw [errV_0] at hcall
        have hnn := neq_nil_nil
        go_wp2_with (go_at_fn g; refine hcall.mono ?_; rintro e w2 ⟨rfl, hb2⟩; have HB := hide ((unhide hb).below (Nat.le_refl _) hb2); have HL := hide ((unhide hbl).trans (hb2.mono (unhide hbl).size)); have hc2 := (unhide HB).cell (i := k) (by simp [vals_len]; omega); have hf2 := (unhide HB).free k; clear hb2)
        have HS : Hid (Blk (w2.setCell ⟨w.heap.size, k, none⟩ (.int .i64 r1)) w.heap.size (vals f (k + 1) ++ List.replicate (n - (k + 1)) 0)) := by
          have hs := (unhide HB).set k r1
          have e : n - k = n - (k + 1) + 1 := by omega
          have e1 : r1 = (f k).1 := by rw [← unhide HR]
          rw [e] at hs
          rw [e1] at hs ⊢
          rw [vals_set] at hs
          exact hs
        go_roundw
        case rel => exact ⟨k + 1, by omega, by go_num, HS, (unhide HL).setCell (Nat.le_refl _) _, code_step (unhide hfc) (by rw [← unhide HR])⟩
        case measure => simp [intOf]; omega
      · have HC : Hid (firstCode f n = r2) := by
          show _ = _
          have e2 : (f k).2 = r2 := by rw [← unhide HR]
          rw [code_found (unhide hfc) hlt (by rw [e2]; exact h0), e2]
        have HI := hide hcode
        have HZ := hide h0
        have hrv : ∃ p, errV a b r2 = .iface 175 (.pointer (some p)) := by
          rcases hcode with h | rfl | rfl
          · exact absurd h h0
          · exact ⟨a, rfl⟩
          · exact ⟨b, rfl⟩
        obtain ⟨p, hp⟩ := hrv
        rw [hp] at hcall
        have HP := hide hp
        clear hcode h0 hp
        go_wp2_with (go_at_fn g; refine hcall.mono ?_; rintro e w2 ⟨rfl, hb2⟩; have HL := hide ((unhide hbl).trans (hb2.mono (unhide hbl).size)); clear hb2)
        go_ret2
        refine ⟨.inr ⟨by rw [unhide HC]; exact unhide HZ, by rw [unhide HC]; exact unhide HI, ?_⟩, unhide HL⟩
        rw [unhide HC, unhide HP]
        rfl
    · have hkn : k = n := by omega
      subst hkn
      go_wp2
      go_ret2
      exact ⟨.inl ⟨unhide hfc, rfl, by simpa using unhide hb⟩, unhide hbl⟩

end Go.Proofs.YtkgcmpmgaghdhaaGreatDoor
