import Derived.Test.YtogmcecnckgcpaaImplBackward
import Derived.Test.YtogmcecnckgcpaaImplMod
import Derived.Test.YtogmcecnckgcpaaMadeRow
import Derived.Test.YtogmcecnckgcpaaImplRegD
import Derived.Test.YtogmcecnckgcpaaEncodeMath
import Derived.Sort.CutIn
namespace Go.Proofs.Ytogmcecnckgcpaa
open Go.RowKit Go.Shelf

attribute [local go_sem] Oper.semAt_some

/-- Behind k rounds: the digits so far lie in gd, what is left in pn. -/
def Digs (dt : List Int) (b : Int) (pn gd : Nat) (W : World) (k : Nat) (A : World) : Prop :=
  Blk A gd (digN dt b k) ∧ A.heap[pn]? = some (.cells #[.int .i64 (encLeft dt b k)] 3 (0, 0)) ∧ But (fun x => x = gd ∨ x = pn) W A

theorem Digs.putObj {dt : List Int} {b : Int} {pn gd : Nat} {W : World} {k : Nat} {A : World} {l : Nat} {o : Obj} (h : Digs dt b pn gd W k A) (hl : W.heap.size ≤ l) (ho : A.heap[l]? = some o) (hc : o.isCells = false) (o' : Obj) : Digs dt b pn gd W k (A.putObj l o') := by
  obtain ⟨h1, h2, h3⟩ := h
  have n1 : gd ≠ l := fun e => by subst e; rw [show A.heap[gd]? = _ from h1] at ho; cases ho; cases hc
  have n2 : pn ≠ l := fun e => by subst e; rw [h2] at ho; cases ho; cases hc
  have hb := below_putObj A hl o'
  exact ⟨(World.putObj_heap_other n1).trans h1, (World.putObj_heap_other n2).trans h2, hb.os.trans h3.os, hb.tape.trans h3.tape, hb.output.trans h3.output, Nat.le_trans h3.size hb.size, fun x hx hn => (hb.block x hx).trans (h3.block x hx hn)⟩

theorem Digs.alloc {dt : List Int} {b : Int} {pn gd : Nat} {W : World} {k : Nat} {A : World} (h : Digs dt b pn gd W k A) (o : Obj) : Digs dt b pn gd W k (A.alloc o) := by
  obtain ⟨h1, h2, h3⟩ := h
  exact ⟨h1.alloc o, (Below.heap_alloc A o pn (Array.getElem?_eq_some_iff.1 h2).1).trans h2, h3.alloc o⟩

theorem Digs.drew {dt : List Int} {b : Int} {pn gd : Nat} {W : World} {k : Nat} {A : World} (h : Digs dt b pn gd W k A) : Digs dt b pn gd W k A.drew := ⟨h.1, h.2.1, h.2.2.drew⟩

set_option maxRecDepth 100000 in
set_option maxHeartbeats 4000000 in
theorem digitsOf_in (b : Int) (sa : Option Addr) (n cap : Nat) (dt : List Int) (w : World) (h : Row w sa n dt) (hd : ∀ k, k < dt.length → 0 ≤ dt.getD k 0 ∧ dt.getD k 0 ≤ 1000000000000000) (hb : -1000000000000000 ≤ b ∧ b ≤ 1000000000000000) :
    CallsIn Fence.wide 9 Try.prog 52 #[.int .i64 b, .slice sa n cap] w fun e w' => ∃ gd, e = .returned (.slice (some ⟨gd, 0, none⟩) n n) ∧ w.heap.size ≤ gd ∧ Blk w' gd ((List.range dt.length).map (encDigit dt b)) ∧ Below w.heap.size w w' := by
  have hlen := h.len
  have hsm := h.small
  have H := hide h
  have HD := hide hd
  have HBD := hide hb
  have HAT : Hid (∀ k, At sa n k → k < w.heap.size) := fun k hk => h.hi hk
  clear h hd hb
  have hmk := run_make_row' (P := Try.prog) 22 3 (.int .i64 0) 8 Try.underlying22 info_int rfl .i64 .i64 n (by omega) (by omega)
  refine callsIn_of_wp_marks Try.func52 rfl trivial ?_ rfl
  simp only [Try.ntmps52, List.size_toArray, List.length_cons, List.length_nil, Nat.reduceAdd, Nat.reduceSub, Array.replicate_succ, Array.replicate_zero, List.push_toArray, List.append_toArray, List.nil_append, List.cons_append]
  gi_wp2_with (refine ⟨trivial, ?_⟩; gi_at_call 74; refine (callsIn_wide.2 (Backward_any _ _ _ _)).mono ?_; rintro e wI ⟨rfl, hwI⟩; obtain rfl := hwI.symm)
  obtain ⟨p, hp⟩ : ∃ p, p = w.heap.size := ⟨_, rfl⟩
  obtain ⟨W, hW⟩ : ∃ W, W = (((w.alloc (.cells #[.int .i64 b] 3)).alloc (.cells (madeCells #[.int .i64 0] n) 3)).alloc (.cells #[.slice (some ⟨w.heap.size + 1, 0, none⟩) n n] 22)).alloc (.cells #[.slice sa n cap] 22) := ⟨_, rfl⟩
  have hzW : W.heap.size = p + 1 + 1 + 1 + 1 := by rw [hW, hp]; simp
  have HBW : Hid (Below p w W) := by rw [hW, hp]; exact ((((Below.refl _ w).alloc (Nat.le_refl _) _).alloc (by simp) _).alloc (by simp; omega) _).alloc (by simp; omega) _
  have HY0 : Hid (W.heap[p]? = some (.cells #[.int .i64 b] 3 (0, 0))) := by
    rw [hW, hp]; exact (Below.heap_alloc _ _ _ (by simp; omega)).trans ((Below.heap_alloc _ _ _ (by simp; omega)).trans ((Below.heap_alloc _ _ _ (by simp)).trans (World.alloc_heap_new w _)))
  have HY1 : Hid (Blk W (p + 1) (List.replicate n 0)) := by rw [hW, hp]; exact ((Blk.made _ n _ (by simp)).alloc _).alloc _
  have HY2 : Hid (W.heap[p + 1 + 1]? = some (.cells #[.slice (some ⟨p + 1, 0, none⟩) n n] 22 (0, 0))) := by
    rw [hW, hp]
    have := World.alloc_heap_new ((w.alloc (.cells #[.int .i64 b] 3)).alloc (.cells (madeCells #[.int .i64 0] n) 3)) (.cells #[.slice (some ⟨w.heap.size + 1, 0, none⟩) n n] 22)
    exact (Below.heap_alloc _ _ _ (by simp)).trans (by simpa using this)
  have HY3 : Hid (W.heap[p + 1 + 1 + 1]? = some (.cells #[.slice sa n cap] 22 (0, 0))) := by
    rw [hW, hp]
    have := World.alloc_heap_new (((w.alloc (.cells #[.int .i64 b] 3)).alloc (.cells (madeCells #[.int .i64 0] n) 3)).alloc (.cells #[.slice (some ⟨w.heap.size + 1, 0, none⟩) n n] 22)) (.cells #[.slice sa n cap] 22)
    rwa [World.size_alloc, World.size_alloc, World.size_alloc] at this
  have HW := hide (H.out.below (by omega) HBW.out)
  rw [← hW, ← hp]
  have HAT' : Hid (∀ k, At sa n k → k < p) := by rw [hp]; exact HAT
  have HP := hide hp
  clear hW hp HAT H hwI
  have h0 : Digs dt b p (p + 1) W 0 W := ⟨by rw [digN_zero, hlen]; exact HY1.out, HY0.out, But.refl _ _⟩
  have HC3 : Hid (∀ k A, Digs dt b p (p + 1) W k A → A.cell? ⟨p + 1 + 1 + 1, 0, none⟩ = some (.slice sa n cap) ∧ Row A sa n dt) := fun k A hA => by
    obtain ⟨_, _, hbut⟩ := hA
    refine ⟨?_, hbut.row HW.out (by rintro x (rfl | rfl) hx <;> have := HAT'.out _ hx <;> omega)⟩
    have h3 := (hbut.block (p + 1 + 1 + 1) (by omega) (by omega)).trans HY3.out
    simp [World.cell?, h3]
  refine range_when (gf := 84) (lb := #[.pointer (some ⟨p + 1 + 1 + 1, 0, none⟩)]) rfl eg_back (ar := backAr n dt) (fun _ => rfl) (back1_seq _ (p + 1 + 1 + 1) sa n cap dt hsm)
    (Digs dt b p (p + 1) W) HC3.out (fun k A l o o' h hl ho hc => h.putObj (by omega) ho hc o') (fun o o' => (h0.alloc o).alloc o')
    (fun k => { tmps := #[.int .i64 b, .slice sa n cap, .pointer (some ⟨p, 0, none⟩), undef, .slice none 0 0, .pointer (some ⟨p + 1 + 1, 0, none⟩), .int .i64 ((n - 1 - k : Nat) : Int), .int .i64 (dt.getD (n - 1 - k) 0), .slice sa n cap, .int .i64 (n : Nat), .slice (some ⟨p + 1, 0, none⟩) n n, .slice sa n cap, .func (.func 84) #[] #[.pointer (some ⟨p + 1 + 1 + 1, 0, none⟩)], .int .i64 ((n - 1 - k : Nat) : Int), .int .i64 (dt.getD (n - 1 - k) 0), undef, undef, undef, undef, undef, undef, undef, undef, undef, undef, undef, undef, undef, undef, undef, undef], defers := [] }) ?assign ?body ?done
  case assign =>
    intro l k A K hK
    unfold backAr
    gi_wp2
    exact hK
  case body =>
    rintro l k A hk ⟨hB, hN, hbut⟩
    clear h0 HC3
    have hmx : Try.prog.follows .mixedOrders = true := by kernel_rfl
    obtain ⟨j, hj⟩ : ∃ j : Nat, j = n - 1 - k := ⟨_, rfl⟩
    obtain ⟨a, ha⟩ : ∃ a, a = dt.getD j 0 := ⟨_, rfl⟩
    obtain ⟨x, hx⟩ : ∃ x, x = encLeft dt b k := ⟨_, rfl⟩
    obtain ⟨d, hd⟩ : ∃ d, d = modOf a x := ⟨_, rfl⟩
    have hjn : j < n := by omega
    have hab := HD.out j (by omega)
    rw [← ha] at hab
    have hxb := encLeft_bd (fun q hq => (HD.out q hq).1) HBD.out k (by omega)
    have hyb := encLeft_bd (fun q hq => (HD.out q hq).1) HBD.out (k + 1) (by omega)
    have hst := encLeft_step (dt := dt) (b := b) (k := k) (by rw [hlen, ← hj, ← ha]; exact hab.1)
    rw [hlen, ← hj, ← ha, ← hx, ← hd] at hst
    rw [← hx] at hxb
    obtain ⟨y, hy⟩ : ∃ y, y = encLeft dt b (k + 1) := ⟨_, rfl⟩
    rw [← hy] at hst hyb
    have hgs : (digN dt b k).set j d = digN dt b (k + 1) := by
      have h1 := digN_step dt b (k := k) (by omega)
      rw [encDigit_here (by omega), hlen, ← hj, ← ha, ← hx, ← hd] at h1
      exact h1
    have hdb : -1000000000000000 ≤ d ∧ d ≤ 1000000000000000 := by
      rw [hd]
      by_cases h0 : a = 0
      · subst h0; simp [modOf]; exact hxb
      · have h1 := div_left (x := x) (a := a) (by omega)
        unfold modOf
        rw [if_neg h0]
        have h2 := Int.tmod_lt_of_pos x (show 0 < a by omega)
        have h3 : -a < x.tmod a := Int.lt_tmod_of_pos x (by omega)
        split
        · rename_i h
          have h4 : x.tmod a < 0 := by
            by_cases h4 : x.tmod a < 0
            · exact h4
            · exfalso; apply h.2; rw [decide_eq_false h4, decide_eq_false (by omega)]
          omega
        · omega
    rw [← hj, ← ha]
    rw [← hx] at hN
    have cN : A.cell? ⟨p, 0, none⟩ = some (.int .i64 x) := by simp [World.cell?, hN]
    have cP : A.cell? ⟨p + 1 + 1, 0, none⟩ = some (.slice (some ⟨p + 1, 0, none⟩) n n) := by
      have h3 := (hbut.block (p + 1 + 1) (by omega) (by omega)).trans HY2.out
      simp [World.cell?, h3]
    have fG := hB.free j
    have hzA : p + 1 + 1 + 1 < A.heap.size := by have := hbut.size; omega
    have hBs := hB.set j d
    rw [hgs] at hBs
    have hNs : (A.setCell ⟨p + 1, j, none⟩ (.int .i64 d)).heap[p]? = some (.cells #[.int .i64 x] 3 (0, 0)) := (heap_setCell_other A _ p _ (by show p ≠ p + 1; omega)).trans hN
    have hbs : But (fun x => x = p + 1 ∨ x = p) A (A.setCell ⟨p + 1, j, none⟩ (.int .i64 d)) := (But.refl _ A).setCell (p := ⟨p + 1, j, none⟩) (.inl rfl) _
    have HA : Hid (But (fun x => x = p + 1 ∨ x = p) W A) := hbut
    obtain ⟨A1, hA1⟩ : ∃ A1, A1 = A.setCell ⟨p + 1, j, none⟩ (.int .i64 d) := ⟨_, rfl⟩
    rw [← hA1] at hBs hNs hbs
    have HB1 := hide hBs
    have HN1 := hide hNs
    have HA1 := hide hbs
    have HRES := hide (residue_any a x A (by omega) (by omega))
    rw [← hd] at HRES
    have HST := hide hst
    have HGS := hide hgs
    have HX := hide hx
    have HY := hide hy
    have HDD := hide hd
    have HBB := hide hB
    have hwz : (digN dt b k).length = n := by rw [digN_len, hlen]
    have cG := hB.cell (i := j) (by rw [hwz]; exact hjn)
    clear hst hgs hx hy hd hB hN hbut hBs hNs hbs ha hj hwz
    have HC1 : Hid (A1.cell? ⟨p + 1, j, none⟩ = some (.int .i64 d) ∧ A1.cell? ⟨p, 0, none⟩ = some (.int .i64 x) ∧ A1.frozen? ⟨p, 0, none⟩ = false ∧ A1.cell? ⟨p + 1 + 1, 0, none⟩ = some (.slice (some ⟨p + 1, 0, none⟩) n n)) := by
      have hG1 := HB1.out.cell (i := j) (by rw [digN_len, hlen]; exact hjn)
      rw [← HGS.out] at hG1
      have h3 := (HA1.out.block (p + 1 + 1) (by omega) (by omega)).trans ((HA.out.block (p + 1 + 1) (by omega) (by omega)).trans HY2.out)
      refine ⟨?_, ?_, frozen_of_row A1 p 0 _ _ HN1.out, ?_⟩
      · rw [hG1]; simp [List.getD, show j < (digN dt b k).length from by rw [digN_len, hlen]; exact hjn]
      · simp [World.cell?, HN1.out]
      · simp [World.cell?, h3]
    have HK : Hid (KeepsOthers A (A1.setCell ⟨p, 0, none⟩ (.int .i64 y))) := by rw [hA1]; exact (KeepsOthers.setCell _ _ _).trans (KeepsOthers.setCell _ _ _)
    have HX2 : Hid (Digs dt b p (p + 1) W (k + 1) (A1.setCell ⟨p, 0, none⟩ (.int .i64 y))) := by
      refine ⟨HB1.out.other (p := ⟨p, 0, none⟩) (by show p + 1 ≠ p; omega) _, ?_, ?_⟩
      · rw [← HY.out, heap_setCell_same A1 p 0 _ _ _ HN1.out]; simp
      · exact ((HA.out.trans HA1.out).mono (by rintro q (h | h) <;> exact h)).setCell (p := ⟨p, 0, none⟩) (.inr rfl) _
    have HZA1 : Hid (p + 1 + 1 + 1 < A1.heap.size) := Nat.lt_of_lt_of_le hzA HA1.out.size
    have HE1 := hide hA1
    clear hA1 HB1 HN1 HA1 HA HBB HRES HGS
    obtain ⟨mx, hm2⟩ : ∃ mx, (if a < 1 then 1 else a) = mx := ⟨_, rfl⟩
    have hq0 : ¬ mx = 0 := by rw [← hm2]; split <;> omega
    obtain ⟨u, hu⟩ : ∃ u, u = x - d := ⟨_, rfl⟩
    have HUS : Hid (IntKind.i64.wrap (x - d) = u ∧ x - d = u ∧ u.tdiv mx = y ∧ -2000000000000000 ≤ u ∧ u ≤ 2000000000000000 ∧ (if a < 1 then 1 else a) = mx) := ⟨by rw [IntKind.wrap_i64, hu]; omega, hu.symm, by have h1 := HST.out; rw [hm2, ← hu] at h1; exact h1.symm, by omega, by omega, hm2⟩
    clear hu HST HY hm2
    gi_wp2_with fail
    gi_cut [] from 15 (fun wx => A1.drew = wx)
    case first =>
      rename_i J K' hRJ hMK
      gi_region_with_o (first | (refine ⟨trivial, ?_⟩; gi_at_call 75; refine (CallsIn.inRound l (callsIn_wide.2 (residue_any a x _ (by omega) (by omega)))).mono ?_; rintro e wP ⟨rfl, hwP⟩; obtain rfl := hwP.symm; rw [← HDD.out]))
      all_goals (refine hMK _ _ (Met.intro (hRJ _ _ ?_)); (repeat apply Exists.intro); exact ⟨by rw [HE1.out], rfl⟩)
    case rest =>
      subst hcut
      clear cN cP fG cG hzA HE1
      obtain ⟨cG1, cN1, fN1, cP1⟩ := HC1.out
      have hzA1 := HZA1.out
      obtain ⟨hus, hxd, hut, hu1, hu2, hm2⟩ := HUS.out
      clear HC1 HZA1 HDD HUS
      gi_wp2_with fail
      refine regionD _ A1.drew (by simp) p j n x d u a mx y rfl rfl rfl rfl hjn hus hm2 hq0 hut hyb cG1 cN1 fN1 cP1 (fun _ _ _ _ _ h => h) (by rintro ⟨_, _, h⟩; exact h) ?_
      exact ⟨(HK.out.trans ((KeepsOthers.drew _).trans (KeepsOthers.drew _))).from _, HX2.out.drew.drew⟩
  case done =>
    rintro D A hD ⟨hB, hN, hbut⟩ hK
    have h3 := (hbut.block (p + 1 + 1) (by omega) (by omega)).trans HY2.out
    have cP : A.cell? ⟨p + 1 + 1, 0, none⟩ = some (.slice (some ⟨p + 1, 0, none⟩) n n) := by simp [World.cell?, h3]
    have HBT := hide hbut
    have HB := hide hB
    clear hB hN hbut h3 h0
    gi_wp2
    refine ⟨by simp, .inl ⟨_, _, rfl, run_takeDeferred hK, ?_⟩⟩
    refine ⟨_, results_tmp rfl _ _ _, p + 1, rfl, by rw [← HP.out]; omega, ?_, ?_⟩
    · rw [← digN_all, hlen]
      have hlB := HB.out
      have hne : p + 1 ≠ D := by omega
      exact (World.putObj_heap_other hne).trans hlB
    · rw [← HP.out]
      exact (HBW.out.trans (HBT.out.below (B := p) (by omega) (by rintro x (rfl | rfl) <;> omega))).trans (below_putObj A (by omega) _)

theorem digitsOf_any (b : Int) (sa : Option Addr) (n cap : Nat) (dt : List Int) (w : World) (h : Row w sa n dt) (hd : ∀ k, k < dt.length → 0 ≤ dt.getD k 0 ∧ dt.getD k 0 ≤ 1000000000000000) (hb : -1000000000000000 ≤ b ∧ b ≤ 1000000000000000) :
    Calls Try.prog 52 #[.int .i64 b, .slice sa n cap] w fun e w' => ∃ gd, e = .returned (.slice (some ⟨gd, 0, none⟩) n n) ∧ w.heap.size ≤ gd ∧ Blk w' gd ((List.range dt.length).map (encDigit dt b)) ∧ Below w.heap.size w w' :=
  callsIn_wide.1 (digitsOf_in b sa n cap dt w h hd hb)

end Go.Proofs.Ytogmcecnckgcpaa
