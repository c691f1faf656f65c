import Derived.Test.YtcjhbeljhmocbaaDoorImplWidths
import Derived.Test.YtcjhbeljhmocbaaDoorImplRegW
import Derived.Test.YtcjhbeljhmocbaaDoorMadeRow
namespace Go.Proofs.YtcjhbeljhmocbaaDoor
open Go.RowKit Go.Shelf

attribute [local go_sem] Oper.semAt_some

/-- No element is wider than its column. -/
theorem wsN_ge {dt : List Int} {N : Nat} (hN : 0 < N) : ∀ k e, e < k → (wid (dt.getD e 0) : Int) ≤ (wsN dt N k).getD (e % N) 0
  | 0, e, h => absurd h (Nat.not_lt_zero _)
  | k + 1, e, h => by
    have hl := wsN_len dt N k
    have hm := Nat.mod_lt k hN
    have hset : ∀ z : Int, ((wsN dt N k).set (k % N) z).getD (e % N) 0 = if k % N = e % N then (if k % N < (wsN dt N k).length then some z else none).getD 0 else (wsN dt N k).getD (e % N) 0 := fun z => by
      rw [List.getD_eq_getElem?_getD, List.getElem?_set]
      split
      · rfl
      · rw [List.getD_eq_getElem?_getD]
    show _ ≤ ((wsN dt N k).set (k % N) _).getD (e % N) 0
    rw [hset]
    by_cases hx : k % N = e % N
    · rw [if_pos hx, if_pos (by omega)]
      simp only [Option.getD_some]
      by_cases he : e = k
      · subst he; omega
      · have := wsN_ge (dt := dt) hN k e (by omega)
        rw [← hx] at this
        omega
    · rw [if_neg hx]
      have : e ≠ k := fun e' => hx (by rw [e'])
      exact wsN_ge hN k e (by omega)

theorem rowWriter_char (v1 v2 : Value) (w : World) :
    Calls Tryd.prog 19 #[.agg #[.bool true, v1, v2]] w fun e w' => e = .returned (.func (.func 31) #[] #[]) ∧ Below w.heap.size w w' := by
  have HB : Hid (Below w.heap.size w (w.alloc (.cells #[.bool true, v1, v2] 28))) := (Below.refl _ _).alloc (Nat.le_refl _) _
  go_enter Tryd.func19, Tryd.ntmps19
  go_wp2
  go_ret
  exact ⟨rfl, HB.out⟩

set_option maxRecDepth 100000 in
set_option maxHeartbeats 4000000 in
theorem rowWriter_num_in (a1 a2 : Addr) (n1 n2 c1 c2 N R : Nat) (sh dt : List Int) (w : World) (GL : World → Prop) (st : Int → ByteArray)
    (hNum : ∀ x, -1000000000000000 ≤ x ∧ x ≤ 1000000000000000 → ∀ W, GL W → Calls Tryd.prog 43 #[.int .i64 x] W fun e w' => e = .returned (.string (st x)) ∧ Below W.heap.size W w')
    (hWid : ∀ x, -1000000000000000 ≤ x ∧ x ≤ 1000000000000000 → ∀ W, Calls Tryd.prog 42 #[.string (st x)] W fun e w' => e = .returned (.int .i64 (wid x : Nat)) ∧ Below W.heap.size W w')
    (hG : ∀ A, Below w.heap.size w A → GL A) (h1 : Row w (some a1) n1 sh) (h2 : Row w (some a2) n2 dt)
    (hc1 : n1 ≤ c1) (hc2 : n2 ≤ c2) (hs : ShapeIn sh) (hN : axisE sh 1 = N) (hR : prodAll (sh.take (n1 - 1)) = (R : Int)) (hn : n2 = R * N) (hn2 : n2 ≤ 10000) (hRb : R ≤ 10000) (hNb : N ≤ 10000)
    (hd : ∀ k, k < n2 → -1000000000000000 ≤ dt.getD k 0 ∧ dt.getD k 0 ≤ 1000000000000000) :
    CallsIn Fence.wide 9 Tryd.prog 19 #[.agg #[.bool false, .slice (some a1) n1 c1, .slice (some a2) n2 c2]] w fun e w' => ∃ g, e = .returned (.func (.func 33) #[] #[.pointer (some ⟨g + 1, 0, none⟩)]) ∧
      w'.heap[g + 1]? = some (.cells #[.slice (some ⟨g, 0, none⟩) N N] 22 (0, 0)) ∧ Blk w' g (wsN dt N n2) ∧ Below w.heap.size w w' := by
  have hsm := h1.small
  have hmk := run_make_row' (P := Tryd.prog) 22 3 (.int .i64 0) 8 Tryd.underlying22 info_int rfl .i64 .i64 N (by omega) (by omega)
  obtain ⟨p, hp⟩ : ∃ p, p = w.heap.size := ⟨_, rfl⟩
  obtain ⟨W, hW⟩ : ∃ W, W = (((w.alloc (.cells #[.bool false, .slice (some a1) n1 c1, .slice (some a2) n2 c2] 28)).alloc (.cells (madeCells #[.int .i64 0] N) 3)).alloc (.cells #[.slice (some ⟨w.heap.size + 1, 0, none⟩) N N] 22)).alloc (.cells #[.bool false, .slice (some a1) n1 c1, .slice (some a2) n2 c2] 28) := ⟨_, rfl⟩
  have hzW : W.heap.size = p + 4 := by rw [hW, hp]; simp
  have HBW : Hid (Below p w W) := by rw [hW, hp]; exact ((((Below.refl _ w).alloc (Nat.le_refl _) _).alloc (by simp) _).alloc (by simp; omega) _).alloc (by simp; omega) _
  have HG0 : Hid (Blk W (p + 1) (wsN dt N 0)) := by
    rw [hW, hp]
    exact ((Blk.made _ N _ (by simp)).alloc _).alloc _
  have HY1 : Hid (W.heap[p + 1 + 1]? = some (.cells #[.slice (some ⟨p + 1, 0, none⟩) N N] 22 (0, 0))) := by
    rw [hW, hp]
    have := World.alloc_heap_new ((w.alloc (.cells #[.bool false, .slice (some a1) n1 c1, .slice (some a2) n2 c2] 28)).alloc (.cells (madeCells #[.int .i64 0] N) 3)) (.cells #[.slice (some ⟨w.heap.size + 1, 0, none⟩) N N] 22)
    rw [World.size_alloc, World.size_alloc] at this
    exact (Below.heap_alloc _ _ _ (by simp)).trans this
  have HY2 : Hid (Box W (p + 1 + 1 + 1) false (.slice (some a1) n1 c1) (.slice (some a2) n2 c2)) := by
    rw [hW, hp]
    have := Box.new (((w.alloc (.cells #[.bool false, .slice (some a1) n1 c1, .slice (some a2) n2 c2] 28)).alloc (.cells (madeCells #[.int .i64 0] N) 3)).alloc (.cells #[.slice (some ⟨w.heap.size + 1, 0, none⟩) N N] 22)) false (.slice (some a1) n1 c1) (.slice (some a2) n2 c2)
    rwa [World.size_alloc, World.size_alloc, World.size_alloc] at this
  have HAX : Hid (∀ A, Below w.heap.size w A → Calls Tryd.prog 20 #[.slice (some a1) n1 c1, .int .i64 1] A fun e w' => e = .returned (.int .i64 (N : Nat)) ∧ w' = A) := fun A hb => by
    rw [← hN]
    exact axisFromEnd_any (some a1) n1 c1 sh 1 A (h1.below (Nat.le_refl _) hb) (by omega) (by omega) (fun i => (hs.cell i).1)
  have HSEQ : Hid (SeqOwn 8 Tryd.prog 41 #[.pointer (some ⟨p + 1 + 1 + 1, 0, none⟩)] n2 (widAr dt N) (fun k => k = p + 1 ∨ k = W.heap.size + 1) W) :=
    widths1_seq 8 (p + 1 + 1 + 1) false a1 a2 n1 n2 c1 c2 N R sh dt _ W GL st hNum hWid (fun A hb => by
      have hbl : Below p w A := HBW.out.trans (hb.below (by omega) (by rintro k (rfl | rfl) <;> omega))
      rw [hp] at hbl
      exact ⟨HY2.out.but hb (by omega), h1.below (Nat.le_refl _) hbl, h2.below (Nat.le_refl _) hbl, hG A hbl⟩) hc1 hc2 hs hN hR hn hn2 hRb hNb hd
  have hB1 : Below w.heap.size w (w.alloc (.cells #[.bool false, .slice (some a1) n1 c1, .slice (some a2) n2 c2] 28)) := (Below.refl _ _).alloc (Nat.le_refl _) _
  have HAX1 := hide (HAX.out _ hB1)
  have HN := hide hn
  have HP := hide hp
  clear hNum hWid hG h1 h2 hs hN hR hd HAX hB1 hn hsm
  refine callsIn_of_wp_marks Tryd.func19 rfl trivial ?_ rfl
  simp only [Tryd.ntmps19, List.size_toArray, List.length_cons, List.length_nil, Nat.reduceAdd, Nat.reduceSub, Array.replicate_succ, Array.replicate_zero, List.push_toArray, List.append_toArray, List.nil_append, List.cons_append]
  gi_wp2_with (first | (refine ⟨trivial, ?_⟩; gi_at_call 20; refine (callsIn_wide.2 HAX1.out).mono ?_; rintro e wI ⟨rfl, hwI⟩; obtain rfl := hwI.symm) | (refine ⟨trivial, ?_⟩; gi_at_call 32; refine (callsIn_wide.2 (widthsOf_any _ _ _ _)).mono ?_; rintro e wJ ⟨rfl, hwJ⟩; obtain rfl := hwJ.symm))
  rw [← hW, ← hp]
  clear hW hmk HAX1 hwI hwJ hp
  have h0 : Blk W (p + 1) (wsN dt N 0) ∧ But (fun b => b = p + 1) W W := ⟨HG0.out, But.refl _ _⟩
  refine range_own (gf := 41) (lb := #[.pointer (some ⟨p + 1 + 1 + 1, 0, none⟩)]) rfl eg_widths (ar := widAr dt N) (fun _ => rfl) (fun k => k = p + 1) (by rintro k rfl; omega) HSEQ.out
    (fun k A => Blk A (p + 1) (wsN dt N k) ∧ But (fun b => b = p + 1) W A)
    (by rintro k A B ⟨h, hb⟩ hbl; exact ⟨(hbl.block _ (by omega)).trans h, hbl.os.trans hb.os, hbl.tape.trans hb.tape, hbl.output.trans hb.output, Nat.le_trans hb.size hbl.size, fun x hx hn => (hbl.block x hx).trans (hb.block x hx hn)⟩)
    h0
    (fun k => { tmps := #[.agg #[.bool false, .slice (some a1) n1 c1, .slice (some a2) n2 c2], .pointer (some ⟨p, 0, none⟩), .nilFunc, .pointer (some ⟨p + 1 + 1, 0, none⟩), .int .i64 ((k % N : Nat) : Int), .int .i64 ((wid (dt.getD k 0) : Nat) : Int), .pointer (some ⟨p, 0, none⟩), .bool false, .pointer (some ⟨p, 1, none⟩), .slice (some a1) n1 c1, .int .i64 (N : Nat), .slice (some ⟨p + 1, 0, none⟩) N N, .agg #[.bool false, .slice (some a1) n1 c1, .slice (some a2) n2 c2], .func (.func 41) #[] #[.pointer (some ⟨p + 1 + 1 + 1, 0, none⟩)], .int .i64 ((k % N : Nat) : Int), .int .i64 ((wid (dt.getD k 0) : Nat) : Int), undef, undef, undef, undef, undef, undef, undef, undef, undef, undef], defers := [] }) ?assign ?body ?done
  case assign =>
    intro l k A K hK
    unfold widAr
    gi_wp2
    exact hK
  case body =>
    rintro l k A hk ⟨hb, hbut⟩ hzA
    clear h0 HSEQ
    have hNp : 0 < N := by
      rcases Nat.eq_zero_or_pos N with h | h
      · have := HN.out; rw [h, Nat.mul_zero] at this; omega
      · exact h
    have hj := Nat.mod_lt k hNp
    have hcell := (hbut.block (p + 1 + 1) (by omega) (by omega)).trans HY1.out
    have c3 : A.cell? ⟨p + 1 + 1, 0, none⟩ = some (.slice (some ⟨p + 1, 0, none⟩) N N) := by simp [World.cell?, hcell]
    have c1 := hb.cell (i := k % N) (by rw [wsN_len]; exact hj)
    have hset : wsN dt N (k + 1) = (wsN dt N k).set (k % N) (max ((wsN dt N k).getD (k % N) 0) (wid (dt.getD k 0) : Nat)) := rfl
    obtain ⟨j, hjj⟩ : ∃ j, k % N = j := ⟨_, rfl⟩
    obtain ⟨y, hy⟩ : ∃ y, wid (dt.getD k 0) = y := ⟨_, rfl⟩
    rw [hjj, hy] at hset ⊢
    rw [hjj] at hj c1
    obtain ⟨x, hx⟩ : ∃ x, (wsN dt N k).getD j 0 = x := ⟨_, rfl⟩
    rw [hx] at hset c1
    have hf := hb.free j
    have hE : Blk (A.drew.setCell ⟨p + 1, j, none⟩ (.int .i64 (max x (y : Nat)))) (p + 1) (wsN dt N (k + 1)) := by rw [hset]; exact hb.drew.set j _
    have hE2 : But (fun b => b = p + 1) A (A.drew.setCell ⟨p + 1, j, none⟩ (.int .i64 (max x (y : Nat)))) := ((But.refl (fun b => b = p + 1) A).onB (Below.refl _ _).drew).setCell (p := ⟨p + 1, j, none⟩) rfl _
    have HEND := hide (And.intro hE2 (And.intro hE (hbut.onS hE2)))
    clear hE hE2 hset hx hy hjj hb hbut hcell
    gi_wp2
    refine regionW _ A (by simp) (p + 1 + 1) (p + 1) j N x (y : Nat) (max x (y : Nat)) rfl rfl rfl hj (by split <;> omega) c1 hf c3 (fun _ _ _ _ _ h => h) (by rintro ⟨_, _, h⟩; exact h) ?_
    rw [Nat.zero_add]
    exact HEND.out
  case done =>
    rintro D A hD ⟨hb, hbut⟩ hK
    have hcell := (hbut.block (p + 1 + 1) (by omega) (by omega)).trans HY1.out
    have HBT := hide hbut
    have HB := hide hb
    have HCE := hide hcell
    clear hb hbut h0 hcell HSEQ
    gi_wp2
    refine ⟨by simp, .inl ⟨_, _, rfl, run_takeDeferred hK, ?_⟩⟩
    refine ⟨_, results_tmp rfl _ _ _, p + 1, rfl, (World.putObj_heap_other (by omega)).trans HCE.out, (World.putObj_heap_other (by omega)).trans HB.out, ?_⟩
    rw [← HP.out]
    exact (HBW.out.trans (HBT.out.below (B := p) (by omega) (by rintro x rfl; omega))).trans (below_putObj A (by omega) _)

end Go.Proofs.YtcjhbeljhmocbaaDoor
