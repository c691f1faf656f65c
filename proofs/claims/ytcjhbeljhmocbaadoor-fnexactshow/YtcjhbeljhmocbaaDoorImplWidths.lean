import Derived.Test.YtcjhbeljhmocbaaDoorImplRowsOf
import Derived.Test.YtcjhbeljhmocbaaDoorMRange
namespace Go.Proofs.YtcjhbeljhmocbaaDoor
open Go.RowKit Go.Shelf

attribute [local go_sem] Oper.semAt_some

theorem widthsOf_any (c : Bool) (v1 v2 : Value) (w : World) :
    Calls Tryd.prog 32 #[.agg #[.bool c, v1, v2]] w fun e w' => e = .returned (.func (.func 41) #[] #[.pointer (some ⟨w.heap.size, 0, none⟩)]) ∧ w' = w.alloc (.cells #[.bool c, v1, v2] 28) := by
  go_enter Tryd.func32, Tryd.ntmps32
  go_wp2
  go_ret
  exact ⟨rfl, rfl⟩

theorem eg_widths : ∀ args w, (callFunc 41 args).run Tryd.prog w = .ok (.enter 41 args) w := enters_of Tryd.func41 (by kernel_rfl) rfl

theorem But.putHi {S : Nat → Prop} {w A : World} (h : But S w A) {l : Nat} (hl : w.heap.size ≤ l) (o : Obj) : But S w (A.putObj l o) :=
  ⟨h.os, h.tape, h.output, by simpa using h.size, fun k hk hn => (World.putObj_heap_other (by omega)).trans (h.block k hk hn)⟩

theorem But.onB {S : Nat → Prop} {w A B : World} (h : But S w A) (hb : Below A.heap.size A B) : But S w B :=
  ⟨hb.os.trans h.os, hb.tape.trans h.tape, hb.output.trans h.output, Nat.le_trans h.size hb.size, fun k hk hn => (hb.block k (Nat.lt_of_lt_of_le hk h.size)).trans (h.block k hk hn)⟩

theorem But.onS {S : Nat → Prop} {w A B : World} (h : But S w A) (hb : But S A B) : But S w B := (h.trans hb).mono (by rintro k (h | h) <;> exact h)

/-- The k-th round of widthsOf: the element's column, and how wide it is. -/
def widAr (dt : List Int) (N k : Nat) : Array Value := #[.int .i64 ((k % N : Nat) : Int), .int .i64 ((wid (dt.getD k 0) : Nat) : Int)]

set_option maxRecDepth 100000 in
set_option maxHeartbeats 4000000 in
theorem widths1_seq (m p : Nat) (c : Bool) (a1 a2 : Addr) (n1 n2 c1 c2 N R : Nat) (sh dt : List Int) (T : Nat → Prop) (w0 : World) (GL : World → Prop) (st : Int → ByteArray)
    (hNum : ∀ x, -1000000000000000 ≤ x ∧ x ≤ 1000000000000000 → ∀ W, GL W → Calls Tryd.prog 43 #[.int .i64 x] W fun e w' => e = .returned (.string (st x)) ∧ Below W.heap.size W w')
    (hWid : ∀ x, -1000000000000000 ≤ x ∧ x ≤ 1000000000000000 → ∀ W, Calls Tryd.prog 42 #[.string (st x)] W fun e w' => e = .returned (.int .i64 (wid x : Nat)) ∧ Below W.heap.size W w')
    (hF : ∀ A, But T w0 A → Box A p c (.slice (some a1) n1 c1) (.slice (some a2) n2 c2) ∧ Row A (some a1) n1 sh ∧ Row A (some a2) n2 dt ∧ GL A)
    (hc1 : n1 ≤ c1) (hc2 : n2 ≤ c2) (hs : ShapeIn sh) (hN : axisE sh 1 = N) (hR : prodAll (sh.take (n1 - 1)) = (R : Int)) (hn : n2 = R * N) (hn2 : n2 ≤ 10000) (hRb : R ≤ 10000) (hNb : N ≤ 10000)
    (hd : ∀ k, k < n2 → -1000000000000000 ≤ dt.getD k 0 ∧ dt.getD k 0 ≤ 1000000000000000) :
    SeqOwn m Tryd.prog 41 #[.pointer (some ⟨p, 0, none⟩)] n2 (widAr dt N) T w0 := by
  intro l J W hW hT hJb hY h0
  obtain ⟨f0, f1, f2, f3⟩ := hF W (But.of_below hW)
  obtain ⟨x0, x1, x2⟩ := f0.cells
  have HF := hide hF
  have HT := hide hT
  have HJB := hide hJb
  have HY : Hid (∀ k W1, k < n2 → J k W1 → YieldAt Fence.wide (m - 1) Tryd.prog l (widAr dt N k) W1 fun e W' => e = .returned (.bool true) ∧ J (k + 1) W' ∧ But T W1 W') := hY
  have H0 := hide h0
  have HW := hide hW
  have HNUM := hide hNum
  have HWID := hide hWid
  have HN := hide hn
  have HD := hide hd
  have hpl := f0.lt
  obtain ⟨q, hq⟩ : ∃ q, q = W.heap.size := ⟨_, rfl⟩
  obtain ⟨W2, hW2⟩ : ∃ W2, W2 = (((W.alloc (.cells #[.func (.yield l) #[] #[]] 59)).alloc (.cells #[.bool c, .slice (some a1) n1 c1, .slice (some a2) n2 c2] 28)).alloc (.cells #[.int .i64 (N : Nat)] 3)).alloc (.cells #[.int .i64 (R : Nat)] 3) := ⟨_, rfl⟩
  have HRO := hide (rowsOf_any c a1 (.slice (some a2) n2 c2) n1 c1 sh (W.alloc (.cells #[.func (.yield l) #[] #[]] 59)) (f1.alloc _) hc1 hs N R hN hR)
  have HB2 : Hid (Below W.heap.size W W2) := by rw [hW2]; exact ((((Below.refl _ W).alloc (Nat.le_refl _) _).alloc (by simp) _).alloc (by simp; omega) _).alloc (by simp; omega) _
  have hz2 : W2.heap.size = q + 4 := by rw [hW2, hq]; simp
  have HRB : Hid (RowsBox W2 (q + 1) c (.slice (some a1) n1 c1) a2 n2 c2 N R) := by
    rw [hW2, hq]
    have := RowsBox.new (W.alloc (.cells #[.func (.yield l) #[] #[]] 59)) c (.slice (some a1) n1 c1) a2 n2 c2 N R
    rwa [World.size_alloc] at this
  have HYC : Hid (W2.heap[q]? = some (.cells #[.func (.yield l) #[] #[]] 59 (0, 0))) := by
    rw [hW2, hq]
    exact (Below.heap_alloc _ _ _ (by simp <;> omega)).trans ((Below.heap_alloc _ _ _ (by simp <;> omega)).trans ((Below.heap_alloc _ _ _ (by simp)).trans (World.alloc_heap_new W _)))
  have HQ := hide hq
  clear hF hT hJb hY h0 hW hNum hWid hn hd f0 f1 f2 f3 hs hN hR
  refine callsIn_of_wp_marks Tryd.func41 rfl trivial ?_ rfl
  simp only [Tryd.ntmps41, List.size_toArray, List.length_cons, List.length_nil, Nat.reduceAdd, Nat.reduceSub, Array.replicate_succ, Array.replicate_zero, List.push_toArray, List.append_toArray, List.nil_append, List.cons_append]
  gi_wp2_with (refine ⟨trivial, fun h => (by simp [Fence.wide] at h), ?_⟩; gi_at_call 21; refine (callsIn_wide.2 HRO.out).mono ?_; rintro e wI ⟨rfl, hwI⟩; obtain rfl := hwI.symm)
  rw [← hW2]
  simp only [World.size_alloc] at *
  rw [← hq]
  clear hW2 hq HRO x0 x1 x2 hwI
  have hJ2 : J 0 W2 := HJB.out _ _ _ H0.out HB2.out
  refine range_kept (gf := 35) (lb := #[.pointer (some ⟨q + 1 + 1 + 1, 0, none⟩), .pointer (some ⟨q + 1, 0, none⟩), .pointer (some ⟨q + 1 + 1, 0, none⟩)]) rfl eg_rows (ar := rowAr a2 c2 N) (fun _ => rfl) (rows1_seq _ (q + 1) c (.slice (some a1) n1 c1) a2 n2 c2 N R HN.out hn2 hRb hNb hc2)
    (fun k A => J (k * N) A ∧ But T W2 A)
    (by rintro k A ⟨_, hb⟩; exact HRB.out.but hb (fun h => by have := HT.out _ h; have := HQ.out; omega) (fun h => by have := HT.out _ h; have := HQ.out; omega) (fun h => by have := HT.out _ h; have := HQ.out; omega))
    (by rintro k A lo o ⟨hj, hb⟩ h1 h2; exact ⟨HJB.out _ _ _ hj (below_putObj A (by have := HQ.out; omega) o), hb.putHi h1 o⟩)
    (fun o o' => ⟨by rw [Nat.zero_mul]; exact HJB.out _ _ _ hJ2 (((Below.refl _ W2).alloc (by have := HQ.out; omega) _).alloc (by have := HQ.out; simp; omega) _), ((But.refl _ _).alloc _).alloc _⟩)
    (fun k => { tmps := #[.func (.yield l) #[] #[], .pointer (some ⟨p, 0, none⟩), .pointer (some ⟨q, 0, none⟩), undef, .slice (some (a2.add (k * N))) N (c2 - k * N), undef, undef, .agg #[.bool c, .slice (some a1) n1 c1, .slice (some a2) n2 c2], .func (.func 35) #[] #[.pointer (some ⟨q + 1 + 1 + 1, 0, none⟩), .pointer (some ⟨q + 1, 0, none⟩), .pointer (some ⟨q + 1 + 1, 0, none⟩)], .int .i64 (k : Nat), .slice (some (a2.add (k * N))) N (c2 - k * N), undef, undef, undef, undef, undef, undef, undef, undef, undef, undef, undef, undef, undef, undef, undef], defers := [] }) ?assign ?body ?done
  case assign =>
    intro l k A K hK
    unfold rowAr
    gi_wp2
    exact hK
  case body =>
    rintro l2 k A hk ⟨hj, hb⟩ hzA
    clear hJ2
    have HA := hide hj
    have HBA := hide hb
    have HKN : Hid (∀ j, j < N → k * N + j < n2 ∧ (k * N + j) % N = j) := fun j h => by
      have h1 : (k + 1) * N ≤ R * N := Nat.mul_le_mul_right N hk
      rw [Nat.add_mul, Nat.one_mul] at h1
      refine ⟨by rw [HN.out]; omega, ?_⟩
      rw [Nat.mul_comm, Nat.mul_add_mod, Nat.mod_eq_of_lt h]
    have HBT : Hid (But T w0 A) := (But.of_below (HW.out.trans (HB2.out.mono HW.out.size))).onS hb
    clear hj hb
    obtain ⟨sa, hsa⟩ : ∃ s, s = some (a2.add (k * N)) := ⟨_, rfl⟩
    obtain ⟨cc, hcc⟩ : ∃ s, s = c2 - k * N := ⟨_, rfl⟩
    rw [← hsa, ← hcc]
    have HSA := hide hsa
    clear hsa hcc
    gi_wp2
    gi_loopw [13] (fun i wr => ∃ j : Nat, j ≤ N ∧ i = .int .i64 (j : Nat) ∧ Hid (J (k * N + j) wr) ∧ Hid (But T A wr)) (fun i _ => N - (intOf i).toNat)
    case atStart => exact ⟨0, Nat.zero_le _, rfl, HA, But.refl _ _⟩
    case round =>
      obtain ⟨j, hj, rfl, HJ, HB⟩ := hrel
      by_cases hlt : j < N
      · have hlti : (j : Int) < (N : Int) := by omega
        obtain ⟨hkj, hmod⟩ := HKN.out j hlt
        obtain ⟨_, _, g2, g3⟩ := HF.out wr (HBT.out.onS HB.out)
        have hrow := g2.rowAt HN.out hk
        rw [← HSA.out] at hrow
        obtain ⟨b, off, rfl, hblt, hcl⟩ := hrow.get hlt
        have hyc : wr.cell? ⟨q, 0, none⟩ = some (.func (.yield l) #[] #[]) := by
          have := ((HBA.out.onS HB.out).block q (by omega) (fun h => by have := HT.out _ h; have := HQ.out; omega)).trans HYC.out
          simp [World.cell?, this]
        have hql : q < wr.heap.size := by have := (HBA.out.onS HB.out).size; omega
        rw [rowAt_get hlt] at hcl
        have hxd := HD.out _ hkj
        have hy0 := fun W1 => HY.out (k * N + j) W1 hkj
        unfold widAr at hy0
        rw [hmod] at hy0
        obtain ⟨x, hx⟩ : ∃ x, dt.getD (k * N + j) 0 = x := ⟨_, rfl⟩
        rw [hx] at hcl hxd hy0
        have HY0 := hide hy0
        have HNT := hide (HNUM.out x hxd)
        have HWT := hide (HWID.out x hxd)
        have HGL : Hid (GL wr.drew) := (HF.out wr.drew ((HBT.out.onS HB.out).onB (Below.refl _ _).drew)).2.2.2
        have hqw : W.heap.size ≤ wr.drew.heap.size := by have := HQ.out; simp; omega
        clear hx hxd hy0 hmod hkj hrow g2 g3
        obtain ⟨s, hs⟩ : ∃ s, st x = s := ⟨_, rfl⟩
        obtain ⟨wx, hwx⟩ : ∃ z, wid x = z := ⟨_, rfl⟩
        rw [hs] at HNT HWT
        rw [hwx] at HY0 HWT
        clear hs hwx
        have hmx : Tryd.prog.follows .mixedOrders = true := by kernel_rfl
        gi_wp2
        gi_region_with_o (first
          | (refine ⟨trivial, fun h => (by simp [Fence.wide] at h), ?_⟩; gi_at_call 43; refine (CallsIn.inRound l2 (callsIn_wide.2 (HNT.out _ HGL.out))).mono ?_; rintro e w4 ⟨rfl, hb4⟩; have hyc4 := (hb4.cell (p := ⟨q, 0, none⟩) hql).trans hyc)
          | (refine ⟨trivial, fun h => (by simp [Fence.wide] at h), ?_⟩; gi_at_call 42; refine (CallsIn.inRound l2 (callsIn_wide.2 (HWT.out _))).mono ?_; rintro e w5 ⟨rfl, hb5⟩; have hyc5 := (hb5.cell (p := ⟨q, 0, none⟩) (Nat.lt_of_lt_of_le hql hb4.size)).trans hyc4; obtain ⟨fn, tmps, assign, body, hy, hRr⟩ := HY0.out w5 (HJB.out _ _ _ HJ.out ((Below.refl _ wr).drew.trans ((hb4.trans (hb5.mono hb4.size)).mono hqw))))
          | (refine ⟨fun h => (by simp [Fence.wide] at h), (RoundIn.any hRr).mono ?_⟩; rintro e w6 ⟨rfl, hJ6, hbt6⟩; have HJ6 := hide hJ6; have HB6 := hide ((HB.out.onB ((Below.refl _ wr).drew.trans (hb4.trans (hb5.mono hb4.size)))).onS hbt6); clear hJ6 hbt6 hRr hy hyc5 hb5 hyc4 hb4))
        all_goals clear HNT HWT HY0 HGL hyc hql hcl hqw
        all_goals (gi_wp2; go_roundw; (case rel => exact ⟨j + 1, by omega, by go_num, HJ6, HB6⟩); (case measure => simp [intOf]; omega))
      · obtain rfl : j = N := by omega
        have hlti : ¬ (j : Int) < (j : Int) := by omega
        gi_wp2
        refine ⟨fun r h1 h2 => HB.out.block r (by omega) (fun h => by have := HT.out _ h; have := HQ.out; omega), ?_, HBA.out.onS HB.out⟩
        rw [Nat.add_mul, Nat.one_mul]
        exact HJ.out
  case done =>
    rintro D A hD ⟨hj, hb⟩ hK
    rw [← HN.out] at hj
    have HJE : Hid (J n2 (A.putObj D (.deferred none))) := HJB.out _ _ _ hj (below_putObj A (by have := HQ.out; omega) _)
    clear hj hb hJ2
    gi_wp2
    refine ⟨by simp, .inl ⟨_, _, rfl, run_takeDeferred hK, ?_⟩⟩
    exact ⟨_, results_none rfl _ _ _, ⟨_, rfl⟩, HJE.out⟩

end Go.Proofs.YtcjhbeljhmocbaaDoor
