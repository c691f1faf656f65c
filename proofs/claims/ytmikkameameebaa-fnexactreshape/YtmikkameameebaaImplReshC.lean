import Derived.Test.YtmikkameameebaaReshGath
import Derived.Test.YtmikkameameebaaImplPlaceIn
import Derived.Test.YtmikkameameebaaSpecBox
import Derived.Test.YtmikkameameebaaSpecBoxes
import Derived.Test.YtmikkameameebaaRangeLaw
import Derived.Deep.DeepCutAuto
import Derived.BigQuiet
namespace Go.Proofs.Ytmikkameameebaa
open Go.RowKit Go.Shelf

theorem eg_neg : ∀ args w, (callFunc 42 args).run Try.prog w = .ok (.enter 42 args) w := enters_of Try.func42 (by kernel_rfl) rfl
theorem eg_mod : ∀ args w, (callFunc 46 args).run Try.prog w = .ok (.enter 46 args) w := enters_of Try.func46 (by kernel_rfl) rfl

theorem negClo (v : Int) (w : World) : Calls Try.prog 42 #[.int .i64 v] w fun e w' => e = .returned (.bool (decide (v < 0))) ∧ w' = w := by
  go_enter Try.func42, Try.ntmps42
  go_wp2
  go_ret
  exact ⟨rfl, rfl⟩

theorem neg_found {dt : List Int} {k : Nat} (hk : k < dt.length) (h : dt.getD k 0 < 0) : dt.all nonNeg = false := by
  cases e : dt.all nonNeg with
  | false => rfl
  | true =>
    have hm : dt.getD k 0 ∈ dt := by simp [List.getD, hk]
    have h2 := List.all_eq_true.1 e _ hm
    unfold nonNeg at h2
    have := of_decide_eq_true h2
    omega

theorem neg_none {dt : List Int} (h : ∀ k, k < dt.length → 0 ≤ dt.getD k 0) : dt.all nonNeg = true := by
  rw [List.all_eq_true]
  intro x hx
  obtain ⟨k, hk, rfl⟩ := List.getElem_of_mem hx
  have := h k hk
  simp [List.getD, hk] at this
  simp [nonNeg]
  exact this

set_option maxHeartbeats 1000000 in
theorem IndexFunc_neg (a : Option Addr) (n cap : Nat) (dt : List Int) (w : World) (h : Row w a n dt) : Calls Try.prog 67 #[.slice a n cap, .func (.func 42) #[] #[]] w fun e w' => (∃ v : Int, e = .returned (.int .i64 v) ∧ decide (0 ≤ v) = !dt.all nonNeg) ∧ w' = w := by
  have hl := hide h.len
  have hsm := h.small
  have H := hide h
  clear h
  have heg := eg_neg
  go_enter Try.func67, Try.ntmps67
  go_wp2_with fail
  go_loopw [8] (fun i wr => ∃ k : Nat, k ≤ n ∧ i = .int .i64 (k : Nat) ∧ wr = w ∧ Hid (∀ j, j < k → 0 ≤ dt.getD j 0)) (fun i _ => n - (intOf i).toNat)
  case atStart => exact ⟨0, Nat.zero_le _, rfl, rfl, fun j hj => absurd hj (Nat.not_lt_zero _)⟩
  case round =>
    obtain ⟨k, hk, rfl, hw, hno⟩ := hrel
    subst hw
    by_cases hlt : k < n
    · obtain ⟨b, off, rfl, hblt, hc⟩ := H.out.get hlt
      obtain ⟨v, hv⟩ : ∃ v, v = dt.getD k 0 := ⟨_, rfl⟩
      rw [← hv] at hc
      by_cases hneg : v < 0
      · have HA : Hid (dt.all nonNeg = false) := neg_found (k := k) (by rw [hl.out]; exact hlt) (by rw [← hv]; exact hneg)
        have hd : decide (v < 0) = true := decide_eq_true hneg
        clear hv
        go_wp2_with (go_at_call 42; refine (negClo _ _).mono ?_; rintro e w' ⟨rfl, rfl⟩; rw [hd])
        go_ret
        exact ⟨⟨_, rfl, by rw [HA.out, decide_eq_true (by omega)]; rfl⟩, rfl⟩
      · have hd : decide (v < 0) = false := decide_eq_false hneg
        have HV := hide hv
        clear hv
        go_wp2_with (go_at_call 42; refine (negClo _ _).mono ?_; rintro e w' ⟨rfl, rfl⟩; rw [hd])
        go_roundw
        case rel => exact ⟨k + 1, by omega, by go_num, by first | rfl | trivial, fun j hj => by
          by_cases e : j = k
          · subst e; rw [← HV.out]; omega
          · exact hno.out j (by omega)⟩
        case measure => simp [intOf]; omega
    · have : k = n := by omega
      subst this
      have HA : Hid (dt.all nonNeg = true) := neg_none (fun j hj => hno.out j (by rw [← hl.out]; exact hj))
      go_wp2_with fail
      go_ret
      exact ⟨⟨_, rfl, by rw [HA.out]; rfl⟩, rfl⟩

set_option maxHeartbeats 1000000 in
theorem ContainsFunc_neg (a : Option Addr) (n cap : Nat) (dt : List Int) (w : World) (h : Row w a n dt) (r : Bool) (hr : Hid ((!dt.all nonNeg) = r)) : Calls Try.prog 41 #[.slice a n cap, .func (.func 42) #[] #[]] w fun e w' => e = .returned (.bool r) ∧ w' = w := by
  have H := hide h
  clear h
  go_enter Try.func41, Try.ntmps41
  go_wp2_with (go_at_call 67; refine (IndexFunc_neg _ _ _ dt _ H.out).mono ?_; rintro e w' ⟨⟨v, rfl, hv⟩, rfl⟩; have HV := hide hv; clear hv)
  go_ret
  exact ⟨ret_bool (by rw [HV.out, hr.out]), rfl⟩

set_option maxHeartbeats 1000000 in
theorem modClo (pc cnt N : Nat) (w : World) (hc : w.cell? ⟨pc, 0, none⟩ = some (.int .i64 (cnt : Nat))) (h0 : 0 < cnt) (hcb : cnt ≤ 10000) (n1 : Nat) (hn1 : n1 ≤ 1) : NumOk 46 #[.pointer (some ⟨pc, 0, none⟩)] (modF cnt) [(N : Int)] n1 w := by
  intro D hD hDl k hk ib W hW hB
  have hk0 : k = 0 := by omega
  subst hk0
  have hd := hD 0 (by simp)
  have hc1 := (hW.cell (p := ⟨pc, 0, none⟩) (World.block_lt_of_cell? _ _ hc)).trans hc
  have cd := hB.cell (i := 0) (by rw [hDl]; simp)
  have e1 : ([(N : Int)] : List Int).getD 0 0 = N := rfl
  rw [e1] at hd
  obtain ⟨x, hx⟩ : ∃ x : Nat, D.getD 0 0 = x := ⟨(D.getD 0 0).toNat, by omega⟩
  rw [hx] at cd hd
  have HF : Hid (modF cnt D 0 = ((x % cnt : Nat) : Int)) := by show _ = _; unfold modF; rw [hx]; simp
  have hmod : (x : Int).tmod (cnt : Int) = ((x % cnt : Nat) : Int) := by rw [Int.tmod_eq_emod_of_nonneg (by omega)]; simp
  have hlt : x % cnt < cnt := Nat.mod_lt _ h0
  obtain ⟨r, hr⟩ : ∃ r : Nat, r = x % cnt := ⟨_, rfl⟩
  rw [← hr] at HF hmod hlt
  have q0 : ¬ (cnt : Int) = 0 := by omega
  have hl1 : ([(N : Int)] : List Int).length = 1 := rfl
  rw [hl1]
  clear hW hB hD hDl hc e1 hx hr hl1
  go_enter Try.func46, Try.ntmps46
  go_wp2_with fail
  go_quiet (fail)
  go_wp2_with fail
  go_ret
  exact ⟨ret_int HF.out.symm, Below.drewN (Below.refl _ _) _⟩

set_option maxHeartbeats 1000000 in
theorem lineOf_any (c : Bool) (v1 : Value) (a2 : Option Addr) (n2 c2 : Nat) (w : World) : Calls Try.prog 44 #[.agg #[.bool c, v1, .slice a2 n2 c2]] w fun e w' => ∃ s, e = .returned (.agg #[.bool c, .slice (some ⟨s, 0, none⟩) 1 1, .slice a2 n2 c2]) ∧ w.heap.size ≤ s ∧ Blk w' s [(n2 : Int)] ∧ Below w.heap.size w w' := by
  have hB1 : Box ((w.alloc (.cells #[.bool c, v1, .slice a2 n2 c2] 26)).alloc (.cells #[.bool false, .slice none 0 0, .slice none 0 0] 26)) (w.heap.size + 1) false (.slice none 0 0) (.slice none 0 0) := by
    have := Box.new (w.alloc (.cells #[.bool c, v1, .slice a2 n2 c2] 26)) false (.slice none 0 0) (.slice none 0 0)
    simpa using this
  have HB1 := hide hB1
  clear hB1
  obtain ⟨W, hW⟩ : ∃ W, W = (w.alloc (.cells #[.bool c, v1, .slice a2 n2 c2] 26)).alloc (.cells #[.bool false, .slice none 0 0, .slice none 0 0] 26) := ⟨_, rfl⟩
  have hz : W.heap.size = w.heap.size + 1 + 1 := by rw [hW]; simp
  have HBL : Hid (Below w.heap.size w W) := by rw [hW]; exact ((Below.refl _ w).alloc (Nat.le_refl _) _).alloc (by simp) _
  have HX0 : Hid (Box W w.heap.size c v1 (.slice a2 n2 c2)) := by rw [hW]; exact (Box.new w _ _ _).alloc _
  rw [← hW] at HB1
  go_enter Try.func44, Try.ntmps44
  go_upto_region 1 with fail
  rw [← hW]
  clear hW
  obtain ⟨p, hp⟩ : ∃ p, p = W.heap.size := ⟨_, rfl⟩
  have hpw : w.heap.size + 1 < p := by omega
  have hblk : Blk (W.alloc (.cells #[.int .i64 (n2 : Nat)] 3)) p [(n2 : Int)] := by rw [hp]; exact World.alloc_heap_new W _
  have HBK := hide hblk
  have hbox := HB1.out.alloc (.cells #[.int .i64 (n2 : Nat)] 3)
  have HBX := hide hbox
  obtain ⟨x0, x1, x2, x3, x4, x5⟩ := HX0.out.all
  obtain ⟨y0, y1, y2, y3, y4, y5⟩ := hbox.all
  have HP := hide hp
  clear hz hp hblk hbox
  go_wp2_with fail
  have hx := HBX.out.sets (c' := c) (u1 := .slice (some ⟨W.heap.size, 0, none⟩) 1 1) (u2 := .slice a2 n2 c2)
  obtain ⟨q0, q1, q2, _, _, _⟩ := hx.all
  refine bodyPost_ret (v := .agg #[.bool c, .slice (some ⟨W.heap.size, 0, none⟩) 1 1, .slice a2 n2 c2]) (by simp [results, Try.results44, go_sem, q0, q1, q2]) rfl ?_
  rw [← HP.out]
  exact ⟨p, rfl, by omega, ((HBK.out.other (p := ⟨w.heap.size + 1, 0, none⟩) (by show p ≠ w.heap.size + 1; omega) _).other (p := ⟨w.heap.size + 1, 1, none⟩) (by show p ≠ w.heap.size + 1; omega) _).other (p := ⟨w.heap.size + 1, 2, none⟩) (by show p ≠ w.heap.size + 1; omega) _, (((HBL.out.alloc (by rw [← HP.out]; omega) _).setCell (p := ⟨w.heap.size + 1, 0, none⟩) (by simp) _).setCell (p := ⟨w.heap.size + 1, 1, none⟩) (by simp) _).setCell (p := ⟨w.heap.size + 1, 2, none⟩) (by simp) _⟩

end Go.Proofs.Ytmikkameameebaa
