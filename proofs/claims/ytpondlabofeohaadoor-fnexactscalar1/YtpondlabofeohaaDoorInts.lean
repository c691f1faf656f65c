import Derived.Test.YtpondlabofeohaaDoorIntsB
namespace Go.Proofs.YtpondlabofeohaaDoor
open Go.RowKit

theorem szIntS_big (a : Option Addr) (n cap : Nat) (left : Int) (w : World) (hn : n ≤ 9223372036854775807) (hl : 0 ≤ left) (hl2 : left ≤ 1048576) (h : left < n) :
    Calls Tryd.prog 23 #[.slice a n cap, .int .i64 left] w fun e w' => e = .returned (.int .i64 (-1)) ∧ w' = w := by
  go_enter Tryd.func23, Tryd.ntmps23
  go_wp2
  go_ret
  exact ⟨rfl, rfl⟩

theorem szIntS_ok (a : Option Addr) (n cap : Nat) (left : Int) (w : World) (hl2 : left ≤ 1048576) (h : n ≤ left) :
    Calls Tryd.prog 23 #[.slice a n cap, .int .i64 left] w fun e w' => e = .returned (.int .i64 (left - n)) ∧ w' = w := by
  go_enter Tryd.func23, Tryd.ntmps23
  go_wp2
  go_ret
  exact ⟨rfl, rfl⟩

set_option maxHeartbeats 400000 in
theorem toIntS_any (a : Option Addr) (n cap : Nat) (zs : List Int) (w : World) (h : Row w a n zs) :
    Calls Tryd.prog 28 #[.slice a n cap] w fun e w' => ∃ g, e = .returned (.slice (some ⟨g, 0, none⟩) n n) ∧ w.heap.size ≤ g ∧ Blk w' g zs ∧ Below w.heap.size w w' := by
  obtain ⟨hlen, hsm, hat⟩ := h
  obtain ⟨i0, hi, hz0, hz1, hz2⟩ := info_parts info_int
  go_enter Tryd.func28, Tryd.ntmps28
  go_wp2_with (at_make; refine wpList_make_full _ rfl _ _ 22 rfl w.heap.size 3 i0 (.int .i64 0) 1 Tryd.underlying22 hi hz0 hz1 _ _ _ _ n rfl rfl rfl rfl (by rw [hz2]; omega) (by unfold maxLen; omega) (Nat.le_refl _) ?_; intro w1 hown hgrow)
  have hblk : Blk w1 w.heap.size (zs.take 0 ++ List.replicate (n - 0) 0) := Blk.of_owns (n := n) (base := w.heap.size) (by simpa [toList_madeCells_one, Value.cells] using hown)
  have hbel : Below w.heap.size w w1 := (Below.refl _ _).grown hgrow (Nat.le_refl _) (by simp)
  clear hown hgrow hi hz0 hz1 hz2
  go_wp2
  go_loopw [4] (fun i wr => ∃ k : Nat, k ≤ n ∧ i = .int .i64 k ∧ Blk wr w.heap.size (zs.take k ++ List.replicate (n - k) 0) ∧ Below w.heap.size w wr) (fun i _ => n - (intOf i).toNat)
  case atStart => exact ⟨0, Nat.zero_le _, rfl, hblk, hbel⟩
  case round =>
    obtain ⟨k, hk, rfl, hb, hbl⟩ := hrel
    clear hblk hbel
    by_cases hlt : k < n
    · have hat' : ∃ b off, a = some ⟨b, off, none⟩ ∧ wr.cell? ⟨b, off + k, none⟩ = some (.int .i64 (zs.getD k 0)) := by
        rcases hat with h0 | ⟨b, off, rfl, hlt', hc⟩
        · omega
        · exact ⟨b, off, rfl, (hbl.cell (p := ⟨b, off + k, none⟩) hlt').trans (hc k hlt)⟩
      obtain ⟨b, off, rfl, hc⟩ := hat'
      clear hat
      obtain ⟨x, hx⟩ : ∃ x, x = zs.getD k 0 := ⟨_, rfl⟩
      rw [← hx] at hc
      have hc2 := hb.cell (i := k) (by simp; omega)
      have hf2 := hb.free k
      have hs := hb.set k x
      have HR : Hid (Blk (wr.setCell ⟨w.heap.size, k, none⟩ (.int .i64 x)) w.heap.size (zs.take (k + 1) ++ List.replicate (n - (k + 1)) 0)) := by
        have e : n - k = n - (k + 1) + 1 := by omega
        rw [e, hx, take_set zs _ k (by omega)] at hs
        rw [hx]
        exact hs
      clear hs hb hx
      go_wp2
      go_roundw
      case rel => exact ⟨k + 1, by omega, by go_num, HR.out, hbl.setCell (Nat.le_refl _) _⟩
      case measure => simp [intOf]; omega
    · have hkn : k = n := by omega
      subst hkn
      go_wp2
      go_ret
      exact ⟨_, rfl, Nat.le_refl _, by simpa [List.take_of_length_le (Nat.le_of_eq hlen)] using hb, hbl⟩

theorem take_step {xs ys : List Int} {n k : Nat} (hx : xs.length = n) (hy : ys.length = n) (hk : k < n) (h : xs.take k = ys.take k) (he : xs.getD k 0 = ys.getD k 0) : xs.take (k + 1) = ys.take (k + 1) := by
  have e1 : xs.getD k 0 = xs[k] := by simp [hx, hk]
  have e2 : ys.getD k 0 = ys[k] := by simp [hy, hk]
  rw [List.take_succ_eq_append_getElem (by omega), List.take_succ_eq_append_getElem (by omega), h, ← e1, ← e2, he]

set_option maxHeartbeats 400000 in
theorem eqIntS_any (a b : Option Addr) (n m ca cb : Nat) (xs ys : List Int) (w : World) (hx : Row w a n xs) (hy : Row w b m ys) :
    Calls Tryd.prog 34 #[.slice a n ca, .slice b m cb] w fun e w' => e = .returned (.bool (decide (xs = ys))) ∧ ∃ q, w' = w.drewN q := by
  obtain ⟨hxl, hxs, hxa⟩ := hx
  obtain ⟨hyl, hys, hya⟩ := hy
  by_cases hne : n = m
  · subst hne
    have hn : ((n : Int) != (n : Int)) = false := by simp
    go_enter Tryd.func34, Tryd.ntmps34
    go_wp2
    go_loopw [5] (fun i wr => ∃ k : Nat, k ≤ n ∧ i = .int .i64 k ∧ xs.take k = ys.take k ∧ ∃ q, wr = w.drewN q) (fun i _ => n - (intOf i).toNat)
    case atStart => exact ⟨0, Nat.zero_le _, rfl, rfl, 0, rfl⟩
    case round =>
      obtain ⟨k, hk, rfl, htk, q, rfl⟩ := hrel
      by_cases hlt : k < n
      · have ha : ∃ b off, a = some ⟨b, off, none⟩ ∧ w.cell? ⟨b, off + k, none⟩ = some (.int .i64 (xs.getD k 0)) := by
          rcases hxa with h0 | ⟨b, off, rfl, hlt', hc⟩
          · omega
          · exact ⟨b, off, rfl, hc k hlt⟩
        have hb : ∃ b' off, b = some ⟨b', off, none⟩ ∧ w.cell? ⟨b', off + k, none⟩ = some (.int .i64 (ys.getD k 0)) := by
          rcases hya with h0 | ⟨b, off, rfl, hlt', hc⟩
          · omega
          · exact ⟨b, off, rfl, hc k hlt⟩
        obtain ⟨b1, o1, rfl, hc1⟩ := ha
        obtain ⟨b2, o2, rfl, hc2⟩ := hb
        clear hxa hya
        obtain ⟨x, hx⟩ : ∃ x, x = xs.getD k 0 := ⟨_, rfl⟩
        obtain ⟨y, hy⟩ : ∃ y, y = ys.getD k 0 := ⟨_, rfl⟩
        rw [← hx] at hc1
        rw [← hy] at hc2
        have HX : Hid (x = xs.getD k 0) := hx
        have HY : Hid (y = ys.getD k 0) := hy
        have HT : Hid (xs.take k = ys.take k) := htk
        have HL : Hid (xs.length = n ∧ ys.length = n) := ⟨hxl, hyl⟩
        clear hx hy htk hxl hyl
        by_cases hxy : x = y
        · have hb : (x != y) = false := by simp [hxy]
          have HXY : Hid (x = y) := hxy
          clear hxy
          go_wp2
          go_quiet (fail)
          go_wp2
          go_roundw
          case rel => exact ⟨k + 1, by omega, by go_num, take_step HL.out.1 HL.out.2 hlt HT.out (HX.out.symm.trans (HXY.out.trans HY.out)), _, by first | rfl | exact World.drewN_drewN _ _ _⟩
          case measure => simp [intOf]; omega
        · have hb : (x != y) = true := by simp [hxy]
          have HN : Hid (¬ xs = ys) := fun e => hxy (by rw [HX.out, HY.out, e])
          clear hxy
          go_wp2
          go_quiet (fail)
          go_wp2
          go_ret
          exact ⟨ret_bool (decide_eq_false HN.out).symm, _, World.drewN_drewN _ _ _⟩
      · have hkn : k = n := by omega
        have HE : Hid (xs = ys) := by
          show xs = ys
          rwa [List.take_of_length_le (by omega), List.take_of_length_le (by omega)] at htk
        clear htk
        subst hkn
        go_wp2
        go_ret
        exact ⟨ret_bool (decide_eq_true HE.out).symm, _, rfl⟩
  · have hn : ((n : Int) != (m : Int)) = true := by simp; omega
    have HN : Hid (¬ xs = ys) := fun e => hne (by rw [← hxl, ← hyl, e])
    clear hne
    go_enter Tryd.func34, Tryd.ntmps34
    go_wp2
    go_ret
    exact ⟨ret_bool (decide_eq_false HN.out).symm, 0, rfl⟩

end Go.Proofs.YtpondlabofeohaaDoor
