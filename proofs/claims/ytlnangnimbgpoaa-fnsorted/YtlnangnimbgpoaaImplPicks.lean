import Derived.Test.YtlnangnimbgpoaaImplPickOf
import Derived.Test.YtlnangnimbgpoaaMMath
import Derived.Test.YtlnangnimbgpoaaImplPlaceInB
import Derived.Test.YtlnangnimbgpoaaCatStage
import Derived.Test.YtlnangnimbgpoaaGives
import Derived.Deep.OwnRows
import Derived.BigQuiet
namespace Go.Proofs.Ytlnangnimbgpoaa
open Go.RowKit

/-- The first k of n arrays that parts stand for lie in block g. -/
structure APick (w : World) (g n k : Nat) (sh : List Int) (ps : List PartD) (f : Nat → Value) : Prop where
  row : w.rowIs g 26 (n * 3) f
  at_ : ∀ i, i < k → ∃ t1 k1 e1 t2 k2 e2, f (i * 3) = .bool false ∧ f (i * 3 + 1) = .slice (some t1) k1 e1 ∧ f (i * 3 + 2) = .slice t2 k2 e2 ∧ Row w (some t1) k1 (pickSh (part ps i) (sh.getD i 0)) ∧ Row w t2 k2 (pDt sh ps i) ∧ ¬ At (some t1) k1 g ∧ ¬ At t2 k2 g

section
variable {w w' : World} {g n k B : Nat} {sh : List Int} {ps : List PartD} {f : Nat → Value}

theorem APick.below (h : APick w g n k sh ps f) (hB : w.heap.size ≤ B) (hb : Below B w w') : APick w' g n k sh ps f :=
  ⟨h.row.of_block (hb.block g (Nat.lt_of_lt_of_le h.row.lt hB)), fun i hi => by
    obtain ⟨t1, k1, e1, t2, k2, e2, x0, x1, x2, x3, x4, x5, x6⟩ := h.at_ i hi
    exact ⟨t1, k1, e1, t2, k2, e2, x0, x1, x2, x3.below hB hb, x4.below hB hb, x5, x6⟩⟩

theorem APick.get (h : APick w g n k sh ps f) (hkn : k ≤ n) {i : Nat} (hi : i < k) : ∃ t1 k1 e1 t2 k2 e2, w.cell? ⟨g, i * 3, none⟩ = some (.bool false) ∧ w.cell? ⟨g, i * 3 + 1, none⟩ = some (.slice (some t1) k1 e1) ∧ w.cell? ⟨g, i * 3 + 2, none⟩ = some (.slice t2 k2 e2) ∧ Row w (some t1) k1 (pickSh (part ps i) (sh.getD i 0)) ∧ Row w t2 k2 (pDt sh ps i) ∧ ¬ At t2 k2 g := by
  obtain ⟨t1, k1, e1, t2, k2, e2, x0, x1, x2, x3, x4, x5, x6⟩ := h.at_ i hi
  exact ⟨t1, k1, e1, t2, k2, e2, by rw [h.row.cell (by omega), x0], by rw [h.row.cell (by omega), x1], by rw [h.row.cell (by omega), x2], x3, x4, x6⟩
end

theorem owns_nil (w : World) (B : Nat) : w.ownsRow B 3 1 (.slice none 0 0) 0 [] := ⟨by simp, .inl ⟨rfl, rfl⟩⟩

theorem below_own {w w1 : World} {base n : Nat} {v : Value} {xs : List Value} (hown : w.ownsRow base 3 1 v n xs) (hb : base ≤ w.heap.size) (hg : w.grownBy w1 v.ownBlock) : Below base w w1 :=
  (Below.refl _ _).grown hg hb (by
    intro k hk
    rcases hown.2 with ⟨rfl, _⟩ | ⟨g, cap, cur, rfl, hbg, _⟩
    · cases hk
    · cases hk; exact hbg)

set_option maxHeartbeats 4000000 in
theorem picksCounts_any (g n : Nat) (sh : List Int) (ps : List PartD) (f : Nat → Value) (w : World) (h : APick w g n n sh ps f) (hn : n ≤ 5) :
    Calls Try.prog 56 #[.slice (some ⟨g, 0, none⟩) n n] w fun e w' => ∃ a cap, e = .returned (.slice a n cap) ∧ w'.ownsRow w.heap.size 3 1 (.slice a n cap) n ((pCnN sh ps n).map (Value.int .i64)) ∧ Below w.heap.size w w' := by
  have H := hide h
  clear h
  obtain ⟨i0, hi, hz0, hz1, hz2⟩ := info_parts info_int
  go_enter Try.func56, Try.ntmps56
  go_wp2_with fail
  go_loopw [3, 8] (fun v i wr => ∃ (k : Nat) (a : Option Addr) (cap : Nat), k ≤ n ∧ i = .int .i64 k ∧ v = .slice a k cap ∧ Hid (wr.ownsRow w.heap.size 3 1 (.slice a k cap) k ((pCnN sh ps k).map (Value.int .i64)) ∧ Below w.heap.size w wr)) (fun _ i _ => n - (intOf i).toNat)
  case atStart => exact ⟨0, none, 0, Nat.zero_le _, rfl, rfl, owns_nil _ _, Below.refl _ _⟩
  case round =>
    obtain ⟨k, a, cap, hk, rfl, rfl, HX⟩ := hrel
    by_cases hlt : k < n
    · have HO := hide (unhide HX).1
      have HB := hide (unhide HX).2
      clear HX
      obtain ⟨t1, k1, e1, t2, k2, e2, x0, x1, x2, x3, x4, _⟩ := ((unhide H).below (Nat.le_refl _) (unhide HB)).get (Nat.le_refl _) hlt
      have HC : Hid (pCnN sh ps (k + 1) = pCnN sh ps k ++ [(k2 : Int)]) := by show _ = _; rw [pCnN_succ, x4.len]
      have hk2 := x4.small
      have hz := (unhide HB).size
      clear x3 x4
      go_wp2_with (at_builtin; refine wpList_append_own _ rfl _ _ 22 rfl w.heap.size 3 i0 (.int .i64 0) 1 8 Try.underlying22 hi hz0 hz1 hz2 rfl (by decide) _ _ _ rfl (owns_below (unhide HO) (Nat.le_refl _) (((Below.refl _ _).alloc (Nat.le_refl _) _).alloc (by simp) _)) ⟨wr.heap.size + 1, 0, none⟩ 1 1 [.int .i64 k2] rfl rfl (by simpa using cells_new (wr.alloc (.cells #[.bool false, .slice (some t1) k1 e1, .slice t2 k2 e2] 26)) (k2 : Int)) (one_one _) (by unfold maxLen; omega) (by omega) (by simp; omega) ?_; intro v1 w1 hown hgrow hnil)
      have hown2 : w1.ownsRow w.heap.size 3 1 v1 (k + 1) ((pCnN sh ps (k + 1)).map (Value.int .i64)) := by rw [unhide HC]; simpa using hown
      obtain ⟨a', cap', rfl⟩ := owns_slice hown2
      have HB1 : Hid (Below w.heap.size w w1) := (unhide HB).trans (((((Below.refl _ _).alloc (Nat.le_refl _) _).alloc (by simp) _).mono (unhide HB).size).trans (below_own (owns_below (unhide HO) (Nat.le_refl _) (((Below.refl _ _).alloc (Nat.le_refl _) _).alloc (by simp) _)) (by simp; omega) hgrow))
      have HO1 := hide hown2
      clear hown hgrow hnil hown2 HO HB HC x0 x1 x2
      go_wp2_with fail
      go_roundw
      case rel => exact ⟨k + 1, a', cap', by omega, by go_num, rfl, unhide HO1, unhide HB1⟩
      case measure => simp [intOf]; omega
    · obtain rfl : k = n := by omega
      go_wp2_with fail
      go_ret
      exact ⟨_, _, rfl, (unhide HX).1, (unhide HX).2⟩

set_option maxHeartbeats 4000000 in
theorem picksShape_any (g n : Nat) (sh : List Int) (ps : List PartD) (f : Nat → Value) (w : World) (h : APick w g n n sh ps f) (hn : n ≤ 5) (hsm : ∀ i, i < n → (pickSh (part ps i) (sh.getD i 0)).length ≤ 5) :
    Calls Try.prog 58 #[.slice (some ⟨g, 0, none⟩) n n] w fun e w' => ∃ a m cap, e = .returned (.slice a m cap) ∧ m ≤ 25 ∧ w'.ownsRow w.heap.size 3 1 (.slice a m cap) m ((pShN sh ps n).map (Value.int .i64)) ∧ Below w.heap.size w w' := by
  have H := hide h
  have HSM := hide hsm
  clear h hsm
  obtain ⟨i0, hi, hz0, hz1, hz2⟩ := info_parts info_int
  go_enter Try.func58, Try.ntmps58
  go_wp2_with fail
  go_loopw [3, 8] (fun v i wr => ∃ (k m : Nat) (a : Option Addr) (cap : Nat), k ≤ n ∧ i = .int .i64 k ∧ v = .slice a m cap ∧ m ≤ 5 * k ∧ Hid (wr.ownsRow w.heap.size 3 1 (.slice a m cap) m ((pShN sh ps k).map (Value.int .i64)) ∧ Below w.heap.size w wr)) (fun _ i _ => n - (intOf i).toNat)
  case atStart => exact ⟨0, 0, none, 0, Nat.zero_le _, rfl, rfl, Nat.zero_le _, owns_nil _ _, Below.refl _ _⟩
  case round =>
    obtain ⟨k, m, a, cap, hk, rfl, rfl, hm, HX⟩ := hrel
    by_cases hlt : k < n
    · have HO := hide (unhide HX).1
      have HB := hide (unhide HX).2
      clear HX
      obtain ⟨t1, k1, e1, t2, k2, e2, x0, x1, x2, x3, x4, _⟩ := ((unhide H).below (Nat.le_refl _) (unhide HB)).get (Nat.le_refl _) hlt
      have hk1 : k1 ≤ 5 := by rw [← x3.len]; exact unhide HSM k hlt
      have X3 := hide x3
      have hz := (unhide HB).size
      clear x3 x4
      go_wp2_with (at_builtin; refine wpList_append_own _ rfl _ _ 22 rfl w.heap.size 3 i0 (.int .i64 0) 1 8 Try.underlying22 hi hz0 hz1 hz2 rfl (by decide) _ _ _ rfl (owns_below (unhide HO) (Nat.le_refl _) ((Below.refl _ _).alloc (Nat.le_refl _) _)) t1 k1 e1 ((pickSh (part ps k) (sh.getD k 0)).map (Value.int .i64)) rfl (by simpa using (unhide X3).len) (cells_ints ((unhide X3).alloc _)) (one_ints _) (by unfold maxLen; omega) (by omega) (by simp; omega) ?_; intro v1 w1 hown hgrow hnil)
      have hown2 : w1.ownsRow w.heap.size 3 1 v1 (m + k1) ((pShN sh ps (k + 1)).map (Value.int .i64)) := by rw [pShN_succ, List.map_append]; exact hown
      obtain ⟨a', cap', rfl⟩ := owns_slice hown2
      have HB1 : Hid (Below w.heap.size w w1) := (unhide HB).trans ((((Below.refl _ _).alloc (Nat.le_refl _) _).mono (unhide HB).size).trans (below_own (owns_below (unhide HO) (Nat.le_refl _) ((Below.refl _ _).alloc (Nat.le_refl _) _)) (by simp; omega) hgrow))
      have HO1 := hide hown2
      clear hown hgrow hnil hown2 HO HB x0 x1 x2
      go_wp2_with fail
      go_roundw
      case rel => exact ⟨k + 1, m + k1, a', cap', by omega, by go_num, rfl, by omega, unhide HO1, unhide HB1⟩
      case measure => simp [intOf]; omega
    · obtain rfl : k = n := by omega
      go_wp2_with fail
      go_ret
      exact ⟨_, _, _, rfl, by omega, (unhide HX).1, (unhide HX).2⟩

set_option maxHeartbeats 4000000 in
theorem picksNumber_ok (g n : Nat) (sh : List Int) (ps : List PartD) (f : Nat → Value) (w : World) (h : APick w g n n sh ps f) (ho : PicksOk sh ps) (hl : ps.length = n) (hs : ShapeIn sh) : NumOkB 57 (.slice (some ⟨g, 0, none⟩) n n) (pNum sh ps) (pCn sh ps) n w := by
  intro D hD hDl k hk ib W hW hB
  obtain ⟨t1, k1, e1, t2, k2, e2, x0, x1, x2, x3, x4, _⟩ := (h.below (Nat.le_refl _) hW).get (Nat.le_refl _) hk
  have hls := ho.len
  obtain ⟨hd0, hd1, hp0, hp1⟩ := num_in ho hD (i := k) (by omega)
  have hsc := hs.cell k
  obtain ⟨dn, hdn⟩ : ∃ x : Nat, D.getD k 0 = x := ⟨(D.getD k 0).toNat, by omega⟩
  rw [hdn] at hd1
  have hdk : dn < k2 := by rw [← x4.len]; simpa using hd1
  obtain ⟨b, off, rfl, hb, hc⟩ := x4.get hdk
  obtain ⟨u, hu⟩ : ∃ u, u = pNum sh ps D k := ⟨_, rfl⟩
  have hval : (pDt sh ps k).getD dn 0 = u + 1 := by rw [hu]; unfold pNum; rw [hdn]; simp
  rw [hval] at hc
  rw [← hu] at hp0 hp1 ⊢
  have hcl : (pCn sh ps).length = n := by rw [pCn_len]; exact hl
  have hci := hB.cell (i := k) (by rw [hDl, hcl]; exact hk)
  rw [hdn] at hci
  rw [hcl]
  have hk2 := x4.small
  have hwr : IntKind.i64.wrap (u + 1 - 1) = u := by rw [IntKind.wrap_i64]; omega
  clear hD hDl hd0 hd1 hdn hval hu x0 x1 x3 x4 hB h
  go_enter Try.func57, Try.ntmps57
  go_wp2_with fail
  go_quiet (fail)
  go_wp2_with fail
  go_ret
  exact ⟨by first | rfl | (congr 1; congr 1; omega), Below.drewN (Below.refl _ _) _⟩

end Go.Proofs.Ytlnangnimbgpoaa
