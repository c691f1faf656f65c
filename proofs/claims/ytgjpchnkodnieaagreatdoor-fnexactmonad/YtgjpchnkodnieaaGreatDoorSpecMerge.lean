import Derived.Test.YtgjpchnkodnieaaGreatDoorMergeMath
import Derived.Test.YtgjpchnkodnieaaGreatDoorGrowR
import Derived.Deep.DeepCutAuto
namespace Go.Proofs.YtgjpchnkodnieaaGreatDoor
open Go.RowKit

theorem places_snoc {a j : Nat} (h : a ≤ j) : placesOf6 a (j + 1) = placesOf6 a j ++ [(j : Int) + 1] := by
  unfold placesOf6
  rw [seg_split h (by omega), seg_one]

theorem gradeK_at (down : Bool) (dt : List Int) {x : Int} {X : Nat} (h : x - 1 = (X : Int)) : gradeK down dt x = if down then - dt.getD X 0 else dt.getD X 0 := by
  unfold gradeK
  rw [h, Int.toNat_natCast]

theorem tail_val (g o c : Nat) : (if c = 1 then some (⟨g, o, none⟩ : Addr) else some ⟨g, o + 1, none⟩) = some ⟨g, (if c = 1 then o else o + 1), none⟩ := by split <;> rfl

theorem Row.tailIf {w : World} {b off n c : Nat} {x : Int} {zs : List Int} (h : Row w (some ⟨b, off, none⟩) (n + 1) (x :: zs)) (hc : n + 1 ≤ c) : Row w (some ⟨b, (if c = 1 then off else off + 1), none⟩) n zs := by
  by_cases h1 : c = 1
  · have hn : n = 0 := by omega
    subst hn
    exact ⟨by have := h.len; simpa using this, by omega, .inl rfl⟩
  · rw [if_neg h1]; exact h.tail

theorem head_cell {w w' : World} {b off n : Nat} {x : Int} {zs : List Int} (h : Row w (some ⟨b, off, none⟩) (n + 1) (x :: zs)) (hb : Below w.heap.size w w') : w'.cell? ⟨b, off, none⟩ = some (.int .i64 x) := by
  obtain ⟨b', o', he, hlt, hc⟩ := h.get (k := 0) (by omega)
  cases he
  exact (hb.cell (p := ⟨b, off, none⟩) hlt).trans (by simpa using hc)

theorem cons_of {n : Nat} {l : List Int} (h : l.length = n + 1) : ∃ x t, l = x :: t := by
  cases l with
  | nil => simp at h
  | cons x t => exact ⟨x, t, rfl⟩

def sliceLen : Value → Nat | .slice _ n _ => n | _ => 0

/-- What l6Merge gives of the places of [a, b). -/
def Merges6 (down : Bool) (dt : List Int) (w : World) (a b : Nat) (e : Ending) (w' : World) : Prop := ∃ g off k cap L, e = .returned (.slice (some ⟨g, off, none⟩) k cap) ∧ Row w' (some ⟨g, off, none⟩) k L ∧ k ≤ cap ∧ Ord6 (gradeK down dt) a b L ∧ Below w.heap.size w w'

set_option maxRecDepth 20000 in
set_option maxHeartbeats 4000000 in
theorem l6Merge_small (down : Bool) (a2 : Option Addr) (n c2 a b : Nat) (dt : List Int) (w : World) (hab : a ≤ b) (hs : b < a + 2) (hbn : b ≤ n) (hn : n ≤ 10000) :
    Calls Tryz.prog 156 #[.slice a2 n c2, .int .i64 (a : Nat), .int .i64 (b : Nat), .bool down] w (Merges6 down dt w a b) := by
  obtain ⟨i0, hi, hz0, hz1, hz2⟩ := info_parts info_int
  have e1 : (b : Int) - (a : Int) < 2 := by omega
  have HGR : Hid (GrowR w (w.alloc (.cells #[] 3)) w.heap.size 0 0 (placesOf6 a a)) := by
    have e : placesOf6 a a = [] := by unfold placesOf6; exact seg_none (Nat.le_refl _)
    show GrowR _ _ _ _ _ _
    rw [e]
    exact GrowR.start w
  have HS := hide hs
  clear hs
  go_enter Tryz.func156, Tryz.ntmps156
  go_wp2_with fail
  go_loopw [9, 10] (fun v i wx => ∃ (j k g1 cap1 : Nat), a + k = j ∧ j ≤ b ∧ i = .int .i64 j ∧ v = .slice (some ⟨g1, 0, none⟩) k cap1 ∧ Hid (GrowR w wx g1 cap1 k (placesOf6 a j))) (fun _ i _ => b - (intOf i).toNat)
  case atStart => exact ⟨a, 0, _, _, rfl, hab, rfl, rfl, HGR⟩
  case round =>
    obtain ⟨j, k, g1, cap1, hjk, hj, rfl, rfl, HGX⟩ := hrel
    clear HGR
    have HJK := hide hjk
    by_cases hjl : j < b
    · have hjli : (j : Int) < (b : Int) := by omega
      have hgz := (unhide HGX).low.size
      have hk : k ≤ 10000 := by omega
      have HSN := hide (places_snoc (a := a) (j := j) (by omega))
      clear hjk
      go_wp2_with (at_builtin; refine wpList_append_lies _ rfl _ _ 23 rfl w.heap.size 3 i0 (.int .i64 0) 1 8 Tryz.underlying23 hi hz0 hz1 hz2 rfl (by decide) _ _ _ rfl (owns_below (unhide HGX).own (Nat.le_refl _) ((Below.refl _ _).alloc (Nat.le_refl _) _)) ⟨wr.heap.size, 0, none⟩ 1 1 [.int .i64 ((j : Int) + 1)] rfl rfl (cells_new _ _) (one_one _) (by omega) (by unfold maxLen; omega) (by omega) (by simp; omega) (wr.heap.size + 1) (by simp) ?_; intro g' cap' w7 hown' hgrow hat hlt7; have HG7 := hide ((unhide HGX).push _ (unhide HSN) hown' hgrow); clear hgrow hat hown' hlt7)
      go_roundw
      case rel => exact ⟨j + 1, k + 1, g', cap', by have := unhide HJK; omega, by omega, by go_num, rfl, HG7⟩
      case measure => simp [intOf]; omega
    · have hjli : ¬ (j : Int) < (b : Int) := by omega
      obtain rfl : j = b := by omega
      have hk : k ≤ 17592186044416 := by omega
      clear hjk
      go_wp2_with fail
      go_ret
      exact ⟨g1, 0, k, cap1, _, rfl, (unhide HGX).row hk, (unhide HGX).cap, ord6_small (unhide HS), (unhide HGX).low⟩

/-- l6Merge does what it should for pieces of less than len places. -/
def MergeOk6 (down : Bool) (ad : Addr) (n c2 : Nat) (dt : List Int) (len : Nat) : Prop := ∀ (a b : Nat) (w : World), b - a < len → a ≤ b → b ≤ n → Row w (some ad) n dt →
    Calls Tryz.prog 156 #[.slice (some ad) n c2, .int .i64 (a : Nat), .int .i64 (b : Nat), .bool down] w (Merges6 down dt w a b)

set_option maxRecDepth 20000 in
set_option maxHeartbeats 8000000 in
theorem l6Merge_big (down : Bool) (ad : Addr) (n c2 a b : Nat) (dt : List Int) (w : World) (ih : MergeOk6 down ad n c2 dt (b - a)) (hs : a + 2 ≤ b) (hbn : b ≤ n) (hn : n ≤ 10000) (h : Row w (some ad) n dt) :
    Calls Tryz.prog 156 #[.slice (some ad) n c2, .int .i64 (a : Nat), .int .i64 (b : Nat), .bool down] w (Merges6 down dt w a b) := by
  obtain ⟨i0, hi, hz0, hz1, hz2⟩ := info_parts info_int
  have H := hide h
  have IH := hide ih
  clear h ih
  have e1 : ¬ (b : Int) - (a : Int) < 2 := by omega
  obtain ⟨m, hm⟩ : ∃ m, (a + b) / 2 = m := ⟨_, rfl⟩
  have em : ((a : Int) + (b : Int)).tdiv 2 = (m : Int) := by rw [Int.tdiv_eq_ediv_of_nonneg (by omega)]; omega
  have em2 : ((a : Int) + (b : Int)) / 2 = (m : Int) := by omega
  have ham : a < m := by omega
  have hmb : m < b := by omega
  clear hm
  go_enter Tryz.func156, Tryz.ntmps156
  go_wp2_with fail
  refine (unhide IH a m w (by omega) (by omega) (by omega) (unhide H)).mono ?_
  rintro e w1 ⟨g1, o1, k1, p1, L1, rfl, hR1, hk1, hO1, hb1⟩
  have HR1 := hide hR1
  have HO1 := hide hO1
  have HB1 := hide hb1
  clear hR1 hO1 hb1
  go_wp2_with fail
  refine (unhide IH m b w1 (by omega) (by omega) (by omega) ((unhide H).below (Nat.le_refl _) (unhide HB1))).mono ?_
  rintro e Q ⟨g2, o2, k2, p2, L2, rfl, hR2, hk2, hO2, hb2⟩
  have HRA0 := hide ((unhide HR1).below (Nat.le_refl _) hb2)
  have HRB0 := hide hR2
  have HM0 := hide (Mrg.start (unhide HO1) hO2 (by omega) (by omega))
  have HBQ := hide ((unhide HB1).trans (hb2.mono (unhide HB1).size))
  have HQ := hide ((unhide H).below (Nat.le_refl _) (unhide HBQ))
  have HG0 := hide (GrowR.start Q)
  have hk1n : k1 + k2 ≤ 10000 := by
    have e1 := (unhide HM0).perm.length_eq
    have e2 : (placesOf6 a b).length = b - a := by unfold placesOf6 seg; simp
    rw [e2] at e1
    simp at e1
    have := (unhide HRA0).len
    have := (unhide HRB0).len
    omega
  clear hR2 hO2 hb2 HR1 HO1 HB1
  go_wp2_with fail
  go_loopw [12, 13, 14] (fun va vb vo wr => ∃ (A B O : List Int) (la lb k ga oa ca gb ob cb g cap : Nat), va = .slice (some ⟨ga, oa, none⟩) la ca ∧ vb = .slice (some ⟨gb, ob, none⟩) lb cb ∧ vo = .slice (some ⟨g, 0, none⟩) k cap ∧ Hid (Row Q (some ⟨ga, oa, none⟩) la A) ∧ Hid (Row Q (some ⟨gb, ob, none⟩) lb B) ∧ la ≤ ca ∧ lb ≤ cb ∧ Hid (Mrg (gradeK down dt) a b O A B) ∧ Hid (GrowR Q wr g cap k O) ∧ k + la + lb ≤ 10000) (fun va vb _ _ => sliceLen va + sliceLen vb)
  case atStart => exact ⟨L1, L2, [], k1, k2, 0, _, _, _, _, _, _, _, _, rfl, rfl, rfl, HRA0, HRB0, hk1, hk2, HM0, HG0, by omega⟩
  case round =>
    obtain ⟨A, B, O, la, lb, k, ga, oa, ca, gb, ob, cb, g, cap, rfl, rfl, rfl, HRA, HRB, hca, hcb, HM, HGX, hkn⟩ := hrel
    clear HRA0 HRB0 HM0 HG0
    have hgz := (unhide HGX).low.size
    have hlA := hide (unhide HRA).len
    have hlB := hide (unhide HRB).len
    by_cases h0 : la + lb = 0
    · have z1 : la = 0 := by omega
      have z2 : lb = 0 := by omega
      subst z1 z2
      have HOO : Hid (Ord6 (gradeK down dt) a b O) := by
        have q1 := List.length_eq_zero_iff.1 (unhide hlA)
        have q2 := List.length_eq_zero_iff.1 (unhide hlB)
        have q3 := unhide HM
        rw [q1, q2] at q3
        exact q3.done
      clear h0
      go_wp2_with fail
      go_ret
      exact ⟨g, 0, k, cap, O, rfl, (unhide HGX).row (by omega), (unhide HGX).cap, unhide HOO, (unhide HBQ).trans ((unhide HGX).low.mono (unhide HBQ).size)⟩
    · have h0i : (0 : Int) < (la : Int) + (lb : Int) := by omega
      by_cases hla : la = 0
      · subst hla
        obtain ⟨lb', rfl⟩ : ∃ x, lb = x + 1 := ⟨lb - 1, by omega⟩
        have qA := List.length_eq_zero_iff.1 (unhide hlA)
        subst qA
        obtain ⟨y, B', rfl⟩ := cons_of (unhide hlB)
        have cY := head_cell (unhide HRB) (unhide HGX).low
        have HM' := hide ((unhide HM).right (.inl rfl))
        clear HM h0
        go_wp2_with (at_builtin; refine wpList_append_lies _ rfl _ _ 23 rfl Q.heap.size 3 i0 (.int .i64 0) 1 8 Tryz.underlying23 hi hz0 hz1 hz2 rfl (by decide) _ _ _ rfl (owns_below (unhide HGX).own (Nat.le_refl _) ((Below.refl _ _).alloc (Nat.le_refl _) _)) ⟨wr.heap.size, 0, none⟩ 1 1 [.int .i64 y] rfl rfl (cells_new _ _) (one_one _) (by omega) (by unfold maxLen; omega) (by omega) (by simp; omega) (wr.heap.size + 1) (by simp) ?_; intro g' cap' w7 hown' hgrow hat hlt7; have HG7 := hide ((unhide HGX).push (zs' := O ++ [y]) _ rfl hown' hgrow); clear hgrow hat hown' hlt7)
        go_roundw
        case rel => exact ⟨[], B', O ++ [y], 0, lb', k + 1, ga, oa, ca, gb, _, cb - 1, g', cap', rfl, by rw [tail_val], rfl, HRA, (unhide HRB).tailIf hcb, hca, by omega, HM', HG7, by omega⟩
        case measure => simp [sliceLen] <;> omega
      · obtain ⟨la', rfl⟩ : ∃ x, la = x + 1 := ⟨la - 1, by omega⟩
        obtain ⟨x, A', rfl⟩ := cons_of (unhide hlA)
        have cX := head_cell (unhide HRA) (unhide HGX).low
        clear hla h0
        by_cases hlb : lb = 0
        · subst hlb
          have qB := List.length_eq_zero_iff.1 (unhide hlB)
          subst qB
          have HM' := hide ((unhide HM).left (.inl rfl))
          clear HM
          go_wp2_with (at_builtin; refine wpList_append_lies _ rfl _ _ 23 rfl Q.heap.size 3 i0 (.int .i64 0) 1 8 Tryz.underlying23 hi hz0 hz1 hz2 rfl (by decide) _ _ _ rfl (owns_below (unhide HGX).own (Nat.le_refl _) ((Below.refl _ _).alloc (Nat.le_refl _) _)) ⟨wr.heap.size, 0, none⟩ 1 1 [.int .i64 x] rfl rfl (cells_new _ _) (one_one _) (by omega) (by unfold maxLen; omega) (by omega) (by simp; omega) (wr.heap.size + 1) (by simp) ?_; intro g' cap' w7 hown' hgrow hat hlt7; have HG7 := hide ((unhide HGX).push (zs' := O ++ [x]) _ rfl hown' hgrow); clear hgrow hat hown' hlt7)
          go_roundw
          case rel => exact ⟨A', [], O ++ [x], la', 0, k + 1, ga, _, ca - 1, gb, ob, cb, g', cap', by rw [tail_val], rfl, rfl, (unhide HRA).tailIf hca, HRB, by omega, hcb, HM', HG7, by omega⟩
          case measure => simp [sliceLen] <;> omega
        · obtain ⟨lb', rfl⟩ : ∃ x, lb = x + 1 := ⟨lb - 1, by omega⟩
          obtain ⟨y, B', rfl⟩ := cons_of (unhide hlB)
          have cY := head_cell (unhide HRB) (unhide HGX).low
          clear hlb
          have bx := (unhide HM).mem_a (x := x) (by simp)
          have by' := (unhide HM).mem_b (x := y) (by simp)
          obtain ⟨X, hX⟩ : ∃ X : Nat, x - 1 = (X : Int) := ⟨(x - 1).toNat, by omega⟩
          obtain ⟨Y, hY⟩ : ∃ Y : Nat, y - 1 = (Y : Int) := ⟨(y - 1).toNat, by omega⟩
          have hXn : X < n := by omega
          have hYn : Y < n := by omega
          obtain ⟨bd, od, hed, hltd, hcX⟩ := (unhide HQ).get hXn
          obtain ⟨_, _, hed', _, hcY⟩ := (unhide HQ).get hYn
          cases hed
          cases hed'
          have cdX := ((unhide HGX).low.cell (p := ⟨bd, od + X, none⟩) hltd).trans hcX
          have cdY := ((unhide HGX).low.cell (p := ⟨bd, od + Y, none⟩) hltd).trans hcY
          have hXi : (X : Int) < (n : Int) := by omega
          have hYi : (Y : Int) < (n : Int) := by omega
          have HKX := hide (gradeK_at down dt hX)
          have HKY := hide (gradeK_at down dt hY)
          obtain ⟨p, hp⟩ : ∃ p, dt.getD X 0 = p := ⟨_, rfl⟩
          obtain ⟨q, hq⟩ : ∃ q, dt.getD Y 0 = q := ⟨_, rfl⟩
          rw [hp] at cdX HKX
          rw [hq] at cdY HKY
          clear hcX hcY hp hq bx by' hltd
          cases down with
          | false =>
            by_cases hqp : q < p
            · have hqp2 : ¬ p < q := by omega
              have HM' : Hid (Mrg (gradeK false dt) a b (O ++ [y]) (x :: A') B') := by
                refine (unhide HM).right (.inr ⟨_, _, rfl, ?_⟩)
                rw [unhide HKX, unhide HKY]
                simp <;> omega
              clear HM HKX HKY
              go_wp2_with (at_builtin; refine wpList_append_lies _ rfl _ _ 23 rfl Q.heap.size 3 i0 (.int .i64 0) 1 8 Tryz.underlying23 hi hz0 hz1 hz2 rfl (by decide) _ _ _ rfl (owns_below (unhide HGX).own (Nat.le_refl _) ((Below.refl _ _).alloc (Nat.le_refl _) _)) ⟨wr.heap.size, 0, none⟩ 1 1 [.int .i64 y] rfl rfl (cells_new _ _) (one_one _) (by omega) (by unfold maxLen; omega) (by omega) (by simp; omega) (wr.heap.size + 1) (by simp) ?_; intro g' cap' w7 hown' hgrow hat hlt7; have HG7 := hide ((unhide HGX).push (zs' := O ++ [y]) _ rfl hown' hgrow); clear hgrow hat hown' hlt7)
              go_roundw
              case rel => exact ⟨x :: A', B', O ++ [y], la' + 1, lb', k + 1, ga, oa, ca, gb, _, cb - 1, g', cap', rfl, by rw [tail_val], rfl, HRA, (unhide HRB).tailIf hcb, hca, by omega, HM', HG7, by omega⟩
              case measure => simp [sliceLen] <;> omega
            · by_cases hpq : p < q
              · have HM' : Hid (Mrg (gradeK false dt) a b (O ++ [x]) A' (y :: B')) := by
                  refine (unhide HM).left (.inr ⟨_, _, rfl, ?_⟩)
                  rw [unhide HKX, unhide HKY]
                  simp <;> omega
                clear HM HKX HKY
                go_wp2_with (at_builtin; refine wpList_append_lies _ rfl _ _ 23 rfl Q.heap.size 3 i0 (.int .i64 0) 1 8 Tryz.underlying23 hi hz0 hz1 hz2 rfl (by decide) _ _ _ rfl (owns_below (unhide HGX).own (Nat.le_refl _) ((Below.refl _ _).alloc (Nat.le_refl _) _)) ⟨wr.heap.size, 0, none⟩ 1 1 [.int .i64 x] rfl rfl (cells_new _ _) (one_one _) (by omega) (by unfold maxLen; omega) (by omega) (by simp; omega) (wr.heap.size + 1) (by simp) ?_; intro g' cap' w7 hown' hgrow hat hlt7; have HG7 := hide ((unhide HGX).push (zs' := O ++ [x]) _ rfl hown' hgrow); clear hgrow hat hown' hlt7)
                go_roundw
                case rel => exact ⟨A', y :: B', O ++ [x], la', lb' + 1, k + 1, ga, _, ca - 1, gb, ob, cb, g', cap', by rw [tail_val], rfl, rfl, (unhide HRA).tailIf hca, HRB, by omega, hcb, HM', HG7, by omega⟩
                case measure => simp [sliceLen] <;> omega
              · have hqq : q = p := by omega
                subst hqq
                have HM' : Hid (Mrg (gradeK false dt) a b (O ++ [x]) A' (y :: B')) := by
                  refine (unhide HM).left (.inr ⟨_, _, rfl, ?_⟩)
                  rw [unhide HKX, unhide HKY]
                  simp <;> omega
                clear HM HKX HKY
                go_wp2_with (at_builtin; refine wpList_append_lies _ rfl _ _ 23 rfl Q.heap.size 3 i0 (.int .i64 0) 1 8 Tryz.underlying23 hi hz0 hz1 hz2 rfl (by decide) _ _ _ rfl (owns_below (unhide HGX).own (Nat.le_refl _) ((Below.refl _ _).alloc (Nat.le_refl _) _)) ⟨wr.heap.size, 0, none⟩ 1 1 [.int .i64 x] rfl rfl (cells_new _ _) (one_one _) (by omega) (by unfold maxLen; omega) (by omega) (by simp; omega) (wr.heap.size + 1) (by simp) ?_; intro g' cap' w7 hown' hgrow hat hlt7; have HG7 := hide ((unhide HGX).push (zs' := O ++ [x]) _ rfl hown' hgrow); clear hgrow hat hown' hlt7)
                go_roundw
                case rel => exact ⟨A', y :: B', O ++ [x], la', lb' + 1, k + 1, ga, _, ca - 1, gb, ob, cb, g', cap', by rw [tail_val], rfl, rfl, (unhide HRA).tailIf hca, HRB, by omega, hcb, HM', HG7, by omega⟩
                case measure => simp [sliceLen] <;> omega
          | true =>
            by_cases hqp : q < p
            · have hqp2 : ¬ p < q := by omega
              have HM' : Hid (Mrg (gradeK true dt) a b (O ++ [x]) A' (y :: B')) := by
                refine (unhide HM).left (.inr ⟨_, _, rfl, ?_⟩)
                rw [unhide HKX, unhide HKY]
                simp <;> omega
              clear HM HKX HKY
              go_wp2_with (at_builtin; refine wpList_append_lies _ rfl _ _ 23 rfl Q.heap.size 3 i0 (.int .i64 0) 1 8 Tryz.underlying23 hi hz0 hz1 hz2 rfl (by decide) _ _ _ rfl (owns_below (unhide HGX).own (Nat.le_refl _) ((Below.refl _ _).alloc (Nat.le_refl _) _)) ⟨wr.heap.size, 0, none⟩ 1 1 [.int .i64 x] rfl rfl (cells_new _ _) (one_one _) (by omega) (by unfold maxLen; omega) (by omega) (by simp; omega) (wr.heap.size + 1) (by simp) ?_; intro g' cap' w7 hown' hgrow hat hlt7; have HG7 := hide ((unhide HGX).push (zs' := O ++ [x]) _ rfl hown' hgrow); clear hgrow hat hown' hlt7)
              go_roundw
              case rel => exact ⟨A', y :: B', O ++ [x], la', lb' + 1, k + 1, ga, _, ca - 1, gb, ob, cb, g', cap', by rw [tail_val], rfl, rfl, (unhide HRA).tailIf hca, HRB, by omega, hcb, HM', HG7, by omega⟩
              case measure => simp [sliceLen] <;> omega
            · by_cases hpq : p < q
              · have HM' : Hid (Mrg (gradeK true dt) a b (O ++ [y]) (x :: A') B') := by
                  refine (unhide HM).right (.inr ⟨_, _, rfl, ?_⟩)
                  rw [unhide HKX, unhide HKY]
                  simp <;> omega
                clear HM HKX HKY
                go_wp2_with (at_builtin; refine wpList_append_lies _ rfl _ _ 23 rfl Q.heap.size 3 i0 (.int .i64 0) 1 8 Tryz.underlying23 hi hz0 hz1 hz2 rfl (by decide) _ _ _ rfl (owns_below (unhide HGX).own (Nat.le_refl _) ((Below.refl _ _).alloc (Nat.le_refl _) _)) ⟨wr.heap.size, 0, none⟩ 1 1 [.int .i64 y] rfl rfl (cells_new _ _) (one_one _) (by omega) (by unfold maxLen; omega) (by omega) (by simp; omega) (wr.heap.size + 1) (by simp) ?_; intro g' cap' w7 hown' hgrow hat hlt7; have HG7 := hide ((unhide HGX).push (zs' := O ++ [y]) _ rfl hown' hgrow); clear hgrow hat hown' hlt7)
                go_roundw
                case rel => exact ⟨x :: A', B', O ++ [y], la' + 1, lb', k + 1, ga, oa, ca, gb, _, cb - 1, g', cap', rfl, by rw [tail_val], rfl, HRA, (unhide HRB).tailIf hcb, hca, by omega, HM', HG7, by omega⟩
                case measure => simp [sliceLen] <;> omega
              · have hqq : q = p := by omega
                subst hqq
                have HM' : Hid (Mrg (gradeK true dt) a b (O ++ [x]) A' (y :: B')) := by
                  refine (unhide HM).left (.inr ⟨_, _, rfl, ?_⟩)
                  rw [unhide HKX, unhide HKY]
                  simp <;> omega
                clear HM HKX HKY
                go_wp2_with (at_builtin; refine wpList_append_lies _ rfl _ _ 23 rfl Q.heap.size 3 i0 (.int .i64 0) 1 8 Tryz.underlying23 hi hz0 hz1 hz2 rfl (by decide) _ _ _ rfl (owns_below (unhide HGX).own (Nat.le_refl _) ((Below.refl _ _).alloc (Nat.le_refl _) _)) ⟨wr.heap.size, 0, none⟩ 1 1 [.int .i64 x] rfl rfl (cells_new _ _) (one_one _) (by omega) (by unfold maxLen; omega) (by omega) (by simp; omega) (wr.heap.size + 1) (by simp) ?_; intro g' cap' w7 hown' hgrow hat hlt7; have HG7 := hide ((unhide HGX).push (zs' := O ++ [x]) _ rfl hown' hgrow); clear hgrow hat hown' hlt7)
                go_roundw
                case rel => exact ⟨A', y :: B', O ++ [x], la', lb' + 1, k + 1, ga, _, ca - 1, gb, ob, cb, g', cap', by rw [tail_val], rfl, rfl, (unhide HRA).tailIf hca, HRB, by omega, hcb, HM', HG7, by omega⟩
                case measure => simp [sliceLen] <;> omega

theorem l6Merge_any (down : Bool) (ad : Addr) (n c2 : Nat) (dt : List Int) (hn : n ≤ 10000) : ∀ len, MergeOk6 down ad n c2 dt len := by
  intro len
  induction len with
  | zero => intro a b w h; exact absurd h (by omega)
  | succ len ih =>
    intro a b w hl hab hbn hr
    by_cases h : b < a + 2
    · exact l6Merge_small down (some ad) n c2 a b dt w hab h hbn hn
    · exact l6Merge_big down ad n c2 a b dt w (fun a' b' w' h' => ih a' b' w' (by omega)) (by omega) hbn hn hr

end Go.Proofs.YtgjpchnkodnieaaGreatDoor
