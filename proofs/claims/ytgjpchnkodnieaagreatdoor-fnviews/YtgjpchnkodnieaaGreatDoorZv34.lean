import Derived.Test.YtgjpchnkodnieaaGreatDoorZv05
import Derived.Test.YtgjpchnkodnieaaGreatDoorZv31
import Derived.Test.YtgjpchnkodnieaaGreatDoorZv33
import Derived.Test.YtgjpchnkodnieaaGreatDoorZv32
import Derived.Test.YtgjpchnkodnieaaGreatDoorZv07
import Derived.Test.YtgjpchnkodnieaaGreatDoorZv14
import Derived.Test.YtgjpchnkodnieaaGreatDoorZv19
import Derived.Deep.OwnRows
import Derived.BigQuiet
import Derived.Test.YtgjpchnkodnieaaGreatDoorZv20
import Derived.Test.YtgjpchnkodnieaaGreatDoorZv11
namespace Go.Proofs.YtgjpchnkodnieaaGreatDoor
open Go.RowKit
theorem codeList_bad1' {c d : Bool} {sh dt sh' dt' : List Int} (h : arrOk c sh dt = false) : codeList c d sh dt sh' dt' = 3 := by unfold codeList; rw [if_neg (by simp [h])]
theorem codeList_bad2' {c d : Bool} {sh dt sh' dt' : List Int} (h : arrOk d sh' dt' = false) : codeList c d sh dt sh' dt' = 3 := by unfold codeList; rw [if_neg (by simp [h])]
theorem codeList_ok' {c d : Bool} {sh dt sh' dt' : List Int} (h : arrOk c sh dt = true) (h' : arrOk d sh' dt' = true) : codeList c d sh dt sh' dt' = listCode c sh.length := by unfold codeList; rw [if_pos ⟨h, h'⟩]
section
variable {lim : Bool} {Z S : List Int → List Int → List Int} {c d : Bool} {sh dt sh' dt' : List Int}
theorem cut_5 (h1 : arrOk c sh dt = true) (h2 : arrOk d sh' dt' = true) (h0 : listCode c sh.length = 0) (h : (countedSh dt.length sh').length ≠ dt.length) : window lim Z S c d sh dt sh' dt' = noAns 5 := by
  refine window_code' h1 h2 5 ?_ (by omega)
  rw [counted_go h0]
  unfold countedSh at h
  by_cases e : sh' = []
  · rw [if_pos e] at h; simp at h
  · rw [if_neg e] at h
    rw [if_neg (fun h => e (List.length_eq_zero_iff.1 h)), if_pos (fun h' => h h'.symm)]
theorem cut_count (h0 : listCode c sh.length = 0) (h : (countedSh dt.length sh').length = dt.length) (h5 : dt.length ≤ 5) : countedCode c sh.length dt.length sh'.length = 0 := by
  rw [counted_go h0]
  unfold countedSh at h
  by_cases e : sh' = []
  · subst e; rw [if_pos (show ([] : List Int).length = 0 from rfl), if_neg (by omega)]
  · rw [if_neg e] at h
    rw [if_neg (fun h => e (List.length_eq_zero_iff.1 h)), if_neg (by omega)]
theorem cut_long (h1 : arrOk c sh dt = true) (h2 : arrOk d sh' dt' = true) (h0 : listCode c sh.length = 0) (h : (countedSh dt.length sh').length = dt.length) (h5 : 5 < dt.length) : window lim Z S c d sh dt sh' dt' = noAns 7 := by
  refine window_code' h1 h2 7 ?_ (by omega)
  rw [counted_go h0]
  unfold countedSh at h
  by_cases e : sh' = []
  · subst e; rw [if_pos (show ([] : List Int).length = 0 from rfl), if_pos h5]
  · rw [if_neg e] at h
    have := (shapeIn_of h2).2.2
    omega
theorem cut_go (h1 : arrOk c sh dt = true) (h2 : arrOk d sh' dt' = true) (h0 : listCode c sh.length = 0) (h : (countedSh dt.length sh').length = dt.length) (hz : shapeB (Z (countedSh dt.length sh') dt) = true) (hl : (Z (countedSh dt.length sh') dt).length = dt.length) :
    window lim Z S c d sh dt sh' dt' = ⟨d, Z (countedSh dt.length sh') dt, vals (gatherAt d (countedSh dt.length sh') dt' (cutF (S (countedSh dt.length sh') dt)) (Z (countedSh dt.length sh') dt)) (countOf (Z (countedSh dt.length sh') dt)).toNat, 0⟩ := by
  have h5 := (shapeB_in hz).2
  rw [hl] at h5
  have hc := shapeB_count hz
  rw [window_go h1 h2 (cut_count h0 h h5) (fun _ => hz) (countOf (Z (countedSh dt.length sh') dt)).toNat (by omega), cut_vals (by rw [hl, h])]
end
theorem drop_fits {d : Bool} {dt sh' dt' : List Int} (h2 : arrOk d sh' dt' = true) (h : (countedSh dt.length sh').length = dt.length) (h5 : dt.length ≤ 5) : shapeB (dropZ (countedSh dt.length sh') dt) = true := by
  have hin : ShapeIn (countedSh dt.length sh') := by unfold countedSh; split; exact (ones_in _).1; exact (shapeIn_of h2).1
  refine shapeB_of (shape_less hin (by rw [dropZ_len, h]) ?_) (by rw [dropZ_len]; exact h5)
  intro k hk
  have hc := hin.cell k
  rw [dropZ_get _ _ _ (by omega)]
  have ha : 0 ≤ absI (dt.getD k 0) := by unfold absI; split <;> omega
  split <;> omega
end Go.Proofs.YtgjpchnkodnieaaGreatDoor
namespace Go.Proofs.YtgjpchnkodnieaaGreatDoor
open Go.RowKit
def Bytes (w : World) (a : Option Addr) (n : Nat) : Prop :=
  n = 0 ∨ ∃ b off, a = some ⟨b, off, none⟩ ∧ b < w.heap.size ∧ ∀ i, i < n → ∃ v : Nat, v ≤ 255 ∧ w.cell? ⟨b, off + i, none⟩ = some (.int .u8 (v : Nat))
theorem Bytes.below {w w' : World} {a : Option Addr} {n : Nat} (h : Bytes w a n) (hb : Below w.heap.size w w') : Bytes w' a n := by
  rcases h with h | ⟨b, off, e, hbl, hv⟩
  · exact .inl h
  · refine .inr ⟨b, off, e, by have := hb.size; omega, fun i hi => ?_⟩
    obtain ⟨v, h1, h2⟩ := hv i hi
    exact ⟨v, h1, (hb.cell (p := ⟨b, off + i, none⟩) hbl).trans h2⟩
theorem Bytes.take {w : World} {a : Option Addr} {n m : Nat} (h : Bytes w a n) (hm : m ≤ n) : Bytes w a m := by
  rcases h with h | ⟨b, off, e, hbl, hv⟩
  · exact .inl (by omega)
  · exact .inr ⟨b, off, e, hbl, fun i hi => hv i (by omega)⟩
theorem rd_new {w : World} {a : Option Addr} {n c : Nat} (h : Bytes w a n) (hn : n ≤ 1000) : RdOk (w.alloc (.cells #[.slice a n c, .int .i64 0] 157)) w.heap.size := by
  refine ⟨a, n, c, 0, World.alloc_heap_new w _, hn, Nat.zero_le _, ?_⟩
  rcases h with h | ⟨b, off, e, hbl, hv⟩
  · exact .inl h
  · refine .inr ⟨b, off, e, hbl, fun i hi => ?_⟩
    obtain ⟨v, h1, h2⟩ := hv i hi
    exact ⟨v, h1, (((Below.refl w.heap.size w).alloc (Nat.le_refl _) _).cell (p := ⟨b, off + i, none⟩) hbl).trans h2⟩
set_option maxHeartbeats 2000000 in
theorem l1Open_any (a : Option Addr) (n c : Nat) (w : World) (h : Bytes w a n) (hc : n ≤ c) (hn : n ≤ 1048576) :
    Calls Tryz.prog 44 #[.slice a n c] w fun e w' => ∃ pr, e = .returned (.pointer (some ⟨pr, 0, none⟩)) ∧ RdOk w' pr ∧ w.heap.size ≤ pr ∧ Below w.heap.size w w' := by
  by_cases hlt : 1000 < n
  · have hltz : (1000 : Int) < (n : Int) := by omega
    rcases h with h | ⟨b, off, rfl, hbl, hv⟩
    · omega
    have HBY : Hid (Bytes w (some ⟨b, off, none⟩) 1000) := Bytes.take (n := n) (.inr ⟨b, off, rfl, hbl, hv⟩) (by omega)
    have hc1 : (1000 : Int) ≤ (c : Int) := by omega
    clear hv
    go_enter Tryz.func44, Tryz.ntmps44
    go_wp2_with fail
    refine bodyPost_ret (v := .pointer (some ⟨w.heap.size, 0, none⟩)) (by simp [results, Tryz.results44, go_sem]) rfl ⟨w.heap.size, rfl, rd_new (unhide HBY) (Nat.le_refl _), Nat.le_refl _, (Below.refl _ _).alloc (Nat.le_refl _) _⟩
  · have hltz : ¬ (1000 : Int) < (n : Int) := by omega
    have HBY := hide h
    clear h
    go_enter Tryz.func44, Tryz.ntmps44
    go_wp2_with fail
    refine bodyPost_ret (v := .pointer (some ⟨w.heap.size, 0, none⟩)) (by simp [results, Tryz.results44, go_sem]) rfl ⟨w.heap.size, rfl, rd_new (unhide HBY) (by omega), Nat.le_refl _, (Below.refl _ _).alloc (Nat.le_refl _) _⟩
end Go.Proofs.YtgjpchnkodnieaaGreatDoor
namespace Go.Proofs.YtgjpchnkodnieaaGreatDoor
open Go.RowKit
structure APick (w : World) (g n k : Nat) (sh : List Int) (ps : List PartD) (f : Nat → Value) : Prop where
  row : w.rowIs g 25 (n * 3) f
  at_ : ∀ i, i < k → ∃ t1 k1 e1 t2 k2 e2, f (i * 3) = .bool false ∧ f (i * 3 + 1) = .slice (some t1) k1 e1 ∧ f (i * 3 + 2) = .slice t2 k2 e2 ∧ Row w (some t1) k1 (pickSh (part ps i) (sh.getD i 0)) ∧ Row w t2 k2 (pDt sh ps i) ∧ ¬ At (some t1) k1 g ∧ ¬ At t2 k2 g
section
variable {w w' : World} {g n k B : Nat} {sh : List Int} {ps : List PartD} {f : Nat → Value}
theorem APick.below (h : APick w g n k sh ps f) (hB : w.heap.size ≤ B) (hb : Below B w w') : APick w' g n k sh ps f :=
  ⟨h.row.of_block (hb.block g (Nat.lt_of_lt_of_le h.row.lt hB)), fun i hi => by
    obtain ⟨t1, k1, e1, t2, k2, e2, x0, x1, x2, x3, x4, x5, x6⟩ := h.at_ i hi
    exact ⟨t1, k1, e1, t2, k2, e2, x0, x1, x2, x3.below hB hb, x4.below hB hb, x5, x6⟩⟩
theorem APick.get (h : APick w g n k sh ps f) (hkn : k ≤ n) {i : Nat} (hi : i < k) : ∃ t1 k1 e1 t2 k2 e2, w.cell? ⟨g, i * 3, none⟩ = some (.bool false) ∧ w.cell? ⟨g, i * 3 + 1, none⟩ = some (.slice (some t1) k1 e1) ∧ w.cell? ⟨g, i * 3 + 2, none⟩ = some (.slice t2 k2 e2) ∧ Row w (some t1) k1 (pickSh (part ps i) (sh.getD i 0)) ∧ Row w t2 k2 (pDt sh ps i) ∧ ¬ At t2 k2 g := by
  obtain ⟨t1, k1, e1, t2, k2, e2, x0, x1, x2, x3, x4, x5, x6⟩ := h.at_ i hi
  exact ⟨t1, k1, e1, t2, k2, e2, by rw [h.row.cell (by omega), x0], by rw [h.row.cell (by omega), x1], by rw [h.row.cell (by omega), x2], x3, x4, x6⟩
end
theorem owns_nil (w : World) (B : Nat) : w.ownsRow B 3 1 (.slice none 0 0) 0 [] := ⟨by simp, .inl ⟨rfl, rfl⟩⟩
theorem below_own {w w1 : World} {base n : Nat} {v : Value} {xs : List Value} (hown : w.ownsRow base 3 1 v n xs) (hb : base ≤ w.heap.size) (hg : w.grownBy w1 v.ownBlock) : Below base w w1 :=
  (Below.refl _ _).grown hg hb (by
    intro k hk
    rcases hown.2 with ⟨rfl, _⟩ | ⟨g, cap, cur, rfl, hbg, _⟩
    · cases hk
    · cases hk; exact hbg)
set_option maxHeartbeats 4000000 in
theorem picksCounts_any (g n : Nat) (sh : List Int) (ps : List PartD) (f : Nat → Value) (w : World) (h : APick w g n n sh ps f) (hn : n ≤ 5) :
    Calls Tryz.prog 175 #[.slice (some ⟨g, 0, none⟩) n n] w fun e w' => ∃ a cap, e = .returned (.slice a n cap) ∧ w'.ownsRow w.heap.size 3 1 (.slice a n cap) n ((pCnN sh ps n).map (Value.int .i64)) ∧ Below w.heap.size w w' := by
  have H := hide h
  clear h
  obtain ⟨i0, hi, hz0, hz1, hz2⟩ := info_parts info_int
  go_enter Tryz.func175, Tryz.ntmps175
  go_wp2_with fail
  go_loopw [3, 8] (fun v i wr => ∃ (k : Nat) (a : Option Addr) (cap : Nat), k ≤ n ∧ i = .int .i64 k ∧ v = .slice a k cap ∧ Hid (wr.ownsRow w.heap.size 3 1 (.slice a k cap) k ((pCnN sh ps k).map (Value.int .i64)) ∧ Below w.heap.size w wr)) (fun _ i _ => n - (intOf i).toNat)
  case atStart => exact ⟨0, none, 0, Nat.zero_le _, rfl, rfl, owns_nil _ _, Below.refl _ _⟩
  case round =>
    obtain ⟨k, a, cap, hk, rfl, rfl, HX⟩ := hrel
    by_cases hlt : k < n
    · have HO := hide (unhide HX).1
      have HB := hide (unhide HX).2
      clear HX
      obtain ⟨t1, k1, e1, t2, k2, e2, x0, x1, x2, x3, x4, _⟩ := ((unhide H).below (Nat.le_refl _) (unhide HB)).get (Nat.le_refl _) hlt
      have HC : Hid (pCnN sh ps (k + 1) = pCnN sh ps k ++ [(k2 : Int)]) := by show _ = _; rw [pCnN_succ, x4.len]
      have hk2 := x4.small
      have hz := (unhide HB).size
      clear x3 x4
      go_wp2_with (at_builtin; refine wpList_append_own _ rfl _ _ 23 rfl w.heap.size 3 i0 (.int .i64 0) 1 8 Tryz.underlying23 hi hz0 hz1 hz2 rfl (by decide) _ _ _ rfl (owns_below (unhide HO) (Nat.le_refl _) (((Below.refl _ _).alloc (Nat.le_refl _) _).alloc (by simp) _)) ⟨wr.heap.size + 1, 0, none⟩ 1 1 [.int .i64 k2] rfl rfl (by simpa using cells_new (wr.alloc (.cells #[.bool false, .slice (some t1) k1 e1, .slice t2 k2 e2] 25)) (k2 : Int)) (one_one _) (by unfold maxLen; omega) (by omega) (by simp; omega) ?_; intro v1 w1 hown hgrow hnil)
      have hown2 : w1.ownsRow w.heap.size 3 1 v1 (k + 1) ((pCnN sh ps (k + 1)).map (Value.int .i64)) := by rw [unhide HC]; simpa using hown
      obtain ⟨a', cap', rfl⟩ := owns_slice hown2
      have HB1 : Hid (Below w.heap.size w w1) := (unhide HB).trans (((((Below.refl _ _).alloc (Nat.le_refl _) _).alloc (by simp) _).mono (unhide HB).size).trans (below_own (owns_below (unhide HO) (Nat.le_refl _) (((Below.refl _ _).alloc (Nat.le_refl _) _).alloc (by simp) _)) (by simp; omega) hgrow))
      have HO1 := hide hown2
      clear hown hgrow hnil hown2 HO HB HC x0 x1 x2
      go_wp2_with fail
      go_roundw
      case rel => exact ⟨k + 1, a', cap', by omega, by go_num, rfl, unhide HO1, unhide HB1⟩
      case measure => simp [intOf]; omega
    · obtain rfl : k = n := by omega
      go_wp2_with fail
      go_ret
      exact ⟨_, _, rfl, (unhide HX).1, (unhide HX).2⟩
set_option maxHeartbeats 4000000 in
theorem picksShape_any (g n : Nat) (sh : List Int) (ps : List PartD) (f : Nat → Value) (w : World) (h : APick w g n n sh ps f) (hn : n ≤ 5) (hsm : ∀ i, i < n → (pickSh (part ps i) (sh.getD i 0)).length ≤ 5) :
    Calls Tryz.prog 177 #[.slice (some ⟨g, 0, none⟩) n n] w fun e w' => ∃ a m cap, e = .returned (.slice a m cap) ∧ m ≤ 25 ∧ w'.ownsRow w.heap.size 3 1 (.slice a m cap) m ((pShN sh ps n).map (Value.int .i64)) ∧ Below w.heap.size w w' := by
  have H := hide h
  have HSM := hide hsm
  clear h hsm
  obtain ⟨i0, hi, hz0, hz1, hz2⟩ := info_parts info_int
  go_enter Tryz.func177, Tryz.ntmps177
  go_wp2_with fail
  go_loopw [3, 8] (fun v i wr => ∃ (k m : Nat) (a : Option Addr) (cap : Nat), k ≤ n ∧ i = .int .i64 k ∧ v = .slice a m cap ∧ m ≤ 5 * k ∧ Hid (wr.ownsRow w.heap.size 3 1 (.slice a m cap) m ((pShN sh ps k).map (Value.int .i64)) ∧ Below w.heap.size w wr)) (fun _ i _ => n - (intOf i).toNat)
  case atStart => exact ⟨0, 0, none, 0, Nat.zero_le _, rfl, rfl, Nat.zero_le _, owns_nil _ _, Below.refl _ _⟩
  case round =>
    obtain ⟨k, m, a, cap, hk, rfl, rfl, hm, HX⟩ := hrel
    by_cases hlt : k < n
    · have HO := hide (unhide HX).1
      have HB := hide (unhide HX).2
      clear HX
      obtain ⟨t1, k1, e1, t2, k2, e2, x0, x1, x2, x3, x4, _⟩ := ((unhide H).below (Nat.le_refl _) (unhide HB)).get (Nat.le_refl _) hlt
      have hk1 : k1 ≤ 5 := by rw [← x3.len]; exact unhide HSM k hlt
      have X3 := hide x3
      have hz := (unhide HB).size
      clear x3 x4
      go_wp2_with (at_builtin; refine wpList_append_own _ rfl _ _ 23 rfl w.heap.size 3 i0 (.int .i64 0) 1 8 Tryz.underlying23 hi hz0 hz1 hz2 rfl (by decide) _ _ _ rfl (owns_below (unhide HO) (Nat.le_refl _) ((Below.refl _ _).alloc (Nat.le_refl _) _)) t1 k1 e1 ((pickSh (part ps k) (sh.getD k 0)).map (Value.int .i64)) rfl (by simpa using (unhide X3).len) (cells_ints ((unhide X3).alloc _)) (one_ints _) (by unfold maxLen; omega) (by omega) (by simp; omega) ?_; intro v1 w1 hown hgrow hnil)
      have hown2 : w1.ownsRow w.heap.size 3 1 v1 (m + k1) ((pShN sh ps (k + 1)).map (Value.int .i64)) := by rw [pShN_succ, List.map_append]; exact hown
      obtain ⟨a', cap', rfl⟩ := owns_slice hown2
      have HB1 : Hid (Below w.heap.size w w1) := (unhide HB).trans ((((Below.refl _ _).alloc (Nat.le_refl _) _).mono (unhide HB).size).trans (below_own (owns_below (unhide HO) (Nat.le_refl _) ((Below.refl _ _).alloc (Nat.le_refl _) _)) (by simp; omega) hgrow))
      have HO1 := hide hown2
      clear hown hgrow hnil hown2 HO HB x0 x1 x2
      go_wp2_with fail
      go_roundw
      case rel => exact ⟨k + 1, m + k1, a', cap', by omega, by go_num, rfl, by omega, unhide HO1, unhide HB1⟩
      case measure => simp [intOf]; omega
    · obtain rfl : k = n := by omega
      go_wp2_with fail
      go_ret
      exact ⟨_, _, _, rfl, by omega, (unhide HX).1, (unhide HX).2⟩
set_option maxHeartbeats 4000000 in
theorem picksNumber_ok (g n : Nat) (sh : List Int) (ps : List PartD) (f : Nat → Value) (w : World) (h : APick w g n n sh ps f) (ho : PicksOk sh ps) (hl : ps.length = n) (hs : ShapeIn sh) : NumOkB 176 (.slice (some ⟨g, 0, none⟩) n n) (pNum sh ps) (pCn sh ps) n w := by
  intro D hD hDl k hk ib W hW hB
  obtain ⟨t1, k1, e1, t2, k2, e2, x0, x1, x2, x3, x4, _⟩ := (h.below (Nat.le_refl _) hW).get (Nat.le_refl _) hk
  have hls := ho.len
  obtain ⟨hd0, hd1, hp0, hp1⟩ := num_in ho hD (i := k) (by omega)
  have hsc := hs.cell k
  obtain ⟨dn, hdn⟩ : ∃ x : Nat, D.getD k 0 = x := ⟨(D.getD k 0).toNat, by omega⟩
  rw [hdn] at hd1
  have hdk : dn < k2 := by rw [← x4.len]; simpa using hd1
  obtain ⟨b, off, rfl, hb, hc⟩ := x4.get hdk
  obtain ⟨u, hu⟩ : ∃ u, u = pNum sh ps D k := ⟨_, rfl⟩
  have hval : (pDt sh ps k).getD dn 0 = u + 1 := by rw [hu]; unfold pNum; rw [hdn]; simp
  rw [hval] at hc
  rw [← hu] at hp0 hp1 ⊢
  have hcl : (pCn sh ps).length = n := by rw [pCn_len]; exact hl
  have hci := hB.cell (i := k) (by rw [hDl, hcl]; exact hk)
  rw [hdn] at hci
  rw [hcl]
  have hk2 := x4.small
  have hwr : IntKind.i64.wrap (u + 1 - 1) = u := by rw [IntKind.wrap_i64]; omega
  clear hD hDl hd0 hd1 hdn hval hu x0 x1 x3 x4 hB h
  go_enter Tryz.func176, Tryz.ntmps176
  go_wp2_with fail
  go_quiet (fail)
  go_wp2_with fail
  go_ret
  exact ⟨by first | rfl | (congr 1; congr 1; omega), Below.drewN (Below.refl _ _) _⟩
end Go.Proofs.YtgjpchnkodnieaaGreatDoor
namespace Go.Proofs.YtgjpchnkodnieaaGreatDoor
open Go.RowKit
set_option maxHeartbeats 2000000 in
theorem lwArray_src (c : Bool) (s1 s2 : Option Addr) (n1 n2 c1 c2 : Nat) (sh dt : List Int) (w : World) (r1 : Src w s1 n1 c1 sh) (r2 : Src w s2 n2 c2 dt) (h1 : n1 ≤ 20000) (h2 : n2 ≤ 20000) :
    Calls Tryz.prog 12 #[.agg #[.bool c, .slice s1 n1 c1, .slice s2 n2 c2]] w fun e w' => ∃ g1 g2 d1 d2, e = .returned (.agg #[.bool c, .slice (some ⟨g1, 0, none⟩) n1 d1, .slice (some ⟨g2, 0, none⟩) n2 d2]) ∧ Own w' w.heap.size (some ⟨g1, 0, none⟩) n1 sh ∧ Own w' w.heap.size (some ⟨g2, 0, none⟩) n2 dt ∧ n1 ≤ d1 ∧ n2 ≤ d2 ∧ Below w.heap.size w w' := by
  obtain ⟨W0, hW0⟩ : ∃ W0, W0 = (w.alloc (.cells #[.bool c, .slice s1 n1 c1, .slice s2 n2 c2] 25)).alloc (.cells #[.bool false, .slice none 0 0, .slice none 0 0] 25) := ⟨_, rfl⟩
  have hz0 : W0.heap.size = w.heap.size + 1 + 1 := by rw [hW0]; simp
  have HB0 : Hid (Below w.heap.size w W0) := by rw [hW0]; exact ((Below.refl _ w).alloc (Nat.le_refl _) _).alloc (by simp) _
  have HX0 : Hid (Box W0 w.heap.size c (.slice s1 n1 c1) (.slice s2 n2 c2)) := by
    rw [hW0]; exact (Box.new w _ _ _).below (Nat.le_refl _) ((Below.refl _ _).alloc (Nat.le_refl _) _)
  have HX1 : Hid (Box W0 (w.heap.size + 1) false (.slice none 0 0) (.slice none 0 0)) := by
    rw [hW0]
    have := Box.new (w.alloc (.cells #[.bool c, .slice s1 n1 c1, .slice s2 n2 c2] 25)) false (.slice none 0 0) (.slice none 0 0)
    rw [World.size_alloc] at this
    exact this
  have HW0 := hide hW0
  have R1 := hide (r1.below (Nat.le_refl _) (unhide HB0))
  have R2 := hide (r2.below (Nat.le_refl _) (unhide HB0))
  have HZ0 := hide hz0
  clear hW0 hz0 r1 r2
  go_enter Tryz.func12, Tryz.ntmps12
  go_upto_region 1 with fail
  rw [← unhide HW0]
  refine regionLw W0 w.heap.size (w.heap.size + 1) c s1 s2 n1 n2 c1 c2 sh dt (unhide R1) (unhide R2) h1 h2 _ _ (unhide HX1) ?_ _ (by simp) rfl rfl rfl (unhide HX0) ?_
  · intro a g1 g2 d1 d2 wx hlw
    apply_assumption
    have hv2 : (a.put (some 13) (.agg #[.bool c, .slice (some ⟨g1, 0, none⟩) n1 d1, .slice (some ⟨g2, 0, none⟩) n2 d2])).eval (.tmp 2) = .pointer (some ⟨w.heap.size + 1, 0, none⟩) := by rw [eval_ne (by decide)]; exact hlw.e2
    obtain ⟨a', ha'⟩ : ∃ a', a' = a.put (some 13) (.agg #[.bool c, .slice (some ⟨g1, 0, none⟩) n1 d1, .slice (some ⟨g2, 0, none⟩) n2 d2]) := ⟨_, rfl⟩
    have hdf : a'.defers = [] := by rw [ha', put_defers]; exact hlw.df
    rw [← ha'] at hv2 ⊢
    have hv3 : a'.tmps[2]?.getD undef = .pointer (some ⟨w.heap.size + 1, 0, none⟩) := by simpa [Act.eval] using hv2
    clear ha'
    have hb := ((unhide HX1).below (Nat.le_refl _) hlw.low).sets (c' := c) (u1 := .slice (some ⟨g1, 0, none⟩) n1 d1) (u2 := .slice (some ⟨g2, 0, none⟩) n2 d2)
    obtain ⟨r0, r1, r2, _, _, _⟩ := hb.all
    have hbx := (unhide HX1).below (Nat.le_refl _) hlw.low
    have hz0 := unhide HZ0
    have o1 := (hlw.a2 rfl).2
    have o2 := (hlw.b2 rfl).2
    have hk1 : n1 ≤ d1 := by
      rcases o1.2 with ⟨e, _⟩ | ⟨g', cap', cur, e, _, _, hr, _⟩
      · cases e
      · cases e; exact hr
    have hk2 : n2 ≤ d2 := by
      rcases o2.2 with ⟨e, _⟩ | ⟨g', cap', cur, e, _, _, hr, _⟩
      · cases e
      · cases e; exact hr
    obtain ⟨_, _, e1, q1⟩ := Own.of_owns o1 (by omega)
    obtain ⟨_, _, e2, q2⟩ := Own.of_owns o2 (by omega)
    cases e1
    cases e2
    have hn1 : ∀ k, At (some ⟨g1, 0, none⟩) n1 k → k ≠ w.heap.size + 1 := fun k hk => q1.row.notBox hbx hk
    have hn2 : ∀ k, At (some ⟨g2, 0, none⟩) n2 k → k ≠ w.heap.size + 1 := fun k hk => q2.row.notBox hbx hk
    have hlow := (unhide HB0).trans (hlw.low.mono (by omega))
    go_wp2_with fail
    refine bodyPost_ret (v := .agg #[.bool c, .slice (some ⟨g1, 0, none⟩) n1 d1, .slice (some ⟨g2, 0, none⟩) n2 d2]) (by simp [results, Tryz.results12, go_sem, hv3, r0, r1, r2]) hdf ?_
    exact ⟨g1, g2, d1, d2, rfl, (((q1.mono (by omega)).other (q := ⟨w.heap.size + 1, 0, none⟩) hn1 _).other (q := ⟨w.heap.size + 1, 1, none⟩) hn1 _).other (q := ⟨w.heap.size + 1, 2, none⟩) hn1 _, (((q2.mono (by omega)).other (q := ⟨w.heap.size + 1, 0, none⟩) hn2 _).other (q := ⟨w.heap.size + 1, 1, none⟩) hn2 _).other (q := ⟨w.heap.size + 1, 2, none⟩) hn2 _, hk1, hk2, ((hlow.setCell (p := ⟨w.heap.size + 1, 0, none⟩) (by simp) _).setCell (p := ⟨w.heap.size + 1, 1, none⟩) (by simp) _).setCell (p := ⟨w.heap.size + 1, 2, none⟩) (by simp) _⟩
  · exact fun _ _ _ _ _ h => h
end Go.Proofs.YtgjpchnkodnieaaGreatDoor
namespace Go.Proofs.YtgjpchnkodnieaaGreatDoor
open Go.ChangeShapes Go.WideShapes Go.ChangeAt Go.RowKit Go.Joins
namespace OpenW
theorem cellsByte : Tryz.prog.cellsOf 5 = 1 := by kernel_rfl
theorem openBytes {H : Type} {enc : TypeId × Value → H} {W : World} {fuel : Nat} {v : Value} {x : DataW H × List MemPlace} (h : DataW.trod enc Tryz.prog W 0 (fun _ => true) true fuel 22 [v] = some x) :
    ∃ a n cap, v = .slice a n cap ∧ Bytes W a n ∧ n ≤ cap := by
  rcases open_ints Tryz.underlying22 Tryz.underlying5 cellsByte h with ⟨hcs, _⟩ | ⟨a, len, cap, zs, hcs, _, hl, hm, hz, _, hcell, hwf⟩
  · simp at hcs
    exact ⟨none, 0, 0, hcs, .inl rfl, Nat.le_refl _⟩
  · simp at hcs hz
    refine ⟨some a, len, cap, hcs, ?_, hl⟩
    by_cases h0 : len = 0
    · exact .inl h0
    · right
      obtain ⟨b, off, spot⟩ := a
      have hc0 := hcell 0 (by omega)
      have hspot : spot = none := by simpa [Addr.add] using World.cell?_spot hc0
      subst hspot
      refine ⟨b, off, rfl, World.block_lt_of_cell? W _ hc0, fun i hi => ?_⟩
      have hadd : (⟨b, off, none⟩ : Addr).add i = ⟨b, off + i, none⟩ := by by_cases h : i = 0 <;> simp [Addr.add, h]
      have hb := range_u8 hwf i
      rw [← List.getD_eq_getElem?_getD] at hb
      refine ⟨(zs.getD i 0).toNat, by omega, ?_⟩
      rw [← hadd, hcell i (by omega), Int.toNat_of_nonneg (by omega)]
end OpenW
end Go.Proofs.YtgjpchnkodnieaaGreatDoor
