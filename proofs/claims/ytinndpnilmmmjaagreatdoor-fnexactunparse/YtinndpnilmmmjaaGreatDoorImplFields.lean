import Derived.Test.YtinndpnilmmmjaaGreatDoorMTn
import Derived.Test.YtinndpnilmmmjaaGreatDoorMNode
import Derived.Deep.RegionWith
import Derived.BigQuiet
namespace Go.Proofs.YtinndpnilmmmjaaGreatDoor
open Go.RowKit

theorem eqz (x : Int) : (x == 0) = decide (x = 0) := by by_cases h : x = 0 <;> simp [h]
theorem scOk (n : Int) (r : Bool) (h : isSc n = r) (w : World) : Calls Tryz.prog 62 #[.int .i64 n] w fun e w' => e = .returned (.bool r) ∧ w' = w := by rw [← h]; exact scalar_any n w
theorem lowOk (s : ByteArray) (r : Bool) (h : nameB s false = r) (w : World) (hs : s.size ≤ 1048576) (hG : GlTree w) : Calls Tryz.prog 59 #[.string s, .func (.func 60) #[] #[]] w fun e w' => e = .returned (.bool r) ∧ Below w.heap.size w w' := by rw [← h]; exact isNameLow_any s w hs hG
theorem highOk (s : ByteArray) (r : Bool) (h : nameB s true = r) (w : World) (hs : s.size ≤ 1048576) (hG : GlTree w) : Calls Tryz.prog 59 #[.string s, .func (.func 61) #[] #[]] w fun e w' => e = .returned (.bool r) ∧ Below w.heap.size w w' := by rw [← h]; exact isNameHigh_any s w hs hG
theorem numsOk (a : Option Addr) (n cap : Nat) (zs : List Int) (r : Bool) (w : World) (h : Row w a n zs) (hr : (zs.all isNum && decide (0 < zs.length)) = r) : Calls Tryz.prog 58 #[.slice a n cap] w fun e w' => e = .returned (.bool r) ∧ w' = w := by rw [← hr]; exact areNumbers_any a n cap zs w h

/-- What lies ready ahead of each walk. -/
theorem fpre (k n m : Int) (s : ByteArray) (a1 a2 : Option Addr) (n1 c1 n2 c2 : Nat) (nums : List Int) (w : World) (hG : GlTree w) (h1 : Row w a1 n1 nums) : ∃ (Q : World) (bn bm bs bq : Bool), Hid (Q = w.alloc (.cells #[.int .i64 k, .int .i64 n, .int .i64 m, .string s, .slice a1 n1 c1, .slice a2 n2 c2] 47)) ∧ Hid (∀ v, Below Q.heap.size Q v → GlTree v) ∧ Hid (∀ v, Below Q.heap.size Q v → v.cell? ⟨w.heap.size, 0, none⟩ = some (.int .i64 k) ∧ v.cell? ⟨w.heap.size, 1, none⟩ = some (.int .i64 n) ∧ v.cell? ⟨w.heap.size, 2, none⟩ = some (.int .i64 m) ∧ v.cell? ⟨w.heap.size, 3, none⟩ = some (.string s) ∧ v.cell? ⟨w.heap.size, 4, none⟩ = some (.slice a1 n1 c1) ∧ Below w.heap.size w v) ∧ Hid (∀ v, Below Q.heap.size Q v → Row v a1 n1 nums) ∧ decide (n = 0) = bn ∧ decide (m = 0) = bm ∧ decide (s.size = 0) = bs ∧ decide (nums.length = 0) = bq ∧ (n == 0) = bn ∧ (m == 0) = bm ∧ s.toList.isEmpty = bs ∧ ((n1 : Int) == 0) = bq := by
  obtain ⟨Q, hQ⟩ : ∃ Q, Q = w.alloc (.cells #[.int .i64 k, .int .i64 n, .int .i64 m, .string s, .slice a1 n1 c1, .slice a2 n2 c2] 47) := ⟨_, rfl⟩
  have HBQ : Below w.heap.size w Q := by rw [hQ]; exact (Below.refl _ _).alloc (Nat.le_refl _) _
  refine ⟨Q, _, _, _, _, hQ, fun v hv => (hG.below HBQ).below hv, fun v hv => ?_, fun v hv => (h1.below (Nat.le_refl _) HBQ).below (Nat.le_refl _) hv, rfl, rfl, rfl, rfl, eqz n, eqz m, ?_, ?_⟩
  · have hb : NBox Q w.heap.size (.int .i64 k) (.int .i64 n) (.int .i64 m) (.string s) (.slice a1 n1 c1) (.slice a2 n2 c2) := by rw [hQ]; exact NBox.new w _ _ _ _ _ _
    obtain ⟨f0, f1, f2, f3, f4, -⟩ := (hb.below (by rw [hQ]; simp) hv).all
    exact ⟨f0, f1, f2, f3, f4, HBQ.trans (hv.mono HBQ.size)⟩
  · by_cases e : s.size = 0
    · rw [decide_eq_true e, Lib.toList_data, empty_is e]; rfl
    · rw [decide_eq_false e]; exact str_some e
  · rw [eqz, h1.len]; exact decide_eq_decide.2 (by omega)


set_option maxRecDepth 20000 in
set_option maxHeartbeats 8000000 in
theorem fieldsIm_P (k n m : Int) (s : ByteArray) (a1 a2 : Option Addr) (n1 c1 n2 c2 : Nat) (nums kids : List Int) (w : World) (hk : k ≠ 1 ∧ k ≠ 2 ∧ k ≠ 3 ∧ k ≠ 11 ∧ k ≠ 12 ∧ k ≠ 13 ∧ k ≠ 14 ∧ k ≠ 15 ∧ k ≠ 17 ∧ k ≠ 19 ∧ k ≠ 20 ∧ k ≠ 21 ∧ k ≠ 22) (_hs : s.size ≤ 1048576) (hG : GlTree w) (h1 : Row w a1 n1 nums) :
    Calls Tryz.prog 31 #[.agg #[.int .i64 k, .int .i64 n, .int .i64 m, .string s, .slice a1 n1 c1, .slice a2 n2 c2]] w fun e w' => e = .returned (.bool (fieldsI txtB ⟨k, n, m, s, nums, kids⟩)) ∧ Below w.heap.size w w' := by
  obtain ⟨r, hr⟩ : ∃ r, fieldsI txtB ⟨k, n, m, s, nums, kids⟩ = r := ⟨_, rfl⟩
  rw [hr]
  have HR0 : Hid ((decide (n = 0) && (decide (m = 0) && (decide (s.size = 0) && decide (nums.length = 0)))) = r) := by
    show _ = _
    rw [← hr]
    unfold fieldsI okN okM okS okNums
    dsimp only
    rw [if_neg (by omega), if_neg (by omega), if_neg (by omega), if_neg (by omega), if_neg (by omega), if_neg (by omega), if_neg (by omega), if_neg (by omega)]
  obtain ⟨Q, bn, bm, bs, bq, HQ, hGQ, HPO, HROW, hbn, hbm, hbs, hbq, gn, gm, gs, gq⟩ := fpre k n m s a1 a2 n1 c1 n2 c2 nums w hG h1
  clear hr hG h1
  obtain ⟨h1, h2, h3, h11, h12, h13, h14, h15, h17, h19, h20, h21, h22⟩ := hk
  have e1 := ne_false h1
  have e2 := ne_false h2
  have e3 := ne_false h3
  have e11 := ne_false h11
  have e12 := ne_false h12
  have e13 := ne_false h13
  have e14 := ne_false h14
  have e15 := ne_false h15
  have e17 := ne_false h17
  have e19 := ne_false h19
  have e20 := ne_false h20
  have e21 := ne_false h21
  have e22 := ne_false h22
  clear h1 h2 h3 h11 h12 h13 h14 h15 h17 h19 h20 h21 h22
  try rw [hbn] at HR0
  try rw [hbm] at HR0
  try rw [hbs] at HR0
  try rw [hbq] at HR0
  clear hbn hbm hbs hbq
  go_enter Tryz.func31, Tryz.ntmps31
  go_wp2_with fail
  go_quiet (fail)
  go_upto_region 25 with fail
  all_goals have HR1 := HR0
  all_goals clear HR0
  all_goals cases bn
  all_goals cases bm
  all_goals cases bs
  all_goals cases bq
  all_goals go_wp2_with fail
  all_goals go_ret
  all_goals exact ⟨ret_bool (by exact unhide HR1), (by first | exact unhide HBW1 | exact ((unhide HPO) _ (by rw [unhide HQ]; repeat (first | exact Below.refl _ _ | refine Below.drew ?_ | refine Below.drewN ?_ _))).2.2.2.2.2)⟩

set_option maxRecDepth 20000 in
set_option maxHeartbeats 8000000 in
theorem fieldsIm_1 (n m : Int) (s : ByteArray) (a1 a2 : Option Addr) (n1 c1 n2 c2 : Nat) (nums kids : List Int) (w : World) (_hs : s.size ≤ 1048576) (hG : GlTree w) (h1 : Row w a1 n1 nums) :
    Calls Tryz.prog 31 #[.agg #[.int .i64 1, .int .i64 n, .int .i64 m, .string s, .slice a1 n1 c1, .slice a2 n2 c2]] w fun e w' => e = .returned (.bool (fieldsI txtB ⟨1, n, m, s, nums, kids⟩)) ∧ Below w.heap.size w w' := by
  obtain ⟨r, hr⟩ : ∃ r, fieldsI txtB ⟨1, n, m, s, nums, kids⟩ = r := ⟨_, rfl⟩
  rw [hr]
  have HR0 : Hid ((decide (n = 0) && (decide (m = 0) && (decide (s.size = 0) && (nums.all isNum && decide (0 < nums.length))))) = r) := by
    show _ = _
    rw [← hr]
    unfold fieldsI okN okM okS okNums
    dsimp only
    simp
  obtain ⟨Q, bn, bm, bs, bq, HQ, hGQ, HPO, HROW, hbn, hbm, hbs, hbq, gn, gm, gs, gq⟩ := fpre 1 n m s a1 a2 n1 c1 n2 c2 nums w hG h1
  clear hr hG h1
  try rw [hbn] at HR0
  try rw [hbm] at HR0
  try rw [hbs] at HR0
  try rw [hbq] at HR0
  obtain ⟨x3, hx3⟩ : ∃ x, (nums.all isNum && decide (0 < nums.length)) = x := ⟨_, rfl⟩
  rw [hx3] at HR0
  have HC := hide (fun v hv => numsOk a1 n1 c1 nums x3 v (unhide HROW v hv) hx3)
  clear hbn hbm hbs hbq hx3
  go_enter Tryz.func31, Tryz.ntmps31
  go_wp2_with fail
  go_quiet (fail)
  go_upto_region 25 with (first | (go_at_call 58; refine (unhide HC _ (by rw [unhide HQ]; repeat (first | exact Below.refl _ _ | refine Below.drew ?_ | refine Below.drewN ?_ _))).mono ?_; rintro e w1 ⟨rfl, hw1⟩; obtain rfl := hw1.symm))
  all_goals have HR1 := HR0
  all_goals clear HR0
  all_goals cases bn
  all_goals cases bm
  all_goals cases bs
  all_goals cases x3
  all_goals go_wp2_with fail
  all_goals go_ret
  all_goals exact ⟨ret_bool (by exact unhide HR1), (by first | exact unhide HBW1 | exact ((unhide HPO) _ (by rw [unhide HQ]; repeat (first | exact Below.refl _ _ | refine Below.drew ?_ | refine Below.drewN ?_ _))).2.2.2.2.2)⟩

set_option maxRecDepth 20000 in
set_option maxHeartbeats 8000000 in
theorem fieldsIm_2 (n m : Int) (s : ByteArray) (a1 a2 : Option Addr) (n1 c1 n2 c2 : Nat) (nums kids : List Int) (w : World) (hs : s.size ≤ 1048576) (hG : GlTree w) (h1 : Row w a1 n1 nums) :
    Calls Tryz.prog 31 #[.agg #[.int .i64 2, .int .i64 n, .int .i64 m, .string s, .slice a1 n1 c1, .slice a2 n2 c2]] w fun e w' => e = .returned (.bool (fieldsI txtB ⟨2, n, m, s, nums, kids⟩)) ∧ Below w.heap.size w w' := by
  obtain ⟨r, hr⟩ : ∃ r, fieldsI txtB ⟨2, n, m, s, nums, kids⟩ = r := ⟨_, rfl⟩
  rw [hr]
  have HR0 : Hid ((decide (n = 0) && (decide (m = 0) && (txtB s && decide (nums.length = 0)))) = r) := by
    show _ = _
    rw [← hr]
    unfold fieldsI okN okM okS okNums
    dsimp only
    simp
  obtain ⟨Q, bn, bm, bs, bq, HQ, hGQ, HPO, HROW, hbn, hbm, hbs, hbq, gn, gm, gs, gq⟩ := fpre 2 n m s a1 a2 n1 c1 n2 c2 nums w hG h1
  clear hr hG h1
  try rw [hbn] at HR0
  try rw [hbm] at HR0
  try rw [hbs] at HR0
  try rw [hbq] at HR0
  obtain ⟨x2, hx2⟩ : ∃ x, txtB s = x := ⟨_, rfl⟩
  rw [hx2] at HR0
  have HC : Hid (∀ v, Below Q.heap.size Q v → Calls Tryz.prog 38 #[.agg #[.int .i64 2, .int .i64 0, .string s, .int .i64 0]] v fun e w' => e = .returned (.string (tokText 2 0 s)) ∧ Below v.heap.size v w') := fun v hv => by
    have hg := unhide hGQ v hv
    exact implTok_any 2 0 0 s v (by omega) hs hg.1 hg.2.1 hg.2.2
  have hx2' : decide ((tokText 2 0 s).size ≠ 0) = x2 := hx2
  obtain ⟨y, hy⟩ : ∃ y, tokText 2 0 s = y := ⟨_, rfl⟩
  rw [hy] at HC hx2'
  have gy : y.toList.isEmpty = !x2 := by
    rw [← hx2']
    by_cases e : y.size = 0
    · rw [decide_eq_false (by omega), Lib.toList_data, empty_is e]; rfl
    · rw [decide_eq_true e]; exact str_some e
  clear hx2' hy
  clear hbn hbm hbs hbq hx2
  go_enter Tryz.func31, Tryz.ntmps31
  go_wp2_with fail
  go_quiet (fail)
  go_upto_region 25 with (first | (go_at_call 38; refine (unhide HC _ (by rw [unhide HQ]; repeat (first | exact Below.refl _ _ | refine Below.drew ?_ | refine Below.drewN ?_ _))).mono ?_; rintro e w1 ⟨rfl, hb1⟩; have hb2 : Below Q.heap.size Q w1 := Below.trans (by rw [unhide HQ]; repeat (first | exact Below.refl _ _ | refine Below.drew ?_ | refine Below.drewN ?_ _)) (hb1.mono (by rw [unhide HQ]; simp)); obtain ⟨f0, f1, f2, f3, f4, hbw⟩ := unhide HPO _ hb2; have HBW1 := hide hbw; clear hb1 hb2 hbw))
  all_goals have HR1 := HR0
  all_goals clear HR0
  all_goals cases bn
  all_goals cases bm
  all_goals cases x2
  all_goals cases bq
  all_goals go_wp2_with fail
  all_goals go_ret
  all_goals exact ⟨ret_bool (by exact unhide HR1), (by first | exact unhide HBW1 | exact ((unhide HPO) _ (by rw [unhide HQ]; repeat (first | exact Below.refl _ _ | refine Below.drew ?_ | refine Below.drewN ?_ _))).2.2.2.2.2)⟩

set_option maxRecDepth 20000 in
set_option maxHeartbeats 8000000 in
theorem fieldsIm_3 (k n m : Int) (s : ByteArray) (a1 a2 : Option Addr) (n1 c1 n2 c2 : Nat) (nums kids : List Int) (w : World) (hk : k = 3 ∨ k = 19 ∨ k = 21) (hs : s.size ≤ 1048576) (hG : GlTree w) (h1 : Row w a1 n1 nums) :
    Calls Tryz.prog 31 #[.agg #[.int .i64 k, .int .i64 n, .int .i64 m, .string s, .slice a1 n1 c1, .slice a2 n2 c2]] w fun e w' => e = .returned (.bool (fieldsI txtB ⟨k, n, m, s, nums, kids⟩)) ∧ Below w.heap.size w w' := by
  obtain ⟨r, hr⟩ : ∃ r, fieldsI txtB ⟨k, n, m, s, nums, kids⟩ = r := ⟨_, rfl⟩
  rw [hr]
  have HR0 : Hid ((decide (n = 0) && (decide (m = 0) && (nameB s false && decide (nums.length = 0)))) = r) := by
    show _ = _
    rw [← hr]
    unfold fieldsI okN okM okS okNums
    dsimp only
    rcases hk with rfl | rfl | rfl <;> simp
  obtain ⟨Q, bn, bm, bs, bq, HQ, hGQ, HPO, HROW, hbn, hbm, hbs, hbq, gn, gm, gs, gq⟩ := fpre k n m s a1 a2 n1 c1 n2 c2 nums w hG h1
  clear hr hG h1
  try rw [hbn] at HR0
  try rw [hbm] at HR0
  try rw [hbs] at HR0
  try rw [hbq] at HR0
  obtain ⟨x2, hx2⟩ : ∃ x, nameB s false = x := ⟨_, rfl⟩
  rw [hx2] at HR0
  have HC := hide (fun v hv => lowOk s x2 hx2 v hs (unhide hGQ v hv))
  clear hbn hbm hbs hbq hx2
  rcases hk with rfl | rfl | rfl <;> (go_enter Tryz.func31, Tryz.ntmps31; go_wp2_with fail; go_quiet (fail); go_upto_region 25 with (first | (go_at_call 59; refine (unhide HC _ (by rw [unhide HQ]; repeat (first | exact Below.refl _ _ | refine Below.drew ?_ | refine Below.drewN ?_ _))).mono ?_; rintro e w1 ⟨rfl, hb1⟩; have hb2 : Below Q.heap.size Q w1 := Below.trans (by rw [unhide HQ]; repeat (first | exact Below.refl _ _ | refine Below.drew ?_ | refine Below.drewN ?_ _)) (hb1.mono (by rw [unhide HQ]; simp)); obtain ⟨f0, f1, f2, f3, f4, hbw⟩ := unhide HPO _ hb2; have HBW1 := hide hbw; clear hb1 hb2 hbw)); all_goals have HR1 := HR0; all_goals clear HR0; all_goals cases bn; all_goals cases bm; all_goals cases x2; all_goals cases bq; all_goals go_wp2_with fail; all_goals go_ret; all_goals exact ⟨ret_bool (by exact unhide HR1), (by first | exact unhide HBW1 | exact ((unhide HPO) _ (by rw [unhide HQ]; repeat (first | exact Below.refl _ _ | refine Below.drew ?_ | refine Below.drewN ?_ _))).2.2.2.2.2)⟩)

set_option maxRecDepth 20000 in
set_option maxHeartbeats 8000000 in
theorem fieldsIm_17 (k n m : Int) (s : ByteArray) (a1 a2 : Option Addr) (n1 c1 n2 c2 : Nat) (nums kids : List Int) (w : World) (hk : k = 17 ∨ k = 20) (hs : s.size ≤ 1048576) (hG : GlTree w) (h1 : Row w a1 n1 nums) :
    Calls Tryz.prog 31 #[.agg #[.int .i64 k, .int .i64 n, .int .i64 m, .string s, .slice a1 n1 c1, .slice a2 n2 c2]] w fun e w' => e = .returned (.bool (fieldsI txtB ⟨k, n, m, s, nums, kids⟩)) ∧ Below w.heap.size w w' := by
  obtain ⟨r, hr⟩ : ∃ r, fieldsI txtB ⟨k, n, m, s, nums, kids⟩ = r := ⟨_, rfl⟩
  rw [hr]
  have HR0 : Hid ((decide (n = 0) && (decide (m = 0) && (nameB s true && decide (nums.length = 0)))) = r) := by
    show _ = _
    rw [← hr]
    unfold fieldsI okN okM okS okNums
    dsimp only
    rcases hk with rfl | rfl <;> simp
  obtain ⟨Q, bn, bm, bs, bq, HQ, hGQ, HPO, HROW, hbn, hbm, hbs, hbq, gn, gm, gs, gq⟩ := fpre k n m s a1 a2 n1 c1 n2 c2 nums w hG h1
  clear hr hG h1
  try rw [hbn] at HR0
  try rw [hbm] at HR0
  try rw [hbs] at HR0
  try rw [hbq] at HR0
  obtain ⟨x2, hx2⟩ : ∃ x, nameB s true = x := ⟨_, rfl⟩
  rw [hx2] at HR0
  have HC := hide (fun v hv => highOk s x2 hx2 v hs (unhide hGQ v hv))
  clear hbn hbm hbs hbq hx2
  rcases hk with rfl | rfl <;> (go_enter Tryz.func31, Tryz.ntmps31; go_wp2_with fail; go_quiet (fail); go_upto_region 25 with (first | (go_at_call 59; refine (unhide HC _ (by rw [unhide HQ]; repeat (first | exact Below.refl _ _ | refine Below.drew ?_ | refine Below.drewN ?_ _))).mono ?_; rintro e w1 ⟨rfl, hb1⟩; have hb2 : Below Q.heap.size Q w1 := Below.trans (by rw [unhide HQ]; repeat (first | exact Below.refl _ _ | refine Below.drew ?_ | refine Below.drewN ?_ _)) (hb1.mono (by rw [unhide HQ]; simp)); obtain ⟨f0, f1, f2, f3, f4, hbw⟩ := unhide HPO _ hb2; have HBW1 := hide hbw; clear hb1 hb2 hbw)); all_goals have HR1 := HR0; all_goals clear HR0; all_goals cases bn; all_goals cases bm; all_goals cases x2; all_goals cases bq; all_goals go_wp2_with fail; all_goals go_ret; all_goals exact ⟨ret_bool (by exact unhide HR1), (by first | exact unhide HBW1 | exact ((unhide HPO) _ (by rw [unhide HQ]; repeat (first | exact Below.refl _ _ | refine Below.drew ?_ | refine Below.drewN ?_ _))).2.2.2.2.2)⟩)

set_option maxRecDepth 20000 in
set_option maxHeartbeats 8000000 in
theorem fieldsIm_11 (n m : Int) (s : ByteArray) (a1 a2 : Option Addr) (n1 c1 n2 c2 : Nat) (nums kids : List Int) (w : World) (_hs : s.size ≤ 1048576) (hG : GlTree w) (h1 : Row w a1 n1 nums) :
    Calls Tryz.prog 31 #[.agg #[.int .i64 11, .int .i64 n, .int .i64 m, .string s, .slice a1 n1 c1, .slice a2 n2 c2]] w fun e w' => e = .returned (.bool (fieldsI txtB ⟨11, n, m, s, nums, kids⟩)) ∧ Below w.heap.size w w' := by
  obtain ⟨r, hr⟩ : ∃ r, fieldsI txtB ⟨11, n, m, s, nums, kids⟩ = r := ⟨_, rfl⟩
  rw [hr]
  have HR0 : Hid ((decide (1 ≤ n ∧ n ≤ 33) && (decide (m = 0) && (decide (s.size = 0) && decide (nums.length = 0)))) = r) := by
    show _ = _
    rw [← hr]
    unfold fieldsI okN okM okS okNums
    dsimp only
    simp
  obtain ⟨Q, bn, bm, bs, bq, HQ, hGQ, HPO, HROW, hbn, hbm, hbs, hbq, gn, gm, gs, gq⟩ := fpre 11 n m s a1 a2 n1 c1 n2 c2 nums w hG h1
  clear hr hG h1
  try rw [hbn] at HR0
  try rw [hbm] at HR0
  try rw [hbs] at HR0
  try rw [hbq] at HR0
  obtain ⟨x0, hx0⟩ : ∃ x, decide (1 ≤ n ∧ n ≤ 33) = x := ⟨_, rfl⟩
  rw [hx0] at HR0
  have HC := hide (fun v => withinOk n 1 33 x0 hx0 v)
  clear hbn hbm hbs hbq hx0
  go_enter Tryz.func31, Tryz.ntmps31
  go_wp2_with fail
  go_quiet (fail)
  go_upto_region 25 with (first | (go_at_call 29; refine (unhide HC _).mono ?_; rintro e w1 ⟨rfl, hw1⟩; obtain rfl := hw1.symm))
  all_goals have HR1 := HR0
  all_goals clear HR0
  all_goals cases x0
  all_goals cases bm
  all_goals cases bs
  all_goals cases bq
  all_goals go_wp2_with fail
  all_goals go_ret
  all_goals exact ⟨ret_bool (by exact unhide HR1), (by first | exact unhide HBW1 | exact ((unhide HPO) _ (by rw [unhide HQ]; repeat (first | exact Below.refl _ _ | refine Below.drew ?_ | refine Below.drewN ?_ _))).2.2.2.2.2)⟩

set_option maxRecDepth 20000 in
set_option maxHeartbeats 8000000 in
theorem fieldsIm_12 (k n m : Int) (s : ByteArray) (a1 a2 : Option Addr) (n1 c1 n2 c2 : Nat) (nums kids : List Int) (w : World) (hk : k = 12 ∨ k = 13) (_hs : s.size ≤ 1048576) (hG : GlTree w) (h1 : Row w a1 n1 nums) :
    Calls Tryz.prog 31 #[.agg #[.int .i64 k, .int .i64 n, .int .i64 m, .string s, .slice a1 n1 c1, .slice a2 n2 c2]] w fun e w' => e = .returned (.bool (fieldsI txtB ⟨k, n, m, s, nums, kids⟩)) ∧ Below w.heap.size w w' := by
  obtain ⟨r, hr⟩ : ∃ r, fieldsI txtB ⟨k, n, m, s, nums, kids⟩ = r := ⟨_, rfl⟩
  rw [hr]
  have HR0 : Hid ((isSc n && (decide (0 ≤ m ∧ m ≤ 1) && (decide (s.size = 0) && decide (nums.length = 0)))) = r) := by
    show _ = _
    rw [← hr]
    unfold fieldsI okN okM okS okNums
    dsimp only
    rcases hk with rfl | rfl <;> simp
  obtain ⟨Q, bn, bm, bs, bq, HQ, hGQ, HPO, HROW, hbn, hbm, hbs, hbq, gn, gm, gs, gq⟩ := fpre k n m s a1 a2 n1 c1 n2 c2 nums w hG h1
  clear hr hG h1
  try rw [hbn] at HR0
  try rw [hbm] at HR0
  try rw [hbs] at HR0
  try rw [hbq] at HR0
  obtain ⟨x0, hx0⟩ : ∃ x, isSc n = x := ⟨_, rfl⟩
  rw [hx0] at HR0
  obtain ⟨x1, hx1⟩ : ∃ x, decide (0 ≤ m ∧ m ≤ 1) = x := ⟨_, rfl⟩
  rw [hx1] at HR0
  have HC := hide (fun v => scOk n x0 hx0 v)
  have HW := hide (fun v => withinOk m 0 1 x1 hx1 v)
  clear hbn hbm hbs hbq hx0 hx1
  rcases hk with rfl | rfl <;> (go_enter Tryz.func31, Tryz.ntmps31; go_wp2_with fail; go_quiet (fail); go_wp2_with fail; (first | (go_region_with (first | (go_at_call 62; refine (unhide HC _).mono ?_; rintro e w2 ⟨rfl, hw2⟩; obtain rfl := hw2.symm) | (go_at_call 29; refine (unhide HW _).mono ?_; rintro e w2 ⟨rfl, hw2⟩; obtain rfl := hw2.symm))) | fail); all_goals go_upto_region 25 with fail; all_goals have HR1 := HR0; all_goals clear HR0; all_goals cases x0; all_goals cases x1; all_goals cases bs; all_goals cases bq; all_goals go_wp2_with fail; all_goals go_ret; all_goals exact ⟨ret_bool (by exact unhide HR1), (by first | exact unhide HBW1 | exact ((unhide HPO) _ (by rw [unhide HQ]; repeat (first | exact Below.refl _ _ | refine Below.drew ?_ | refine Below.drewN ?_ _))).2.2.2.2.2)⟩)

set_option maxRecDepth 20000 in
set_option maxHeartbeats 8000000 in
theorem fieldsIm_14 (n m : Int) (s : ByteArray) (a1 a2 : Option Addr) (n1 c1 n2 c2 : Nat) (nums kids : List Int) (w : World) (_hs : s.size ≤ 1048576) (hG : GlTree w) (h1 : Row w a1 n1 nums) :
    Calls Tryz.prog 31 #[.agg #[.int .i64 14, .int .i64 n, .int .i64 m, .string s, .slice a1 n1 c1, .slice a2 n2 c2]] w fun e w' => e = .returned (.bool (fieldsI txtB ⟨14, n, m, s, nums, kids⟩)) ∧ Below w.heap.size w w' := by
  obtain ⟨r, hr⟩ : ∃ r, fieldsI txtB ⟨14, n, m, s, nums, kids⟩ = r := ⟨_, rfl⟩
  rw [hr]
  have HR0 : Hid ((isSc n && (decide (m = 0) && (decide (s.size = 0) && decide (nums.length = 0)))) = r) := by
    show _ = _
    rw [← hr]
    unfold fieldsI okN okM okS okNums
    dsimp only
    simp
  obtain ⟨Q, bn, bm, bs, bq, HQ, hGQ, HPO, HROW, hbn, hbm, hbs, hbq, gn, gm, gs, gq⟩ := fpre 14 n m s a1 a2 n1 c1 n2 c2 nums w hG h1
  clear hr hG h1
  try rw [hbn] at HR0
  try rw [hbm] at HR0
  try rw [hbs] at HR0
  try rw [hbq] at HR0
  obtain ⟨x0, hx0⟩ : ∃ x, isSc n = x := ⟨_, rfl⟩
  rw [hx0] at HR0
  have HC := hide (fun v => scOk n x0 hx0 v)
  clear hbn hbm hbs hbq hx0
  go_enter Tryz.func31, Tryz.ntmps31
  go_wp2_with fail
  go_quiet (fail)
  go_upto_region 25 with (first | (go_at_call 62; refine (unhide HC _).mono ?_; rintro e w1 ⟨rfl, hw1⟩; obtain rfl := hw1.symm))
  all_goals have HR1 := HR0
  all_goals clear HR0
  all_goals cases x0
  all_goals cases bm
  all_goals cases bs
  all_goals cases bq
  all_goals go_wp2_with fail
  all_goals go_ret
  all_goals exact ⟨ret_bool (by exact unhide HR1), (by first | exact unhide HBW1 | exact ((unhide HPO) _ (by rw [unhide HQ]; repeat (first | exact Below.refl _ _ | refine Below.drew ?_ | refine Below.drewN ?_ _))).2.2.2.2.2)⟩

set_option maxRecDepth 20000 in
set_option maxHeartbeats 8000000 in
theorem fieldsIm_15 (n m : Int) (s : ByteArray) (a1 a2 : Option Addr) (n1 c1 n2 c2 : Nat) (nums kids : List Int) (w : World) (_hs : s.size ≤ 1048576) (hG : GlTree w) (h1 : Row w a1 n1 nums) :
    Calls Tryz.prog 31 #[.agg #[.int .i64 15, .int .i64 n, .int .i64 m, .string s, .slice a1 n1 c1, .slice a2 n2 c2]] w fun e w' => e = .returned (.bool (fieldsI txtB ⟨15, n, m, s, nums, kids⟩)) ∧ Below w.heap.size w w' := by
  obtain ⟨r, hr⟩ : ∃ r, fieldsI txtB ⟨15, n, m, s, nums, kids⟩ = r := ⟨_, rfl⟩
  rw [hr]
  have HR0 : Hid ((isSc n && (isSc m && (decide (s.size = 0) && decide (nums.length = 0)))) = r) := by
    show _ = _
    rw [← hr]
    unfold fieldsI okN okM okS okNums
    dsimp only
    simp
  obtain ⟨Q, bn, bm, bs, bq, HQ, hGQ, HPO, HROW, hbn, hbm, hbs, hbq, gn, gm, gs, gq⟩ := fpre 15 n m s a1 a2 n1 c1 n2 c2 nums w hG h1
  clear hr hG h1
  try rw [hbn] at HR0
  try rw [hbm] at HR0
  try rw [hbs] at HR0
  try rw [hbq] at HR0
  obtain ⟨x0, hx0⟩ : ∃ x, isSc n = x := ⟨_, rfl⟩
  rw [hx0] at HR0
  obtain ⟨x1, hx1⟩ : ∃ x, isSc m = x := ⟨_, rfl⟩
  rw [hx1] at HR0
  have HC := hide (fun v => scOk n x0 hx0 v)
  have HW := hide (fun v => scOk m x1 hx1 v)
  clear hbn hbm hbs hbq hx0 hx1
  go_enter Tryz.func31, Tryz.ntmps31
  go_wp2_with fail
  go_quiet (fail)
  go_wp2_with fail
  first | (go_region_with (first | (go_at_call_of 62 (Value.int .i64 n); refine (unhide HC _).mono ?_; rintro e w2 ⟨rfl, hw2⟩; obtain rfl := hw2.symm) | (go_at_call_of 62 (Value.int .i64 m); refine (unhide HW _).mono ?_; rintro e w2 ⟨rfl, hw2⟩; obtain rfl := hw2.symm))) | fail
  all_goals go_upto_region 25 with fail
  all_goals have HR1 := HR0
  all_goals clear HR0
  all_goals cases x0
  all_goals cases x1
  all_goals cases bs
  all_goals cases bq
  all_goals go_wp2_with fail
  all_goals go_ret
  all_goals exact ⟨ret_bool (by exact unhide HR1), (by first | exact unhide HBW1 | exact ((unhide HPO) _ (by rw [unhide HQ]; repeat (first | exact Below.refl _ _ | refine Below.drew ?_ | refine Below.drewN ?_ _))).2.2.2.2.2)⟩

set_option maxRecDepth 20000 in
set_option maxHeartbeats 8000000 in
theorem fieldsIm_22 (n m : Int) (s : ByteArray) (a1 a2 : Option Addr) (n1 c1 n2 c2 : Nat) (nums kids : List Int) (w : World) (hs : s.size ≤ 1048576) (hG : GlTree w) (h1 : Row w a1 n1 nums) :
    Calls Tryz.prog 31 #[.agg #[.int .i64 22, .int .i64 n, .int .i64 m, .string s, .slice a1 n1 c1, .slice a2 n2 c2]] w fun e w' => e = .returned (.bool (fieldsI txtB ⟨22, n, m, s, nums, kids⟩)) ∧ Below w.heap.size w w' := by
  obtain ⟨r, hr⟩ : ∃ r, fieldsI txtB ⟨22, n, m, s, nums, kids⟩ = r := ⟨_, rfl⟩
  rw [hr]
  have HR0 : Hid ((isSc n && (decide (m = 0) && (nameB s false && decide (nums.length = 0)))) = r) := by
    show _ = _
    rw [← hr]
    unfold fieldsI okN okM okS okNums
    dsimp only
    simp
  obtain ⟨Q, bn, bm, bs, bq, HQ, hGQ, HPO, HROW, hbn, hbm, hbs, hbq, gn, gm, gs, gq⟩ := fpre 22 n m s a1 a2 n1 c1 n2 c2 nums w hG h1
  clear hr hG h1
  try rw [hbn] at HR0
  try rw [hbm] at HR0
  try rw [hbs] at HR0
  try rw [hbq] at HR0
  obtain ⟨x0, hx0⟩ : ∃ x, isSc n = x := ⟨_, rfl⟩
  rw [hx0] at HR0
  obtain ⟨x2, hx2⟩ : ∃ x, nameB s false = x := ⟨_, rfl⟩
  rw [hx2] at HR0
  have HC := hide (fun v hv => lowOk s x2 hx2 v hs (unhide hGQ v hv))
  have HW := hide (fun v => scOk n x0 hx0 v)
  clear hbn hbm hbs hbq hx0 hx2
  go_enter Tryz.func31, Tryz.ntmps31
  go_wp2_with fail
  go_quiet (fail)
  go_wp2_with fail
  first | (go_region_with (first | (go_at_call 59; refine (unhide HC _ (by rw [unhide HQ]; repeat (first | exact Below.refl _ _ | refine Below.drew ?_ | refine Below.drewN ?_ _))).mono ?_; rintro e w1 ⟨rfl, hb1⟩; have hb2 : Below Q.heap.size Q w1 := Below.trans (by rw [unhide HQ]; repeat (first | exact Below.refl _ _ | refine Below.drew ?_ | refine Below.drewN ?_ _)) (hb1.mono (by rw [unhide HQ]; simp)); obtain ⟨f0, f1, f2, f3, f4, hbw⟩ := unhide HPO _ hb2; have HBW1 := hide hbw; clear hb1 hb2 hbw) | (go_at_call 62; refine (unhide HW _).mono ?_; rintro e w2 ⟨rfl, hw2⟩; obtain rfl := hw2.symm))) | fail
  all_goals go_upto_region 25 with fail
  all_goals have HR1 := HR0
  all_goals clear HR0
  all_goals cases x0
  all_goals cases bm
  all_goals cases x2
  all_goals cases bq
  all_goals go_wp2_with fail
  all_goals go_ret
  all_goals exact ⟨ret_bool (by exact unhide HR1), (by first | exact unhide HBW1 | exact ((unhide HPO) _ (by rw [unhide HQ]; repeat (first | exact Below.refl _ _ | refine Below.drew ?_ | refine Below.drewN ?_ _))).2.2.2.2.2)⟩

end Go.Proofs.YtinndpnilmmmjaaGreatDoor
