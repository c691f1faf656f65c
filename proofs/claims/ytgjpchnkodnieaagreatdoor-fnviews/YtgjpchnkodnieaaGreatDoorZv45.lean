import Derived.Test.YtgjpchnkodnieaaGreatDoorZv24
import Derived.Test.YtgjpchnkodnieaaGreatDoorZv25
import Derived.Test.YtgjpchnkodnieaaGreatDoorZv15
import Derived.Test.YtgjpchnkodnieaaGreatDoorZv23
import Derived.Deep.RegionLaw
import Derived.Test.YtgjpchnkodnieaaGreatDoorZv06
namespace Go.Proofs.YtgjpchnkodnieaaGreatDoor
open Go.RowKit
theorem stepF_fl (c : Int) (sh st : List Int) (k : Nat) (hk : k ≤ 5) : stepF (fl c sh st) k = stepN sh st k := by
  induction k with
  | zero => rfl
  | succ k ih =>
    unfold stepF stepN
    rw [fl_len _ _ _ (by omega), fl_str, ih (by omega)]
theorem stepN_long (sh st : List Int) (j : Nat) : stepN sh st (sh.length + j) = stepN sh st sh.length := by
  induction j with
  | zero => rfl
  | succ j ih =>
    show (if 1 < sh.getD (sh.length + j) 0 then st.getD (sh.length + j) 0 else stepN sh st (sh.length + j)) = _
    rw [getD_long (zs := sh) (by omega), if_neg (by omega), ih]
theorem stepF_len (c : Int) (sh st : List Int) (h5 : sh.length ≤ 5) : stepF (fl c sh st) 5 = stepN sh st sh.length := by
  rw [stepF_fl c sh st 5 (by omega)]
  have := stepN_long sh st (5 - sh.length)
  rwa [show sh.length + (5 - sh.length) = 5 by omega] at this
theorem stepN_bd {sh st : List Int} (ht : ∀ k, -10000 ≤ st.getD k 0 ∧ st.getD k 0 ≤ 10000) (k : Nat) : -10000 ≤ stepN sh st k ∧ stepN sh st k ≤ 10000 := by
  induction k with
  | zero => simp [stepN]
  | succ k ih =>
    unfold stepN
    split
    · exact ht k
    · exact ih
theorem bare_fl (c : Int) (sh st : List Int) {k : Nat} (hk : k < 5) : bareF (fl c sh st) 5 (7 + k) = if sh.getD k 0 = 1 then 0 else st.getD k 0 := by
  unfold bareF
  rw [show 7 + k - 5 = 2 + k by omega, fl_len _ _ _ hk, fl_str]
  by_cases h : sh.getD k 0 = 1
  · rw [if_pos ⟨by omega, by omega, h⟩, if_pos h]
  · rw [if_neg (fun h2 => h h2.2.2), if_neg h]
theorem bare_lined (c d : Int) (sh st : List Int) (h5 : sh.length ≤ 5) (hl : st.length = sh.length) : (∀ i, i < 12 → bareF (fl c sh st) 5 i = bareF (fl c sh ((wholeSt sh).map (· * d))) 5 i) ↔ Lined sh st d := by
  have hw : ∀ k, k < sh.length → ((wholeSt sh).map (· * d)).getD k 0 = tailProd (sh.drop (k + 1)) * d := fun k hk => by simp [wholeSt, hk]
  constructor
  · intro h k hk h1
    have := h (7 + k) (by omega)
    rw [bare_fl _ _ _ (by omega), bare_fl _ _ _ (by omega), if_neg h1, if_neg h1, hw k hk, Int.mul_comm] at this
    exact this
  · intro h i hi
    by_cases h7 : i < 7
    · unfold bareF
      rw [if_neg (by omega), if_neg (by omega)]
      unfold fl
      by_cases h0 : i = 0
      · rw [if_pos h0, if_pos h0]
      · rw [if_neg h0, if_neg h0, if_pos h7, if_pos h7]
    · obtain ⟨k, rfl⟩ : ∃ k, i = 7 + k := ⟨i - 7, by omega⟩
      rw [bare_fl _ _ _ (by omega), bare_fl _ _ _ (by omega)]
      by_cases h1 : sh.getD k 0 = 1
      · rw [if_pos h1, if_pos h1]
      · rw [if_neg h1, if_neg h1]
        by_cases hk : k < sh.length
        · rw [hw k hk, h k hk h1, Int.mul_comm]
        · rw [getD_long (zs := st) (by omega), getD_long (zs := (wholeSt sh).map (· * d)) (by simp [wholeSt]; omega)]
def GotB (W : World) (g : Nat → Int) (v : Value) (wx : World) : Prop := ∃ pb, v = .pointer (some ⟨pb, 0, none⟩) ∧ W.heap.size ≤ pb ∧ LBox wx pb g ∧ Below W.heap.size W wx
theorem lbx_A (w : World) {wC : World} (h : Below (w.alloc objZ).drew.heap.size (w.alloc objZ).drew wC) : LBox wC w.heap.size (fun _ => 0) := (LBox.new w (fun _ => 0)).drew.below (Nat.le_refl _) h
theorem lbx_B (w : World) {wC : World} (h : Below (w.alloc objZ).heap.size (w.alloc objZ) wC) : LBox wC w.heap.size (fun _ => 0) := (LBox.new w (fun _ => 0)).below (Nat.le_refl _) h
set_option maxRecDepth 20000 in
set_option maxHeartbeats 8000000 in
theorem distance_any (c : Int) (sh st : List Int) (hr : formed c sh st = true) (f : Nat → Int) (hf : Hid (fl c sh st = f)) (w : World) :
    Calls Tryz.prog 232 #[lay f] w fun e w' => e = .returned (.tuple #[.int .i64 (lineL (placesOf c sh st)).1, .bool (lineL (placesOf c sh st)).2]) ∧ Below w.heap.size w w' := by
  obtain ⟨hsb, hle, hcb, hst⟩ := formed_parts hr
  obtain ⟨hin, h5⟩ := shapeB_in hsb
  obtain ⟨cn, hcn⟩ : ∃ cn, countOf sh = cn := ⟨_, rfl⟩
  have hcb0 : 0 ≤ cn := by rw [← hcn, ← prodAll_count sh hsb]; exact hin.bd.1
  have HCN := hide hcn
  have HSB := hide hsb
  obtain ⟨n, hn⟩ : ∃ n, sh.length = n := ⟨_, rfl⟩
  have HN := hide hn
  have hn5 : n ≤ 5 := by rw [← hn]; exact h5
  have HB : Hid (Below w.heap.size w (w.alloc (objL f))) := (Below.refl _ _).alloc (Nat.le_refl _) _
  have HL := hide (LBox.new w f)
  obtain ⟨x0, x1, x2, x3, x4, x5, x6, x7, x8, x9, x10, x11, y0, y1, y2, y3, y4, y5, y6, y7, y8, y9, y10, y11, xl⟩ := (LBox.new w f).all
  obtain ⟨W, hW⟩ : ∃ W, w.alloc (objL f) = W := ⟨_, rfl⟩
  rw [hW] at HB HL x0 x1 x2 x3 x4 x5 x6 x7 x8 x9 x10 x11 xl
  have HWE := hide hW
  clear y0 y1 y2 y3 y4 y5 y6 y7 y8 y9 y10 y11 hW
  by_cases h2 : cn < 2
  · have HS : Hid (lineL (placesOf c sh st) = (1, true)) := lineL_short (by simp [placesOf, hcn]; omega)
    clear hcn hn hst hcb hle h5 hin hsb hr
    go_enter Tryz.func232, Tryz.ntmps232
    go_upto_region 1 with fail
    rw [unhide HWE]
    clear HWE
    go_wp2_with (go_at_call 83; refine (count_eq c sh st (unhide HSB) f hf _ HCN _).mono ?_; rintro e w2 ⟨rfl, hb2⟩; have HB2 := hide ((unhide HB).trans (hb2.mono (unhide HB).size)); clear hb2)
    refine bodyPost_ret (v := .tuple #[.int .i64 1, .bool true]) (by simp [results, Tryz.results232, go_sem]) rfl ?_
    rw [unhide HS]
    exact ⟨rfl, unhide HB2⟩
  · obtain ⟨d, hd⟩ : ∃ d, stepF f 5 = d := ⟨_, rfl⟩
    have hdn : stepN sh st sh.length = d := by rw [← hd, ← unhide hf, stepF_len c sh st h5]
    have hdb := stepN_bd (sh := sh) hst sh.length
    rw [hdn] at hdb
    obtain ⟨hd0, hd1⟩ := hdb
    obtain ⟨r, hrr⟩ : ∃ r : Bool, Lined sh st d ↔ r = true := by
      by_cases h : Lined sh st d
      · exact ⟨true, by simp [h]⟩
      · exact ⟨false, by simp [h]⟩
    obtain ⟨g, hg⟩ : ∃ g, spreadF (fl 0 sh (wholeSt sh)) c d 5 = g := ⟨_, rfl⟩
    have HEQ : Hid ((∀ i, i < 12 → bareF f 5 i = bareF g 5 i) ↔ r = true) := by
      show _ ↔ _
      rw [← hrr, ← bare_lined c d sh st h5 hle]
      have e : ∀ i, i < 12 → bareF g 5 i = bareF (fl c sh ((wholeSt sh).map (· * d))) 5 i := fun i hi => by
        unfold bareF
        rw [← hg, spread_fl 0 c d sh (wholeSt sh) i hi]
        by_cases h7 : 7 ≤ i
        · rw [spread_fl 0 c d sh (wholeSt sh) (i - 5) (by omega)]
        · rw [if_neg (by omega), if_neg (by omega)]
      constructor
      · intro h i hi; rw [← e i hi, ← h i hi, unhide hf]
      · intro h i hi; rw [e i hi, ← h i hi, unhide hf]
    have HANS : Hid (lineL (placesOf c sh st) = (if r = true then d else 0, r)) := by
      show _ = _
      cases r with
      | true => rw [line_lined hsb (by omega) (by rw [hdn]; exact hrr.mpr rfl), hdn]; rfl
      | false => rw [line_not hsb (by omega) (by rw [hdn]; exact fun h => by cases hrr.mp h)]; rfl
    have HNE := hide (fun w' => run_neq_lay (bareF f 5) (bareF g 5) r HEQ w')
    have HWC : Hid (∀ w0 : World, Row w0 (some ⟨w.heap.size, 2, none⟩) n sh → Calls Tryz.prog 230 #[.slice (some ⟨w.heap.size, 2, none⟩) n 5] w0 fun e w' => e = .returned (lay (fl 0 sh (wholeSt sh))) ∧ Below w0.heap.size w0 w') := fun w0 h0 => wholeOf_any _ n 5 sh w0 h0 hsb
    have HSC : Hid (∀ w0 : World, Calls Tryz.prog 231 #[lay (fl 0 sh (wholeSt sh)), .int .i64 c, .int .i64 d] w0 fun e w' => e = .returned (lay g) ∧ Below w0.heap.size w0 w') := fun w0 => by
      rw [← hg]
      refine spread_any _ c d (fun k hk => ?_) hd0 hd1 w0
      rw [fl_str]
      by_cases hk' : k < sh.length
      · rw [wholeSt_get sh hk']
        have := tailProd_bd hin (k + 1)
        omega
      · rw [getD_long (by simp [wholeSt]; omega)]; omega
    have HDC : Hid (∀ w0 : World, Calls Tryz.prog 277 #[lay f] w0 fun e w' => e = .returned (.int .i64 d) ∧ Below w0.heap.size w0 w') := fun w0 => by
      have := firstStep_any f w0
      rwa [hd] at this
    have HBC : Hid (∀ (f' : Nat → Int) (w0 : World), Calls Tryz.prog 278 #[lay f'] w0 fun e w' => e = .returned (lay (bareF f' 5)) ∧ Below w0.heap.size w0 w') := fun f' w0 => bare_any f' w0
    have HRW : Hid (∀ wx, Below W.heap.size W wx → Row wx (some ⟨w.heap.size, 2, none⟩) n sh) := fun wx h => ((unhide HL).below (Nat.le_refl _) h).row sh hn 2 (by omega) (fun i hi => by rw [← unhide hf]; exact fl_len c sh st (by omega))
    have hf0 : f 0 = c := by rw [← unhide hf]; rfl
    have hf1 : f 1 = (n : Int) := by rw [← unhide hf, fl_1, hn]
    have HC01 : Hid (∀ wx, Below W.heap.size W wx → wx.cell? ⟨w.heap.size, 0, none⟩ = some (.int .i64 c) ∧ wx.cell? ⟨w.heap.size, 1, none⟩ = some (.int .i64 n)) := fun wx h => ⟨by rw [((unhide HL).below (Nat.le_refl _) h).at (by omega), hf0], by rw [((unhide HL).below (Nat.le_refl _) h).at (by omega), hf1]⟩
    generalize fl 0 sh (wholeSt sh) = gw at *
    have h5i : (n : Int) ≤ 5 := by omega
    have h0i : (0 : Int) ≤ n := by omega
    clear hcn hn hst hcb hle h5 hin hsb hr hd hdn hrr hg hf0 hf1
    go_enter Tryz.func232, Tryz.ntmps232
    go_upto_region 1 with fail
    rw [unhide HWE]
    clear HWE
    go_upto_region 4 with (first
      | (go_at_call 83; refine (count_eq c sh st (unhide HSB) f hf _ HCN _).mono ?_; rintro e w2 ⟨rfl, hb2⟩; have HBW2 := hide hb2; obtain ⟨u0, u1, u2, u3, u4, u5, u6, u7, u8, u9, u10, u11, v0, v1, v2, v3, v4, v5, v6, v7, v8, v9, v10, v11, ul⟩ := ((unhide HL).below (Nat.le_refl _) hb2).all; clear hb2)
      | (go_at_call 277; refine (unhide HDC _).mono ?_; rintro e w3 ⟨rfl, hb3⟩; have HBW3 := hide ((unhide HBW2).trans (hb3.mono (unhide HBW2).size)); clear hb3))
    clear x0 x1 x2 x3 x4 x5 x6 x7 x8 x9 x10 x11 u0 u1 u2 u3 u4 u5 u6 u7 u8 u9 u10 u11 v0 v1 v2 v3 v4 v5 v6 v7 v8 v9 v10 v11 ul
    have HL3 := hide ((unhide HL).below (Nat.le_refl _) (unhide HBW3))
    have HB3 := hide ((unhide HB).trans ((unhide HBW3).mono (unhide HB).size))
    have HR3 : Hid (∀ wx, Below w3.heap.size w3 wx → Row wx (some ⟨w.heap.size, 2, none⟩) n sh) := fun wx h => unhide HRW wx ((unhide HBW3).trans (h.mono (unhide HBW3).size))
    have HK3 : Hid (∀ wx, Below w3.heap.size w3 wx → Below w3.heap.size w3 wx ∧ wx.cell? ⟨w.heap.size, 0, none⟩ = some (.int .i64 c) ∧ wx.cell? ⟨w.heap.size, 1, none⟩ = some (.int .i64 n)) := fun wx h => ⟨h, unhide HC01 wx ((unhide HBW3).trans (h.mono (unhide HBW3).size))⟩
    have hlw3 := (unhide HL3).lt
    have hB0 : Below w3.heap.size w3 w3.drew := (Below.refl _ _).drew
    have hB1 : Below w3.heap.size w3 ((w3.alloc objZ).drew) := ((Below.refl _ _).alloc (Nat.le_refl _) _).drew
    have hS0 : w3.heap.size ≤ w3.drew.heap.size := Nat.le_refl _
    have hS1 : w3.heap.size ≤ ((w3.alloc objZ).drew).heap.size := by simp
    have HSZ : Hid (∀ wx, Below w3.heap.size w3 wx → w3.heap.size ≤ (wx.alloc objZ).heap.size) := fun wx h => by have := h.size; simp; omega
    have HA0 := hide (unhide HR3 _ hB0)
    have HA1 := hide (unhide HR3 _ hB1)
    have HKD : Hid (∀ wx, wx = w3.drew → Below w3.heap.size w3 wx ∧ wx.cell? ⟨w.heap.size, 0, none⟩ = some (.int .i64 c) ∧ wx.cell? ⟨w.heap.size, 1, none⟩ = some (.int .i64 n)) := fun wx h => by rw [h]; exact unhide HK3 _ (Below.refl _ _).drew
    have HKD2 : Hid (Below w3.heap.size w3 ((w3.alloc objZ).drew) ∧ ((w3.alloc objZ).drew).cell? ⟨w.heap.size, 0, none⟩ = some (.int .i64 c) ∧ ((w3.alloc objZ).drew).cell? ⟨w.heap.size, 1, none⟩ = some (.int .i64 n)) := unhide HK3 _ ((Below.refl _ _).alloc (Nat.le_refl _) _).drew
    have HKS : Hid (∀ wx pb, Below w3.heap.size w3 wx → w3.heap.size ≤ pb → Below w3.heap.size w3 (((((((((((((wx.setCell ⟨pb, 0, none⟩ (.int .i64 (g 0))).setCell ⟨pb, 1, none⟩ (.int .i64 (g 1))).setCell ⟨pb, 2, none⟩ (.int .i64 (g 2))).setCell ⟨pb, 3, none⟩ (.int .i64 (g 3))).setCell ⟨pb, 4, none⟩ (.int .i64 (g 4))).setCell ⟨pb, 5, none⟩ (.int .i64 (g 5))).setCell ⟨pb, 6, none⟩ (.int .i64 (g 6))).setCell ⟨pb, 7, none⟩ (.int .i64 (g 7))).setCell ⟨pb, 8, none⟩ (.int .i64 (g 8))).setCell ⟨pb, 9, none⟩ (.int .i64 (g 9))).setCell ⟨pb, 10, none⟩ (.int .i64 (g 10))).setCell ⟨pb, 11, none⟩ (.int .i64 (g 11)))) ∧ (((((((((((((wx.setCell ⟨pb, 0, none⟩ (.int .i64 (g 0))).setCell ⟨pb, 1, none⟩ (.int .i64 (g 1))).setCell ⟨pb, 2, none⟩ (.int .i64 (g 2))).setCell ⟨pb, 3, none⟩ (.int .i64 (g 3))).setCell ⟨pb, 4, none⟩ (.int .i64 (g 4))).setCell ⟨pb, 5, none⟩ (.int .i64 (g 5))).setCell ⟨pb, 6, none⟩ (.int .i64 (g 6))).setCell ⟨pb, 7, none⟩ (.int .i64 (g 7))).setCell ⟨pb, 8, none⟩ (.int .i64 (g 8))).setCell ⟨pb, 9, none⟩ (.int .i64 (g 9))).setCell ⟨pb, 10, none⟩ (.int .i64 (g 10))).setCell ⟨pb, 11, none⟩ (.int .i64 (g 11)))).cell? ⟨w.heap.size, 0, none⟩ = some (.int .i64 c) ∧ (((((((((((((wx.setCell ⟨pb, 0, none⟩ (.int .i64 (g 0))).setCell ⟨pb, 1, none⟩ (.int .i64 (g 1))).setCell ⟨pb, 2, none⟩ (.int .i64 (g 2))).setCell ⟨pb, 3, none⟩ (.int .i64 (g 3))).setCell ⟨pb, 4, none⟩ (.int .i64 (g 4))).setCell ⟨pb, 5, none⟩ (.int .i64 (g 5))).setCell ⟨pb, 6, none⟩ (.int .i64 (g 6))).setCell ⟨pb, 7, none⟩ (.int .i64 (g 7))).setCell ⟨pb, 8, none⟩ (.int .i64 (g 8))).setCell ⟨pb, 9, none⟩ (.int .i64 (g 9))).setCell ⟨pb, 10, none⟩ (.int .i64 (g 10))).setCell ⟨pb, 11, none⟩ (.int .i64 (g 11)))).cell? ⟨w.heap.size, 1, none⟩ = some (.int .i64 n)) := fun wx pb h hp => unhide HK3 (sets12 wx pb g) (Below.sets12 h hp g)
    have HKN : Hid (∀ wx, Below w3.heap.size w3 wx → ∀ o, Below w3.heap.size w3 (wx.alloc o) ∧ (wx.alloc o).cell? ⟨w.heap.size, 0, none⟩ = some (.int .i64 c) ∧ (wx.alloc o).cell? ⟨w.heap.size, 1, none⟩ = some (.int .i64 n)) := fun wx h o => unhide HK3 _ (h.alloc h.size o)
    clear HRW HC01 HL HB HBW2 HBW3 HDC HCN HSB
    go_cut [5] (fun v wx => GotB w3 g v wx)
    case first =>
      go_region_held3 (fun wx => Below w3.heap.size w3 wx ∧ wx.cell? ⟨w.heap.size, 0, none⟩ = some (.int .i64 c) ∧ wx.cell? ⟨w.heap.size, 1, none⟩ = some (.int .i64 n))
        (first | with_reducible exact unhide HFin | with_reducible exact unhide HK3 _ hKB | with_reducible exact unhide HK3 _ hKA | with_reducible exact unhide HKD _ rfl | with_reducible exact unhide HKN _ hKB _ | with_reducible exact unhide HKN _ hKA _ | with_reducible exact unhide HKD2)
        (first
        | (go_at_call 230; (with_reducible refine (unhide HWC _ (unhide HA0)).mono ?_); rintro e wA ⟨rfl, hbA⟩; have hKA : Below w3.heap.size w3 wA := hB0.trans (hbA.mono hS0); clear hbA)
        | (go_at_call 230; (with_reducible refine (unhide HWC _ (unhide HA1)).mono ?_); rintro e wA ⟨rfl, hbA⟩; have hKA : Below w3.heap.size w3 wA := hB1.trans (hbA.mono hS1); have PA := hide (lbx_A w3 hbA); clear hbA)
        | (go_at_call 231; (with_reducible refine (unhide HSC _).mono ?_); rintro e wB ⟨rfl, hbB⟩; (with_reducible have hKB : Below w3.heap.size w3 wB := hKA.trans (hbB.mono hKA.size)); (with_reducible have PB := hide ((unhide PA).below (Nat.le_refl _) hbB)); have HFin := hide (unhide HKS wB w3.heap.size hKB (Nat.le_refl _)); obtain ⟨r0, r1, r2, r3, r4, r5, r6, r7, r8, r9, r10, r11, s0, s1, s2, s3, s4, s5, s6, s7, s8, s9, s10, s11, rl⟩ := (unhide PB).all; clear hbB)
        | (go_at_call 231; (with_reducible refine (unhide HSC _).mono ?_); rintro e wB ⟨rfl, hbB⟩; (with_reducible have hKB : Below w3.heap.size w3 wB := hKA.trans (hbB.mono hKA.size)); clear hbB)
        | (go_at_call 231; (with_reducible refine (unhide HSC _).mono ?_); rintro e wB ⟨rfl, hbB⟩; have hKB : Below w3.heap.size w3 wB := (hKA.alloc hKA.size objZ).trans (hbB.mono (unhide HSZ _ hKA)); have PC := hide (lbx_B wA hbB); have HFin := hide (unhide HKS wB wA.heap.size hKB hKA.size); obtain ⟨r0, r1, r2, r3, r4, r5, r6, r7, r8, r9, r10, r11, s0, s1, s2, s3, s4, s5, s6, s7, s8, s9, s10, s11, rl⟩ := (unhide PC).all; clear hbB))
      all_goals go_wp2_with fail
      all_goals go_meet
      · exact ⟨_, rfl, hKB.size, LBox.new wB g, hKB.alloc hKB.size _⟩
      · exact ⟨_, rfl, hKA.size, (unhide PC).sets g, Below.sets12 hKB hKA.size g⟩
      · exact ⟨_, rfl, Nat.le_refl _, (unhide PB).sets g, Below.sets12 hKB (Nat.le_refl _) g⟩
    case rest =>
      obtain ⟨w4, hw4⟩ : ∃ x, x = wc := ⟨_, rfl⟩
      subst hw4
      obtain ⟨pb, rfl, hpb, hlb, hb4⟩ := hcut
      have HL4 := hide ((unhide HL3).below (Nat.le_refl _) hb4)
      have HB4 := hide ((unhide HB3).trans (hb4.mono (unhide HB3).size))
      have HP4 := hide hlb
      have HK4 : Hid (∀ wx, Below w4.heap.size w4 wx → (wx.cell? ⟨w.heap.size, 0, none⟩ = some (.int .i64 (f 0)) ∧ wx.cell? ⟨w.heap.size, 1, none⟩ = some (.int .i64 (f 1)) ∧ wx.cell? ⟨w.heap.size, 2, none⟩ = some (.int .i64 (f 2)) ∧ wx.cell? ⟨w.heap.size, 3, none⟩ = some (.int .i64 (f 3)) ∧ wx.cell? ⟨w.heap.size, 4, none⟩ = some (.int .i64 (f 4)) ∧ wx.cell? ⟨w.heap.size, 5, none⟩ = some (.int .i64 (f 5)) ∧ wx.cell? ⟨w.heap.size, 6, none⟩ = some (.int .i64 (f 6)) ∧ wx.cell? ⟨w.heap.size, 7, none⟩ = some (.int .i64 (f 7)) ∧ wx.cell? ⟨w.heap.size, 8, none⟩ = some (.int .i64 (f 8)) ∧ wx.cell? ⟨w.heap.size, 9, none⟩ = some (.int .i64 (f 9)) ∧ wx.cell? ⟨w.heap.size, 10, none⟩ = some (.int .i64 (f 10)) ∧ wx.cell? ⟨w.heap.size, 11, none⟩ = some (.int .i64 (f 11))) ∧ (wx.cell? ⟨pb, 0, none⟩ = some (.int .i64 (g 0)) ∧ wx.cell? ⟨pb, 1, none⟩ = some (.int .i64 (g 1)) ∧ wx.cell? ⟨pb, 2, none⟩ = some (.int .i64 (g 2)) ∧ wx.cell? ⟨pb, 3, none⟩ = some (.int .i64 (g 3)) ∧ wx.cell? ⟨pb, 4, none⟩ = some (.int .i64 (g 4)) ∧ wx.cell? ⟨pb, 5, none⟩ = some (.int .i64 (g 5)) ∧ wx.cell? ⟨pb, 6, none⟩ = some (.int .i64 (g 6)) ∧ wx.cell? ⟨pb, 7, none⟩ = some (.int .i64 (g 7)) ∧ wx.cell? ⟨pb, 8, none⟩ = some (.int .i64 (g 8)) ∧ wx.cell? ⟨pb, 9, none⟩ = some (.int .i64 (g 9)) ∧ wx.cell? ⟨pb, 10, none⟩ = some (.int .i64 (g 10)) ∧ wx.cell? ⟨pb, 11, none⟩ = some (.int .i64 (g 11)))) := fun wx h => ⟨((unhide HL4).below (Nat.le_refl _) h).cells, ((unhide HP4).below (Nat.le_refl _) h).cells⟩
      clear HL3 HB3 HR3 HK3 HWC HSC hlb hb4
      have hq : ∀ w' : World, (binOp .neq 101 (lay (bareF f 5)) (lay (bareF g 5))).run Tryz.prog w' = .ok (.bool (!r)) w' := unhide HNE
      go_upto_region 5 with fail
      go_cut [24] (fun v wx => v = .bool (!r) ∧ Below w4.heap.size w4 wx)
      case first =>
        go_region_held3 (fun wx => (wx.cell? ⟨w.heap.size, 0, none⟩ = some (.int .i64 (f 0)) ∧ wx.cell? ⟨w.heap.size, 1, none⟩ = some (.int .i64 (f 1)) ∧ wx.cell? ⟨w.heap.size, 2, none⟩ = some (.int .i64 (f 2)) ∧ wx.cell? ⟨w.heap.size, 3, none⟩ = some (.int .i64 (f 3)) ∧ wx.cell? ⟨w.heap.size, 4, none⟩ = some (.int .i64 (f 4)) ∧ wx.cell? ⟨w.heap.size, 5, none⟩ = some (.int .i64 (f 5)) ∧ wx.cell? ⟨w.heap.size, 6, none⟩ = some (.int .i64 (f 6)) ∧ wx.cell? ⟨w.heap.size, 7, none⟩ = some (.int .i64 (f 7)) ∧ wx.cell? ⟨w.heap.size, 8, none⟩ = some (.int .i64 (f 8)) ∧ wx.cell? ⟨w.heap.size, 9, none⟩ = some (.int .i64 (f 9)) ∧ wx.cell? ⟨w.heap.size, 10, none⟩ = some (.int .i64 (f 10)) ∧ wx.cell? ⟨w.heap.size, 11, none⟩ = some (.int .i64 (f 11))) ∧ (wx.cell? ⟨pb, 0, none⟩ = some (.int .i64 (g 0)) ∧ wx.cell? ⟨pb, 1, none⟩ = some (.int .i64 (g 1)) ∧ wx.cell? ⟨pb, 2, none⟩ = some (.int .i64 (g 2)) ∧ wx.cell? ⟨pb, 3, none⟩ = some (.int .i64 (g 3)) ∧ wx.cell? ⟨pb, 4, none⟩ = some (.int .i64 (g 4)) ∧ wx.cell? ⟨pb, 5, none⟩ = some (.int .i64 (g 5)) ∧ wx.cell? ⟨pb, 6, none⟩ = some (.int .i64 (g 6)) ∧ wx.cell? ⟨pb, 7, none⟩ = some (.int .i64 (g 7)) ∧ wx.cell? ⟨pb, 8, none⟩ = some (.int .i64 (g 8)) ∧ wx.cell? ⟨pb, 9, none⟩ = some (.int .i64 (g 9)) ∧ wx.cell? ⟨pb, 10, none⟩ = some (.int .i64 (g 10)) ∧ wx.cell? ⟨pb, 11, none⟩ = some (.int .i64 (g 11))))
          (first | exact unhide HK4 _ hKB | exact unhide HK4 _ hKA | exact unhide HK4 _ (Below.refl _ _).drew)
          (first
          | (go_at_call 278; with_reducible refine (unhide HBC f _).mono ?_; rintro e wA ⟨rfl, hbA⟩; have hKA : Below w4.heap.size w4 wA := (Below.refl _ _).drew.trans (hbA.mono (by first | exact Nat.le_refl _ | (simp <;> omega))); clear hbA)
          | (go_at_call 278; with_reducible refine (unhide HBC g _).mono ?_; rintro e wB ⟨rfl, hbB⟩; have hKB : Below w4.heap.size w4 wB := hKA.trans (hbB.mono hKA.size); clear hbB))
        all_goals go_wp2_with fail
        all_goals go_meet
        all_goals case rel => exact ⟨rfl, hKB⟩
      case rest =>
        obtain ⟨w5, hw5⟩ : ∃ x, x = wc := ⟨_, rfl⟩
        subst hw5
        obtain ⟨rfl, hb5⟩ := hcut
        have HB5 := hide ((unhide HB4).trans (hb5.mono (unhide HB4).size))
        clear HK4 hq HL4 HP4 HB4 hb5
        cases r with
        | false =>
          go_wp2_with fail
          refine bodyPost_ret (v := .tuple #[.int .i64 0, .bool false]) (by simp [results, Tryz.results232, go_sem]) rfl ?_
          rw [unhide HANS]
          exact ⟨rfl, unhide HB5⟩
        | true =>
          go_wp2_with fail
          refine bodyPost_ret (v := .tuple #[.int .i64 d, .bool true]) (by simp [results, Tryz.results232, go_sem]) rfl ?_
          rw [unhide HANS]
          exact ⟨rfl, unhide HB5⟩
end Go.Proofs.YtgjpchnkodnieaaGreatDoor
