import Derived.Test.YtgjpchnkodnieaaGreatDoorZv25
import Derived.Test.YtgjpchnkodnieaaGreatDoorZv45
import Derived.Test.YtgjpchnkodnieaaGreatDoorZv23
namespace Go.Proofs.YtgjpchnkodnieaaGreatDoor
open Go.RowKit
theorem line_bd {c : Int} {sh st : List Int} (h : formed c sh st = true) (hb : (lineL (placesOf c sh st)).2 = true) : -10000 ≤ (lineL (placesOf c sh st)).1 ∧ (lineL (placesOf c sh st)).1 ≤ 10000 := by
  obtain ⟨hsb, _, _, hst⟩ := formed_parts h
  by_cases h2 : 2 ≤ countOf sh
  · by_cases hl : Lined sh st (stepN sh st sh.length)
    · rw [line_lined hsb h2 hl]
      exact stepN_bd hst _
    · rw [line_not hsb h2 hl] at hb
      cases hb
  · have h0 : 0 ≤ countOf sh := by rw [← prodAll_count sh hsb]; exact (shapeB_in hsb).1.bd.1
    rw [lineL_short (by simp [placesOf]; omega)]
    omega
theorem lay_congr {f g : Nat → Int} (h : ∀ i, i < 12 → f i = g i) : lay f = lay g := by
  unfold lay
  rw [h 0 (by omega), h 1 (by omega), h 2 (by omega), h 3 (by omega), h 4 (by omega), h 5 (by omega), h 6 (by omega), h 7 (by omega), h 8 (by omega), h 9 (by omega), h 10 (by omega), h 11 (by omega)]
theorem map_zero (ws : List Int) : ws.map (· * 0) = List.replicate ws.length 0 := by
  rw [List.eq_replicate_iff]
  exact ⟨by simp, fun b hb => by obtain ⟨x, _, rfl⟩ := List.mem_map.mp hb; simp⟩
theorem zero_formed {c : Int} {zs : List Int} (hz : shapeB zs = true) (h0 : -10000 ≤ c) (h1 : c ≤ 10000) : answerOf c zs (List.replicate zs.length 0) = ⟨c, zs, List.replicate zs.length 0, true⟩ := by
  unfold answerOf
  rw [if_pos]
  refine formed_yes hz (by simp) (decide_eq_true ⟨h0, h1⟩) ?_
  rw [List.all_eq_true]
  intro x hx
  rw [List.eq_of_mem_replicate hx]
  decide
theorem spread_whole (zs : List Int) (hz : shapeB zs = true) (gw : Nat → Int) (hg : Hid (fl 0 zs (wholeSt zs) = gw)) (off d : Int) (hd0 : -10000 ≤ d) (hd1 : d ≤ 10000) (g : Nat → Int) (hgg : Hid (fl off zs ((wholeSt zs).map (· * d)) = g)) (w : World) :
    Calls Tryz.prog 231 #[lay gw, .int .i64 off, .int .i64 d] w fun e w' => e = .returned (lay g) ∧ Below w.heap.size w w' := by
  have h := spread_any gw off d (fun k hk => by
    rw [← unhide hg, fl_str]
    by_cases hk' : k < zs.length
    · rw [wholeSt_get zs hk']
      have := tailProd_bd (shapeB_in hz).1 (k + 1)
      omega
    · rw [getD_long (by simp [wholeSt]; omega)]; omega) hd0 hd1 w
  have e : lay (spreadF gw off d 5) = lay g := lay_congr (fun i hi => by rw [← unhide hg, spread_fl 0 off d zs (wholeSt zs) i hi, unhide hgg])
  rw [e] at h
  exact h
def FoldIsV (c : Int) (sh st zs : List Int) (g : Nat → Int) (b : Bool) : Prop := (b = false ∧ foldV c sh st zs = noView) ∨ (b = true ∧ ∃ ST : List Int, fl c zs ST = g ∧ ST.length = zs.length ∧ foldV c sh st zs = answerOf c zs ST)
def FoldGives (w : World) (c : Int) (sh st zs : List Int) (e : Ending) (w' : World) : Prop := ∃ g b, e = .returned (.tuple #[lay g, .bool b]) ∧ FoldIsV c sh st zs g b ∧ Below w.heap.size w w'
set_option maxRecDepth 20000 in
set_option maxHeartbeats 8000000 in
theorem folded_any (c : Int) (sh st : List Int) (s0 : Addr) (k0 l0 : Nat) (zs : List Int) (w : World) (k1 : Row w (some s0) k0 zs) (hr : formed c sh st = true) (hz : shapeB zs = true) (f : Nat → Int) (HFL : Hid (fl c sh st = f)) :
    Calls Tryz.prog 168 #[lay f, .slice (some s0) k0 l0] w (FoldGives w c sh st zs) := by
  have HR := hide hr
  have HRZ := hide hz
  have K1 := hide k1
  obtain ⟨hsb, hle, hcb, hst⟩ := formed_parts hr
  have HSB := hide hsb
  have hf0 : Hid (f 0 = c) := by rw [← unhide HFL]; exact fl_0 c sh st
  obtain ⟨cn, hcn⟩ : ∃ cn, countOf sh = cn := ⟨_, rfl⟩
  have HCN := hide hcn
  clear hr hz k1 hsb hle hst hcn
  obtain ⟨B0, B1, hB⟩ := lays2 w f
  obtain ⟨W, hW⟩ : ∃ W, ((w.alloc (objL f)).alloc objZ) = W := ⟨_, rfl⟩
  rw [hW] at B0 B1 hB
  have HL := hide B0
  have HZ := hide B1
  have HB := hide hB
  have HWE := hide hW
  obtain ⟨p, hp⟩ : ∃ p, w.heap.size = p := ⟨_, rfl⟩
  have HPE := hide hp
  have KW := hide ((unhide K1).below (Nat.le_refl _) hB)
  obtain ⟨gw, hgw⟩ : ∃ g, fl 0 zs (wholeSt zs) = g := ⟨_, rfl⟩
  have HGW := hide hgw
  have HWC : Hid (∀ w0 : World, Row w0 (some s0) k0 zs → Calls Tryz.prog 230 #[.slice (some s0) k0 l0] w0 fun e w' => e = .returned (lay gw) ∧ Below w0.heap.size w0 w') := fun w0 h0 => by
    rw [← hgw]; exact wholeOf_any _ k0 l0 zs w0 h0 (unhide HRZ)
  clear B0 B1 hB hW hgw hp
  go_enter Tryz.func168, Tryz.ntmps168
  go_upto_region 1 with fail
  rw [unhide HWE]
  rw [unhide HPE] at HL HZ ⊢
  go_upto_region 2 with (go_at_call 230; refine (unhide HWC _ (unhide KW)).mono ?_; rintro e w2 ⟨rfl, hb2⟩; have HBW2 := hide hb2; clear hb2)
  have HZ2 := hide (((unhide HZ).below (Nat.le_refl _) (unhide HBW2)).alloc (objL gw))
  have HL2 := hide (((unhide HL).below (Nat.le_refl _) (unhide HBW2)).alloc (objL gw))
  have HG2 := hide (LBox.new w2 gw)
  have HB2 := hide (((unhide HB).trans ((unhide HBW2).mono (unhide HB).size)).alloc (by have := (unhide HB).size; have := (unhide HBW2).size; omega) (objL gw))
  have hp2 : p + 1 < w2.heap.size := Nat.lt_of_lt_of_le (unhide HZ).lt (unhide HBW2).size
  clear HZ HL HB HBW2 KW HWC HWE
  generalize w2.alloc (objL gw) = V at *
  generalize w2.heap.size = q at *
  obtain ⟨x0, x1, x2, x3, x4, x5, x6, x7, x8, x9, x10, x11, y0, y1, y2, y3, y4, y5, y6, y7, y8, y9, y10, y11, xl⟩ := (unhide HL2).all
  by_cases h1 : cn = 1
  · subst h1
    obtain ⟨g, hg⟩ : ∃ g, fl c zs ((wholeSt zs).map (· * 0)) = g := ⟨_, rfl⟩
    have HGG := hide hg
    have HANS : Hid (foldV c sh st zs = answerOf c zs ((wholeSt zs).map (· * 0))) := by
      show _ = _
      rw [fold_one ⟨unhide HR, unhide HRZ⟩ (unhide HCN), map_zero, wholeSt_len, zero_formed (unhide HRZ) hcb.1 hcb.2]
    have HSC : Hid (∀ w0 : World, Calls Tryz.prog 231 #[lay gw, .int .i64 c, .int .i64 0] w0 fun e w' => e = .returned (lay g) ∧ Below w0.heap.size w0 w') := fun w0 => spread_whole zs (unhide HRZ) gw HGW c 0 (by omega) (by omega) g HGG w0
    have hx0 : ∀ wx, Below V.heap.size V wx → wx.cell? ⟨p, 0, none⟩ = some (.int .i64 c) := fun wx h => by rw [((unhide HL2).below (Nat.le_refl _) h).at (by omega), unhide hf0]
    have HX0 := hide hx0
    clear hg hx0
    go_wp2_with (first
      | (go_at_call 83; refine (count_eq c sh st (unhide HSB) f HFL _ HCN _).mono ?_; rintro e w4 ⟨rfl, hb4⟩; have HZ4 := hide ((unhide HZ2).below (Nat.le_refl _) hb4); have HB4 := hide ((unhide HB2).trans (hb4.mono (unhide HB2).size)); obtain ⟨u0, u1, u2, u3, u4, u5, u6, u7, u8, u9, u10, u11, v0, v1, v2, v3, v4, v5, v6, v7, v8, v9, v10, v11, ul⟩ := ((unhide HG2).below (Nat.le_refl _) hb4).all; have hc0 := unhide HX0 _ hb4; clear hb4)
      | (go_at_call 231; refine (unhide HSC _).mono ?_; rintro e w5 ⟨rfl, hb5⟩; have HZ5 := hide ((unhide HZ4).below (Nat.le_refl _) hb5); have HB5 := hide ((unhide HB4).trans (hb5.mono (unhide HB4).size)); obtain ⟨z0, z1, z2, z3, z4, z5, z6, z7, z8, z9, z10, z11, f0, f1, f2, f3, f4, f5, f6, f7, f8, f9, f10, f11, zl⟩ := (unhide HZ5).all; clear hb5))
    refine bodyPost_ret (v := .tuple #[lay g, .bool true]) (by simp [results, Tryz.results168, go_sem, z0, z1, z2, z3, z4, z5, z6, z7, z8, z9, z10, z11]) rfl ?_
    exact ⟨g, true, rfl, .inr ⟨rfl, _, unhide HGG, by simp [wholeSt], unhide HANS⟩, Below.sets12 (unhide HB5) (by rw [unhide HPE]; omega) g⟩
  · have h1b : (cn == 1) = false := by simp [h1]
    obtain ⟨cz, hcz⟩ : ∃ cz, countOf zs = cz := ⟨_, rfl⟩
    have HCZ := hide hcz
    have hdist := fun w0 => distance_any c sh st (unhide HR) f HFL w0
    obtain ⟨d, hd⟩ : ∃ d, (lineL (placesOf c sh st)).1 = d := ⟨_, rfl⟩
    obtain ⟨b, hb⟩ : ∃ b, (lineL (placesOf c sh st)).2 = b := ⟨_, rfl⟩
    rw [hd, hb] at hdist
    have HDC := hide hdist
    have HD := hide hd
    have HBB := hide hb
    have hdb : b = true → -10000 ≤ d ∧ d ≤ 10000 := fun h => by rw [← hd]; exact line_bd (unhide HR) (by rw [hb]; exact h)
    have HDB := hide hdb
    clear hcz hd hb hdist hdb
    go_upto_region 5 with (first
      | (go_at_call 83; refine (count_eq c sh st (unhide HSB) f HFL _ HCN _).mono ?_; rintro e w4 ⟨rfl, hb4⟩; have HBV4 := hide hb4; obtain ⟨u0, u1, u2, u3, u4, u5, u6, u7, u8, u9, u10, u11, v0, v1, v2, v3, v4, v5, v6, v7, v8, v9, v10, v11, ul⟩ := ((unhide HL2).below (Nat.le_refl _) hb4).all; clear hb4)
      | (go_at_call 232; refine (unhide HDC _).mono ?_; rintro e w5 ⟨rfl, hb5⟩; have HBV5 := hide ((unhide HBV4).trans (hb5.mono (unhide HBV4).size)); clear hb5))
    have HZ5 := hide ((unhide HZ2).below (Nat.le_refl _) (unhide HBV5))
    have HL5 := hide ((unhide HL2).below (Nat.le_refl _) (unhide HBV5))
    have HG5 := hide ((unhide HG2).below (Nat.le_refl _) (unhide HBV5))
    have HB5 := hide ((unhide HB2).trans ((unhide HBV5).mono (unhide HB2).size))
    clear x0 x1 x2 x3 x4 x5 x6 x7 x8 x9 x10 x11 y0 y1 y2 y3 y4 y5 y6 y7 y8 y9 y10 y11 xl u0 u1 u2 u3 u4 u5 u6 u7 u8 u9 u10 u11 v0 v1 v2 v3 v4 v5 v6 v7 v8 v9 v10 v11 ul HZ2 HL2 HG2 HB2 HBV4 HBV5 HDC
    have HK5 : Hid (∀ wx, Below w5.heap.size w5 wx → (wx.cell? ⟨p, 0, none⟩ = some (.int .i64 (f 0)) ∧ wx.cell? ⟨p, 1, none⟩ = some (.int .i64 (f 1)) ∧ wx.cell? ⟨p, 2, none⟩ = some (.int .i64 (f 2)) ∧ wx.cell? ⟨p, 3, none⟩ = some (.int .i64 (f 3)) ∧ wx.cell? ⟨p, 4, none⟩ = some (.int .i64 (f 4)) ∧ wx.cell? ⟨p, 5, none⟩ = some (.int .i64 (f 5)) ∧ wx.cell? ⟨p, 6, none⟩ = some (.int .i64 (f 6)) ∧ wx.cell? ⟨p, 7, none⟩ = some (.int .i64 (f 7)) ∧ wx.cell? ⟨p, 8, none⟩ = some (.int .i64 (f 8)) ∧ wx.cell? ⟨p, 9, none⟩ = some (.int .i64 (f 9)) ∧ wx.cell? ⟨p, 10, none⟩ = some (.int .i64 (f 10)) ∧ wx.cell? ⟨p, 11, none⟩ = some (.int .i64 (f 11))) ∧ (wx.cell? ⟨q, 0, none⟩ = some (.int .i64 (gw 0)) ∧ wx.cell? ⟨q, 1, none⟩ = some (.int .i64 (gw 1)) ∧ wx.cell? ⟨q, 2, none⟩ = some (.int .i64 (gw 2)) ∧ wx.cell? ⟨q, 3, none⟩ = some (.int .i64 (gw 3)) ∧ wx.cell? ⟨q, 4, none⟩ = some (.int .i64 (gw 4)) ∧ wx.cell? ⟨q, 5, none⟩ = some (.int .i64 (gw 5)) ∧ wx.cell? ⟨q, 6, none⟩ = some (.int .i64 (gw 6)) ∧ wx.cell? ⟨q, 7, none⟩ = some (.int .i64 (gw 7)) ∧ wx.cell? ⟨q, 8, none⟩ = some (.int .i64 (gw 8)) ∧ wx.cell? ⟨q, 9, none⟩ = some (.int .i64 (gw 9)) ∧ wx.cell? ⟨q, 10, none⟩ = some (.int .i64 (gw 10)) ∧ wx.cell? ⟨q, 11, none⟩ = some (.int .i64 (gw 11)))) := fun wx h => ⟨((unhide HL5).below (Nat.le_refl _) h).cells, ((unhide HG5).below (Nat.le_refl _) h).cells⟩
    cases b with
    | false =>
      have HF : Hid (foldV c sh st zs = noView) := fold_off ⟨unhide HR, unhide HRZ⟩ (by rw [unhide HCN]; exact h1) (by rw [unhide HBB]; simp)
      obtain ⟨z0, z1, z2, z3, z4, z5, z6, z7, z8, z9, z10, z11, f0, f1, f2, f3, f4, f5, f6, f7, f8, f9, f10, f11, zl⟩ := (unhide HZ5).all
      go_quiet (fail)
      go_wp2_with fail
      refine bodyPost_ret (v := .tuple #[lay (fun _ => 0), .bool false]) (by simp [results, Tryz.results168, go_sem, z0, z1, z2, z3, z4, z5, z6, z7, z8, z9, z10, z11]) rfl ?_
      exact ⟨fun _ => 0, false, rfl, .inl ⟨rfl, unhide HF⟩, Below.sets12 (Below.drewN (unhide HB5) _) (by rw [unhide HPE]; omega) (fun _ => 0)⟩
    | true =>
      go_cut [31] (fun v wx => v = .bool (decide (cn < cz)) ∧ Below w5.heap.size w5 wx)
      case first =>
        go_region_held3 (fun wx => (wx.cell? ⟨p, 0, none⟩ = some (.int .i64 (f 0)) ∧ wx.cell? ⟨p, 1, none⟩ = some (.int .i64 (f 1)) ∧ wx.cell? ⟨p, 2, none⟩ = some (.int .i64 (f 2)) ∧ wx.cell? ⟨p, 3, none⟩ = some (.int .i64 (f 3)) ∧ wx.cell? ⟨p, 4, none⟩ = some (.int .i64 (f 4)) ∧ wx.cell? ⟨p, 5, none⟩ = some (.int .i64 (f 5)) ∧ wx.cell? ⟨p, 6, none⟩ = some (.int .i64 (f 6)) ∧ wx.cell? ⟨p, 7, none⟩ = some (.int .i64 (f 7)) ∧ wx.cell? ⟨p, 8, none⟩ = some (.int .i64 (f 8)) ∧ wx.cell? ⟨p, 9, none⟩ = some (.int .i64 (f 9)) ∧ wx.cell? ⟨p, 10, none⟩ = some (.int .i64 (f 10)) ∧ wx.cell? ⟨p, 11, none⟩ = some (.int .i64 (f 11))) ∧ (wx.cell? ⟨q, 0, none⟩ = some (.int .i64 (gw 0)) ∧ wx.cell? ⟨q, 1, none⟩ = some (.int .i64 (gw 1)) ∧ wx.cell? ⟨q, 2, none⟩ = some (.int .i64 (gw 2)) ∧ wx.cell? ⟨q, 3, none⟩ = some (.int .i64 (gw 3)) ∧ wx.cell? ⟨q, 4, none⟩ = some (.int .i64 (gw 4)) ∧ wx.cell? ⟨q, 5, none⟩ = some (.int .i64 (gw 5)) ∧ wx.cell? ⟨q, 6, none⟩ = some (.int .i64 (gw 6)) ∧ wx.cell? ⟨q, 7, none⟩ = some (.int .i64 (gw 7)) ∧ wx.cell? ⟨q, 8, none⟩ = some (.int .i64 (gw 8)) ∧ wx.cell? ⟨q, 9, none⟩ = some (.int .i64 (gw 9)) ∧ wx.cell? ⟨q, 10, none⟩ = some (.int .i64 (gw 10)) ∧ wx.cell? ⟨q, 11, none⟩ = some (.int .i64 (gw 11))))
          (first | exact unhide HK5 _ hKB | exact unhide HK5 _ hKA | exact unhide HK5 _ (Below.refl _ _).drew)
          (first
          | (go_at_call 83; (with_reducible refine (count_eq 0 zs (wholeSt zs) (unhide HRZ) gw HGW _ HCZ _).mono ?_); rintro e wA ⟨rfl, hbA⟩; have hKA : Below w5.heap.size w5 wA := (Below.refl _ _).drew.trans (hbA.mono (by first | exact Nat.le_refl _ | (simp <;> omega))); clear hbA)
          | (go_at_call 83; (with_reducible refine (count_eq c sh st (unhide HSB) f HFL _ HCN _).mono ?_); rintro e wB ⟨rfl, hbB⟩; have hKB : Below w5.heap.size w5 wB := hKA.trans (hbB.mono hKA.size); clear hbB))
        all_goals go_wp2_with fail
        all_goals go_meet
        all_goals case rel => exact ⟨by first | rfl | simp, hKB⟩
      case rest =>
        obtain ⟨w6, hw6⟩ : ∃ x, x = wc := ⟨_, rfl⟩
        subst hw6
        obtain ⟨rfl, hb6⟩ := hcut
        have HB6 := hide ((unhide HB5).trans (hb6.mono (unhide HB5).size))
        have HZ6 := hide ((unhide HZ5).below (Nat.le_refl _) hb6)
        have HL6 := hide ((unhide HL5).below (Nat.le_refl _) hb6)
        have HG6 := hide ((unhide HG5).below (Nat.le_refl _) hb6)
        clear hb6 HB5 HZ5 HL5 HG5 HK5
        by_cases hlt : cn < cz
        · have HF : Hid (foldV c sh st zs = noView) := fold_off ⟨unhide HR, unhide HRZ⟩ (by rw [unhide HCN]; exact h1) (by rw [unhide HCN, unhide HCZ]; omega)
          obtain ⟨z0, z1, z2, z3, z4, z5, z6, z7, z8, z9, z10, z11, f0, f1, f2, f3, f4, f5, f6, f7, f8, f9, f10, f11, zl⟩ := (unhide HZ6).all
          rw [decide_eq_true hlt]
          go_wp2_with fail
          refine bodyPost_ret (v := .tuple #[lay (fun _ => 0), .bool false]) (by simp [results, Tryz.results168, go_sem, z0, z1, z2, z3, z4, z5, z6, z7, z8, z9, z10, z11]) rfl ?_
          exact ⟨fun _ => 0, false, rfl, .inl ⟨rfl, unhide HF⟩, Below.sets12 (unhide HB6) (by rw [unhide HPE]; omega) (fun _ => 0)⟩
        · obtain ⟨hd0, hd1⟩ := unhide HDB rfl
          obtain ⟨g, hg⟩ : ∃ g, fl c zs ((wholeSt zs).map (· * d)) = g := ⟨_, rfl⟩
          have HGG := hide hg
          have HANS : Hid (foldV c sh st zs = answerOf c zs ((wholeSt zs).map (· * d))) := by
            show _ = _
            rw [fold_go ⟨unhide HR, unhide HRZ⟩ (by rw [unhide HCN]; exact h1) ⟨unhide HBB, by rw [unhide HCN, unhide HCZ]; omega⟩, unhide HD]
          have HSC : Hid (∀ w0 : World, Calls Tryz.prog 231 #[lay gw, .int .i64 c, .int .i64 d] w0 fun e w' => e = .returned (lay g) ∧ Below w0.heap.size w0 w') := fun w0 => spread_whole zs (unhide HRZ) gw HGW c d hd0 hd1 g HGG w0
          have hc0 : w6.cell? ⟨p, 0, none⟩ = some (.int .i64 c) := by rw [(unhide HL6).at (by omega), unhide hf0]
          obtain ⟨x0, x1, x2, x3, x4, x5, x6, x7, x8, x9, x10, x11, y0, y1, y2, y3, y4, y5, y6, y7, y8, y9, y10, y11, xl⟩ := (unhide HG6).all
          clear hg
          rw [decide_eq_false hlt]
          go_wp2_with (go_at_call 231; refine (unhide HSC _).mono ?_; rintro e w7 ⟨rfl, hb7⟩; have HZ7 := hide ((unhide HZ6).below (Nat.le_refl _) hb7); have HB7 := hide ((unhide HB6).trans (hb7.mono (unhide HB6).size)); obtain ⟨z0, z1, z2, z3, z4, z5, z6, z7, z8, z9, z10, z11, f0, f1, f2, f3, f4, f5, f6, f7, f8, f9, f10, f11, zl⟩ := (unhide HZ7).all; clear hb7)
          refine bodyPost_ret (v := .tuple #[lay g, .bool true]) (by simp [results, Tryz.results168, go_sem, z0, z1, z2, z3, z4, z5, z6, z7, z8, z9, z10, z11]) rfl ?_
          exact ⟨g, true, rfl, .inr ⟨rfl, _, unhide HGG, by simp [wholeSt], unhide HANS⟩, Below.sets12 (unhide HB7) (by rw [unhide HPE]; omega) g⟩
set_option maxRecDepth 20000 in
set_option maxHeartbeats 4000000 in
theorem FoldView_impl (c : Int) (a1 a2 : Option Addr) (n1 n2 c1 c2 : Nat) (sh st : List Int) (s0 : Addr) (k0 l0 : Nat) (zs : List Int) (w : World) (h1 : Row w a1 n1 sh) (h2 : Row w a2 n2 st) (k1 : Row w (some s0) k0 zs) :
    Calls Tryz.prog 97 #[.agg #[.int .i64 c, .slice a1 n1 c1, .slice a2 n2 c2], .slice (some s0) k0 l0] w (GivesVO w (foldV c sh st zs)) := by
  obtain ⟨r, hr⟩ : ∃ r, formed c sh st = r := ⟨_, rfl⟩
  have HR := hide hr
  clear hr
  have hl1 := hide h1.len
  have H1 := hide h1
  have H2 := hide h2
  have K1 := hide k1
  clear k1
  clear h1 h2
  cases r with
  | false =>
    have HF : Hid (foldV c sh st zs = noView) := fold_no (by rw [unhide HR]; simp)
    go_enter Tryz.func97, Tryz.ntmps97
    go_wp2_with fail
    refine (layoutOf_no c a1 a2 n1 n2 c1 c2 sh st _ (((unhide H1).alloc _).alloc _) (((unhide H2).alloc _).alloc _) (unhide HR)).mono ?_
    rintro e w1 ⟨rfl, hb1⟩
    obtain ⟨B1, hB⟩ := vhead hb1
    obtain ⟨z0, z1, z2, z3, z4, z5, z6⟩ := B1.all
    have HB := hide hB
    clear hb1 B1 hB
    go_wp2_with fail
    refine bodyPost_ret (v := .tuple #[.agg #[.int .i64 0, .slice none 0 0, .slice none 0 0], .bool false]) (by simp [results, Tryz.results97, go_sem, z0, z1, z2, z6]) rfl ?_
    rw [unhide HF]
    exact givesV_none (((((unhide HB).setCell (by simp <;> omega) _).setCell (by simp <;> omega) _).setCell (by simp <;> omega) _).alloc (by simp <;> omega) _)
  | true =>
    obtain ⟨hsb, hle, hcb, hst⟩ := formed_parts (unhide HR)
    obtain ⟨hin, h5⟩ := shapeB_in hsb
    have H5 := hide h5
    have HLE := hide hle
    have HST := hide hst
    have HIN := hide hin
    have HSB := hide hsb
    obtain ⟨f, hf⟩ : ∃ f, fl c sh st = f := ⟨_, rfl⟩
    have hf0 : Hid (f 0 = c) := by rw [← hf]; exact fl_0 c sh st
    have hf1 : Hid (f 1 = (sh.length : Int)) := by rw [← hf]; exact fl_1 c sh st
    have HFL := hide hf
    clear hf hsb hle hst hin h5
    obtain ⟨rz, hrz⟩ : ∃ r, shapeB zs = r := ⟨_, rfl⟩
    have HRZ := hide hrz
    obtain ⟨cn, hcn⟩ : ∃ cn, countOf sh = cn := ⟨_, rfl⟩
    have HCN := hide hcn
    clear hrz hcn
    go_enter Tryz.func97, Tryz.ntmps97
    go_wp2_with fail
    refine (layoutOf_yes c a1 a2 n1 n2 c1 c2 sh st _ (((unhide H1).alloc _).alloc _) (((unhide H2).alloc _).alloc _) (unhide HR) f HFL).mono ?_
    rintro e w1 ⟨rfl, hb1⟩
    obtain ⟨B1, hB⟩ := vhead hb1
    obtain ⟨z0, z1, z2, z3, z4, z5, z6⟩ := B1.all
    have HV := hide (B1.alloc (objL f))
    have HB := hide (hB.alloc hB.size (objL f))
    have HL := hide (LBox.new w1 f)
    have hp1 := B1.lt
    clear hb1 B1 hB
    go_upto_region 2 with fail
    clear z0 z1 z2 z3 z4 z5 z6
    generalize w1.alloc (objL f) = W at *
    generalize w1.heap.size = p at *
    clear w1
    have KW := hide ((unhide K1).below (Nat.le_refl _) (unhide HB))
    obtain ⟨x0, x1, x2, x3, x4, x5, x6, x7, x8, x9, x10, x11, y0, y1, y2, y3, y4, y5, y6, y7, y8, y9, y10, y11, xl⟩ := (unhide HL).all
    cases rz with
    | false =>
      have HF : Hid (foldV c sh st zs = noView) := fold_no (by rw [unhide HRZ]; simp)
      obtain ⟨z0, z1, z2, z3, z4, z5, z6⟩ := (unhide HV).all
      go_wp2_with (go_at_call 114; refine (shapeOk_eq _ _ _ zs _ (unhide KW) _ HRZ).mono ?_; rintro e wq ⟨rfl, hw⟩; obtain rfl := hw.symm)
      refine bodyPost_ret (v := .tuple #[.agg #[.int .i64 0, .slice none 0 0, .slice none 0 0], .bool false]) (by simp [results, Tryz.results97, go_sem, z0, z1, z2]) rfl ?_
      rw [unhide HF]
      exact givesV_none ((((unhide HB).setCell (by simp <;> omega) _).setCell (by simp <;> omega) _).setCell (by simp <;> omega) _)
    | true =>
      obtain ⟨z0, z1, z2, z3, z4, z5, z6⟩ := (unhide HV).all
      go_upto_region 5 with (first
        | (go_at_call 114; refine (shapeOk_eq _ _ _ zs _ (unhide KW) _ HRZ).mono ?_; rintro e wq ⟨rfl, hw⟩; obtain rfl := hw.symm)
        | (go_at_call 168; refine (folded_any c sh st s0 k0 l0 zs _ (unhide KW) (unhide HR) (unhide HRZ) f HFL).mono ?_; rintro e w2 ⟨g, b, rfl, hfi, hb2⟩; have HFI := hide hfi; have HBW2 := hide hb2; clear hb2 hfi))
      have HV2 := hide (((unhide HV).below (Nat.le_refl _) (unhide HBW2)).alloc (objL g))
      have HG2 := hide (LBox.new w2 g)
      have HB2 := hide (((unhide HB).trans ((unhide HBW2).mono (unhide HB).size)).alloc (by have := (unhide HB).size; have := (unhide HBW2).size; omega) (objL g))
      have HZ5 := hide (shapeB_in (unhide HRZ)).2
      clear x0 x1 x2 x3 x4 x5 x6 x7 x8 x9 x10 x11 y0 y1 y2 y3 y4 y5 y6 y7 y8 y9 y10 y11 xl z0 z1 z2 z3 z4 z5 z6 HV HL HB HBW2 KW
      generalize w2.alloc (objL g) = V at *
      generalize w2.heap.size = q at *
      obtain ⟨x0, x1, x2, x3, x4, x5, x6, x7, x8, x9, x10, x11, y0, y1, y2, y3, y4, y5, y6, y7, y8, y9, y10, y11, xl⟩ := (unhide HG2).all
      cases b with
      | false =>
        have HF : Hid (foldV c sh st zs = noView) := by
          rcases unhide HFI with ⟨_, h⟩ | ⟨h, _⟩
          · exact h
          · cases h
        obtain ⟨z0, z1, z2, z3, z4, z5, z6⟩ := (unhide HV2).all
        go_wp2_with fail
        refine bodyPost_ret (v := .tuple #[.agg #[.int .i64 0, .slice none 0 0, .slice none 0 0], .bool false]) (by simp [results, Tryz.results97, go_sem, z0, z1, z2]) rfl ?_
        rw [unhide HF]
        exact givesV_none ((((unhide HB2).setCell (by simp <;> omega) _).setCell (by simp <;> omega) _).setCell (by simp <;> omega) _)
      | true =>
        have hex : ∃ ST : List Int, fl c zs ST = g ∧ ST.length = zs.length ∧ foldV c sh st zs = answerOf c zs ST := by
          rcases unhide HFI with ⟨h, _⟩ | ⟨_, h⟩
          · cases h
          · exact h
        obtain ⟨ST, hg, hsl, hans⟩ := hex
        have HANS := hide hans
        have HVC : Hid (∀ w0 : World, Calls Tryz.prog 87 #[lay g] w0 (GivesVO w0 (answerOf c zs ST))) := fun w0 => by
          rw [← hg]; exact view_any c zs _ w0 (unhide HZ5) hsl
        generalize answerOf c zs ST = r9 at *
        clear hg hans hsl HFI
        go_wp2_with (go_at_call 87; refine (unhide HVC _).mono ?_; rintro e w9 ⟨q1, m1, d1, q2, m2, d2, rfl, hq1, hq2, hqa, hb9⟩; have HQ1 := hide hq1; have HQ2 := hide hq2; have HQA := hide hqa; have HB9 := hide hb9; obtain ⟨z0, z1, z2, z3, z4, z5, z6⟩ := ((unhide HV2).below (Nat.le_refl _) hb9).all; clear hq1 hq2 hqa hb9)
        refine bodyPost_ret (v := .tuple #[.agg #[.int .i64 r9.c, .slice q1 m1 d1, .slice q2 m2 d2], .bool r9.code]) (by simp [results, Tryz.results97, go_sem, z0, z1, z2]) rfl ?_
        rw [unhide HANS]
        exact gives_on (unhide HQ1) (unhide HQ2) (unhide HQA) (unhide HB2) (unhide HB9) (by omega) (unhide HV2).lt _ _ _
end Go.Proofs.YtgjpchnkodnieaaGreatDoor
