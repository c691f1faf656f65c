import Derived.Test.YtgjpchnkodnieaaGreatDoorZv34
import Derived.Deep.RegionHeld3
import Derived.Deep.DeepCutAuto
import Derived.Test.YtgjpchnkodnieaaGreatDoorZv35
namespace Go.Proofs.YtgjpchnkodnieaaGreatDoor
open Go.RowKit
theorem info_arr : (Tryz.prog.info? 25).map (fun i => (i.zero, i.size, i.bytes)) = some (some (.agg #[.bool false, .slice none 0 0, .slice none 0 0]), 3, 56) := by kernel_rfl
theorem three_set {w w1 : World} {g n k : Nat} {sh : List Int} {ps : List PartD} {f : Nat → Value} {t1 : Addr} {k1 e1 : Nat} {t2 : Option Addr} {k2 e2 : Nat} (h : APick w g n k sh ps f) (hb : Below w.heap.size w w1)
    (r1 : Row w1 (some t1) k1 (pickSh (part ps k) (sh.getD k 0))) (r2 : Row w1 t2 k2 (pDt sh ps k)) (n1 : ¬ At (some t1) k1 g) (n2 : ¬ At t2 k2 g) :
    ∃ f', APick (((w1.setCell ⟨g, k * 3, none⟩ (.bool false)).setCell ⟨g, k * 3 + 1, none⟩ (.slice (some t1) k1 e1)).setCell ⟨g, k * 3 + 2, none⟩ (.slice t2 k2 e2)) g n (k + 1) sh ps f' := by
  have hm := h.below (Nat.le_refl _) hb
  have hr := ((hm.row.set (k * 3) (.bool false)).set (k * 3 + 1) (.slice (some t1) k1 e1)).set (k * 3 + 2) (.slice t2 k2 e2)
  have hbut : But (fun x => x = g) w1 (((w1.setCell ⟨g, k * 3, none⟩ (.bool false)).setCell ⟨g, k * 3 + 1, none⟩ (.slice (some t1) k1 e1)).setCell ⟨g, k * 3 + 2, none⟩ (.slice t2 k2 e2)) :=
    (((But.refl (fun x => x = g) w1).setCell (p := ⟨g, k * 3, none⟩) rfl _).setCell (p := ⟨g, k * 3 + 1, none⟩) rfl _).setCell (p := ⟨g, k * 3 + 2, none⟩) rfl _
  have hrow : ∀ (a : Option Addr) (m : Nat) (zs : List Int), Row w1 a m zs → ¬ At a m g → Row (((w1.setCell ⟨g, k * 3, none⟩ (.bool false)).setCell ⟨g, k * 3 + 1, none⟩ (.slice (some t1) k1 e1)).setCell ⟨g, k * 3 + 2, none⟩ (.slice t2 k2 e2)) a m zs := fun a m zs hr hn => hbut.row hr (fun x hx hh => hn (by rw [← hx]; exact hh))
  refine ⟨_, hr, fun i hi => ?_⟩
  by_cases e : i = k
  · subst e
    refine ⟨t1, k1, e1, t2, k2, e2, ?_, ?_, ?_, hrow _ _ _ r1 n1, hrow _ _ _ r2 n2, n1, n2⟩
    · (try dsimp only); rw [if_neg (by omega), if_neg (by omega), if_pos rfl]
    · (try dsimp only); rw [if_neg (by omega), if_pos rfl]
    · (try dsimp only); rw [if_pos rfl]
  · obtain ⟨u1, j1, d1, u2, j2, d2, x0, x1, x2, x3, x4, x5, x6⟩ := hm.at_ i (by omega)
    refine ⟨u1, j1, d1, u2, j2, d2, ?_, ?_, ?_, hrow _ _ _ x3 x5, hrow _ _ _ x4 x6, x5, x6⟩
    · (try dsimp only); rw [if_neg (by omega), if_neg (by omega), if_neg (by omega)]; exact x0
    · (try dsimp only); rw [if_neg (by omega), if_neg (by omega), if_neg (by omega)]; exact x1
    · (try dsimp only); rw [if_neg (by omega), if_neg (by omega), if_neg (by omega)]; exact x2
def PicksGives (w : World) (np : Nat) (sh : List Int) (ps : List PartD) (code : Int) (e : Ending) (w' : World) : Prop := ∃ v, e = .returned (.tuple #[v, .int .i64 code]) ∧ (code = 0 → ∃ g f, v = .slice (some ⟨g, 0, none⟩) np np ∧ w.heap.size ≤ g ∧ APick w' g np np sh ps f) ∧ Below w.heap.size w w'
theorem picks_hit {sh : List Int} {ps : List PartD} {k : Nat} {r : Int} (hl : ps.length = sh.length) (h : firstCode (pcAt sh ps) k = 0) (hk : k < ps.length) (hr : pickCode (part ps k) (sh.getD k 0) = r) (h0 : r ≠ 0) : partsCode sh ps = r := by
  refine parts_code ?_ h0
  unfold picksCode
  rw [if_pos hl, code_found h hk (by show pickCode _ _ ≠ 0; rw [hr]; exact h0)]
  exact hr
set_option maxRecDepth 20000 in
set_option maxHeartbeats 8000000 in
theorem picksOf_any (a1 : Option Addr) (n1 c1 : Nat) (ap : Option Addr) (np cp : Nat) (sh : List Int) (ps : List PartD) (w : World) (h1 : Row w a1 n1 sh) (hp : PRowN w ap np ps) (hs : ShapeIn sh) (h5 : n1 ≤ 5) (code : Int) (hcode : Hid (partsCode sh ps = code)) :
    Calls Tryz.prog 174 #[.slice a1 n1 c1, .slice ap np cp] w (PicksGives w np sh ps code) := by
  have hl1 := h1.len
  have hlp := hp.row.len
  have hnps := hp.row.small
  by_cases hne : np = n1
  case neg =>
    have hnn : ((np : Int) != (n1 : Int)) = true := by simp; omega
    obtain rfl : code = 4 := by
      rw [← unhide hcode]
      refine parts_code ?_ (by omega)
      unfold picksCode
      rw [if_neg (by omega)]
    clear h1 hp hl1 hlp hne hcode
    go_enter Tryz.func174, Tryz.ntmps174
    go_wp2_with fail
    go_ret2
    exact ⟨_, rfl, fun h => by omega, Below.refl _ _⟩
  subst hne
  have hnn : ((np : Int) != (np : Int)) = false := by simp
  have HL : Hid (ps.length = sh.length) := hlp.trans hl1.symm
  have HLP := hide hlp
  have H1 := hide h1
  have HP := hide hp
  have HSH := hide hs
  clear h1 hp hs hl1 hlp hnps
  obtain ⟨i0, hi, hz0, hz1, hz2⟩ := info_parts info_arr
  go_enter Tryz.func174, Tryz.ntmps174
  go_wp2_with (at_make; refine wpList_make_full _ rfl _ _ 179 rfl w.heap.size 25 i0 (.agg #[.bool false, .slice none 0 0, .slice none 0 0]) 3 Tryz.underlying179 hi hz0 hz1 _ _ _ _ np rfl rfl rfl rfl (by rw [hz2]; omega) (by unfold maxLen; omega) (Nat.le_refl _) ?_; intro w1 hown hgrow)
  have hbel : Below w.heap.size w w1 := (Below.refl _ _).grown hgrow (Nat.le_refl _) (by simp)
  have hrow : ∃ f, w1.rowIs w.heap.size 25 (np * 3) f := by
    rcases hown.2 with ⟨h', _⟩ | ⟨g', cap', cur, h', _, hg, _, _, hs, _⟩
    · simp at h'
    · simp only [Value.slice.injEq, Option.some.injEq, Addr.mk.injEq, and_true, true_and] at h'
      obtain ⟨rfl, rfl⟩ := h'
      exact ⟨fun i => cur.getD i default, cur, hg, hs, fun i hi => by simp [Array.getD, show i < cur.size by omega]⟩
  obtain ⟨f0, hrow⟩ := hrow
  have HST : Hid (∃ f, APick w1 w.heap.size np 0 sh ps f) := ⟨f0, hrow, fun i hi => by omega⟩
  have HBEL := hide hbel
  clear hown hgrow hi hz0 hz1 hz2 hrow hbel
  go_wp2_with fail
  go_loopw [20] (fun i wr => ∃ k : Nat, k ≤ np ∧ i = .int .i64 k ∧ Hid ((∃ f, APick wr w.heap.size np k sh ps f) ∧ firstCode (pcAt sh ps) k = 0 ∧ Below w.heap.size w wr)) (fun i _ => np - (intOf i).toNat)
  case atStart => exact ⟨0, Nat.zero_le _, rfl, unhide HST, rfl, unhide HBEL⟩
  case round =>
    obtain ⟨k, hk, rfl, HX⟩ := hrel
    clear HST HBEL
    obtain ⟨⟨f, hap⟩, hfc, hbl⟩ := unhide HX
    have HAP := hide hap
    have HFC := hide hfc
    have HBL := hide hbl
    clear HX hap hfc hbl
    by_cases hlt : k < np
    case neg =>
      obtain rfl : k = np := by omega
      have hpo : PicksOk sh ps := ⟨unhide HL, fun i hi => firstCode_all (unhide HFC) i (by rw [← unhide HLP]; exact hi)⟩
      have HPC : Hid (picksCode sh ps = 0) := by show _ = _; unfold picksCode; rw [if_pos (unhide HL), unhide HLP]; exact unhide HFC
      have HPO := hide hpo
      clear hpo
      obtain ⟨ok, hok⟩ : ∃ x, shapeB (pSh sh ps) = x := ⟨_, rfl⟩
      have HOK := hide hok
      clear hok
      go_wp2_with fail
      refine (picksShape_any _ _ sh ps f _ (by exact unhide HAP) h5 (fun i hi => pick_five ((unhide HPO).code i (by rw [unhide HLP]; exact hi)))).mono ?_
      rintro e w2 ⟨a, m, cap, rfl, hm, hown, hb2⟩
      obtain ⟨a', c', e', ho⟩ := Own.of_owns hown (by omega)
      cases e'
      have HR : Hid (Row w2 a m (pSh sh ps)) := by show Row _ _ _ _; unfold pSh; rw [unhide HLP]; exact ho.row
      have HAP2 := hide ((unhide HAP).below (Nat.le_refl _) hb2)
      have HB2 := hide ((unhide HBL).trans (hb2.mono (unhide HBL).size))
      clear hown ho hb2 HAP HBL
      go_wp2_with fail
      refine (shapeOk_eq _ _ _ (pSh sh ps) _ (by exact unhide HR) ok HOK).mono ?_
      rintro e wq ⟨rfl, hwq⟩
      obtain rfl := hwq.symm
      cases ok with
      | false =>
        obtain rfl : code = 7 := by rw [← unhide hcode]; exact parts_seven (unhide HPC) (unhide HOK)
        go_wp2_with fail
        go_ret2
        exact ⟨_, rfl, fun h => by omega, unhide HB2⟩
      | true =>
        obtain rfl : code = 0 := by rw [← unhide hcode]; exact parts_zero (unhide HPC) (unhide HOK)
        go_wp2_with fail
        go_ret2
        exact ⟨_, rfl, fun _ => ⟨_, _, rfl, Nat.le_refl _, unhide HAP2⟩, unhide HB2⟩
    obtain ⟨b, off, rfl, hbs, s1, m1, d1, s2, m2, d2, e1, e2, e3, e4, e5, e6⟩ := (unhide HP).row.get hlt
    have hnn1 : (part ps k).all = false → ∃ ad, s1 = some ad := fun h => by
      obtain ⟨ad, mm, cc, hc⟩ := (unhide HP).nn b off rfl hbs k hlt h
      rw [e3] at hc
      simp only [Option.some.injEq, Value.slice.injEq] at hc
      exact ⟨ad, hc.1⟩
    have HNN := hide hnn1
    have HE5 := hide e5
    have HE6 := hide e6
    rw [← (unhide HBL).cell (p := ⟨b, off + k * 4, none⟩) hbs] at e1
    rw [← (unhide HBL).cell (p := ⟨b, off + k * 4 + 1, none⟩) hbs] at e2
    rw [← (unhide HBL).cell (p := ⟨b, off + k * 4 + 2, none⟩) hbs] at e3
    rw [← (unhide HBL).cell (p := ⟨b, off + k * 4 + 3, none⟩) hbs] at e4
    obtain ⟨L, hL⟩ : ∃ L : Nat, sh.getD k 0 = L := ⟨(sh.getD k 0).toNat, by have := (unhide HSH).cell k; omega⟩
    have hL2 : L ≤ 10000 := by have := (unhide HSH).cell k; omega
    obtain ⟨bs, os, rfl, hbs1, hcl⟩ := (unhide H1).get hlt
    rw [hL] at hcl
    obtain ⟨ck, hck⟩ : ∃ x, pickCode (part ps k) L = x := ⟨_, rfl⟩
    have HCK := hide hck
    have HLV := hide hL
    have hgl := (unhide HAP).row.lt
    clear hnn1 e5 e6 hck hL
    obtain ⟨p, hpd⟩ : ∃ x, x = part ps k := ⟨_, rfl⟩
    rw [← hpd] at e1 e2
    have HPD := hide hpd
    rw [← hpd] at HNN HE5 HE6 HCK
    clear hpd
    go_upto_region 7 with fail
    obtain ⟨V, hV⟩ : ∃ x, x = wr.alloc (.cells #[.bool p.all, .bool p.c, .slice s1 m1 d1, .slice s2 m2 d2] 119) := ⟨_, rfl⟩
    rw [← hV]
    obtain ⟨q, hq⟩ : ∃ x, x = wr.heap.size := ⟨_, rfl⟩
    rw [← hq]
    have hqw : w.heap.size < q := by rw [hq]; exact hgl
    have HVB : Hid (Below wr.heap.size wr V) := by rw [hV]; exact (Below.refl _ _).alloc (Nat.le_refl _) _
    have HVW : Hid (Below w.heap.size w V) := (unhide HBL).trans ((unhide HVB).mono (unhide HBL).size)
    have HAV : Hid (APick V w.heap.size np k sh ps f) := (unhide HAP).below (Nat.le_refl _) (unhide HVB)
    have HQP : Hid (V.heap[q]? = some (.cells #[.bool p.all, .bool p.c, .slice s1 m1 d1, .slice s2 m2 d2] 119 (0, 0))) := by rw [hV, hq]; show (wr.heap.push _)[wr.heap.size]? = _; simp
    have HKEEP : ∀ wx, But (fun x => x = w.heap.size) V wx → wx.cell? ⟨q, 0, none⟩ = some (.bool p.all) ∧ wx.cell? ⟨q, 1, none⟩ = some (.bool p.c) ∧ wx.cell? ⟨q, 2, none⟩ = some (.slice s1 m1 d1) ∧ wx.cell? ⟨q, 3, none⟩ = some (.slice s2 m2 d2) ∧ wx.cell? ⟨bs, os + k, none⟩ = some (.int .i64 L) := fun wx hwx => by
      have hh : wx.heap[q]? = _ := (hwx.block q (lt_of_block (unhide HQP)) (by omega)).trans (unhide HQP)
      have hs' : wx.cell? ⟨bs, os + k, none⟩ = V.cell? ⟨bs, os + k, none⟩ := hwx.cellAt (by have := (unhide HVW).size; omega) (by omega)
      refine ⟨by simp [World.cell?, hh], by simp [World.cell?, hh], by simp [World.cell?, hh], by simp [World.cell?, hh], ?_⟩
      rw [hs', (unhide HVW).cell (p := ⟨bs, os + k, none⟩) hbs1, hcl]
    have z0 := (unhide HAV).row.cell (i := k * 3) (by omega)
    have z1 := (unhide HAV).row.cell (i := k * 3 + 1) (by omega)
    have z2 := (unhide HAV).row.cell (i := k * 3 + 2) (by omega)
    have z3 := (unhide HAV).row.frozen (k * 3)
    have z4 := (unhide HAV).row.frozen (k * 3 + 1)
    have z5 := (unhide HAV).row.frozen (k * 3 + 2)
    have hgv := (unhide HAV).row.lt
    have HRW1 : Hid (Row V s1 m1 p.sh) := (unhide HE5).below (Nat.le_refl _) (unhide HVW)
    have HRW2 : Hid (Row V s2 m2 p.dt) := (unhide HE6).below (Nat.le_refl _) (unhide HVW)
    have HA1 : Hid (∀ x, At s1 m1 x → x < w.heap.size) := fun x hx => (unhide HE5).hi hx
    have HA2 : Hid (∀ x, At s2 m2 x → x < w.heap.size) := fun x hx => (unhide HE6).hi hx
    clear hV hq e1 e2 e3 e4 hbs HAP HBL HE5 HE6 HVB hgl hcl hbs1
    clear wr
    by_cases hck0 : ck = 0
    case neg =>
      obtain rfl : code = ck := by rw [← unhide hcode]; exact picks_hit (unhide HL) (unhide HFC) (by rw [unhide HLP]; exact hlt) (by rw [unhide HLV, ← unhide HPD]; exact unhide HCK) hck0
      have hcb : (code != 0) = true := by simp [hck0]
      have HC0 := hide hck0
      clear hck0
      go_upto_region 8 with fail
      go_region_held3 (fun wx => wx.cell? ⟨q, 0, none⟩ = some (.bool p.all) ∧ wx.cell? ⟨q, 1, none⟩ = some (.bool p.c) ∧ wx.cell? ⟨q, 2, none⟩ = some (.slice s1 m1 d1) ∧ wx.cell? ⟨q, 3, none⟩ = some (.slice s2 m2 d2) ∧ wx.cell? ⟨bs, os + k, none⟩ = some (.int .i64 L)) (first | exact HKEEP _ (((hKA.setCell (p := ⟨w.heap.size, k * 3, none⟩) rfl _).setCell (p := ⟨w.heap.size, k * 3 + 1, none⟩) rfl _).setCell (p := ⟨w.heap.size, k * 3 + 2, none⟩) rfl _) | exact HKEEP _ hKA | exact HKEEP _ (But.refl _ _).drew | exact HKEEP _ (But.refl _ _)) (first | (go_at_call 235; refine (pickOf_any p s1 s2 m1 m2 d1 d2 L _ (by exact (unhide HRW1).below (Nat.le_refl _) (Below.refl _ _).drew) (by exact (unhide HRW2).below (Nat.le_refl _) (Below.refl _ _).drew) hL2 (unhide HNN) code HCK).mono ?_; rintro e w2 ⟨x1, j1, l1, x2, j2, l2, rfl, hans, hb2⟩; have hVW2 : Below V.heap.size V w2 := (Below.refl _ _).drew.trans hb2; have hKA : But (fun x => x = w.heap.size) V w2 := But.of_below hVW2; have hA2 := (unhide HAV).below (Nat.le_refl _) hVW2; have zz0 := hA2.row.cell (i := k * 3) (by omega); have zz1 := hA2.row.cell (i := k * 3 + 1) (by omega); have zz2 := hA2.row.cell (i := k * 3 + 2) (by omega); have zz3 := hA2.row.frozen (k * 3); have zz4 := hA2.row.frozen (k * 3 + 1); have zz5 := hA2.row.frozen (k * 3 + 2); have hgv2 := hA2.row.lt; clear hans hA2))
      all_goals go_wp2_with fail
      all_goals (go_ret2; exact ⟨_, rfl, fun h => absurd h (unhide HC0), (by first | exact ((((unhide HVW).trans (hVW2.mono (unhide HVW).size)).setCell (p := ⟨w.heap.size, k * 3, none⟩) (Nat.le_refl _) _).setCell (p := ⟨w.heap.size, k * 3 + 1, none⟩) (Nat.le_refl _) _).setCell (p := ⟨w.heap.size, k * 3 + 2, none⟩) (Nat.le_refl _) _ | exact (((((unhide HVW).trans (hVW2.mono (unhide HVW).size)).setCell (p := ⟨w.heap.size, k * 3, none⟩) (Nat.le_refl _) _).setCell (p := ⟨w.heap.size, k * 3 + 1, none⟩) (Nat.le_refl _) _).setCell (p := ⟨w.heap.size, k * 3 + 2, none⟩) (Nat.le_refl _) _).drew)⟩)
    subst hck0
    have HFK : Hid (firstCode (pcAt sh ps) (k + 1) = 0) := code_step (unhide HFC) (by show pickCode (part ps k) (sh.getD k 0) = 0; rw [unhide HLV, ← unhide HPD]; exact unhide HCK)
    have HPK1 : Hid (pickSh p L = pickSh (part ps k) (sh.getD k 0)) := by show _ = _; rw [unhide HLV, ← unhide HPD]
    have HPK2 : Hid (pickDt p L = pDt sh ps k) := by show _ = pickDt (part ps k) (sh.getD k 0); rw [unhide HLV, ← unhide HPD]
    clear HFC
    go_upto_region 8 with fail
    go_region_held3 (fun wx => wx.cell? ⟨q, 0, none⟩ = some (.bool p.all) ∧ wx.cell? ⟨q, 1, none⟩ = some (.bool p.c) ∧ wx.cell? ⟨q, 2, none⟩ = some (.slice s1 m1 d1) ∧ wx.cell? ⟨q, 3, none⟩ = some (.slice s2 m2 d2) ∧ wx.cell? ⟨bs, os + k, none⟩ = some (.int .i64 L)) (first | exact HKEEP _ (((hKA.setCell (p := ⟨w.heap.size, k * 3, none⟩) rfl _).setCell (p := ⟨w.heap.size, k * 3 + 1, none⟩) rfl _).setCell (p := ⟨w.heap.size, k * 3 + 2, none⟩) rfl _) | exact HKEEP _ hKA | exact HKEEP _ (But.refl _ _).drew | exact HKEEP _ (But.refl _ _)) (first | (go_at_call 235; refine (pickOf_any p s1 s2 m1 m2 d1 d2 L _ (by exact (unhide HRW1).below (Nat.le_refl _) (Below.refl _ _).drew) (by exact (unhide HRW2).below (Nat.le_refl _) (Below.refl _ _).drew) hL2 (unhide HNN) 0 HCK).mono ?_; rintro e w2 ⟨x1, j1, l1, x2, j2, l2, rfl, hans, hb2⟩; have hVW2 : Below V.heap.size V w2 := (Below.refl _ _).drew.trans hb2; have hKA : But (fun x => x = w.heap.size) V w2 := But.of_below hVW2; have hA2 := (unhide HAV).below (Nat.le_refl _) hVW2; have zz0 := hA2.row.cell (i := k * 3) (by omega); have zz1 := hA2.row.cell (i := k * 3 + 1) (by omega); have zz2 := hA2.row.cell (i := k * 3 + 2) (by omega); have zz3 := hA2.row.frozen (k * 3); have zz4 := hA2.row.frozen (k * 3 + 1); have zz5 := hA2.row.frozen (k * 3 + 2); have hgv2 := hA2.row.lt; obtain ⟨t1, k1, f1, t2, k2, f2, hv1, hv2, r1, r2, qa, qb⟩ := hans rfl; cases hv1; cases hv2; have HT : Hid (∃ f', APick (((w2.setCell ⟨w.heap.size, k * 3, none⟩ (.bool false)).setCell ⟨w.heap.size, k * 3 + 1, none⟩ (.slice (some t1) j1 l1)).setCell ⟨w.heap.size, k * 3 + 2, none⟩ (.slice x2 j2 l2)) w.heap.size np (k + 1) sh ps f') := three_set (unhide HAV) hVW2 (by rw [← unhide HPK1]; exact r1) (by rw [← unhide HPK2]; exact r2) (fun hh => by rcases qa _ hh with h | h; (have := unhide HA1 _ h; omega); (simp at h; omega)) (fun hh => by rcases qb _ hh with h | h; (have := unhide HA2 _ h; omega); (simp at h; omega)); have HW2 := hide ((unhide HVW).trans (hVW2.mono (unhide HVW).size)); clear hans hA2 r1 r2 qa qb))
    all_goals go_wp2_with fail
    all_goals (go_roundw; (case rel => exact ⟨k + 1, by omega, by go_num, (by first | exact unhide HT | exact (unhide HT).imp (fun f h => h.below (Nat.le_refl _) (Below.refl _ _).drew)), unhide HFK, (by first | exact (((unhide HW2).setCell (p := ⟨w.heap.size, k * 3, none⟩) (Nat.le_refl _) _).setCell (p := ⟨w.heap.size, k * 3 + 1, none⟩) (Nat.le_refl _) _).setCell (p := ⟨w.heap.size, k * 3 + 2, none⟩) (Nat.le_refl _) _ | exact ((((unhide HW2).setCell (p := ⟨w.heap.size, k * 3, none⟩) (Nat.le_refl _) _).setCell (p := ⟨w.heap.size, k * 3 + 1, none⟩) (Nat.le_refl _) _).setCell (p := ⟨w.heap.size, k * 3 + 2, none⟩) (Nat.le_refl _) _).drew)⟩); (case measure => simp [intOf]; omega))
end Go.Proofs.YtgjpchnkodnieaaGreatDoor
namespace Go.Proofs.YtgjpchnkodnieaaGreatDoor
open Go.RowKit
set_option maxHeartbeats 2000000 in
theorem DrawPlaces_any (a : Option Addr) (n c : Nat) (w : World) (h : Bytes w a n) (hc : n ≤ c) (hn : n ≤ 1048576) :
    Calls Tryz.prog 24 #[.slice a n c] w fun e w' => ∃ (c : Int) (a1 a2 : Addr) (n1 n2 c1 c2 : Nat) (sh st : List Int) (cells : Int), e = .returned (.tuple #[.agg #[.int .i64 c, .slice (some a1) n1 c1, .slice (some a2) n2 c2], .int .i64 cells]) ∧ Row w' (some a1) n1 sh ∧ Row w' (some a2) n2 st ∧ n1 ≤ 6 ∧ n2 ≤ 6 ∧ Below w.heap.size w w' := by
  have hb0 : Below w.heap.size w (w.alloc (.cells #[.int .i64 0, .slice none 0 0, .slice none 0 0] 46)) := (Below.refl _ w).alloc (Nat.le_refl _) _
  have HP0 : Hid (VBox (w.alloc (.cells #[.int .i64 0, .slice none 0 0, .slice none 0 0] 46)) w.heap.size 0 (.slice none 0 0) (.slice none 0 0)) := VBox.new w _ _ _
  have hcall := l1Open_any a n c _ (h.below hb0) hc hn
  have HB0 := hide hb0
  clear h hb0
  go_enter Tryz.func24, Tryz.ntmps24
  go_wp2_with (first
    | (go_at_call 44; refine hcall.mono ?_; rintro e w1 ⟨pr, rfl, hr1, hpr, hb1⟩; have HR1 := hide hr1; have HB1 := hide hb1; have hprz := hpr; clear hr1 hb1 hpr hcall)
    | (go_at_call 79; refine (l7View_any pr w1 (unhide HR1)).mono ?_; rintro e w2 ⟨⟨k, a1, a2, n1, n2, c1, c2, sh, dt, cells, rfl, o1, o2, h1, h2⟩, _, hb2⟩; have HO1 := hide o1; have HO2 := hide o2; have HB2 := hide hb2; clear o1 o2 hb2; have HP2 := hide (((unhide HP0).below (by simp) (unhide HB1)).but (unhide HB2) (by simp at hprz; show ¬ w.heap.size = pr; omega)); clear HP0; obtain ⟨y0, y1, y2, y3, y4, y5, y6⟩ := (unhide HP2).all))
  have hx := (unhide HP2).sets (c' := k) (u1 := .slice (some a1) n1 c1) (u2 := .slice (some a2) n2 c2)
  obtain ⟨r0, r1, r2, _, _, _⟩ := hx.all
  refine bodyPost_ret (v := .tuple #[.agg #[.int .i64 k, .slice (some a1) n1 c1, .slice (some a2) n2 c2], .int .i64 cells]) (by simp [results, Tryz.results24, go_sem, r0, r1, r2]) rfl ?_
  have hz1 := (unhide HB1).size
  simp at hz1 hprz
  have hs : But (fun x => x = w.heap.size) w2 (((w2.setCell ⟨w.heap.size, 0, none⟩ (.int .i64 k)).setCell ⟨w.heap.size, 1, none⟩ (.slice (some a1) n1 c1)).setCell ⟨w.heap.size, 2, none⟩ (.slice (some a2) n2 c2)) := (((But.refl (fun x => x = w.heap.size) w2).setCell (p := ⟨w.heap.size, 0, none⟩) rfl _).setCell (p := ⟨w.heap.size, 1, none⟩) rfl _).setCell (p := ⟨w.heap.size, 2, none⟩) rfl _
  have hn1 : ∀ k, At (some a1) n1 k → k ≠ w.heap.size := fun k hk e => by have := (unhide HO1).low hk; omega
  have hn2 : ∀ k, At (some a2) n2 k → k ≠ w.heap.size := fun k hk e => by have := (unhide HO2).low hk; omega
  have hlow : Below w.heap.size w w2 := by
    have h01 := (unhide HB0).trans ((unhide HB1).mono (by simp))
    refine h01.trans ⟨(unhide HB2).os, (unhide HB2).tape, (unhide HB2).output, (unhide HB2).size, fun k hk => (unhide HB2).block k (by omega) (by show ¬ k = pr; omega)⟩
  exact ⟨k, a1, a2, n1, n2, c1, c2, sh, dt, cells, rfl, (hs.own (unhide HO1) (by rintro k rfl hk; exact hn1 _ hk rfl)).row, (hs.own (unhide HO2) (by rintro k rfl hk; exact hn2 _ hk rfl)).row, h1, h2, ((hlow.setCell (p := ⟨w.heap.size, 0, none⟩) (Nat.le_refl _) _).setCell (p := ⟨w.heap.size, 1, none⟩) (Nat.le_refl _) _).setCell (p := ⟨w.heap.size, 2, none⟩) (Nat.le_refl _) _⟩
end Go.Proofs.YtgjpchnkodnieaaGreatDoor
