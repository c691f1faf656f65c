import Derived.Test.YtadbhidpmihghaaImplLayOf
import Derived.Test.YtadbhidpmihghaaImplClone
import Derived.Test.YtadbhidpmihghaaSpecAnswer
import Derived.Test.YtadbhidpmihghaaVGot
import Derived.Deep.RegionHeld3
import Derived.Deep.DeepCutAuto
namespace Go.Proofs.Ytadbhidpmihghaa
open Go.RowKit

/-- What an impl function's answer of a view and a truth is. -/
def GivesVO (w : World) (r : VAns) (e : Ending) (w' : World) : Prop :=
  ∃ b1 m1 d1 b2 m2 d2, e = .returned (.tuple #[.agg #[.int .i64 r.c, .slice b1 m1 d1, .slice b2 m2 d2], .bool r.code]) ∧ Own w' w.heap.size b1 m1 r.sh ∧ Own w' w.heap.size b2 m2 r.dt ∧ Apart b1 m1 b2 m2 ∧ Below w.heap.size w w'

theorem own_nil (w : World) (B : Nat) (a : Option Addr) : Own w B a 0 [] := ⟨rfl, by omega, .inl rfl⟩

theorem givesV_none {w w' : World} (h : Below w.heap.size w w') : GivesVO w noView (.returned (.tuple #[.agg #[.int .i64 0, .slice none 0 0, .slice none 0 0], .bool false])) w' :=
  ⟨none, 0, 0, none, 0, 0, rfl, own_nil _ _ _, own_nil _ _ _, fun _ h => absurd rfl h.1, h⟩

/-- A box of the call's own holds a view, its lists copies. -/
def GotL (W : World) (c : Int) (sh st : List Int) (n : Nat) (v : Value) (wx : World) : Prop :=
  ∃ pb b1 d1 b2 d2, v = .pointer (some ⟨pb, 0, none⟩) ∧ W.heap.size ≤ pb ∧ VBox wx pb c (.slice b1 n d1) (.slice b2 n d2) ∧ Own wx W.heap.size b1 n sh ∧ Own wx W.heap.size b2 n st ∧ Apart b1 n b2 n ∧ ¬ At b1 n pb ∧ ¬ At b2 n pb ∧ Below W.heap.size W wx

theorem GotL.new {W wB : World} {c : Int} {sh st : List Int} {n d1 d2 : Nat} {b1 b2 : Option Addr} (h1 : Own wB W.heap.size b1 n sh) (h2 : Own wB W.heap.size b2 n st) (ha : Apart b1 n b2 n) (hb : Below W.heap.size W wB) :
    GotL W c sh st n (.pointer (some ⟨wB.heap.size, 0, none⟩)) (wB.alloc (.cells #[.int .i64 c, .slice b1 n d1, .slice b2 n d2] 24)) :=
  ⟨wB.heap.size, b1, d1, b2, d2, rfl, hb.size, VBox.new wB c _ _, h1.alloc _, h2.alloc _, ha, fun h => by have := h1.row.hi h; omega, fun h => by have := h2.row.hi h; omega, hb.alloc hb.size _⟩

theorem GotL.sets {W wB : World} {c : Int} {sh st : List Int} {n d1 d2 pb : Nat} {b1 b2 : Option Addr} {z : Int} {z1 z2 : Value} (hp : W.heap.size ≤ pb) (hv : VBox wB pb z z1 z2) (h1 : Own wB W.heap.size b1 n sh) (h2 : Own wB W.heap.size b2 n st) (ha : Apart b1 n b2 n) (n1 : ∀ x, At b1 n x → x ≠ pb) (n2 : ∀ x, At b2 n x → x ≠ pb) (hb : Below W.heap.size W wB) :
    GotL W c sh st n (.pointer (some ⟨pb, 0, none⟩)) (((wB.setCell ⟨pb, 0, none⟩ (.int .i64 c)).setCell ⟨pb, 1, none⟩ (.slice b1 n d1)).setCell ⟨pb, 2, none⟩ (.slice b2 n d2)) :=
  ⟨pb, b1, d1, b2, d2, rfl, hp, hv.sets, ((h1.other (q := ⟨pb, 0, none⟩) n1 _).other (q := ⟨pb, 1, none⟩) n1 _).other (q := ⟨pb, 2, none⟩) n1 _, ((h2.other (q := ⟨pb, 0, none⟩) n2 _).other (q := ⟨pb, 1, none⟩) n2 _).other (q := ⟨pb, 2, none⟩) n2 _, ha, fun h => n1 _ h rfl, fun h => n2 _ h rfl, ((hb.setCell (p := ⟨pb, 0, none⟩) hp _).setCell (p := ⟨pb, 1, none⟩) hp _).setCell (p := ⟨pb, 2, none⟩) hp _⟩

theorem vl_boxA (w : World) {wC : World} (h : Below (w.drew.alloc (boxV (.slice none 0 0) (.slice none 0 0))).heap.size (w.drew.alloc (boxV (.slice none 0 0) (.slice none 0 0))) wC) : VBox wC w.heap.size 0 (.slice none 0 0) (.slice none 0 0) := (VBox.new w.drew 0 _ _).below (Nat.le_refl _) h
theorem vl_boxB (w : World) {wC : World} (h : Below (w.alloc (boxV (.slice none 0 0) (.slice none 0 0))).heap.size (w.alloc (boxV (.slice none 0 0) (.slice none 0 0))) wC) : VBox wC w.heap.size 0 (.slice none 0 0) (.slice none 0 0) := (VBox.new w 0 _ _).below (Nat.le_refl _) h

theorem apart_of {wA wB : World} {B n : Nat} {b1 b2 : Option Addr} {sh st : List Int} (h1 : Own wA B b1 n sh) (h2 : Own wB wA.heap.size b2 n st) : Apart b1 n b2 n := fun k k1 k2 => by
  have := h1.row.hi k1
  have := h2.low k2
  omega

set_option maxHeartbeats 2000000 in
theorem lshape_any (f : Nat → Int) (c : Int) (n : Nat) (sh : List Int) (w : World) (hn : sh.length = n) (h5 : n ≤ 5) (h0 : f 0 = c) (h1 : f 1 = (n : Int)) (hq : ∀ i, i < n → f (2 + i) = sh.getD i 0) :
    Calls Try.prog 52 #[.agg #[.int .i64 c, .int .i64 (n : Int), .int .i64 (f 2), .int .i64 (f 3), .int .i64 (f 4), .int .i64 (f 5), .int .i64 (f 6), .int .i64 (f 7), .int .i64 (f 8), .int .i64 (f 9), .int .i64 (f 10), .int .i64 (f 11)]] w fun e w' => ∃ b d, e = .returned (.slice b n d) ∧ Own w' w.heap.size b n sh ∧ Below w.heap.size w w' := by
  have HL : Hid (LBox (w.alloc (.cells #[.int .i64 c, .int .i64 (n : Int), .int .i64 (f 2), .int .i64 (f 3), .int .i64 (f 4), .int .i64 (f 5), .int .i64 (f 6), .int .i64 (f 7), .int .i64 (f 8), .int .i64 (f 9), .int .i64 (f 10), .int .i64 (f 11)] 47)) w.heap.size f) := by
    have h := LBox.new w f
    rw [h0, h1] at h
    exact h
  have HQ := hide hq
  have HN := hide hn
  have h5i : (n : Int) ≤ 5 := by omega
  have h0i : (0 : Int) ≤ n := by omega
  clear h0 h1 hq hn
  go_enter Try.func52, Try.ntmps52
  go_wp2_with fail
  refine (Clone_any ⟨w.heap.size, 2, none⟩ n 5 sh _ ((unhide HL).row sh (unhide HN) 2 (by omega) (unhide HQ))).mono ?_
  rintro e wA ⟨b1, d1, rfl, _, hOA, hbA⟩
  have HO := hide (hOA.mono (B' := w.heap.size) (by simp))
  have HB := hide (((Below.refl w.heap.size w).alloc (Nat.le_refl _) (.cells #[.int .i64 c, .int .i64 (n : Int), .int .i64 (f 2), .int .i64 (f 3), .int .i64 (f 4), .int .i64 (f 5), .int .i64 (f 6), .int .i64 (f 7), .int .i64 (f 8), .int .i64 (f 9), .int .i64 (f 10), .int .i64 (f 11)] 47)).trans (hbA.mono (by simp)))
  clear hOA hbA
  go_wp2_with fail
  go_ret
  exact ⟨_, _, rfl, unhide HO, unhide HB⟩

set_option maxRecDepth 20000 in
set_option maxHeartbeats 4000000 in
theorem view_any (c : Int) (sh st : List Int) (w : World) (h5 : sh.length ≤ 5) (hls : st.length = sh.length) :
    Calls Try.prog 34 #[lay (fl c sh st)] w (GivesVO w (answerOf c sh st)) := by
  obtain ⟨n, hn⟩ : ∃ n, sh.length = n := ⟨_, rfl⟩
  rw [hn] at h5 hls
  have HN := hide hn
  have HS := hide hls
  have H0 : Hid (fl c sh st 0 = c) := rfl
  have H1 : Hid (fl c sh st 1 = (n : Int)) := by show _ = _; rw [fl_1, hn]
  have HQ1 : Hid (∀ i, i < n → fl c sh st (2 + i) = sh.getD i 0) := fun i hi => fl_len c sh st (by omega)
  have HQ2 : Hid (∀ i, i < n → fl c sh st (7 + i) = st.getD i 0) := fun i hi => fl_str c sh st i
  clear hn hls
  generalize fl c sh st = f at *
  obtain ⟨W, hW⟩ : ∃ W, ((w.alloc (.cells #[.int .i64 (f 0), .int .i64 (f 1), .int .i64 (f 2), .int .i64 (f 3), .int .i64 (f 4), .int .i64 (f 5), .int .i64 (f 6), .int .i64 (f 7), .int .i64 (f 8), .int .i64 (f 9), .int .i64 (f 10), .int .i64 (f 11)] 47)).alloc (.cells #[.int .i64 0, .slice none 0 0, .slice none 0 0] 24)) = W := ⟨_, rfl⟩
  have hsz : W.heap.size = w.heap.size + 2 := by rw [← hW]; simp
  have HL : Hid (LBox W w.heap.size f) := by rw [← hW]; exact (LBox.new w f).alloc _
  have HV : Hid (VBox W (w.heap.size + 1) 0 (.slice none 0 0) (.slice none 0 0)) := by
    rw [← hW]
    have := VBox.new (w.alloc (.cells #[.int .i64 (f 0), .int .i64 (f 1), .int .i64 (f 2), .int .i64 (f 3), .int .i64 (f 4), .int .i64 (f 5), .int .i64 (f 6), .int .i64 (f 7), .int .i64 (f 8), .int .i64 (f 9), .int .i64 (f 10), .int .i64 (f 11)] 47)) 0 (.slice none 0 0) (.slice none 0 0)
    rwa [World.size_alloc] at this
  have HB : Hid (Below w.heap.size w W) := by rw [← hW]; exact ((Below.refl _ _).alloc (Nat.le_refl _) _).alloc (by simp) _
  have HR1 : Hid (∀ wx, Below W.heap.size W wx → Row wx (some ⟨w.heap.size, 2, none⟩) n sh) := fun wx h => ((unhide HL).below (Nat.le_refl _) h).row sh (unhide HN) 2 (by omega) (unhide HQ1)
  have HR2 : Hid (∀ wx, Below W.heap.size W wx → Row wx (some ⟨w.heap.size, 7, none⟩) n st) := fun wx h => ((unhide HL).below (Nat.le_refl _) h).row st (unhide HS) 7 (by omega) (unhide HQ2)
  have HKEEP : ∀ wx, Below W.heap.size W wx → Below W.heap.size W wx ∧ wx.cell? ⟨w.heap.size, 0, none⟩ = some (.int .i64 c) ∧ wx.cell? ⟨w.heap.size, 1, none⟩ = some (.int .i64 n) ∧ wx.cell? ⟨w.heap.size, 2, none⟩ = some (.int .i64 (f 2)) ∧ wx.cell? ⟨w.heap.size, 3, none⟩ = some (.int .i64 (f 3)) ∧ wx.cell? ⟨w.heap.size, 4, none⟩ = some (.int .i64 (f 4)) ∧ wx.cell? ⟨w.heap.size, 5, none⟩ = some (.int .i64 (f 5)) ∧ wx.cell? ⟨w.heap.size, 6, none⟩ = some (.int .i64 (f 6)) ∧ wx.cell? ⟨w.heap.size, 7, none⟩ = some (.int .i64 (f 7)) ∧ wx.cell? ⟨w.heap.size, 8, none⟩ = some (.int .i64 (f 8)) ∧ wx.cell? ⟨w.heap.size, 9, none⟩ = some (.int .i64 (f 9)) ∧ wx.cell? ⟨w.heap.size, 10, none⟩ = some (.int .i64 (f 10)) ∧ wx.cell? ⟨w.heap.size, 11, none⟩ = some (.int .i64 (f 11)) := fun wx h => ⟨h, (by have := ((unhide HL).below (Nat.le_refl _) h).at (i := 0) (by omega); rwa [unhide H0] at this), (by have := ((unhide HL).below (Nat.le_refl _) h).at (i := 1) (by omega); rwa [unhide H1] at this), ((unhide HL).below (Nat.le_refl _) h).at (i := 2) (by omega), ((unhide HL).below (Nat.le_refl _) h).at (i := 3) (by omega), ((unhide HL).below (Nat.le_refl _) h).at (i := 4) (by omega), ((unhide HL).below (Nat.le_refl _) h).at (i := 5) (by omega), ((unhide HL).below (Nat.le_refl _) h).at (i := 6) (by omega), ((unhide HL).below (Nat.le_refl _) h).at (i := 7) (by omega), ((unhide HL).below (Nat.le_refl _) h).at (i := 8) (by omega), ((unhide HL).below (Nat.le_refl _) h).at (i := 9) (by omega), ((unhide HL).below (Nat.le_refl _) h).at (i := 10) (by omega), ((unhide HL).below (Nat.le_refl _) h).at (i := 11) (by omega)⟩
  have h5i : (n : Int) ≤ 5 := by omega
  have h0i : (0 : Int) ≤ n := by omega
  go_enter Try.func34, Try.ntmps34
  go_upto_region 1 with fail
  try rw [hW]
  clear hW
  have hz0 : w.heap.size < W.heap.size := by omega
  have hz1 : w.heap.size + 1 < W.heap.size := by omega
  clear hsz
  go_cut [4] (fun v wx => GotL W c sh st n v wx)
  case first =>
    go_region_held3 (fun wx => Below W.heap.size W wx ∧ wx.cell? ⟨w.heap.size, 0, none⟩ = some (.int .i64 c) ∧ wx.cell? ⟨w.heap.size, 1, none⟩ = some (.int .i64 n) ∧ wx.cell? ⟨w.heap.size, 2, none⟩ = some (.int .i64 (f 2)) ∧ wx.cell? ⟨w.heap.size, 3, none⟩ = some (.int .i64 (f 3)) ∧ wx.cell? ⟨w.heap.size, 4, none⟩ = some (.int .i64 (f 4)) ∧ wx.cell? ⟨w.heap.size, 5, none⟩ = some (.int .i64 (f 5)) ∧ wx.cell? ⟨w.heap.size, 6, none⟩ = some (.int .i64 (f 6)) ∧ wx.cell? ⟨w.heap.size, 7, none⟩ = some (.int .i64 (f 7)) ∧ wx.cell? ⟨w.heap.size, 8, none⟩ = some (.int .i64 (f 8)) ∧ wx.cell? ⟨w.heap.size, 9, none⟩ = some (.int .i64 (f 9)) ∧ wx.cell? ⟨w.heap.size, 10, none⟩ = some (.int .i64 (f 10)) ∧ wx.cell? ⟨w.heap.size, 11, none⟩ = some (.int .i64 (f 11)))
      (first | exact HKEEP _ hKB | exact HKEEP _ (hKB.alloc hKB.size _) | exact HKEEP _ hKA | exact HKEEP _ (hKA.alloc hKA.size _) | exact HKEEP _ (Below.refl _ _).drew | exact HKEEP _ ((Below.refl _ _).drew.alloc (by simp) _) | exact HKEEP _ (((hKB.setCell (by first | exact Nat.le_refl _ | exact hKA.size) _).setCell (by first | exact Nat.le_refl _ | exact hKA.size) _).setCell (by first | exact Nat.le_refl _ | exact hKA.size) _))
      (first
      | (go_at_call 52; go_loud (refine (lshape_any f c n sh _ (unhide HN) h5 (unhide H0) (unhide H1) (unhide HQ1)).mono ?_); rintro e wA ⟨b1, d1, rfl, hOA, hbA⟩; have hKA : Below W.heap.size W wA := (by refine Below.trans ?_ (hbA.mono (by first | exact Nat.le_refl _ | (simp <;> omega))); first | exact (Below.refl _ _).drew | exact ((Below.refl _ _).drew.alloc (by simp) _)); have HOA0 := hide hOA; have HOA : Hid (Own wA W.heap.size b1 n sh) := hOA.mono (by first | exact Nat.le_refl _ | (simp <;> omega)); (first | (have PA := hide (vl_boxA W hbA)) | skip); clear hOA hbA)
      | (go_at_call 53; go_loud (refine (Clone_any ⟨w.heap.size, 7, none⟩ n 5 st _ (by first | exact unhide HR2 _ hKA | exact unhide HR2 _ (hKA.alloc hKA.size _))).mono ?_); rintro e wB ⟨b2, d2, rfl, _, hOB, hbB⟩; have hKB : Below W.heap.size W wB := (by refine Below.trans ?_ (hbB.mono (by first | exact hKA.size | (have := hKA.size; simp <;> omega))); first | exact hKA | exact (hKA.alloc hKA.size _)); have HOB0 := hide hOB; have HOB : Hid (Own wB wA.heap.size b2 n st) := hOB.mono (by first | exact Nat.le_refl _ | (simp <;> omega)); have HOA' : Hid (Own wB W.heap.size b1 n sh) := (by first | exact (unhide HOA).below (Nat.le_refl _) hbB | exact ((unhide HOA).alloc _).below (Nat.le_refl _) hbB); (first | (have PB := hide ((unhide PA).below (Nat.le_refl _) hbB)) | (have PC := hide (vl_boxB wA hbB)) | skip); (first | (obtain ⟨r0, r1, r2, r3, r4, r5, r6⟩ := (unhide PB).all) | (obtain ⟨r0, r1, r2, r3, r4, r5, r6⟩ := (unhide PC).all) | skip); clear hOB hbB))
    all_goals go_wp2_with fail
    all_goals go_meet
    · exact GotL.new (unhide HOA') ((unhide HOB).mono hKA.size) (apart_of (unhide HOA) (unhide HOB)) hKB
    · exact GotL.sets hKA.size (unhide PC) (unhide HOA') ((unhide HOB).mono hKA.size) (apart_of (unhide HOA) (unhide HOB)) (fun x hx => by have := (unhide HOA).row.hi hx; omega) (fun x hx => by have := (unhide HOB0).low hx; simp at this; omega) hKB
    · exact GotL.sets (Nat.le_refl _) (unhide PB) (unhide HOA') ((unhide HOB).mono hKA.size) (apart_of (unhide HOA) (unhide HOB)) (fun x hx => by have := (unhide HOA0).low hx; simp at this; omega) (fun x hx => by have := (unhide HOB).low hx; have := (unhide PA).lt; omega) hKB
  case rest =>
    obtain ⟨w3, hw3⟩ : ∃ x, x = wc := ⟨_, rfl⟩
    subst hw3
    obtain ⟨pb, b1, d1, b2, d2, rfl, hpb, hv, ho1, ho2, hap, hn1, hn2, hb3⟩ := hcut
    obtain ⟨r, hr⟩ : ∃ r, formed c sh st = r := ⟨_, rfl⟩
    have HR := hide hr
    have hcf := isFormed_eq c b1 b2 n n d1 d2 sh st w3 ho1.row ho2.row r HR
    have HV3 := hide hv
    have HO1 := hide ho1
    have HO2 := hide ho2
    have HAP := hide hap
    have HZ3 := hide ((unhide HV).below (Nat.le_refl _) hb3)
    have HB3 := hide ((unhide HB).trans (hb3.mono (unhide HB).size))
    obtain ⟨x0, x1, x2, x3, x4, x5, x6⟩ := hv.all
    have hwl := (unhide HB).size
    clear hr hv ho1 ho2 hap hb3 HV HB HL HR1 HR2 HKEEP HQ1 HQ2 H0 H1 hn1 hn2
    go_wp2_with fail
    refine hcf.mono ?_
    rintro e w5 ⟨rfl, hb5⟩
    have HO1' := hide ((unhide HO1).below (Nat.le_refl _) hb5)
    have HO2' := hide ((unhide HO2).below (Nat.le_refl _) hb5)
    have HB5 := hide ((unhide HB3).trans (hb5.mono (unhide HB3).size))
    obtain ⟨y0, y1, y2, y3, y4, y5, y6⟩ := ((unhide HV3).below (Nat.le_refl _) hb5).all
    obtain ⟨z0, z1, z2, z3, z4, z5, z6⟩ := ((unhide HZ3).below (Nat.le_refl _) hb5).all
    clear x0 x1 x2 x3 x4 x5 x6 hcf HV3 HZ3 HO1 HO2 HB3 hb5 w3
    cases r with
    | false =>
      have HS : Hid (answerOf c sh st = noView) := by show _ = _; unfold answerOf; rw [if_neg (by rw [unhide HR]; simp)]
      go_wp2
      refine bodyPost_ret (v := .tuple #[.agg #[.int .i64 0, .slice none 0 0, .slice none 0 0], .bool false]) (by simp [results, Try.results34, go_sem, z0, z1, z2]) rfl ?_
      rw [unhide HS]
      exact givesV_none ((((unhide HB5).setCell (by simp <;> omega) _).setCell (by simp <;> omega) _).setCell (by simp <;> omega) _)
    | true =>
      have HS : Hid (answerOf c sh st = ⟨c, sh, st, true⟩) := by show _ = _; unfold answerOf; rw [if_pos (unhide HR)]
      go_wp2
      refine bodyPost_ret (v := .tuple #[.agg #[.int .i64 c, .slice b1 n d1, .slice b2 n d2], .bool true]) (by simp [results, Try.results34, go_sem, z0, z1, z2]) rfl ?_
      rw [unhide HS]
      have k1 : ∀ x, At b1 n x → x ≠ w.heap.size + 1 := fun x hx => by have := (unhide HO1').low hx; omega
      have k2 : ∀ x, At b2 n x → x ≠ w.heap.size + 1 := fun x hx => by have := (unhide HO2').low hx; omega
      exact ⟨b1, n, d1, b2, n, d2, rfl, ((((unhide HO1').mono (by omega)).other k1 _).other k1 _).other k1 _, ((((unhide HO2').mono (by omega)).other k2 _).other k2 _).other k2 _, unhide HAP, (((unhide HB5).setCell (by simp <;> omega) _).setCell (by simp <;> omega) _).setCell (by simp <;> omega) _⟩

end Go.Proofs.Ytadbhidpmihghaa
