import Derived.Test.YtngbmcljhcckmaaMFirst
import Derived.Test.YtngbmcljhcckmaaMFirst
import Derived.Test.YtngbmcljhcckmaaMFirst
import Derived.Test.YtngbmcljhcckmaaMFirst
import Derived.Test.YtngbmcljhcckmaaImplTakeW
import Derived.Test.YtngbmcljhcckmaaImplDropW
import Derived.Deep.RegionHeld
namespace Go.Proofs.Ytngbmcljhcckmaa
open Go.RowKit

/-- What is asked of impl.Catenate. -/
def CatOk : Prop := ∀ (c d : Bool) (a1 a2 b1 b2 : Addr) (n1 n2 m1 m2 c1 c2 d1 d2 : Nat) (sh dt sh' dt' : List Int) (w : World) (_ : Row w (some a1) n1 sh) (_ : Row w (some a2) n2 dt) (_ : Row w (some b1) m1 sh') (_ : Row w (some b2) m2 dt') (_ : n1 ≤ c1) (_ : n2 ≤ c2) (_ : m1 ≤ d1) (_ : m2 ≤ d2),
    Calls Try.prog 24 #[.agg #[.bool c, .slice (some a1) n1 c1, .slice (some a2) n2 c2], .agg #[.bool d, .slice (some b1) m1 d1, .slice (some b2) m2 d2]] w (GivesOwn w (catenate c d sh dt sh' dt'))

set_option maxRecDepth 20000 in
set_option maxHeartbeats 8000000 in
theorem law_cut (hcat : CatOk) (a : Option Addr) (n c : Nat) (w : World) (hby : Bytes w a n) (hc : n ≤ c) (hn : n ≤ 1048576) :
    Calls Try.prog 5 #[.slice a n c] w fun e w' => e = .returned (.bool true) ∧ Below w.heap.size w w' := by
  have HCAT := hide hcat
  clear hcat
  have hcall := DrawShow_any a n c w hby hc hn
  have hnz : ¬ (1048576 : Int) < (n : Int) := by omega
  clear hby hc
  go_enter Try.func5, Try.ntmps5
  go_upto_region 4 with (go_at_call 18; refine hcall.mono ?_; rintro e w1 ⟨d, a1, a2, n1, n2, c1, c2, sh, dt, rfl, o1, o2, h1, h2, hb1⟩; have HO1 := hide o1; have HO2 := hide o2; have HB1 := hide hb1; clear o1 o2 hb1)
  clear hcall
  obtain ⟨W2, hW2⟩ : ∃ W, W = w1.alloc (.cells #[.bool d, .slice (some a1) n1 c1, .slice (some a2) n2 c2] 26) := ⟨_, rfl⟩
  obtain ⟨P, hP⟩ : ∃ P, P = w1.heap.size := ⟨_, rfl⟩
  have HX2 : Hid (Box W2 P d (.slice (some a1) n1 c1) (.slice (some a2) n2 c2)) := by rw [hW2, hP]; exact Box.new w1 _ _ _
  have HB2 : Hid (Below w.heap.size w W2) := by rw [hW2]; exact (unhide HB1).alloc (unhide HB1).size _
  have R1 : Hid (Row W2 (some a1) n1 sh) := by rw [hW2]; exact ((unhide HO1).alloc _).row
  have R2 : Hid (Row W2 (some a2) n2 dt) := by rw [hW2]; exact ((unhide HO2).alloc _).row
  have hPw : w.heap.size ≤ P := by rw [hP]; exact (unhide HB1).size
  rw [← hW2, ← hP]
  clear hW2 hP HO1 HO2 HB1
  obtain ⟨y0, y1, y2, y3, y4, y5, y6⟩ := (unhide HX2).all
  obtain ⟨r, hr⟩ : ∃ r, arrOk d sh dt = r := ⟨_, rfl⟩
  have HR := hide hr
  clear hr
  cases r with
  | false =>
    go_wp2_with (go_at_call 19; refine (ArrayOk_eq _ _ _ _ _ _ _ sh dt _ (unhide R1) (unhide R2) _ HR).mono ?_; rintro e w3 ⟨rfl, hb3⟩; have HB3 := hide ((unhide HB2).trans (hb3.mono (unhide HB2).size)); clear hb3)
    exact bodyPost_ret (v := .bool true) (by simp [results, Try.results5, go_sem]) rfl ⟨rfl, unhide HB3⟩
  | true =>
    obtain ⟨hN, hall⟩ := ok_parts (unhide HR)
    have hlen := (unhide R2).len
    rw [hlen] at hN
    obtain ⟨k, hk⟩ : ∃ k, k = n % (n2 + 1) := ⟨_, rfl⟩
    have hkn : k ≤ n2 := by have := Nat.mod_lt n (show 0 < n2 + 1 by omega); omega
    obtain ⟨M, hM⟩ : ∃ M : Nat, M = n2 + 1 := ⟨_, rfl⟩
    have hsum : (n2 : Int) + 1 = (M : Int) := by omega
    have hwM : IntKind.i64.wrap (M : Int) = (M : Int) := by rw [IntKind.wrap_i64]; omega
    have hq1 : (n : Int).tmod (M : Int) = (k : Int) := by rw [Int.tmod_eq_emod_of_nonneg (by omega), hk, hM]; rfl
    have hq2 : (n : Int) % (M : Int) = (k : Int) := by rw [hk, hM]; rfl
    have hM0 : ¬ (M : Int) = 0 := by omega
    have hM1 : ¬ M = 0 := by omega
    have hwk : IntKind.i64.wrap (k : Int) = (k : Int) := by rw [IntKind.wrap_i64]; omega
    have hwng : IntKind.i64.wrap (-(k : Int)) = -(k : Int) := by rw [IntKind.wrap_i64]; omega
    have HALL := hide hall
    have HLEN := hide hlen
    have HKN := hide hkn
    have HN := hide hN
    clear hk hM hall hlen
    go_upto_region 8 with (go_at_call 19; refine (ArrayOk_eq _ _ _ _ _ _ _ sh dt _ (unhide R1) (unhide R2) _ HR).mono ?_; rintro e w3 ⟨rfl, hb3⟩; have HX3 := hide ((unhide HX2).below (Nat.le_refl _) hb3); have HB3 := hide ((unhide HB2).trans (hb3.mono (unhide HB2).size)); have R3 := hide ((unhide R2).below (Nat.le_refl _) hb3); clear hb3 y0 y1 y2 y3 y4 y5 y6; obtain ⟨y0, y1, y2, y3, y4, y5, y6⟩ := (unhide HX3).all)
    obtain ⟨W, hW⟩ : ∃ W, W = (((w3.setCell ⟨P, 0, none⟩ (.bool d)).setCell ⟨P, 1, none⟩ (.slice (some ⟨w3.heap.size, 0, none⟩) 1 1)).setCell ⟨P, 2, none⟩ (.slice (some a2) n2 c2)).alloc (.cells #[.int .i64 (n2 : Nat)] 3) := ⟨_, rfl⟩
    obtain ⟨g, hg⟩ : ∃ g, g = w3.heap.size := ⟨_, rfl⟩
    have HX0 : Hid (Box W P d (.slice (some ⟨g, 0, none⟩) 1 1) (.slice (some a2) n2 c2)) := by rw [hW, hg]; exact (unhide HX3).sets.below (Nat.le_refl _) ((Below.refl _ _).alloc (Nat.le_refl _) _)
    have HB0 : Hid (Below w.heap.size w W) := by
      rw [hW]
      exact ((((unhide HB3).setCell (p := ⟨P, 0, none⟩) hPw _).setCell (p := ⟨P, 1, none⟩) hPw _).setCell (p := ⟨P, 2, none⟩) hPw _).alloc (by simp; exact (unhide HB3).size) _
    have Q1 : Hid (Row W (some ⟨g, 0, none⟩) 1 [(n2 : Int)]) := by
      rw [hW, hg]
      have h := Row.one (((w3.setCell ⟨P, 0, none⟩ (.bool d)).setCell ⟨P, 1, none⟩ (.slice (some ⟨w3.heap.size, 0, none⟩) 1 1)).setCell ⟨P, 2, none⟩ (.slice (some a2) n2 c2)) (n2 : Int)
      have hz : (((w3.setCell ⟨P, 0, none⟩ (.bool d)).setCell ⟨P, 1, none⟩ (.slice (some ⟨w3.heap.size, 0, none⟩) 1 1)).setCell ⟨P, 2, none⟩ (.slice (some a2) n2 c2)).heap.size = w3.heap.size := by simp
      rw [hz] at h
      exact h
    have Q2 : Hid (Row W (some a2) n2 dt) := by rw [hW]; exact ((unhide R3).sets (unhide HX3) _ _ _).alloc _
    rw [← hW, ← hg]
    clear hW hg R1 R2 R3 HX2 HX3 HB2 HB3 y0 y1 y2 y3 y4 y5 y6 hq1 hq2 hM0 hM1 hsum hwM
    have R10 := Q1
    have R20 := Q2
    clear Q1 Q2
    have HOK : Hid (arrOk d [(n2 : Int)] dt = true) := ok_vec (unhide HLEN) hN (unhide HALL)
    have HCF := hide (cut_forth (unhide HLEN) hN (unhide HALL) hkn)
    have HCB := hide (cut_back (unhide HLEN) hN (unhide HALL) hkn)
    have HT := hide (vec_take (unhide HLEN) hN (unhide HOK) hkn)
    have HTN := hide (vec_takeN (unhide HLEN) hN (unhide HOK) hkn)
    have HD := hide (vec_drop (unhide HLEN) hN (unhide HOK) hkn)
    have HDN := hide (vec_dropN (unhide HLEN) hN (unhide HOK) hkn)
    go_cut [5, 6] (fun r6 r7 wr => r7 = .int .i64 0 ∧ ∃ p e1 k1 f1 ad k2 f2, r6 = .pointer (some ⟨p, 0, none⟩) ∧ Box wr p d (.slice e1 k1 f1) (.slice (some ad) k2 f2) ∧ Row wr e1 k1 [(k : Int)] ∧ Row wr (some ad) k2 (dt.take k) ∧ k1 ≤ f1 ∧ k2 ≤ f2 ∧ Below W.heap.size W wr)
    case first =>
      have HKEEP : ∀ wx, Below W.heap.size W wx → Below W.heap.size W wx ∧ wx.cell? ⟨P, 0, none⟩ = some (.bool d) ∧ wx.cell? ⟨P, 1, none⟩ = some (.slice (some ⟨g, 0, none⟩) 1 1) ∧ wx.cell? ⟨P, 2, none⟩ = some (.slice (some a2) n2 c2) := fun wx hwx => ⟨hwx, ((unhide HX0).below (Nat.le_refl _) hwx).cells⟩
      have hK2 := Below.refl W.heap.size W
      have hs2 := (unhide HX0).lt
      have hcells := (unhide HX0).cells
      obtain ⟨y0, y1, y2⟩ := hcells
      go_region_held (fun wx => Below W.heap.size W wx ∧ wx.cell? ⟨P, 0, none⟩ = some (.bool d) ∧ wx.cell? ⟨P, 1, none⟩ = some (.slice (some ⟨g, 0, none⟩) 1 1) ∧ wx.cell? ⟨P, 2, none⟩ = some (.slice (some a2) n2 c2)) (first | exact HKEEP _ hK5 | exact HKEEP _ (((hK5.setCell (by simp <;> omega) _).setCell (by simp <;> omega) _).setCell (by simp <;> omega) _) | exact HKEEP _ (hK5.alloc hK5.size _) | exact HKEEP _ hK4 | exact HKEEP _ (hK4.alloc hK4.size _) | exact HKEEP _ hK3 | exact HKEEP _ (hK3.alloc hK3.size _) | exact HKEEP _ hK2.drew | exact HKEEP _ (hK2.drew.alloc (by simp) _))
        (first
        | (go_at_call 21; refine (lwScalar_any _ _).mono ?_; rintro e w3 ⟨gs, rfl, hOs, hb3⟩; have hK3 : Below W.heap.size W w3 := (by first | exact hK2.drew.trans (hb3.mono (by simp)) | exact (hK2.drew.alloc (by simp) _).trans (hb3.mono (by simp))); (first | have hP3 := (Box.new _ _ _ _).below (Nat.le_refl _) hb3 | have hP3 := (Box.new _ _ _ _).drew.below (Nat.le_refl _) hb3 | skip); have hz3 := hK3.size; have hcx := ((unhide HX0).below (Nat.le_refl _) hK3).cells; obtain ⟨x0, x1, x2⟩ := hcx)
        | (go_at_call 22; refine (lwArray_any d ⟨g, 0, none⟩ a2 1 n2 1 c2 [(n2 : Int)] dt _ (by first | exact (unhide R10).below (Nat.le_refl _) hK3 | exact ((unhide R10).below (Nat.le_refl _) hK3).alloc _) (by first | exact (unhide R20).below (Nat.le_refl _) hK3 | exact ((unhide R20).below (Nat.le_refl _) hK3).alloc _) (by omega) (by omega)).mono ?_; rintro e w4 ⟨g1, g2, d1, d2, rfl, hA1, hA2, hle1, hle2, hb4⟩; have hK4 : Below W.heap.size W w4 := (by first | exact hK3.trans (hb4.mono (by omega)) | exact (hK3.alloc hz3 _).trans (hb4.mono (by simp; omega))); (first | have hP4 := hP3.below (Nat.le_refl _) hb4 | have hP4 := (Box.new _ _ _ _).below (Nat.le_refl _) hb4 | skip); have hOs' : Row w4 (some ⟨gs, 0, none⟩) 1 [(k : Int)] := (by first | exact hOs.row.below (Nat.le_refl _) hb4 | exact (hOs.row.alloc _).below (Nat.le_refl _) hb4); have hz4 := hK4.size; have hcz := ((unhide HX0).below (Nat.le_refl _) hK4).cells; obtain ⟨z0, z1, z2⟩ := hcz)
        | (go_at_call 20; refine (implTake_any false d none (some ⟨gs, 0, none⟩) (some ⟨g1, 0, none⟩) (some ⟨g2, 0, none⟩) 0 1 1 n2 0 1 d1 d2 [] [(k : Int)] [(n2 : Int)] dt _ (own_none _ 0 none).row (by first | exact hOs' | exact hOs'.alloc _) (by first | exact hA1.row | exact hA1.row.alloc _) (by first | exact hA2.row | exact hA2.row.alloc _)).mono ?_; rintro e w5 ⟨e1, k1, f1, e2, k2, f2, rfl, hE1, hE2, hap, hb5, hcp1, hcp2, hsm⟩; (have HR' := unhide HT; rw [HR'] at hE1 hE2 hsm ⊢; simp only at hE1 hE2 hsm ⊢; clear HR'); obtain ⟨ad, rfl⟩ := hsm trivial; have hK5 : Below W.heap.size W w5 := (by first | exact hK4.trans (hb5.mono (by omega)) | exact (hK4.alloc hz4 _).trans (hb5.mono (by simp; omega))); have hF1 := hE1.row; have hF2 := hE2.row; clear hap; (first | (have hP5 := hP4.below (Nat.le_refl _) hb5; obtain ⟨u0, u1, u2, u3, u4, u5, u6⟩ := hP5.free'; (try simp at u0 u1 u2 u3 u4 u5 u6)) | (have hP5 := (Box.new _ _ _ _).below (Nat.le_refl _) hb5; obtain ⟨u0, u1, u2, u3, u4, u5, u6⟩ := hP5.free'; (try simp at u0 u1 u2 u3 u4 u5 u6)) | skip); have hz5 := hK5.size))
      all_goals go_wp2_with fail
      all_goals (go_meet; case rel => first | exact ⟨rfl, _, _, _, _, _, _, _, rfl, hP5.sets, hF1.sets hP5 _ _ _, hF2.sets hP5 _ _ _, hcp1, hcp2, ((hK5.setCell (by simp <;> omega) _).setCell (by simp <;> omega) _).setCell (by simp <;> omega) _⟩ | exact ⟨rfl, _, _, _, _, _, _, _, rfl, Box.new _ _ _ _, hF1.alloc _, hF2.alloc _, hcp1, hcp2, hK5.alloc hK5.size _⟩)
    case rest =>
      obtain ⟨W8, hwc⟩ : ∃ x, x = wc := ⟨_, rfl⟩
      subst hwc
      obtain ⟨rfl, p5, e5, k5, f5, ad5, l5, h5, rfl, hb, hr, hs, hc5, hd5, hK⟩ := hcut
      obtain ⟨b5, o5, ebo, _, _⟩ := hr.get (show 0 < k5 by have := hr.len; simp at this; omega)
      subst ebo
      have BX5 := hide hb
      have RA5 := hide hr
      have RB5 := hide hs
      have HX8 := hide ((unhide HX0).below (Nat.le_refl _) hK)
      have R18 := hide ((unhide R10).below (Nat.le_refl _) hK)
      have R28 := hide ((unhide R20).below (Nat.le_refl _) hK)
      have HB8 := hide ((unhide HB0).trans (hK.mono (unhide HB0).size))
      clear hb hr hs hK HX0 R10 R20 HB0
      go_upto_region 9 with fail
      go_cut [7, 8] (fun r6 r7 wr => r7 = .int .i64 0 ∧ ∃ p e1 k1 f1 ad k2 f2, r6 = .pointer (some ⟨p, 0, none⟩) ∧ Box wr p d (.slice e1 k1 f1) (.slice (some ad) k2 f2) ∧ Row wr e1 k1 [((n2 - k : Nat) : Int)] ∧ Row wr (some ad) k2 (dt.drop k) ∧ k1 ≤ f1 ∧ k2 ≤ f2 ∧ Below W8.heap.size W8 wr)
      case first =>
        have HKEEP : ∀ wx, Below W8.heap.size W8 wx → Below W8.heap.size W8 wx ∧ wx.cell? ⟨P, 0, none⟩ = some (.bool d) ∧ wx.cell? ⟨P, 1, none⟩ = some (.slice (some ⟨g, 0, none⟩) 1 1) ∧ wx.cell? ⟨P, 2, none⟩ = some (.slice (some a2) n2 c2) := fun wx hwx => ⟨hwx, ((unhide HX8).below (Nat.le_refl _) hwx).cells⟩
        have hK2 := Below.refl W8.heap.size W8
        have hs2 := (unhide HX8).lt
        have hcells := (unhide HX8).cells
        obtain ⟨y0, y1, y2⟩ := hcells
        go_region_held (fun wx => Below W8.heap.size W8 wx ∧ wx.cell? ⟨P, 0, none⟩ = some (.bool d) ∧ wx.cell? ⟨P, 1, none⟩ = some (.slice (some ⟨g, 0, none⟩) 1 1) ∧ wx.cell? ⟨P, 2, none⟩ = some (.slice (some a2) n2 c2)) (first | exact HKEEP _ hK5 | exact HKEEP _ (((hK5.setCell (by simp <;> omega) _).setCell (by simp <;> omega) _).setCell (by simp <;> omega) _) | exact HKEEP _ (hK5.alloc hK5.size _) | exact HKEEP _ hK4 | exact HKEEP _ (hK4.alloc hK4.size _) | exact HKEEP _ hK3 | exact HKEEP _ (hK3.alloc hK3.size _) | exact HKEEP _ hK2.drew | exact HKEEP _ (hK2.drew.alloc (by simp) _))
          (first
          | (go_at_call 21; refine (lwScalar_any _ _).mono ?_; rintro e w3 ⟨gs, rfl, hOs, hb3⟩; have hK3 : Below W8.heap.size W8 w3 := (by first | exact hK2.drew.trans (hb3.mono (by simp)) | exact (hK2.drew.alloc (by simp) _).trans (hb3.mono (by simp))); (first | have hP3 := (Box.new _ _ _ _).below (Nat.le_refl _) hb3 | have hP3 := (Box.new _ _ _ _).drew.below (Nat.le_refl _) hb3 | skip); have hz3 := hK3.size; have hcx := ((unhide HX8).below (Nat.le_refl _) hK3).cells; obtain ⟨x0, x1, x2⟩ := hcx)
          | (go_at_call 22; refine (lwArray_any d ⟨g, 0, none⟩ a2 1 n2 1 c2 [(n2 : Int)] dt _ (by first | exact (unhide R18).below (Nat.le_refl _) hK3 | exact ((unhide R18).below (Nat.le_refl _) hK3).alloc _) (by first | exact (unhide R28).below (Nat.le_refl _) hK3 | exact ((unhide R28).below (Nat.le_refl _) hK3).alloc _) (by omega) (by omega)).mono ?_; rintro e w4 ⟨g1, g2, d1, d2, rfl, hA1, hA2, hle1, hle2, hb4⟩; have hK4 : Below W8.heap.size W8 w4 := (by first | exact hK3.trans (hb4.mono (by omega)) | exact (hK3.alloc hz3 _).trans (hb4.mono (by simp; omega))); (first | have hP4 := hP3.below (Nat.le_refl _) hb4 | have hP4 := (Box.new _ _ _ _).below (Nat.le_refl _) hb4 | skip); have hOs' : Row w4 (some ⟨gs, 0, none⟩) 1 [(k : Int)] := (by first | exact hOs.row.below (Nat.le_refl _) hb4 | exact (hOs.row.alloc _).below (Nat.le_refl _) hb4); have hz4 := hK4.size; have hcz := ((unhide HX8).below (Nat.le_refl _) hK4).cells; obtain ⟨z0, z1, z2⟩ := hcz)
          | (go_at_call 23; refine (implDrop_any false d none (some ⟨gs, 0, none⟩) (some ⟨g1, 0, none⟩) (some ⟨g2, 0, none⟩) 0 1 1 n2 0 1 d1 d2 [] [(k : Int)] [(n2 : Int)] dt _ (own_none _ 0 none).row (by first | exact hOs' | exact hOs'.alloc _) (by first | exact hA1.row | exact hA1.row.alloc _) (by first | exact hA2.row | exact hA2.row.alloc _)).mono ?_; rintro e w5 ⟨e1, k1, f1, e2, k2, f2, rfl, hE1, hE2, hap, hb5, hcp1, hcp2, hsm⟩; (have HR' := unhide HD; rw [HR'] at hE1 hE2 hsm ⊢; simp only at hE1 hE2 hsm ⊢; clear HR'); obtain ⟨ad, rfl⟩ := hsm trivial; have hK5 : Below W8.heap.size W8 w5 := (by first | exact hK4.trans (hb5.mono (by omega)) | exact (hK4.alloc hz4 _).trans (hb5.mono (by simp; omega))); have hF1 := hE1.row; have hF2 := hE2.row; clear hap; (first | (have hP5 := hP4.below (Nat.le_refl _) hb5; obtain ⟨u0, u1, u2, u3, u4, u5, u6⟩ := hP5.free'; (try simp at u0 u1 u2 u3 u4 u5 u6)) | (have hP5 := (Box.new _ _ _ _).below (Nat.le_refl _) hb5; obtain ⟨u0, u1, u2, u3, u4, u5, u6⟩ := hP5.free'; (try simp at u0 u1 u2 u3 u4 u5 u6)) | skip); have hz5 := hK5.size))
        all_goals go_wp2_with fail
        all_goals (go_meet; case rel => first | exact ⟨rfl, _, _, _, _, _, _, _, rfl, hP5.sets, hF1.sets hP5 _ _ _, hF2.sets hP5 _ _ _, hcp1, hcp2, ((hK5.setCell (by simp <;> omega) _).setCell (by simp <;> omega) _).setCell (by simp <;> omega) _⟩ | exact ⟨rfl, _, _, _, _, _, _, _, rfl, Box.new _ _ _ _, hF1.alloc _, hF2.alloc _, hcp1, hcp2, hK5.alloc hK5.size _⟩)
      case rest =>
        obtain ⟨W9, hwc⟩ : ∃ x, x = wc := ⟨_, rfl⟩
        subst hwc
        obtain ⟨rfl, p7, e7, k7, f7, ad7, l7, h7, rfl, hb, hr, hs, hc7, hd7, hK⟩ := hcut
        obtain ⟨b7, o7, ebo, _, _⟩ := hr.get (show 0 < k7 by have := hr.len; simp at this; omega)
        subst ebo
        have BX7 := hide hb
        have RA7 := hide hr
        have RB7 := hide hs
        have HX9 := hide ((unhide HX8).below (Nat.le_refl _) hK)
        have R19 := hide ((unhide R18).below (Nat.le_refl _) hK)
        have R29 := hide ((unhide R28).below (Nat.le_refl _) hK)
        have HB9 := hide ((unhide HB8).trans (hK.mono (unhide HB8).size))
        have BX5' := hide ((unhide BX5).below (Nat.le_refl _) hK)
        have RA5' := hide ((unhide RA5).below (Nat.le_refl _) hK)
        have RB5' := hide ((unhide RB5).below (Nat.le_refl _) hK)
        clear hb hr hs hK HX8 R18 R28 HB8 BX5 RA5 RB5
        have BX5 := BX5'
        have RA5 := RA5'
        have RB5 := RB5'
        clear BX5' RA5' RB5'
        obtain ⟨y0, y1, y2, y3, y4, y5, y6⟩ := (unhide BX5).all
        obtain ⟨z0, z1, z2, z3, z4, z5, z6⟩ := (unhide BX7).all
        go_upto_region 11 with (go_at_call 24; refine (unhide HCAT d d ⟨b5, o5, none⟩ ad5 ⟨b7, o7, none⟩ ad7 k5 l5 k7 l7 f5 h5 f7 h7 [(k : Int)] (dt.take k) [((n2 - k : Nat) : Int)] (dt.drop k) _ (unhide RA5) (unhide RB5) (unhide RA7) (unhide RB7) hc5 hd5 hc7 hd7).mono ?_; rintro e wC ⟨e9, k9, f9, ed9, l9, h9, rfl, hE1, hE2, hap, hK⟩; (have HR' := unhide HCF; rw [HR'] at hE1 hE2 ⊢; simp only at hE1 hE2 ⊢; clear HR'); have RC1 := hide hE1.row; have RC2 := hide hE2.row; have HKC := hide hK; clear hap hE1 hE2 hK y0 y1 y2 y3 y4 y5 y6 z0 z1 z2 z3 z4 z5 z6)
        obtain ⟨WA, hW2⟩ : ∃ W2, W2 = wC.alloc (.cells #[.bool d, .slice e9 k9 f9, .slice ed9 l9 h9] 26) := ⟨_, rfl⟩
        obtain ⟨p9, hp9⟩ : ∃ p, p = wC.heap.size := ⟨_, rfl⟩
        have hKA : Below wC.heap.size wC WA := by rw [hW2]; exact (Below.refl _ _).alloc (Nat.le_refl _) _
        have BX9 : Hid (Box WA p9 d (.slice e9 k9 f9) (.slice ed9 l9 h9)) := by rw [hW2, hp9]; exact Box.new wC _ _ _
        have RA9 := hide ((unhide RC1).below (Nat.le_refl _) hKA)
        have RB9 := hide ((unhide RC2).below (Nat.le_refl _) hKA)
        have hK := (unhide HKC).trans (hKA.mono (unhide HKC).size)
        have HXA := hide ((unhide HX9).below (Nat.le_refl _) hK)
        have R1A := hide ((unhide R19).below (Nat.le_refl _) hK)
        have R2A := hide ((unhide R29).below (Nat.le_refl _) hK)
        have HBA := hide ((unhide HB9).trans (hK.mono (unhide HB9).size))
        rw [← hW2, ← hp9]
        clear hW2 hp9 hKA hK HKC RC1 RC2 HX9 R19 R29 HB9 BX5 RA5 RB5 BX7 RA7 RB7
        go_cut [11, 12] (fun r6 r7 wr => r7 = .int .i64 0 ∧ ∃ p e1 k1 f1 ad k2 f2, r6 = .pointer (some ⟨p, 0, none⟩) ∧ Box wr p d (.slice e1 k1 f1) (.slice (some ad) k2 f2) ∧ Row wr e1 k1 [((n2 - k : Nat) : Int)] ∧ Row wr (some ad) k2 (dt.take (n2 - k)) ∧ k1 ≤ f1 ∧ k2 ≤ f2 ∧ Below WA.heap.size WA wr)
        case first =>
          have HKEEP : ∀ wx, Below WA.heap.size WA wx → Below WA.heap.size WA wx ∧ wx.cell? ⟨P, 0, none⟩ = some (.bool d) ∧ wx.cell? ⟨P, 1, none⟩ = some (.slice (some ⟨g, 0, none⟩) 1 1) ∧ wx.cell? ⟨P, 2, none⟩ = some (.slice (some a2) n2 c2) := fun wx hwx => ⟨hwx, ((unhide HXA).below (Nat.le_refl _) hwx).cells⟩
          have hK2 := Below.refl WA.heap.size WA
          have hs2 := (unhide HXA).lt
          have hcells := (unhide HXA).cells
          obtain ⟨y0, y1, y2⟩ := hcells
          go_region_held (fun wx => Below WA.heap.size WA wx ∧ wx.cell? ⟨P, 0, none⟩ = some (.bool d) ∧ wx.cell? ⟨P, 1, none⟩ = some (.slice (some ⟨g, 0, none⟩) 1 1) ∧ wx.cell? ⟨P, 2, none⟩ = some (.slice (some a2) n2 c2)) (first | exact HKEEP _ hK5 | exact HKEEP _ (((hK5.setCell (by simp <;> omega) _).setCell (by simp <;> omega) _).setCell (by simp <;> omega) _) | exact HKEEP _ (hK5.alloc hK5.size _) | exact HKEEP _ hK4 | exact HKEEP _ (hK4.alloc hK4.size _) | exact HKEEP _ hK3 | exact HKEEP _ (hK3.alloc hK3.size _) | exact HKEEP _ hK2.drew | exact HKEEP _ (hK2.drew.alloc (by simp) _))
            (first
            | (go_at_call 21; refine (lwScalar_any _ _).mono ?_; rintro e w3 ⟨gs, rfl, hOs, hb3⟩; have hK3 : Below WA.heap.size WA w3 := (by first | exact hK2.drew.trans (hb3.mono (by simp)) | exact (hK2.drew.alloc (by simp) _).trans (hb3.mono (by simp))); (first | have hP3 := (Box.new _ _ _ _).below (Nat.le_refl _) hb3 | have hP3 := (Box.new _ _ _ _).drew.below (Nat.le_refl _) hb3 | skip); have hz3 := hK3.size; have hcx := ((unhide HXA).below (Nat.le_refl _) hK3).cells; obtain ⟨x0, x1, x2⟩ := hcx)
            | (go_at_call 22; refine (lwArray_any d ⟨g, 0, none⟩ a2 1 n2 1 c2 [(n2 : Int)] dt _ (by first | exact (unhide R1A).below (Nat.le_refl _) hK3 | exact ((unhide R1A).below (Nat.le_refl _) hK3).alloc _) (by first | exact (unhide R2A).below (Nat.le_refl _) hK3 | exact ((unhide R2A).below (Nat.le_refl _) hK3).alloc _) (by omega) (by omega)).mono ?_; rintro e w4 ⟨g1, g2, d1, d2, rfl, hA1, hA2, hle1, hle2, hb4⟩; have hK4 : Below WA.heap.size WA w4 := (by first | exact hK3.trans (hb4.mono (by omega)) | exact (hK3.alloc hz3 _).trans (hb4.mono (by simp; omega))); (first | have hP4 := hP3.below (Nat.le_refl _) hb4 | have hP4 := (Box.new _ _ _ _).below (Nat.le_refl _) hb4 | skip); have hOs' : Row w4 (some ⟨gs, 0, none⟩) 1 [(-(k : Int))] := (by first | exact hOs.row.below (Nat.le_refl _) hb4 | exact (hOs.row.alloc _).below (Nat.le_refl _) hb4); have hz4 := hK4.size; have hcz := ((unhide HXA).below (Nat.le_refl _) hK4).cells; obtain ⟨z0, z1, z2⟩ := hcz)
            | (go_at_call 23; refine (implDrop_any false d none (some ⟨gs, 0, none⟩) (some ⟨g1, 0, none⟩) (some ⟨g2, 0, none⟩) 0 1 1 n2 0 1 d1 d2 [] [(-(k : Int))] [(n2 : Int)] dt _ (own_none _ 0 none).row (by first | exact hOs' | exact hOs'.alloc _) (by first | exact hA1.row | exact hA1.row.alloc _) (by first | exact hA2.row | exact hA2.row.alloc _)).mono ?_; rintro e w5 ⟨e1, k1, f1, e2, k2, f2, rfl, hE1, hE2, hap, hb5, hcp1, hcp2, hsm⟩; (have HR' := unhide HDN; rw [HR'] at hE1 hE2 hsm ⊢; simp only at hE1 hE2 hsm ⊢; clear HR'); obtain ⟨ad, rfl⟩ := hsm trivial; have hK5 : Below WA.heap.size WA w5 := (by first | exact hK4.trans (hb5.mono (by omega)) | exact (hK4.alloc hz4 _).trans (hb5.mono (by simp; omega))); have hF1 := hE1.row; have hF2 := hE2.row; clear hap; (first | (have hP5 := hP4.below (Nat.le_refl _) hb5; obtain ⟨u0, u1, u2, u3, u4, u5, u6⟩ := hP5.free'; (try simp at u0 u1 u2 u3 u4 u5 u6)) | (have hP5 := (Box.new _ _ _ _).below (Nat.le_refl _) hb5; obtain ⟨u0, u1, u2, u3, u4, u5, u6⟩ := hP5.free'; (try simp at u0 u1 u2 u3 u4 u5 u6)) | skip); have hz5 := hK5.size))
          all_goals go_wp2_with fail
          all_goals (go_meet; case rel => first | exact ⟨rfl, _, _, _, _, _, _, _, rfl, hP5.sets, hF1.sets hP5 _ _ _, hF2.sets hP5 _ _ _, hcp1, hcp2, ((hK5.setCell (by simp <;> omega) _).setCell (by simp <;> omega) _).setCell (by simp <;> omega) _⟩ | exact ⟨rfl, _, _, _, _, _, _, _, rfl, Box.new _ _ _ _, hF1.alloc _, hF2.alloc _, hcp1, hcp2, hK5.alloc hK5.size _⟩)
        case rest =>
          obtain ⟨WB, hwc⟩ : ∃ x, x = wc := ⟨_, rfl⟩
          subst hwc
          obtain ⟨rfl, p11, e11, k11, f11, ad11, l11, h11, rfl, hb, hr, hs, hc11, hd11, hK⟩ := hcut
          obtain ⟨b11, o11, ebo, _, _⟩ := hr.get (show 0 < k11 by have := hr.len; simp at this; omega)
          subst ebo
          have BX11 := hide hb
          have RA11 := hide hr
          have RB11 := hide hs
          have HXB := hide ((unhide HXA).below (Nat.le_refl _) hK)
          have R1B := hide ((unhide R1A).below (Nat.le_refl _) hK)
          have R2B := hide ((unhide R2A).below (Nat.le_refl _) hK)
          have HBB := hide ((unhide HBA).trans (hK.mono (unhide HBA).size))
          have BX9' := hide ((unhide BX9).below (Nat.le_refl _) hK)
          have RA9' := hide ((unhide RA9).below (Nat.le_refl _) hK)
          have RB9' := hide ((unhide RB9).below (Nat.le_refl _) hK)
          clear hb hr hs hK HXA R1A R2A HBA BX9 RA9 RB9
          have BX9 := BX9'
          have RA9 := RA9'
          have RB9 := RB9'
          clear BX9' RA9' RB9'
          go_upto_region 12 with fail
          go_cut [13, 14] (fun r6 r7 wr => r7 = .int .i64 0 ∧ ∃ p e1 k1 f1 ad k2 f2, r6 = .pointer (some ⟨p, 0, none⟩) ∧ Box wr p d (.slice e1 k1 f1) (.slice (some ad) k2 f2) ∧ Row wr e1 k1 [(k : Int)] ∧ Row wr (some ad) k2 (dt.drop (n2 - k)) ∧ k1 ≤ f1 ∧ k2 ≤ f2 ∧ Below WB.heap.size WB wr)
          case first =>
            have HKEEP : ∀ wx, Below WB.heap.size WB wx → Below WB.heap.size WB wx ∧ wx.cell? ⟨P, 0, none⟩ = some (.bool d) ∧ wx.cell? ⟨P, 1, none⟩ = some (.slice (some ⟨g, 0, none⟩) 1 1) ∧ wx.cell? ⟨P, 2, none⟩ = some (.slice (some a2) n2 c2) := fun wx hwx => ⟨hwx, ((unhide HXB).below (Nat.le_refl _) hwx).cells⟩
            have hK2 := Below.refl WB.heap.size WB
            have hs2 := (unhide HXB).lt
            have hcells := (unhide HXB).cells
            obtain ⟨y0, y1, y2⟩ := hcells
            go_region_held (fun wx => Below WB.heap.size WB wx ∧ wx.cell? ⟨P, 0, none⟩ = some (.bool d) ∧ wx.cell? ⟨P, 1, none⟩ = some (.slice (some ⟨g, 0, none⟩) 1 1) ∧ wx.cell? ⟨P, 2, none⟩ = some (.slice (some a2) n2 c2)) (first | exact HKEEP _ hK5 | exact HKEEP _ (((hK5.setCell (by simp <;> omega) _).setCell (by simp <;> omega) _).setCell (by simp <;> omega) _) | exact HKEEP _ (hK5.alloc hK5.size _) | exact HKEEP _ hK4 | exact HKEEP _ (hK4.alloc hK4.size _) | exact HKEEP _ hK3 | exact HKEEP _ (hK3.alloc hK3.size _) | exact HKEEP _ hK2.drew | exact HKEEP _ (hK2.drew.alloc (by simp) _))
              (first
              | (go_at_call 21; refine (lwScalar_any _ _).mono ?_; rintro e w3 ⟨gs, rfl, hOs, hb3⟩; have hK3 : Below WB.heap.size WB w3 := (by first | exact hK2.drew.trans (hb3.mono (by simp)) | exact (hK2.drew.alloc (by simp) _).trans (hb3.mono (by simp))); (first | have hP3 := (Box.new _ _ _ _).below (Nat.le_refl _) hb3 | have hP3 := (Box.new _ _ _ _).drew.below (Nat.le_refl _) hb3 | skip); have hz3 := hK3.size; have hcx := ((unhide HXB).below (Nat.le_refl _) hK3).cells; obtain ⟨x0, x1, x2⟩ := hcx)
              | (go_at_call 22; refine (lwArray_any d ⟨g, 0, none⟩ a2 1 n2 1 c2 [(n2 : Int)] dt _ (by first | exact (unhide R1B).below (Nat.le_refl _) hK3 | exact ((unhide R1B).below (Nat.le_refl _) hK3).alloc _) (by first | exact (unhide R2B).below (Nat.le_refl _) hK3 | exact ((unhide R2B).below (Nat.le_refl _) hK3).alloc _) (by omega) (by omega)).mono ?_; rintro e w4 ⟨g1, g2, d1, d2, rfl, hA1, hA2, hle1, hle2, hb4⟩; have hK4 : Below WB.heap.size WB w4 := (by first | exact hK3.trans (hb4.mono (by omega)) | exact (hK3.alloc hz3 _).trans (hb4.mono (by simp; omega))); (first | have hP4 := hP3.below (Nat.le_refl _) hb4 | have hP4 := (Box.new _ _ _ _).below (Nat.le_refl _) hb4 | skip); have hOs' : Row w4 (some ⟨gs, 0, none⟩) 1 [(-(k : Int))] := (by first | exact hOs.row.below (Nat.le_refl _) hb4 | exact (hOs.row.alloc _).below (Nat.le_refl _) hb4); have hz4 := hK4.size; have hcz := ((unhide HXB).below (Nat.le_refl _) hK4).cells; obtain ⟨z0, z1, z2⟩ := hcz)
              | (go_at_call 20; refine (implTake_any false d none (some ⟨gs, 0, none⟩) (some ⟨g1, 0, none⟩) (some ⟨g2, 0, none⟩) 0 1 1 n2 0 1 d1 d2 [] [(-(k : Int))] [(n2 : Int)] dt _ (own_none _ 0 none).row (by first | exact hOs' | exact hOs'.alloc _) (by first | exact hA1.row | exact hA1.row.alloc _) (by first | exact hA2.row | exact hA2.row.alloc _)).mono ?_; rintro e w5 ⟨e1, k1, f1, e2, k2, f2, rfl, hE1, hE2, hap, hb5, hcp1, hcp2, hsm⟩; (have HR' := unhide HTN; rw [HR'] at hE1 hE2 hsm ⊢; simp only at hE1 hE2 hsm ⊢; clear HR'); obtain ⟨ad, rfl⟩ := hsm trivial; have hK5 : Below WB.heap.size WB w5 := (by first | exact hK4.trans (hb5.mono (by omega)) | exact (hK4.alloc hz4 _).trans (hb5.mono (by simp; omega))); have hF1 := hE1.row; have hF2 := hE2.row; clear hap; (first | (have hP5 := hP4.below (Nat.le_refl _) hb5; obtain ⟨u0, u1, u2, u3, u4, u5, u6⟩ := hP5.free'; (try simp at u0 u1 u2 u3 u4 u5 u6)) | (have hP5 := (Box.new _ _ _ _).below (Nat.le_refl _) hb5; obtain ⟨u0, u1, u2, u3, u4, u5, u6⟩ := hP5.free'; (try simp at u0 u1 u2 u3 u4 u5 u6)) | skip); have hz5 := hK5.size))
            all_goals go_wp2_with fail
            all_goals (go_meet; case rel => first | exact ⟨rfl, _, _, _, _, _, _, _, rfl, hP5.sets, hF1.sets hP5 _ _ _, hF2.sets hP5 _ _ _, hcp1, hcp2, ((hK5.setCell (by simp <;> omega) _).setCell (by simp <;> omega) _).setCell (by simp <;> omega) _⟩ | exact ⟨rfl, _, _, _, _, _, _, _, rfl, Box.new _ _ _ _, hF1.alloc _, hF2.alloc _, hcp1, hcp2, hK5.alloc hK5.size _⟩)
          case rest =>
            obtain ⟨WD, hwc⟩ : ∃ x, x = wc := ⟨_, rfl⟩
            subst hwc
            obtain ⟨rfl, p13, e13, k13, f13, ad13, l13, h13, rfl, hb, hr, hs, hc13, hd13, hK⟩ := hcut
            obtain ⟨b13, o13, ebo, _, _⟩ := hr.get (show 0 < k13 by have := hr.len; simp at this; omega)
            subst ebo
            have BX13 := hide hb
            have RA13 := hide hr
            have RB13 := hide hs
            have HXD := hide ((unhide HXB).below (Nat.le_refl _) hK)
            have R1D := hide ((unhide R1B).below (Nat.le_refl _) hK)
            have R2D := hide ((unhide R2B).below (Nat.le_refl _) hK)
            have HBD := hide ((unhide HBB).trans (hK.mono (unhide HBB).size))
            have BX9' := hide ((unhide BX9).below (Nat.le_refl _) hK)
            have RA9' := hide ((unhide RA9).below (Nat.le_refl _) hK)
            have RB9' := hide ((unhide RB9).below (Nat.le_refl _) hK)
            have BX11' := hide ((unhide BX11).below (Nat.le_refl _) hK)
            have RA11' := hide ((unhide RA11).below (Nat.le_refl _) hK)
            have RB11' := hide ((unhide RB11).below (Nat.le_refl _) hK)
            clear hb hr hs hK HXB R1B R2B HBB BX9 RA9 RB9 BX11 RA11 RB11
            have BX9 := BX9'
            have RA9 := RA9'
            have RB9 := RB9'
            clear BX9' RA9' RB9'
            have BX11 := BX11'
            have RA11 := RA11'
            have RB11 := RB11'
            clear BX11' RA11' RB11'
            obtain ⟨y0, y1, y2, y3, y4, y5, y6⟩ := (unhide BX11).all
            obtain ⟨z0, z1, z2, z3, z4, z5, z6⟩ := (unhide BX13).all
            go_upto_region 14 with (go_at_call 24; refine (unhide HCAT d d ⟨b11, o11, none⟩ ad11 ⟨b13, o13, none⟩ ad13 k11 l11 k13 l13 f11 h11 f13 h13 [((n2 - k : Nat) : Int)] (dt.take (n2 - k)) [(k : Int)] (dt.drop (n2 - k)) _ (unhide RA11) (unhide RB11) (unhide RA13) (unhide RB13) hc11 hd11 hc13 hd13).mono ?_; rintro e wC ⟨e15, k15, f15, ed15, l15, h15, rfl, hE1, hE2, hap, hK⟩; (have HR' := unhide HCB; rw [HR'] at hE1 hE2 ⊢; simp only at hE1 hE2 ⊢; clear HR'); have RC1 := hide hE1.row; have RC2 := hide hE2.row; have HKC := hide hK; clear hap hE1 hE2 hK y0 y1 y2 y3 y4 y5 y6 z0 z1 z2 z3 z4 z5 z6)
            obtain ⟨WE, hW2⟩ : ∃ W2, W2 = wC.alloc (.cells #[.bool d, .slice e15 k15 f15, .slice ed15 l15 h15] 26) := ⟨_, rfl⟩
            obtain ⟨p15, hp15⟩ : ∃ p, p = wC.heap.size := ⟨_, rfl⟩
            have hKA : Below wC.heap.size wC WE := by rw [hW2]; exact (Below.refl _ _).alloc (Nat.le_refl _) _
            have BX15 : Hid (Box WE p15 d (.slice e15 k15 f15) (.slice ed15 l15 h15)) := by rw [hW2, hp15]; exact Box.new wC _ _ _
            have RA15 := hide ((unhide RC1).below (Nat.le_refl _) hKA)
            have RB15 := hide ((unhide RC2).below (Nat.le_refl _) hKA)
            have hK := (unhide HKC).trans (hKA.mono (unhide HKC).size)
            have HXE := hide ((unhide HXD).below (Nat.le_refl _) hK)
            have R1E := hide ((unhide R1D).below (Nat.le_refl _) hK)
            have R2E := hide ((unhide R2D).below (Nat.le_refl _) hK)
            have HBE := hide ((unhide HBD).trans (hK.mono (unhide HBD).size))
            have BX9' := hide ((unhide BX9).below (Nat.le_refl _) hK)
            have RA9' := hide ((unhide RA9).below (Nat.le_refl _) hK)
            have RB9' := hide ((unhide RB9).below (Nat.le_refl _) hK)
            rw [← hW2, ← hp15]
            clear hW2 hp15 hKA hK HKC RC1 RC2 HXD R1D R2D HBD BX11 RA11 RB11 BX13 RA13 RB13 BX9 RA9 RB9
            have BX9 := BX9'
            have RA9 := RA9'
            have RB9 := RB9'
            clear BX9' RA9' RB9'
            obtain ⟨x0, x1, x2, x3, x4, x5, x6⟩ := (unhide HXE).all
            obtain ⟨y0, y1, y2, y3, y4, y5, y6⟩ := (unhide BX9).all
            obtain ⟨z0, z1, z2, z3, z4, z5, z6⟩ := (unhide BX15).all
            go_wp2_with (first
              | (go_at_call_of 13 (Value.slice e9 k9 f9); refine (eqArray_refl _ _ _ _ _ _ _ _ _ _ _ _ _ [(n2 : Int)] dt _ (unhide RA9) (unhide RB9) (unhide R1E) (unhide R2E)).mono ?_; rintro e wF ⟨rfl, hK⟩; have HXF := hide ((unhide HXE).below (Nat.le_refl _) hK); have R1F := hide ((unhide R1E).below (Nat.le_refl _) hK); have R2F := hide ((unhide R2E).below (Nat.le_refl _) hK); have HBF := hide ((unhide HBE).trans (hK.mono (unhide HBE).size)); have BXF := hide ((unhide BX15).below (Nat.le_refl _) hK); have RAF := hide ((unhide RA15).below (Nat.le_refl _) hK); have RBF := hide ((unhide RB15).below (Nat.le_refl _) hK); clear hK x0 x1 x2 x3 x4 x5 x6 y0 y1 y2 y3 y4 y5 y6 z0 z1 z2 z3 z4 z5 z6; obtain ⟨x0, x1, x2, x3, x4, x5, x6⟩ := (unhide HXF).all; obtain ⟨z0, z1, z2, z3, z4, z5, z6⟩ := (unhide BXF).all)
              | (go_at_call_of 13 (Value.slice e15 k15 f15); refine (eqArray_refl _ _ _ _ _ _ _ _ _ _ _ _ _ [(n2 : Int)] dt _ (unhide RAF) (unhide RBF) (unhide R1F) (unhide R2F)).mono ?_; rintro e wG ⟨rfl, hK⟩; have HBG := hide ((unhide HBF).trans (hK.mono (unhide HBF).size)); clear hK))
            exact bodyPost_ret (v := .bool true) (by simp [results, Try.results5, go_sem]) rfl ⟨rfl, unhide HBG⟩

end Go.Proofs.Ytngbmcljhcckmaa
