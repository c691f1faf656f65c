import Derived.Test.YtgjpchnkodnieaaGreatDoorZv36
import Derived.Test.YtgjpchnkodnieaaGreatDoorZv43
import Derived.Test.YtgjpchnkodnieaaGreatDoorZv17
import Derived.Deep.RegionHeld
import Derived.Deep.DeepCutAuto
namespace Go.Proofs.YtgjpchnkodnieaaGreatDoor
open Go.RowKit
theorem Box.setShape {w : World} {p : Nat} {c : Bool} {v1 v2 : Value} (h : Box w p c v1 v2) (v : Value) : Box (w.setCell ⟨p, 1, none⟩ v) p c v v2 := by
  unfold Box at h ⊢
  rw [heap_setCell_same w p 1 _ _ _ h]
  simp
theorem eg_number : ∀ args w, (callFunc 176 args).run Tryz.prog w = .ok (.enter 176 args) w := enters_of Tryz.func176 (by kernel_rfl) rfl
set_option maxRecDepth 20000 in
set_option maxHeartbeats 8000000 in
theorem implIndex_any (c : Bool) (a1 a2 : Addr) (ap : Option Addr) (n1 n2 c1 c2 np cp : Nat) (sh dt : List Int) (ps : List PartD) (w : World) (h1 : Row w (some a1) n1 sh) (h2 : Row w (some a2) n2 dt) (hp : PRowN w ap np ps) :
    Calls Tryz.prog 101 #[.agg #[.bool c, .slice (some a1) n1 c1, .slice (some a2) n2 c2], .slice ap np cp] w (GivesCap w (indexA c sh dt ps)) := by
  have hl1 := hide h1.len
  have hl2 := hide h2.len
  have hs2 := h2.small
  have H1 := hide h1
  have H2 := hide h2
  have HP := hide hp
  have hlp := hide hp.row.len
  clear h1 h2 hp
  obtain ⟨r1, hr1⟩ : ∃ r, arrOk c sh dt = r := ⟨_, rfl⟩
  have HR1 := hide hr1
  clear hr1
  go_enter Tryz.func101, Tryz.ntmps101
  go_wp2_with fail
  refine (implArrayOk_eq _ _ _ _ _ _ _ sh dt _ (((unhide H1).alloc _).alloc _) (((unhide H2).alloc _).alloc _) _ HR1).mono ?_
  rintro e w1 ⟨rfl, hb1⟩
  obtain ⟨B4, B6, hB1⟩ := boxes2 hb1
  have hz1 := B6.lt
  clear hb1
  obtain ⟨x0, x1, x2, x3, x4, x5, x6⟩ := B4.all
  obtain ⟨q0, q1, q2, q3, q4, q5, q6⟩ := B6.all
  cases r1 with
  | false =>
    have HS : Hid (indexA c sh dt ps = noAns 3) := index_bad (unhide HR1)
    go_wp2
    refine bodyPost_ret (v := .tuple #[.agg #[.bool false, .slice none 0 0, .slice none 0 0], .int .i64 3]) (by simp [results, Tryz.results101, go_sem, q0, q1, q2]) rfl ?_
    rw [unhide HS]
    exact cap_none (by omega) (((hB1.setCell (by simp) _).setCell (by simp) _).setCell (by simp) _)
  | true =>
    obtain ⟨code, hcode⟩ : ∃ x, partsCode sh ps = x := ⟨_, rfl⟩
    have HCODE := hide hcode
    obtain ⟨hsi, hpd, h5'⟩ := shapeIn_of (unhide HR1)
    have h5 : n1 ≤ 5 := by rw [← unhide hl1]; exact h5'
    have HSI := hide hsi
    have HPD : Hid (prodAll sh = (n2 : Int)) := hpd.trans (by rw [unhide hl2])
    clear hcode hsi hpd h5'
    go_wp2_with fail
    refine (picksOf_any _ _ _ _ _ _ sh ps _ (by exact (unhide H1).below (Nat.le_refl _) hB1) (by exact (unhide HP).below (Nat.le_refl _) hB1) (unhide HSI) h5 code HCODE).mono ?_
    rintro e Z ⟨v, rfl, hpk, hbZ⟩
    have C4 := hide (B4.below (Nat.le_refl _) hbZ)
    have C6 := hide (B6.below (Nat.le_refl _) hbZ)
    have HBZ := hide (hB1.trans (hbZ.mono hB1.size))
    have HPK := hide hpk
    have hw1z := hB1.size
    have hzZ : w.heap.size + 1 < Z.heap.size := by have := (unhide C6).lt; omega
    clear hbZ hpk B4 B6 hB1 hz1 x0 x1 x2 x3 x4 x5 x6 q0 q1 q2 q3 q4 q5 q6
    by_cases hc0 : code = 0
    case neg =>
      have HS : Hid (indexA c sh dt ps = noAns code) := index_code (unhide HR1) code (unhide HCODE) hc0
      have hcb : (code != 0) = true := by simp [hc0]
      have HC0 := hide hc0
      obtain ⟨q0, q1, q2, q3, q4, q5, q6⟩ := (unhide C6).all
      clear hc0 HPK
      go_wp2
      refine bodyPost_ret (v := .tuple #[.agg #[.bool false, .slice none 0 0, .slice none 0 0], .int .i64 code]) (by simp [results, Tryz.results101, go_sem, q0, q1, q2]) rfl ?_
      rw [unhide HS]
      exact cap_none (unhide HC0) ((((unhide HBZ).setCell (by simp) _).setCell (by simp) _).setCell (by simp) _)
    subst hc0
    obtain ⟨g, f, rfl, hgl, hap⟩ := unhide HPK rfl
    obtain ⟨ho, hsb⟩ := parts_ok (unhide HCODE)
    obtain ⟨hci1, hci2, hci3, hci4⟩ := counts_in ho (unhide HSI) hsb
    obtain ⟨N, hN⟩ : ∃ N : Nat, prodAll (pSh sh ps) = N := ⟨(prodAll (pSh sh ps)).toNat, by omega⟩
    have hNb : N ≤ 10000 := by omega
    have hnp : np = n1 := by rw [← unhide hlp, ho.len, unhide hl1]
    subst hnp
    have HGO : Hid (indexA c sh dt ps = ⟨c, pSh sh ps, vals (pickedAt dt sh ps) N, 0⟩) := index_go (unhide HR1) (unhide HCODE) N hN
    have HVS : Hid (vals (gatherAt c sh dt (pNum sh ps) (pCn sh ps)) N = vals (pickedAt dt sh ps) N) := map_range_eq fun i hi => by rw [gather_picked ho (unhide HSI) hsb (by rw [hN]; omega)]
    have HAP := hide hap
    have HPO := hide ho
    have HCI : Hid (ShapeIn (pCn sh ps)) := hci1
    have HCN : Hid (prodAll (pCn sh ps) = (N : Int)) := hci2.trans hN
    have K1 : Hid (Row Z (some a1) np sh) := (unhide H1).below (Nat.le_refl _) (unhide HBZ)
    have K2 : Hid (Row Z (some a2) n2 dt) := (unhide H2).below (Nat.le_refl _) (unhide HBZ)
    have hwgl : w.heap.size ≤ g := Nat.le_trans hw1z hgl
    clear hap ho hsb hci1 hci2 hci3 hci4 hN HPK H1 H2 HP HR1 HCODE hgl hw1z
    clear w1
    have HKEEP : ∀ wx, Below Z.heap.size Z wx → wx.cell? ⟨w.heap.size, 0, none⟩ = some (.bool c) ∧ wx.cell? ⟨w.heap.size, 1, none⟩ = some (.slice (some a1) np c1) ∧ wx.cell? ⟨w.heap.size, 2, none⟩ = some (.slice (some a2) n2 c2) := fun wx hwx => by
      obtain ⟨y0, y1, y2, _, _, _⟩ := ((unhide C4).below (Nat.le_refl _) hwx).all
      exact ⟨y0, y1, y2⟩
    obtain ⟨x0, x1, x2⟩ := HKEEP _ (Below.refl _ _)
    go_upto_region 6 with fail
    go_cut [8] (fun v wx => ∃ p gd ac cc, v = .pointer (some ⟨p, 0, none⟩) ∧ Box wx p c (.slice ac np cc) (.slice (some ⟨gd, 0, none⟩) N N) ∧ Z.heap.size ≤ p ∧ Z.heap.size ≤ gd ∧ gd ≠ p ∧ Blk wx gd (vals (pickedAt dt sh ps) N) ∧ Below Z.heap.size Z wx)
    case first =>
      go_region_held (fun wx => wx.cell? ⟨w.heap.size, 0, none⟩ = some (.bool c) ∧ wx.cell? ⟨w.heap.size, 1, none⟩ = some (.slice (some a1) np c1) ∧ wx.cell? ⟨w.heap.size, 2, none⟩ = some (.slice (some a2) n2 c2)) (first | exact HKEEP _ hKG | exact HKEEP _ (((hKG.setCell (by have h3 := hKC.size; simp <;> omega) _).setCell (by have h3 := hKC.size; simp <;> omega) _).setCell (by have h3 := hKC.size; simp <;> omega) _) | exact HKEEP _ (hKG.alloc hKG.size _) | exact HKEEP _ hKC | exact HKEEP _ (hKC.alloc hKC.size _) | exact HKEEP _ (Below.refl _ _).drew | exact HKEEP _ ((Below.refl _ _).drew.alloc (by simp) _))
        (first
        | (go_at_call 175; refine (picksCounts_any g np sh ps f _ (by first | exact (unhide HAP).below (Nat.le_refl _) (Below.refl _ _).drew | exact (unhide HAP).below (Nat.le_refl _) ((Below.refl _ _).drew.alloc (Nat.le_refl _) _)) h5).mono ?_; rintro e wC ⟨ac, cc, rfl, hoc, hbC⟩; have hKC : Below Z.heap.size Z wC := (by first | exact (Below.refl _ _).drew.trans hbC | exact ((Below.refl _ _).drew.alloc (by simp) _).trans (hbC.mono (by simp))); (first | (have hP3 := (Box.new _ _ _ _).below (Nat.le_refl _) hbC; have hpl3 := hP3.lt; (try simp at hpl3)) | (have hP3 := (Box.new _ _ _ _).drew.below (Nat.le_refl _) hbC; have hpl3 := hP3.lt; (try simp at hpl3)) | skip); have hRC : Row wC ac np (pCn sh ps) := (by obtain ⟨a', c', e', ho'⟩ := Own.of_owns hoc (by omega); cases e'; unfold pCn; rw [unhide hlp]; exact ho'.row); obtain ⟨z0, z1, z2⟩ := HKEEP _ hKC; clear hoc)
        | (go_at_call 59; refine (gatheredB_any c (some a1) (some a2) ac np n2 c1 c2 np cc sh dt (pCn sh ps) 176 (.slice (some ⟨g, 0, none⟩) np np) eg_number (pNum sh ps) _ N (by first | exact (unhide K1).below (Nat.le_refl _) hKC | exact ((unhide K1).below (Nat.le_refl _) hKC).alloc _) (by first | exact (unhide K2).below (Nat.le_refl _) hKC | exact ((unhide K2).below (Nat.le_refl _) hKC).alloc _) (by first | exact hRC | exact hRC.alloc _) (unhide HSI) (unhide HCI) h5 (unhide HCN) (unhide HPD) (by first | exact picksNumber_ok g np sh ps f _ ((unhide HAP).below (Nat.le_refl _) hKC) (unhide HPO) (unhide hlp) (unhide HSI) | exact picksNumber_ok g np sh ps f _ ((unhide HAP).below (Nat.le_refl _) (hKC.alloc hKC.size _)) (unhide HPO) (unhide hlp) (unhide HSI))).mono ?_; rintro e wG ⟨gd, rfl, hgd, hBG, hbG⟩; rw [unhide HVS] at hBG; have hKG : Below Z.heap.size Z wG := (by first | exact hKC.trans (hbG.mono hKC.size) | exact (hKC.alloc hKC.size _).trans (hbG.mono (by have := hKC.size; simp; omega))); have hzC := hKC.size; have hzG := hbG.size; (try simp at hgd hzG); have hgdl := hBG.lt; (first | (have hP5 := hP3.below (Nat.le_refl _) hbG; obtain ⟨u0, u1, u2, u3, u4, u5, u6⟩ := hP5.free'; (try simp at u0 u1 u2 u3 u4 u5 u6)) | (have hP5 := (Box.new _ _ _ _).below (Nat.le_refl _) hbG; obtain ⟨u0, u1, u2, u3, u4, u5, u6⟩ := hP5.free'; (try simp at u0 u1 u2 u3 u4 u5 u6)) | skip); obtain ⟨z0', z1', z2'⟩ := HKEEP _ hKG))
      all_goals go_wp2_with fail
      all_goals (go_meet; case rel => first | exact ⟨_, _, _, _, rfl, hP5.sets, by first | omega | (simp; done), by omega, by first | omega | (simp; omega), ((hBG.other (by simp <;> omega) _).other (by simp <;> omega) _).other (by simp <;> omega) _, ((hKG.setCell (by have h3 := hKC.size; simp <;> omega) _).setCell (by have h3 := hKC.size; simp <;> omega) _).setCell (by have h3 := hKC.size; simp <;> omega) _⟩ | exact ⟨_, _, _, _, rfl, Box.new _ _ _ _, by omega, by omega, by omega, hBG.alloc _, hKG.alloc hKG.size _⟩)
    case rest =>
      obtain ⟨p, gd, ac, cc, rfl, hbx, hpz, hgz, hne, hBG, hKc⟩ := hcut
      have HBX := hide hbx
      have HBG := hide hBG
      have HKC := hide hKc
      have hgl' := hBG.lt
      have hpl := hbx.lt
      clear hbx hBG hKc x0 x1 x2 HKEEP
      obtain ⟨V, hV⟩ : ∃ x, x = wc := ⟨_, rfl⟩
      subst hV
      go_wp2_with fail
      refine (picksShape_any _ _ sh ps f _ (by exact (unhide HAP).below (Nat.le_refl _) (unhide HKC)) h5 (fun i hi => pick_five ((unhide HPO).code i (by rw [unhide hlp]; exact hi)))).mono ?_
      rintro e w3 ⟨a, m, cap, rfl, hm, hown, hb3⟩
      obtain ⟨a', c', e', hoa⟩ := Own.of_owns hown (by omega)
      cases e'
      have hmc : m ≤ cap := by
        rcases hown.2 with ⟨h', hh⟩ | ⟨g', cap', cur, h', _, _, hn', _⟩
        · omega
        · cases h'; exact hn'
      have HO : Hid (Own w3 V.heap.size a m (pSh sh ps)) := by show Own _ _ _ _ _; unfold pSh; rw [unhide hlp]; exact hoa
      have HX3 := hide ((unhide HBX).below (Nat.le_refl _) hb3)
      have HG3 := hide ((unhide HBG).below (Nat.le_refl _) hb3)
      have HK3 := hide ((unhide HKC).trans (hb3.mono (unhide HKC).size))
      have HC3 := hide (((unhide C6).below (Nat.le_refl _) (unhide HKC)).below (Nat.le_refl _) hb3)
      have hv3 := hb3.size
      have hvz := (unhide HKC).size
      clear hown hoa hb3 HBX HBG HKC
      obtain ⟨u0, u1, u2, u3, u4, u5, u6⟩ := (unhide HX3).all
      obtain ⟨q0, q1, q2, q3, q4, q5, q6⟩ := (unhide HC3).all
      have hpw : p ≠ w.heap.size + 1 := by omega
      go_wp2
      have hx1 : Box (w3.setCell ⟨p, 1, none⟩ (.slice a m cap)) p c (.slice a m cap) (.slice (some ⟨gd, 0, none⟩) N N) := (unhide HX3).setShape _
      have hx2 : Box (w3.setCell ⟨p, 1, none⟩ (.slice a m cap)) (w.heap.size + 1) false (.slice none 0 0) (.slice none 0 0) := (heap_setCell_other w3 ⟨p, 1, none⟩ (w.heap.size + 1) _ (by simp; omega)).trans (unhide HC3)
      have hx := hx2.sets (c' := c) (u1 := .slice a m cap) (u2 := .slice (some ⟨gd, 0, none⟩) N N)
      obtain ⟨r0, r1, r2, _, _, _⟩ := hx.all
      refine bodyPost_ret (v := .tuple #[.agg #[.bool c, .slice a m cap, .slice (some ⟨gd, 0, none⟩) N N], .int .i64 0]) (by simp [results, Tryz.results101, go_sem, r0, r1, r2]) rfl ?_
      rw [unhide HGO]
      have hat : ∀ x, At a m x → V.heap.size ≤ x := fun x hx => (unhide HO).low hx
      have ho1 : Own (w3.setCell ⟨p, 1, none⟩ (.slice a m cap)) w.heap.size a m (pSh sh ps) := ((unhide HO).mono (by have := (unhide HBZ).size; omega)).other (q := ⟨p, 1, none⟩) (fun x hx => by have := hat x hx; simp; omega) _
      have hbox : ∀ (o : Nat) (x : Nat), At a m x → x ≠ (⟨w.heap.size + 1, o, none⟩ : Addr).block := fun o x hx => by have := hat x hx; simp; omega
      have hbg : Blk (w3.setCell ⟨p, 1, none⟩ (.slice a m cap)) gd (vals (pickedAt dt sh ps) N) := (unhide HG3).other (by simp; omega) _
      have hbl : Below w.heap.size w (w3.setCell ⟨p, 1, none⟩ (.slice a m cap)) := ((unhide HBZ).trans ((unhide HK3).mono (unhide HBZ).size)).setCell (by have := (unhide HBZ).size; simp; omega) _
      exact cap_res (vals_len _ _) (by omega) (((ho1.other (hbox 0) _).other (hbox 1) _).other (hbox 2) _) (by have := (unhide HBZ).size; omega) (((hbg.other (by simp; omega) _).other (by simp; omega) _).other (by simp; omega) _) (fun h => by have := hat _ h; omega) (((hbl.setCell (by simp) _).setCell (by simp) _).setCell (by simp) _) hmc
end Go.Proofs.YtgjpchnkodnieaaGreatDoor
