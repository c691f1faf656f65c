import Derived.Test.YtngbmcljhcckmaaMPk
import Derived.Test.YtngbmcljhcckmaaSpecWhere
import Derived.Test.YtngbmcljhcckmaaImplPutO
import Derived.Test.YtngbmcljhcckmaaImplFit
import Derived.Test.YtngbmcljhcckmaaImplExt
import Derived.Test.YtngbmcljhcckmaaImplClone
import Derived.Test.YtngbmcljhcckmaaMEnd
import Derived.Deep.RegionHeld
import Derived.Deep.DeepCutAuto
namespace Go.Proofs.Ytngbmcljhcckmaa
open Go.RowKit

set_option maxHeartbeats 400000 in
theorem Clone_some (ad : Addr) (n cap : Nat) (zs : List Int) (w : World) (h : Row w (some ad) n zs) :
    Calls Try.prog 51 #[.slice (some ad) n cap] w fun e w' => ∃ g' cap', e = .returned (.slice (some ⟨g', 0, none⟩) n cap') ∧ n ≤ cap' ∧ Own w' w.heap.size (some ⟨g', 0, none⟩) n zs ∧ Below w.heap.size w w' := by
  have hl := h.len
  have hs := h.small
  have H := hide h
  clear h
  obtain ⟨i0, hi, hz0, hz1, hz2⟩ := info_parts info_int
  have qT : ∀ (w : World) (a : Option Addr) (n c n' c' : Nat), (binOp .eql 22 (.slice a n c) (.slice none n' c')).run Try.prog w = .ok (.bool a.isNone) w := fun w a n c n' c' => Lib.run_eql_slice_nil w _ _ a n c n' c' Try.underlying22
  go_enter Try.func51, Try.ntmps51
  go_wp2_with (at_builtin; refine wpList_append_some rfl _ _ 22 rfl w.heap.size 3 i0 (.int .i64 0) 1 8 Try.underlying22 hi hz0 hz1 hz2 rfl (by decide) w.heap.size 0 0 [] rfl (owns_empty w) ad n cap (zs.map (Value.int .i64)) rfl (by simpa using hl) (cells_ints ((unhide H).alloc _)) (one_ints zs) (by unfold maxLen; omega) (by omega) (by simp) ?_; intro g1 cap1 w1 hown hgrow hat)
  clear hat
  have hown' : w1.ownsRow w.heap.size 3 1 (.slice (some ⟨g1, 0, none⟩) n cap1) n (zs.map (Value.int .i64)) := by simpa using hown
  obtain ⟨a', cap', ev, ho⟩ := Own.of_owns hown' hs
  cases ev
  have hbel : Below w.heap.size w w1 := ((Below.refl _ _).alloc (Nat.le_refl _) _).grown hgrow (by simp) (by intro k hk; cases hk; exact Nat.le_refl _)
  have hcap : n ≤ cap1 := by
    rcases hown'.2 with ⟨h', h0⟩ | ⟨g', c', cur, h', _, _, hle, _⟩
    · simp at h'
    · cases h'; omega
  clear hown hgrow hown'
  go_wp2
  go_ret
  exact ⟨_, _, by simp, hcap, ho, hbel⟩

/-- As GivesOwn, and no slice of an answer without a code is nil. -/
def GivesSome (w : World) (r : Ans) (e : Ending) (w' : World) : Prop := ∃ b1 m1 d1 b2 m2 d2, e = .returned (.tuple #[.agg #[.bool r.c, .slice b1 m1 d1, .slice b2 m2 d2], .int .i64 r.code]) ∧ Own w' w.heap.size b1 m1 r.sh ∧ Own w' w.heap.size b2 m2 r.dt ∧ Apart b1 m1 b2 m2 ∧ Below w.heap.size w w' ∧ (r.code = 0 → (∃ ad, b1 = some ad) ∧ ∃ ad, b2 = some ad)

theorem some_none {w w' : World} {code : Int} (hc : code ≠ 0) (h : Below w.heap.size w w') : GivesSome w (noAns code) (.returned (.tuple #[.agg #[.bool false, .slice none 0 0, .slice none 0 0], .int .i64 code])) w' :=
  ⟨none, 0, 0, none, 0, 0, rfl, own_none _ _ _, own_none _ _ _, fun _ h => absurd rfl h.1, h, fun e => absurd e hc⟩

theorem eg_number' : ∀ args w, (callFunc 82 args).run Try.prog w = .ok (.enter 82 args) w := enters_of Try.func82 (by kernel_rfl) rfl

/-- What the copy of the array is, laid behind Y. -/
def CopyAt (Y : World) (c : Bool) (n1 n2 : Nat) (sh dt : List Int) (v : Value) (wx : World) : Prop :=
  ∃ p s1 f1 s2 f2, v = .pointer (some ⟨p, 0, none⟩) ∧ Box wx p c (.slice s1 n1 f1) (.slice s2 n2 f2) ∧ Own wx Y.heap.size s1 n1 sh ∧ Own wx Y.heap.size s2 n2 dt ∧ Apart s1 n1 s2 n2 ∧ ¬ At s1 n1 p ∧ ¬ At s2 n2 p ∧ n1 ≤ f1 ∧ n2 ≤ f2 ∧ Y.heap.size ≤ p ∧ Below Y.heap.size Y wx ∧ (∃ ad, s1 = some ad) ∧ ∃ ad, s2 = some ad

theorem CopyAt.stored {Y wx : World} {c : Bool} {n1 n2 p f1 f2 : Nat} {s1' s2' : Addr} {sh dt : List Int} {c' : Bool} {v1 v2 : Value} (hb : Box wx p c' v1 v2) (h1 : Own wx Y.heap.size (some s1') n1 sh) (h2 : Own wx Y.heap.size (some s2') n2 dt) (ha : Apart (some s1') n1 (some s2') n2) (hp1 : ¬ At (some s1') n1 p) (hp2 : ¬ At (some s2') n2 p) (hf1 : n1 ≤ f1) (hf2 : n2 ≤ f2) (hp : Y.heap.size ≤ p) (hl : Below Y.heap.size Y wx) :
    CopyAt Y c n1 n2 sh dt (.pointer (some ⟨p, 0, none⟩)) (((wx.setCell ⟨p, 0, none⟩ (.bool c)).setCell ⟨p, 1, none⟩ (.slice (some s1') n1 f1)).setCell ⟨p, 2, none⟩ (.slice (some s2') n2 f2)) := by
  have e1 : ∀ k, At (some s1') n1 k → k ≠ p := fun k hk e => hp1 (e ▸ hk)
  have e2 : ∀ k, At (some s2') n2 k → k ≠ p := fun k hk e => hp2 (e ▸ hk)
  exact ⟨p, some s1', f1, some s2', f2, rfl, hb.sets, ((h1.other (q := ⟨p, 0, none⟩) e1 _).other (q := ⟨p, 1, none⟩) e1 _).other (q := ⟨p, 2, none⟩) e1 _, ((h2.other (q := ⟨p, 0, none⟩) e2 _).other (q := ⟨p, 1, none⟩) e2 _).other (q := ⟨p, 2, none⟩) e2 _, ha, hp1, hp2, hf1, hf2, hp, ((hl.setCell (p := ⟨p, 0, none⟩) hp _).setCell (p := ⟨p, 1, none⟩) hp _).setCell (p := ⟨p, 2, none⟩) hp _, ⟨_, rfl⟩, ⟨_, rfl⟩⟩

theorem CopyAt.new {Y wx : World} {c : Bool} {n1 n2 f1 f2 : Nat} {s1' s2' : Addr} {sh dt : List Int} (h1 : Own wx Y.heap.size (some s1') n1 sh) (h2 : Own wx Y.heap.size (some s2') n2 dt) (ha : Apart (some s1') n1 (some s2') n2) (hf1 : n1 ≤ f1) (hf2 : n2 ≤ f2) (hl : Below Y.heap.size Y wx) :
    CopyAt Y c n1 n2 sh dt (.pointer (some ⟨wx.heap.size, 0, none⟩)) (wx.alloc (.cells #[.bool c, .slice (some s1') n1 f1, .slice (some s2') n2 f2] 26)) :=
  ⟨wx.heap.size, some s1', f1, some s2', f2, rfl, Box.new _ _ _ _, h1.alloc _, h2.alloc _, ha, fun h => by have := h1.row.hi h; omega, fun h => by have := h2.row.hi h; omega, hf1, hf2, hl.size, hl.alloc hl.size _, ⟨_, rfl⟩, ⟨_, rfl⟩⟩

set_option maxRecDepth 20000 in
set_option maxHeartbeats 8000000 in
theorem implReplace_some (c d : Bool) (a1 a2 b1 b2 : Addr) (ap : Option Addr) (n1 n2 c1 c2 np cp m1 m2 d1 d2 : Nat) (sh dt : List Int) (ps : List PartD) (sh' dt' : List Int) (w : World) (h1 : Row w (some a1) n1 sh) (h2 : Row w (some a2) n2 dt) (hp : PRowN w ap np ps) (k1 : Row w (some b1) m1 sh') (k2 : Row w (some b2) m2 dt') :
    Calls Try.prog 34 #[.agg #[.bool c, .slice (some a1) n1 c1, .slice (some a2) n2 c2], .slice ap np cp, .agg #[.bool d, .slice (some b1) m1 d1, .slice (some b2) m2 d2]] w (GivesSome w (replaceA c sh dt ps d sh' dt')) := by
  have hl1 := hide h1.len
  have hl2 := hide h2.len
  have hs2 := h2.small
  have hs4 := k2.small
  have H1 := hide h1
  have H2 := hide h2
  have K1 := hide k1
  have K2 := hide k2
  have hl4 := hide k2.len
  have HP := hide hp
  have hlp := hide hp.row.len
  clear h1 h2 hp k1 k2
  obtain ⟨r1, hr1⟩ : ∃ r, arrOk c sh dt = r := ⟨_, rfl⟩
  have HR1 := hide hr1
  obtain ⟨r2, hr2⟩ : ∃ r, arrOk d sh' dt' = r := ⟨_, rfl⟩
  have HR2 := hide hr2
  clear hr1 hr2
  go_enter Try.func34, Try.ntmps34
  go_wp2_with fail
  refine (implArrayOk_eq _ _ _ _ _ _ _ sh dt _ ((((unhide H1).alloc _).alloc _).alloc _) ((((unhide H2).alloc _).alloc _).alloc _) _ HR1).mono ?_
  rintro e V ⟨rfl, hb1⟩
  obtain ⟨B4, B5, B6, hB1⟩ := boxes3 hb1
  have C4 := hide B4
  have C5 := hide B5
  have C6 := hide B6
  have HB := hide hB1
  clear hb1 B4 B5 B6 hB1
  obtain ⟨x0, x1, x2, x3, x4, x5, x6⟩ := (unhide C4).all
  obtain ⟨y0, y1, y2, y3, y4, y5, y6⟩ := (unhide C5).all
  obtain ⟨q0, q1, q2, q3, q4, q5, q6⟩ := (unhide C6).all
  cases r1 with
  | false =>
    have HS : Hid (replaceA c sh dt ps d sh' dt' = noAns 3) := repl_bad1 (unhide HR1)
    go_wp2
    refine bodyPost_ret (v := .tuple #[.agg #[.bool false, .slice none 0 0, .slice none 0 0], .int .i64 3]) (by simp [results, Try.results34, go_sem, q0, q1, q2]) rfl ?_
    rw [unhide HS]
    exact some_none (by omega) ((((unhide HB).setCell (by simp <;> omega) _).setCell (by simp <;> omega) _).setCell (by simp <;> omega) _)
  | true =>
    go_wp2_with fail
    refine (implArrayOk_eq _ _ _ _ _ _ _ sh' dt' _ (by exact (unhide K1).below (Nat.le_refl _) (unhide HB)) (by exact (unhide K2).below (Nat.le_refl _) (unhide HB)) _ HR2).mono ?_
    rintro e Y ⟨rfl, hbY⟩
    replace C4 := hide ((unhide C4).below (Nat.le_refl _) hbY)
    replace C5 := hide ((unhide C5).below (Nat.le_refl _) hbY)
    replace C6 := hide ((unhide C6).below (Nat.le_refl _) hbY)
    replace HB := hide ((unhide HB).trans (hbY.mono (unhide HB).size))
    clear hbY x0 x1 x2 x3 x4 x5 x6 y0 y1 y2 y3 y4 y5 y6 q0 q1 q2 q3 q4 q5 q6
    clear V
    obtain ⟨x0, x1, x2, x3, x4, x5, x6⟩ := (unhide C4).all
    obtain ⟨y0, y1, y2, y3, y4, y5, y6⟩ := (unhide C5).all
    obtain ⟨q0, q1, q2, q3, q4, q5, q6⟩ := (unhide C6).all
    cases r2 with
    | false =>
      have HS : Hid (replaceA c sh dt ps d sh' dt' = noAns 3) := repl_bad2 (unhide HR2)
      go_wp2
      refine bodyPost_ret (v := .tuple #[.agg #[.bool false, .slice none 0 0, .slice none 0 0], .int .i64 3]) (by simp [results, Try.results34, go_sem, q0, q1, q2]) rfl ?_
      rw [unhide HS]
      exact some_none (by omega) ((((unhide HB).setCell (by simp <;> omega) _).setCell (by simp <;> omega) _).setCell (by simp <;> omega) _)
    | true =>
      obtain ⟨code, hcode⟩ : ∃ x, partsCode sh ps = x := ⟨_, rfl⟩
      have HCODE := hide hcode
      obtain ⟨hsi, hpd, h5'⟩ := shapeIn_of (unhide HR1)
      have h5 : n1 ≤ 5 := by rw [← unhide hl1]; exact h5'
      have HSI := hide hsi
      have HPD : Hid (prodAll sh = (n2 : Int)) := hpd.trans (by rw [unhide hl2])
      clear hcode hsi hpd h5'
      go_wp2_with fail
      refine (picksOf_any _ _ _ _ _ _ sh ps _ (by exact (unhide H1).below (Nat.le_refl _) (unhide HB)) (by exact (unhide HP).below (Nat.le_refl _) (unhide HB)) (unhide HSI) h5 code HCODE).mono ?_
      rintro e Z ⟨v, rfl, hpk, hbZ⟩
      have HPK := hide hpk
      clear hpk
      replace C4 := hide ((unhide C4).below (Nat.le_refl _) hbZ)
      replace C5 := hide ((unhide C5).below (Nat.le_refl _) hbZ)
      replace C6 := hide ((unhide C6).below (Nat.le_refl _) hbZ)
      replace HB := hide ((unhide HB).trans (hbZ.mono (unhide HB).size))
      clear hbZ x0 x1 x2 x3 x4 x5 x6 y0 y1 y2 y3 y4 y5 y6 q0 q1 q2 q3 q4 q5 q6
      obtain ⟨x0, x1, x2, x3, x4, x5, x6⟩ := (unhide C4).all
      obtain ⟨y0, y1, y2, y3, y4, y5, y6⟩ := (unhide C5).all
      obtain ⟨q0, q1, q2, q3, q4, q5, q6⟩ := (unhide C6).all
      by_cases hc0 : code = 0
      case neg =>
        have HS : Hid (replaceA c sh dt ps d sh' dt' = noAns code) := repl_code (unhide HR1) (unhide HR2) code (unhide HCODE) hc0
        have hcb : (code != 0) = true := by simp [hc0]
        have HC0 := hide hc0
        clear hc0 HPK
        go_wp2
        refine bodyPost_ret (v := .tuple #[.agg #[.bool false, .slice none 0 0, .slice none 0 0], .int .i64 code]) (by simp [results, Try.results34, go_sem, q0, q1, q2]) rfl ?_
        rw [unhide HS]
        exact some_none (unhide HC0) ((((unhide HB).setCell (by simp <;> omega) _).setCell (by simp <;> omega) _).setCell (by simp <;> omega) _)
      subst hc0
      obtain ⟨g, f, rfl, hgl, hap⟩ := unhide HPK rfl
      obtain ⟨ho, hsb⟩ := parts_ok (unhide HCODE)
      obtain ⟨hci1, hci2, hci3, hci4⟩ := counts_in ho (unhide HSI) hsb
      obtain ⟨N, hN⟩ : ∃ N : Nat, prodAll (pSh sh ps) = N := ⟨(prodAll (pSh sh ps)).toNat, by omega⟩
      have hNb : N ≤ 10000 := by omega
      have hnp : np = n1 := by rw [← unhide hlp, ho.len, unhide hl1]
      subst hnp
      have HAP := hide hap
      have HPO := hide ho
      have HSB := hide hsb
      have HCI : Hid (ShapeIn (pCn sh ps)) := hci1
      have HCN : Hid (prodAll (pCn sh ps) = (N : Int)) := hci2.trans hN
      have HN := hide hN
      obtain ⟨fc, hfc⟩ : ∃ x, fitC (pSh sh ps) sh' dt' = x := ⟨_, rfl⟩
      have HFC := hide hfc
      clear hap ho hsb hci1 hci2 hci3 hci4 hN HPK HP hgl hfc
      clear Y
      go_wp2_with fail
      go_cut [10] (fun v wx => v = .int .i64 fc ∧ Below Z.heap.size Z wx)
      case first =>
        go_region_with (first
          | (go_at_call 83; refine (picksShape_any _ _ sh ps f _ (by exact (unhide HAP).below (Nat.le_refl _) (Below.refl _ _).drew) h5 (fun i hi => pick_five ((unhide HPO).code i (by rw [unhide hlp]; exact hi)))).mono ?_; rintro e wS ⟨aS, mS, capS, rfl, hmS, hownS, hbS⟩; obtain ⟨hc7, hf7⟩ := bcell hbS; clear hf7; simp at hc7; obtain ⟨aS', cS', eS', hoS⟩ := Own.of_owns hownS (by omega); cases eS'; have hRS : Row wS aS mS (pSh sh ps) := (by unfold pSh; rw [unhide hlp]; exact hoS.row); clear hownS hoS)
          | (go_at_call 89; refine (fitCode_any _ _ _ _ _ _ _ _ _ _ sh' dt' (pSh sh ps) _ (by exact ((unhide K1).below (Nat.le_refl _) (unhide HB)).below (Nat.le_refl _) ((Below.refl _ _).drew.trans hbS)) (by exact ((unhide K2).below (Nat.le_refl _) (unhide HB)).below (Nat.le_refl _) ((Below.refl _ _).drew.trans hbS)) hRS).mono ?_; rintro e wF ⟨rfl, hbF⟩; rw [unhide HFC]))
        all_goals go_wp2_with fail
        all_goals (go_meet; case rel => exact ⟨rfl, ((Below.refl _ _).drew.trans hbS).trans (hbF.mono hbS.size)⟩)
      case rest =>
        obtain ⟨rfl, hbc⟩ := hcut
        have HAP' := hide ((unhide HAP).below (Nat.le_refl _) hbc)
        clear HAP
        have HAP := HAP'
        clear HAP'
        replace C4 := hide ((unhide C4).below (Nat.le_refl _) hbc)
        replace C5 := hide ((unhide C5).below (Nat.le_refl _) hbc)
        replace C6 := hide ((unhide C6).below (Nat.le_refl _) hbc)
        replace HB := hide ((unhide HB).trans (hbc.mono (unhide HB).size))
        clear hbc x0 x1 x2 x3 x4 x5 x6 y0 y1 y2 y3 y4 y5 y6 q0 q1 q2 q3 q4 q5 q6
        clear Z
        obtain ⟨x0, x1, x2, x3, x4, x5, x6⟩ := (unhide C4).all
        obtain ⟨y0, y1, y2, y3, y4, y5, y6⟩ := (unhide C5).all
        obtain ⟨q0, q1, q2, q3, q4, q5, q6⟩ := (unhide C6).all
        obtain ⟨Y, hY⟩ : ∃ x, x = wc := ⟨_, rfl⟩
        subst hY
        by_cases hf0 : fc = 0
        case neg =>
          have HS : Hid (replaceA c sh dt ps d sh' dt' = noAns fc) := repl_fit (unhide HR1) (unhide HR2) (unhide HCODE) fc (unhide HFC) hf0
          have hcb : (fc != 0) = true := by simp [hf0]
          have HC0 := hide hf0
          clear hf0
          go_wp2
          refine bodyPost_ret (v := .tuple #[.agg #[.bool false, .slice none 0 0, .slice none 0 0], .int .i64 fc]) (by simp [results, Try.results34, go_sem, q0, q1, q2]) rfl ?_
          rw [unhide HS]
          exact some_none (unhide HC0) ((((unhide HB).setCell (by simp <;> omega) _).setCell (by simp <;> omega) _).setCell (by simp <;> omega) _)
        subst hf0
        by_cases hcd : c = d
        case neg =>
          have HS : Hid (replaceA c sh dt ps d sh' dt' = noAns 3) := repl_dom (unhide HR1) (unhide HR2) (unhide HCODE) (unhide HFC) hcd
          have hq : (c == d) = false := by simp [hcd]
          clear hcd
          go_wp2
          refine bodyPost_ret (v := .tuple #[.agg #[.bool false, .slice none 0 0, .slice none 0 0], .int .i64 3]) (by simp [results, Try.results34, go_sem, q0, q1, q2]) rfl ?_
          rw [unhide HS]
          exact some_none (by omega) ((((unhide HB).setCell (by simp <;> omega) _).setCell (by simp <;> omega) _).setCell (by simp <;> omega) _)
        subst hcd
        have hq : (c == c) = true := by simp
        have HGO : Hid (replaceA c sh dt ps c sh' dt' = ⟨c, sh, intoN dt dt' (whereAt sh ps) N, 0⟩) := repl_go (unhide HR1) (unhide HR2) (unhide HCODE) (unhide HFC) rfl N (unhide HN)
        obtain ⟨st, hst⟩ : ∃ st, st = (if m2 = 1 then 0 else 1) := ⟨_, rfl⟩
        have HCT := fit_count (unhide HR2) (unhide HFC) (unhide HN)
        rw [unhide hl4] at HCT
        have HST : Hid (∀ k, k < N → k * st < m2) := fun k hk => by
          rw [hst]
          by_cases h1 : m2 = 1
          · rw [if_pos h1, h1]; omega
          · rw [if_neg h1]; omega
        have HPI : Hid (putN sh (pNum sh ps) (pCn sh ps) (fun k => dt'.getD (k * st) 0) dt N = intoN dt dt' (whereAt sh ps) N) := by
          have := put_into (dt := dt) (dt' := dt') (unhide HPO) (unhide HSI) (unhide HSB) (unhide HN) (by rw [unhide hl4]; exact HCT) N (Nat.le_refl _)
          rw [unhide hl4, ← hst] at this
          exact this
        have HSS := hide hst
        clear hst HCT HR1 HR2 HCODE HFC HSB HN
        have L1 : Hid (Row Y (some a1) np sh) := (unhide H1).below (Nat.le_refl _) (unhide HB)
        have L2 : Hid (Row Y (some a2) n2 dt) := (unhide H2).below (Nat.le_refl _) (unhide HB)
        have L3 : Hid (Row Y (some b1) m1 sh') := (unhide K1).below (Nat.le_refl _) (unhide HB)
        have L4 : Hid (Row Y (some b2) m2 dt') := (unhide K2).below (Nat.le_refl _) (unhide HB)
        have hwy := (unhide HB).size
        have h6y := (unhide C6).lt
        clear H1 H2 K1 K2
        go_upto_region 11 with fail
        have HKEEP : ∀ wx, Below Y.heap.size Y wx → wx.cell? ⟨w.heap.size, 0, none⟩ = some (.bool c) ∧ wx.cell? ⟨w.heap.size, 1, none⟩ = some (.slice (some a1) np c1) ∧ wx.cell? ⟨w.heap.size, 2, none⟩ = some (.slice (some a2) n2 c2) := fun wx hwx => by
          obtain ⟨t0, t1, t2, _, _, _⟩ := ((unhide C4).below (Nat.le_refl _) hwx).all
          exact ⟨t0, t1, t2⟩
        go_cut [11] (fun v wx => CopyAt Y c np n2 sh dt v wx)
        case first =>
          go_region_held (fun wx => wx.cell? ⟨w.heap.size, 0, none⟩ = some (.bool c) ∧ wx.cell? ⟨w.heap.size, 1, none⟩ = some (.slice (some a1) np c1) ∧ wx.cell? ⟨w.heap.size, 2, none⟩ = some (.slice (some a2) n2 c2)) (first | exact HKEEP _ hKB | exact HKEEP _ (((hKB.setCell (by have h3 := hKA.size; simp <;> omega) _).setCell (by have h3 := hKA.size; simp <;> omega) _).setCell (by have h3 := hKA.size; simp <;> omega) _) | exact HKEEP _ (hKB.alloc hKB.size _) | exact HKEEP _ hKA | exact HKEEP _ (hKA.alloc hKA.size _) | exact HKEEP _ (Below.refl _ _).drew | exact HKEEP _ ((Below.refl _ _).drew.alloc (by simp) _))
            (first
            | (go_at_call_of 51 (Value.slice (some a1) np c1); refine (Clone_some a1 np c1 sh _ (by first | exact (unhide L1).below (Nat.le_refl _) (Below.refl _ _).drew | exact ((unhide L1).below (Nat.le_refl _) (Below.refl _ _).drew).alloc _)).mono ?_; rintro e wA ⟨gA, f1, rfl, hf1, hO1, hbA⟩; have hKA : Below Y.heap.size Y wA := (by first | exact (Below.refl _ _).drew.trans (hbA.mono (by simp)) | exact ((Below.refl _ _).drew.alloc (by simp) _).trans (hbA.mono (by simp))); (first | (have hP1 := (Box.new _ _ _ _).below (Nat.le_refl _) hbA; (try simp at hP1)) | (have hP1 := (Box.new _ _ _ _).drew.below (Nat.le_refl _) hbA; (try simp at hP1)) | skip); (have hI1 : ∀ k, At (some ⟨gA, 0, none⟩) np k → Y.heap.size ≤ k ∧ k < wA.heap.size := fun k hk => ⟨(by have := hO1.low hk; simp at this; omega), hO1.row.hi hk⟩); obtain ⟨z0, z1, z2⟩ := HKEEP _ hKA)
            | (go_at_call_of 51 (Value.slice (some a2) n2 c2); refine (Clone_some a2 n2 c2 dt _ (by first | exact (unhide L2).below (Nat.le_refl _) hKA | exact ((unhide L2).below (Nat.le_refl _) hKA).alloc _)).mono ?_; rintro e wB ⟨gB, f2, rfl, hf2, hO2, hbB⟩; have hKB : Below Y.heap.size Y wB := (by first | exact hKA.trans (hbB.mono hKA.size) | exact (hKA.alloc hKA.size _).trans (hbB.mono (by have := hKA.size; simp; omega))); have hO1' : Own wB Y.heap.size (some ⟨gA, 0, none⟩) np sh := (by first | exact (hO1.below (Nat.le_refl _) hbB).mono (by simp) | exact ((hO1.alloc _).below (Nat.le_refl _) hbB).mono (by simp)); have hO2' : Own wB Y.heap.size (some ⟨gB, 0, none⟩) n2 dt := hO2.mono (by have := hKA.size; first | omega | (simp; omega)); have hap' : Apart (some ⟨gA, 0, none⟩) np (some ⟨gB, 0, none⟩) n2 := (fun k h1 h2 => by have e1 := hI1 k h1; have e2 := hO2.low h2; (try simp at e2); omega); (first | (have hP2 := hP1.below (Nat.le_refl _) hbB; obtain ⟨u0, u1, u2, u3, u4, u5, u6⟩ := hP2.free'; (try simp at u0 u1 u2 u3 u4 u5 u6)) | (have hP2 := (Box.new _ _ _ _).below (Nat.le_refl _) hbB; obtain ⟨u0, u1, u2, u3, u4, u5, u6⟩ := hP2.free'; (try simp at u0 u1 u2 u3 u4 u5 u6)) | skip); obtain ⟨z0', z1', z2'⟩ := HKEEP _ hKB))
          all_goals go_wp2_with fail
          all_goals (go_meet; case rel => first
            | exact CopyAt.new hO1' hO2' hap' hf1 hf2 hKB
            | exact CopyAt.stored hP2 hO1' hO2' hap' (fun h => by have e1 := hI1 _ h; have e2 := hO1.low h; (try simp at e2); omega) (fun h => by have e2 := hO2.low h; have e3 := hKA.size; have e4 := hbA.size; (try simp at e4); (try simp at e2); omega) hf1 hf2 (by have := hKA.size; first | omega | (simp; done) | (simp; omega)) hKB)
        case rest =>
          obtain ⟨p, s1, f1, s2, f2, rfl, hbx, hO1, hO2, hap, hp1, hp2, hf1, hf2, hpY, hbX, hsm1, hsm2⟩ := hcut
          obtain ⟨X, hX⟩ : ∃ x, x = wc := ⟨_, rfl⟩
          subst hX
          have HBX := hide hbx
          have HO1 := hide hO1
          have HO2 := hide hO2
          have HAPT := hide hap
          have HP1 := hide hp1
          have HP2 := hide hp2
          have HYX := hide hbX
          have HSM := hide (And.intro hsm1 hsm2)
          clear hsm1 hsm2
          clear hbx hO1 hO2 hap hp1 hp2 hbX HKEEP x0 x1 x2 x3 x4 x5 x6 y0 y1 y2 y3 y4 y5 y6 q0 q1 q2 q3 q4 q5 q6
          go_wp2_with fail
          refine (picksCounts_any g np sh ps f _ (by exact (unhide HAP).below (Nat.le_refl _) (unhide HYX)) h5).mono ?_
          rintro e T ⟨ac, cc, rfl, hoc, hbT⟩
          have HRC : Hid (Own T X.heap.size ac np (pCn sh ps)) := by
            obtain ⟨a', c', e', ho'⟩ := Own.of_owns hoc (by omega)
            cases e'
            show Own _ _ _ _ _
            unfold pCn
            rw [unhide hlp]
            exact ho'
          have HYT := hide ((unhide HYX).trans (hbT.mono (unhide HYX).size))
          have hpX := (unhide HBX).lt
          replace HBX := hide ((unhide HBX).below (Nat.le_refl _) hbT)
          have HI1 : Hid (∀ k, At s1 np k → Y.heap.size ≤ k ∧ k < X.heap.size) := fun k hk => ⟨(unhide HO1).low hk, (unhide HO1).row.hi hk⟩
          have HI2 : Hid (∀ k, At s2 n2 k → Y.heap.size ≤ k ∧ k < X.heap.size) := fun k hk => ⟨(unhide HO2).low hk, (unhide HO2).row.hi hk⟩
          replace HO1 := hide ((unhide HO1).below (Nat.le_refl _) hbT)
          replace HO2 := hide ((unhide HO2).below (Nat.le_refl _) hbT)
          have hxt := hbT.size
          clear hoc hbT
          have HNUM : Hid (∀ wx, Below T.heap.size T wx → NumButO 82 (.slice (some ⟨g, 0, none⟩) np np) (pNum sh ps) (pCn sh ps) np wx (fun b => At s2 n2 b)) := fun wx hwx D hD hDl k hk ib W hW hB =>
            picksNumber_ok g np sh ps f W ((unhide HAP).below (Nat.le_refl _) (((unhide HYT).trans (hwx.mono (unhide HYT).size)).trans (hW.below (by have := (unhide HYT).size; have := hwx.size; omega) (fun k hk => (unhide HI2 k hk).1)))) (unhide HPO) (unhide hlp) (unhide HSI) D hD hDl k hk ib W (Below.refl _ _) hB
          have HKEEP : ∀ wx, Below T.heap.size T wx → wx.cell? ⟨p, 0, none⟩ = some (.bool c) ∧ wx.cell? ⟨p, 1, none⟩ = some (.slice s1 np f1) ∧ wx.cell? ⟨p, 2, none⟩ = some (.slice s2 n2 f2) ∧ wx.cell? ⟨w.heap.size + 1, 0, none⟩ = some (.bool c) ∧ wx.cell? ⟨w.heap.size + 1, 1, none⟩ = some (.slice (some b1) m1 d1) ∧ wx.cell? ⟨w.heap.size + 1, 2, none⟩ = some (.slice (some b2) m2 d2) := fun wx hwx => by
            obtain ⟨t0, t1, t2, _, _, _⟩ := ((unhide HBX).below (Nat.le_refl _) hwx).all
            obtain ⟨t3, t4, t5, _, _, _⟩ := (((unhide C5).below (Nat.le_refl _) (unhide HYT)).below (Nat.le_refl _) hwx).all
            exact ⟨t0, t1, t2, t3, t4, t5⟩
          have HKEEP2 : ∀ wx, But (fun b => At s2 n2 b) T wx → wx.cell? ⟨p, 0, none⟩ = some (.bool c) ∧ wx.cell? ⟨p, 1, none⟩ = some (.slice s1 np f1) ∧ wx.cell? ⟨p, 2, none⟩ = some (.slice s2 n2 f2) ∧ wx.cell? ⟨w.heap.size + 1, 0, none⟩ = some (.bool c) ∧ wx.cell? ⟨w.heap.size + 1, 1, none⟩ = some (.slice (some b1) m1 d1) ∧ wx.cell? ⟨w.heap.size + 1, 2, none⟩ = some (.slice (some b2) m2 d2) := fun wx hwx => by
            obtain ⟨t0, t1, t2, _, _, _⟩ := ((unhide HBX).but hwx (fun h => unhide HP2 h)).all
            obtain ⟨t3, t4, t5, _, _, _⟩ := (((unhide C5).below (Nat.le_refl _) (unhide HYT)).but hwx (fun h => by have := unhide HI2 _ h; omega)).all
            exact ⟨t0, t1, t2, t3, t4, t5⟩
          obtain ⟨x0, x1, x2, x3, x4, x5⟩ := HKEEP _ (Below.refl _ _)
          go_wp2_with fail
          go_cut [66] (fun _ wx => Own wx Y.heap.size s2 n2 (intoN dt dt' (whereAt sh ps) N) ∧ But (fun b => At s2 n2 b) T wx)
          case first =>
            go_region_held (fun wx => wx.cell? ⟨p, 0, none⟩ = some (.bool c) ∧ wx.cell? ⟨p, 1, none⟩ = some (.slice s1 np f1) ∧ wx.cell? ⟨p, 2, none⟩ = some (.slice s2 n2 f2) ∧ wx.cell? ⟨w.heap.size + 1, 0, none⟩ = some (.bool c) ∧ wx.cell? ⟨w.heap.size + 1, 1, none⟩ = some (.slice (some b1) m1 d1) ∧ wx.cell? ⟨w.heap.size + 1, 2, none⟩ = some (.slice (some b2) m2 d2)) (first | exact HKEEP2 _ hKG | exact HKEEP _ hKE | exact HKEEP _ (Below.refl _ _).drew)
              (first
              | (go_at_call 49; refine (cellsOf_any _ _ _ (pCn sh ps) _ (by exact (unhide HRC).row.below (Nat.le_refl _) (Below.refl _ _).drew) (fun k => ((unhide HCI).take k).bd)).mono ?_; rintro e wq ⟨rfl, rfl⟩; rw [unhide HCN])
              | (go_at_call 60; refine (extended_any _ _ _ _ _ _ _ N hs4 _).mono ?_; rintro e wE ⟨rfl, hbE⟩; rw [← unhide HSS]; have hKE : Below T.heap.size T wE := (Below.refl _ _).drew.trans hbE; obtain ⟨z0, z1, z2, z3, z4, z5⟩ := HKEEP _ hKE)
              | (go_at_call 74; refine (putO_any c s1 (some b2) ac np m2 f1 d2 np cc n2 f2 Y.heap.size st N s2 sh dt' (pCn sh ps) dt 82 (.slice (some ⟨g, 0, none⟩) np np) eg_number' (pNum sh ps) _ N ((unhide HO1).row.below (Nat.le_refl _) hKE) (((unhide L4).below (Nat.le_refl _) (unhide HYT)).below (Nat.le_refl _) hKE) ((unhide HRC).row.below (Nat.le_refl _) hKE) ((unhide HO2).below (Nat.le_refl _) hKE) (unhide HSI) (unhide HCI) h5 (unhide HCN) (unhide HPD) (unhide HST) (unhide HNUM _ hKE) (fun k h1 h2 => unhide HAPT k h2 h1) (fun k h1 h2 => by have := unhide HI2 k h1; have := (unhide L4).hi h2; omega) (fun k h1 h2 => by have := unhide HI2 k h1; have := (unhide HRC).low h2; omega)).mono ?_; rintro e wG ⟨⟨vG, rfl⟩, hOG, hbG⟩; rw [unhide HPI] at hOG; have hKG : But (fun b => At s2 n2 b) T wG := ((But.of_below (S := fun b => At s2 n2 b) hKE).trans hbG).mono (fun k hk => hk.elim id id)))
            all_goals go_wp2_with fail
            all_goals (go_meet; case rel => exact ⟨hOG, hKG⟩)
          case rest =>
            obtain ⟨hOG, hbG⟩ := hcut
            have HBG : Hid (Box wc p c (.slice s1 np f1) (.slice s2 n2 f2)) := (unhide HBX).but hbG (fun h => unhide HP2 h)
            have HLO : Hid (Below Y.heap.size Y wc) := (unhide HYT).trans (hbG.below (unhide HYT).size (fun k hk => (unhide HI2 k hk).1))
            have HOA : Hid (Own wc Y.heap.size s1 np sh) := hbG.own (unhide HO1) (fun k h1 h2 => unhide HAPT k h2 h1)
            have HOB := hide hOG
            have HC6 := hide ((unhide C6).below (Nat.le_refl _) (unhide HLO))
            have HBE := hide ((unhide HB).trans ((unhide HLO).mono hwy))
            clear hOG hbG x0 x1 x2 x3 x4 x5 HKEEP HKEEP2
            obtain ⟨u0, u1, u2, u3, u4, u5, u6⟩ := (unhide HBG).all
            obtain ⟨q0, q1, q2, q3, q4, q5, q6⟩ := (unhide HC6).all
            have hpw : p ≠ w.heap.size + 2 := by omega
            go_wp2
            have hx := (unhide HC6).sets (c' := c) (u1 := .slice s1 np f1) (u2 := .slice s2 n2 f2)
            obtain ⟨r0, r1, r2, _, _, _⟩ := hx.all
            refine bodyPost_ret (v := .tuple #[.agg #[.bool c, .slice s1 np f1, .slice s2 n2 f2], .int .i64 0]) (by simp [results, Try.results34, go_sem, r0, r1, r2]) rfl ?_
            rw [unhide HGO]
            have e1 : ∀ (o : Nat) (k : Nat), At s1 np k → k ≠ (⟨w.heap.size + 2, o, none⟩ : Addr).block := fun o k hk => by have := unhide HI1 k hk; simp; omega
            have e2 : ∀ (o : Nat) (k : Nat), At s2 n2 k → k ≠ (⟨w.heap.size + 2, o, none⟩ : Addr).block := fun o k hk => by have := unhide HI2 k hk; simp; omega
            exact ⟨_, _, _, _, _, _, rfl, (((((unhide HOA).mono hwy).other (e1 0) _).other (e1 1) _).other (e1 2) _), (((((unhide HOB).mono hwy).other (e2 0) _).other (e2 1) _).other (e2 2) _), unhide HAPT, (((unhide HBE).setCell (by simp <;> omega) _).setCell (by simp <;> omega) _).setCell (by simp <;> omega) _, fun _ => unhide HSM⟩

end Go.Proofs.Ytngbmcljhcckmaa
