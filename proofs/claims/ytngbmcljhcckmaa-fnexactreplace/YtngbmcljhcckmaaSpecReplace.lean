import Derived.Test.YtngbmcljhcckmaaSpecWhere
import Derived.Test.YtngbmcljhcckmaaSpecInto
import Derived.Test.YtngbmcljhcckmaaSpecNone
namespace Go.Proofs.Ytngbmcljhcckmaa
open Go.RowKit

set_option maxRecDepth 20000 in
set_option maxHeartbeats 8000000 in
theorem Replace_any (c d : Bool) (a1 a2 b1 b2 : Addr) (ap : Option Addr) (n1 n2 c1 c2 np cp m1 m2 d1 d2 : Nat) (sh dt : List Int) (ps : List PartD) (sh' dt' : List Int) (w : World) (h1 : Row w (some a1) n1 sh) (h2 : Row w (some a2) n2 dt) (hp : PRowN w ap np ps) (k1 : Row w (some b1) m1 sh') (k2 : Row w (some b2) m2 dt') :
    Calls Try.prog 32 #[.agg #[.bool c, .slice (some a1) n1 c1, .slice (some a2) n2 c2], .slice ap np cp, .agg #[.bool d, .slice (some b1) m1 d1, .slice (some b2) m2 d2]] w (GivesRow w (replaceA c sh dt ps d sh' dt')) := by
  have hl1 := hide h1.len
  have hl2 := hide h2.len
  have H1 := hide h1
  have H2 := hide h2
  have K1 := hide k1
  have K2 := hide k2
  have hl4 := hide k2.len
  have HP := hide hp
  clear h1 h2 hp k1 k2
  obtain ⟨r1, hr1⟩ : ∃ r, arrOk c sh dt = r := ⟨_, rfl⟩
  have HR1 := hide hr1
  obtain ⟨r2, hr2⟩ : ∃ r, arrOk d sh' dt' = r := ⟨_, rfl⟩
  have HR2 := hide hr2
  clear hr1 hr2
  go_enter Try.func32, Try.ntmps32
  go_wp2_with fail
  refine (ArrayOk_eq _ _ _ _ _ _ _ sh dt _ ((((unhide H1).alloc _).alloc _).alloc _) ((((unhide H2).alloc _).alloc _).alloc _) _ HR1).mono ?_
  rintro e V ⟨rfl, hb1⟩
  obtain ⟨B4, B5, B6, hB1⟩ := boxes3 hb1
  have C4 := hide B4
  have C5 := hide B5
  have C6 := hide B6
  have HB := hide hB1
  clear hb1 B4 B5 B6 hB1
  obtain ⟨x0, x1, x2, x3, x4, x5, x6⟩ := (unhide C4).all
  obtain ⟨y0, y1, y2, y3, y4, y5, y6⟩ := (unhide C5).all
  cases r1 with
  | false =>
    have HS : Hid (replaceA c sh dt ps d sh' dt' = noAns 3) := repl_bad1 (unhide HR1)
    go_wp2_with fail
    refine (l4None_any _).mono ?_
    rintro e w9 ⟨rfl, hb9⟩
    obtain ⟨q0, q1, q2, q3, q4, q5, q6⟩ := ((unhide C6).below (Nat.le_refl _) hb9).all
    have hB9 := hide ((unhide HB).trans (hb9.mono (unhide HB).size))
    clear hb9 x0 x1 x2 x3 x4 x5 x6 y0 y1 y2 y3 y4 y5 y6
    go_wp2
    refine bodyPost_ret (v := .tuple #[.agg #[.bool false, .slice none 0 0, .slice none 0 0], .int .i64 3]) (by simp [results, Try.results32, go_sem, q0, q1, q2]) rfl ?_
    rw [unhide HS]
    exact ⟨none, 0, 0, none, 0, 0, rfl, row_nil _ _, row_nil _ _, (((unhide hB9).setCell (by simp <;> omega) _).setCell (by simp <;> omega) _).setCell (by simp <;> omega) _⟩
  | true =>
    go_wp2_with fail
    refine (ArrayOk_eq _ _ _ _ _ _ _ sh' dt' _ (by exact (unhide K1).below (Nat.le_refl _) (unhide HB)) (by exact (unhide K2).below (Nat.le_refl _) (unhide HB)) _ HR2).mono ?_
    rintro e Y ⟨rfl, hbY⟩
    replace C4 := hide ((unhide C4).below (Nat.le_refl _) hbY)
    replace C5 := hide ((unhide C5).below (Nat.le_refl _) hbY)
    replace C6 := hide ((unhide C6).below (Nat.le_refl _) hbY)
    replace HB := hide ((unhide HB).trans (hbY.mono (unhide HB).size))
    clear hbY x0 x1 x2 x3 x4 x5 x6 y0 y1 y2 y3 y4 y5 y6
    clear V
    obtain ⟨x0, x1, x2, x3, x4, x5, x6⟩ := (unhide C4).all
    obtain ⟨y0, y1, y2, y3, y4, y5, y6⟩ := (unhide C5).all
    cases r2 with
    | false =>
      have HS : Hid (replaceA c sh dt ps d sh' dt' = noAns 3) := repl_bad2 (unhide HR2)
      go_wp2_with fail
      refine (l4None_any _).mono ?_
      rintro e w9 ⟨rfl, hb9⟩
      obtain ⟨q0, q1, q2, q3, q4, q5, q6⟩ := ((unhide C6).below (Nat.le_refl _) hb9).all
      have hB9 := hide ((unhide HB).trans (hb9.mono (unhide HB).size))
      clear hb9 x0 x1 x2 x3 x4 x5 x6 y0 y1 y2 y3 y4 y5 y6
      go_wp2
      refine bodyPost_ret (v := .tuple #[.agg #[.bool false, .slice none 0 0, .slice none 0 0], .int .i64 3]) (by simp [results, Try.results32, go_sem, q0, q1, q2]) rfl ?_
      rw [unhide HS]
      exact ⟨none, 0, 0, none, 0, 0, rfl, row_nil _ _, row_nil _ _, (((unhide hB9).setCell (by simp <;> omega) _).setCell (by simp <;> omega) _).setCell (by simp <;> omega) _⟩
    | true =>
      obtain ⟨code, hcode⟩ : ∃ x, partsCode sh ps = x := ⟨_, rfl⟩
      have HCODE := hide hcode
      obtain ⟨hsi, hpd, h5'⟩ := shapeIn_of (unhide HR1)
      have h5 : n1 ≤ 5 := by rw [← unhide hl1]; exact h5'
      obtain ⟨N, hN⟩ : ∃ N : Nat, code = 0 → prodAll (pSh sh ps) = (N : Int) := ⟨(prodAll (pSh sh ps)).toNat, fun h0 => by
        obtain ⟨ho, hb⟩ := parts_ok (by rw [hcode]; exact h0)
        have := (counts_in ho hsi hb).2.2
        omega⟩
      have HN := hide hN
      have HSI := hide hsi
      have HPD : Hid (prodAll sh = (n2 : Int)) := hpd.trans (by rw [unhide hl2])
      clear hcode hN hsi hpd h5'
      go_wp2_with fail
      refine (l5Where_any _ _ _ _ _ _ _ _ _ _ sh ps _ (by exact (unhide H1).below (Nat.le_refl _) (unhide HB)) (by exact (unhide HP).below (Nat.le_refl _) (unhide HB)) (unhide HSI) h5 code HCODE N (unhide HN)).mono ?_
      rintro e Q ⟨v, u, rfl, hbQ, hpl⟩
      have HPL := hide hpl
      clear hpl
      replace C4 := hide ((unhide C4).below (Nat.le_refl _) hbQ)
      replace C5 := hide ((unhide C5).below (Nat.le_refl _) hbQ)
      replace C6 := hide ((unhide C6).below (Nat.le_refl _) hbQ)
      replace HB := hide ((unhide HB).trans (hbQ.mono (unhide HB).size))
      clear hbQ x0 x1 x2 x3 x4 x5 x6 y0 y1 y2 y3 y4 y5 y6
      clear Y
      obtain ⟨x0, x1, x2, x3, x4, x5, x6⟩ := (unhide C4).all
      obtain ⟨y0, y1, y2, y3, y4, y5, y6⟩ := (unhide C5).all
      by_cases hc0 : code = 0
      case neg =>
        have HS : Hid (replaceA c sh dt ps d sh' dt' = noAns code) := repl_code (unhide HR1) (unhide HR2) code (unhide HCODE) hc0
        have hcb : (code != 0) = true := by simp [hc0]
        clear hc0 HPL HN
        go_wp2_with fail
        refine (l4None_any _).mono ?_
        rintro e w9 ⟨rfl, hb9⟩
        obtain ⟨q0, q1, q2, q3, q4, q5, q6⟩ := ((unhide C6).below (Nat.le_refl _) hb9).all
        have hB9 := hide ((unhide HB).trans (hb9.mono (unhide HB).size))
        clear hb9 x0 x1 x2 x3 x4 x5 x6 y0 y1 y2 y3 y4 y5 y6
        go_wp2
        refine bodyPost_ret (v := .tuple #[.agg #[.bool false, .slice none 0 0, .slice none 0 0], .int .i64 code]) (by simp [results, Try.results32, go_sem, q0, q1, q2]) rfl ?_
        rw [unhide HS]
        exact ⟨none, 0, 0, none, 0, 0, rfl, row_nil _ _, row_nil _ _, (((unhide hB9).setCell (by simp <;> omega) _).setCell (by simp <;> omega) _).setCell (by simp <;> omega) _⟩
      subst hc0
      obtain ⟨ga, ca, gb, nb, cb, rfl, rfl, hca, hcb, hra, hrb⟩ := unhide HPL rfl
      have hNv := unhide HN rfl
      obtain ⟨ho, hsb⟩ := parts_ok (unhide HCODE)
      have hNb : N ≤ 10000 := by have := (counts_in ho (unhide HSI) hsb).2.2; omega
      have HGO : Hid (replaceA c sh dt ps d sh' dt' = intoA c d sh dt sh' dt' (pSh sh ps) (whereAt sh ps) N) := repl_into (unhide HR1) (unhide HR2) (unhide HCODE) N hNv
      have HWB : Hid (∀ t, t < N → 0 ≤ whereAt sh ps t ∧ whereAt sh ps t < (n2 : Int)) := fun t ht => by
        have := (where_bd ho (unhide HSI) hsb (t := t) (by rw [hNv]; omega)).2
        rw [unhide HPD] at this
        exact this
      have HCT : Hid (fitC (pSh sh ps) sh' dt' = 0 → m2 = 1 ∨ m2 = N) := fun h => by
        have := fit_count (unhide HR2) h hNv
        rw [unhide hl4] at this
        exact this
      have HRA := hide hra
      have HRB := hide hrb
      clear hra hrb ho hsb hNv HN HPL HCODE HR1 HR2 HPD HSI hca hcb
      go_wp2_with fail
      refine (l5Into_any _ _ _ _ _ _ _ _ _ _ _ _ _ _ _ _ _ _ _ _ sh dt sh' dt' (pSh sh ps) (whereAt sh ps) _ (by exact (unhide H1).below (Nat.le_refl _) (unhide HB)) (by exact (unhide H2).below (Nat.le_refl _) (unhide HB)) (by exact (unhide K1).below (Nat.le_refl _) (unhide HB)) (by exact (unhide K2).below (Nat.le_refl _) (unhide HB)) (by exact unhide HRA) (by exact unhide HRB) (unhide HWB) hNb (unhide HCT)).mono ?_
      rw [← unhide HGO]
      rintro e Z ⟨e1, k1, f1, e2, k2, f2, rfl, hE1, hE2, hbZ⟩
      have HZ6 := hide ((unhide C6).below (Nat.le_refl _) hbZ)
      have HBZ := hide ((unhide HB).trans (hbZ.mono (unhide HB).size))
      have HE1 := hide hE1
      have HE2 := hide hE2
      clear hE1 hE2 hbZ x0 x1 x2 x3 x4 x5 x6 y0 y1 y2 y3 y4 y5 y6
      obtain ⟨q0, q1, q2, q3, q4, q5, q6⟩ := (unhide HZ6).all
      go_wp2
      have hx := (unhide HZ6).sets (c' := (replaceA c sh dt ps d sh' dt').c) (u1 := .slice e1 k1 f1) (u2 := .slice e2 k2 f2)
      obtain ⟨r0, r1, r2, _, _, _⟩ := hx.all
      refine bodyPost_ret (v := .tuple #[.agg #[.bool (replaceA c sh dt ps d sh' dt').c, .slice e1 k1 f1, .slice e2 k2 f2], .int .i64 (replaceA c sh dt ps d sh' dt').code]) (by simp [results, Try.results32, go_sem, r0, r1, r2]) rfl ?_
      exact ⟨_, _, _, _, _, _, rfl, (unhide HE1).sets (unhide HZ6) _ _ _, (unhide HE2).sets (unhide HZ6) _ _ _, (((unhide HBZ).setCell (by simp <;> omega) _).setCell (by simp <;> omega) _).setCell (by simp <;> omega) _⟩

end Go.Proofs.Ytngbmcljhcckmaa
