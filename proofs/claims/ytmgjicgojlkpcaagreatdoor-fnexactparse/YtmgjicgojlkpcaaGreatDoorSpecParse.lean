import Derived.Test.YtmgjicgojlkpcaaGreatDoorSpecParseA
import Derived.Test.YtmgjicgojlkpcaaGreatDoorSpecTree
import Derived.Test.YtmgjicgojlkpcaaGreatDoorSpecFieldsB
import Derived.Deep.RegionLaw
namespace Go.Proofs.YtmgjicgojlkpcaaGreatDoor
open Go.RowKit

/-- What the specification's Parse gives: a tree that can be read. -/
def GivesRead (r : List NodeD × Int × Nat) (e : Ending) (w' : World) : Prop :=
  ∃ a n c, e = .returned (.tuple #[.agg #[.slice a n c], .int .i64 r.2.1, .int .i64 (r.2.2 : Nat)]) ∧ NRow w' a n r.1

theorem NRow.nil (w : World) : NRow w none 0 [] := ⟨rfl, by omega, .inl rfl⟩

/-- The result's cell and the empty tree's, as they stand. -/
structure Two (r : Nat) (w : World) : Prop where
  c0 : w.cell? ⟨r, 0, none⟩ = some (.slice none 0 0)
  f0 : w.frozen? ⟨r, 0, none⟩ = false
  c1 : w.cell? ⟨r + 1, 0, none⟩ = some (.slice none 0 0)
  lt : r + 1 < w.heap.size
theorem Two.at {B : Nat} {w w' : World} {r : Nat} (h : Two r w) (hB : r + 1 < B) (hb : Below B w w') : Two r w' :=
  ⟨(hb.cell (p := ⟨r, 0, none⟩) (by show r < _; omega)).trans h.c0, (hb.frozen (p := ⟨r, 0, none⟩) (by show r < _; omega)).trans h.f0, (hb.cell (p := ⟨r + 1, 0, none⟩) hB).trans h.c1, Nat.lt_of_lt_of_le h.lt hb.size⟩

theorem normR_1 (r : Res) : (normR r).1 = r.1 := by
  obtain ⟨b, q, l⟩ := r
  cases b <;> rfl
theorem normR_2 (r : Res) : (normR r).2.1 = r.2.1 := by
  obtain ⟨b, q, l⟩ := r
  cases b <;> rfl
theorem normR_t {r : Res} {q : Nat} {l : List (List NodeD)} (h : normR r = (true, q, l)) : r = (true, q, l) := by
  obtain ⟨b, q', l'⟩ := r
  cases b with
  | false => cases h
  | true => exact h

theorem sparse_new (w : World) : Below w.heap.size w ((w.alloc (.cells #[.slice none 0 0] 29)).alloc (.cells #[.slice none 0 0] 29)) ∧ Two w.heap.size ((w.alloc (.cells #[.slice none 0 0] 29)).alloc (.cells #[.slice none 0 0] 29)) ∧ ((w.alloc (.cells #[.slice none 0 0] 29)).alloc (.cells #[.slice none 0 0] 29)).heap[w.heap.size]? = some (.cells #[.slice none 0 0] 29 (0, 0)) := by
  have hb : ((w.alloc (.cells #[.slice none 0 0] 29)).alloc (.cells #[.slice none 0 0] 29)).heap[w.heap.size]? = some (.cells #[.slice none 0 0] 29 (0, 0)) := by
    rw [Below.heap_alloc _ _ _ (by simp)]
    show (w.heap.push _)[w.heap.size]? = _
    simp
  refine ⟨((Below.refl _ _).alloc (Nat.le_refl _) _).alloc (by simp) _, ⟨by simp [World.cell?, hb], frozen_of_row _ _ 0 _ _ hb, by simp, by simp⟩, hb⟩

set_option maxRecDepth 20000 in
set_option maxHeartbeats 4000000 in
theorem specParse_code (b off cap : Nat) (s : ByteArray) (w : World) (h : RowB w (some ⟨b, off, none⟩) s.size (bz s)) (hs : s.size ≤ 17592186044416) (hc : (lexT s).2.1 ≠ 0) :
    Calls Tryz.prog 18 #[.slice (some ⟨b, off, none⟩) s.size cap] w fun e w' => GivesRead (parseT s) e w' ∧ Below w.heap.size w w' := by
  obtain ⟨hbA, h2, _⟩ := sparse_new w
  have HL := hide (specLex_any b off cap s _ (h.below (Nat.le_refl _) hbA) hs)
  have HBA := hide hbA
  have H2 := hide h2
  have hr : parseT s = ([], (lexT s).2.1, (lexT s).2.2) := by unfold parseT; rw [if_pos hc]
  rw [hr]
  generalize lexT s = L at HL hc ⊢
  obtain ⟨ts, c, q⟩ := L
  have hc0 : (c == 0) = false := by simpa using hc
  clear h hs hbA hr hc h2
  go_enter Tryz.func18, Tryz.ntmps18
  go_wp2_with (go_at_call 42; refine (unhide HL).mono ?_; rintro e w2 ⟨g, n, cp, rfl, _, hb2⟩; obtain ⟨hcell, hfz, hc1, _⟩ := (unhide H2).at (unhide H2).lt hb2; have HB2 := hide ((unhide HBA).trans (hb2.mono (unhide HBA).size)); clear hb2; dsimp only)
  refine bodyPost_ret (v := .tuple #[.agg #[.slice none 0 0], .int .i64 c, .int .i64 (q : Nat)]) (by simp [results, Tryz.results18, go_sem, hcell]) rfl ?_
  exact ⟨⟨_, _, _, rfl, NRow.nil _⟩, (unhide HB2).setCell (Nat.le_refl _) _⟩

set_option maxRecDepth 20000 in
set_option maxHeartbeats 8000000 in
theorem specParse_go (b off cap : Nat) (s : ByteArray) (w : World) (h : RowB w (some ⟨b, off, none⟩) s.size (bz s)) (hs : s.size ≤ 17592186044416) (hc : (lexT s).2.1 = 0) (hts : (lexT s).1 ≠ []) :
    Calls Tryz.prog 18 #[.slice (some ⟨b, off, none⟩) s.size cap] w fun e w' => GivesRead (parseT s) e w' ∧ Below w.heap.size w w' := by
  obtain ⟨i0, hi, hz0, hz1, hz2⟩ := info_parts info_int
  obtain ⟨hbA, h2, hblk⟩ := sparse_new w
  have HL := hide (specLex_any b off cap s _ (h.below (Nat.le_refl _) hbA) hs)
  have HBA := hide hbA
  have H2 := hide h2
  have HBK := hide hblk
  have hr0 : parseT s = if (lineR (lexT s).1).1 = true ∧ ¬ (lineR (lexT s).1).2.1 < (lexT s).1.length then (if treeB txtB (lineN (lineR (lexT s).1).2.2) = true then (lineN (lineR (lexT s).1).2.2, 0, 0) else ([], 7, 0)) else ([], 1, (tokA (lexT s).1 s.size (lineR (lexT s).1).2.1).p) := by unfold parseT; rw [if_neg (by simpa using hc)]
  generalize parseT s = PT at hr0 ⊢
  have HPT := hide hr0
  obtain ⟨hm1, hm2⟩ := lex_made s
  have hs2 : s.size ≤ 2000 := lex_short hc
  generalize lexT s = L at HL hc hts hm1 hm2 HPT
  obtain ⟨ts, c, q⟩ := L
  have hc0 : c = 0 := hc
  subst hc0
  have hm2' : ts.length ≤ 2000 := hm2
  have hts' : ts ≠ [] := hts
  have HM1 := hide hm1
  generalize hN : s.size = n at HL hs2 HPT ⊢
  clear h hs hbA hr0 hc hm1 hm2 hN h2 hts hblk
  go_enter Tryz.func18, Tryz.ntmps18
  go_upto_region 5 with (go_at_call 42; refine (unhide HL).mono ?_; rintro e Z ⟨g, tn, tc, rfl, hT, hb2⟩; have hT' : RowT Z (some ⟨g, 0, none⟩) tn ts := hT; have hln := hT'.len; have H2Z := hide ((unhide H2).at (unhide H2).lt hb2); have HGR : Hid (tn ≠ 0 → g ≠ w.heap.size) := (hide fun h0 e => by obtain ⟨tb, tf, y, e2, _, _, _, y1, _⟩ := hT'.get (j := 0) (by omega); cases e2; have hbl := (hb2.block w.heap.size (by simp; omega)).trans (unhide HBK); rw [e] at y1; simp [World.cell?, hbl] at y1); have HBZ := hide ((unhide HBA).trans (hb2.mono (unhide HBA).size)); have HE : Hid (SEnv Z (some ⟨g, 0, none⟩) tn ts) := ⟨hT', fun y hy => ((unhide HM1) y hy).1.1, fun y hy => ((unhide HM1) y hy).1.2.1, fun y hy => by have := ((unhide HM1) y hy).2.1; omega, by omega⟩; clear hb2 hT hT' HBK; dsimp only)
  have hrl : w.heap.size + 1 < Z.heap.size := (unhide H2Z).lt
  have hpos : 0 < ts.length := List.length_pos_iff.2 hts'
  have hpos' : (0 : Int) < (tn : Int) := by omega
  obtain ⟨R, hR⟩ : ∃ R, normR (lineR ts) = R := ⟨_, rfl⟩
  obtain ⟨f9, hf9⟩ : ∃ f9, 6 * ts.length + 8 = f9 := ⟨_, rfl⟩
  have hlp : prs (seenT ts) (f9 + 1) 7 0 [] = some (lineR ts) := by rw [← hf9]; exact line_prs hts'
  have hser : bindR (serS (seenT ts) 8900 (fun j => prs (seenT ts) (f9 + 1) 5 j []) (f9 + 1) 0) (fun q l => okR q ([] ++ l)) = some R := by
    rw [ser7_leq (seenT ts) (f9 + 1) (f9 + 1) 0 (Nat.le_refl _) _ hlp, bind_norm, hR]
  have HRR := hide hR
  have HLV := hide (fun (j : Nat) (hj : j ≤ ts.length) => levP (p := Z.heap.size) (tc := tc) (unhide HE) (by omega) (ts.length + 1) j hj (by omega))
  obtain ⟨yb, q1, l1, hv⟩ : ∃ yb q1 l1, prs (seenT ts) (f9 + 1) 5 0 [] = some (yb, q1, l1) := by
    cases hv : prs (seenT ts) (f9 + 1) 5 0 [] with
    | none => rw [serS] at hser; rw [hv] at hser; cases hser
    | some y => exact ⟨y.1, y.2.1, y.2.2, rfl⟩
  obtain ⟨G1, hG1, hrd⟩ := (unhide HLV 0 (Nat.zero_le _)).s _ _ hv
  have hq1 : q1 ≤ ts.length := (prs_adv (seen_ends ts) (f9 + 1) 5 0 [] (Nat.zero_le _) _ _ _ hv).2.1
  obtain ⟨W0, hW0⟩ : ∃ W0, W0 = Z.alloc (.cells #[.slice (some ⟨g, 0, none⟩) tn tc, .int .i64 0, .bool false, .slice none 0 0] 81) := ⟨_, rfl⟩
  have hW0s : W0.heap.size = Z.heap.size + 1 := by rw [hW0]; simp
  have HK0 : Hid (KS Z Z.heap.size (some ⟨g, 0, none⟩) tn tc W0 (.slice none 0 0) [] [] [] 0 false (W0.alloc (.cells #[] 3)) (.slice none 0 0) (.slice (some ⟨Z.heap.size + 1, 0, none⟩) 0 0) []) := by
    have h1 : SPS Z Z.heap.size (some ⟨g, 0, none⟩) tn tc false W0 0 (.slice none 0 0) [] := by rw [hW0]; exact sps_new
    have h2 := (KS.start h1).list [] (by show 0 ≤ 100; omega)
    rw [hW0s] at h2
    exact h2
  have HIT := hide (fun (V : World) (nn u : Value) (us : List Int) (hk : KS Z Z.heap.size (some ⟨g, 0, none⟩) tn tc W0 (.slice none 0 0) [] [] [] 0 false V nn u us) => hk.read hrd (by show 0 + _ ≤ _; omega))
  have HNX : Hid (∀ (ds : List NodeD) (nn u : Value) (z : Int) (wr : World), KS Z Z.heap.size (some ⟨g, 0, none⟩) tn tc W0 (.slice none 0 0) [] [] ([] ++ ds) q1 (!G1) wr nn u ([] ++ [z]) → 0 ≤ q1 → ds.length ≤ 4 * (q1 - 0) → (G1 = true → ds.length + 1 ≤ 4 * (q1 - 0) ∧ ∃ e' : Nat, z = e' ∧ TreeAt ([] ++ ds) e' (l1.headD [])) → PrS Z Z.heap.size (some ⟨g, 0, none⟩) tn tc ts (f9 + 1) R W0 (.slice none 0 0) u wr) := fun ds nn u z wr hk h3 h4 h5 => pr_next (es := []) (ls := []) hv hG1 (Nat.zero_le _) hser (Nat.zero_le _) (Nat.zero_le _) TreesAt.nil hk h3 h4 h5
  have HW0 := hide hW0
  have hzl0 : Z.heap.size ≤ W0.heap.size := by omega
  clear hser hv hG1 hrd hf9 hlp hW0s hR
  go_wp2_with (first | (go_at_call 43; rw [← unhide HW0]; refine (unhide HIT _ _ _ _ (unhide HK0)).mono ?_; clear HIT; rintro e w6 ⟨z, nd6, ds, rfl, hk, hs, hi6, hl6, ht6⟩; have HK6 := hide (hk.below ((Below.refl _ _).alloc (Nat.le_refl _) (.cells #[.int .i64 z] 3))); have HI6 := hide hi6; have HL6 := hide hl6; have HT6 := hide ht6; have hzl6 := hk.low.size; clear hk hs hi6 hl6 ht6) | (at_builtin; refine wpList_append_lies _ rfl _ _ 45 rfl Z.heap.size 3 i0 (.int .i64 0) 1 8 Tryz.underlying45 hi hz0 hz1 hz2 rfl (by decide) (.slice (some ⟨Z.heap.size + 1, 0, none⟩) 0 0) 0 [] rfl (unhide HK6).ownR ⟨w6.heap.size, 0, none⟩ 1 1 [.int .i64 z] rfl rfl (cells_i _ _) (one_i _) (by omega) (by unfold maxLen; omega) (by omega) (by simp; try omega) (w6.heap.size + 1) (by simp) ?_; intro g' cap' w7 hown' hgrow hat hlt7; obtain ⟨hk7, _⟩ := KS.grew (unhide HK6) hown' hgrow hat (by simp); have HK7 := hide hk7; clear hk7 hown' hgrow hat hlt7))
  go_loopw [10] (fun u wr => Hid (PrS Z Z.heap.size (some ⟨g, 0, none⟩) tn tc ts (f9 + 1) R W0 (.slice none 0 0) u wr)) (fun _ wr => ts.length + 1 - plc Z.heap.size wr)
  case atStart => exact unhide HNX _ _ _ _ _ (unhide HK7) (unhide HI6) (unhide HL6) (unhide HT6)
  case round =>
    obtain ⟨j, ns, nn, cs, bb, hj, hnl, hcl, hk, hcase⟩ := unhide hrel
    clear HNX HK7 HK6 HK0 HI6 HL6 HT6 hrel hzl6
    have HKR := hide hk
    have HPL := hide hk.plc
    obtain ⟨u0, uc, rfl⟩ := hk.slice
    have hzl := hk.low.size
    clear hk
    have hjt : j ≤ tn := by omega
    rcases hcase with ⟨rfl, es, ls, f, hes, htr, hl⟩ | ⟨rfl, hRj, hRf⟩
    case inr =>
      have HF : Hid (PT = ([], 1, (tokA ts n j).p)) := hide (by
        rw [unhide HPT]
        have h1 := unhide HRR
        have h2 : (lineR ts).2.1 = j := by rw [← normR_2, h1]; exact hRj
        rw [if_neg (fun hc => by
          rcases hRf with h3 | h3
          · rw [← h1, normR_1, hc.1] at h3
            cases h3
          · exact hc.2 (by rw [h2]; exact h3)), h2])
      have HHB := hide ((unhide HKR).via fun _ hX => hasBad hX ⟨#[226, 139, 132]⟩)
      clear hRf HLV
      by_cases hjl : j < ts.length
      · have hjl' : (j : Int) < (tn : Int) := by omega
        have hjd : decide (j < tn) = true := decide_eq_true (by omega)
        obtain ⟨tb, tf, y, et, hbl, hy, _, _, _, y3⟩ := (unhide HE).row.get (j := j) (by omega)
        cases et
        have hgr : ¬ g = w.heap.size := unhide HGR (by omega)
        have HPY : Hid ((tokA ts n j).p = y.p) := hide (by rw [tokA_in hy])
        obtain ⟨yp, hyp⟩ : ∃ yp, y.p = yp := ⟨_, rfl⟩
        rw [hyp] at y3 HPY
        have hpr : ¬ Z.heap.size = w.heap.size := by omega
        clear hy hyp
        go_wp2_with (go_at_call 44; refine (unhide HHB).mono ?_; rintro e w5 ⟨rfl, hk, _⟩; obtain ⟨p0, p1, p2, p3, f0, f1, f2, f3, hpl⟩ := hk.all; have hlow := hk.low; obtain ⟨c50, f50, c51, _⟩ := (unhide H2Z).at (unhide H2Z).lt hlow; have t3 : w5.cell? ⟨g, 0 + j * 4 + 3, none⟩ = some (.int .i64 (yp : Nat)) := (hlow.cell (p := ⟨g, 0 + j * 4 + 3, none⟩) hbl).trans y3; rw [Nat.zero_add] at t3; have HB5 := hide ((unhide HBZ).trans (hlow.mono (unhide HBZ).size)); clear hk hlow)
        go_region
        all_goals go_wp2_with fail
        all_goals (refine bodyPost_ret (v := .tuple #[.agg #[.slice none 0 0], .int .i64 1, .int .i64 (yp : Nat)]) (by simp [results, Tryz.results18, go_sem, c50]) rfl ?_; rw [unhide HF, unhide HPY]; exact ⟨⟨_, _, _, rfl, NRow.nil _⟩, (by first | exact ((unhide HB5).setCell (Nat.le_refl _) _).drew | exact ((unhide HB5).drew).setCell (Nat.le_refl _) _)⟩)
      · have hje : j = ts.length := by omega
        have hjl' : ¬ (j : Int) < (tn : Int) := by omega
        have hjd : decide (j < tn) = false := decide_eq_false (by omega)
        have HPY : Hid ((tokA ts n j).p = n) := hide (by rw [tokA_out (by omega)])
        clear hje
        go_wp2_with (go_at_call 44; refine (unhide HHB).mono ?_; rintro e w5 ⟨rfl, hk, _⟩; obtain ⟨p0, p1, p2, p3, f0, f1, f2, f3, hpl⟩ := hk.all; have hlow := hk.low; obtain ⟨c50, f50, c51, _⟩ := (unhide H2Z).at (unhide H2Z).lt hlow; have HB5 := hide ((unhide HBZ).trans (hlow.mono (unhide HBZ).size)); clear hk hlow)
        refine bodyPost_ret (v := .tuple #[.agg #[.slice none 0 0], .int .i64 1, .int .i64 (n : Nat)]) (by simp [results, Tryz.results18, go_sem, c50]) rfl ?_
        rw [unhide HF, unhide HPY]
        exact ⟨⟨_, _, _, rfl, NRow.nil _⟩, (unhide HB5).setCell (Nat.le_refl _) _⟩
    case inl =>
      by_cases c8 : (seenT ts).cl j = 8900
      · have hl' := hl
        unfold leftL at hl'
        rw [if_pos c8] at hl'
        have hjl : j < ts.length := seen_ends ts j (by rw [c8]; decide)
        cases f with
        | zero => cases hl'
        | succ f =>
          obtain ⟨yb, q2, l2, hv⟩ : ∃ yb q2 l2, prs (seenT ts) (f9 + 1) 5 (j + 1) [] = some (yb, q2, l2) := by
            cases hv : prs (seenT ts) (f9 + 1) 5 (j + 1) [] with
            | none => rw [serS, hv] at hl'; cases hl'
            | some y => exact ⟨y.1, y.2.1, y.2.2, rfl⟩
          have hq2 : q2 ≤ ts.length := (prs_adv (seen_ends ts) (f9 + 1) 5 (j + 1) [] hjl _ _ _ hv).2.1
          obtain ⟨G2, hG2, hrd⟩ := (unhide HLV (j + 1) hjl).s _ _ hv
          have HHY := hide ((unhide HKR).via fun _ hX => hasYes (unhide HE) hX (by omega) (c := 8900) (by decide) (s := ⟨#[226, 139, 132]⟩) (by kernel_rfl) c8)
          have HIT := hide (fun (V : World) (hk : KS Z Z.heap.size (some ⟨g, 0, none⟩) tn tc W0 (.slice none 0 0) [] [] ns (j + 1) false V nn (.slice u0 cs.length uc) cs) => hk.read hrd (by omega))
          have HNX : Hid (∀ (ds : List NodeD) (nn u : Value) (z : Int) (wr : World), KS Z Z.heap.size (some ⟨g, 0, none⟩) tn tc W0 (.slice none 0 0) [] [] (ns ++ ds) q2 (!G2) wr nn u (cs ++ [z]) → j + 1 ≤ q2 → ds.length ≤ 4 * (q2 - (j + 1)) → (G2 = true → ds.length + 1 ≤ 4 * (q2 - (j + 1)) ∧ ∃ e' : Nat, z = e' ∧ TreeAt (ns ++ ds) e' (l2.headD [])) → PrS Z Z.heap.size (some ⟨g, 0, none⟩) tn tc ts (f9 + 1) R W0 (.slice none 0 0) u wr) := fun ds nn u z wr hk h3 h4 h5 => by
            subst hes
            exact pr_next hv hG2 hjl hl' (by omega) (by have : (castL es).length = es.length := List.length_map ..; omega) htr hk h3 h4 h5
          have hcs4 : cs.length ≤ 4096 := by omega
          clear hl hl' hrd hG2 hv hes htr HLV
          go_wp2_with (first | (go_at_call 44; refine (unhide HHY).mono ?_; clear HHY; rintro e w5 ⟨rfl, hk, _⟩; have HK5 := hide hk; clear hk) | (go_at_call 43; refine (unhide HIT _ (unhide HK5)).mono ?_; clear HIT; rintro e w6 ⟨z, nd6, ds, rfl, hk, hs, hi6, hl6, ht6⟩; have HK6 := hide (hk.below ((Below.refl _ _).alloc (Nat.le_refl _) (.cells #[.int .i64 z] 3))); have HI6 := hide hi6; have HL6 := hide hl6; have HT6 := hide ht6; have hzl6 := hk.low.size; clear hk hs hi6 hl6 ht6) | (at_builtin; refine wpList_append_lies _ rfl _ _ 45 rfl Z.heap.size 3 i0 (.int .i64 0) 1 8 Tryz.underlying45 hi hz0 hz1 hz2 rfl (by decide) _ _ _ rfl (unhide HK6).ownR ⟨w6.heap.size, 0, none⟩ 1 1 [.int .i64 z] rfl rfl (cells_i _ _) (one_i _) (by omega) (by unfold maxLen; omega) (by omega) (by simp; try omega) (w6.heap.size + 1) (by simp) ?_; intro g' cap' w7 hown' hgrow hat hlt7; obtain ⟨hk7, _⟩ := KS.grew (unhide HK6) hown' hgrow hat (by simp); have HK7 := hide hk7; clear hk7 hown' hgrow hat hlt7))
          have HP7 := hide (unhide HK7).plc
          go_roundw
          case rel => exact unhide HNX _ _ _ _ _ (unhide HK7) (unhide HI6) (unhide HL6) (unhide HT6)
          case measure => rw [unhide HPL, unhide HP7]; have := unhide HI6; omega
      · have hl' := hl
        unfold leftL at hl'
        rw [if_neg c8] at hl'
        have hRt : R = (true, j, ls) := by cases hl'; rfl
        have hLt : lineR ts = (true, j, ls) := normR_t ((unhide HRR).trans hRt)
        have HHN := hide ((unhide HKR).via fun _ hX => hasNo (unhide HE) hX (by omega) (c := 8900) (by decide) (s := ⟨#[226, 139, 132]⟩) (by kernel_rfl) c8)
        clear hl hl' HLV
        by_cases hjl : j < ts.length
        · have HF : Hid (PT = ([], 1, (tokA ts n j).p)) := hide (by
            rw [unhide HPT, hLt, if_neg (fun hc => hc.2 hjl)])
          have hjl' : (j : Int) < (tn : Int) := by omega
          have hjd : decide (j < tn) = true := decide_eq_true (by omega)
          obtain ⟨tb, tf, y, et, hbl, hy, _, _, _, y3⟩ := (unhide HE).row.get (j := j) (by omega)
          cases et
          have hgr : ¬ g = w.heap.size := unhide HGR (by omega)
          have HPY : Hid ((tokA ts n j).p = y.p) := hide (by rw [tokA_in hy])
          obtain ⟨yp, hyp⟩ : ∃ yp, y.p = yp := ⟨_, rfl⟩
          rw [hyp] at y3 HPY
          have hpr : ¬ Z.heap.size = w.heap.size := by omega
          clear hy hyp
          go_wp2_with (go_at_call 44; refine (unhide HHN).mono ?_; rintro e w5 ⟨rfl, hk, _⟩; obtain ⟨p0, p1, p2, p3, f0, f1, f2, f3, hpl⟩ := hk.all; have hlow := hk.low; obtain ⟨c50, f50, c51, _⟩ := (unhide H2Z).at (unhide H2Z).lt hlow; have t3 : w5.cell? ⟨g, 0 + j * 4 + 3, none⟩ = some (.int .i64 (yp : Nat)) := (hlow.cell (p := ⟨g, 0 + j * 4 + 3, none⟩) hbl).trans y3; rw [Nat.zero_add] at t3; have HB5 := hide ((unhide HBZ).trans (hlow.mono (unhide HBZ).size)); clear hk hlow)
          go_region
          all_goals go_wp2_with fail
          all_goals (refine bodyPost_ret (v := .tuple #[.agg #[.slice none 0 0], .int .i64 1, .int .i64 (yp : Nat)]) (by simp [results, Tryz.results18, go_sem, c50]) rfl ?_; rw [unhide HF, unhide HPY]; exact ⟨⟨_, _, _, rfl, NRow.nil _⟩, (by first | exact ((unhide HB5).setCell (Nat.le_refl _) _).drew | exact ((unhide HB5).drew).setCell (Nat.le_refl _) _)⟩)
        · have hjl' : ¬ (j : Int) < (tn : Int) := by omega
          have hjd : decide (j < tn) = false := decide_eq_false (by omega)
          obtain ⟨k1, k2, k3, _⟩ := line_knows hm2' (fun y hy => ((unhide HM1) y hy).2.1) hLt
          obtain ⟨k4, k5⟩ := line_small k1 k2 k3
          have HSD := hide (line_smallD k1 k2 k3)
          have HK5s := hide k5
          obtain ⟨S, hS⟩ : ∃ S, treeB txtB (lineN ls) = S := ⟨_, rfl⟩
          have HF : Hid (PT = if S = true then (lineN ls, 0, 0) else ([], 7, 0)) := hide (by rw [unhide HPT, hLt, if_pos ⟨rfl, hjl⟩, hS])
          have HSS := hide hS
          have HTR := hide htr
          have HES := hide hes
          obtain ⟨m, hm⟩ : ∃ m, ns.length = m := ⟨_, rfl⟩
          have hmb : m ≤ 20000 := by omega
          have HM := hide hm
          have hpr : ¬ Z.heap.size = w.heap.size := by omega
          clear k1 k2 k3 k5 hS hLt htr hes hm hjl
          go_wp2_with (first | (go_at_call 44; refine (unhide HHN).mono ?_; rintro e w5 ⟨rfl, hk, _⟩; obtain ⟨p0, p1, p2, p3, f0, f1, f2, f3, hpl⟩ := hk.all; have HK5 := hide hk; clear hk) | (go_at_call 45; refine (KS.put (unhide HK5) 25 0 0 ⟨#[]⟩ (by have := unhide HM; omega)).mono ?_; clear p0 p1 p2 p3 f0 f1 f2 f3 hpl; rintro e w7 ⟨rfl, nd7, hk⟩; rw [unhide HM]; obtain ⟨p0, p1, p2, p3, f0, f1, f2, f3, hpl⟩ := hk.all; have HL7 := hide hk.low; have hzl7 := hk.low.size; rw [unhide HES] at hk; have ho := KS.order hk (unhide HTR) (by have := unhide HM; omega) k4; rw [unhide HM] at ho; have HORD := hide ho; clear hk ho) | (go_at_call 46; refine (unhide HORD).mono ?_; clear HORD; rintro e w8 ⟨v8, xs8, ys8, rfl, hO8, hd8⟩; have hsm8 : SmallC ys8 := (smallC_of hd8 fun x hx => by obtain ⟨_, a, b⟩ := unhide HK5s x hx; exact ⟨by omega, by omega⟩); have hl8 : ys8.length = (lineN ls).length := (by rw [← hd8, List.length_map]); obtain ⟨a8, c8, rfl, hrd8⟩ := hO8.read hsm8 (by omega) (r := w.heap.size) (by omega); rw [hd8] at hrd8; have hb8 := hO8.low; have h28 := (unhide H2Z).at (unhide H2Z).lt hb8; have hbA8 : Below w8.heap.size w8 (w8.alloc (.cells #[.slice a8 ys8.length c8] 29)) := (Below.refl _ _).alloc (Nat.le_refl _) _; have hto := specTree_of l2FieldsOk_any a8 ys8.length c8 (lineN ls) _ (hrd8 _ hbA8).1 (by rw [hl8]; exact unhide HSD); rw [unhide HSS] at hto; have HB8 := hide ((unhide HBZ).trans (hb8.mono (unhide HBZ).size)); generalize ys8.length = X8 at hrd8 hbA8 hto ⊢; have HTO := hide hto; have HRD := hide hrd8; have H28 := hide h28; have HA8 := hide hbA8; clear hO8 hd8 hsm8 hl8 hrd8 hb8 h28 hbA8 hto) | (go_at_call 8; refine (unhide HTO).mono ?_; clear HTO; rintro e w9 ⟨rfl, hb9⟩; have hb89 := (unhide HA8).trans (hb9.mono (unhide HA8).size); have t9 : w9.cell? ⟨w8.heap.size, 0, none⟩ = some (.slice a8 X8 c8) := (hb9.cell (p := ⟨w8.heap.size, 0, none⟩) (by simp)).trans (by simp); obtain ⟨c90, f90, c91, _⟩ := (unhide H28).at (unhide H28).lt hb89; have HR9 := hide (unhide HRD _ hb89).2; have HB9 := hide ((unhide HB8).trans (hb89.mono (unhide HB8).size)); clear hb9 hb89; cases S))
          · refine bodyPost_ret (v := .tuple #[.agg #[.slice none 0 0], .int .i64 7, .int .i64 0]) (by simp [results, Tryz.results18, go_sem, c90]) rfl ?_
            rw [unhide HF]
            exact ⟨⟨_, _, _, rfl, NRow.nil _⟩, (unhide HB9).setCell (Nat.le_refl _) _⟩
          · refine bodyPost_ret (v := .tuple #[.agg #[.slice a8 X8 c8], .int .i64 0, .int .i64 0]) (by simp [results, Tryz.results18, go_sem, c90]) rfl ?_
            rw [unhide HF]
            exact ⟨⟨_, _, _, rfl, unhide HR9 _⟩, (unhide HB9).setCell (Nat.le_refl _) _⟩

set_option maxRecDepth 20000 in
set_option maxHeartbeats 8000000 in
theorem specParse_none (b off cap : Nat) (s : ByteArray) (w : World) (h : RowB w (some ⟨b, off, none⟩) s.size (bz s)) (hs : s.size ≤ 17592186044416) (hc : (lexT s).2.1 = 0) (hts : (lexT s).1 = []) :
    Calls Tryz.prog 18 #[.slice (some ⟨b, off, none⟩) s.size cap] w fun e w' => GivesRead (parseT s) e w' ∧ Below w.heap.size w w' := by
  obtain ⟨i0, hi, hz0, hz1, hz2⟩ := info_parts info_int
  obtain ⟨hbA, h2, hblk⟩ := sparse_new w
  have HL := hide (specLex_any b off cap s _ (h.below (Nat.le_refl _) hbA) hs)
  have HBA := hide hbA
  have H2 := hide h2
  have HBK := hide hblk
  have hr0 : parseT s = if (lineR (lexT s).1).1 = true ∧ ¬ (lineR (lexT s).1).2.1 < (lexT s).1.length then (if treeB txtB (lineN (lineR (lexT s).1).2.2) = true then (lineN (lineR (lexT s).1).2.2, 0, 0) else ([], 7, 0)) else ([], 1, (tokA (lexT s).1 s.size (lineR (lexT s).1).2.1).p) := by unfold parseT; rw [if_neg (by simpa using hc)]
  generalize parseT s = PT at hr0 ⊢
  have HPT := hide hr0
  obtain ⟨hm1, hm2⟩ := lex_made s
  have hs2 : s.size ≤ 2000 := lex_short hc
  generalize lexT s = L at HL hc hts hm1 hm2 HPT
  obtain ⟨ts, c, q⟩ := L
  have hc0 : c = 0 := hc
  subst hc0
  have hm2' : ts.length ≤ 2000 := hm2
  have hts' : ts = [] := hts
  have HM1 := hide hm1
  generalize hN : s.size = n at HL hs2 HPT ⊢
  clear h hs hbA hr0 hc hm1 hm2 hN h2 hts hblk
  go_enter Tryz.func18, Tryz.ntmps18
  go_upto_region 5 with (go_at_call 42; refine (unhide HL).mono ?_; rintro e Z ⟨g, tn, tc, rfl, hT, hb2⟩; have hT' : RowT Z (some ⟨g, 0, none⟩) tn ts := hT; have hln := hT'.len; have H2Z := hide ((unhide H2).at (unhide H2).lt hb2); have HGR : Hid (tn ≠ 0 → g ≠ w.heap.size) := (hide fun h0 e => by obtain ⟨tb, tf, y, e2, _, _, _, y1, _⟩ := hT'.get (j := 0) (by omega); cases e2; have hbl := (hb2.block w.heap.size (by simp; omega)).trans (unhide HBK); rw [e] at y1; simp [World.cell?, hbl] at y1); have HBZ := hide ((unhide HBA).trans (hb2.mono (unhide HBA).size)); have HE : Hid (SEnv Z (some ⟨g, 0, none⟩) tn ts) := ⟨hT', fun y hy => ((unhide HM1) y hy).1.1, fun y hy => ((unhide HM1) y hy).1.2.1, fun y hy => by have := ((unhide HM1) y hy).2.1; omega, by omega⟩; clear hb2 hT hT' HBK; dsimp only)
  have hrl : w.heap.size + 1 < Z.heap.size := (unhide H2Z).lt
  subst hts'
  have ht0 : tn = 0 := by rw [← hln]; rfl
  subst ht0
  have HK5 : Hid (KS Z Z.heap.size (some ⟨g, 0, none⟩) 0 tc (Z.alloc (.cells #[.slice (some ⟨g, 0, none⟩) 0 tc, .int .i64 0, .bool false, .slice none 0 0] 81)) (.slice none 0 0) [] [] [] 0 false ((Z.alloc (.cells #[.slice (some ⟨g, 0, none⟩) 0 tc, .int .i64 0, .bool false, .slice none 0 0] 81)).alloc (.cells #[] 3)) (.slice none 0 0) (.slice (some ⟨Z.heap.size + 1, 0, none⟩) 0 0) []) := by
    have h2 := (KS.start (sps_new (Z := Z) (ta := some ⟨g, 0, none⟩) (tn := 0) (tc := tc))).list [] (by show 0 ≤ 100; omega)
    have hs0 : (Z.alloc (.cells #[.slice (some ⟨g, 0, none⟩) 0 tc, .int .i64 0, .bool false, .slice none 0 0] 81)).heap.size = Z.heap.size + 1 := by simp
    rw [hs0] at h2
    exact h2
  obtain ⟨p0, p1, p2, p3, f0, f1, f2, f3, hpl⟩ := (unhide HK5).all
  have hLt : lineR ([] : List Tok) = (true, 0, []) := rfl
  obtain ⟨ls, hls⟩ : ∃ ls : List (List NodeD), ls = [] := ⟨_, rfl⟩
  rw [← hls] at hLt
  obtain ⟨es, hes⟩ : ∃ es : List Nat, es = [] := ⟨_, rfl⟩
  obtain ⟨ns, hns⟩ : ∃ ns : List NodeD, ns = [] := ⟨_, rfl⟩
  have htr : TreesAt ns es ls := by rw [hes, hls]; exact TreesAt.nil
  have hnl : ns.length ≤ 0 := by rw [hns]; exact Nat.le_refl _
  rw [← hns] at HK5
  have HE0 := hide hes
  clear hls hns
  have hjl : ¬ 0 < ([] : List Tok).length := Nat.not_lt_zero _
  have hjl' : ¬ (0 : Int) < ((0 : Nat) : Int) := by omega
  obtain ⟨k1, k2, k3, _⟩ := line_knows hm2' (fun y hy => ((unhide HM1) y hy).2.1) hLt
  obtain ⟨k4, k5⟩ := line_small k1 k2 k3
  have HSD := hide (line_smallD k1 k2 k3)
  have HK5s := hide k5
  obtain ⟨S, hS⟩ : ∃ S, treeB txtB (lineN ls) = S := ⟨_, rfl⟩
  have HF : Hid (PT = if S = true then (lineN ls, 0, 0) else ([], 7, 0)) := hide (by rw [unhide HPT, hLt, if_pos ⟨rfl, hjl⟩, hS])
  have HSS := hide hS
  have HTR := hide htr
  obtain ⟨m, hm⟩ : ∃ m, ns.length = m := ⟨_, rfl⟩
  have hmb : m ≤ 20000 := by omega
  have HM := hide hm
  have hpr : ¬ Z.heap.size = w.heap.size := by omega
  clear k1 k2 k3 k5 hS hLt htr hes hm hjl
  go_wp2_with (first | (go_at_call 45; refine (KS.put (unhide HK5) 25 0 0 ⟨#[]⟩ (by have := unhide HM; omega)).mono ?_; clear p0 p1 p2 p3 f0 f1 f2 f3 hpl; rintro e w7 ⟨rfl, nd7, hk⟩; rw [unhide HM]; obtain ⟨p0, p1, p2, p3, f0, f1, f2, f3, hpl⟩ := hk.all; have HL7 := hide hk.low; have hzl7 := hk.low.size; have ho := KS.order (es := []) hk (by have h1 := unhide HTR; rw [unhide HE0] at h1; exact h1) (by have := unhide HM; omega) k4; rw [unhide HM] at ho; have HORD := hide ho; clear hk ho) | (go_at_call 46; refine (unhide HORD).mono ?_; clear HORD; rintro e w8 ⟨v8, xs8, ys8, rfl, hO8, hd8⟩; have hsm8 : SmallC ys8 := (smallC_of hd8 fun x hx => by obtain ⟨_, a, b⟩ := unhide HK5s x hx; exact ⟨by omega, by omega⟩); have hl8 : ys8.length = (lineN ls).length := (by rw [← hd8, List.length_map]); obtain ⟨a8, c8, rfl, hrd8⟩ := hO8.read hsm8 (by omega) (r := w.heap.size) (by omega); rw [hd8] at hrd8; have hb8 := hO8.low; have h28 := (unhide H2Z).at (unhide H2Z).lt hb8; have hbA8 : Below w8.heap.size w8 (w8.alloc (.cells #[.slice a8 ys8.length c8] 29)) := (Below.refl _ _).alloc (Nat.le_refl _) _; have hto := specTree_of l2FieldsOk_any a8 ys8.length c8 (lineN ls) _ (hrd8 _ hbA8).1 (by rw [hl8]; exact unhide HSD); rw [unhide HSS] at hto; have HB8 := hide ((unhide HBZ).trans (hb8.mono (unhide HBZ).size)); generalize ys8.length = X8 at hrd8 hbA8 hto ⊢; have HTO := hide hto; have HRD := hide hrd8; have H28 := hide h28; have HA8 := hide hbA8; clear hO8 hd8 hsm8 hl8 hrd8 hb8 h28 hbA8 hto) | (go_at_call 8; refine (unhide HTO).mono ?_; clear HTO; rintro e w9 ⟨rfl, hb9⟩; have hb89 := (unhide HA8).trans (hb9.mono (unhide HA8).size); have t9 : w9.cell? ⟨w8.heap.size, 0, none⟩ = some (.slice a8 X8 c8) := (hb9.cell (p := ⟨w8.heap.size, 0, none⟩) (by simp)).trans (by simp); obtain ⟨c90, f90, c91, _⟩ := (unhide H28).at (unhide H28).lt hb89; have HR9 := hide (unhide HRD _ hb89).2; have HB9 := hide ((unhide HB8).trans (hb89.mono (unhide HB8).size)); clear hb9 hb89; cases S))
  · refine bodyPost_ret (v := .tuple #[.agg #[.slice none 0 0], .int .i64 7, .int .i64 0]) (by simp [results, Tryz.results18, go_sem, c90]) rfl ?_
    rw [unhide HF]
    exact ⟨⟨_, _, _, rfl, NRow.nil _⟩, (unhide HB9).setCell (Nat.le_refl _) _⟩
  · refine bodyPost_ret (v := .tuple #[.agg #[.slice a8 X8 c8], .int .i64 0, .int .i64 0]) (by simp [results, Tryz.results18, go_sem, c90]) rfl ?_
    rw [unhide HF]
    exact ⟨⟨_, _, _, rfl, unhide HR9 _⟩, (unhide HB9).setCell (Nat.le_refl _) _⟩

/-- The specification's Parse. -/
theorem specParse_any (b off cap : Nat) (s : ByteArray) (w : World) (h : RowB w (some ⟨b, off, none⟩) s.size (bz s)) (hs : s.size ≤ 17592186044416) :
    Calls Tryz.prog 18 #[.slice (some ⟨b, off, none⟩) s.size cap] w fun e w' => GivesRead (parseT s) e w' ∧ Below w.heap.size w w' := by
  by_cases hc : (lexT s).2.1 = 0
  · by_cases ht : (lexT s).1 = []
    · exact specParse_none b off cap s w h hs hc ht
    · exact specParse_go b off cap s w h hs hc ht
  · exact specParse_code b off cap s w h hs hc

end Go.Proofs.YtmgjicgojlkpcaaGreatDoor
