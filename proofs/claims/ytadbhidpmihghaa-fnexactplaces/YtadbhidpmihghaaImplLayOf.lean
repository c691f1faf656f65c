import Derived.Test.YtadbhidpmihghaaImplFormed
import Derived.Test.YtadbhidpmihghaaSpecVCopy
import Derived.Deep.RegionHeld3
import Derived.Deep.DeepCutAuto
namespace Go.Proofs.Ytadbhidpmihghaa
open Go.RowKit

theorem lboxes2 {w w1 : World} {c : Int} {v1 v2 : Value} (hb : Below ((w.alloc (.cells #[.int .i64 c, v1, v2] 24)).alloc (.cells #[.int .i64 0, .int .i64 0, .int .i64 0, .int .i64 0, .int .i64 0, .int .i64 0, .int .i64 0, .int .i64 0, .int .i64 0, .int .i64 0, .int .i64 0, .int .i64 0] 47)).heap.size ((w.alloc (.cells #[.int .i64 c, v1, v2] 24)).alloc (.cells #[.int .i64 0, .int .i64 0, .int .i64 0, .int .i64 0, .int .i64 0, .int .i64 0, .int .i64 0, .int .i64 0, .int .i64 0, .int .i64 0, .int .i64 0, .int .i64 0] 47)) w1) :
    VBox w1 w.heap.size c v1 v2 ∧ LBox w1 (w.heap.size + 1) (fun _ => 0) ∧ Below w.heap.size w w1 := by
  have e : (w.alloc (.cells #[.int .i64 c, v1, v2] 24)).heap.size = w.heap.size + 1 := by simp
  refine ⟨((VBox.new w c v1 v2).alloc _).below (Nat.le_refl _) hb, ?_, (((Below.refl _ _).alloc (Nat.le_refl _) _).alloc (by simp) _).trans (hb.mono (by simp; omega))⟩
  have := (LBox.new (w.alloc (.cells #[.int .i64 c, v1, v2] 24)) (fun _ => 0)).below (Nat.le_refl _) hb
  rwa [e] at this

theorem row_src {w : World} {a : Option Addr} {n : Nat} {zs : List Int} (h : Row w a n zs) : 0 < (zs.map (Value.int .i64)).length → ∃ ad, a = some ad ∧ ∀ j v, (zs.map (Value.int .i64))[j]? = some v → w.cell? (ad.add j) = some v := by
  intro hl
  rw [List.length_map, h.len] at hl
  obtain ⟨b, off, rfl, _, _⟩ := h.get hl
  exact ⟨_, rfl, cells_ints h⟩

theorem fl_zero (c : Int) (n i : Nat) : (if i = 0 then c else if i = 1 then (n : Int) else 0) = fl c (List.replicate n 0) [] i := by
  unfold fl
  by_cases h0 : i = 0
  · simp [h0]
  · by_cases h1 : i = 1
    · simp [h1]
    · rw [if_neg h0, if_neg h1, if_neg h0, if_neg h1]
      split
      · by_cases hk : i - 2 < n
        · simp [List.getD, hk]
        · rw [getD_long (by simp; omega)]
      · simp

set_option maxRecDepth 20000 in
set_option maxHeartbeats 4000000 in
theorem layoutOf_any (c : Int) (a1 a2 : Option Addr) (n1 n2 c1 c2 : Nat) (sh st : List Int) (w : World) (h1 : Row w a1 n1 sh) (h2 : Row w a2 n2 st) (r : Bool) (hr : Hid (formed c sh st = r)) :
    Calls Try.prog 38 #[.agg #[.int .i64 c, .slice a1 n1 c1, .slice a2 n2 c2]] w fun e w' => e = .returned (.tuple #[lay (if r = true then fl c sh st else fun _ => 0), .bool r]) ∧ Below w.heap.size w w' := by
  have hl1 := hide h1.len
  have hl2 := hide h2.len
  have H1 := hide h1
  have H2 := hide h2
  clear h1 h2
  have HCF := hide (isFormed_eq c a1 a2 n1 n2 c1 c2 sh st ((w.alloc (.cells #[.int .i64 c, .slice a1 n1 c1, .slice a2 n2 c2] 24)).alloc (.cells #[.int .i64 0, .int .i64 0, .int .i64 0, .int .i64 0, .int .i64 0, .int .i64 0, .int .i64 0, .int .i64 0, .int .i64 0, .int .i64 0, .int .i64 0, .int .i64 0] 47)) (((unhide H1).alloc _).alloc _) (((unhide H2).alloc _).alloc _) r hr)
  go_enter Try.func38, Try.ntmps38
  go_wp2_with fail
  refine (unhide HCF).mono ?_
  rintro e w1 ⟨rfl, hb1⟩
  obtain ⟨B0, B1, hB⟩ := lboxes2 hb1
  have HB := hide hB
  have HV := hide B0
  have HL := hide B1
  clear hb1 hB B0 B1 HCF
  cases r with
  | false =>
    obtain ⟨z0, z1, z2, z3, z4, z5, z6, z7, z8, z9, z10, z11, f0, f1, f2, f3, f4, f5, f6, f7, f8, f9, f10, f11, zl⟩ := (unhide HL).all
    go_wp2
    refine bodyPost_ret (v := .tuple #[lay (fun _ => 0), .bool false]) (by simp [results, Try.results38, go_sem, z0, z1, z2, z3, z4, z5, z6, z7, z8, z9, z10, z11]) rfl ⟨rfl, ?_⟩
    exact Below.sets12 (unhide HB) (by omega) (fun _ => 0)
  | true =>
    obtain ⟨hsb, hle, hcb, hst⟩ := formed_parts (unhide hr)
    have h5 : Hid (sh.length ≤ 5) := (shapeB_in hsb).2
    have hn5 : n1 ≤ 5 := by have := unhide h5; rw [unhide hl1] at this; exact this
    have hn25 : n2 ≤ 5 := by rw [← unhide hl2, hle, unhide hl1]; exact hn5
    have hle' := hide hle
    clear hsb hcb hst hle
    obtain ⟨x0, x1, x2, x3, x4, x5, x6⟩ := (unhide HV).all
    go_upto_region 4 with fail
    have HW : Hid (Below w.heap.size w (w1.alloc (.cells #[.int .i64 c, .int .i64 (n1 : Int), .int .i64 0, .int .i64 0, .int .i64 0, .int .i64 0, .int .i64 0, .int .i64 0, .int .i64 0, .int .i64 0, .int .i64 0, .int .i64 0] 47))) := (unhide HB).alloc (unhide HB).size _
    have GV := hide ((unhide HV).alloc (.cells #[.int .i64 c, .int .i64 (n1 : Int), .int .i64 0, .int .i64 0, .int .i64 0, .int .i64 0, .int .i64 0, .int .i64 0, .int .i64 0, .int .i64 0, .int .i64 0, .int .i64 0] 47))
    have GL := hide ((unhide HL).alloc (.cells #[.int .i64 c, .int .i64 (n1 : Int), .int .i64 0, .int .i64 0, .int .i64 0, .int .i64 0, .int .i64 0, .int .i64 0, .int .i64 0, .int .i64 0, .int .i64 0, .int .i64 0] 47))
    have GP : Hid (LBox (w1.alloc (.cells #[.int .i64 c, .int .i64 (n1 : Int), .int .i64 0, .int .i64 0, .int .i64 0, .int .i64 0, .int .i64 0, .int .i64 0, .int .i64 0, .int .i64 0, .int .i64 0, .int .i64 0] 47)) w1.heap.size (fl c (List.replicate n1 0) [])) := (LBox.new w1 (fun i => if i = 0 then c else if i = 1 then (n1 : Int) else 0)).congr (fun i hi => fl_zero c n1 i)
    have hp1 := (unhide HL).lt
    clear x0 x1 x2 x3 x4 x5 x6
    generalize w1.alloc (.cells #[.int .i64 c, .int .i64 (n1 : Int), .int .i64 0, .int .i64 0, .int .i64 0, .int .i64 0, .int .i64 0, .int .i64 0, .int .i64 0, .int .i64 0, .int .i64 0, .int .i64 0] 47) = W at *
    have hpl := (unhide GP).lt
    generalize w1.heap.size = p at *
    clear HB HV HL w1
    obtain ⟨x0, x1, x2, x3, x4, x5, x6⟩ := (unhide GV).all
    have hsz : (Try.prog.info? 3).map (·.size) = some 1 := by kernel_rfl
    have HN : Hid ((sh.map (Value.int .i64)).length = Nat.min n1 5) := by show _ = _; rw [List.length_map, unhide hl1]; exact (Nat.min_eq_left hn5).symm
    have HF : Hid (2 + (sh.map (Value.int .i64)).length ≤ 12) := by show _ ≤ _; rw [List.length_map, unhide hl1]; omega
    have HC : Hid (0 < (sh.map (Value.int .i64)).length → ∃ ad, a1 = some ad ∧ ∀ j v, (sh.map (Value.int .i64))[j]? = some v → W.cell? (ad.add j) = some v) := row_src ((unhide H1).below (Nat.le_refl _) (unhide HW))
    have HKEEP : ∀ wx, Below p W wx → wx.cell? ⟨w.heap.size, 1, none⟩ = some (.slice a1 n1 c1) := fun wx h => ((unhide GV).low (by omega) h).cells.2.1
    go_cut [] (fun wx => LBox wx p (fl c sh []) ∧ Below p W wx)
    case first =>
      as_aux_lemma =>
        go_region_held3 (fun wx => wx.cell? ⟨w.heap.size, 1, none⟩ = some (.slice a1 n1 c1)) (first | exact HKEEP _ (Below.refl _ _).drew | exact HKEEP _ hb4) (first | (refine step_copy_splice rfl (.tmp 16) (.tmp 18) 22 22 rfl 3 Try.underlying22 hsz _ _ _ _ _ _ rfl rfl p 2 _ 47 (unhide GP) (sh.map (Value.int .i64)) (unhide HN) (fun h => ⟨rfl, unhide HC h⟩) (unhide HF) (one_ints sh) p W (Below.refl _ _).drew (Nat.le_refl _) ?_; intro w4 hg4 hb4; have HG4 := hide hg4.out; clear hg4))
        all_goals go_wp2_with fail
        all_goals go_meet
        all_goals case rel => exact ⟨(LBox.splice2 (unhide HG4) (unhide h5)).congr (fun i _ => fl_copyl c (List.replicate n1 0) [] sh (by simp [unhide hl1]) (unhide h5) i), hb4⟩
    case rest =>
      obtain ⟨w3, hw3⟩ : ∃ x, x = wc := ⟨_, rfl⟩
      subst hw3
      obtain ⟨hq, hbc⟩ := hcut
      have JP := hide hq
      have JV := hide ((unhide GV).low (by omega) hbc)
      have JL := hide ((unhide GL).low hp1 hbc)
      have HW3 := hide ((unhide HW).trans (hbc.mono (by omega)))
      clear x0 x1 x2 x3 x4 x5 x6 GP GV GL HW hbc hq HN HF HC HKEEP hpl W
      obtain ⟨x0, x1, x2, x3, x4, x5, x6⟩ := (unhide JV).all
      have HN : Hid ((st.map (Value.int .i64)).length = Nat.min n2 5) := by show _ = _; rw [List.length_map, unhide hl2]; exact (Nat.min_eq_left hn25).symm
      have HF : Hid (7 + (st.map (Value.int .i64)).length ≤ 12) := by show _ ≤ _; rw [List.length_map, unhide hl2]; omega
      have HC : Hid (0 < (st.map (Value.int .i64)).length → ∃ ad, a2 = some ad ∧ ∀ j v, (st.map (Value.int .i64))[j]? = some v → w3.cell? (ad.add j) = some v) := row_src ((unhide H2).below (Nat.le_refl _) (unhide HW3))
      have HKEEP : ∀ wx, Below p w3 wx → wx.cell? ⟨w.heap.size, 2, none⟩ = some (.slice a2 n2 c2) := fun wx h => ((unhide JV).low (by omega) h).cells.2.2
      have hs5 : Hid (st.length ≤ 5) := by rw [unhide hle']; exact unhide h5
      go_upto_region 5 with fail
      go_cut [] (fun wx => LBox wx p (fl c sh st) ∧ Below p w3 wx)
      case first =>
        as_aux_lemma =>
          go_region_held3 (fun wx => wx.cell? ⟨w.heap.size, 2, none⟩ = some (.slice a2 n2 c2)) (first | exact HKEEP _ (Below.refl _ _).drew | exact HKEEP _ hb4) (first | (refine step_copy_splice rfl (.tmp 21) (.tmp 23) 22 22 rfl 3 Try.underlying22 hsz _ _ _ _ _ _ rfl rfl p 7 _ 47 (unhide JP) (st.map (Value.int .i64)) (unhide HN) (fun h => ⟨rfl, unhide HC h⟩) (unhide HF) (one_ints st) p w3 (Below.refl _ _).drew (Nat.le_refl _) ?_; intro w4 hg4 hb4; have HG4 := hide hg4.out; clear hg4))
          all_goals go_wp2_with fail
          all_goals go_meet
          all_goals case rel => exact ⟨(LBox.splice7 (unhide HG4) (unhide hs5)).congr (fun i _ => fl_copys c sh [] st (by simp) i), hb4⟩
      case rest =>
        obtain ⟨w5, hw5⟩ : ∃ x, x = wc := ⟨_, rfl⟩
        subst hw5
        obtain ⟨hq, hbc⟩ := hcut
        have KP := hide hq
        have KL := hide ((unhide JL).low hp1 hbc)
        have HW5 := hide ((unhide HW3).trans (hbc.mono (by omega)))
        clear x0 x1 x2 x3 x4 x5 x6 JP JV JL HW3 hbc hq HN HF HC HKEEP w3
        generalize hff : fl c sh st = f at *
        have HFF := hide hff
        clear hff
        obtain ⟨x0, x1, x2, x3, x4, x5, x6, x7, x8, x9, x10, x11, y0, y1, y2, y3, y4, y5, y6, y7, y8, y9, y10, y11, xl⟩ := (unhide KP).all
        obtain ⟨z0, z1, z2, z3, z4, z5, z6, z7, z8, z9, z10, z11, f0, f1, f2, f3, f4, f5, f6, f7, f8, f9, f10, f11, zl⟩ := (unhide KL).all
        go_wp2
        refine bodyPost_ret (v := .tuple #[lay f, .bool true]) (by simp [results, Try.results38, go_sem, z0, z1, z2, z3, z4, z5, z6, z7, z8, z9, z10, z11]) rfl ⟨by rw [← unhide HFF], Below.sets12 (unhide HW5) (by omega) f⟩

theorem layoutOf_yes (c : Int) (a1 a2 : Option Addr) (n1 n2 c1 c2 : Nat) (sh st : List Int) (w : World) (h1 : Row w a1 n1 sh) (h2 : Row w a2 n2 st) (hr : formed c sh st = true) (f : Nat → Int) (hf : Hid (fl c sh st = f)) :
    Calls Try.prog 38 #[.agg #[.int .i64 c, .slice a1 n1 c1, .slice a2 n2 c2]] w fun e w' => e = .returned (.tuple #[lay f, .bool true]) ∧ Below w.heap.size w w' := by
  rw [← unhide hf]
  exact layoutOf_any c a1 a2 n1 n2 c1 c2 sh st w h1 h2 true hr

theorem layoutOf_no (c : Int) (a1 a2 : Option Addr) (n1 n2 c1 c2 : Nat) (sh st : List Int) (w : World) (h1 : Row w a1 n1 sh) (h2 : Row w a2 n2 st) (hr : formed c sh st = false) :
    Calls Try.prog 38 #[.agg #[.int .i64 c, .slice a1 n1 c1, .slice a2 n2 c2]] w fun e w' => e = .returned (.tuple #[lay fun _ => 0, .bool false]) ∧ Below w.heap.size w w' :=
  layoutOf_any c a1 a2 n1 n2 c1 c2 sh st w h1 h2 false hr

end Go.Proofs.Ytadbhidpmihghaa
