import Derived.Test.YtijamlgiinjikaaGreatDoorImplTextB
namespace Go.Proofs.YtijamlgiinjikaaGreatDoor
open Go.RowKit

theorem IsB.below {w w' : World} {B b : Nat} {l : List UInt8} (h : IsB w B b l) (hb : Below w.heap.size w w') : IsB w' B b l := by
  have one : ∀ {p : Value}, Lib.BuilderAtF (Tryz.replaceS_ren.t 72) (Tryz.replaceS_ren.t 5) B b p (Lib.byteCells l) w → Lib.BuilderAtF (Tryz.replaceS_ren.t 72) (Tryz.replaceS_ren.t 5) B b p (Lib.byteCells l) w' := by
    rintro p ⟨h1, v, h2, ⟨h3, h4⟩, h5⟩
    refine ⟨h1, v, (hb.block b (lt_of_block h2)).trans h2, ⟨h3, ?_⟩, h5⟩
    rcases h4 with h4 | ⟨g, cap, cur, fz, e1, e2, e3, e4⟩
    · exact Or.inl h4
    · exact Or.inr ⟨g, cap, cur, fz, e1, e2, (hb.block g (lt_of_block e3)).trans e3, e4⟩
  rcases h with h | h
  · exact Or.inl (one h)
  · exact Or.inr (one h)

theorem TBox.under {w w' : World} {p B : Nat} {v0 v1 v2 v3 : Value} (h : TBox w p v0 v1 v2 v3) (hp : p < B) (hb : Below B w w') : TBox w' p v0 v1 v2 v3 := (hb.block p hp).trans h

/-- What readText gives, of how a text is read. -/
def textV : Option (Nat × List UInt8) → Value
  | none => readV 0 0 ⟨#[]⟩ 0 1
  | some (e, out) => if Lib.validD out = true then readV 2 0 ⟨out.toArray⟩ e 0 else readV 0 0 ⟨#[]⟩ 0 1

def strSize : Value → Nat
  | .string x => x.size
  | _ => 0

theorem inEnd_le {s : ByteArray} {p : Nat} (h : p ≤ s.size) : p ≤ inEnd s p ∧ inEnd s p ≤ s.size := by
  have h1 : stretchN isIn (s.extract p s.size) ≤ (s.extract p s.size).size := strTo_le _ _
  rw [tail_size] at h1
  unfold inEnd
  omega

theorem head_tail {s : ByteArray} {p c : Nat} : (s.extract p s.size).extract 0 c = s.extract p (p + c) := by
  refine ByteArray.ext (Array.toList_inj.1 ?_)
  rw [take_data, tail_list, sub_list, Nat.add_sub_cancel_left]

set_option maxRecDepth 20000 in
set_option maxHeartbeats 4000000 in
theorem readText_any (t : ByteArray) (w : World) (h1 : 1 ≤ t.size) (hs : t.size ≤ 1000000000000) (hT : TabsAt w) :
    Calls Tryz.prog 31 #[.string t] w fun e w' => e = .returned (textV (textR t (t.size + 1) 1 [])) ∧ Below w.heap.size w w' := by
  obtain ⟨R, hR⟩ : ∃ R, textR t (t.size + 1) 1 [] = R := ⟨_, rfl⟩
  rw [hR]
  have HR := hide hR
  clear hR
  obtain ⟨Q, hQ⟩ : ∃ Q, Q = (w.alloc (.cells #[.int .i64 0, .int .i64 0, .string ⟨#[]⟩, .int .i64 0] 30)).alloc (.cells #[.pointer none, .slice none 0 0] 71) := ⟨_, rfl⟩
  have HQ := hide hQ
  have HX0 : Hid (TBox Q w.heap.size (.int .i64 0) (.int .i64 0) (.string ⟨#[]⟩) (.int .i64 0)) := by rw [hQ]; exact (TBox.new w _ _ _ _).below (Nat.le_refl _) ((Below.refl _ _).alloc (Nat.le_refl _) _)
  have HB0 : Hid (Below w.heap.size w Q) := by rw [hQ]; exact ((Below.refl _ _).alloc (Nat.le_refl _) _).alloc (by simp) _
  have HI0 : Hid (IsB Q (w.heap.size + 1) (w.heap.size + 1) []) := by
    rw [hQ]
    have := Lib.IsBuilderF.of (Lib.fresh_isBuilder (Tryz.replaceS_ren.t 72) (Tryz.replaceS_ren.t 5) (w.alloc (.cells #[.int .i64 0, .int .i64 0, .string ⟨#[]⟩, .int .i64 0] 30)))
    rw [show (w.alloc (.cells #[.int .i64 0, .int .i64 0, .string ⟨#[]⟩, .int .i64 0] 30)).heap.size = w.heap.size + 1 by simp] at this
    exact this
  have HS0 : Hid (w.heap.size + 1 ≤ Q.heap.size) := by rw [hQ]; show _ ≤ _; simp
  clear hQ
  have HTB := hide hT
  clear hT
  have hs1 : ∀ W, (Instr.slice 9 (.string t) (some (.int .i64 1)) none none).run Tryz.prog W = .ok (.string (t.extract 1 t.size)) W := fun W => run_sub1 (s := t) (q := 1) h1 W
  go_enter Tryz.func31, Tryz.ntmps31
  go_wp2_with fail
  rw [← unhide HQ]
  go_loopw [6] (fun a w' => ∃ (p F : Nat) (out : List UInt8), a = .string (t.extract p t.size) ∧ p ≤ t.size ∧ t.size - p < F ∧ out.length ≤ p ∧ Hid (textR t F p out = R) ∧ Hid (TBox w' w.heap.size (.int .i64 0) (.int .i64 0) (.string ⟨#[]⟩) (.int .i64 0)) ∧ Hid (Below w.heap.size w w') ∧ Hid (IsB w' (w.heap.size + 1) (w.heap.size + 1) out) ∧ w.heap.size + 1 ≤ w'.heap.size) (fun a _ => strSize a)
  case atStart => exact ⟨1, t.size + 1, [], rfl, h1, by omega, by simp, HR, HX0, HB0, HI0, unhide HS0⟩
  case round =>
    obtain ⟨p, F, out, rfl, hp, hF, ho, HK, HX, HB, HI, hsz⟩ := hrel
    obtain ⟨F', rfl⟩ : ∃ f, F = f + 1 := ⟨F - 1, by omega⟩
    obtain ⟨q, hq⟩ : ∃ q, inEnd t p = q := ⟨_, rfl⟩
    obtain ⟨hpq, hqs⟩ := inEnd_le hp
    rw [hq] at hpq hqs
    have hc : stretchN isIn (t.extract p t.size) = q - p := by rw [← hq]; unfold inEnd; omega
    have HST := hide (fun W => stretch_any 45 eg_in isIn (fun v W => implWithin_any v W) (t.extract p t.size) W (by rw [tail_size]; omega))
    rw [hc] at HST
    have hts : (t.extract p t.size).size = t.size - p := tail_size t p
    have hsl := fun W => run_sub0 (s := t.extract p t.size) (q := q - p) (by omega) W
    have hsr := fun W => run_sub1 (s := t.extract p t.size) (q := q - p) (by omega) W
    rw [head_tail, show p + (q - p) = q by omega] at hsl
    rw [tail_tail, show p + (q - p) = q by omega] at hsr
    have HK2 : Hid ((if quote1 t q = true then (if quote1 t (q + 1) = true then textR t F' (q + 2) (out ++ (t.extract p q).data.toList ++ [39]) else some (q + 1, out ++ (t.extract p q).data.toList)) else none) = R) := by
      have := unhide HK
      rw [textR, hq] at this
      exact this
    have hxs : (t.extract p q).size = q - p := by rw [Lib.size_eq, sub_list, List.length_take, List.length_drop, ← Lib.size_eq]; omega
    have HC1 := hide (fun W => cutPre_at t q hqs W)
    obtain ⟨c, hcc⟩ : ∃ c, q - p = c := ⟨_, rfl⟩
    rw [hcc] at HST hsl hsr hxs
    obtain ⟨x, hx⟩ : ∃ x, t.extract p q = x := ⟨_, rfl⟩
    rw [hx] at hsl HK2 hxs
    clear HK hq hc hx
    cases h1q : quote1 t q with
    | false =>
      rw [h1q] at HC1 HK2
      rw [if_neg (by decide)] at HK2 HC1
      go_wp2_with (first | (go_at_call 42; refine (unhide HST _).mono ?_; rintro e w5 ⟨rfl, hb5⟩; have HB5 := hide ((unhide HB).trans (hb5.mono (unhide HB).size)); have HX5 := hide ((unhide HX).below (Nat.le_refl _) hb5); have HI5 := hide ((unhide HI).below hb5); have hz5 := Nat.le_trans hsz hb5.size; clear hb5) | (go_at_call 46; refine (bwrite_any _ _ out x _ (unhide HI5) (by omega) hz5).mono ?_; rintro e w6 ⟨rfl, hi6, hb6⟩; have HI6 := hide hi6; have HB6 := hide ((unhide HB5).trans (hb6.mono (Nat.le_succ _))); have HX6 := hide ((unhide HX5).under (Nat.lt_succ_self _) hb6); have hz6 := Nat.le_trans hz5 hb6.size; obtain ⟨q0, q1, q2, q3, f0, f1, f2, f3⟩ := (unhide HX6).all; clear hb6 hi6) | (go_at_call 47; refine (unhide HC1 _).mono ?_; rintro e w1 ⟨rfl, hw⟩; obtain rfl := hw.symm; have HM := hide True.intro))
      refine bodyPost_ret (v := readV 0 0 ⟨#[]⟩ 0 1) (by simp [results, Tryz.results31, go_sem, q0, q1, q2, q3, readV]) rfl ?_
      refine ⟨?_, (((((unhide HB6).setCell (Nat.le_refl _) _).setCell (Nat.le_refl _) _).setCell (Nat.le_refl _) _).setCell (Nat.le_refl _) _)⟩
      rw [← unhide HK2]; rfl
    | true =>
      rw [h1q] at HC1 HK2
      rw [if_pos rfl] at HK2 HC1
      have hq1 : q + 1 ≤ t.size := (of_decide_eq_true h1q).1
      have HC2 := hide (fun W => cutPre_at t (q + 1) hq1 W)
      cases h2q : quote1 t (q + 1) with
      | true =>
        rw [h2q] at HC2 HK2
        rw [if_pos rfl] at HK2 HC2
        have hq2 : q + 1 + 1 ≤ t.size := (of_decide_eq_true h2q).1
        go_wp2_with (first | (go_at_call 42; refine (unhide HST _).mono ?_; rintro e w5 ⟨rfl, hb5⟩; have HB5 := hide ((unhide HB).trans (hb5.mono (unhide HB).size)); have HX5 := hide ((unhide HX).below (Nat.le_refl _) hb5); have HI5 := hide ((unhide HI).below hb5); have hz5 := Nat.le_trans hsz hb5.size; clear hb5) | (have hm := HM; clear hm; go_at_call 46; refine (bwrite_any _ _ (out ++ x.data.toList) ⟨#[39]⟩ _ (unhide HI6) (by rw [List.length_append, ← Lib.size_eq]; show _ + 1 ≤ _; omega) hz6).mono ?_; rintro e w7 ⟨rfl, hi7, hb7⟩; have HI7 := hide hi7; have HB7 := hide ((unhide HB6).trans (hb7.mono (Nat.le_succ _))); have HX7 := hide ((unhide HX6).under (Nat.lt_succ_self _) hb7); have hz7 := Nat.le_trans hz6 hb7.size; clear hb7 hi7) | (go_at_call 46; refine (bwrite_any _ _ out x _ (unhide HI5) (by omega) hz5).mono ?_; rintro e w6 ⟨rfl, hi6, hb6⟩; have HI6 := hide hi6; have HB6 := hide ((unhide HB5).trans (hb6.mono (Nat.le_succ _))); have HX6 := hide ((unhide HX5).under (Nat.lt_succ_self _) hb6); have hz6 := Nat.le_trans hz5 hb6.size; clear hb6 hi6) | (have hm := HM; clear hm; go_at_call 47; refine (unhide HC2 _).mono ?_; rintro e w1 ⟨rfl, hw⟩; obtain rfl := hw.symm) | (go_at_call 47; refine (unhide HC1 _).mono ?_; rintro e w1 ⟨rfl, hw⟩; obtain rfl := hw.symm; have HM := hide True.intro))
        go_roundw
        case rel => exact ⟨q + 2, F', _, rfl, by omega, by omega, by rw [List.length_append, List.length_append, ← Lib.size_eq]; show _ + 1 ≤ _; omega, HK2, HX7, HB7, HI7, hz7⟩
        case measure => show (t.extract (q + 1 + 1) t.size).size < (t.extract p t.size).size; rw [tail_size, tail_size]; omega
      | false =>
        rw [h2q] at HC2 HK2
        rw [if_neg (by decide)] at HK2 HC2
        have hrs : (t.extract (q + 1) t.size).size = t.size - (q + 1) := tail_size t (q + 1)
        have HV := hide (fun W (hb : Below w.heap.size w W) => valid_any ⟨(out ++ x.data.toList).toArray⟩ (by rw [Lib.size_eq]; simp only [List.length_append, ← Lib.size_eq]; omega) W ((unhide HTB).below hb))
        have HE : Hid (textV R = if Lib.validD (out ++ x.data.toList) = true then readV 2 0 ⟨(out ++ x.data.toList).toArray⟩ (q + 1) 0 else readV 0 0 ⟨#[]⟩ 0 1) := by rw [← unhide HK2]; exact hide rfl
        cases hv : Lib.validD (out ++ x.data.toList) with
        | true =>
          have HV2 : Hid (∀ W, Below w.heap.size w W → Calls Tryz.prog 48 #[.string ⟨(out ++ x.data.toList).toArray⟩] W fun e w' => e = .returned (.bool true) ∧ Below W.heap.size W w') := by rw [← hv]; exact HV
          rw [hv, if_pos rfl] at HE
          clear hv HV
          go_wp2_with (first | (go_at_call 42; refine (unhide HST _).mono ?_; rintro e w5 ⟨rfl, hb5⟩; have HB5 := hide ((unhide HB).trans (hb5.mono (unhide HB).size)); have HX5 := hide ((unhide HX).below (Nat.le_refl _) hb5); have HI5 := hide ((unhide HI).below hb5); have hz5 := Nat.le_trans hsz hb5.size; clear hb5) | (go_at_call 46; refine (bwrite_any _ _ out x _ (unhide HI5) (by omega) hz5).mono ?_; rintro e w6 ⟨rfl, hi6, hb6⟩; have HI6 := hide hi6; have HB6 := hide ((unhide HB5).trans (hb6.mono (Nat.le_succ _))); have HX6 := hide ((unhide HX5).under (Nat.lt_succ_self _) hb6); have hz6 := Nat.le_trans hz5 hb6.size; clear hb6 hi6) | (have hm := HM; clear hm; go_at_call 47; refine (unhide HC2 _).mono ?_; rintro e w1 ⟨rfl, hw⟩; obtain rfl := hw.symm) | (go_at_call 47; refine (unhide HC1 _).mono ?_; rintro e w1 ⟨rfl, hw⟩; obtain rfl := hw.symm; have HM := hide True.intro) | (have hm := HI8; clear hm; go_at_call 49; refine (bstring_any _ _ (out ++ x.data.toList) _ (unhide HI8) hz8).mono ?_; rintro e w9 ⟨rfl, hi9, hb9⟩; have HB9 := hide ((unhide HB8).trans (hb9.mono (Nat.le_succ _))); obtain ⟨q0, q1, q2, q3, f0, f1, f2, f3⟩ := ((unhide HX8).under (Nat.lt_succ_self _) hb9).all; clear hb9 hi9) | (go_at_call 49; refine (bstring_any _ _ (out ++ x.data.toList) _ (unhide HI6) hz6).mono ?_; rintro e w7 ⟨rfl, hi7, hb7⟩; have HI7 := hide hi7; have HB7 := hide ((unhide HB6).trans (hb7.mono (Nat.le_succ _))); have HX7 := hide ((unhide HX6).under (Nat.lt_succ_self _) hb7); have hz7 := Nat.le_trans hz6 hb7.size; clear hb7 hi7) | (go_at_call 48; refine (unhide HV2 _ (unhide HB7)).mono ?_; rintro e w8 ⟨rfl, hb8⟩; have HB8 := hide ((unhide HB7).trans (hb8.mono (unhide HB7).size)); have HX8 := hide ((unhide HX7).below (Nat.le_refl _) hb8); have HI8 := hide ((unhide HI7).below hb8); have hz8 := Nat.le_trans hz7 hb8.size; clear hb8))
          refine bodyPost_ret (v := readV 2 0 ⟨(out ++ x.data.toList).toArray⟩ (q + 1) 0) (by simp [results, Tryz.results31, go_sem, q0, q1, q2, q3, readV]; omega) rfl ?_
          refine ⟨?_, (((((unhide HB9).setCell (Nat.le_refl _) _).setCell (Nat.le_refl _) _).setCell (Nat.le_refl _) _).setCell (Nat.le_refl _) _)⟩
          exact congrArg Ending.returned (unhide HE).symm
        | false =>
          have HV2 : Hid (∀ W, Below w.heap.size w W → Calls Tryz.prog 48 #[.string ⟨(out ++ x.data.toList).toArray⟩] W fun e w' => e = .returned (.bool false) ∧ Below W.heap.size W w') := by rw [← hv]; exact HV
          rw [hv, if_neg (by decide)] at HE
          clear hv HV
          go_wp2_with (first | (go_at_call 42; refine (unhide HST _).mono ?_; rintro e w5 ⟨rfl, hb5⟩; have HB5 := hide ((unhide HB).trans (hb5.mono (unhide HB).size)); have HX5 := hide ((unhide HX).below (Nat.le_refl _) hb5); have HI5 := hide ((unhide HI).below hb5); have hz5 := Nat.le_trans hsz hb5.size; clear hb5) | (go_at_call 46; refine (bwrite_any _ _ out x _ (unhide HI5) (by omega) hz5).mono ?_; rintro e w6 ⟨rfl, hi6, hb6⟩; have HI6 := hide hi6; have HB6 := hide ((unhide HB5).trans (hb6.mono (Nat.le_succ _))); have HX6 := hide ((unhide HX5).under (Nat.lt_succ_self _) hb6); have hz6 := Nat.le_trans hz5 hb6.size; clear hb6 hi6) | (have hm := HM; clear hm; go_at_call 47; refine (unhide HC2 _).mono ?_; rintro e w1 ⟨rfl, hw⟩; obtain rfl := hw.symm) | (go_at_call 47; refine (unhide HC1 _).mono ?_; rintro e w1 ⟨rfl, hw⟩; obtain rfl := hw.symm; have HM := hide True.intro) | (go_at_call 49; refine (bstring_any _ _ (out ++ x.data.toList) _ (unhide HI6) hz6).mono ?_; rintro e w7 ⟨rfl, hi7, hb7⟩; have HI7 := hide hi7; have HB7 := hide ((unhide HB6).trans (hb7.mono (Nat.le_succ _))); have HX7 := hide ((unhide HX6).under (Nat.lt_succ_self _) hb7); have hz7 := Nat.le_trans hz6 hb7.size; clear hb7 hi7) | (go_at_call 48; refine (unhide HV2 _ (unhide HB7)).mono ?_; rintro e w8 ⟨rfl, hb8⟩; have HB8 := hide ((unhide HB7).trans (hb8.mono (unhide HB7).size)); have HX8 := hide ((unhide HX7).below (Nat.le_refl _) hb8); have HI8 := hide ((unhide HI7).below hb8); have hz8 := Nat.le_trans hz7 hb8.size; clear hb8; obtain ⟨q0, q1, q2, q3, f0, f1, f2, f3⟩ := (unhide HX8).all))
          refine bodyPost_ret (v := readV 0 0 ⟨#[]⟩ 0 1) (by simp [results, Tryz.results31, go_sem, q0, q1, q2, q3, readV]) rfl ?_
          refine ⟨?_, (((((unhide HB8).setCell (Nat.le_refl _) _).setCell (Nat.le_refl _) _).setCell (Nat.le_refl _) _).setCell (Nat.le_refl _) _)⟩
          exact congrArg Ending.returned (unhide HE).symm

end Go.Proofs.YtijamlgiinjikaaGreatDoor
