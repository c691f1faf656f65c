import Derived.Test.YtmgjicgojlkpcaaGreatDoorSpecStU
import Derived.Test.YtmgjicgojlkpcaaGreatDoorRecMath
namespace Go.Proofs.YtmgjicgojlkpcaaGreatDoor
open Go.RowKit

section
variable {Z w w0 w1 : World} {p i j q : Nat} {nd nd0 nd1 v : Value} {zs : List Int} {xs ys : List NodeC} {bx : List Nat} {ns : List NodeD} {ta : Option Addr} {tn tc : Nat} {ts : List Tok} {b b' g : Bool} {t : List NodeD}

theorem GaveS.no {t' : List NodeD} {e : Ending} {w' : World} (h : GaveS Z p ta tn tc w0 nd0 xs i false q t e w') : GaveS Z p ta tn tc w0 nd0 xs i false q t' e w' := by
  obtain ⟨z, n', ns', h1, h2, h3, h4, _⟩ := h
  exact ⟨z, n', ns', h1, h2, h3, h4, fun e => by cases e⟩
theorem ReadS.no {f : Nat} {args : Array Value} {t' : List NodeD} (h : ReadS Z p ta tn tc f args i false q t) : ReadS Z p ta tn tc f args i false q t' := fun w n x h1 h2 => (h w n x h1 h2).mono fun _ _ h => h.no
theorem GaveS.rest {e : Ending} {w' : World} (h : GaveS Z p ta tn tc w0 nd0 xs i g q t e w') : ∃ z nd' ds, e = .returned (.int .i64 z) ∧ KS Z p ta tn tc w0 nd0 xs [] (xs.map NodeC.d ++ ds) q (!g) w' nd' nilL [] ∧ i ≤ q ∧ ds.length ≤ 4 * (q - i) ∧ (g = true → ∃ e' : Nat, z = e' ∧ TreeAt (xs.map NodeC.d ++ ds) e' t) := by
  obtain ⟨z, n', ns', he, hk, hiq, hl, ht⟩ := h
  obtain ⟨ys, hd⟩ : ∃ ys : List NodeC, (xs ++ ys).map NodeC.d = ns' := ⟨_, hk.choose_spec.2.1⟩
  have e1 : ns' = xs.map NodeC.d ++ ys.map NodeC.d := by rw [← hd, List.map_append]
  subst e1
  refine ⟨z, n', ys.map NodeC.d, he, hk, hiq, ?_, fun hg => (ht hg).2⟩
  rw [List.length_append, List.length_map, List.length_map] at hl
  rw [List.length_map]
  omega

/-- All readers of the specification at a place. -/
structure LevP (Z : World) (p : Nat) (ta : Option Addr) (tn tc : Nat) (ts : List Tok) (j : Nat) : Prop where
  x : ∀ f r, prs (seenT ts) f 0 j [] = some r → ReadS Z p ta tn tc 94 #[.pointer (some ⟨p, 0, none⟩)] j (gX (seenT ts) r) r.2.1 (r.2.2.headD [])
  g : ∀ f r, prs (seenT ts) f 3 j [] = some r → ReadS Z p ta tn tc 146 #[.pointer (some ⟨p, 0, none⟩)] j r.1 r.2.1 (r.2.2.headD [])
  s : ∀ f r, prs (seenT ts) f 5 j [] = some r → ∃ g, GI (seenT ts) r g ∧ ReadS Z p ta tn tc 43 #[.pointer (some ⟨p, 0, none⟩)] j g r.2.1 (r.2.2.headD [])
  t : ∀ f r, prs (seenT ts) f 6 j [] = some r → ∃ g, GI (seenT ts) r g ∧ ReadS Z p ta tn tc 145 #[.pointer (some ⟨p, 0, none⟩)] j g r.2.1 (r.2.2.headD [])

theorem gi_x {X : Seen} {q : Nat} {l l' : List (List NodeD)} (b : Bool) : GI X (b, q, l) (gX X (b, q, l')) := by
  refine ⟨fun h => (Bool.and_eq_true _ _ ▸ h : _ ∧ _).1, fun h hb => ?_⟩
  have hb' : b = true := hb
  subst hb'
  have he : endC (X.cl q) = false := h
  show X.cl q ≠ 8900 ∧ X.cl q ≠ 125 ∧ X.cl q ≠ 58 ∧ X.cl q ≠ 0
  refine ⟨fun e => ?_, fun e => ?_, fun e => ?_, fun e => ?_⟩ <;> (rw [e] at he; revert he; decide)
theorem gi_bad {X : Seen} {q : Nat} {l : List (List NodeD)} : GI X (false, q, l) false := ⟨(fun h => by cases h), (fun _ h => by cases h)⟩
theorem gi_ok {X : Seen} {q : Nat} {l : List (List NodeD)} : GI X (true, q, l) true := ⟨(fun _ => rfl), (fun h => by cases h)⟩
theorem gi_arrow {X : Seen} {q : Nat} {l : List (List NodeD)} (h : X.cl q = 8592) : GI X (true, q, l) false := ⟨(fun h => by cases h), fun _ _ => by show X.cl q ≠ 8900 ∧ X.cl q ≠ 125 ∧ X.cl q ≠ 58 ∧ X.cl q ≠ 0; rw [h]; decide⟩

theorem bracesSR (E : SEnv Z ta tn ts) (htl : ts.length ≤ 4096) (H : ∀ j', j < j' → j' ≤ ts.length → LevP Z p ta tn tc ts j') (h1 : (seenT ts).cl j = 123) {f : Nat} {r : Res} (hr : bracesS (seenT ts) (prs (seenT ts) f) j = some r) : ReadS Z p ta tn tc 92 #[.pointer (some ⟨p, 0, none⟩)] j r.1 r.2.1 (r.2.2.headD []) := by
  unfold bracesS at hr
  by_cases h2 : (seenT ts).cl (j + 1) = 125
  · rw [if_pos h2] at hr
    cases hr
    exact bracesS_none E htl h1 h2
  rw [if_neg h2] at hr
  cases f with
  | zero => cases hr
  | succ f =>
    refine bracesS_any E htl (F := f + 1) (fun j' r h1 h2 h3 => (H j' h1 h2).t _ r h3) h1 h2 (f0' := f) (r := r) ?_
    rcases bind_cases hr with ⟨q, l, hx, hk⟩ | ⟨q, l, hx, rfl⟩
    · rw [ser4_leq (seenT ts) (f + 1) (f + 1) (j + 1) (Nat.le_refl _) _ hx]
      exact hk
    · rw [ser4_leq (seenT ts) (f + 1) (f + 1) (j + 1) (Nat.le_refl _) _ hx]
      rfl

theorem fnSR (E : SEnv Z ta tn ts) (htl : ts.length ≤ 4096) (hj : j ≤ ts.length) (H : ∀ j', j < j' → j' ≤ ts.length → LevP Z p ta tn tc ts j') {f : Nat} {r : Res} (hr : fnS (seenT ts) (prs (seenT ts) f) j = some r) : ReadS Z p ta tn tc 146 #[.pointer (some ⟨p, 0, none⟩)] j r.1 r.2.1 (r.2.2.headD []) := by
  intro w nd xs h hroom
  unfold fnS at hr
  by_cases hs : 0 < scalNo ((seenT ts).cl j)
  · rw [if_pos hs] at hr
    unfold scalS at hr
    by_cases h1 : (seenT ts).cl (j + 1) = 47
    · rw [if_pos h1] at hr
      cases hr
      exact fs_47 E h (by omega) hroom hs h1
    rw [if_neg h1] at hr
    by_cases h2 : (seenT ts).cl (j + 1) = 9023
    · rw [if_pos h2] at hr
      cases hr
      exact fs_9023 E h (by omega) hroom hs h2
    rw [if_neg h2] at hr
    by_cases h3 : (seenT ts).cl (j + 1) = 92
    · rw [if_pos h3] at hr
      cases hr
      exact fs_92 E h (by omega) hroom hs h3
    rw [if_neg h3] at hr
    by_cases h4 : (seenT ts).cl (j + 1) = 9024
    · rw [if_pos h4] at hr
      cases hr
      exact fs_9024 E h (by omega) hroom hs h4
    rw [if_neg h4] at hr
    by_cases h5 : (seenT ts).cl (j + 1) = 46
    · rw [if_pos h5] at hr
      by_cases h6 : 0 < scalNo ((seenT ts).cl (j + 1 + 1))
      · rw [if_pos h6] at hr
        cases hr
        exact fs_46y E h (by omega) hroom hs h5 h6
      · rw [if_neg h6] at hr
        cases hr
        exact fs_46n E h (by omega) hroom hs h5 (Nat.eq_zero_of_not_pos h6)
    · rw [if_neg h5] at hr
      cases hr
      exact fs_sc E h (by omega) hroom hs h1 h2 h3 h4 h5
  rw [if_neg hs] at hr
  have h0 : scalNo ((seenT ts).cl j) = 0 := Nat.eq_zero_of_not_pos hs
  by_cases h1 : (seenT ts).cl j = 8728
  · rw [if_pos h1] at hr
    by_cases h2 : (seenT ts).cl (j + 1) = 46
    · rw [if_pos h2] at hr
      by_cases h3 : 0 < scalNo ((seenT ts).cl (j + 2))
      · rw [if_pos h3] at hr
        cases hr
        exact fs_8728y E h (by omega) hroom h0 h1 h2 h3
      · rw [if_neg h3] at hr
        cases hr
        exact fs_8728n E h (by omega) hroom h0 h1 h2 (Nat.eq_zero_of_not_pos h3)
    · rw [if_neg h2] at hr
      cases hr
      exact fs_8728x E h (by omega) hroom h0 h1 h2
  rw [if_neg h1] at hr
  by_cases h2 : (seenT ts).cl j = 123
  · rw [if_pos h2] at hr
    exact fs_123 E h (by omega) hroom h0 h2 (bracesSR E htl H h2 hr)
  rw [if_neg h2] at hr
  by_cases h3 : (seenT ts).cl j = 4
  · rw [if_pos h3] at hr
    cases hr
    exact fs_4 E h (by omega) hroom h0 h3
  rw [if_neg h3] at hr
  by_cases h4 : (seenT ts).cl j = 8711
  · rw [if_pos h4] at hr
    cases hr
    exact fs_8711 E h (by omega) hroom h0 h4
  rw [if_neg h4] at hr
  by_cases h5 : 0 < primNo ((seenT ts).cl j)
  · rw [if_pos h5] at hr
    cases hr
    exact fs_prim E h (by omega) hroom h0 h1 h2 h3 h4 h5
  · rw [if_neg h5] at hr
    cases hr
    exact fs_no E h (by omega) hroom h0 h1 h2 h3 h4 (Nat.eq_zero_of_not_pos h5)

theorem fnNo (E : SEnv Z ta tn ts) (htl : ts.length ≤ 4096) (hj : j ≤ ts.length) (hf : fnC ((seenT ts).cl j) ≠ true) : ReadS Z p ta tn tc 146 #[.pointer (some ⟨p, 0, none⟩)] j false j [] := fun w nd xs h hroom => by
  obtain ⟨h0, h1, h2, h3, h4, h5⟩ := no_fn hf
  exact fs_no E h (by omega) hroom h0 h1 h2 h3 h4 h5

theorem atomSR (E : SEnv Z ta tn ts) (htl : ts.length ≤ 4096) (hj : j ≤ ts.length) (H : ∀ j', j < j' → j' ≤ ts.length → LevP Z p ta tn tc ts j') (hb : begC ((seenT ts).cl j) = true) {f : Nat} {r : Res} (hr : atomS (seenT ts) (prs (seenT ts) f) j = some r) : ReadS Z p ta tn tc 147 #[.pointer (some ⟨p, 0, none⟩)] j r.1 r.2.1 (r.2.2.headD []) := by
  intro w nd xs h hroom
  unfold atomS at hr
  by_cases c1 : (seenT ts).cl j = 1
  · rw [if_pos c1] at hr
    cases hr
    exact at_1 E h hj htl hroom c1
  rw [if_neg c1] at hr
  by_cases c40 : (seenT ts).cl j = 40
  · rw [if_pos c40] at hr
    have hjl : j < ts.length := seen_ends ts j (by rw [c40]; decide)
    rcases bind_cases hr with ⟨q, l, hx, hk⟩ | ⟨q, l, hx, rfl⟩
    · obtain ⟨t, rfl, k1, k2, k3, _⟩ := prs_one (by rfl) (by decide) (by decide) (q0 := j + 1) hjl hx
      have hX := (H (j + 1) (by omega) hjl).x f _ hx
      by_cases h41 : (seenT ts).cl q = 41
      · rw [if_pos h41] at hk
        cases hk
        have hg : gX (seenT ts) (true, q, [t]) = true := by show (true && endC ((seenT ts).cl q)) = true; rw [h41]; rfl
        rw [hg] at hX
        exact at_40y E h (by omega) hroom c40 (by omega) k2 hX h41
      · rw [if_neg h41] at hk
        cases hk
        cases hg : gX (seenT ts) (true, q, [t]) with
        | true => rw [hg] at hX; exact at_40n E h (by first | omega | (dsimp only; omega)) hroom c40 (by first | omega | (dsimp only; omega)) k2 hX h41
        | false => rw [hg] at hX; exact at_40b E h (by omega) hroom c40 k2 hX
    · have hX := (H (j + 1) (by omega) hjl).x f _ hx
      exact at_40b E h (by omega) hroom c40 (prs_adv (seen_ends ts) f 0 (j + 1) [] hjl _ _ _ hx).1 hX
  rw [if_neg c40] at hr
  by_cases c2 : (seenT ts).cl j = 2
  · rw [if_pos c2] at hr
    cases hr
    exact at_2 E h (by omega) hroom c2
  rw [if_neg c2] at hr
  by_cases c3 : (seenT ts).cl j = 3
  · rw [if_pos c3] at hr
    cases hr
    exact at_3 E h (by omega) hroom c3
  rw [if_neg c3] at hr
  by_cases c4 : (seenT ts).cl j = 9082
  · rw [if_pos c4] at hr
    cases hr
    exact at_9082 E h (by omega) hroom c4
  rw [if_neg c4] at hr
  by_cases c5 : (seenT ts).cl j = 9077
  · rw [if_pos c5] at hr
    cases hr
    exact at_9077 E h (by omega) hroom c5
  rw [if_neg c5] at hr
  by_cases c6 : (seenT ts).cl j = 9068
  · rw [if_pos c6] at hr
    cases hr
    exact at_9068 E h (by omega) hroom c6
  unfold begC at hb
  have hb := of_decide_eq_true hb
  omega

theorem operandSR (E : SEnv Z ta tn ts) (htl : ts.length ≤ 4096) (hj : j ≤ ts.length) (H : ∀ j', j < j' → j' ≤ ts.length → LevP Z p ta tn tc ts j') (hb : begC ((seenT ts).cl j) = true) {f : Nat} {r : Res} (hr : (bindR (atomS (seenT ts) (prs (seenT ts) f) j) fun q l => prs (seenT ts) f 1 q (l.headD [])) = some r) : ReadS Z p ta tn tc 95 #[.pointer (some ⟨p, 0, none⟩)] j r.1 r.2.1 (r.2.2.headD []) :=
  operandS_any E htl (F := f) (fun j' r h1 h2 h3 => (H j' h1 h2).x f r h3) hj (fun _ hr' => atomSR E htl hj H hb hr') hr

theorem restSR (E : SEnv Z ta tn ts) (htl : ts.length ≤ 4096) (H : ∀ j', j < j' → j' ≤ ts.length → LevP Z p ta tn tc ts j') {q0 : Nat} (hjq : j < q0) (hq0 : q0 ≤ ts.length) {f : Nat} {t0 : List NodeD} {r : Res} (hr : restS (seenT ts) (prs (seenT ts) f) q0 t0 = some r) : RestP Z p ta tn tc q0 t0 (gX (seenT ts) r) r.2.1 (r.2.2.headD []) := by
  intro w nd xs ez h hroom ht
  unfold restS at hr
  by_cases hf : fnC ((seenT ts).cl q0) = true
  · rw [if_pos hf] at hr
    have he := fn_end hf
    rcases bind_cases hr with ⟨q, l, hx, hk⟩ | ⟨q, l, hx, rfl⟩
    · obtain ⟨t1, rfl, k1, k2, _⟩ := prs_one (by rfl) (by decide) (by decide) hq0 hx
      have hG := (H q0 hjq hq0).g f _ hx
      rcases bind_cases hk with ⟨q2, l2, hx2, hk2⟩ | ⟨q2, l2, hx2, rfl⟩
      · obtain ⟨t2, rfl, m1, m2, _⟩ := prs_one (by rfl) (by decide) (by decide) k1 hx2
        cases hk2
        exact (rest_ok E h (by first | omega | (dsimp only; omega)) hroom ht he (by first | omega | (dsimp only; omega)) (by first | omega | (dsimp only; omega)) hG ((H q (by first | omega | (dsimp only; omega)) k1).x f _ hx2)).mono fun _ _ h => h.rest
      · have m1 := (prs_adv (seen_ends ts) f 0 q [] k1 _ _ _ hx2).2.1
        have m1' : q2 ≤ ts.length := m1
        have hX : ReadS Z p ta tn tc 94 #[.pointer (some ⟨p, 0, none⟩)] q false q2 [] := ((H q (by omega) k1).x f _ hx2).no
        exact (rest_ok E h (by first | omega | (dsimp only; omega)) hroom ht he (by first | omega | (dsimp only; omega)) (by first | omega | (dsimp only; omega)) hG hX).mono fun _ _ h => (GaveS.no h).rest
    · exact (rest_fbad E h (by omega) hroom he ((H q0 hjq hq0).g f _ hx)).mono fun _ _ h => GaveS.rest h
  · rw [if_neg hf] at hr
    cases hr
    cases he : endC ((seenT ts).cl q0) with
    | true =>
      have hg : gX (seenT ts) (true, q0, [t0]) = true := by show (true && endC ((seenT ts).cl q0)) = true; rw [he]; rfl
      rw [hg]
      refine (rest_end E h (by omega) hroom he).mono ?_
      rintro e w' ⟨rfl, hk⟩
      exact ⟨_, nd, [], rfl, by rw [List.append_nil]; exact hk, Nat.le_refl _, by show 0 ≤ _; omega, fun _ => ⟨ez, rfl, by rw [List.append_nil]; exact ht⟩⟩
    | false =>
      have hg : gX (seenT ts) (true, q0, [t0]) = false := by show (true && endC ((seenT ts).cl q0)) = false; rw [he]; rfl
      rw [hg]
      exact (rest_fbad E h (by omega) hroom he (fnNo E htl hq0 hf)).mono fun _ _ h => (GaveS.no h).rest

/-- An expr that begins with no function: an operand and what is behind it. -/
theorem expr_parts {f : Nat} {r : Res} (hf : fnC ((seenT ts).cl j) ≠ true) (hr : exprS (seenT ts) (prs (seenT ts) f) j = some r) : (∃ q1 l1, (bindR (atomS (seenT ts) (prs (seenT ts) f) j) fun q l => prs (seenT ts) f 1 q (l.headD [])) = some (true, q1, l1) ∧ restS (seenT ts) (prs (seenT ts) f) q1 (l1.headD []) = some r) ∨ (∃ q1 l1, (bindR (atomS (seenT ts) (prs (seenT ts) f) j) fun q l => prs (seenT ts) f 1 q (l.headD [])) = some (false, q1, l1) ∧ r = (false, q1, [])) := by
  unfold exprS at hr
  rw [if_neg hf] at hr
  rcases bind_cases hr with ⟨q, l, hx, hk⟩ | ⟨q, l, hx, rfl⟩
  · unfold fromS at hk
    rcases bind_cases hk with ⟨q1, l1, hx1, hk1⟩ | ⟨q1, l1, hx1, rfl⟩
    · exact .inl ⟨q1, l1, by rw [hx]; exact hx1, hk1⟩
    · exact .inr ⟨q1, l1, by rw [hx]; exact hx1, rfl⟩
  · exact .inr ⟨q, [], by rw [hx]; rfl, rfl⟩

theorem opd_at (hj : j ≤ ts.length) {f : Nat} {b : Bool} {q1 : Nat} {l1 : List (List NodeD)} (hr : (bindR (atomS (seenT ts) (prs (seenT ts) f) j) fun q l => prs (seenT ts) f 1 q (l.headD [])) = some (b, q1, l1)) : j ≤ q1 ∧ q1 ≤ ts.length ∧ (b = true → j + 1 ≤ q1) := by
  have hA := atom_adv (seen_ends ts) (prs_adv (seen_ends ts) f) (i := j) hj
  rcases bind_cases hr with ⟨q, l, hx, hk⟩ | ⟨q, l, hx, hk⟩
  · have h1 := hA _ _ _ hx
    have h2 := prs_adv (seen_ends ts) f 1 q (l.headD []) h1.2.1 _ _ _ hk
    have h3 := (h1.2.2 rfl).1
    exact ⟨by omega, h2.2.1, fun _ => by omega⟩
  · cases hk
    have h1 := hA _ _ _ hx
    exact ⟨h1.1, h1.2.1, fun e => by cases e⟩

theorem exprSR (E : SEnv Z ta tn ts) (htl : ts.length ≤ 4096) (hj : j ≤ ts.length) (H : ∀ j', j < j' → j' ≤ ts.length → LevP Z p ta tn tc ts j') {f : Nat} {r : Res} (hr : exprS (seenT ts) (prs (seenT ts) f) j = some r) (hg : ∀ r, prs (seenT ts) f 3 j [] = some r → ReadS Z p ta tn tc 146 #[.pointer (some ⟨p, 0, none⟩)] j r.1 r.2.1 (r.2.2.headD [])) : ReadS Z p ta tn tc 94 #[.pointer (some ⟨p, 0, none⟩)] j (gX (seenT ts) r) r.2.1 (r.2.2.headD []) := by
  intro w nd xs h hroom
  by_cases hf : fnC ((seenT ts).cl j) = true
  · unfold exprS at hr
    rw [if_pos hf] at hr
    have hb := fn_beg hf
    rcases bind_cases hr with ⟨q, l, hx, hk⟩ | ⟨q, l, hx, rfl⟩
    · obtain ⟨t1, rfl, k1, k2, k3, _⟩ := prs_one (by rfl) (by decide) (by decide) hj hx
      have hjq : j + 1 ≤ q := ((prs_adv (seen_ends ts) f 3 j [] hj).q hx).1
      rcases bind_cases hk with ⟨q2, l2, hx2, hk2⟩ | ⟨q2, l2, hx2, rfl⟩
      · obtain ⟨t2, rfl, m1, m2, _⟩ := prs_one (by rfl) (by decide) (by decide) k1 hx2
        cases hk2
        exact ex_fok E h (by first | omega | (dsimp only; omega)) hroom hb (by first | omega | (dsimp only; omega)) (by first | omega | (dsimp only; omega)) (hg _ hx) ((H q (by first | omega | (dsimp only; omega)) k1).x f _ hx2)
      · have m1 : q2 ≤ ts.length := (prs_adv (seen_ends ts) f 0 q [] k1 _ _ _ hx2).2.1
        have hX : ReadS Z p ta tn tc 94 #[.pointer (some ⟨p, 0, none⟩)] q false q2 [] := ((H q (by omega) k1).x f _ hx2).no
        exact (ex_fok E h (by first | omega | (dsimp only; omega)) hroom hb (by first | omega | (dsimp only; omega)) (by first | omega | (dsimp only; omega)) (hg _ hx) hX).mono fun _ _ h => GaveS.no h
    · have hR := hg _ hx
      exact ex_fbad E h (by omega) hroom hb hR
  · cases hb : begC ((seenT ts).cl j) with
    | true =>
      rcases expr_parts hf hr with ⟨q1, l1, hx, hk⟩ | ⟨q1, l1, hx, rfl⟩
      · obtain ⟨_, k1, k2⟩ := opd_at hj hx
        have k2 := k2 rfl
        exact ex_ook E h (by first | omega | (dsimp only; omega)) hroom hb (by first | omega | (dsimp only; omega)) (operandSR E htl hj H hb hx) (restSR E htl H (by first | omega | (dsimp only; omega)) k1 hk)
      · have hR := operandSR E htl hj H hb hx
        exact ex_obad E h (by omega) hroom hb hR
    | false =>
      unfold exprS at hr
      rw [if_neg hf, no_beg (by rw [hb]; decide)] at hr
      cases hr
      exact ex_fbad E h (by omega) hroom hb (fnNo E htl hj hf)

theorem itemSR (E : SEnv Z ta tn ts) (htl : ts.length ≤ 4096) (hj : j ≤ ts.length) (H : ∀ j', j < j' → j' ≤ ts.length → LevP Z p ta tn tc ts j') {f : Nat} {r : Res} (hr : itemS (seenT ts) (prs (seenT ts) f) j = some r) (hs : ∀ r, prs (seenT ts) f 5 j [] = some r → ∃ g, GI (seenT ts) r g ∧ ReadS Z p ta tn tc 43 #[.pointer (some ⟨p, 0, none⟩)] j g r.2.1 (r.2.2.headD [])) : ∃ g, GI (seenT ts) r g ∧ ReadS Z p ta tn tc 145 #[.pointer (some ⟨p, 0, none⟩)] j g r.2.1 (r.2.2.headD []) := by
  unfold itemS at hr
  rcases bind_cases hr with ⟨q, l, hx, hk⟩ | ⟨q, l, hx, rfl⟩
  · obtain ⟨t, rfl, k1, k2, k3, k4⟩ := prs_one (by rfl) (by decide) (by decide) hj hx
    obtain ⟨g, hG, hR⟩ := hs _ hx
    have hk' : (if isE (rootK t) = true ∧ (seenT ts).cl q = 58 then endS (prs (seenT ts) f) 24 0 nilS [t] (q + 1) else okR q [t]) = some r := hk
    cases g with
    | false =>
      obtain ⟨_, _, h58, _⟩ := hG.2 rfl rfl
      rw [if_neg (fun e => h58 e.2)] at hk'
      cases hk'
      exact ⟨false, hG, fun w nd xs h hroom => (it_bad E h (by omega) hroom hR).mono fun _ _ h => GaveS.no h⟩
    | true =>
      by_cases h1 : isE (rootK t) = true
      · by_cases h2 : (seenT ts).cl q = 58
        · rw [if_pos ⟨h1, h2⟩] at hk'
          have hql : q < ts.length := seen_ends ts q (by rw [h2]; decide)
          unfold endS at hk'
          rcases bind_cases hk' with ⟨q2, l2, hx2, hk2⟩ | ⟨q2, l2, hx2, rfl⟩
          · obtain ⟨t2, rfl, m1, m2, _⟩ := prs_one (by rfl) (by decide) (by decide) (q0 := q + 1) hql hx2
            cases hk2
            exact ⟨_, gi_x (l' := [t2]) true, fun w nd xs h hroom => it_end E h (by first | omega | (dsimp only; omega)) hroom (by first | omega | (dsimp only; omega)) hR h1 h2 (by first | omega | (dsimp only; omega)) ((H (q + 1) (by first | omega | (dsimp only; omega)) hql).x f _ hx2)⟩
          · have m1 : q2 ≤ ts.length := (prs_adv (seen_ends ts) f 0 (q + 1) [] hql _ _ _ hx2).2.1
            have hX : ReadS Z p ta tn tc 94 #[.pointer (some ⟨p, 0, none⟩)] (q + 1) false q2 [] := ((H (q + 1) (by omega) hql).x f _ hx2).no
            exact ⟨false, gi_bad, fun w nd xs h hroom => (it_end E h (by first | omega | (dsimp only; omega)) hroom (by first | omega | (dsimp only; omega)) hR h1 h2 (by first | omega | (dsimp only; omega)) hX).mono fun _ _ h => GaveS.no h⟩
        · rw [if_neg (fun e => h2 e.2)] at hk'
          cases hk'
          exact ⟨true, hG, fun w nd xs h hroom => it_nc E h (by first | omega | (dsimp only; omega)) hroom (by first | omega | (dsimp only; omega)) hR h1 h2⟩
      · rw [if_neg (fun e => h1 e.1)] at hk'
        cases hk'
        exact ⟨true, hG, fun w nd xs h hroom => it_ne E h (by first | omega | (dsimp only; omega)) hroom (by first | omega | (dsimp only; omega)) hR (by simpa using h1)⟩
  · obtain ⟨g, hG, hR⟩ := hs _ hx
    cases g with
    | false => exact ⟨false, gi_bad, fun w nd xs h hroom => it_bad E h (by omega) hroom hR⟩
    | true => exact absurd (hG.1 rfl) Bool.false_ne_true

/-- A stmt that is an expr, ahead of which an operand stands. -/
theorem stmtX (E : SEnv Z ta tn ts) (htl : ts.length ≤ 4096) (hj : j ≤ ts.length) (H : ∀ j', j < j' → j' ≤ ts.length → LevP Z p ta tn tc ts j') (hb : begC ((seenT ts).cl j) = true) {f : Nat} {r : Res} (hr : prs (seenT ts) f 0 j [] = some r)
    (hrest : ∀ (f q1 : Nat) (l1 : List (List NodeD)), (bindR (atomS (seenT ts) (prs (seenT ts) f) j) fun q l => prs (seenT ts) f 1 q (l.headD [])) = some (true, q1, l1) → q1 ≤ ts.length → j + 1 ≤ q1 → ReadS Z p ta tn tc 95 #[.pointer (some ⟨p, 0, none⟩)] j true q1 (l1.headD []) → ((seenT ts).cl q1 = 8592 → ReadS Z p ta tn tc 43 #[.pointer (some ⟨p, 0, none⟩)] j false q1 []) ∧ ((seenT ts).cl q1 ≠ 8592 → ∀ g q2 t, RestP Z p ta tn tc q1 (l1.headD []) g q2 t → ReadS Z p ta tn tc 43 #[.pointer (some ⟨p, 0, none⟩)] j g q2 t)) :
    ∃ g, GI (seenT ts) r g ∧ ReadS Z p ta tn tc 43 #[.pointer (some ⟨p, 0, none⟩)] j g r.2.1 (r.2.2.headD []) := by
  cases f with
  | zero => cases hr
  | succ f =>
    rw [prs, if_pos rfl] at hr
    have hf : fnC ((seenT ts).cl j) ≠ true := by rw [beg_fn hb]; decide
    rcases expr_parts hf hr with ⟨q1, l1, hx, hk⟩ | ⟨q1, l1, hx, rfl⟩
    · obtain ⟨_, k1, k2⟩ := opd_at hj hx
      have k2 := k2 rfl
      obtain ⟨h1, h2⟩ := hrest f q1 l1 hx k1 k2 (operandSR E htl hj H hb hx)
      by_cases ha : (seenT ts).cl q1 = 8592
      · unfold restS at hk
        rw [if_neg (by rw [ha]; decide)] at hk
        cases hk
        exact ⟨false, gi_arrow ha, (h1 ha).no⟩
      · obtain ⟨b, q2, l2⟩ := r
        exact ⟨_, gi_x (l' := l2) b, h2 ha _ _ _ (restSR E htl H (by omega) k1 hk)⟩
    · have hR := operandSR E htl hj H hb hx
      exact ⟨false, gi_bad, fun w nd xs h hroom => st_obad E h (by omega) hroom hb rfl rfl hR⟩

/-- A stmt that ends with an expr. -/
theorem endGI (htl : ts.length ≤ 4096) (H : ∀ j', j < j' → j' ≤ ts.length → LevP Z p ta tn tc ts j') {f q0 : Nat} (hjq : j < q0) (hq0 : q0 ≤ ts.length) {k n : Int} {s : ByteArray} {ls : List (List NodeD)} {r : Res} (hr : endS (prs (seenT ts) f) k n s ls q0 = some r)
    (hS : ∀ g q2 t2, q2 ≤ ts.length → ReadS Z p ta tn tc 94 #[.pointer (some ⟨p, 0, none⟩)] q0 g q2 t2 → ReadS Z p ta tn tc 43 #[.pointer (some ⟨p, 0, none⟩)] j g q2 (treeN k n 0 s [] (ls ++ [t2]))) :
    ∃ g, GI (seenT ts) r g ∧ ReadS Z p ta tn tc 43 #[.pointer (some ⟨p, 0, none⟩)] j g r.2.1 (r.2.2.headD []) := by
  have uu := htl
  clear uu
  unfold endS at hr
  rcases bind_cases hr with ⟨q2, l2, hx2, hk2⟩ | ⟨q2, l2, hx2, rfl⟩
  · obtain ⟨t2, rfl, m1, m2, _⟩ := prs_one (by rfl) (by decide) (by decide) (q0 := q0) hq0 hx2
    cases hk2
    exact ⟨_, gi_x (l' := [t2]) true, hS _ _ _ m1 ((H q0 hjq hq0).x f _ hx2)⟩
  · have m1 : q2 ≤ ts.length := (prs_adv (seen_ends ts) f 0 q0 [] hq0 _ _ _ hx2).2.1
    have hX : ReadS Z p ta tn tc 94 #[.pointer (some ⟨p, 0, none⟩)] q0 false q2 [] := ((H q0 hjq hq0).x f _ hx2).no
    exact ⟨false, gi_bad, (hS _ _ _ m1 hX).no⟩

/-- A name alone, as an operand. -/
theorem opd_name (h3 : (seenT ts).cl j = 3) (h91 : (seenT ts).cl (j + 1) ≠ 91) : (bindR (atomS (seenT ts) (prs (seenT ts) 1) j) fun q l => prs (seenT ts) 1 1 q (l.headD [])) = some (true, j + 1, [leafS 3 ((seenT ts).sv j)]) := by
  unfold atomS
  rw [if_neg (by rw [h3]; decide), if_neg (by rw [h3]; decide), if_neg (by rw [h3]; decide), if_pos h3]
  show prs (seenT ts) 1 1 (j + 1) (leafS 3 ((seenT ts).sv j)) = _
  rw [prs, if_neg (by decide), if_pos rfl]
  unfold idxS
  rw [if_neg h91]
  rfl

/-- A name and parts in brackets, as an operand. -/
theorem opd_part {f : Nat} (h3 : (seenT ts).cl j = 3) (h91 : (seenT ts).cl (j + 1) = 91) : (bindR (atomS (seenT ts) (prs (seenT ts) (f + 1)) j) fun q l => prs (seenT ts) (f + 1) 1 q (l.headD [])) = bindR (prs (seenT ts) f 2 (j + 1 + 1) []) fun q l => if (seenT ts).cl q = 93 then prs (seenT ts) f 1 (q + 1) (treeN 7 0 0 nilS [] (leafS 3 ((seenT ts).sv j) :: l)) else badR q := by
  unfold atomS
  rw [if_neg (by rw [h3]; decide), if_neg (by rw [h3]; decide), if_neg (by rw [h3]; decide), if_pos h3]
  show prs (seenT ts) (f + 1) 1 (j + 1) (leafS 3 ((seenT ts).sv j)) = _
  rw [prs, if_neg (by decide), if_pos rfl]
  unfold idxS
  rw [if_pos h91]

theorem opd_one {f q1 : Nat} {l1 : List (List NodeD)} (h3 : (seenT ts).cl j = 3) (h91 : (seenT ts).cl (j + 1) ≠ 91) (hx : (bindR (atomS (seenT ts) (prs (seenT ts) f) j) fun q l => prs (seenT ts) f 1 q (l.headD [])) = some (true, q1, l1)) : q1 = j + 1 := by
  unfold atomS at hx
  rw [if_neg (by rw [h3]; decide), if_neg (by rw [h3]; decide), if_neg (by rw [h3]; decide), if_pos h3] at hx
  have hx' : prs (seenT ts) f 1 (j + 1) (leafS 3 ((seenT ts).sv j)) = some (true, q1, l1) := hx
  rcases idx_end f (j + 1) _ q1 l1 hx' with ⟨h, _⟩ | ⟨_, h, _⟩
  · exact h
  · exact absurd h h91

theorem root_leafS (k : Int) (s : ByteArray) : rootK (leafS k s) = k := root_tree ..

/-- A stmt that begins with a name of a variable. -/
theorem stmt3 (E : SEnv Z ta tn ts) (htl : ts.length ≤ 4096) (hj : j ≤ ts.length) (H : ∀ j', j < j' → j' ≤ ts.length → LevP Z p ta tn tc ts j') (h3 : (seenT ts).cl j = 3) {f : Nat} {r : Res} (hr : stmtS (seenT ts) (prs (seenT ts) f) j = some r) : ∃ g, GI (seenT ts) r g ∧ ReadS Z p ta tn tc 43 #[.pointer (some ⟨p, 0, none⟩)] j g r.2.1 (r.2.2.headD []) := by
  have hb : begC ((seenT ts).cl j) = true := by rw [h3]; rfl
  have hjl : j < ts.length := seen_ends ts j (by rw [h3]; decide)
  unfold stmtS at hr
  rw [if_neg (fun e => absurd e.1 (by rw [h3]; decide))] at hr
  by_cases h91 : (seenT ts).cl (j + 1) = 91
  · have hj1 : j + 1 < ts.length := seen_ends ts (j + 1) (by rw [h91]; decide)
    rw [if_neg (fun e => absurd e.2 (by rw [h91]; decide)), if_neg (fun e => absurd e.2.1 (by rw [h91]; decide))] at hr
    cases hv : asgnB (seenT ts) (j + 1) with
    | true =>
      rw [if_pos ⟨h3, h91, hv⟩] at hr
      rcases bind_cases hr with ⟨q, l, hx, hk⟩ | ⟨q, l, hx, rfl⟩
      · have hbal := prs_bal (X := seenT ts) (o := 91) (c := 93) (.inr ⟨rfl, rfl⟩) f 2 (j + 2) [] q l hx
        by_cases h93 : (seenT ts).cl q = 93
        · rw [if_pos h93] at hk
          have hql : q < ts.length := seen_ends ts q (by rw [h93]; decide)
          have ha : (seenT ts).cl (q + 1) = 8592 := by
            have := asgn_of (X := seenT ts) hql h91 hbal h93
            rw [hv] at this
            exact of_decide_eq_true this.symm
          rw [if_pos ha] at hk
          have hql1 : q + 1 < ts.length := seen_ends ts (q + 1) (by rw [ha]; decide)
          have hjq := hbal.1
          have hp := prs_parts f (j + 2) q l hj1 hx
          have hw := (prs_wf (seenT ts) f 2 (j + 2) [] (fun e => by cases e) q l hx).1
          have hO : ReadS Z p ta tn tc 95 #[.pointer (some ⟨p, 0, none⟩)] j true (q + 1) (treeN 7 0 0 nilS [] (leafS 3 ((seenT ts).sv j) :: l)) := by
            refine operandSR E htl hj H hb (f := f + 1) (r := (true, q + 1, [treeN 7 0 0 nilS [] (leafS 3 ((seenT ts).sv j) :: l)])) ?_
            rw [opd_part h3 h91, show prs (seenT ts) f 2 (j + 1 + 1) [] = some (true, q, l) from hx]
            show (if (seenT ts).cl q = 93 then _ else _) = _
            rw [if_pos h93]
            cases f with
            | zero => cases hx
            | succ f =>
              rw [prs, if_neg (by decide), if_pos rfl]
              unfold idxS
              rw [if_neg (by rw [ha]; decide)]
              rfl
          exact endGI htl H (q0 := q + 2) (by omega) hql1 hk fun g q2 t2 hq2 hR w nd xs h hroom => st_21 E h (by omega) hroom hb (q0 := q + 1) (by omega) (by omega) hO h3 (by omega) rfl (pos_len hw) (by omega) ha (root_leafS ..) (by omega) hR
        · rw [if_neg h93] at hk
          cases hk
          refine ⟨false, gi_bad, fun w nd xs h hroom => st_obad E h (by omega) hroom hb rfl rfl (operandSR E htl hj H hb (f := f + 1) (r := (false, q, [])) ?_)⟩
          rw [opd_part h3 h91, show prs (seenT ts) f 2 (j + 1 + 1) [] = some (true, q, l) from hx]
          show (if (seenT ts).cl q = 93 then _ else _) = _
          rw [if_neg h93]
          rfl
      · refine ⟨false, gi_bad, fun w nd xs h hroom => st_obad E h (by omega) hroom hb rfl rfl (operandSR E htl hj H hb (f := f + 1) (r := (false, q, [])) ?_)⟩
        rw [opd_part h3 h91, show prs (seenT ts) f 2 (j + 1 + 1) [] = some (false, q, l) from hx]
        rfl
    | false =>
      rw [if_neg (by rw [hv]; intro e; cases e.2.2), if_neg (by rw [h3]; decide)] at hr
      refine stmtX E htl hj H hb hr fun f q1 l1 hx k1 k2 hO => ?_
      cases f with
      | zero =>
        unfold atomS at hx
        rw [if_neg (by rw [h3]; decide), if_neg (by rw [h3]; decide), if_neg (by rw [h3]; decide), if_pos h3] at hx
        cases hx
      | succ f =>
        rw [opd_part h3 h91] at hx
        rcases bind_cases hx with ⟨q, l, hx, hk⟩ | ⟨q, l, hx, hk⟩
        case inr => cases hk
        by_cases h93 : (seenT ts).cl q = 93
        case neg => rw [if_neg h93] at hk; cases hk
        rw [if_pos h93] at hk
        have hql : q < ts.length := seen_ends ts q (by rw [h93]; decide)
        have hbal := prs_bal (X := seenT ts) (o := 91) (c := 93) (.inr ⟨rfl, rfl⟩) f 2 (j + 1 + 1) [] q l hx
        have hjq := hbal.1
        have has := asgn_of (X := seenT ts) hql h91 hbal h93
        rw [hv] at has
        have hna : (seenT ts).cl (q + 1) ≠ 8592 := of_decide_eq_false has.symm
        have hq1 : q1 ≠ j + 1 := by
          rcases idx_end f (q + 1) _ q1 l1 hk with ⟨h, _⟩ | ⟨h, _⟩ <;> omega
        refine ⟨fun ha w nd xs h hroom => ?_, fun ha g q2 t hR w nd xs h hroom => st_rc E h (by omega) hroom hb (by omega) k2 hO h3 hq1 ha hR⟩
        have h2 : (seenT ts).cl (q + 1) = 91 := by
          rcases idx_end f (q + 1) _ q1 l1 hk with ⟨rfl, _⟩ | ⟨_, h, _⟩
          · exact absurd ha hna
          · exact h
        obtain ⟨a', l', rfl, ha', hl1, hl2⟩ := idx_two f (q + 1) _ q1 l1 hql (root_tree ..) h2 hk
        exact st_7bad E h (by omega) hroom hb (by omega) k2 hO h3 hq1 rfl hl1 (by omega) ha (by rw [ha']; decide)
  · have hO := operandSR E htl hj H hb (opd_name h3 h91)
    by_cases ha : (seenT ts).cl (j + 1) = 8592
    · have hl : j + 1 < ts.length := seen_ends ts (j + 1) (by rw [ha]; decide)
      rw [if_pos ⟨h3, ha⟩] at hr
      exact endGI htl H (q0 := j + 2) (by omega) hl hr fun g q2 t2 hq2 hR w nd xs h hroom => st_set E h (by omega) hroom hb (q0 := j + 1) (by omega) (by omega) hO h3 rfl ha (by omega) hR
    rw [if_neg (fun e => ha e.2)] at hr
    by_cases hs : 0 < scalNo ((seenT ts).cl (j + 1))
    · by_cases ha2 : (seenT ts).cl (j + 2) = 8592
      · have hl : j + 2 < ts.length := seen_ends ts (j + 2) (by rw [ha2]; decide)
        rw [if_pos ⟨h3, hs, ha2⟩] at hr
        exact endGI htl H (q0 := j + 3) (by omega) hl hr fun g q2 t2 hq2 hR w nd xs h hroom => st_mod E h (by omega) hroom hb (q0 := j + 1) (by omega) (by omega) hO h3 rfl hs ha2 (by omega) hR
      rw [if_neg (fun e => ha2 e.2.2), if_neg (fun e => h91 e.2.1), if_neg (by rw [h3]; decide)] at hr
      refine stmtX E htl hj H hb hr fun f q1 l1 hx k1 k2 hO' => ?_
      have hq1 : q1 = j + 1 := opd_one h3 h91 hx
      subst hq1
      exact ⟨fun e => absurd e ha, fun _ g q2 t hR w nd xs h hroom => st_rb E h (by omega) hroom hb (by omega) k2 hO' h3 rfl hs ha2 hR⟩
    · rw [if_neg (fun e => hs e.2.1), if_neg (fun e => h91 e.2.1), if_neg (by rw [h3]; decide)] at hr
      refine stmtX E htl hj H hb hr fun f q1 l1 hx k1 k2 hO' => ?_
      have hq1 : q1 = j + 1 := opd_one h3 h91 hx
      subst hq1
      exact ⟨fun e => absurd e ha, fun ha g q2 t hR w nd xs h hroom => st_ra E h (by omega) hroom hb (by omega) k2 hO' h3 rfl (Nat.eq_zero_of_not_pos hs) ha hR⟩

end
end Go.Proofs.YtmgjicgojlkpcaaGreatDoor
