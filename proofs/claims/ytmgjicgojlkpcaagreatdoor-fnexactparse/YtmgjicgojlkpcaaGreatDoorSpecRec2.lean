import Derived.Test.YtmgjicgojlkpcaaGreatDoorSpecRec
namespace Go.Proofs.YtmgjicgojlkpcaaGreatDoor
open Go.RowKit

section
variable {Z w w0 w1 : World} {p i j q : Nat} {nd nd0 nd1 v : Value} {zs : List Int} {xs ys : List NodeC} {bx : List Nat} {ns : List NodeD} {ta : Option Addr} {tn tc : Nat} {ts : List Tok} {b b' g : Bool} {t : List NodeD}

/-- An operand in round brackets. -/
theorem opd_round {f : Nat} (h40 : (seenT ts).cl j = 40) : (bindR (atomS (seenT ts) (prs (seenT ts) f) j) fun q l => prs (seenT ts) f 1 q (l.headD [])) = bindR (prs (seenT ts) f 0 (j + 1) []) fun q l => if (seenT ts).cl q = 41 then prs (seenT ts) f 1 (q + 1) (l.headD []) else badR q := by
  unfold atomS
  rw [if_neg (by rw [h40]; decide), if_pos h40]
  cases prs (seenT ts) f 0 (j + 1) [] with
  | none => rfl
  | some y =>
    obtain ⟨b, q, l⟩ := y
    cases b with
    | false => rfl
    | true =>
      show bindR (if (seenT ts).cl q = 41 then okR (q + 1) l else badR q) _ = if (seenT ts).cl q = 41 then _ else _
      split <;> rfl

/-- A stmt that begins with a round bracket. -/
theorem stmt40 (E : SEnv Z ta tn ts) (htl : ts.length ≤ 4096) (hj : j ≤ ts.length) (H : ∀ j', j < j' → j' ≤ ts.length → LevP Z p ta tn tc ts j') (h40 : (seenT ts).cl j = 40) {f : Nat} {r : Res} (hr : (bindR (prs (seenT ts) f 0 (j + 1) []) fun q l => if (seenT ts).cl q = 41 then (if (seenT ts).cl (q + 1) = 8592 then (if selT (l.headD []) = true then endS (prs (seenT ts) f) 23 0 nilS l (q + 2) else badR (q + 1)) else fromS (seenT ts) (prs (seenT ts) f) (q + 1) (l.headD [])) else badR q) = some r) : ∃ g, GI (seenT ts) r g ∧ ReadS Z p ta tn tc 43 #[.pointer (some ⟨p, 0, none⟩)] j g r.2.1 (r.2.2.headD []) := by
  have hb : begC ((seenT ts).cl j) = true := by rw [h40]; rfl
  have h3 : (seenT ts).cl j ≠ 3 := by rw [h40]; decide
  have hjl : j < ts.length := seen_ends ts j (by rw [h40]; decide)
  have hO := fun r hr => operandSR E htl hj H hb (f := f) (r := r) hr
  rw [opd_round h40] at hO
  have bad : ∀ q l, (bindR (prs (seenT ts) f 0 (j + 1) []) fun q l => if (seenT ts).cl q = 41 then prs (seenT ts) f 1 (q + 1) (l.headD []) else badR q) = some (false, q, l) → ∃ g, GI (seenT ts) (false, q, []) g ∧ ReadS Z p ta tn tc 43 #[.pointer (some ⟨p, 0, none⟩)] j g q [] := fun q l hx => by
    have hR := hO _ hx
    exact ⟨false, gi_bad, fun w nd xs h hroom => st_obad E h (by omega) hroom hb rfl rfl hR⟩
  rcases bind_cases hr with ⟨q, l, hx, hk⟩ | ⟨q, l, hx, rfl⟩
  · obtain ⟨t, rfl, k1, k2, k3, _⟩ := prs_one (by rfl) (by decide) (by decide) (q0 := j + 1) hjl hx
    have hjq : j + 1 + 1 ≤ q := ((prs_adv (seen_ends ts) f 0 (j + 1) [] hjl).q hx).1
    have hbal := prs_bal (X := seenT ts) (o := 40) (c := 41) (.inl ⟨rfl, rfl⟩) f 0 (j + 1) [] q _ hx
    rw [hx] at hO bad
    by_cases h41 : (seenT ts).cl q = 41
    · rw [if_pos h41] at hk
      have hql : q < ts.length := seen_ends ts q (by rw [h41]; decide)
      have hO' : ∀ r, prs (seenT ts) f 1 (q + 1) t = some r → ReadS Z p ta tn tc 95 #[.pointer (some ⟨p, 0, none⟩)] j r.1 r.2.1 (r.2.2.headD []) := fun r hr => hO r (by show (if (seenT ts).cl q = 41 then prs (seenT ts) f 1 (q + 1) t else badR q) = _; rw [if_pos h41]; exact hr)
      by_cases ha : (seenT ts).cl (q + 1) = 8592
      · rw [if_pos ha] at hk
        have hql1 : q + 1 < ts.length := seen_ends ts (q + 1) (by rw [ha]; decide)
        have hR := hO' (true, q + 1, [t]) (by
          cases f with
          | zero => cases hx
          | succ f =>
            rw [prs, if_neg (by decide), if_pos rfl]
            unfold idxS
            rw [if_neg (by rw [ha]; decide)]
            rfl)
        obtain ⟨hd, he⟩ := bal_in (by decide) h40 hbal h41
        have hk' : (if selT t = true then endS (prs (seenT ts) f) 23 0 nilS [t] (q + 2) else badR (q + 1)) = some r := hk
        by_cases hs : selT t = true
        · rw [if_pos hs] at hk'
          exact endGI htl H (q0 := q + 2) (by omega) hql1 hk' fun g q2 t2 hq2 hR2 w nd xs h hroom => st_23 E h (by omega) hroom hb (q0 := q + 1) (by omega) (by omega) hR h3 h40 ha h41 hs hql htl (by omega) hd he (by omega) hR2
        · rw [if_neg hs] at hk'
          cases hk'
          exact ⟨false, gi_bad, fun w nd xs h hroom => st_23n E h (by omega) hroom hb (q0 := q + 1) (by omega) (by omega) hR h3 h40 ha h41 (by simpa using hs)⟩
      · rw [if_neg ha] at hk
        unfold fromS at hk
        rcases bind_cases hk with ⟨q1, l1, hx1, hk1⟩ | ⟨q1, l1, hx1, rfl⟩
        · have m1 := prs_adv (seen_ends ts) f 1 (q + 1) t hql _ _ _ hx1
          have m2 : q1 ≤ ts.length := m1.2.1
          have m3 := m1.1
          have hR := hO' _ hx1
          by_cases ha1 : (seenT ts).cl q1 = 8592
          · have h93 : (seenT ts).cl (q1 - 1) = 93 := by
              rcases idx_end f (q + 1) _ q1 l1 hx1 with ⟨rfl, _⟩ | ⟨_, _, h, _⟩
              · exact absurd ha1 ha
              · exact h
            unfold restS at hk1
            rw [if_neg (by rw [ha1]; decide)] at hk1
            cases hk1
            refine ⟨false, gi_arrow ha1, fun w nd xs h hroom => ?_⟩
            exact (st_23x E h (by omega) hroom hb (q0 := q1) (by omega) (by omega) hR h3 h40 ha1 (by rw [h93]; decide)).mono fun _ _ h => GaveS.no h
          · obtain ⟨b, q2, l2⟩ := r
            exact ⟨_, gi_x (l' := l2) b, fun w nd xs h hroom => st_rdr E h (by omega) hroom hb (q0 := q1) (by omega) (by omega) hR h3 h40 ha1 (restSR E htl H (by omega) m2 hk1)⟩
        · exact bad q1 l1 (by show (if (seenT ts).cl q = 41 then prs (seenT ts) f 1 (q + 1) t else badR q) = _; rw [if_pos h41]; exact hx1)
    · rw [if_neg h41] at hk
      cases hk
      exact bad q [] (by show (if (seenT ts).cl q = 41 then prs (seenT ts) f 1 (q + 1) t else badR q) = _; rw [if_neg h41]; rfl)
  · exact bad q [] (by rw [hx]; rfl)

theorem stmtSR (E : SEnv Z ta tn ts) (htl : ts.length ≤ 4096) (hj : j ≤ ts.length) (H : ∀ j', j < j' → j' ≤ ts.length → LevP Z p ta tn tc ts j') {f : Nat} {r : Res} (hr : stmtS (seenT ts) (prs (seenT ts) f) j = some r) (hX : ∀ r, prs (seenT ts) f 0 j [] = some r → ReadS Z p ta tn tc 94 #[.pointer (some ⟨p, 0, none⟩)] j (gX (seenT ts) r) r.2.1 (r.2.2.headD [])) : ∃ g, GI (seenT ts) r g ∧ ReadS Z p ta tn tc 43 #[.pointer (some ⟨p, 0, none⟩)] j g r.2.1 (r.2.2.headD []) := by
  by_cases h3 : (seenT ts).cl j = 3
  · exact stmt3 E htl hj H h3 hr
  unfold stmtS at hr
  by_cases h40 : (seenT ts).cl j = 40
  · rw [if_neg (fun e => absurd e.1 (by rw [h40]; decide)), if_neg (fun e => h3 e.1), if_neg (fun e => h3 e.1), if_neg (fun e => h3 e.1), if_pos h40] at hr
    exact stmt40 E htl hj H h40 hr
  by_cases h4 : (seenT ts).cl j = 4
  · have hb : begC ((seenT ts).cl j) = false := by rw [h4]; rfl
    by_cases ha : (seenT ts).cl (j + 1) = 8592
    · rw [if_pos ⟨h4, ha⟩] at hr
      have hj1 : j + 1 < ts.length := seen_ends ts (j + 1) (by rw [ha]; decide)
      by_cases h5 : (seenT ts).cl (j + 2) = 123
      · rw [if_pos h5] at hr
        have hB := fun r hr => bracesSR E htl (j := j + 2) (fun j' h1 h2 => H j' (by omega) h2) h5 (f := f) (r := r) hr
        rcases bind_cases hr with ⟨q, l, hx, hk⟩ | ⟨q, l, hx, rfl⟩
        · obtain ⟨t, rfl, k1, k2, k3⟩ := fair_one (braces_fair (seen_ends ts) (prs_knows (seen_ends ts) f) h5) hx
          have k2' : q ≤ ts.length := k2
          cases hk
          have hR := hB _ hx
          exact ⟨true, gi_ok, fun w nd xs h hroom => st_def E h (by omega) hroom h4 ha h5 (q2 := q) (by omega) hR⟩
        · have hR := hB _ hx
          have k2 : q ≤ ts.length := (braces_adv (seen_ends ts) (prs_adv (seen_ends ts) f) h5 _ _ _ hx).2.1
          exact ⟨false, gi_bad, fun w nd xs h hroom => (st_def E h (by omega) hroom h4 ha h5 (q2 := q) (by omega) hR).mono fun _ _ h => GaveS.no h⟩
      · rw [if_neg h5] at hr
        cases hr
        exact ⟨false, gi_bad, fun w nd xs h hroom => st_defn E h (by omega) hroom h4 ha h5⟩
    · rw [if_neg (fun e => ha e.2), if_neg (fun e => h3 e.1), if_neg (fun e => h3 e.1), if_neg (fun e => h3 e.1), if_neg h40] at hr
      obtain ⟨b, q2, l2⟩ := r
      exact ⟨_, gi_x (l' := l2) b, fun w nd xs h hroom => st_nb4 E h (by omega) hroom h4 ha hb (hX _ hr)⟩
  rw [if_neg (fun e => h4 e.1), if_neg (fun e => h3 e.1), if_neg (fun e => h3 e.1), if_neg (fun e => h3 e.1), if_neg h40] at hr
  cases hb : begC ((seenT ts).cl j) with
  | false =>
    obtain ⟨b, q2, l2⟩ := r
    exact ⟨_, gi_x (l' := l2) b, fun w nd xs h hroom => st_nb E h (by omega) hroom h4 hb (hX _ hr)⟩
  | true =>
    refine stmtX E htl hj H hb hr fun f q1 l1 hx k1 k2 hO => ?_
    exact ⟨fun ha w nd xs h hroom => st_nbad E h (by omega) hroom hb (by omega) k2 hO h3 h40 ha, fun ha g q2 t hR w nd xs h hroom => st_rd E h (by omega) hroom hb (by omega) k2 hO h3 h40 ha hR⟩

/-- The specification's readers read what the grammar says. -/
theorem levP (E : SEnv Z ta tn ts) (htl : ts.length ≤ 4096) : ∀ (n j : Nat), j ≤ ts.length → ts.length - j < n → LevP Z p ta tn tc ts j
  | 0, _, _, h => absurd h (Nat.not_lt_zero _)
  | n + 1, j, hj, hn => by
    have H : ∀ j', j < j' → j' ≤ ts.length → LevP Z p ta tn tc ts j' := fun j' h1 h2 => levP E htl n j' h2 (by omega)
    have G : ∀ f r, prs (seenT ts) f 3 j [] = some r → ReadS Z p ta tn tc 146 #[.pointer (some ⟨p, 0, none⟩)] j r.1 r.2.1 (r.2.2.headD []) := fun f r hr => by
      cases f with
      | zero => cases hr
      | succ f =>
        rw [prs, if_neg (by decide), if_neg (by decide), if_neg (by decide), if_pos rfl] at hr
        exact fnSR E htl hj H hr
    have X : ∀ f r, prs (seenT ts) f 0 j [] = some r → ReadS Z p ta tn tc 94 #[.pointer (some ⟨p, 0, none⟩)] j (gX (seenT ts) r) r.2.1 (r.2.2.headD []) := fun f r hr => by
      cases f with
      | zero => cases hr
      | succ f =>
        rw [prs, if_pos rfl] at hr
        exact exprSR E htl hj H hr (G f)
    have S : ∀ f r, prs (seenT ts) f 5 j [] = some r → ∃ g, GI (seenT ts) r g ∧ ReadS Z p ta tn tc 43 #[.pointer (some ⟨p, 0, none⟩)] j g r.2.1 (r.2.2.headD []) := fun f r hr => by
      cases f with
      | zero => cases hr
      | succ f =>
        rw [prs, if_neg (by decide), if_neg (by decide), if_neg (by decide), if_neg (by decide), if_neg (by decide), if_pos rfl] at hr
        exact stmtSR E htl hj H hr (X f)
    refine ⟨X, G, S, fun f r hr => ?_⟩
    cases f with
    | zero => cases hr
    | succ f =>
      rw [prs, if_neg (by decide), if_neg (by decide), if_neg (by decide), if_neg (by decide), if_neg (by decide), if_neg (by decide), if_pos rfl] at hr
      exact itemSR E htl hj H hr (S f)

end
end Go.Proofs.YtmgjicgojlkpcaaGreatDoor
