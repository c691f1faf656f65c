import Derived.Test.YtmgjicgojlkpcaaGreatDoorImplFrom
namespace Go.Proofs.YtmgjicgojlkpcaaGreatDoor
open Go.RowKit

section
variable {Z w w0 w1 : World} {p i j : Nat} {nd nd0 nd1 v : Value} {zs : List Int} {xs ys : List NodeC} {bx : List Nat} {ls : List (List NodeD)} {ta : Option Addr} {tn tc bytes : Nat} {ts : List Tok}

/-- What prs tells of one tree. -/
theorem prs_one {ts : List Tok} {f m q0 q : Nat} {l : List (List NodeD)} (hm : oneM m = true) (hm1 : m ≠ 1) (hm2 : m ≠ 2) (hq0 : q0 ≤ ts.length) (h : prs (seenT ts) f m q0 [] = some (true, q, l)) : ∃ t, l = [t] ∧ q ≤ ts.length ∧ q0 ≤ q ∧ t.length ≤ 4 * (q - q0) ∧ t.length + 1 ≤ 4 * (q - q0) := by
  have K := prs_knows (seen_ends ts) f
  obtain ⟨h1, h2, h3, h4⟩ := K.fair m q0 [] hq0 (fun e => absurd e hm1) q l h
  obtain ⟨t, rfl, _⟩ := h4 hm
  have e1 : slackM m = 1 := by unfold slackM; rw [if_neg (by omega)]
  have e2 : moreM m [] = 0 := by unfold moreM; rw [if_neg hm1, if_neg hm2]
  rw [row_one, e1, e2] at h3
  exact ⟨t, rfl, h2, h1, by omega, by omega⟩

/-- How many parts there are at most. -/
theorem prs_parts {ts : List Tok} : ∀ (f q0 q : Nat) (l : List (List NodeD)), q0 ≤ ts.length → prs (seenT ts) f 2 q0 [] = some (true, q, l) → l.length + q0 ≤ q + 1
  | 0, _, _, _, _, h => by cases h
  | f + 1, q0, q, l, hq0, h => by
    rw [prs, if_neg (by decide), if_neg (by decide), if_pos rfl] at h
    unfold partsS at h
    rcases bind_cases h with ⟨q1, l1, hx, hk⟩ | ⟨_, _, _, hk⟩
    · have h1 : l1.length = 1 ∧ q0 ≤ q1 := by
        split at hx
        · cases hx; exact ⟨rfl, Nat.le_refl _⟩
        · obtain ⟨t, rfl, _, h2, _⟩ := prs_one (by rfl) (by decide) (by decide) hq0 hx
          exact ⟨rfl, h2⟩
      split at hk
      · rename_i h59
        rcases bind_cases hk with ⟨q2, l2, hx2, hk2⟩ | ⟨_, _, _, hk2⟩
        · have := prs_parts f (q1 + 1) q2 l2 (seen_ends ts q1 (by rw [h59]; decide)) hx2
          cases hk2
          rw [List.length_append]
          omega
        · cases hk2
      · cases hk
        omega
    · cases hk

set_option maxRecDepth 20000 in
set_option maxHeartbeats 8000000 in
/-- What stands behind the beginning of an operand. -/
theorem fromP (E : IEnv Z ta tn ts bytes) (htl : ts.length ≤ 4096) {f : Nat} (hP : ∀ g j r, g < f → j ≤ ts.length → (seenT ts).cl j = 91 → inBr ts g j = some r → ListI Z p ta tn tc ts bytes 194 #[.pointer (some ⟨p, 0, none⟩)] j r)
    (hG : ∀ j r, j ≤ ts.length → fnC ((seenT ts).cl j) = true → prs (seenT ts) f 3 j [] = some r → ReadI Z p ta tn tc ts bytes 199 #[.pointer (some ⟨p, 0, none⟩)] j r)
    (hX : ∀ j r, j ≤ ts.length → prs (seenT ts) f 0 j [] = some r → ReadI Z p ta tn tc ts bytes 166 #[.pointer (some ⟨p, 0, none⟩)] j r)
    {q0 : Nat} (hq0 : q0 ≤ ts.length) {t0 : List NodeD} {r : Res} (hr : fromS (seenT ts) (prs (seenT ts) f) q0 t0 = some r) : FromI Z p ta tn tc ts bytes q0 t0 r := by
  intro w0 nd0 xs w nd h hroom
  obtain ⟨i0, hi, hz0, hz1, hz2⟩ := info_parts info_int
  have HK := hide h
  have HPX := hide hP
  have HGX := hide hG
  have HXX := hide hX
  have HT0 : Hid (bindR (prs (seenT ts) f 1 q0 t0) (fun q2 l => restS (seenT ts) (prs (seenT ts) f) q2 (l.headD [])) = some r) := hr
  obtain ⟨a0, ha0⟩ : ∃ a0, ((xs.length + (rowT [t0]).length : Nat) : Int) - 1 = a0 := ⟨_, rfl⟩
  rw [ha0]
  clear h hP hG hX hr
  go_enter Tryz.func197, Tryz.ntmps197
  go_wp2_with fail
  go_loopw [1] (fun u wr => ∃ (j g : Nat) (t : List NodeD) (n : Value) (a : Int), u = .int .i64 a ∧ Hid (a = ((xs.length + (rowT [t]).length : Nat) : Int) - 1) ∧ j ≤ ts.length ∧ g ≤ f ∧ xs.length + (rowT [t]).length + 4 * (5000 - j) ≤ 100000 ∧ Hid (bindR (prs (seenT ts) g 1 j t) (fun q2 l => restS (seenT ts) (prs (seenT ts) f) q2 (l.headD [])) = some r) ∧ Hid (KT Z p ta tn tc bytes w0 nd0 xs [] [t] j wr n nilL [])) (fun _ wr => ts.length + 1 - plc p wr)
  case atStart => exact ⟨q0, f, t0, nd, a0, rfl, ha0.symm, hq0, Nat.le_refl _, hroom, HT0, HK⟩
  case round =>
    obtain ⟨j, g, t, n, a, rfl, HAA, hj, hg, hrm, HT, HKR⟩ := hrel
    clear HK HT0 ha0 hroom hq0
    have HPL := hide (unhide HKR).plc
    have hzl := (unhide HKR).low.size
    cases g with
    | zero => exact absurd (unhide HT) (by simp [prs, bindR])
    | succ g =>
      have hT := unhide HT
      rw [prs, if_neg (by decide), if_pos rfl] at hT
      unfold idxS at hT
      by_cases h91 : (seenT ts).cl j = 91
      case pos =>
        rw [if_pos h91] at hT
        have hjl : j < ts.length := seen_ends ts j (by rw [h91]; decide)
        have KA := hide ((unhide HKR).via fun _ hX => isYesM E (MidP.start hX) (by omega) (c := 91) (by decide) (s := ⟨#[91]⟩) (by kernel_rfl) h91)
        have HPJ := hide (fun r hr => unhide HPX g j r (by omega) hj h91 hr)
        have hfair : ∀ q l, prs (seenT ts) g 2 (j + 1) [] = some (true, q, l) → j + 1 ≤ q ∧ q ≤ ts.length ∧ (rowT l).length ≤ 4 * (q - (j + 1)) + 1 ∧ 0 < l.length := fun q l e => by
          obtain ⟨h1, h2, h3, _⟩ := (prs_knows (seen_ends ts) g).fair 2 (j + 1) [] hjl (fun e => by cases e) q l e
          have e1 : slackM 2 = 0 := rfl
          have e2 : moreM 2 [] = 1 := rfl
          rw [e1, e2] at h3
          exact ⟨h1, h2, h3, ((prs_adv (seen_ends ts) g 2 (j + 1) [] hjl _ _ _ e).2.2 rfl).2⟩
        unfold inBr at HPJ
        cases hv : prs (seenT ts) g 2 (j + 1) [] with
        | none => rw [hv] at hT; cases hT
        | some y =>
          obtain ⟨b, q, l⟩ := y
          rw [hv] at hT HPJ
          by_cases hok : b = true ∧ (seenT ts).cl q = 93
          case neg =>
            have hr : (false, q, []) = r := by
              cases b with
              | false => cases hT; rfl
              | true =>
                have hT' : bindR (if (seenT ts).cl q = 93 then prs (seenT ts) g 1 (q + 1) (treeN 7 0 0 nilS [] (t :: l)) else badR q) (fun q2 l => restS (seenT ts) (prs (seenT ts) f) q2 (l.headD [])) = some r := hT
                rw [if_neg (fun e => hok ⟨rfl, e⟩)] at hT'
                cases hT'
                rfl
            have hp : ListI Z p ta tn tc ts bytes 194 #[.pointer (some ⟨p, 0, none⟩)] j (false, q, []) := unhide HPJ _ (by
              cases b with
              | false => rfl
              | true => show (if (seenT ts).cl q = 93 then okR (q + 1) l else badR q) = _; rw [if_neg (fun e => hok ⟨rfl, e⟩)]; rfl)
            have KP := hide (fun (V : World) (n u : Value) (hk : KT Z p ta tn tc bytes w0 nd0 xs [] [t] j V n u []) => KT.readLNo hp hk hrm)
            subst hr
            clear hT hv HT HKR hp hfair HPJ
            go_wp2_with (first | (go_at_call 191; refine (unhide KA).mono ?_; rintro e w5 ⟨rfl, hk, _⟩; have HK5 := hide hk; clear hk) | (go_at_call 194; refine (unhide KP _ _ _ (unhide HK5)).mono ?_; rintro e w6 ⟨b, a5, n5, c5, rfl, hf, hb⟩; have HF := hide (And.intro hf hb); clear hf hb; delta faultV))
            go_ret2
            exact gave_fault 0 rfl (unhide HF).1 (unhide HF).2
          case pos =>
            obtain ⟨rfl, h93⟩ := hok
            have hT' : bindR (if (seenT ts).cl q = 93 then prs (seenT ts) g 1 (q + 1) (treeN 7 0 0 nilS [] (t :: l)) else badR q) (fun q2 l => restS (seenT ts) (prs (seenT ts) f) q2 (l.headD [])) = some r := hT
            rw [if_pos h93] at hT'
            have HT2 : Hid (bindR (prs (seenT ts) g 1 (q + 1) (treeN 7 0 0 ⟨#[]⟩ [] ([t] ++ l))) (fun q2 l => restS (seenT ts) (prs (seenT ts) f) q2 (l.headD [])) = some r) := hT'
            have hp : ListI Z p ta tn tc ts bytes 194 #[.pointer (some ⟨p, 0, none⟩)] j (true, q + 1, l) := unhide HPJ _ (by show (if (seenT ts).cl q = 93 then okR (q + 1) l else badR q) = _; rw [if_pos h93]; rfl)
            obtain ⟨hq1, hq2, hq3, hq4⟩ := hfair q l hv
            have hql : q < ts.length := seen_ends ts q (by rw [h93]; decide)
            have hpl := prs_parts g (j + 1) q l hjl hv
            have KP := hide (fun (V : World) (n u : Value) (hk : KT Z p ta tn tc bytes w0 nd0 xs [] [t] j V n u []) => KT.readL hp hk hrm)
            obtain ⟨L, hL⟩ : ∃ L, placesT (xs.length + (rowT [t]).length) l = L := ⟨_, rfl⟩
            have hLl : L.length = l.length := by rw [← hL, places_len]
            have hLpos : 0 < L.length := by omega
            have hLle : L.length ≤ 4200 := by omega
            have HL2 : Hid (placesT xs.length ([t] ++ l) = [a] ++ L) := by show _ = _; rw [places_app, hL, places_one, unhide HAA, row_one]
            have e1 : (rowT ([t] ++ l)).length = (rowT [t]).length + (rowT l).length := row_app _ _
            have e2 : (rowT [treeN 7 0 0 ⟨#[]⟩ [] ([t] ++ l)]).length = (rowT [t]).length + (rowT l).length + 1 := by rw [row_one, tree_len, e1]
            have HLN : Hid (xs.length + (rowT ([t] ++ l)).length ≤ 1048576) := by show _ ≤ _; omega
            rw [hL] at KP
            clear hT hT' hv HT HKR hp hfair HPJ hL hLl
            go_wp2_with (first | (go_at_call 191; refine (unhide KA).mono ?_; rintro e w5 ⟨rfl, hk, _⟩; have HK5 := hide hk; clear hk) | (go_at_call 194; refine (unhide KP _ _ _ (unhide HK5)).mono ?_; rintro e w6 ⟨nd6, a5, c5, rfl, hk, _⟩; obtain ⟨ad, rfl, hnw⟩ := own_some (hk.below ((Below.refl _ _).alloc (Nat.le_refl _) (.cells #[.int .i64 a] 3))).ownR hLpos; have HNW := hide hnw; have HK6 := hide (hk.list [a] (by show 1 ≤ 100; omega)); have hzl6 := hk.low.size; clear hk hnw) | (at_builtin; refine wpList_append_lies _ rfl _ _ 45 rfl Z.heap.size 3 i0 (.int .i64 0) 1 8 Tryz.underlying45 hi hz0 hz1 hz2 rfl (by decide) _ _ _ rfl (unhide HK6).ownR ad L.length c5 (L.map (Value.int .i64)) rfl (by rw [List.length_map, Nat.mul_one]) (unhide HNW) (one_is L) hLpos (by show 1 + L.length ≤ maxLen; unfold maxLen; omega) (by show (1 + L.length) * 8 ≤ _; omega) (by simp; omega) (w6.heap.size + 1) (by simp) ?_; intro g' cap' w7 hown' hgrow hat hlt7; obtain ⟨hk7, _⟩ := KT.grow (us := [a] ++ L) (n := 1 + L.length) (unhide HK6) (by unfold OwnI; rw [List.map_append, List.length_append]; exact hown') hgrow (Or.imp_right (fun e => e.trans (by simp)) hat); have HK7 := hide hk7; clear hk7 hown' hgrow hat hlt7) | (go_at_call 104; refine (KT.putL (ls := [t] ++ l) (unhide HL2) (unhide HK7) 7 0 0 ⟨#[]⟩ (unhide HLN)).mono ?_; rintro e w9 ⟨rfl, nd9, hk9⟩; have HK9 := hide hk9; have HP9 := hide hk9.plc; clear hk9))
            go_roundw
            case rel => exact ⟨q + 1, g, treeN 7 0 0 ⟨#[]⟩ [] ([t] ++ l), nd9, _, rfl, by show _ = _; rw [e2]; have e1c : (rowT (t :: l)).length = (rowT [t]).length + (rowT l).length := e1; omega, by omega, by omega, by omega, HT2, HK9⟩
            case measure => rw [unhide HPL, unhide HP9]; omega
      case neg =>
        rw [if_neg h91] at hT
        have hT' : restS (seenT ts) (prs (seenT ts) f) j t = some r := hT
        unfold restS at hT'
        have KA := hide ((unhide HKR).via fun _ hX => isNoM E (MidP.start hX) (by omega) (c := 91) (by decide) (s := ⟨#[91]⟩) (by kernel_rfl) h91)
        by_cases hf : fnC ((seenT ts).cl j) = true
        case neg =>
          have hf' : fnC ((seenT ts).cl j) = false := by simpa using hf
          rw [if_neg hf] at hT'
          have hr : (true, j, [t]) = r := by cases hT'; rfl
          have KF := hide (fun (V : World) (n u : Value) (hk : KT Z p ta tn tc bytes w0 nd0 xs [] [t] j V n u []) => hk.via (e0 := .returned (.bool false)) fun _ hX => (fnAheadP E hX (by omega)).mono fun _ _ h => ⟨by rw [h.1, hf'], (MidP.start hX).below h.2⟩)
          subst hr
          clear hT hT' HT HKR hf hf'
          go_wp2_with (first | (go_at_call 191; refine (unhide KA).mono ?_; rintro e w5 ⟨rfl, hk, _⟩; have HK5 := hide hk; clear hk) | (go_at_call 198; refine (unhide KF _ _ _ (unhide HK5)).mono ?_; rintro e w6 ⟨rfl, hk, _⟩; have HK6 := hide hk; clear hk))
          go_ret2
          exact (unhide HK6).gave rfl (unhide HAA)
        case pos =>
          rw [if_pos hf] at hT'
          have KF := hide (fun (V : World) (n u : Value) (hk : KT Z p ta tn tc bytes w0 nd0 xs [] [t] j V n u []) => hk.via (e0 := .returned (.bool true)) fun _ hX => (fnAheadP E hX (by omega)).mono fun _ _ h => ⟨by rw [h.1, hf], (MidP.start hX).below h.2⟩)
          rcases bind_cases hT' with ⟨q2, l2, hx, hk⟩ | ⟨q2, l2, hx, hr⟩
          · obtain ⟨t2, rfl, hq1, hq2, hq3, hq5⟩ := prs_one (by rfl) (by decide) (by decide) hj hx
            have hen : endS (prs (seenT ts) f) 10 0 ⟨#[]⟩ ([t] ++ [t2]) q2 = some r := hk
            have hg := unhide HGX j _ hj hf hx
            have KG := hide (fun (V : World) (n u : Value) (hk : KT Z p ta tn tc bytes w0 nd0 xs [] [t] j V n u []) => KT.read hg hk hrm)
            have e1 : (rowT ([t] ++ [t2])).length = (rowT [t]).length + t2.length := by rw [row_app, row_one t2]
            have KE := hide (fun (V : World) (n : Value) (z : Int) (hz : z = ((xs.length + (rowT ([t] ++ [t2])).length : Nat) : Int) - 1) {c : Nat} {b : Option Addr} (hk : KT Z p ta tn tc bytes w0 nd0 xs [] ([t] ++ [t2]) q2 V n (.slice b 2 c) [a, z]) => endP (L := [a, z]) (ts := ts) (by rw [← places_put xs.length [t] t2 z hz, places_one, unhide HAA, row_one]; rfl) hk 10 0 ⟨#[]⟩ (fun r hr => unhide HXX q2 r hq1 hr) (fun q l hx => by obtain ⟨t3, h1, h2, h3, h4, _⟩ := prs_one (by rfl) (by decide) (by decide) hq1 hx; exact ⟨t3, h1, h2, h3, h4⟩) htl (by rw [e1]; omega) (by show 2 ≤ 100000; omega) hen)
            clear hT hT' HT HKR hf hx hg hk hen
            go_wp2_with (first | (go_at_call 191; refine (unhide KA).mono ?_; rintro e w5 ⟨rfl, hk, _⟩; have HK5 := hide hk; clear hk) | (go_at_call 198; refine (unhide KF _ _ _ (unhide HK5)).mono ?_; rintro e w6 ⟨rfl, hk, _⟩; have HK6 := hide hk; clear hk) | (go_at_call 199; refine (unhide KG _ _ _ (unhide HK6)).mono ?_; rintro e w7 ⟨z7, nd7, rfl, hz7, hk, _⟩; have HK7 := hide (hk.list [a, z7] (by show 2 ≤ 100; omega)); have HZ7 := hide hz7; clear hk hz7) | (go_at_call 161; refine (unhide KE _ _ _ (unhide HZ7) (unhide HK7)).mono ?_; rintro e w8 ⟨z, v, rfl, hg⟩; have HF := hide hg; clear hg))
            go_ret2
            exact unhide HF
          · have hg := unhide HGX j _ hj hf hx
            have KG := hide (fun (V : World) (n u : Value) (hk : KT Z p ta tn tc bytes w0 nd0 xs [] [t] j V n u []) => KT.readNo hg hk hrm)
            subst hr
            clear hT hT' HT HKR hf hx hg
            go_wp2_with (first | (go_at_call 191; refine (unhide KA).mono ?_; rintro e w5 ⟨rfl, hk, _⟩; have HK5 := hide hk; clear hk) | (go_at_call 198; refine (unhide KF _ _ _ (unhide HK5)).mono ?_; rintro e w6 ⟨rfl, hk, _⟩; have HK6 := hide hk; clear hk) | (go_at_call 199; refine (unhide KG _ _ _ (unhide HK6)).mono ?_; rintro e w7 ⟨b, z, rfl, hf, hb⟩; have HF := hide (And.intro hf hb); clear hf hb; delta faultV))
            go_ret2
            exact gave_fault 0 rfl (unhide HF).1 (unhide HF).2

end
end Go.Proofs.YtmgjicgojlkpcaaGreatDoor
