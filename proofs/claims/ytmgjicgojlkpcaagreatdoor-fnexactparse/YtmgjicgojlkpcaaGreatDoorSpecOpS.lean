import Derived.Test.YtmgjicgojlkpcaaGreatDoorSpecPtS
namespace Go.Proofs.YtmgjicgojlkpcaaGreatDoor
open Go.RowKit

section
variable {Z w w0 w1 : World} {p i j q : Nat} {nd nd0 nd1 v : Value} {zs : List Int} {xs ys : List NodeC} {bx : List Nat} {ns : List NodeD} {ta : Option Addr} {tn tc : Nat} {ts : List Tok} {b b' g : Bool} {t : List NodeD}

theorem KS.readP {r : Res} (hR : PartsP Z p ta tn tc i r) (h : KS Z p ta tn tc w0 nd0 xs bx ns i false w nd v zs) (hroom : ns.length + 4 * (5000 - i) ≤ 100000) :
    Calls Tryz.prog 148 #[.pointer (some ⟨p, 0, none⟩)] w fun e w' => ∃ nd' ds a c us, e = .returned (.slice a us.length c) ∧ KS Z p ta tn tc w0 nd0 xs bx (ns ++ ds) r.2.1 (!r.1) w' nd' v zs ∧ KS Z p ta tn tc w0 nd0 xs bx (ns ++ ds) r.2.1 (!r.1) w' nd' (.slice a us.length c) us ∧ i ≤ r.2.1 ∧ ds.length + 1 ≤ 4 * (r.2.1 - i) ∧ us.length ≤ r.2.1 - i + 1 ∧ 1 ≤ us.length ∧ (r.1 = true → ∃ es, us = castL es ∧ TreesAt (ns ++ ds) es r.2.2) := by
  obtain ⟨ys, hm, hd, ho, hf, hx⟩ := h
  have hl : (xs ++ ys).length = ns.length := by rw [← hd, List.length_map]
  refine (hR w nd (xs ++ ys) hm.ps (by rw [hl]; exact hroom)).mono ?_
  rintro e w' ⟨nd', ns', a, c, us, rfl, ⟨vs, hm', hd', ho', hf', _⟩, hiq, hln, hul, hu1, ht⟩
  have e1 : ns' = ns ++ vs.map NodeC.d := by rw [← hd', List.map_append, hd]
  have h1 := ks_go hm ho hf hx hm'
  have hw0 := hm.but.size
  rw [List.map_append, hd] at h1
  refine ⟨nd', vs.map NodeC.d, a, c, us, rfl, h1.1, ⟨ys ++ vs, hm.go2 hm', by rw [← List.append_assoc, List.map_append, hd], ho', fun k hk => ?_, fun k hk => ?_⟩, hiq, ?_, hul, hu1, fun hg => by rw [← e1]; exact ht hg⟩
  · obtain ⟨h2, h3⟩ := hf' k hk
    exact ⟨by omega, by rw [← List.append_assoc]; exact h3⟩
  · obtain ⟨zs', _, _, _, hx'⟩ := h1.1
    obtain ⟨b1, b2, b3, b4, b5, b6, b7⟩ := hx k hk
    refine ⟨b1, b2, Nat.lt_of_lt_of_le b3 hm'.but.size, b4, fun e => ?_, fun hc => ?_, fun e => ?_⟩
    · rcases hm'.at_ with h' | h'
      · exact b5 (h' ▸ e)
      · have := h' k e; omega
    · rw [← List.append_assoc, blksC_app] at hc
      rcases List.mem_append.1 hc with h' | h'
      · exact b6 h'
      · have := hm'.new k h'; omega
    · have := (hf' k e).1; omega
  · rw [e1, List.length_append, hl] at hln
    omega

theorem left_br {F g j : Nat} {rp : Res} (hg : g ≤ F) (h : inBr ts g j = some rp) : leftP (seenT ts) F g (j + 1) [] = some rp := by
  unfold inBr at h
  unfold leftP
  exact Leq.bind (ser2_leq (seenT ts) g F (j + 1) hg) (fun q l => Leq.refl _) rp h

set_option maxRecDepth 20000 in
set_option maxHeartbeats 8000000 in
/-- An operand. -/
theorem operandS_any (E : SEnv Z ta tn ts) (htl : ts.length ≤ 4096) {F : Nat} (hX : ∀ j r, i < j → j ≤ ts.length → prs (seenT ts) F 0 j [] = some r → ReadS Z p ta tn tc 94 #[.pointer (some ⟨p, 0, none⟩)] j (gX (seenT ts) r) r.2.1 (r.2.2.headD []))
    (hil : i ≤ ts.length) (hA : ∀ r', atomS (seenT ts) (prs (seenT ts) F) i = some r' → ReadS Z p ta tn tc 147 #[.pointer (some ⟨p, 0, none⟩)] i r'.1 r'.2.1 (r'.2.2.headD []))
    {r : Res} (hr : (bindR (atomS (seenT ts) (prs (seenT ts) F) i) fun q l => prs (seenT ts) F 1 q (l.headD [])) = some r) : ReadS Z p ta tn tc 95 #[.pointer (some ⟨p, 0, none⟩)] i r.1 r.2.1 (r.2.2.headD []) := by
  intro w nd xs h hroom
  obtain ⟨i0, hi, hz0, hz1, hz2⟩ := info_parts info_int
  have HK := hide (KS.start h)
  have hxl : (xs.map NodeC.d).length = xs.length := List.length_map ..
  obtain ⟨NS, hNS⟩ : ∃ NS, xs.map NodeC.d = NS := ⟨_, rfl⟩
  rw [hNS] at HK hxl
  have HXL := hide hxl
  obtain ⟨g0, q0, t0, hA0, hq0, hS⟩ : ∃ g0 q0 t0, ReadS Z p ta tn tc 147 #[.pointer (some ⟨p, 0, none⟩)] i g0 q0 t0 ∧ q0 ≤ ts.length ∧ ((g0 = true ∧ prs (seenT ts) F 1 q0 t0 = some r) ∨ (g0 = false ∧ r = (false, q0, []))) := by
    have hadv := atom_adv (seen_ends ts) (prs_adv (seen_ends ts) F) (i := i) hil
    rcases bind_cases hr with ⟨q, l, hx, hk⟩ | ⟨q, l, hx, rfl⟩
    · exact ⟨true, q, l.headD [], hA _ hx, (hadv _ _ _ hx).2.1, .inl ⟨rfl, hk⟩⟩
    · exact ⟨false, q, l.headD [], hA _ hx, (hadv _ _ _ hx).2.1, .inr ⟨rfl, rfl⟩⟩
  have HAT := hide (fun (V : World) (n : Value) (hk : KS Z p ta tn tc w nd xs [] NS i false V n nilL []) => hk.read hA0 (by omega))
  have HSG := hide (fun (V : World) (n : Value) (ns : List NodeD) (j : Nat) (hj : j ≤ ts.length) (x : ByteArray) (hx : sgT ts j = x) (hk : KS Z p ta tn tc w nd xs [] ns j false V n nilL []) => hk.via (e0 := .returned (.string x)) fun _ hX => (spSign E hX (z := 0) (j := j) (by omega) (by omega)).mono fun _ _ h => ⟨by rw [h.1, hx], (MidP.start hX).below h.2⟩)
  have HSX := hide (fun (j : Nat) => sg_is E.ok j (c := 91) (by decide) (s := ⟨#[91]⟩) (by kernel_rfl))
  have HPX := hide (fun (g j : Nat) (rp : Res) (hg : g ≤ F) (hij : i ≤ j) (h91 : (seenT ts).cl j = 91) (hrp : inBr ts g j = some rp) => partsS_any E htl (fun j' r h1 h2 h3 => hX j' r (by omega) h2 h3) h91 (left_br hg hrp))
  have HSS := hide hS
  obtain ⟨p0, p1, p2, p3, f0, f1, f2, f3, hpl⟩ := h.all
  clear h hxl hr hX hA hA0 hS E
  go_enter Tryz.func95, Tryz.ntmps95
  go_wp2_with (go_at_call 147; refine (unhide HAT _ _ (unhide HK)).mono ?_; rintro e w4 ⟨z0, nd4, ds0, rfl, hk, _, hi0', hl0, ht0⟩; have HK4 := hide hk; have HI0 := hide hi0'; have HL0 := hide hl0; have HT0 := hide ht0; clear hk hi0' hl0 ht0)
  go_loopw [3] (fun u wr => ∃ (j : Nat) (ns : List NodeD) (n : Value) (z : Int) (bb : Bool), u = .int .i64 z ∧ j ≤ ts.length ∧ i ≤ j ∧ ns.length ≤ xs.length + 4 * (j - i) ∧ Hid (KS Z p ta tn tc w nd xs [] ns j bb wr n nilL []) ∧ Hid ((bb = false ∧ ns.length + 1 ≤ xs.length + 4 * (j - i) ∧ ∃ (ez G : Nat) (t : List NodeD), z = (ez : Int) ∧ TreeAt ns ez t ∧ G ≤ F ∧ prs (seenT ts) G 1 j t = some r) ∨ (bb = true ∧ r = (false, j, [])))) (fun _ wr => ts.length + 1 - plc p wr)
  case atStart =>
    have hl0 := unhide HL0
    have hx0 := unhide HXL
    refine ⟨q0, NS ++ ds0, nd4, z0, !g0, rfl, hq0, unhide HI0, by rw [List.length_append]; omega, HK4, ?_⟩
    rcases unhide HSS with ⟨rfl, hp⟩ | ⟨rfl, hp⟩
    · obtain ⟨hl1, ez, rfl, ht⟩ := unhide HT0 rfl
      exact .inl ⟨rfl, by rw [List.length_append]; omega, ez, F, t0, rfl, ht, Nat.le_refl _, hp⟩
    · exact .inr ⟨rfl, hp⟩
  case round =>
    obtain ⟨j, ns, n, z, bb, rfl, hj, hij, hnl, HKR, HC⟩ := hrel
    clear HK HAT HK4 HI0 HL0 HT0 HSS p0 p1 p2 p3 f0 f1 f2 f3 hpl hq0
    obtain ⟨p0, p1, p2, p3, f0, f1, f2, f3, hpl⟩ := (unhide HKR).all
    have HPL := hide (unhide HKR).plc
    have hzl := (unhide HKR).low.size
    rcases unhide HC with ⟨rfl, hn1, ez, G, t, rfl, ht, hG, hp⟩ | ⟨rfl, rfl⟩
    case inr =>
      clear HC HPX HSG HSX
      go_wp2_with fail
      go_ret
      exact bad_gave hnl (unhide HKR) hij _
    case inl =>
      clear HC
      obtain ⟨x, hx⟩ : ∃ x, sgT ts j = x := ⟨_, rfl⟩
      have HS1 := hide (unhide HSG _ _ _ j hj x hx (unhide HKR))
      have h91 := unhide HSX j
      rw [hx, show ((⟨#[91]⟩ : ByteArray).toList) = [91] by kernel_rfl] at h91
      clear hx HSX HSG
      obtain ⟨z, hz⟩ : ∃ z : Int, (ez : Int) = z := ⟨_, rfl⟩
      rw [hz]
      have HEZ := hide hz
      have HTR := hide ht
      clear hz ht
      cases G with
      | zero => cases hp
      | succ G =>
        rw [prs, if_neg (by decide), if_pos rfl] at hp
        unfold idxS at hp
        by_cases c91 : (seenT ts).cl j = 91
        case neg =>
          rw [decide_eq_false c91] at h91
          rw [if_neg c91] at hp
          have hr : (true, j, [t]) = r := by cases hp; rfl
          subst hr
          clear hp HPX
          go_wp2_with ((go_at_call 91; refine (unhide HS1).mono ?_; rintro e w5 ⟨rfl, hk, _⟩; have HK5 := hide hk; clear hk))
          go_ret
          have hez := unhide HEZ
          subst hez
          exact KS.gave (g := true) (unhide HK5) rfl hij (by omega) (fun _ => ⟨hn1, ez, rfl, unhide HTR⟩)
        case pos =>
          rw [decide_eq_true c91] at h91
          rw [if_pos c91] at hp
          have hjl : j < ts.length := seen_ends ts j (by rw [c91]; decide)
          have hpx := fun rp h => unhide HPX G j rp (by omega) (by omega) c91 h
          unfold inBr at hpx
          cases hv : prs (seenT ts) G 2 (j + 1) [] with
          | none => rw [hv] at hp; cases hp
          | some y =>
            obtain ⟨yb, q, l⟩ := y
            rw [hv] at hp hpx
            have hq : q ≤ ts.length := (prs_adv (seen_ends ts) G 2 (j + 1) [] hjl _ _ _ hv).2.1
            have hq1 : j + 1 ≤ q := (prs_adv (seen_ends ts) G 2 (j + 1) [] hjl _ _ _ hv).1
            by_cases hok : yb = true ∧ (seenT ts).cl q = 93
            case pos =>
              obtain ⟨rfl, h93⟩ := hok
              have hql : q < ts.length := seen_ends ts q (by rw [h93]; decide)
              have hpp := hpx (true, q + 1, l) (by show (if (seenT ts).cl q = 93 then okR (q + 1) l else badR q) = _; rw [if_pos h93]; rfl)
              have hp' : (if (seenT ts).cl q = 93 then prs (seenT ts) G 1 (q + 1) (treeN 7 0 0 nilS [] (t :: l)) else badR q) = some r := hp
              rw [if_pos h93] at hp'
              have HPP := hide hp'
              have HPR := hide (fun (V : World) (n u : Value) (hk : KS Z p ta tn tc w nd xs [] ns j false V n u [z]) => hk.readP hpp (by omega))
              clear hp hp' hv hpx HPX hpp
              go_wp2_with (first | (go_at_call 91; refine (unhide HS1).mono ?_; rintro e w5 ⟨rfl, hk, _⟩; have HK5 := hide (hk.list [z] (by show 1 ≤ 100; omega)); clear hk) | (go_at_call 148; refine (unhide HPR _ _ _ (unhide HK5)).mono ?_; rintro e w6 ⟨nd6, ds, a6, c6, us, rfl, hka, hkb, hi6, hl6, hu6, hu7, ht6⟩; obtain ⟨ad, rfl, hnw⟩ := own_some hkb.ownR (by omega); have HNW := hide hnw; have HK6 := hide hka; have HI6 := hide hi6; have HL6 := hide hl6; have HT6 := hide ht6; have hzl6 := hka.low.size; have hul : us.length ≤ 5000 := (by omega); clear hka hkb hi6 hl6 ht6 hnw) | (at_builtin; refine wpList_append_lies _ rfl _ _ 45 rfl Z.heap.size 3 i0 (.int .i64 0) 1 8 Tryz.underlying45 hi hz0 hz1 hz2 rfl (by decide) _ _ _ rfl (unhide HK6).ownR ad us.length c6 (us.map (Value.int .i64)) rfl (by rw [List.length_map, Nat.mul_one]) (unhide HNW) (one_is us) (by omega) (by show 1 + us.length ≤ maxLen; unfold maxLen; omega) (by show (1 + us.length) * 8 ≤ _; omega) (by omega) w6.heap.size rfl ?_; intro g' cap' w7 hown' hgrow hat hlt7; obtain ⟨hk7, _⟩ := KS.grow (us := [z] ++ us) (n := 1 + us.length) (unhide HK6) (by unfold OwnI; rw [List.map_append, List.length_append]; exact hown') hgrow hat; have HK7 := hide hk7; clear hk7 hown' hgrow hat hlt7) | (go_at_call 45; refine (KS.put (unhide HK7) 7 0 0 ⟨#[]⟩ (by rw [List.length_append]; have := unhide HL6; omega)).mono ?_; rintro e w9 ⟨rfl, nd9, hk9⟩; have HK9 := hide hk9; have HP9 := hide hk9.plc; clear hk9))
              go_roundw
              case rel =>
                have hl6 : ds.length + 1 ≤ 4 * (q + 1 - j) := unhide HL6
                obtain ⟨es, rfl, hts⟩ := unhide HT6 trivial
                have hez := unhide HEZ
                subst hez
                refine ⟨q + 1, _, nd9, _, false, rfl, by omega, by omega, by rw [List.length_append, List.length_append]; show _ + _ + 1 ≤ _; omega, HK9, .inl ⟨rfl, by rw [List.length_append, List.length_append]; show _ + _ + 1 + 1 ≤ _; omega, (ns ++ ds).length, G, treeN 7 0 0 nilS [] (t :: l), by simp, ?_, by omega, unhide HPP⟩⟩
                exact (TreesAt.cons (unhide HTR).mono hts).put 7 0 0 ⟨#[]⟩ [] ⟨fun _ => by simp, fun e => by simp at e, fun e => by simp at e⟩
              case measure => rw [unhide HPL, unhide HP9]; show _ + 1 - (q + 1) < _; omega
            case neg =>
              have hr : (false, q, []) = r := by
                cases yb with
                | false => cases hp; rfl
                | true =>
                  have hp' : (if (seenT ts).cl q = 93 then prs (seenT ts) G 1 (q + 1) (treeN 7 0 0 nilS [] (t :: l)) else badR q) = some r := hp
                  rw [if_neg (fun e => hok ⟨rfl, e⟩)] at hp'
                  cases hp'
                  rfl
              have hpp := hpx (false, q, []) (by
                cases yb with
                | false => rfl
                | true => show (if (seenT ts).cl q = 93 then okR (q + 1) l else badR q) = _; rw [if_neg (fun e => hok ⟨rfl, e⟩)]; rfl)
              subst hr
              have HPR := hide (fun (V : World) (n u : Value) (hk : KS Z p ta tn tc w nd xs [] ns j false V n u [z]) => hk.readP hpp (by omega))
              clear hp hv hpx HPX hpp
              go_wp2_with (first | (go_at_call 91; refine (unhide HS1).mono ?_; rintro e w5 ⟨rfl, hk, _⟩; have HK5 := hide (hk.list [z] (by show 1 ≤ 100; omega)); clear hk) | (go_at_call 148; refine (unhide HPR _ _ _ (unhide HK5)).mono ?_; rintro e w6 ⟨nd6, ds, a6, c6, us, rfl, hka, hkb, hi6, hl6, hu6, hu7, ht6⟩; obtain ⟨ad, rfl, hnw⟩ := own_some hkb.ownR (by omega); have HNW := hide hnw; have HK6 := hide hka; have HI6 := hide hi6; have HL6 := hide hl6; have HT6 := hide ht6; have hzl6 := hka.low.size; have hul : us.length ≤ 5000 := (by omega); clear hka hkb hi6 hl6 ht6 hnw) | (at_builtin; refine wpList_append_lies _ rfl _ _ 45 rfl Z.heap.size 3 i0 (.int .i64 0) 1 8 Tryz.underlying45 hi hz0 hz1 hz2 rfl (by decide) _ _ _ rfl (unhide HK6).ownR ad us.length c6 (us.map (Value.int .i64)) rfl (by rw [List.length_map, Nat.mul_one]) (unhide HNW) (one_is us) (by omega) (by show 1 + us.length ≤ maxLen; unfold maxLen; omega) (by show (1 + us.length) * 8 ≤ _; omega) (by omega) w6.heap.size rfl ?_; intro g' cap' w7 hown' hgrow hat hlt7; obtain ⟨hk7, _⟩ := KS.grow (us := [z] ++ us) (n := 1 + us.length) (unhide HK6) (by unfold OwnI; rw [List.map_append, List.length_append]; exact hown') hgrow hat; have HK7 := hide hk7; clear hk7 hown' hgrow hat hlt7) | (go_at_call 45; refine (KS.put (unhide HK7) 7 0 0 ⟨#[]⟩ (by rw [List.length_append]; have := unhide HL6; omega)).mono ?_; rintro e w9 ⟨rfl, nd9, hk9⟩; have HK9 := hide hk9; have HP9 := hide hk9.plc; clear hk9))
              go_roundw
              case rel =>
                have hl6 : ds.length + 1 ≤ 4 * (q - j) := unhide HL6
                exact ⟨q, _, nd9, _, true, rfl, hq, by omega, by rw [List.length_append, List.length_append]; show _ + _ + 1 ≤ _; omega, HK9, .inr ⟨rfl, rfl⟩⟩
              case measure => rw [unhide HPL, unhide HP9]; show _ + 1 - q < _; omega

end
end Go.Proofs.YtmgjicgojlkpcaaGreatDoor
