import Derived.Test.YtmgjicgojlkpcaaGreatDoorImplNums
namespace Go.Proofs.YtmgjicgojlkpcaaGreatDoor
open Go.RowKit

/-- One level of the grammar once or more, with a sign between. -/
def serS (X : Seen) (c : Nat) (Lv : Nat → Option Res) : Nat → Nat → Option Res
  | 0, _ => none
  | f + 1, i => bindR (Lv i) fun q l => if X.cl q = c then bindR (serS X c Lv f (q + 1)) fun q2 l2 => okR q2 (l ++ l2) else okR q l

/-- What a reader of a list of the developers' has given. -/
def GaveL (Z : World) (p : Nat) (ta : Option Addr) (tn tc : Nat) (ts : List Tok) (bytes : Nat) (w0 : World) (nd0 : Value) (xs : List NodeC) (r : Res) (e : Ending) (w' : World) : Prop :=
  (r.1 = true ∧ ∃ nd' a c, e = .returned (.tuple #[.slice a (placesT xs.length r.2.2).length c, .nilIface]) ∧ KT Z p ta tn tc bytes w0 nd0 xs [] r.2.2 r.2.1 w' nd' (.slice a (placesT xs.length r.2.2).length c) (placesT xs.length r.2.2)) ∨
  (r.1 = false ∧ ∃ b a n c, e = .returned (.tuple #[.slice a n c, faultV b]) ∧ IsFault w' b (tokA ts bytes r.2.1).p ∧ Below Z.heap.size Z w')

/-- A reader of a list of the developers'. -/
def ListI (Z : World) (p : Nat) (ta : Option Addr) (tn tc : Nat) (ts : List Tok) (bytes : Nat) (f : Nat) (args : Array Value) (i : Nat) (r : Res) : Prop :=
  ∀ w nd xs, PS 88 Z p (.slice ta tn tc) (.int .i64 (bytes : Nat)) w i nd xs → xs.length + 4 * (5000 - i) ≤ 100000 → Calls Tryz.prog f args w (GaveL Z p ta tn tc ts bytes w nd xs r)

section
variable {Z w w0 w1 : World} {p i j : Nat} {nd nd0 nd1 v : Value} {zs : List Int} {xs ys : List NodeC} {bx : List Nat} {ls : List (List NodeD)} {ta : Option Addr} {tn tc bytes : Nat} {ts : List Tok}

theorem bind_cases {x : Option Res} {k : Nat → List (List NodeD) → Option Res} {r : Res} (h : bindR x k = some r) : (∃ q l, x = some (true, q, l) ∧ k q l = some r) ∨ (∃ q l, x = some (false, q, l) ∧ r = (false, q, [])) := by
  cases x with
  | none => cases h
  | some y =>
    obtain ⟨b, q, l⟩ := y
    cases b with
    | true => exact .inl ⟨q, l, rfl, h⟩
    | false => cases h; exact .inr ⟨q, l, rfl, rfl⟩

theorem bind_assoc {x : Option Res} {ls l : List (List NodeD)} : bindR (bindR x fun q2 l2 => okR q2 (l ++ l2)) (fun q2 l2 => okR q2 (ls ++ l2)) = bindR x fun q2 l2 => okR q2 ((ls ++ l) ++ l2) := by
  cases x with
  | none => rfl
  | some y =>
    obtain ⟨b, q, l'⟩ := y
    cases b with
    | true => show okR q (ls ++ (l ++ l')) = okR q ((ls ++ l) ++ l'); rw [List.append_assoc]
    | false => rfl

theorem roots_len : ∀ ls : List (List NodeD), (rootsT ls).length = ls.length
  | [] => rfl
  | l :: ls => by rw [rootsT, List.length_cons, List.length_map, roots_len ls, List.length_cons]
theorem places_len (n : Nat) (ls : List (List NodeD)) : (placesT n ls).length = ls.length := by unfold placesT; rw [List.length_map, roots_len]
theorem places_put (n : Nat) (ls : List (List NodeD)) (t : List NodeD) (z : Int) (hz : z = ((n + (rowT (ls ++ [t])).length : Nat) : Int) - 1) : placesT n ls ++ [z] = placesT n (ls ++ [t]) := by
  rw [places_app, places_one, hz, row_app, row_one]
  congr 2
  omega

set_option maxRecDepth 20000 in
set_option maxHeartbeats 4000000 in
theorem serP (E : IEnv Z ta tn ts bytes) (htl : ts.length ≤ 4096) {c g : Nat} (eg : ∀ args w, (callFunc g args).run Tryz.prog w = .ok (.enter g args) w) (hc : c ∈ signCs) {s : ByteArray} (hs : s = bstr (encZ ((c : Nat) : Int))) {Lv : Nat → Option Res}
    (hL : ∀ j q l, j ≤ ts.length → Lv j = some (true, q, l) → ∃ t, l = [t] ∧ j ≤ q ∧ q ≤ ts.length ∧ t.length ≤ 4 * (q - j) + 1) (hR : ∀ j r, j ≤ ts.length → Lv j = some r → ReadI Z p ta tn tc ts bytes g #[.pointer (some ⟨p, 0, none⟩)] j r)
    {f0 : Nat} {r : Res} (hr : bindR (serS (seenT ts) c Lv f0 i) (fun q2 l2 => okR q2 ([] ++ l2)) = some r) (hil : i ≤ ts.length) :
    ListI Z p ta tn tc ts bytes 101 #[.pointer (some ⟨p, 0, none⟩), .string s, .func (.func g) #[.pointer (some ⟨p, 0, none⟩)] #[]] i r := by
  intro w nd xs h hroom
  obtain ⟨i0, hi, hz0, hz1, hz2⟩ := info_parts info_int
  have HK := hide (KT.start h)
  have HT0 := hide hr
  have HLV := hide hL
  have HRD := hide hR
  have HTY := hide (fun (V : World) (n u : Value) (ms : List (List NodeD)) (us : List Int) (q : Nat) (hq : q ≤ 4200) (hy : (seenT ts).cl q = c) (hk : KT Z p ta tn tc bytes w nd xs [] ms q V n u us) => hk.via fun _ hX => takeYesM E (MidP.start hX) hq hc hs hy)
  have HTN := hide (fun (V : World) (n u : Value) (ms : List (List NodeD)) (us : List Int) (q : Nat) (hq : q ≤ 4200) (hy : (seenT ts).cl q ≠ c) (hk : KT Z p ta tn tc bytes w nd xs [] ms q V n u us) => hk.via fun _ hX => takeNoM E (MidP.start hX) hq hc hs hy)
  have hc0 : c ≠ 0 := by have : 40 ≤ c := of_decide_eq_true (List.all_eq_true.mp sign_ge c hc); omega
  clear h hr hL hR hc hs
  go_enter Tryz.func101, Tryz.ntmps101
  go_wp2_with fail
  go_loopw [8] (fun u wr => ∃ (j f : Nat) (ls : List (List NodeD)) (n : Value), j ≤ ts.length ∧ xs.length + (rowT ls).length + 4 * (5000 - j) ≤ 100000 ∧ ls.length ≤ j ∧ Hid (bindR (serS (seenT ts) c Lv f j) (fun q2 l2 => okR q2 (ls ++ l2)) = some r) ∧ Hid (KT Z p ta tn tc bytes w nd xs [] ls j wr n u (placesT xs.length ls))) (fun _ wr => ts.length + 1 - plc p wr)
  case atStart => exact ⟨i, f0, [], nd, hil, hroom, Nat.zero_le _, HT0, HK⟩
  case round =>
    obtain ⟨j, f, ls, n, hj, hrm, hlj, HT, HKR⟩ := hrel
    clear HK HT0 hil hroom
    obtain ⟨u0, uc, rfl⟩ := (unhide HKR).slice
    have HPL := hide (unhide HKR).plc
    have hpz : (placesT xs.length ls).length ≤ 4096 := by rw [places_len]; omega
    have hzl := (unhide HKR).low.size
    cases f with
    | zero => exact absurd (unhide HT) (by simp [serS, bindR])
    | succ f =>
      have hT := unhide HT
      rw [serS] at hT
      cases hv : Lv j with
      | none => rw [hv] at hT; cases hT
      | some y =>
        obtain ⟨b, q, l⟩ := y
        rw [hv] at hT
        cases b with
        | false =>
          have hr : (false, q, []) = r := by cases hT; rfl
          have HX := hide ((unhide HKR).readNo (unhide HRD j _ hj hv) hrm)
          subst hr
          clear hT hv HT HKR
          go_wp2_with (go_at_fn g; refine (unhide HX).mono ?_; rintro e w5 ⟨b, z, rfl, hf, hb⟩; have HF := hide (And.intro hf hb); clear hf hb; delta faultV)
          go_ret2
          exact .inr ⟨rfl, b, none, 0, 0, rfl, (unhide HF).1, (unhide HF).2⟩
        | true =>
          obtain ⟨t, rfl, hq1, hq2, hq3⟩ := unhide HLV j q l hj hv
          have HX := hide ((unhide HKR).read (unhide HRD j _ hj hv) hrm)
          have hrw : (rowT (ls ++ [t])).length = (rowT ls).length + t.length := by rw [row_app, row_one]
          obtain ⟨P, hP⟩ : ∃ P, placesT xs.length ls = P := ⟨_, rfl⟩
          have HPP : Hid (∀ z : Int, z = ((xs.length + (rowT (ls ++ [t])).length : Nat) : Int) - 1 → P ++ [z] = placesT xs.length (ls ++ [t])) := fun z hz => by rw [← hP]; exact places_put _ _ _ _ hz
          rw [hP] at hpz HX HKR ⊢
          clear HT
          by_cases hcq : (seenT ts).cl q = c
          case pos =>
            have HT2 : Hid (bindR (serS (seenT ts) c Lv f (q + 1)) (fun q2 l2 => okR q2 ((ls ++ [t]) ++ l2)) = some r) := by
              have hT' : bindR (if (seenT ts).cl q = c then bindR (serS (seenT ts) c Lv f (q + 1)) (fun q2 l2 => okR q2 ([t] ++ l2)) else okR q [t]) (fun q2 l2 => okR q2 (ls ++ l2)) = some r := hT
              rw [if_pos hcq, bind_assoc] at hT'
              exact hT'
            have hq4 : q < ts.length := seen_ends ts q (by rw [hcq]; exact hc0)
            clear hT hv HKR hP
            go_wp2_with (first | (go_at_fn g; refine (unhide HX).mono ?_; rintro e w5 ⟨z, nd', rfl, hz, hk, _⟩; have HK5 := hide (hk.below ((Below.refl _ _).alloc (Nat.le_refl _) (.cells #[.int .i64 z] 3))); have HPZ := hide (unhide HPP z hz); have hzl5 := hk.low.size; clear hk hz HX) | (at_builtin; refine wpList_append_lies _ rfl _ _ 45 rfl Z.heap.size 3 i0 (.int .i64 0) 1 8 Tryz.underlying45 hi hz0 hz1 hz2 rfl (by decide) _ _ _ rfl (unhide HK5).ownR ⟨w5.heap.size, 0, none⟩ 1 1 [.int .i64 z] rfl rfl (cells_i _ _) (one_i _) (by omega) (by unfold maxLen; omega) (by omega) (by simp; omega) (w5.heap.size + 1) (by simp) ?_; intro g' cap' w7 hown' hgrow hat hlt7; obtain ⟨hk7, _⟩ := KT.grew (unhide HK5) hown' hgrow hat (by simp); rw [unhide HPZ] at hk7; have HK7 := hide hk7; clear hk7 hown' hgrow hat hlt7) | (go_at_call 157; refine (unhide HTY _ _ _ _ _ q (by omega) hcq (unhide HK7)).mono ?_; rintro e w9 ⟨rfl, hk9, _⟩; have HK9 := hide hk9; have HP9 := hide hk9.plc; clear hk9))
            go_roundw
            case rel => exact ⟨q + 1, f, ls ++ [t], nd', by omega, by omega, by rw [List.length_append]; show _ + 1 ≤ _; omega, HT2, HK9⟩
            case measure => rw [unhide HPL, unhide HP9]; omega
          case neg =>
            have hr : (true, q, ls ++ [t]) = r := by
              have hT' : bindR (if (seenT ts).cl q = c then bindR (serS (seenT ts) c Lv f (q + 1)) (fun q2 l2 => okR q2 ([t] ++ l2)) else okR q [t]) (fun q2 l2 => okR q2 (ls ++ l2)) = some r := hT
              rw [if_neg hcq] at hT'
              cases hT'
              rfl
            subst hr
            clear hT hv HKR hP
            go_wp2_with (first | (go_at_fn g; refine (unhide HX).mono ?_; rintro e w5 ⟨z, nd', rfl, hz, hk, _⟩; have HK5 := hide (hk.below ((Below.refl _ _).alloc (Nat.le_refl _) (.cells #[.int .i64 z] 3))); have HPZ := hide (unhide HPP z hz); have hzl5 := hk.low.size; clear hk hz HX) | (at_builtin; refine wpList_append_lies _ rfl _ _ 45 rfl Z.heap.size 3 i0 (.int .i64 0) 1 8 Tryz.underlying45 hi hz0 hz1 hz2 rfl (by decide) _ _ _ rfl (unhide HK5).ownR ⟨w5.heap.size, 0, none⟩ 1 1 [.int .i64 z] rfl rfl (cells_i _ _) (one_i _) (by omega) (by unfold maxLen; omega) (by omega) (by simp; omega) (w5.heap.size + 1) (by simp) ?_; intro g' cap' w7 hown' hgrow hat hlt7; obtain ⟨hk7, _⟩ := KT.grew (unhide HK5) hown' hgrow hat (by simp); have HK7 := hide hk7; clear hk7 hown' hgrow hat hlt7) | (go_at_call 157; refine (unhide HTN _ _ _ _ _ q (by omega) hcq (unhide HK7)).mono ?_; rintro e w9 ⟨rfl, hk9, _⟩; have HK9 := hide hk9; clear hk9))
            go_ret2
            have hk := unhide HK9
            have el : P.length + 1 = (placesT xs.length (ls ++ [t])).length := by rw [← unhide HPZ, List.length_append]; rfl
            rw [unhide HPZ, el] at hk
            rw [el]
            exact .inl ⟨rfl, nd', _, _, rfl, hk⟩

end
end Go.Proofs.YtmgjicgojlkpcaaGreatDoor
