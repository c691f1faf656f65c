import Derived.Test.YtmgjicgojlkpcaaGreatDoorSpecNum
import Derived.Test.YtmgjicgojlkpcaaGreatDoorImplRec
namespace Go.Proofs.YtmgjicgojlkpcaaGreatDoor
open Go.RowKit

section
variable {Z w w0 w1 : World} {p i j q : Nat} {nd nd0 nd1 v : Value} {zs : List Int} {xs ys : List NodeC} {bx : List Nat} {ns : List NodeD} {ta : Option Addr} {tn tc : Nat} {ts : List Tok} {b b' g : Bool} {t : List NodeD}

/-- A leaf put, the list and the boxes kept. -/
theorem KS.leaf (h : KS Z p ta tn tc w0 nd0 xs bx ns i b w nd v zs) (k n m : Int) (s : ByteArray) (hlen : ns.length ≤ 1048576) :
    Calls Tryz.prog 45 #[.pointer (some ⟨p, 0, none⟩), .agg #[.int .i64 k, .int .i64 n, .int .i64 m, .string s, .slice none 0 0, .slice none 0 0]] w fun e w' => e = .returned (.int .i64 (ns.length : Nat)) ∧ ∃ nd', KS Z p ta tn tc w0 nd0 xs bx (ns ++ [⟨k, n, m, s, [], []⟩]) i b w' nd' v zs := by
  obtain ⟨ys, hm, hd, ho, hf, hx⟩ := h
  have hl : (xs ++ ys).length = ns.length := by rw [← hd, List.length_map]
  refine (putS Z p _ _ w i nd (xs ++ ys) hm.ps k n m s [] [] none none 0 0 0 0 ⟨own_nil _ _, own_nil _ _⟩ (fun k hk => by simp [NodeC.blks, Value.ownBlock] at hk) (by simp [NodeC.blks, Value.ownBlock]) (by rw [hl]; exact hlen)).mono ?_
  rintro e w' ⟨rfl, nd', hs, hb, ha⟩
  have hu : MidS Z p ta tn tc b w nd (xs ++ ys) [⟨⟨k, n, m, s, [], []⟩, .slice none 0 0, .slice none 0 0⟩] i w' nd' := by
    refine ⟨hs, hb, ha, fun k hk => ?_⟩
    simp [blksC, NodeC.blks, Value.ownBlock] at hk
  have := (ks_go hm ho hf hx hu).1
  rw [List.map_append, hd] at this
  exact ⟨by rw [hl], nd', this⟩

/-- A reader called under way where all is well. -/
theorem KS.readY {f : Nat} {args : Array Value} (hR : ReadS Z p ta tn tc f args i true q t) (h : KS Z p ta tn tc w0 nd0 xs bx ns i false w nd v zs) (hroom : ns.length + 4 * (5000 - i) ≤ 100000) :
    Calls Tryz.prog f args w fun e w' => ∃ ez : Nat, ∃ nd' ds, e = .returned (.int .i64 (ez : Nat)) ∧ KS Z p ta tn tc w0 nd0 xs bx (ns ++ ds) q false w' nd' v zs ∧ BoxSame bx w w' ∧ i ≤ q ∧ ds.length + 1 ≤ 4 * (q - i) ∧ TreeAt (ns ++ ds) ez t := by
  refine (h.read hR hroom).mono ?_
  rintro e w' ⟨z, nd', ds, rfl, hk, hs, hi, hl, ht⟩
  obtain ⟨hl1, ez, rfl, htt⟩ := ht rfl
  exact ⟨ez, nd', ds, rfl, hk, hs, hi, hl1, htt⟩

/-- What parts has given. -/
def GaveP (Z : World) (p : Nat) (ta : Option Addr) (tn tc : Nat) (w0 : World) (nd0 : Value) (xs : List NodeC) (i : Nat) (r : Res) (e : Ending) (w' : World) : Prop :=
  ∃ nd' ns' a c zs, e = .returned (.slice a zs.length c) ∧ KS Z p ta tn tc w0 nd0 xs [] ns' r.2.1 (!r.1) w' nd' (.slice a zs.length c) zs ∧ i ≤ r.2.1 ∧ ns'.length + 1 ≤ xs.length + 4 * (r.2.1 - i) ∧ zs.length ≤ r.2.1 - i + 1 ∧ 1 ≤ zs.length ∧ (r.1 = true → ∃ es, zs = castL es ∧ TreesAt ns' es r.2.2)

def PartsP (Z : World) (p : Nat) (ta : Option Addr) (tn tc : Nat) (i : Nat) (r : Res) : Prop :=
  ∀ w nd xs, SPS Z p ta tn tc false w i nd xs → xs.length + 4 * (5000 - i) ≤ 100000 → Calls Tryz.prog 148 #[.pointer (some ⟨p, 0, none⟩)] w (GaveP Z p ta tn tc w nd xs i r)

/-- Whether an expr is all well for the specification. -/
def gX (X : Seen) (r : Res) : Bool := r.1 && endC (X.cl r.2.1)

/-- What of the parts is still to be read. -/
def leftP (X : Seen) (F f j : Nat) (ls : List (List NodeD)) : Option Res := bindR (serS X 59 (lv2 X F) f j) fun q l => if X.cl q = 93 then okR (q + 1) (ls ++ l) else badR q

theorem left_empty {X : Seen} {F f j : Nat} {ls : List (List NodeD)} (h : X.cl j = 59) : leftP X F (f + 1) j ls = leftP X F f (j + 1) (ls ++ [leafN 8 0 0]) := by
  unfold leftP
  rw [serS]
  unfold lv2
  rw [if_pos (.inl h)]
  show bindR (bindR (okR j [leafN 8 0 0]) _) _ = _
  show bindR (if X.cl j = 59 then _ else _) _ = _
  rw [if_pos h]
  cases hv : serS X 59 (lv2 X F) f (j + 1) with
  | none => unfold lv2 at hv; rw [hv]; rfl
  | some y =>
    unfold lv2 at hv
    rw [hv]
    obtain ⟨b, q, l⟩ := y
    cases b with
    | false => rfl
    | true => show (if X.cl q = 93 then okR (q + 1) (ls ++ ([leafN 8 0 0] ++ l)) else badR q) = (if X.cl q = 93 then okR (q + 1) (ls ++ [leafN 8 0 0] ++ l) else badR q); rw [List.append_assoc]
theorem left_last {X : Seen} {F f j : Nat} {ls : List (List NodeD)} (h : X.cl j = 93) : leftP X F (f + 1) j ls = okR (j + 1) (ls ++ [leafN 8 0 0]) := by
  unfold leftP
  rw [serS]
  unfold lv2
  rw [if_pos (.inr h)]
  show bindR (if X.cl j = 59 then _ else okR j [leafN 8 0 0]) _ = _
  rw [if_neg (by omega)]
  show (if X.cl j = 93 then okR (j + 1) (ls ++ [leafN 8 0 0]) else badR j) = _
  rw [if_pos h]
theorem left_bad {X : Seen} {F f j q : Nat} {l : List (List NodeD)} {ls : List (List NodeD)} (h1 : X.cl j ≠ 59) (h2 : X.cl j ≠ 93) (hx : prs X F 0 j [] = some (false, q, l)) : leftP X F (f + 1) j ls = badR q := by
  unfold leftP
  rw [serS]
  unfold lv2
  rw [if_neg (by omega), hx]
  rfl
theorem left_more {X : Seen} {F f j q : Nat} {t : List NodeD} {ls : List (List NodeD)} (h1 : X.cl j ≠ 59) (h2 : X.cl j ≠ 93) (hx : prs X F 0 j [] = some (true, q, [t])) (h : X.cl q = 59) : leftP X F (f + 1) j ls = leftP X F f (q + 1) (ls ++ [t]) := by
  unfold leftP
  rw [serS]
  have e : lv2 X F j = some (true, q, [t]) := by unfold lv2; rw [if_neg (by omega), hx]
  rw [e]
  show bindR (if X.cl q = 59 then _ else _) _ = _
  rw [if_pos h]
  cases serS X 59 (lv2 X F) f (q + 1) with
  | none => rfl
  | some y =>
    obtain ⟨b, q2, l⟩ := y
    cases b with
    | false => rfl
    | true => show (if X.cl q2 = 93 then okR (q2 + 1) (ls ++ ([t] ++ l)) else badR q2) = (if X.cl q2 = 93 then okR (q2 + 1) (ls ++ [t] ++ l) else badR q2); rw [List.append_assoc]
theorem left_end {X : Seen} {F f j q : Nat} {t : List NodeD} {ls : List (List NodeD)} (h1 : X.cl j ≠ 59) (h2 : X.cl j ≠ 93) (hx : prs X F 0 j [] = some (true, q, [t])) (h : X.cl q ≠ 59) : leftP X F (f + 1) j ls = if X.cl q = 93 then okR (q + 1) (ls ++ [t]) else badR q := by
  unfold leftP
  rw [serS]
  have e : lv2 X F j = some (true, q, [t]) := by unfold lv2; rw [if_neg (by omega), hx]
  rw [e]
  show bindR (if X.cl q = 59 then _ else okR q [t]) _ = _
  rw [if_neg h]
  rfl

theorem castL_snoc (es : List Nat) (a : Nat) : castL es ++ [(a : Int)] = castL (es ++ [a]) := by simp [castL]


set_option maxRecDepth 20000 in
set_option maxHeartbeats 8000000 in
/-- Parts. -/
theorem partsS_any (E : SEnv Z ta tn ts) (htl : ts.length ≤ 4096) {F f0' : Nat} (hX : ∀ j r, i < j → j ≤ ts.length → prs (seenT ts) F 0 j [] = some r → ReadS Z p ta tn tc 94 #[.pointer (some ⟨p, 0, none⟩)] j (gX (seenT ts) r) r.2.1 (r.2.2.headD []))
    (h91 : (seenT ts).cl i = 91) {r : Res} (hr : leftP (seenT ts) F f0' (i + 1) [] = some r) : PartsP Z p ta tn tc i r := by
  intro w nd xs h hroom
  have hil : i < ts.length := seen_ends ts i (by rw [h91]; decide)
  obtain ⟨i0, hi, hz0, hz1, hz2⟩ := info_parts info_int
  have HK := hide (KS.start h)
  have hxl : (xs.map NodeC.d).length = xs.length := List.length_map ..
  obtain ⟨NS, hNS⟩ : ∃ NS, xs.map NodeC.d = NS := ⟨_, rfl⟩
  rw [hNS] at HK hxl
  have HXL := hide hxl
  have HRD := hide hX
  have HT0 := hide hr
  have HW1 := hide (fun (V : World) (n u : Value) (us : List Int) (hk : KS Z p ta tn tc w nd xs [] NS i false V n u us) => hk.via fun _ hX => wantYes E hX (by omega) (c := 91) (by decide) (s := ⟨#[91]⟩) (by kernel_rfl) h91)
  have HSG := hide (fun (V : World) (n u : Value) (ns : List NodeD) (us : List Int) (j : Nat) (hj : j ≤ ts.length) (x : ByteArray) (hx : sgT ts j = x) (hk : KS Z p ta tn tc w nd xs [] ns j false V n u us) => hk.via (e0 := .returned (.string x)) fun _ hX => (spSign E hX (z := 0) (j := j) (by omega) (by omega)).mono fun _ _ h => ⟨by rw [h.1, hx], (MidP.start hX).below h.2⟩)
  have HHY := hide (fun (V : World) (n u : Value) (ns : List NodeD) (us : List Int) (j : Nat) (hj : j ≤ ts.length) (hc : (seenT ts).cl j = 59) (hk : KS Z p ta tn tc w nd xs [] ns j false V n u us) => hk.via fun _ hX => hasYes E hX (by omega) (c := 59) (by decide) (s := ⟨#[59]⟩) (by kernel_rfl) hc)
  have HHN := hide (fun (V : World) (n u : Value) (ns : List NodeD) (us : List Int) (j : Nat) (hj : j ≤ ts.length) (hc : (seenT ts).cl j ≠ 59) (hk : KS Z p ta tn tc w nd xs [] ns j false V n u us) => hk.via fun _ hX => hasNo E hX (by omega) (c := 59) (by decide) (s := ⟨#[59]⟩) (by kernel_rfl) hc)
  have HHB := hide (fun (V : World) (n u : Value) (ns : List NodeD) (us : List Int) (j : Nat) (hk : KS Z p ta tn tc w nd xs [] ns j true V n u us) => hk.via fun _ hX => hasBad hX ⟨#[59]⟩)
  have HWY := hide (fun (V : World) (n u : Value) (ns : List NodeD) (us : List Int) (j : Nat) (hj : j ≤ ts.length) (hc : (seenT ts).cl j = 93) (hk : KS Z p ta tn tc w nd xs [] ns j false V n u us) => hk.via fun _ hX => wantYes E hX (by omega) (c := 93) (by decide) (s := ⟨#[93]⟩) (by kernel_rfl) hc)
  have HWN := hide (fun (V : World) (n u : Value) (ns : List NodeD) (us : List Int) (j : Nat) (hj : j ≤ ts.length) (hc : (seenT ts).cl j ≠ 93) (hk : KS Z p ta tn tc w nd xs [] ns j false V n u us) => hk.via fun _ hX => wantNo E hX (by omega) (c := 93) (by decide) (s := ⟨#[93]⟩) (by kernel_rfl) hc)
  have HWB := hide (fun (V : World) (n u : Value) (ns : List NodeD) (us : List Int) (j : Nat) (hk : KS Z p ta tn tc w nd xs [] ns j true V n u us) => hk.via fun _ hX => wantBad hX ⟨#[93]⟩)
  have HSX := hide (fun (j c : Nat) (hc : c ∈ signCs) (s : ByteArray) (hs : s = bstr (encZ ((c : Nat) : Int))) => sg_is E.ok j hc hs)
  obtain ⟨p0, p1, p2, p3, f0, f1, f2, f3, hpl⟩ := h.all
  have HK0 := hide ((unhide HK).list [] (by show 0 ≤ 100; omega))
  clear h hxl hr hX h91 E HK
  go_enter Tryz.func148, Tryz.ntmps148
  go_wp2_with (go_at_call 144; refine (unhide HW1 _ _ _ _ (unhide HK0)).mono ?_; rintro e w4 ⟨rfl, hk, _⟩; have HK4 := hide hk; clear hk)
  go_loopw [3] (fun u wr => ∃ (j f : Nat) (ns : List NodeD) (es : List Nat) (ls : List (List NodeD)) (n : Value), j ≤ ts.length ∧ i + 1 ≤ j ∧ ns.length + 4 ≤ xs.length + 4 * (j - i) ∧ es.length ≤ j - i - 1 ∧ Hid (leftP (seenT ts) F f j ls = some r) ∧ Hid (KS Z p ta tn tc w nd xs [] ns j false wr n u (castL es)) ∧ Hid (TreesAt ns es ls)) (fun _ wr => ts.length + 1 - plc p wr)
  case atStart => exact ⟨i + 1, f0', NS, [], [], nd, by omega, by omega, by have := unhide HXL; omega, by show 0 ≤ _; omega, HT0, HK4, TreesAt.nil⟩
  case round =>
    obtain ⟨j, f, ns, es, ls, n, hj, hij, hnl, hel, HT, HKR, HTR⟩ := hrel
    clear HK4 HK0 HT0 HW1
    obtain ⟨cs, hcs⟩ : ∃ cs, castL es = cs := ⟨_, rfl⟩
    rw [hcs] at HKR
    have hpz : cs.length ≤ j - i - 1 := by rw [← hcs, castL, List.length_map]; exact hel
    have hpy : cs.length ≤ 4096 := by omega
    have HCS := hide hcs
    clear hcs
    obtain ⟨u0, uc, rfl⟩ := (unhide HKR).slice
    have HPL := hide (unhide HKR).plc
    have hzl := (unhide HKR).low.size
    clear p0 p1 p2 p3 f1 f2 f3 hpl
    obtain ⟨p0, p1, p2, p3, g0, f1, f2, f3, hpl⟩ := (unhide HKR).all
    have HPUT := hide (fun (V : World) (n : Value) (u : Value) (us : List Int) (hk : KS Z p ta tn tc w nd xs [] ns j false V n u us) => hk.leaf 8 0 0 ⟨#[]⟩ (by omega))
    cases f with
    | zero => exact absurd (unhide HT) (by simp [leftP, serS, bindR])
    | succ f =>
      obtain ⟨x, hx⟩ : ∃ x, sgT ts j = x := ⟨_, rfl⟩
      have HS1 := hide (unhide HSG _ _ _ _ _ j hj x hx (unhide HKR))
      have HS2 := hide (fun (V : World) (n u : Value) (us : List Int) (hk : KS Z p ta tn tc w nd xs [] ns j false V n u us) => unhide HSG V n u ns us j hj x hx hk)
      have h59 := unhide HSX j 59 (by decide) ⟨#[59]⟩ (by kernel_rfl)
      have h93 := unhide HSX j 93 (by decide) ⟨#[93]⟩ (by kernel_rfl)
      rw [hx, show ((⟨#[59]⟩ : ByteArray).toList) = [59] by kernel_rfl] at h59
      rw [hx, show ((⟨#[93]⟩ : ByteArray).toList) = [93] by kernel_rfl] at h93
      clear hx HSX HSG
      have hT := unhide HT
      by_cases c59 : (seenT ts).cl j = 59
      · rw [decide_eq_true c59] at h59
        rw [left_empty c59] at hT
        have hjl : j < ts.length := seen_ends ts j (by rw [c59]; decide)
        have HT2 := hide hT
        have HTT : Hid (TreesAt (ns ++ [⟨8, 0, 0, ⟨#[]⟩, [], []⟩]) (es ++ [ns.length]) (ls ++ [leafN 8 0 0])) := (unhide HTR).mono.app (TreesAt.one (TreesAt.nil.put 8 0 0 ⟨#[]⟩ [] (cnt0 (by decide) (by decide) (by decide) _)))
        clear hT h93 HT HRD
        go_wp2_with (first | (go_at_call 91; refine (unhide HS1).mono ?_; rintro e w5 ⟨rfl, hk, _⟩; have HK5 := hide hk; clear hk) | (go_at_call 45; refine (unhide HPUT _ _ _ _ (unhide HK5)).mono ?_; rintro e w6 ⟨rfl, nd6, hk⟩; have HK6 := hide (hk.below ((Below.refl _ _).alloc (Nat.le_refl _) (.cells #[.int .i64 (ns.length : Nat)] 3))); have hzl6 := hk.low.size; clear hk) | (at_builtin; refine wpList_append_lies _ rfl _ _ 45 rfl Z.heap.size 3 i0 (.int .i64 0) 1 8 Tryz.underlying45 hi hz0 hz1 hz2 rfl (by decide) _ _ _ rfl (unhide HK6).ownR ⟨w6.heap.size, 0, none⟩ 1 1 [.int .i64 (ns.length : Nat)] rfl rfl (cells_i _ _) (one_i _) (by omega) (by unfold maxLen; omega) (by omega) (by simp; omega) (w6.heap.size + 1) (by simp) ?_; intro g' cap' w7 hown' hgrow hat hlt7; obtain ⟨hk7, _⟩ := KS.grew (unhide HK6) hown' hgrow hat (by simp); have HK7 := hide hk7; clear hk7 hown' hgrow hat hlt7) | (go_at_call 44; refine (unhide HHY _ _ _ _ _ j hj c59 (unhide HK7)).mono ?_; rintro e w9 ⟨rfl, hk, _⟩; have HK9 := hide hk; have HP9 := hide hk.plc; clear hk))
        go_roundw
        case rel => exact ⟨j + 1, f, _, es ++ [ns.length], ls ++ [leafN 8 0 0], nd6, by omega, by omega, by rw [List.length_append]; show _ + 1 + 4 ≤ _; omega, by rw [List.length_append]; show _ + 1 ≤ _; omega, HT2, by show KS _ _ _ _ _ _ _ _ _ _ _ _ _ _ _ _; rw [← castL_snoc, unhide HCS]; exact unhide HK9, HTT⟩
        case measure => rw [unhide HPL, unhide HP9]; omega
      · rw [decide_eq_false c59] at h59
        by_cases c93 : (seenT ts).cl j = 93
        · rw [decide_eq_true c93] at h93
          rw [left_last c93] at hT
          have hr : (true, j + 1, ls ++ [leafN 8 0 0]) = r := by cases hT; rfl
          have HTT : Hid (TreesAt (ns ++ [⟨8, 0, 0, ⟨#[]⟩, [], []⟩]) (es ++ [ns.length]) (ls ++ [leafN 8 0 0])) := (unhide HTR).mono.app (TreesAt.one (TreesAt.nil.put 8 0 0 ⟨#[]⟩ [] (cnt0 (by decide) (by decide) (by decide) _)))
          subst hr
          clear hT HT HRD
          go_wp2_with (first | (go_at_call 91; refine (unhide HS1).mono ?_; clear HS1; rintro e w5 ⟨rfl, hk, _⟩; have HK5 := hide hk; clear hk) | (go_at_call 91; refine (unhide HS2 _ _ _ _ (unhide HK5)).mono ?_; clear HS2; rintro e w5 ⟨rfl, hk, _⟩; clear HK5; have HK5 := hide hk; clear hk) | (go_at_call 45; refine (unhide HPUT _ _ _ _ (unhide HK5)).mono ?_; rintro e w6 ⟨rfl, nd6, hk⟩; have HK6 := hide (hk.below ((Below.refl _ _).alloc (Nat.le_refl _) (.cells #[.int .i64 (ns.length : Nat)] 3))); have hzl6 := hk.low.size; clear hk) | (at_builtin; refine wpList_append_lies _ rfl _ _ 45 rfl Z.heap.size 3 i0 (.int .i64 0) 1 8 Tryz.underlying45 hi hz0 hz1 hz2 rfl (by decide) _ _ _ rfl (unhide HK6).ownR ⟨w6.heap.size, 0, none⟩ 1 1 [.int .i64 (ns.length : Nat)] rfl rfl (cells_i _ _) (one_i _) (by omega) (by unfold maxLen; omega) (by omega) (by simp; omega) (w6.heap.size + 1) (by simp) ?_; intro g' cap' w7 hown' hgrow hat hlt7; obtain ⟨hk7, _⟩ := KS.grew (unhide HK6) hown' hgrow hat (by simp); have HK7 := hide hk7; clear hk7 hown' hgrow hat hlt7) | (go_at_call 44; refine (unhide HHN _ _ _ _ _ j hj c59 (unhide HK7)).mono ?_; rintro e w9 ⟨rfl, hk, _⟩; have HK9 := hide hk; clear hk) | (go_at_call 144; refine (unhide HWY _ _ _ _ _ j hj c93 (unhide HK9)).mono ?_; rintro e w10 ⟨rfl, hk, _⟩; have HK10 := hide hk; clear hk))
          go_ret
          have hl1 : (cs ++ [((ns.length : Nat) : Int)]).length = cs.length + 1 := by rw [List.length_append]; rfl
          refine ⟨_, _, _, _, cs ++ [((ns.length : Nat) : Int)], by rw [hl1]; rfl, by rw [hl1]; exact unhide HK10, by show i ≤ j + 1; omega, by rw [List.length_append]; show _ + 1 + 1 ≤ _ + 4 * (j + 1 - i); omega, by rw [hl1]; show _ ≤ j + 1 - i + 1; omega, by rw [hl1]; omega, fun _ => ⟨es ++ [ns.length], (by rw [← unhide HCS]; exact castL_snoc _ _), unhide HTT⟩⟩
        · rw [decide_eq_false c93] at h93
          cases hv : prs (seenT ts) F 0 j [] with
          | none =>
            exact absurd hT (by unfold leftP; rw [serS]; unfold lv2; rw [if_neg (by omega), hv]; intro h; cases h)
          | some y =>
            obtain ⟨yb, q, l⟩ := y
            have hrd := unhide HRD j _ (by omega) hj hv
            have hadv := prs_adv (seen_ends ts) F 0 j [] hj _ _ _ hv
            have hql : q ≤ ts.length := hadv.2.1
            cases yb with
            | false =>
              rw [left_bad c59 c93 hv] at hT
              have hr : (false, q, []) = r := by cases hT; rfl
              subst hr
              have HR := hide (fun (V : World) (n u : Value) (us : List Int) (hk : KS Z p ta tn tc w nd xs [] ns j false V n u us) => hk.read (g := false) hrd (by omega))
              clear hT HT HRD hv hrd hadv HPUT
              go_wp2_with (first | (go_at_call 91; refine (unhide HS1).mono ?_; clear HS1; rintro e w5 ⟨rfl, hk, _⟩; have HK5 := hide hk; clear hk) | (go_at_call 91; refine (unhide HS2 _ _ _ _ (unhide HK5)).mono ?_; clear HS2; rintro e w5 ⟨rfl, hk, _⟩; clear HK5; have HK5 := hide hk; clear hk) | (go_at_call 94; refine (unhide HR _ _ _ _ (unhide HK5)).mono ?_; rintro e w6 ⟨z, nd6, ds, rfl, hk, _, hiz, hlz, _⟩; have HIz := hide hiz; have HLz := hide hlz; have HK6 := hide (hk.below ((Below.refl _ _).alloc (Nat.le_refl _) (.cells #[.int .i64 z] 3))); have hzl6 := hk.low.size; clear hk hlz hiz) | (at_builtin; refine wpList_append_lies _ rfl _ _ 45 rfl Z.heap.size 3 i0 (.int .i64 0) 1 8 Tryz.underlying45 hi hz0 hz1 hz2 rfl (by decide) _ _ _ rfl (unhide HK6).ownR ⟨w6.heap.size, 0, none⟩ 1 1 [.int .i64 z] rfl rfl (cells_i _ _) (one_i _) (by omega) (by unfold maxLen; omega) (by omega) (by simp; omega) (w6.heap.size + 1) (by simp) ?_; intro g' cap' w7 hown' hgrow hat hlt7; obtain ⟨hk7, _⟩ := KS.grew (unhide HK6) hown' hgrow hat (by simp); have HK7 := hide hk7; clear hk7 hown' hgrow hat hlt7) | (go_at_call 44; refine (unhide HHB _ _ _ _ _ q (unhide HK7)).mono ?_; rintro e w9 ⟨rfl, hk, _⟩; have HK9 := hide hk; clear hk) | (go_at_call 144; refine (unhide HWB _ _ _ _ _ q (unhide HK9)).mono ?_; rintro e w10 ⟨rfl, hk, _⟩; have HK10 := hide hk; clear hk))
              go_ret
              have hl1 : (cs ++ [z]).length = cs.length + 1 := by rw [List.length_append]; rfl
              have hLz := unhide HLz
              have hIz : j ≤ q := unhide HIz
              refine ⟨_, _, _, _, cs ++ [z], by rw [hl1]; rfl, by rw [hl1]; exact unhide HK10, by show i ≤ q; omega, by rw [List.length_append]; have hLz' : ds.length ≤ 4 * (q - j) := hLz; show _ + _ + 1 ≤ _ + 4 * (q - i); omega, by rw [hl1]; show _ ≤ q - i + 1; omega, by rw [hl1]; omega, fun h => by cases h⟩
            | true =>
              obtain ⟨t, rfl, _, hq2, hq3, _⟩ := prs_one (by rfl) (by decide) (by decide) hj hv
              by_cases ce : endC ((seenT ts).cl q) = true
              case neg =>
                have ce' : endC ((seenT ts).cl q) = false := by simpa using ce
                have n59 : (seenT ts).cl q ≠ 59 := fun e => by rw [e] at ce'; exact absurd ce' (by decide)
                have n93 : (seenT ts).cl q ≠ 93 := fun e => by rw [e] at ce'; exact absurd ce' (by decide)
                rw [left_end c59 c93 hv n59, if_neg n93] at hT
                have hr : (false, q, []) = r := by cases hT; rfl
                subst hr
                have e1 : gX (seenT ts) (true, q, [t]) = false := by show (true && endC ((seenT ts).cl q)) = false; rw [ce']; rfl
                rw [e1] at hrd
                have HR := hide (fun (V : World) (n u : Value) (us : List Int) (hk : KS Z p ta tn tc w nd xs [] ns j false V n u us) => hk.read (g := false) hrd (by omega))
                clear hT HT HRD hv hrd hadv HPUT e1
                go_wp2_with (first | (go_at_call 91; refine (unhide HS1).mono ?_; clear HS1; rintro e w5 ⟨rfl, hk, _⟩; have HK5 := hide hk; clear hk) | (go_at_call 91; refine (unhide HS2 _ _ _ _ (unhide HK5)).mono ?_; clear HS2; rintro e w5 ⟨rfl, hk, _⟩; clear HK5; have HK5 := hide hk; clear hk) | (go_at_call 94; refine (unhide HR _ _ _ _ (unhide HK5)).mono ?_; rintro e w6 ⟨z, nd6, ds, rfl, hk, _, hiz, hlz, _⟩; have HIz := hide hiz; have HLz := hide hlz; have HK6 := hide (hk.below ((Below.refl _ _).alloc (Nat.le_refl _) (.cells #[.int .i64 z] 3))); have hzl6 := hk.low.size; clear hk hlz hiz) | (at_builtin; refine wpList_append_lies _ rfl _ _ 45 rfl Z.heap.size 3 i0 (.int .i64 0) 1 8 Tryz.underlying45 hi hz0 hz1 hz2 rfl (by decide) _ _ _ rfl (unhide HK6).ownR ⟨w6.heap.size, 0, none⟩ 1 1 [.int .i64 z] rfl rfl (cells_i _ _) (one_i _) (by omega) (by unfold maxLen; omega) (by omega) (by simp; omega) (w6.heap.size + 1) (by simp) ?_; intro g' cap' w7 hown' hgrow hat hlt7; obtain ⟨hk7, _⟩ := KS.grew (unhide HK6) hown' hgrow hat (by simp); have HK7 := hide hk7; clear hk7 hown' hgrow hat hlt7) | (go_at_call 44; refine (unhide HHB _ _ _ _ _ q (unhide HK7)).mono ?_; rintro e w9 ⟨rfl, hk, _⟩; have HK9 := hide hk; clear hk) | (go_at_call 144; refine (unhide HWB _ _ _ _ _ q (unhide HK9)).mono ?_; rintro e w10 ⟨rfl, hk, _⟩; have HK10 := hide hk; clear hk))
                go_ret
                have hl1 : (cs ++ [z]).length = cs.length + 1 := by rw [List.length_append]; rfl
                have hLz := unhide HLz
                have hIz : j ≤ q := unhide HIz
                refine ⟨_, _, _, _, cs ++ [z], by rw [hl1]; rfl, by rw [hl1]; exact unhide HK10, by show i ≤ q; omega, by rw [List.length_append]; have hLz' : ds.length ≤ 4 * (q - j) := hLz; show _ + _ + 1 ≤ _ + 4 * (q - i); omega, by rw [hl1]; show _ ≤ q - i + 1; omega, by rw [hl1]; omega, fun h => by cases h⟩
              case pos =>
                have e1 : gX (seenT ts) (true, q, [t]) = true := by show (true && endC ((seenT ts).cl q)) = true; rw [ce]; rfl
                rw [e1] at hrd
                have HR := hide (fun (V : World) (n u : Value) (us : List Int) (hk : KS Z p ta tn tc w nd xs [] ns j false V n u us) => hk.readY hrd (by omega))
                clear e1 hrd hadv HPUT HRD
                by_cases d59 : (seenT ts).cl q = 59
                · rw [left_more c59 c93 hv d59] at hT
                  have hql' : q < ts.length := seen_ends ts q (by rw [d59]; decide)
                  have HT2 := hide hT
                  clear hT HT hv
                  go_wp2_with (first | (go_at_call 91; refine (unhide HS1).mono ?_; clear HS1; rintro e w5 ⟨rfl, hk, _⟩; have HK5 := hide hk; clear hk) | (go_at_call 91; refine (unhide HS2 _ _ _ _ (unhide HK5)).mono ?_; clear HS2; rintro e w5 ⟨rfl, hk, _⟩; clear HK5; have HK5 := hide hk; clear hk) | (go_at_call 94; refine (unhide HR _ _ _ _ (unhide HK5)).mono ?_; rintro e w6 ⟨ez, nd6, ds, rfl, hk, _, _, hlz, htz⟩; have HTz := hide htz; have HLz := hide hlz; have HK6 := hide (hk.below ((Below.refl _ _).alloc (Nat.le_refl _) (.cells #[.int .i64 (ez : Nat)] 3))); have hzl6 := hk.low.size; clear hk hlz htz) | (at_builtin; refine wpList_append_lies _ rfl _ _ 45 rfl Z.heap.size 3 i0 (.int .i64 0) 1 8 Tryz.underlying45 hi hz0 hz1 hz2 rfl (by decide) _ _ _ rfl (unhide HK6).ownR ⟨w6.heap.size, 0, none⟩ 1 1 [.int .i64 (ez : Nat)] rfl rfl (cells_i _ _) (one_i _) (by omega) (by unfold maxLen; omega) (by omega) (by simp; omega) (w6.heap.size + 1) (by simp) ?_; intro g' cap' w7 hown' hgrow hat hlt7; obtain ⟨hk7, _⟩ := KS.grew (unhide HK6) hown' hgrow hat (by simp); have HK7 := hide hk7; clear hk7 hown' hgrow hat hlt7) | (go_at_call 44; refine (unhide HHY _ _ _ _ _ q hql d59 (unhide HK7)).mono ?_; rintro e w9 ⟨rfl, hk, _⟩; have HK9 := hide hk; have HP9 := hide hk.plc; clear hk))
                  go_roundw
                  case rel => exact ⟨q + 1, f, _, es ++ [ez], ls ++ [t], nd6, by omega, by omega, by rw [List.length_append]; have := unhide HLz; omega, by rw [List.length_append]; show _ + 1 ≤ _; omega, HT2, by show KS _ _ _ _ _ _ _ _ _ _ _ _ _ _ _ _; rw [← castL_snoc, unhide HCS]; exact unhide HK9, (unhide HTR).mono.app (TreesAt.one (unhide HTz))⟩
                  case measure => rw [unhide HPL, unhide HP9]; omega
                · rw [left_end c59 c93 hv d59] at hT
                  by_cases d93 : (seenT ts).cl q = 93
                  · rw [if_pos d93] at hT
                    have hr : (true, q + 1, ls ++ [t]) = r := by cases hT; rfl
                    subst hr
                    clear hT HT hv
                    go_wp2_with (first | (go_at_call 91; refine (unhide HS1).mono ?_; clear HS1; rintro e w5 ⟨rfl, hk, _⟩; have HK5 := hide hk; clear hk) | (go_at_call 91; refine (unhide HS2 _ _ _ _ (unhide HK5)).mono ?_; clear HS2; rintro e w5 ⟨rfl, hk, _⟩; clear HK5; have HK5 := hide hk; clear hk) | (go_at_call 94; refine (unhide HR _ _ _ _ (unhide HK5)).mono ?_; rintro e w6 ⟨ez, nd6, ds, rfl, hk, _, _, hlz, htz⟩; have HTz := hide htz; have HLz := hide hlz; have HK6 := hide (hk.below ((Below.refl _ _).alloc (Nat.le_refl _) (.cells #[.int .i64 (ez : Nat)] 3))); have hzl6 := hk.low.size; clear hk hlz htz) | (at_builtin; refine wpList_append_lies _ rfl _ _ 45 rfl Z.heap.size 3 i0 (.int .i64 0) 1 8 Tryz.underlying45 hi hz0 hz1 hz2 rfl (by decide) _ _ _ rfl (unhide HK6).ownR ⟨w6.heap.size, 0, none⟩ 1 1 [.int .i64 (ez : Nat)] rfl rfl (cells_i _ _) (one_i _) (by omega) (by unfold maxLen; omega) (by omega) (by simp; omega) (w6.heap.size + 1) (by simp) ?_; intro g' cap' w7 hown' hgrow hat hlt7; obtain ⟨hk7, _⟩ := KS.grew (unhide HK6) hown' hgrow hat (by simp); have HK7 := hide hk7; clear hk7 hown' hgrow hat hlt7) | (go_at_call 44; refine (unhide HHN _ _ _ _ _ q hql d59 (unhide HK7)).mono ?_; rintro e w9 ⟨rfl, hk, _⟩; have HK9 := hide hk; clear hk) | (go_at_call 144; refine (unhide HWY _ _ _ _ _ q hql d93 (unhide HK9)).mono ?_; rintro e w10 ⟨rfl, hk, _⟩; have HK10 := hide hk; clear hk))
                    go_ret
                    have hl1 : (cs ++ [((ez : Nat) : Int)]).length = cs.length + 1 := by rw [List.length_append]; rfl
                    have hLz := unhide HLz
                    refine ⟨_, _, _, _, cs ++ [((ez : Nat) : Int)], by rw [hl1]; rfl, by rw [hl1]; exact unhide HK10, by show i ≤ q + 1; omega, by rw [List.length_append]; show _ + _ + 1 ≤ _ + 4 * (q + 1 - i); omega, by rw [hl1]; show _ ≤ q + 1 - i + 1; omega, by rw [hl1]; omega, fun _ => ⟨es ++ [ez], (by rw [← unhide HCS]; exact castL_snoc _ _), (unhide HTR).mono.app (TreesAt.one (unhide HTz))⟩⟩
                  · rw [if_neg d93] at hT
                    have hr : (false, q, []) = r := by cases hT; rfl
                    subst hr
                    clear hT HT hv
                    go_wp2_with (first | (go_at_call 91; refine (unhide HS1).mono ?_; clear HS1; rintro e w5 ⟨rfl, hk, _⟩; have HK5 := hide hk; clear hk) | (go_at_call 91; refine (unhide HS2 _ _ _ _ (unhide HK5)).mono ?_; clear HS2; rintro e w5 ⟨rfl, hk, _⟩; clear HK5; have HK5 := hide hk; clear hk) | (go_at_call 94; refine (unhide HR _ _ _ _ (unhide HK5)).mono ?_; rintro e w6 ⟨ez, nd6, ds, rfl, hk, _, _, hlz, htz⟩; have HTz := hide htz; have HLz := hide hlz; have HK6 := hide (hk.below ((Below.refl _ _).alloc (Nat.le_refl _) (.cells #[.int .i64 (ez : Nat)] 3))); have hzl6 := hk.low.size; clear hk hlz htz) | (at_builtin; refine wpList_append_lies _ rfl _ _ 45 rfl Z.heap.size 3 i0 (.int .i64 0) 1 8 Tryz.underlying45 hi hz0 hz1 hz2 rfl (by decide) _ _ _ rfl (unhide HK6).ownR ⟨w6.heap.size, 0, none⟩ 1 1 [.int .i64 (ez : Nat)] rfl rfl (cells_i _ _) (one_i _) (by omega) (by unfold maxLen; omega) (by omega) (by simp; omega) (w6.heap.size + 1) (by simp) ?_; intro g' cap' w7 hown' hgrow hat hlt7; obtain ⟨hk7, _⟩ := KS.grew (unhide HK6) hown' hgrow hat (by simp); have HK7 := hide hk7; clear hk7 hown' hgrow hat hlt7) | (go_at_call 44; refine (unhide HHN _ _ _ _ _ q hql d59 (unhide HK7)).mono ?_; rintro e w9 ⟨rfl, hk, _⟩; have HK9 := hide hk; clear hk) | (go_at_call 144; refine (unhide HWN _ _ _ _ _ q hql d93 (unhide HK9)).mono ?_; rintro e w10 ⟨rfl, hk, _⟩; have HK10 := hide hk; clear hk))
                    go_ret
                    have hl1 : (cs ++ [((ez : Nat) : Int)]).length = cs.length + 1 := by rw [List.length_append]; rfl
                    have hLz := unhide HLz
                    refine ⟨_, _, _, _, cs ++ [((ez : Nat) : Int)], by rw [hl1]; rfl, by rw [hl1]; exact unhide HK10, by show i ≤ q; omega, by rw [List.length_append]; show _ + _ + 1 ≤ _ + 4 * (q - i); omega, by rw [hl1]; show _ ≤ q - i + 1; omega, by rw [hl1]; omega, fun h => by cases h⟩

end
end Go.Proofs.YtmgjicgojlkpcaaGreatDoor
