import Derived.Test.YtmgjicgojlkpcaaGreatDoorSpecExS
import Derived.Deep.RegionLaw
import Derived.Deep.DeepCutAuto
namespace Go.Proofs.YtmgjicgojlkpcaaGreatDoor
open Go.RowKit

section
variable {Z w w0 w1 : World} {p i j q : Nat} {nd nd0 nd1 v : Value} {zs : List Int} {xs ys : List NodeC} {bx : List Nat} {ns : List NodeD} {ta : Option Addr} {tn tc : Nat} {ts : List Tok} {b b' g : Bool} {t : List NodeD}

/-- How a stmt's or an item's reading ends for the specification (g) and by the grammar (r): where only the specification is not content, nothing that may stand behind it stands there. -/
def GI (X : Seen) (r : Res) (g : Bool) : Prop := (g = true → r.1 = true) ∧ (g = false → r.1 = true → X.cl r.2.1 ≠ 8900 ∧ X.cl r.2.1 ≠ 125 ∧ X.cl r.2.1 ≠ 58 ∧ X.cl r.2.1 ≠ 0)

/-- What of the items is still to be read behind one that ended at j. -/
def finI (X : Seen) (q : Nat) (l : List (List NodeD)) : Option Res := if X.cl q = 125 then okR (q + 1) [treeN 16 0 0 nilS [] l] else badR q
def leftI (X : Seen) (F f j : Nat) (ls : List (List NodeD)) : Option Res := if X.cl j = 8900 then bindR (serS X 8900 (fun j => prs X F 6 j []) f (j + 1)) (fun q l => finI X q (ls ++ l)) else finI X j ls

theorem leftI_one {X : Seen} {F f j q : Nat} {t : List NodeD} {ls : List (List NodeD)} (hx : prs X F 6 j [] = some (true, q, [t])) : bindR (serS X 8900 (fun j => prs X F 6 j []) (f + 1) j) (fun q l => finI X q (ls ++ l)) = leftI X F f q (ls ++ [t]) := by
  rw [serS]
  rw [hx]
  unfold leftI
  show bindR (if X.cl q = 8900 then _ else okR q [t]) _ = _
  by_cases h : X.cl q = 8900
  · rw [if_pos h, if_pos h]
    cases serS X 8900 (fun j => prs X F 6 j []) f (q + 1) with
    | none => rfl
    | some y =>
      obtain ⟨b, q2, l⟩ := y
      cases b with
      | false => rfl
      | true => show finI X q2 (ls ++ ([t] ++ l)) = finI X q2 (ls ++ [t] ++ l); rw [List.append_assoc]
  · rw [if_neg h, if_neg h]
    rfl
theorem leftI_bad {X : Seen} {F f j q : Nat} {l : List (List NodeD)} {ls : List (List NodeD)} (hx : prs X F 6 j [] = some (false, q, l)) : bindR (serS X 8900 (fun j => prs X F 6 j []) (f + 1) j) (fun q l => finI X q (ls ++ l)) = badR q := by
  rw [serS]
  rw [hx]
  rfl

theorem box_set5 {k n m : Int} {s : ByteArray} {b : Nat} (h : w.heap[b]? = some (nodeO k n m s v)) (u : Value) : (w.setCell ⟨b, 5, none⟩ u).heap[b]? = some (nodeO k n m s u) := by
  unfold nodeO at h ⊢
  rw [heap_setCell_same w b 5 _ _ _ h]
  simp

/-- The state between items: all is well and more may come, or not. -/
def BrS (Z : World) (p : Nat) (ta : Option Addr) (tn tc : Nat) (ts : List Tok) (F : Nat) (r : Res) (w0 : World) (nd0 : Value) (xs : List NodeC) (i B : Nat) (wr : World) : Prop :=
  ∃ (j : Nat) (ns : List NodeD) (n u : Value) (zs : List Int) (bb : Bool), j ≤ ts.length ∧ i + 1 ≤ j ∧ ns.length + 4 ≤ xs.length + 4 * (j - i) ∧ zs.length ≤ j - i ∧ KS Z p ta tn tc w0 nd0 xs [B] ns j bb wr n u zs ∧ wr.heap[B]? = some (nodeO 16 0 0 ⟨#[]⟩ u) ∧ ((bb = false ∧ ∃ (es : List Nat) (ls : List (List NodeD)) (f : Nat), zs = castL es ∧ TreesAt ns es ls ∧ leftI (seenT ts) F f j ls = some r) ∨ (bb = true ∧ r = (false, j, [])))

/-- What comes of one more item, ahead of which all is well. -/
theorem br_next {G : Bool} {F f j q B : Nat} {t' : List (List NodeD)} {r : Res} {ls : List (List NodeD)} {es : List Nat} {ds : List NodeD} {n u : Value} {z : Int} {wr : World} (hv : prs (seenT ts) F 6 j [] = some (b, q, t')) (hG : GI (seenT ts) (b, q, t') G) (hj : j ≤ ts.length) (hij : i + 1 ≤ j) (hr : bindR (serS (seenT ts) 8900 (fun j => prs (seenT ts) F 6 j []) (f + 1) j) (fun q l => finI (seenT ts) q (ls ++ l)) = some r) (hn : ns.length + 4 ≤ xs.length + 4 * (j - i)) (hes : es.length ≤ j - 1 - i) (hT : TreesAt ns es ls)
    (hk : KS Z p ta tn tc w0 nd0 xs [B] (ns ++ ds) q (!G) wr n u (castL es ++ [z])) (hb : wr.heap[B]? = some (nodeO 16 0 0 ⟨#[]⟩ u)) (hjq : j ≤ q) (hl : ds.length ≤ 4 * (q - j)) (ht : G = true → ds.length + 1 ≤ 4 * (q - j) ∧ ∃ e' : Nat, z = e' ∧ TreeAt (ns ++ ds) e' (t'.headD [])) : BrS Z p ta tn tc ts F r w0 nd0 xs i B wr := by
  have hadv := prs_adv (seen_ends ts) F 6 j [] hj _ _ _ hv
  have hq : q ≤ ts.length := hadv.2.1
  have hlz : (castL es ++ [z]).length ≤ q - i := by rw [List.length_append, castL, List.length_map]; show _ + 1 ≤ _; omega
  refine ⟨q, ns ++ ds, n, u, castL es ++ [z], !G, hq, by omega, by rw [List.length_append]; omega, hlz, hk, hb, ?_⟩
  cases b with
  | false =>
    rw [leftI_bad hv] at hr
    cases hr
    cases G with
    | true => exact absurd (hG.1 rfl) Bool.false_ne_true
    | false => exact .inr ⟨rfl, rfl⟩
  | true =>
    obtain ⟨t1, rfl, _⟩ := prs_one (by rfl) (by decide) (by decide) hj hv
    rw [leftI_one hv] at hr
    cases G with
    | true =>
      obtain ⟨_, e', rfl, h2⟩ := ht rfl
      exact .inl ⟨rfl, es ++ [e'], ls ++ [t1], f, by rw [← castL_snoc], hT.mono.app (TreesAt.one h2), hr⟩
    | false =>
      obtain ⟨h1, h2, _⟩ := hG.2 rfl rfl
      refine .inr ⟨rfl, ?_⟩
      unfold leftI finI at hr
      rw [if_neg h1, if_neg h2] at hr
      cases hr
      rfl

set_option maxRecDepth 20000 in
set_option maxHeartbeats 8000000 in
/-- A function in braces, with items. -/
theorem bracesS_any (E : SEnv Z ta tn ts) (htl : ts.length ≤ 4096) {F : Nat} (hI : ∀ j r, i < j → j ≤ ts.length → prs (seenT ts) F 6 j [] = some r → ∃ g, GI (seenT ts) r g ∧ ReadS Z p ta tn tc 145 #[.pointer (some ⟨p, 0, none⟩)] j g r.2.1 (r.2.2.headD []))
    (h1 : (seenT ts).cl i = 123) (h2 : (seenT ts).cl (i + 1) ≠ 125) {f0' : Nat} {r : Res} (hr : bindR (serS (seenT ts) 8900 (fun j => prs (seenT ts) F 6 j []) (f0' + 1) (i + 1)) (fun q l => finI (seenT ts) q ([] ++ l)) = some r) : ReadS Z p ta tn tc 92 #[.pointer (some ⟨p, 0, none⟩)] i r.1 r.2.1 (r.2.2.headD []) := by
  intro w nd xs h hroom
  have hil : i < ts.length := seen_ends ts i (by rw [h1]; decide)
  obtain ⟨i0, hi, hz0, hz1, hz2⟩ := info_parts info_int
  have HK := hide ((KS.start h).box (nodeO 16 0 0 ⟨#[]⟩ nilL))
  have hxl : (xs.map NodeC.d).length = xs.length := List.length_map ..
  obtain ⟨NS, hNS⟩ : ∃ NS, xs.map NodeC.d = NS := ⟨_, rfl⟩
  rw [hNS] at HK hxl
  have HXL := hide hxl
  obtain ⟨B, hB⟩ : ∃ B, B = w.heap.size := ⟨_, rfl⟩
  have HBX : Hid ((w.alloc (nodeO 16 0 0 ⟨#[]⟩ nilL)).heap[B]? = some (nodeO 16 0 0 ⟨#[]⟩ nilL)) := by rw [hB]; show (w.heap.push _)[w.heap.size]? = _; unfold nodeO; simp
  have hBp : B ≠ p := by have := h.all.2.2.2.2.2.2.2.2; omega
  rw [← hB] at HK
  have HW1 := hide (fun (V : World) (n : Value) (hk : KS Z p ta tn tc w nd xs [B] NS i false V n nilL []) => hk.via fun _ hX => wantYes E hX (by omega) (c := 123) (by decide) (s := ⟨#[123]⟩) (by kernel_rfl) h1)
  obtain ⟨x, hx⟩ : ∃ x, sgT ts (i + 1) = x := ⟨_, rfl⟩
  have HSG := hide (fun (V : World) (n : Value) (hk : KS Z p ta tn tc w nd xs [B] NS (i + 1) false V n nilL []) => hk.via (e0 := .returned (.string x)) fun _ hX => (spSign E hX (z := 0) (j := i + 1) (by omega) (by omega)).mono fun _ _ h => ⟨by rw [h.1, hx], (MidP.start hX).below h.2⟩)
  have hq125 : (x.toList == [125]) = false := by rw [show ([125] : List UInt8) = (⟨#[125]⟩ : ByteArray).toList by kernel_rfl, ← hx, sg_is E.ok (i + 1) (c := 125) (by decide) (by kernel_rfl)]; exact decide_eq_false h2
  have HHY := hide (fun (V : World) (n u : Value) (ns : List NodeD) (us : List Int) (j : Nat) (hj : j ≤ ts.length) (hc : (seenT ts).cl j = 8900) (hk : KS Z p ta tn tc w nd xs [B] ns j false V n u us) => hk.via fun _ hX => hasYes E hX (by omega) (c := 8900) (by decide) (s := ⟨#[226, 139, 132]⟩) (by kernel_rfl) hc)
  have HHN := hide (fun (V : World) (n u : Value) (ns : List NodeD) (us : List Int) (j : Nat) (hj : j ≤ ts.length) (hc : (seenT ts).cl j ≠ 8900) (hk : KS Z p ta tn tc w nd xs [B] ns j false V n u us) => hk.via fun _ hX => hasNo E hX (by omega) (c := 8900) (by decide) (s := ⟨#[226, 139, 132]⟩) (by kernel_rfl) hc)
  have HHB := hide (fun (V : World) (n u : Value) (ns : List NodeD) (us : List Int) (j : Nat) (hk : KS Z p ta tn tc w nd xs [B] ns j true V n u us) => hk.via fun _ hX => hasBad hX ⟨#[226, 139, 132]⟩)
  have HWY := hide (fun (V : World) (n u : Value) (ns : List NodeD) (us : List Int) (j : Nat) (hj : j ≤ ts.length) (hc : (seenT ts).cl j = 125) (hk : KS Z p ta tn tc w nd xs [B] ns j false V n u us) => hk.via fun _ hX => wantYes E hX (by omega) (c := 125) (by decide) (s := ⟨#[125]⟩) (by kernel_rfl) hc)
  have HWN := hide (fun (V : World) (n u : Value) (ns : List NodeD) (us : List Int) (j : Nat) (hj : j ≤ ts.length) (hc : (seenT ts).cl j ≠ 125) (hk : KS Z p ta tn tc w nd xs [B] ns j false V n u us) => hk.via fun _ hX => wantNo E hX (by omega) (c := 125) (by decide) (s := ⟨#[125]⟩) (by kernel_rfl) hc)
  have HWB := hide (fun (V : World) (n u : Value) (ns : List NodeD) (us : List Int) (j : Nat) (hk : KS Z p ta tn tc w nd xs [B] ns j true V n u us) => hk.via fun _ hX => wantBad hX ⟨#[125]⟩)
  have HPUT := hide (fun (V : World) (n : Value) (a : Option Addr) (l c jj : Nat) (us : List Int) (ns : List NodeD) (bb : Bool) (hl : ns.length ≤ 1048576) (hk : KS Z p ta tn tc w nd xs [B] ns jj bb V n (.slice a l c) us) => (hk.put 16 0 0 ⟨#[]⟩ hl).mono fun _ _ h => (⟨_, rfl, h⟩ : ∃ m : Nat, m = _ ∧ _ = Ending.returned (.int .i64 (m : Nat)) ∧ _))
  have HID := hide hI
  obtain ⟨yb, q1, l1, hv⟩ : ∃ yb q1 l1, prs (seenT ts) F 6 (i + 1) [] = some (yb, q1, l1) := by
    cases hv : prs (seenT ts) F 6 (i + 1) [] with
    | none => rw [serS] at hr; rw [hv] at hr; cases hr
    | some y => exact ⟨y.1, y.2.1, y.2.2, rfl⟩
  obtain ⟨G1, hG1, hrd⟩ := hI (i + 1) _ (by omega) hil hv
  have HIT := hide (fun (V : World) (n : Value) (hk : KS Z p ta tn tc w nd xs [B] NS (i + 1) false V n nilL []) => hk.read hrd (by omega))
  have HNX : Hid (∀ (ds : List NodeD) (n u : Value) (z : Int) (wr : World), KS Z p ta tn tc w nd xs [B] (NS ++ ds) q1 (!G1) wr n u ([] ++ [z]) → wr.heap[B]? = some (nodeO 16 0 0 ⟨#[]⟩ u) → i + 1 ≤ q1 → ds.length ≤ 4 * (q1 - (i + 1)) → (G1 = true → ds.length + 1 ≤ 4 * (q1 - (i + 1)) ∧ ∃ e' : Nat, z = e' ∧ TreeAt (NS ++ ds) e' (l1.headD [])) → BrS Z p ta tn tc ts F r w nd xs i B wr) := fun ds n u z wr hk hb h3 h4 h5 => br_next (es := []) (ls := []) hv hG1 hil (Nat.le_refl _) hr (by omega) (by show 0 ≤ _; omega) TreesAt.nil hk hb h3 h4 h5
  obtain ⟨cs, hcs⟩ : ∃ cs : List Int, cs = [] := ⟨_, rfl⟩
  have hcl : cs.length ≤ 0 := by rw [hcs]; exact Nat.le_refl _
  have HCS := hide hcs
  have HBB := hide hB
  clear h hxl hr hI h1 E hB hx hNS hv hG1 hrd
  go_enter Tryz.func92, Tryz.ntmps92
  go_upto_region 4 with (first | (go_at_call 144; refine (unhide HW1 _ _ (unhide HK)).mono ?_; rintro e w4 ⟨rfl, hk, hs⟩; have HK4 := hide hk; have HB4 := hide ((hs _ (List.mem_singleton.2 rfl)).trans (unhide HBX)); clear hk hs) | (go_at_call 91; refine (unhide HSG _ _ (unhide HK4)).mono ?_; rintro e w5 ⟨rfl, hk, hs⟩; have HKD := hide (hk.below (Below.refl _ _).drew); have hb5 := (hs _ (List.mem_singleton.2 rfl)).trans (unhide HB4); obtain ⟨b0, b1, b2, b3, b4, b5, b6, hbl⟩ := box_cells hb5; have HBD := hide hb5; clear hk hs hb5))
  rw [← unhide HBB]
  go_cut [] (fun wx => Hid (BrS Z p ta tn tc ts F r w nd xs i B wx))
  case first =>
    go_region_law (first | (go_simp; go_at_call 145; refine (unhide HIT _ _ (unhide HKD)).mono ?_; clear HIT; rintro e w6 ⟨z, nd6, ds, rfl, hk, hs, hi6, hl6, ht6⟩; have hbx := (hs _ (List.mem_singleton.2 rfl)).trans (unhide HBD); clear b0 b1 b2 b3 b4 b5 b6 hbl; obtain ⟨b0, b1, b2, b3, b4, b5, b6, hbl⟩ := box_cells hbx; have HK6 := hide (hk.below ((Below.refl _ _).alloc (Nat.le_refl _) (.cells #[.int .i64 z] 3))); have HB6 := hide hbx; have HI6 := hide hi6; have HL6 := hide hl6; have HT6 := hide ht6; have hzl6 := hk.low.size; clear hk hs hbx hi6 hl6 ht6) | (refine step_append_lies _ (by rfl) _ _ _ (by rfl) Z.heap.size 3 i0 _ 1 8 Tryz.underlying45 hi hz0 hz1 hz2 rfl (by omega) (.slice none 0 0) 0 ([]) (by rfl) (unhide HK6).ownR ⟨w6.heap.size, 0, none⟩ 1 1 [.int .i64 z] (by rfl) (by rfl) (cells_i _ _) (one_i _) (by omega) (by unfold maxLen; omega) (by omega) (by simp; omega) (w6.heap.size + 1) (by simp) ?_; intro g' cap' w7 hown' hgrow hat hlt7; obtain ⟨hk7, hs7⟩ := KS.grew (unhide HK6) hown' hgrow hat (by simp); have hbx7 := (hs7 _ (List.mem_singleton.2 rfl)).trans ((Below.block ((Below.refl _ _).alloc (Nat.le_refl _) (.cells #[.int .i64 z] 3)) _ hbl).trans (unhide HB6)); clear b0 b1 b2 b3 b4 b5 b6 hbl; obtain ⟨b0, b1, b2, b3, b4, b5, b6, hbl⟩ := box_cells hbx7; have HB8 := hide (box_set5 hbx7 (.slice (some ⟨g', 0, none⟩) 1 cap')); have HK8 := hide (hk7.setBox (q := 5) (u := .slice (some ⟨g', 0, none⟩) 1 cap') (List.mem_singleton.2 rfl)); clear hk7 hs7 hbx7 hown' hgrow hat hlt7))
    all_goals go_wp2_with fail
    all_goals go_meet
    all_goals (case rel => exact unhide HNX _ _ _ _ _ (unhide HK8) (unhide HB8) (unhide HI6) (unhide HL6) (unhide HT6))
  case rest =>
    clear HNX HIT HK HW1 HSG HBX hq125 HCS hcl
    go_wp2_with fail
    go_loopw [18] (fun _ wr => Hid (BrS Z p ta tn tc ts F r w nd xs i B wr)) (fun _ wr => ts.length + 1 - plc p wr)
    case atStart => exact hcut
    case round =>
      obtain ⟨j, ns, n, u, cs, bb, hj, hij, hnl, hzl', hk, hb, hc⟩ := unhide hrel
      clear hcut hrel
      have HKR := hide hk
      have HBR := hide hb
      have HPL := hide hk.plc
      obtain ⟨u0, uc, rfl⟩ := hk.slice
      have hzl := hk.low.size
      clear hk hb
      rcases hc with ⟨rfl, es, ls, f, hes, hts, hl⟩ | ⟨rfl, rfl⟩
      case inr =>
        go_wp2_with (first | (go_at_call 44; refine (unhide HHB _ _ _ _ _ j (unhide HKR)).mono ?_; rintro e w6 ⟨rfl, hk, hs⟩; have HK6 := hide hk; have HB6 := hide ((hs _ (List.mem_singleton.2 rfl)).trans (unhide HBR)); clear hk hs) | (go_at_call 144; refine (unhide HWB _ _ _ _ _ j (unhide HK6)).mono ?_; rintro e w7 ⟨rfl, hk, hs⟩; have HK7 := hide hk; obtain ⟨b0, b1, b2, b3, b4, b5, b6, hbl⟩ := box_cells ((hs _ (List.mem_singleton.2 rfl)).trans (unhide HB6)); clear hk hs) | (go_at_call 45; refine (unhide HPUT _ _ _ _ _ _ _ _ _ (by omega) (unhide HK7)).mono ?_; rintro e w8 ⟨m, hm, rfl, nd8, hk⟩; have HK8 := hide hk; clear hk hm))
        go_ret
        exact bad_gave (by rw [List.length_append]; show _ + 1 ≤ _; omega) (unhide HK8) (by omega) _
      case inl =>
        have HCS := hide hes
        have HTS := hide hts
        clear hes hts
        by_cases c8 : (seenT ts).cl j = 8900
        · have hl' := hl
          unfold leftI at hl'
          rw [if_pos c8] at hl'
          have hjl : j < ts.length := seen_ends ts j (by rw [c8]; decide)
          cases f with
          | zero => cases hl'
          | succ f =>
            obtain ⟨yb, q1, l1, hv⟩ : ∃ yb q1 l1, prs (seenT ts) F 6 (j + 1) [] = some (yb, q1, l1) := by
              cases hv : prs (seenT ts) F 6 (j + 1) [] with
              | none => rw [serS, hv] at hl'; cases hl'
              | some y => exact ⟨y.1, y.2.1, y.2.2, rfl⟩
            have hq1 : q1 ≤ ts.length := (prs_adv (seen_ends ts) F 6 (j + 1) [] hjl _ _ _ hv).2.1
            obtain ⟨G1, hG1, hrd⟩ := unhide HID (j + 1) _ (by omega) hjl hv
            have HNX : Hid (∀ (ds : List NodeD) (n u : Value) (z : Int) (wr : World), KS Z p ta tn tc w nd xs [B] (ns ++ ds) q1 (!G1) wr n u (cs ++ [z]) → wr.heap[B]? = some (nodeO 16 0 0 ⟨#[]⟩ u) → j + 1 ≤ q1 → ds.length ≤ 4 * (q1 - (j + 1)) → (G1 = true → ds.length + 1 ≤ 4 * (q1 - (j + 1)) ∧ ∃ e' : Nat, z = e' ∧ TreeAt (ns ++ ds) e' (l1.headD [])) → BrS Z p ta tn tc ts F r w nd xs i B wr) := fun ds n u z wr hk hb h3 h4 h5 => by
              have hcs := unhide HCS
              subst hcs
              exact br_next hv hG1 hjl (by omega) hl' (by omega) (by have : (castL es).length = es.length := List.length_map ..; omega) (unhide HTS) hk hb h3 h4 h5
            have HIT := hide (fun (V : World) (n : Value) (hk : KS Z p ta tn tc w nd xs [B] ns (j + 1) false V n (.slice u0 cs.length uc) cs) => hk.read hrd (by omega))
            clear hl hl' hrd hG1 hv HID HCS HTS HHN HHB HWY HWN HWB HPUT
            have hcs4 : cs.length ≤ 4096 := by omega
            go_wp2_with (go_at_call 44; refine (unhide HHY _ _ _ _ _ j hj c8 (unhide HKR)).mono ?_; rintro e w5 ⟨rfl, hk, hs⟩; have HKD := hide (hk.below (Below.refl _ _).drew); have hb5 := (hs _ (List.mem_singleton.2 rfl)).trans (unhide HBR); obtain ⟨b0, b1, b2, b3, b4, b5, b6, hbl⟩ := box_cells hb5; have HBD := hide hb5; clear hk hs hb5)
            go_region_law (first | (go_simp; go_at_call 145; refine (unhide HIT _ _ (unhide HKD)).mono ?_; clear HIT; rintro e w6 ⟨z, nd6, ds, rfl, hk, hs, hi6, hl6, ht6⟩; have hbx := (hs _ (List.mem_singleton.2 rfl)).trans (unhide HBD); clear b0 b1 b2 b3 b4 b5 b6 hbl; obtain ⟨b0, b1, b2, b3, b4, b5, b6, hbl⟩ := box_cells hbx; have HK6 := hide (hk.below ((Below.refl _ _).alloc (Nat.le_refl _) (.cells #[.int .i64 z] 3))); have HB6 := hide hbx; have HI6 := hide hi6; have HL6 := hide hl6; have HT6 := hide ht6; have hzl6 := hk.low.size; clear hk hs hbx hi6 hl6 ht6) | (refine step_append_lies _ (by rfl) _ _ _ (by rfl) Z.heap.size 3 i0 _ 1 8 Tryz.underlying45 hi hz0 hz1 hz2 rfl (by omega) (.slice u0 cs.length uc) cs.length (cs.map (Value.int .i64)) (by rfl) (unhide HK6).ownR ⟨w6.heap.size, 0, none⟩ 1 1 [.int .i64 z] (by rfl) (by rfl) (cells_i _ _) (one_i _) (by omega) (by unfold maxLen; omega) (by omega) (by simp; omega) (w6.heap.size + 1) (by simp) ?_; intro g' cap' w7 hown' hgrow hat hlt7; obtain ⟨hk7, hs7⟩ := KS.grew (unhide HK6) hown' hgrow hat (by simp); have hbx7 := (hs7 _ (List.mem_singleton.2 rfl)).trans ((Below.block ((Below.refl _ _).alloc (Nat.le_refl _) (.cells #[.int .i64 z] 3)) _ hbl).trans (unhide HB6)); clear b0 b1 b2 b3 b4 b5 b6 hbl; obtain ⟨b0, b1, b2, b3, b4, b5, b6, hbl⟩ := box_cells hbx7; have HB8 := hide (box_set5 hbx7 (.slice (some ⟨g', 0, none⟩) (cs.length + 1) cap')); have HK8 := hide (hk7.setBox (q := 5) (u := .slice (some ⟨g', 0, none⟩) (cs.length + 1) cap') (List.mem_singleton.2 rfl)); clear hk7 hs7 hbx7 hown' hgrow hat hlt7))
            all_goals go_wp2_with fail
            all_goals (have HP8 := hide (unhide HK8).plc; go_roundw; (case rel => exact unhide HNX _ _ _ _ _ (unhide HK8) (unhide HB8) (unhide HI6) (unhide HL6) (unhide HT6)); (case measure => rw [unhide HPL, unhide HP8]; have := unhide HI6; omega))
        · have hl' := hl
          unfold leftI finI at hl'
          rw [if_neg c8] at hl'
          by_cases c5 : (seenT ts).cl j = 125
          · rw [if_pos c5] at hl'
            have hjl : j < ts.length := seen_ends ts j (by rw [c5]; decide)
            have hr : (true, j + 1, [treeN 16 0 0 nilS [] ls]) = r := by cases hl'; rfl
            subst hr
            clear hl hl' HID
            go_wp2_with (first | (go_at_call 44; refine (unhide HHN _ _ _ _ _ j hj c8 (unhide HKR)).mono ?_; rintro e w6 ⟨rfl, hk, hs⟩; have HK6 := hide hk; have HB6 := hide ((hs _ (List.mem_singleton.2 rfl)).trans (unhide HBR)); clear hk hs) | (go_at_call 144; refine (unhide HWY _ _ _ _ _ j hj c5 (unhide HK6)).mono ?_; rintro e w7 ⟨rfl, hk, hs⟩; have HK7 := hide hk; obtain ⟨b0, b1, b2, b3, b4, b5, b6, hbl⟩ := box_cells ((hs _ (List.mem_singleton.2 rfl)).trans (unhide HB6)); clear hk hs) | (go_at_call 45; refine (unhide HPUT _ _ _ _ _ _ _ _ _ (by omega) (unhide HK7)).mono ?_; rintro e w8 ⟨m, hm, rfl, nd8, hk⟩; have HM := hide hm; have HK8 := hide hk; clear hk hm))
            go_ret
            exact over_gave (i := i) (unhide HM) (g := true) (es := es) (ls := ls) 16 0 ⟨#[]⟩ (unhide HK8) (by omega) (by omega) (fun _ => ⟨by omega, unhide HCS, unhide HTS⟩) (cnt0 (by decide) (by decide) (by decide) _)
          · rw [if_neg c5] at hl'
            have hr : (false, j, []) = r := by cases hl'; rfl
            subst hr
            clear hl hl' HID
            go_wp2_with (first | (go_at_call 44; refine (unhide HHN _ _ _ _ _ j hj c8 (unhide HKR)).mono ?_; rintro e w6 ⟨rfl, hk, hs⟩; have HK6 := hide hk; have HB6 := hide ((hs _ (List.mem_singleton.2 rfl)).trans (unhide HBR)); clear hk hs) | (go_at_call 144; refine (unhide HWN _ _ _ _ _ j hj c5 (unhide HK6)).mono ?_; rintro e w7 ⟨rfl, hk, hs⟩; have HK7 := hide hk; obtain ⟨b0, b1, b2, b3, b4, b5, b6, hbl⟩ := box_cells ((hs _ (List.mem_singleton.2 rfl)).trans (unhide HB6)); clear hk hs) | (go_at_call 45; refine (unhide HPUT _ _ _ _ _ _ _ _ _ (by omega) (unhide HK7)).mono ?_; rintro e w8 ⟨m, hm, rfl, nd8, hk⟩; have HK8 := hide hk; clear hk hm))
            go_ret
            exact bad_gave (by rw [List.length_append]; show _ + 1 ≤ _; omega) (unhide HK8) (by omega) _

set_option maxRecDepth 20000 in
set_option maxHeartbeats 8000000 in
/-- A function in braces, empty. -/
theorem bracesS_none (E : SEnv Z ta tn ts) (htl : ts.length ≤ 4096) (h1 : (seenT ts).cl i = 123) (h2 : (seenT ts).cl (i + 1) = 125) : ReadS Z p ta tn tc 92 #[.pointer (some ⟨p, 0, none⟩)] i true (i + 2) (leafN 16 0 0) := by
  intro w nd xs h hroom
  have hil : i < ts.length := seen_ends ts i (by rw [h1]; decide)
  have HK := hide ((KS.start h).box (nodeO 16 0 0 ⟨#[]⟩ nilL))
  have hxl : (xs.map NodeC.d).length = xs.length := List.length_map ..
  obtain ⟨NS, hNS⟩ : ∃ NS, xs.map NodeC.d = NS := ⟨_, rfl⟩
  rw [hNS] at HK hxl
  have HXL := hide hxl
  have HBX : Hid ((w.alloc (nodeO 16 0 0 ⟨#[]⟩ nilL)).heap[w.heap.size]? = some (nodeO 16 0 0 ⟨#[]⟩ nilL)) := by show (w.heap.push _)[w.heap.size]? = _; unfold nodeO; simp
  have HW1 := hide (fun (V : World) (n : Value) (hk : KS Z p ta tn tc w nd xs [w.heap.size] NS i false V n nilL []) => hk.via fun _ hX => wantYes E hX (by omega) (c := 123) (by decide) (s := ⟨#[123]⟩) (by kernel_rfl) h1)
  obtain ⟨x, hx⟩ : ∃ x, sgT ts (i + 1) = x := ⟨_, rfl⟩
  have HSG := hide (fun (V : World) (n : Value) (hk : KS Z p ta tn tc w nd xs [w.heap.size] NS (i + 1) false V n nilL []) => hk.via (e0 := .returned (.string x)) fun _ hX => (spSign E hX (z := 0) (j := i + 1) (by omega) (by omega)).mono fun _ _ h => ⟨by rw [h.1, hx], (MidP.start hX).below h.2⟩)
  have hq125 : (x.toList == [125]) = true := by rw [show ([125] : List UInt8) = (⟨#[125]⟩ : ByteArray).toList by kernel_rfl, ← hx, sg_is E.ok (i + 1) (c := 125) (by decide) (by kernel_rfl)]; exact decide_eq_true h2
  have HWY := hide (fun (V : World) (n : Value) (hk : KS Z p ta tn tc w nd xs [w.heap.size] NS (i + 1) false V n nilL []) => hk.via fun _ hX => wantYes E hX (by omega) (c := 125) (by decide) (s := ⟨#[125]⟩) (by kernel_rfl) h2)
  have HPUT := hide (fun (V : World) (n : Value) (hk : KS Z p ta tn tc w nd xs [w.heap.size] NS (i + 2) false V n nilL []) => hk.put 16 0 0 ⟨#[]⟩ (by omega))
  clear h hxl h1 h2 E hx
  go_enter Tryz.func92, Tryz.ntmps92
  go_wp2_with (first | (go_at_call 144; refine (unhide HW1 _ _ (unhide HK)).mono ?_; clear HW1; rintro e w4 ⟨rfl, hk, hs⟩; have HK4 := hide hk; have HB4 := hide ((hs _ (List.mem_singleton.2 rfl)).trans (unhide HBX)); clear hk hs) | (go_at_call 91; refine (unhide HSG _ _ (unhide HK4)).mono ?_; rintro e w5 ⟨rfl, hk, hs⟩; have HK5 := hide hk; have HB5 := hide ((hs _ (List.mem_singleton.2 rfl)).trans (unhide HB4)); clear hk hs) | (go_at_call 144; refine (unhide HWY _ _ (unhide HK5)).mono ?_; rintro e w7 ⟨rfl, hk, hs⟩; have HK7 := hide hk; obtain ⟨b0, b1, b2, b3, b4, b5, b6, hbl⟩ := box_cells ((hs _ (List.mem_singleton.2 rfl)).trans (unhide HB5)); clear hk hs) | (go_at_call 45; refine (unhide HPUT _ _ (unhide HK7)).mono ?_; rintro e w8 ⟨rfl, nd8, hk⟩; have HK8 := hide hk; clear hk))
  go_ret
  exact leaf_gave (i := i) 16 0 0 ⟨#[]⟩ [] (unhide HXL) (unhide HK8) (by omega) (by decide) (by decide) (by decide)

end
end Go.Proofs.YtmgjicgojlkpcaaGreatDoor
