import Derived.Test.YtmgjicgojlkpcaaGreatDoorImplStmtQ
import Derived.BigQuiet
namespace Go.Proofs.YtmgjicgojlkpcaaGreatDoor
open Go.RowKit

/-- A token's box, made in the world V. -/
def OneTk (V : World) (yk yn : Int) (yt : ByteArray) (yp : Nat) (W : World) : Prop := Below (V.heap.size + 1) (V.alloc (tokB yk yn yt yp)) W

section
variable {V W W' : World} {yk yn : Int} {yt : ByteArray} {yp : Nat}

theorem OneTk.start (V : World) (yk yn : Int) (yt : ByteArray) (yp : Nat) : OneTk V yk yn yt yp (V.alloc (tokB yk yn yt yp)) := Below.refl _ _
theorem OneTk.size (h : OneTk V yk yn yt yp W) : V.heap.size + 1 ≤ W.heap.size := by have := Below.size h; simp at this; omega
theorem OneTk.go (h : OneTk V yk yn yt yp W) (hb : Below W.heap.size W W') : OneTk V yk yn yt yp W' := Below.trans h (hb.mono h.size)
theorem OneTk.below (h : OneTk V yk yn yt yp W) : Below V.heap.size V W := ((Below.refl _ _).alloc (Nat.le_refl _) _ : Below V.heap.size V _).trans (Below.mono h (by omega))
theorem OneTk.q (h : OneTk V yk yn yt yp W) : W.cell? ⟨V.heap.size, 0, none⟩ = some (.int .i64 yk) ∧ W.cell? ⟨V.heap.size, 1, none⟩ = some (.int .i64 yn) ∧ W.cell? ⟨V.heap.size, 2, none⟩ = some (.string yt) ∧ W.cell? ⟨V.heap.size, 3, none⟩ = some (.int .i64 (yp : Nat)) := by
  have e : W.heap[V.heap.size]? = some (tokB yk yn yt yp) := by
    rw [Below.block h _ (by omega)]
    show (V.heap.push _)[V.heap.size]? = _
    simp
  unfold tokB at e
  refine ⟨?_, ?_, ?_, ?_⟩ <;> simp [World.cell?, e]

end

/-- What assignsParts answers from a place on, d brackets being open. -/
def asgnF (X : Seen) (f j d : Nat) : Bool := match closeAt X f j d with
  | some q => decide (X.cl (q + 1) = 8592)
  | none => false

theorem asgnF_end {X : Seen} {f j d : Nat} (h : ¬ j < X.len) : asgnF X (f + 1) j d = false := by unfold asgnF; rw [closeAt, if_neg h]
theorem asgnF_open {X : Seen} {f j d : Nat} (h : j < X.len) (hc : X.cl j = 91) : asgnF X (f + 1) j d = asgnF X f (j + 1) (d + 1) := by
  unfold asgnF
  rw [closeAt, if_pos h]
  dsimp only
  rw [if_pos hc, if_neg (by omega)]
theorem asgnF_shut {X : Seen} {f j d : Nat} (h : j < X.len) (hc : X.cl j = 93) (hd : 2 ≤ d) : asgnF X (f + 1) j d = asgnF X f (j + 1) (d - 1) := by
  have e : (if X.cl j = 91 then d + 1 else if X.cl j = 93 then d - 1 else d) = d - 1 := by rw [if_neg (by omega), if_pos hc]
  unfold asgnF
  rw [closeAt, if_pos h]
  simp only [e]
  rw [if_neg (by omega)]
theorem asgnF_hit {X : Seen} {f j : Nat} (h : j < X.len) (hc : X.cl j = 93) : asgnF X (f + 1) j 1 = decide (X.cl (j + 1) = 8592) := by
  have e : (if X.cl j = 91 then 1 + 1 else if X.cl j = 93 then 1 - 1 else 1) = 0 := by rw [if_neg (by omega), if_pos hc]
  unfold asgnF
  rw [closeAt, if_pos h]
  simp only [e, if_true]
theorem asgnF_other {X : Seen} {f j d : Nat} (h : j < X.len) (h1 : X.cl j ≠ 91) (h2 : X.cl j ≠ 93) (hd : 1 ≤ d) : asgnF X (f + 1) j d = asgnF X f (j + 1) d := by
  unfold asgnF
  rw [closeAt, if_pos h]
  dsimp only
  rw [if_neg h1, if_neg h2, if_neg (by omega)]

section
variable {Z w w0 w1 : World} {p i j : Nat} {nd nd0 nd1 v : Value} {zs : List Int} {xs ys : List NodeC} {bx : List Nat} {ls : List (List NodeD)} {ta : Option Addr} {tn tc bytes : Nat} {ts : List Tok}

set_option maxRecDepth 20000 in
set_option maxHeartbeats 8000000 in
theorem assignsP (E : IEnv Z ta tn ts bytes) (h : IPS Z p ta tn tc bytes w i nd xs) (hil : i + 1 < ts.length) (htl : ts.length ≤ 4096) (h91 : (seenT ts).cl (i + 1) = 91) :
    Calls Tryz.prog 163 #[.pointer (some ⟨p, 0, none⟩)] w fun e w' => e = .returned (.bool (asgnB (seenT ts) (i + 1))) ∧ Below w.heap.size w w' := by
  obtain ⟨r, hr⟩ : ∃ r, asgnB (seenT ts) (i + 1) = r := ⟨_, rfl⟩
  rw [hr]
  have HT0 : Hid (asgnF (seenT ts) (ts.length + 1) (i + 1) 0 = r) := hr
  have H := hide h
  have htn : tn = ts.length := E.row.len.symm
  have HA := hide (fun (V : World) (hV : Below w.heap.size w V) (c : Nat) (hc : c ≤ 4200) => aheadP E h (by omega) hV c hc)
  have HS := hide (fun (q c : Nat) (hc : c ∈ signCs) (s : ByteArray) (hs : s = bstr (encZ ((c : Nat) : Int))) (V : World) => signT E q hc hs V)
  clear h hr
  go_enter Tryz.func163, Tryz.ntmps163
  go_wp2_with fail
  go_loopw [3, 4] (fun u c wr => ∃ (d cn f : Nat), u = .int .i64 (d : Nat) ∧ c = .int .i64 (cn : Nat) ∧ 1 ≤ cn ∧ i + cn ≤ ts.length ∧ d < cn ∧ Hid (1 ≤ d ∨ cn = 1) ∧ ts.length < f + (i + cn) ∧ Hid (asgnF (seenT ts) f (i + cn) d = r) ∧ Hid (Below w.heap.size w wr)) (fun _ c _ => ts.length + 1 - (intOf c).toNat)
  case atStart => exact ⟨0, 1, ts.length + 1, rfl, rfl, Nat.le_refl _, by omega, by omega, .inr rfl, by omega, HT0, Below.refl _ _⟩
  case round =>
    obtain ⟨d, cn, f, rfl, rfl, hcn, hic, hdc, HD, hff, HT, HB⟩ := hrel
    clear HT0
    have hps := (unhide H).below (unhide HB)
    obtain ⟨p0, p1, p2, p3, f0, f1, f2, f3, hpl⟩ := hps.all
    obtain ⟨f', rfl⟩ : ∃ f', f = f' + 1 := ⟨f - 1, by omega⟩
    obtain ⟨jn, hjn⟩ : ∃ jn, jn = i + cn := ⟨_, rfl⟩
    have hw0 : IntKind.i64.wrap ((i : Int) + (cn : Int)) = (jn : Int) := by rw [IntKind.wrap_i64]; omega
    have hw1 : IntKind.i64.wrap ((cn : Int) + 1) = (cn : Int) + 1 := by rw [IntKind.wrap_i64]; omega
    clear hps
    rw [← hjn] at HT
    by_cases hlt : jn < ts.length
    case neg =>
      have HE : Hid (false = r) := by show _ = _; rw [← unhide HT, asgnF_end hlt]
      have hq : ¬ (jn : Int) < (tn : Int) := by omega
      clear HT hlt
      go_wp2_with fail
      go_quiet (fail)
      go_wp2_with fail
      go_ret
      exact ⟨ret_bool (unhide HE), (by repeat (first | exact unhide HB | refine Below.drewN ?_ _ | refine Below.drew ?_))⟩
    case pos =>
      have hq : (jn : Int) < (tn : Int) := by omega
      have HAJ : Hid (∀ V, Below w.heap.size w V → Calls Tryz.prog 158 #[.pointer (some ⟨p, 0, none⟩), .int .i64 (cn : Nat)] V fun e w' => e = .returned (tokW (tokA ts bytes jn)) ∧ Below V.heap.size V w') := fun V hV => by rw [hjn]; exact unhide HA V hV cn (by omega)
      have HAK : Hid (∀ V, Below w.heap.size w V → Calls Tryz.prog 158 #[.pointer (some ⟨p, 0, none⟩), .int .i64 ((cn : Int) + 1)] V fun e w' => e = .returned (tokW (tokA ts bytes (jn + 1))) ∧ Below V.heap.size V w') := fun V hV => by
        have := unhide HA V hV (cn + 1) (by omega)
        rw [show i + (cn + 1) = jn + 1 by omega] at this
        exact this
      obtain ⟨⟨yk, yn, yt, yp⟩, hy⟩ : ∃ y, tokA ts bytes jn = y := ⟨_, rfl⟩
      obtain ⟨⟨xk, xn, xt, xp⟩, hx⟩ : ∃ y, tokA ts bytes (jn + 1) = y := ⟨_, rfl⟩
      have K1 := hide (fun (V : World) => unhide HS jn 91 (by decide) ⟨#[91]⟩ (by kernel_rfl) V)
      have K2 := hide (fun (V : World) => unhide HS jn 93 (by decide) ⟨#[93]⟩ (by kernel_rfl) V)
      have K3 := hide (fun (V : World) => unhide HS (jn + 1) 8592 (by decide) ⟨#[226, 134, 144]⟩ (by kernel_rfl) V)
      rw [hy] at HAJ K1 K2
      rw [hx] at HAK K3
      unfold tokW at HAJ HAK K1 K2 K3
      have HDR : Hid (∀ n, Below w.heap.size w (wr.drewN n)) := fun n => Below.drewN (unhide HB) n
      clear hy hx HA HS
      by_cases c1 : (seenT ts).cl jn = 91
      · have HT2 : Hid (asgnF (seenT ts) f' (jn + 1) (d + 1) = r) := by show _ = _; rw [← unhide HT, asgnF_open hlt c1]
        rw [decide_eq_true c1] at K1
        have hz : (((d : Int) + 1) == 0) = false := by rw [beq_eq_false_iff_ne]; omega
        have hw2 : IntKind.i64.wrap ((d : Int) + 1) = (d : Int) + 1 := by rw [IntKind.wrap_i64]; omega
        clear HT c1 K2 K3 HAK HD
        go_wp2_with fail
        go_quiet (fail)
        go_wp2_with (first | (go_at_call 158; refine (unhide HAJ _ (unhide HDR _)).mono ?_; rintro e w5 ⟨rfl, hb5⟩; have HB5 := hide ((unhide HDR _).trans (hb5.mono (unhide HDR _).size)); have HT := hide (OneTk.start w5 yk yn yt yp); clear hb5) | (go_at_call 159; refine (unhide K1 _).mono ?_; rintro e w6 ⟨rfl, hb6⟩; have HT' := hide ((unhide HT).go hb6); clear HT hb6; have HT := HT'; clear HT'; obtain ⟨q0, q1, q2, q3⟩ := (unhide HT).q))
        go_roundw
        case rel => exact ⟨d + 1, cn + 1, f', rfl, rfl, by omega, by omega, by omega, .inl (by omega), by omega, by show _ = _; rw [show i + (cn + 1) = jn + 1 by omega]; exact unhide HT2, (unhide HB5).trans ((unhide HT).below.mono (unhide HB5).size)⟩
        case measure => simp [intOf]; omega
      · rw [decide_eq_false c1] at K1
        have hd1 : 1 ≤ d := by
          rcases unhide HD with h' | h'
          · exact h'
          · exact absurd (by rw [hjn, h']; exact h91) c1
        clear HD
        by_cases c2 : (seenT ts).cl jn = 93
        · rw [decide_eq_true c2] at K2
          by_cases hd2 : d = 1
          · subst hd2
            obtain ⟨bv, hbv⟩ : ∃ bv, decide ((seenT ts).cl (jn + 1) = 8592) = bv := ⟨_, rfl⟩
            rw [hbv] at K3
            have HE : Hid (bv = r) := by show _ = _; rw [← unhide HT, asgnF_hit hlt c2]; exact hbv.symm
            clear HT c1 c2 hbv
            go_wp2_with fail
            go_quiet (fail)
            go_wp2_with (first | (go_at_call 158; refine (unhide HAJ _ (unhide HDR _)).mono ?_; clear HAJ; rintro e w5 ⟨rfl, hb5⟩; have HB5 := hide ((unhide HDR _).trans (hb5.mono (unhide HDR _).size)); have HT := hide (OneTk.start w5 yk yn yt yp); clear hb5) | (go_at_call 159; refine (unhide K1 _).mono ?_; clear K1; rintro e w6 ⟨rfl, hb6⟩; have HT' := hide ((unhide HT).go hb6); clear HT hb6; have HT := HT'; clear HT'; obtain ⟨q0, q1, q2, q3⟩ := (unhide HT).q) | (go_at_call 159; refine (unhide K2 _).mono ?_; clear K2; rintro e w6 ⟨rfl, hb6⟩; have HT' := hide ((unhide HT).go hb6); clear HT hb6; have HT := HT'; clear HT'; obtain ⟨q0, q1, q2, q3⟩ := (unhide HT).q) | (go_at_call 158; refine (unhide HAK _ ((unhide HB5).trans ((unhide HT).below.mono (unhide HB5).size))).mono ?_; clear HAK; rintro e w7 ⟨rfl, hb7⟩; have HT' := hide ((unhide HT).go hb7); clear HT hb7; have HT := HT'; clear HT') | (go_at_call 159; refine (unhide K3 _).mono ?_; clear K3; rintro e w8 ⟨rfl, hb8⟩; have HT' := hide ((unhide HT).go hb8); clear HT hb8; have HT := HT'; clear HT'))
            go_ret
            exact ⟨ret_bool (unhide HE), (unhide HB5).trans ((unhide HT).below.mono (unhide HB5).size)⟩
          · have HT2 : Hid (asgnF (seenT ts) f' (jn + 1) (d - 1) = r) := by show _ = _; rw [← unhide HT, asgnF_shut hlt c2 (by omega)]
            have hz : (((d : Int) - 1) == 0) = false := by rw [beq_eq_false_iff_ne]; omega
            have hw2 : IntKind.i64.wrap ((d : Int) - 1) = (d : Int) - 1 := by rw [IntKind.wrap_i64]; omega
            have hdi : (d : Int) - 1 = ((d - 1 : Nat) : Int) := by omega
            have HDI := hide hdi
            clear HT c1 c2 K3 HAK hdi
            go_wp2_with fail
            go_quiet (fail)
            go_wp2_with (first | (go_at_call 158; refine (unhide HAJ _ (unhide HDR _)).mono ?_; clear HAJ; rintro e w5 ⟨rfl, hb5⟩; have HB5 := hide ((unhide HDR _).trans (hb5.mono (unhide HDR _).size)); have HT := hide (OneTk.start w5 yk yn yt yp); clear hb5) | (go_at_call 159; refine (unhide K1 _).mono ?_; clear K1; rintro e w6 ⟨rfl, hb6⟩; have HT' := hide ((unhide HT).go hb6); clear HT hb6; have HT := HT'; clear HT'; obtain ⟨q0, q1, q2, q3⟩ := (unhide HT).q) | (go_at_call 159; refine (unhide K2 _).mono ?_; clear K2; rintro e w6 ⟨rfl, hb6⟩; have HT' := hide ((unhide HT).go hb6); clear HT hb6; have HT := HT'; clear HT'; obtain ⟨q0, q1, q2, q3⟩ := (unhide HT).q))
            go_roundw
            case rel => exact ⟨d - 1, cn + 1, f', by rw [unhide HDI], rfl, by omega, by omega, by omega, .inl (by omega), by omega, by show _ = _; rw [show i + (cn + 1) = jn + 1 by omega]; exact unhide HT2, (unhide HB5).trans ((unhide HT).below.mono (unhide HB5).size)⟩
            case measure => simp [intOf]; omega
        · rw [decide_eq_false c2] at K2
          have HT2 : Hid (asgnF (seenT ts) f' (jn + 1) d = r) := by show _ = _; rw [← unhide HT, asgnF_other hlt c1 c2 hd1]
          have hz : ((d : Int) == 0) = false := by rw [beq_eq_false_iff_ne]; omega
          clear HT c1 c2 K3 HAK
          go_wp2_with fail
          go_quiet (fail)
          go_wp2_with (first | (go_at_call 158; refine (unhide HAJ _ (unhide HDR _)).mono ?_; clear HAJ; rintro e w5 ⟨rfl, hb5⟩; have HB5 := hide ((unhide HDR _).trans (hb5.mono (unhide HDR _).size)); have HT := hide (OneTk.start w5 yk yn yt yp); clear hb5) | (go_at_call 159; refine (unhide K1 _).mono ?_; clear K1; rintro e w6 ⟨rfl, hb6⟩; have HT' := hide ((unhide HT).go hb6); clear HT hb6; have HT := HT'; clear HT'; obtain ⟨q0, q1, q2, q3⟩ := (unhide HT).q) | (go_at_call 159; refine (unhide K2 _).mono ?_; clear K2; rintro e w6 ⟨rfl, hb6⟩; have HT' := hide ((unhide HT).go hb6); clear HT hb6; have HT := HT'; clear HT'; obtain ⟨q0, q1, q2, q3⟩ := (unhide HT).q))
          go_roundw
          case rel => exact ⟨d, cn + 1, f', rfl, rfl, by omega, by omega, by omega, .inl (by omega), by omega, by show _ = _; rw [show i + (cn + 1) = jn + 1 by omega]; exact unhide HT2, (unhide HB5).trans ((unhide HT).below.mono (unhide HB5).size)⟩
          case measure => simp [intOf]; omega

end
end Go.Proofs.YtmgjicgojlkpcaaGreatDoor
