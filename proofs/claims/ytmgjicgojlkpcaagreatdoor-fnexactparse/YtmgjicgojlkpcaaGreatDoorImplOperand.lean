import Derived.Test.YtmgjicgojlkpcaaGreatDoorImplOpd
import Derived.Test.YtmgjicgojlkpcaaGreatDoorImplKW
import Derived.Test.YtmgjicgojlkpcaaGreatDoorImplParts
namespace Go.Proofs.YtmgjicgojlkpcaaGreatDoor
open Go.RowKit

section
variable {Z w w0 w1 : World} {p i j : Nat} {nd nd0 nd1 v : Value} {zs : List Int} {xs ys : List NodeC} {bx : List Nat} {ls : List (List NodeD)} {ta : Option Addr} {tn tc bytes : Nat} {ts : List Tok}

set_option maxRecDepth 20000 in
set_option maxHeartbeats 4000000 in
theorem opd_1 (E : IEnv Z ta tn ts bytes) (h : IPS Z p ta tn tc bytes w i nd xs) (hil : i ≤ ts.length) (htl : ts.length ≤ 4096) (hlen : xs.length ≤ 1048576) (h1 : (seenT ts).cl i = 1) :
    Calls Tryz.prog 196 #[.pointer (some ⟨p, 0, none⟩)] w (GaveI Z p ta tn tc ts bytes w nd xs (true, i + (numsTo (seenT ts) (ts.length + 1) i).length, [treeN 1 0 0 ⟨#[]⟩ (numsTo (seenT ts) (ts.length + 1) i) []])) := by
  have HM : Hid (MidI Z p ta tn tc bytes w nd xs [] i w nd) := MidP.start h
  have HA := hide (aheadP E h (by omega) (Below.refl _ _) 0 (by omega))
  have HNB := hide (fun (V : World) (hV : IPS Z p ta tn tc bytes V i nd xs) => numbersP E hV hil htl hlen)
  have hk1 := (seen_k E i).1.2 h1
  obtain ⟨⟨yk, yn, yt, yp⟩, hy⟩ : ∃ y, tokA ts bytes i = y := ⟨_, rfl⟩
  rw [hy] at hk1
  dsimp only at hk1
  subst hk1
  rw [Nat.add_zero, hy] at HA
  unfold tokW at HA
  obtain ⟨N, hN⟩ : ∃ N, numsTo (seenT ts) (ts.length + 1) i = N := ⟨_, rfl⟩
  rw [hN] at HNB ⊢
  clear h hlen hy h1 hN
  go_enter Tryz.func196, Tryz.ntmps196
  go_wp2_with (first | (go_at_call 158; refine (unhide HA).mono ?_; rintro e w5 ⟨rfl, hb5⟩; have HM5 := hide (((unhide HM).below hb5).below (TwoB.start w5 1 yn yt yp).below); clear hb5 HM HA) | (go_at_call 218; have hps := (unhide HM5).ps; rw [List.append_nil] at hps; refine (unhide HNB _ hps).mono ?_; clear hps; rintro e w7 ⟨rfl, nd7, hk7⟩; have HK7 := hide hk7; clear hk7))
  go_ret2
  refine GaveI.lift (unhide HM5) ((unhide HK7).gave rfl ?_)
  rw [row_one, tree_len]
  have e0 : (rowT ([] : List (List NodeD))).length = 0 := rfl
  omega

/-- What is in brackets. -/
theorem eibP (E : IEnv Z ta tn ts bytes) (htl : ts.length ≤ 4096) {R : Nat → Nat → List NodeD → Option Res} (hA : ∀ m i a, i ≤ ts.length → Adv (seenT ts) i (stepsM m) (R m i a)) (h40 : (seenT ts).cl i = 40) (hR : ∀ r, R 0 (i + 1) [] = some r → ReadI Z p ta tn tc ts bytes 166 #[.pointer (some ⟨p, 0, none⟩)] (i + 1) r)
    {r : Res} (hr : bindR (R 0 (i + 1) []) (fun q l => if (seenT ts).cl q = 41 then okR (q + 1) l else badR q) = some r) : ReadI Z p ta tn tc ts bytes 219 #[.pointer (some ⟨p, 0, none⟩)] i r := by
  have hil : i < ts.length := seen_ends ts i (by rw [h40]; decide)
  intro w nd xs h hroom
  rcases bind_cases hr with ⟨q, l, hx, hk⟩ | ⟨q, l, hx, rfl⟩
  · have hq : q ≤ ts.length := ((hA 0 (i + 1) [] hil).q hx).2
    by_cases h41 : (seenT ts).cl q = 41
    · rw [if_pos h41] at hk
      cases hk
      exact eib_ok E h (by omega) hroom h40 (by omega) (hR _ hx) h41
    · rw [if_neg h41] at hk
      cases hk
      exact eib_no E h (by omega) hroom h40 (by omega) (hR _ hx) h41
  · exact eib_bad E h (by omega) hroom h40 (hR _ hx)

/-- An operand up to its parts. -/
theorem operandP (E : IEnv Z ta tn ts bytes) (htl : ts.length ≤ 4096) (hil : i ≤ ts.length) {R : Nat → Nat → List NodeD → Option Res} (hA : ∀ m i a, i ≤ ts.length → Adv (seenT ts) i (stepsM m) (R m i a)) (hR : (seenT ts).cl i = 40 → ∀ r, R 0 (i + 1) [] = some r → ReadI Z p ta tn tc ts bytes 166 #[.pointer (some ⟨p, 0, none⟩)] (i + 1) r)
    {r : Res} (hr : atomS (seenT ts) R i = some r) : ReadI Z p ta tn tc ts bytes 196 #[.pointer (some ⟨p, 0, none⟩)] i r := by
  intro w nd xs h hroom
  unfold atomS at hr
  by_cases h1 : (seenT ts).cl i = 1
  · rw [if_pos h1] at hr; cases hr; exact opd_1 E h hil htl (by omega) h1
  rw [if_neg h1] at hr
  by_cases h2 : (seenT ts).cl i = 40
  · rw [if_pos h2] at hr; exact opd_40 E h (by omega) (by omega) h1 h2 hroom (eibP E htl hA h2 (hR h2) hr)
  rw [if_neg h2] at hr
  by_cases h3 : (seenT ts).cl i = 2
  · rw [if_pos h3] at hr; cases hr; exact opd_2 E h (by omega) (by omega) h1 h2 h3
  rw [if_neg h3] at hr
  by_cases h4 : (seenT ts).cl i = 3
  · rw [if_pos h4] at hr; cases hr; exact opd_3 E h (by omega) (by omega) h1 h2 h3 h4
  rw [if_neg h4] at hr
  by_cases h5 : (seenT ts).cl i = 9082
  · rw [if_pos h5] at hr; cases hr; exact opd_9082 E h (by omega) (by omega) h1 h2 h3 h4 h5
  rw [if_neg h5] at hr
  by_cases h6 : (seenT ts).cl i = 9077
  · rw [if_pos h6] at hr; cases hr; exact opd_9077 E h (by omega) (by omega) h1 h2 h3 h4 h5 h6
  rw [if_neg h6] at hr
  by_cases h7 : (seenT ts).cl i = 9068
  · rw [if_pos h7] at hr; cases hr; exact opd_9068 E h (by omega) (by omega) h1 h2 h3 h4 h5 h6 h7
  rw [if_neg h7] at hr
  cases hr
  exact opd_bad E h (by omega) (by omega) h1 h2 h3 h4 h5 h6 h7

/-- A function, where its braces' reader is given. -/
theorem fnP (E : IEnv Z ta tn ts bytes) (htl : ts.length ≤ 4096) (hil : i ≤ ts.length) {R : Nat → Nat → List NodeD → Option Res} (hf : fnC ((seenT ts).cl i) = true) (hB : ∀ r, bracesS (seenT ts) R i = some r → (seenT ts).cl i = 123 → ReadI Z p ta tn tc ts bytes 192 #[.pointer (some ⟨p, 0, none⟩)] i r)
    {r : Res} (hr : fnS (seenT ts) R i = some r) : ReadI Z p ta tn tc ts bytes 199 #[.pointer (some ⟨p, 0, none⟩)] i r := by
  intro w nd xs h hroom
  unfold fnS at hr
  by_cases h1 : 0 < scalNo ((seenT ts).cl i)
  · rw [if_pos h1] at hr
    exact fn_sc E h (by omega) (by omega) h1 hroom (fun w nd xs h hroom => sfnP E h (by omega) (by omega) h1 hr)
  rw [if_neg h1] at hr
  have h10 : scalNo ((seenT ts).cl i) = 0 := by omega
  by_cases h2 : (seenT ts).cl i = 8728
  · rw [if_pos h2] at hr
    exact fn_8728 E h (by omega) (by omega) h10 h2 hroom (fun w nd xs h hroom => outerP E h (by omega) (by omega) h2 hr)
  rw [if_neg h2] at hr
  by_cases h3 : (seenT ts).cl i = 123
  · rw [if_pos h3] at hr
    exact fn_123 E h (by omega) (by omega) h10 h2 h3 hroom (hB r hr h3)
  rw [if_neg h3] at hr
  by_cases h4 : (seenT ts).cl i = 4
  · rw [if_pos h4] at hr; cases hr; exact fn_4 E h (by omega) (by omega) h10 h2 h3 h4
  rw [if_neg h4] at hr
  by_cases h5 : (seenT ts).cl i = 8711
  · rw [if_pos h5] at hr; cases hr; exact fn_8711 E h (by omega) (by omega) h10 h2 h3 h4 h5
  rw [if_neg h5] at hr
  have hp : 0 < primNo ((seenT ts).cl i) := by
    unfold fnC at hf
    rcases of_decide_eq_true hf with h' | h' | h' | h' | h'
    · exact h'
    · exact absurd h' h4
    · exact absurd h' h2
    · exact absurd h' h3
    · exact absurd h' h5
  rw [if_pos hp] at hr
  cases hr
  exact fn_prim E h (by omega) (by omega) h10 h2 h3 h4 h5

end
end Go.Proofs.YtmgjicgojlkpcaaGreatDoor
