import Derived.Test.YtmgjicgojlkpcaaGreatDoorSpecKS
import Derived.Deep.RegionWith
namespace Go.Proofs.YtmgjicgojlkpcaaGreatDoor
open Go.RowKit

section
variable {Z w w0 w1 : World} {p i j q : Nat} {nd nd0 nd1 v : Value} {zs : List Int} {xs ys : List NodeC} {bx : List Nat} {ns : List NodeD} {ta : Option Addr} {tn tc : Nat} {ts : List Tok} {b b' g : Bool} {t : List NodeD}

theorem MidS.step (h : MidS Z p ta tn tc b w0 nd0 xs ys i w nd) (d : Nat) (z : Int) (hz : z = (i : Int) + (d : Nat)) : MidS Z p ta tn tc b w0 nd0 xs ys (i + d) (w.setCell ⟨p, 1, none⟩ (.int .i64 z)) nd := by
  have e : z = ((i + d : Nat) : Int) := by omega
  subst e
  obtain ⟨h1, h2⟩ := h.ps.setAt (i + d)
  exact h.move h1 h2
theorem MidS.bad (h : MidS Z p ta tn tc b w0 nd0 xs ys i w nd) : MidS Z p ta tn tc true w0 nd0 xs ys i (w.setCell ⟨p, 2, none⟩ (.bool true)) nd := by
  obtain ⟨h1, h2⟩ := h.ps.set2 (.bool true)
  exact ⟨h1, h.but.trans h.at_ h2, h.at_, h.new⟩

set_option maxRecDepth 20000 in
set_option maxHeartbeats 2000000 in
theorem hasYes (E : SEnv Z ta tn ts) (h : SPS Z p ta tn tc false w i nd xs) (hi : i ≤ 4200) {c : Nat} (hc : c ∈ signCs) {s : ByteArray} (hs : s = bstr (encZ ((c : Nat) : Int))) (hy : (seenT ts).cl i = c) :
    Calls Tryz.prog 44 #[.pointer (some ⟨p, 0, none⟩), .string s] w fun e w' => e = .returned (.bool true) ∧ MidS Z p ta tn tc false w nd xs [] (i + 1) w' nd := by
  have HS := hide (spSign E h (z := 0) (j := i) (by omega) hi)
  have HM : Hid (MidS Z p ta tn tc false w nd xs [] i w nd) := MidP.start h
  have hq := sg_is E.ok i hc hs
  rw [decide_eq_true hy] at hq
  obtain ⟨x, hx⟩ : ∃ x, sgT ts i = x := ⟨_, rfl⟩
  rw [hx] at HS hq
  obtain ⟨p0, p1, p2, p3, f0, f1, f2, f3, hpl⟩ := h.all
  have hw1 : IntKind.i64.wrap ((i : Int) + 1) = (i : Int) + 1 := by rw [IntKind.wrap_i64]; omega
  clear h hs hc hy hx E
  go_enter Tryz.func44, Tryz.ntmps44
  go_wp2_with (go_at_call 91; refine (unhide HS).mono ?_; rintro e w5 ⟨rfl, hb5⟩; have hm := (unhide HM).below hb5; clear p0 p1 p2 p3 f0 f1 f2 f3 hpl; obtain ⟨p0, p1, p2, p3, f0, f1, f2, f3, hpl⟩ := hm.ps.all; have HM5 := hide (MidS.step hm 1 ((i : Int) + 1) (by omega)); clear hm hb5)
  go_ret
  exact ⟨rfl, unhide HM5⟩

set_option maxRecDepth 20000 in
set_option maxHeartbeats 2000000 in
theorem hasNo (E : SEnv Z ta tn ts) (h : SPS Z p ta tn tc false w i nd xs) (hi : i ≤ 4200) {c : Nat} (hc : c ∈ signCs) {s : ByteArray} (hs : s = bstr (encZ ((c : Nat) : Int))) (hy : (seenT ts).cl i ≠ c) :
    Calls Tryz.prog 44 #[.pointer (some ⟨p, 0, none⟩), .string s] w fun e w' => e = .returned (.bool false) ∧ MidS Z p ta tn tc false w nd xs [] i w' nd := by
  have HS := hide (spSign E h (z := 0) (j := i) (by omega) hi)
  have HM : Hid (MidS Z p ta tn tc false w nd xs [] i w nd) := MidP.start h
  have hq := sg_is E.ok i hc hs
  rw [decide_eq_false hy] at hq
  obtain ⟨x, hx⟩ : ∃ x, sgT ts i = x := ⟨_, rfl⟩
  rw [hx] at HS hq
  obtain ⟨p0, p1, p2, p3, f0, f1, f2, f3, hpl⟩ := h.all
  clear h hs hc hy hx E
  go_enter Tryz.func44, Tryz.ntmps44
  go_wp2_with (go_at_call 91; refine (unhide HS).mono ?_; rintro e w5 ⟨rfl, hb5⟩; have HM5 := hide ((unhide HM).below hb5); clear hb5)
  go_ret
  exact ⟨rfl, unhide HM5⟩

set_option maxRecDepth 20000 in
set_option maxHeartbeats 2000000 in
theorem hasBad (h : SPS Z p ta tn tc true w i nd xs) (s : ByteArray) :
    Calls Tryz.prog 44 #[.pointer (some ⟨p, 0, none⟩), .string s] w fun e w' => e = .returned (.bool false) ∧ MidS Z p ta tn tc true w nd xs [] i w' nd := by
  have HM : Hid (MidS Z p ta tn tc true w nd xs [] i w nd) := MidP.start h
  obtain ⟨p0, p1, p2, p3, f0, f1, f2, f3, hpl⟩ := h.all
  clear h
  go_enter Tryz.func44, Tryz.ntmps44
  go_wp2_with fail
  go_ret
  exact ⟨rfl, unhide HM⟩

set_option maxRecDepth 20000 in
set_option maxHeartbeats 2000000 in
theorem wantYes (E : SEnv Z ta tn ts) (h : SPS Z p ta tn tc false w i nd xs) (hi : i ≤ 4200) {c : Nat} (hc : c ∈ signCs) {s : ByteArray} (hs : s = bstr (encZ ((c : Nat) : Int))) (hy : (seenT ts).cl i = c) :
    Calls Tryz.prog 144 #[.pointer (some ⟨p, 0, none⟩), .string s] w fun e w' => e = .returned (.tuple #[]) ∧ MidS Z p ta tn tc false w nd xs [] (i + 1) w' nd := by
  have HS := hide (hasYes E h hi hc hs hy)
  clear h hs hc hy E
  go_enter Tryz.func144, Tryz.ntmps144
  go_wp2_with (go_at_call 44; refine (unhide HS).mono ?_; rintro e w5 ⟨rfl, hm⟩; have HM5 := hide hm; clear hm)
  first | go_end0 | refine bodyPost_ret (results_none rfl _ _ _) rfl ?_
  exact ⟨rfl, unhide HM5⟩

set_option maxRecDepth 20000 in
set_option maxHeartbeats 2000000 in
theorem wantNo (E : SEnv Z ta tn ts) (h : SPS Z p ta tn tc false w i nd xs) (hi : i ≤ 4200) {c : Nat} (hc : c ∈ signCs) {s : ByteArray} (hs : s = bstr (encZ ((c : Nat) : Int))) (hy : (seenT ts).cl i ≠ c) :
    Calls Tryz.prog 144 #[.pointer (some ⟨p, 0, none⟩), .string s] w fun e w' => e = .returned (.tuple #[]) ∧ MidS Z p ta tn tc true w nd xs [] i w' nd := by
  have HS := hide (hasNo E h hi hc hs hy)
  clear h hs hc hy E
  go_enter Tryz.func144, Tryz.ntmps144
  go_wp2_with (go_at_call 44; refine (unhide HS).mono ?_; rintro e w5 ⟨rfl, hm⟩; obtain ⟨p0, p1, p2, p3, f0, f1, f2, f3, hpl⟩ := hm.ps.all; have HM5 := hide (MidS.bad hm); clear hm)
  first | go_end0 | refine bodyPost_ret (results_none rfl _ _ _) rfl ?_
  exact ⟨rfl, unhide HM5⟩

set_option maxRecDepth 20000 in
set_option maxHeartbeats 2000000 in
theorem wantBad (h : SPS Z p ta tn tc true w i nd xs) (s : ByteArray) :
    Calls Tryz.prog 144 #[.pointer (some ⟨p, 0, none⟩), .string s] w fun e w' => e = .returned (.tuple #[]) ∧ MidS Z p ta tn tc true w nd xs [] i w' nd := by
  have HS := hide (hasBad h s)
  clear h
  go_enter Tryz.func144, Tryz.ntmps144
  go_wp2_with (go_at_call 44; refine (unhide HS).mono ?_; rintro e w5 ⟨rfl, hm⟩; obtain ⟨p0, p1, p2, p3, f0, f1, f2, f3, hpl⟩ := hm.ps.all; have HM5 := hide (MidS.bad hm); clear hm)
  first | go_end0 | refine bodyPost_ret (results_none rfl _ _ _) rfl ?_
  exact ⟨rfl, unhide HM5⟩

/-- The place of a text among others, counted from 1. -/
def fstN (ps : List ByteArray) (s : ByteArray) : Nat → Nat → Nat
  | 0, _ => 0
  | f + 1, k => if k < ps.length then (if ((ps.getD k ⟨#[]⟩).toList == s.toList) = true then k + 1 else fstN ps s f (k + 1)) else 0

set_option maxRecDepth 20000 in
set_option maxHeartbeats 2000000 in
theorem l2Prim_any (s : ByteArray) (w : World) :
    Calls Tryz.prog 149 #[.string s] w fun e w' => e = .returned (.int .i64 (fstN primTs s 34 0 : Nat)) ∧ Below w.heap.size w w' := by
  have HP := hide (l2Prims_any w)
  have hlen := primTs_len
  obtain ⟨ps, hps⟩ : ∃ ps, primTs = ps := ⟨_, rfl⟩
  rw [hps] at HP hlen ⊢
  obtain ⟨r, hr⟩ : ∃ r, fstN ps s 34 0 = r := ⟨_, rfl⟩
  rw [hr]
  have HR := hide hr
  unfold GivesStrs at HP
  rw [hlen] at HP
  have HLEN := hide hlen
  clear hps hr hlen
  go_enter Tryz.func149, Tryz.ntmps149
  go_wp2_with (go_at_call 122; refine (unhide HP).mono ?_; rintro e w5 ⟨gb, cap, rfl, hrow, hb5⟩; have HROW := hide hrow; have HB5 := hide hb5; clear hrow hb5)
  go_loopw [4] (fun u wr => ∃ (k f : Nat), u = .int .i64 (k : Nat) ∧ k ≤ 33 ∧ 33 < f + k ∧ Hid (fstN ps s f k = r) ∧ wr = w5) (fun u _ => 34 - (intOf u).toNat)
  case atStart => exact ⟨0, 34, rfl, by omega, by omega, HR, rfl⟩
  case round =>
    obtain ⟨k, f, rfl, hk, hf, HF, rfl⟩ := hrel
    clear HR
    obtain ⟨f', rfl⟩ : ∃ f', f = f' + 1 := ⟨f - 1, by omega⟩
    by_cases hlt : k < 33
    case neg =>
      have hk33 : k = 33 := by omega
      subst hk33
      have HE : Hid (((0 : Nat) : Int) = ((r : Nat) : Int)) := by show _ = _; rw [← unhide HF, fstN, if_neg (by rw [unhide HLEN]; omega)]
      clear HF hlt
      go_wp2_with fail
      go_ret
      exact ⟨by rw [← unhide HE]; rfl, unhide HB5⟩
    case pos =>
      obtain ⟨bb, off, rfl', hbl, hc⟩ : ∃ bb off, (some ⟨gb, 0, none⟩ : Option Addr) = some ⟨bb, off, none⟩ ∧ bb < wr.heap.size ∧ wr.cell? ⟨bb, off + k, none⟩ = some (.string (ps.getD k ⟨#[]⟩)) := by
        rcases (unhide HROW).at_ with h0 | ⟨bb, off, e, hb, hc⟩
        · omega
        · exact ⟨bb, off, e, hb, hc k hlt⟩
      cases rfl'
      have hF := unhide HF
      rw [fstN, if_pos (by rw [unhide HLEN]; exact hlt)] at hF
      obtain ⟨y, hy⟩ : ∃ y, ps.getD k ⟨#[]⟩ = y := ⟨_, rfl⟩
      rw [hy] at hF hc
      have hki : (k : Int) < 33 := by omega
      have hw1 : IntKind.i64.wrap ((k : Int) + 1) = (k : Int) + 1 := by rw [IntKind.wrap_i64]; omega
      rw [Nat.zero_add] at hc
      clear hy HF
      by_cases hq : (y.toList == s.toList) = true
      case pos =>
        rw [if_pos hq] at hF
        have HE : Hid ((k : Int) + 1 = ((r : Nat) : Int)) := by show _ = _; rw [← hF]; rfl
        clear hF
        go_wp2_with fail
        go_ret
        exact ⟨by rw [← unhide HE]; rfl, unhide HB5⟩
      case neg =>
        have hq' : (y.toList == s.toList) = false := by simpa using hq
        rw [if_neg hq] at hF
        have HF := hide hF
        clear hF hq
        go_wp2_with fail
        go_roundw
        case rel => exact ⟨k + 1, f', rfl, by omega, by omega, HF, trivial⟩
        case measure => simp [intOf]; omega

end
end Go.Proofs.YtmgjicgojlkpcaaGreatDoor
