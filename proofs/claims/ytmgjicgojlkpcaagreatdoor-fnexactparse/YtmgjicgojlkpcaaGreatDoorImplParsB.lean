import Derived.Test.YtmgjicgojlkpcaaGreatDoorImplPars
import Derived.Deep.RegionWith
namespace Go.Proofs.YtmgjicgojlkpcaaGreatDoor
open Go.RowKit

/-- A fault that the developers' parser gives, and where it is. -/
def faultV (b : Nat) : Value := .iface 90 (.pointer (some ⟨b, 0, none⟩))
def IsFault (w : World) (b q : Nat) : Prop := ∃ ev, w.heap[b]? = some (.cells #[.int .i64 (q : Nat), ev] 94 (0, 0))

section
variable {Z : World} {ta : Option Addr} {tn : Nat} {ts : List Tok} {bytes : Nat} {p tc : Nat} {w : World} {i : Nat} {nd : Value} {xs : List NodeC}

set_option maxRecDepth 20000 in
set_option maxHeartbeats 2000000 in
theorem takeP (E : IEnv Z ta tn ts bytes) (h : IPS Z p ta tn tc bytes w i nd xs) (hi : i ≤ 4200) {c : Nat} (hc : c ∈ signCs) {s : ByteArray} (hs : s = bstr (encZ ((c : Nat) : Int))) :
    Calls Tryz.prog 157 #[.pointer (some ⟨p, 0, none⟩), .string s] w fun e w' => e = .returned (.bool (decide ((seenT ts).cl i = c))) ∧ IPS Z p ta tn tc bytes w' (if (seenT ts).cl i = c then i + 1 else i) nd xs ∧ PBut p nd w w' := by
  have HA := hide (isAheadP E h hi hc hs)
  have H := hide h
  clear hs h hc
  by_cases hy : (seenT ts).cl i = c
  case pos =>
    rw [decide_eq_true hy] at HA ⊢
    rw [if_pos hy]
    have hw1 : IntKind.i64.wrap ((i : Int) + 1) = (i : Int) + 1 := by rw [IntKind.wrap_i64]; omega
    clear hy
    go_enter Tryz.func157, Tryz.ntmps157
    go_wp2_with (go_at_call 191; refine (unhide HA).mono ?_; rintro e w5 ⟨rfl, hb5⟩; have h5 := (unhide H).below hb5; obtain ⟨p0, p1, p2, p3, f0, f1, f2, f3, hpl⟩ := h5.all; have H5 := hide h5; have HB5 := hide hb5; clear hb5 h5)
    go_ret
    have hs := (unhide H5).setAt (i + 1)
    have e : ((i + 1 : Nat) : Int) = (i : Int) + 1 := by omega
    rw [e] at hs
    exact ⟨rfl, hs.1, (PBut.of_below (unhide HB5)).trans (.inl rfl) hs.2⟩
  case neg =>
    rw [decide_eq_false hy] at HA ⊢
    rw [if_neg hy]
    clear hy
    go_enter Tryz.func157, Tryz.ntmps157
    go_wp2_with (go_at_call 191; refine (unhide HA).mono ?_; rintro e w5 ⟨rfl, hb5⟩; have H5 := hide ((unhide H).below hb5); have HB5 := hide hb5; clear hb5)
    go_ret
    exact ⟨rfl, unhide H5, PBut.of_below (unhide HB5)⟩

set_option maxRecDepth 20000 in
set_option maxHeartbeats 2000000 in
theorem refuseP (E : IEnv Z ta tn ts bytes) (h : IPS Z p ta tn tc bytes w i nd xs) (hi : i ≤ 4200) :
    Calls Tryz.prog 103 #[.pointer (some ⟨p, 0, none⟩)] w fun e w' => ∃ b, e = .returned (faultV b) ∧ IsFault w' b (tokA ts bytes i).p ∧ w.heap.size ≤ b ∧ Below w.heap.size w w' := by
  have HA := hide (fun W hW => aheadP E h hi (W := W) hW 0 (by omega))
  rw [Nat.add_zero] at HA
  obtain ⟨et, ea, hev⟩ := E.err
  have hgl : 1 < Z.heap.size := World.block_lt_of_cell? Z _ hev
  have HE : Hid (∀ W, Below w.heap.size w W → W.cell? ⟨1, 0, none⟩ = some (.iface et (.pointer (some ea)))) := fun W hW => ((h.low.trans (hW.mono h.low.size)).cell (p := ⟨1, 0, none⟩) hgl).trans hev
  have he0 := unhide HE w (Below.refl _ _)
  obtain ⟨y, hy⟩ : ∃ y, tokA ts bytes i = y := ⟨_, rfl⟩
  rw [hy] at HA ⊢
  obtain ⟨yk, yn, yt, yp⟩ := y
  unfold tokW at HA
  have hfl : ∀ W, (Instr.field 64 (.agg #[.int .i64 yk, .int .i64 yn, .string yt, .int .i64 (yp : Nat)]) 3).run Tryz.prog W = .ok (.int .i64 (yp : Nat)) W := fun W => by kernel_rfl
  clear hev h hy
  go_enter Tryz.func103, Tryz.ntmps103
  go_wp2_with fail
  go_region_with (go_at_call 158; refine (unhide HA _ (Below.refl _ _).drew).mono ?_; rintro e w5 ⟨rfl, hb5⟩; have he5 := unhide HE _ ((Below.refl _ _).drew.trans hb5); have HB5 : Hid (Below w.heap.size w w5) := (Below.refl _ _).drew.trans hb5; clear hb5)
  all_goals go_wp2_with fail
  all_goals go_ret
  all_goals exact ⟨w5.heap.size, rfl, ⟨.iface et (.pointer (some ea)), (by show (w5.heap.push _)[w5.heap.size]? = _; simp)⟩, (unhide HB5).size, (unhide HB5).alloc (unhide HB5).size _⟩

set_option maxRecDepth 20000 in
set_option maxHeartbeats 2000000 in
theorem needP (E : IEnv Z ta tn ts bytes) (h : IPS Z p ta tn tc bytes w i nd xs) (hi : i ≤ 4200) {c : Nat} (hc : c ∈ signCs) {s : ByteArray} (hs : s = bstr (encZ ((c : Nat) : Int))) :
    Calls Tryz.prog 195 #[.pointer (some ⟨p, 0, none⟩), .string s] w fun e w' =>
      ((seenT ts).cl i = c ∧ e = .returned .nilIface ∧ IPS Z p ta tn tc bytes w' (i + 1) nd xs ∧ PBut p nd w w') ∨
      ((seenT ts).cl i ≠ c ∧ ∃ b, e = .returned (faultV b) ∧ IsFault w' b (tokA ts bytes i).p ∧ Below Z.heap.size Z w') := by
  have HA := hide (takeP E h hi hc hs)
  have HE := hide E
  clear hs hc h
  by_cases hy : (seenT ts).cl i = c
  case pos =>
    rw [decide_eq_true hy, if_pos hy] at HA
    go_enter Tryz.func195, Tryz.ntmps195
    go_wp2_with (go_at_call 157; refine (unhide HA).mono ?_; rintro e w5 ⟨rfl, h5, hb5⟩; have H5 := hide h5; have HB5 := hide hb5; clear hb5 h5)
    go_ret
    exact .inl ⟨hy, rfl, unhide H5, unhide HB5⟩
  case neg =>
    rw [decide_eq_false hy, if_neg hy] at HA
    go_enter Tryz.func195, Tryz.ntmps195
    go_wp2_with (first | (go_at_call 157; refine (unhide HA).mono ?_; rintro e w5 ⟨rfl, h5, hb5⟩; have H5 := hide h5; clear hb5 h5) | (go_at_call 103; refine (refuseP (unhide HE) (unhide H5) hi).mono ?_; rintro e w6 ⟨b, rfl, hf, hbb, hb6⟩; have HF := hide hf; have HB6 := hide ((unhide H5).low.trans (hb6.mono (unhide H5).low.size)); clear hf hbb hb6))
    go_ret
    exact .inr ⟨hy, b, rfl, unhide HF, unhide HB6⟩

end
end Go.Proofs.YtmgjicgojlkpcaaGreatDoor
