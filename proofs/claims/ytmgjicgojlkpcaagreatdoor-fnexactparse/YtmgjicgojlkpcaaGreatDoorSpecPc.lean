import Derived.Test.YtmgjicgojlkpcaaGreatDoorSpecPb
namespace Go.Proofs.YtmgjicgojlkpcaaGreatDoor
open Go.RowKit

theorem rowS_new (w : World) (ps : List ByteArray) : RowS (w.alloc (.cells (ps.map Value.string).toArray 9)) (some ⟨w.heap.size, 0, none⟩) ps.length ps := by
  have hb : (w.alloc (.cells (ps.map Value.string).toArray 9)).heap[w.heap.size]? = some (.cells (ps.map Value.string).toArray 9 (0, 0)) := by
    show (w.heap.push _)[w.heap.size]? = _
    simp
  refine ⟨rfl, .inr ⟨w.heap.size, 0, rfl, by simp, fun i hi => ?_⟩⟩
  unfold World.cell?
  simp only [hb]
  simp [hi, List.getD_eq_getElem?_getD]

def begTs : List ByteArray := [⟨#[226, 141, 186]⟩, ⟨#[226, 141, 181]⟩, ⟨#[226, 141, 172]⟩, ⟨#[40]⟩]
def endTs : List ByteArray := [⟨#[41]⟩, ⟨#[93]⟩, ⟨#[59]⟩, ⟨#[125]⟩, ⟨#[226, 139, 132]⟩, ⟨#[58]⟩, ⟨#[226, 134, 144]⟩]
theorem beg_all : (signCs.all fun c => decide ((begTs.any fun p => p.toList == (bstr (encZ ((c : Nat) : Int))).toList) = begC c)) = true := by kernel_rfl
theorem end_all : (signCs.all fun c => decide ((endTs.any fun p => p.toList == (bstr (encZ ((c : Nat) : Int))).toList) = endC c)) = true := by kernel_rfl
theorem beg_nil : (begTs.any fun p => p.toList == (⟨#[]⟩ : ByteArray).toList) = false := by kernel_rfl
theorem end_nil : (endTs.any fun p => p.toList == (⟨#[]⟩ : ByteArray).toList) = false := by kernel_rfl

theorem sg_beg {ts : List Tok} (hok : ∀ y ∈ ts, TokOk y) (j : Nat) (h1 : (seenT ts).cl j ≠ 1) (h2 : (seenT ts).cl j ≠ 2) (h3 : (seenT ts).cl j ≠ 3) : (begTs.any fun p => p.toList == (sgT ts j).toList) = begC ((seenT ts).cl j) := by
  rcases sg_cases hok j with ⟨e1, e2⟩ | ⟨c, hc, e1, e2⟩
  · rw [e1, beg_nil]
    symm
    exact decide_eq_false (by omega)
  · rw [e1, e2]
    exact of_decide_eq_true (List.all_eq_true.mp beg_all c hc)
theorem sg_end {ts : List Tok} (hok : ∀ y ∈ ts, TokOk y) (j : Nat) (h0 : (seenT ts).cl j ≠ 0) : (endTs.any fun p => p.toList == (sgT ts j).toList) = endC ((seenT ts).cl j) := by
  rcases sg_cases hok j with ⟨e1, e2⟩ | ⟨c, hc, e1, e2⟩
  · rw [e1, end_nil]
    symm
    exact decide_eq_false (by omega)
  · rw [e1, e2]
    exact of_decide_eq_true (List.all_eq_true.mp end_all c hc)

section
variable {Z w w0 w1 : World} {p i j q : Nat} {nd nd0 nd1 v : Value} {zs : List Int} {xs ys : List NodeC} {bx : List Nat} {ns : List NodeD} {ta : Option Addr} {tn tc : Nat} {ts : List Tok} {b b' g : Bool} {t : List NodeD}

set_option maxRecDepth 20000 in
set_option maxHeartbeats 4000000 in
theorem spBegins (E : SEnv Z ta tn ts) (h : SPS Z p ta tn tc b w i nd xs) (hi : i ≤ 4200) {r : Bool} (hr : begC ((seenT ts).cl i) = r) :
    Calls Tryz.prog 93 #[.pointer (some ⟨p, 0, none⟩)] w fun e w' => e = .returned (.bool r) ∧ Below w.heap.size w w' := by
  have HK := hide (spKind E h)
  have HN := hide (fun (V : World) (hV : Below w.heap.size w V) {r' : Bool} (hr' : decide ((seenT ts).cl i = 3) = r') => spName E (h.below hV) false (r := r') hr')
  have HS := hide (fun (V : World) (hV : Below w.heap.size w V) => spSign E (h.below hV) (z := 0) (j := i) (by omega) hi)
  have hkc := kind_cases' E.ok i
  obtain ⟨K, hK⟩ : ∃ K, (tokA ts 0 i).k = K := ⟨_, rfl⟩
  rw [hK] at HK hkc
  by_cases h1 : (seenT ts).cl i = 1
  · have e1 : K = 1 := by rcases hkc with h' | h' | h' | h' | h' <;> omega
    subst e1
    have er : r = true := by rw [← hr, h1]; rfl
    subst er
    clear h E hkc hr h1 HN HS hK
    go_enter Tryz.func93, Tryz.ntmps93
    go_wp2_with (go_at_call 143; refine (unhide HK).mono ?_; rintro e w5 ⟨rfl, hb5⟩; have HB5 := hide hb5; clear hb5)
    go_ret
    exact ⟨rfl, unhide HB5⟩
  by_cases h2 : (seenT ts).cl i = 2
  · have e1 : K = 2 := by rcases hkc with h' | h' | h' | h' | h' <;> omega
    subst e1
    have er : r = true := by rw [← hr, h2]; rfl
    subst er
    clear h E hkc hr h1 h2 HN HS hK
    go_enter Tryz.func93, Tryz.ntmps93
    go_wp2_with (go_at_call 143; refine (unhide HK).mono ?_; rintro e w5 ⟨rfl, hb5⟩; have HB5 := hide hb5; clear hb5)
    go_ret
    exact ⟨rfl, unhide HB5⟩
  have k1 : (K == 1) = false := by rw [beq_eq_false_iff_ne]; rcases hkc with h' | h' | h' | h' | h' <;> omega
  have k2 : (K == 2) = false := by rw [beq_eq_false_iff_ne]; rcases hkc with h' | h' | h' | h' | h' <;> omega
  by_cases h3 : (seenT ts).cl i = 3
  · have er : r = true := by rw [← hr, h3]; rfl
    subst er
    have HN1 := hide (fun V hV => unhide HN V hV (r' := true) (decide_eq_true h3))
    clear h E hkc hr h1 h2 h3 HN HS hK
    go_enter Tryz.func93, Tryz.ntmps93
    go_wp2_with (first | (go_at_call 143; refine (unhide HK).mono ?_; rintro e w5 ⟨rfl, hb5⟩; have HB5 := hide hb5; clear hb5) | (go_at_call 90; refine (unhide HN1 _ (unhide HB5)).mono ?_; rintro e w6 ⟨rfl, hb6⟩; have HB6 := hide ((unhide HB5).trans (hb6.mono (unhide HB5).size)); clear hb6))
    go_ret
    exact ⟨rfl, unhide HB6⟩
  · have HN1 := hide (fun V hV => unhide HN V hV (r' := false) (decide_eq_false h3))
    have hin := sg_beg E.ok i h1 h2 h3
    rw [hr] at hin
    have HL : Hid (∀ (V W : World) (cap : Nat), Below (V.alloc (.cells #[.string ⟨#[226, 141, 186]⟩, .string ⟨#[226, 141, 181]⟩, .string ⟨#[226, 141, 172]⟩, .string ⟨#[40]⟩] 9)).heap.size (V.alloc (.cells #[.string ⟨#[226, 141, 186]⟩, .string ⟨#[226, 141, 181]⟩, .string ⟨#[226, 141, 172]⟩, .string ⟨#[40]⟩] 9)) W → Calls Tryz.prog 140 #[.slice (some ⟨V.heap.size, 0, none⟩) 4 cap, .string (sgT ts i)] W fun e w' => e = .returned (.bool r) ∧ w' = W) := fun V W cap hW => by
      have := l1In_any (some ⟨V.heap.size, 0, none⟩) 4 cap begTs (sgT ts i) W ((rowS_new V begTs).below (Nat.le_refl _) hW) (by omega)
      rw [hin] at this
      exact this
    obtain ⟨x, hx⟩ : ∃ x, sgT ts i = x := ⟨_, rfl⟩
    rw [hx] at HS HL
    clear h E hkc hr h1 h2 h3 HN hK hin hx
    go_enter Tryz.func93, Tryz.ntmps93
    go_wp2_with (first | (go_at_call 143; refine (unhide HK).mono ?_; rintro e w5 ⟨rfl, hb5⟩; have HB5 := hide hb5; clear hb5) | (go_at_call 90; refine (unhide HN1 _ (unhide HB5)).mono ?_; rintro e w6 ⟨rfl, hb6⟩; have HB6 := hide ((unhide HB5).trans (hb6.mono (unhide HB5).size)); clear hb6) | (go_at_call 91; refine (unhide HS _ ((unhide HB6).alloc (unhide HB6).size _)).mono ?_; rintro e w7 ⟨rfl, hb7⟩; have HL7 := hide (unhide HL w6 w7 4 hb7); have HB7 := hide (((unhide HB6).alloc (unhide HB6).size (.cells #[.string ⟨#[226, 141, 186]⟩, .string ⟨#[226, 141, 181]⟩, .string ⟨#[226, 141, 172]⟩, .string ⟨#[40]⟩] 9)).trans (hb7.mono (by have := (unhide HB6).size; simp; omega))); clear hb7) | (go_at_call 140; refine (unhide HL7).mono ?_; rintro e w8 ⟨rfl, rfl⟩))
    go_ret
    exact ⟨rfl, unhide HB7⟩

set_option maxRecDepth 20000 in
set_option maxHeartbeats 4000000 in
theorem spEnds (E : SEnv Z ta tn ts) (h : SPS Z p ta tn tc b w i nd xs) (hi : i ≤ 4200) {r : Bool} (hr : endC ((seenT ts).cl i) = r) :
    Calls Tryz.prog 150 #[.pointer (some ⟨p, 0, none⟩)] w fun e w' => e = .returned (.bool r) ∧ Below w.heap.size w w' := by
  have HS := hide (fun (V : World) (hV : Below w.heap.size w V) => spSign E (h.below hV) (z := 0) (j := i) (by omega) hi)
  have hln := E.row.len
  obtain ⟨p0, p1, p2, p3, f0, f1, f2, f3, hpl⟩ := h.all
  by_cases h0 : (seenT ts).cl i = 0
  · have er : r = true := by rw [← hr, h0]; rfl
    subst er
    have hge : ¬ i < tn := fun hlt => by
      rcases kind_cases' E.ok i with ⟨_, _, h'⟩ | ⟨_, h', _⟩ | ⟨_, h', _⟩ | ⟨_, h', _⟩ | ⟨_, h', _⟩ <;> omega
    have hl : decide (tn ≤ i) = true := decide_eq_true (by omega)
    have hl2 : (tn : Int) ≤ (i : Int) := by omega
    clear h E hr h0 HS hge hln
    go_enter Tryz.func150, Tryz.ntmps150
    go_wp2_with fail
    go_quiet (fail)
    go_wp2_with fail
    go_ret
    exact ⟨rfl, (by repeat (first | exact Below.refl _ _ | refine Below.drewN ?_ _ | refine Below.drew ?_))⟩
  · have hlt : i < tn := by rw [← hln]; exact seen_ends ts i h0
    have hl : decide (tn ≤ i) = false := decide_eq_false (by omega)
    have hl2 : ¬ (tn : Int) ≤ (i : Int) := by omega
    have hin := sg_end E.ok i h0
    rw [hr] at hin
    have HL : Hid (∀ (V W : World) (cap : Nat), Below (V.alloc (.cells #[.string ⟨#[41]⟩, .string ⟨#[93]⟩, .string ⟨#[59]⟩, .string ⟨#[125]⟩, .string ⟨#[226, 139, 132]⟩, .string ⟨#[58]⟩, .string ⟨#[226, 134, 144]⟩] 9)).heap.size (V.alloc (.cells #[.string ⟨#[41]⟩, .string ⟨#[93]⟩, .string ⟨#[59]⟩, .string ⟨#[125]⟩, .string ⟨#[226, 139, 132]⟩, .string ⟨#[58]⟩, .string ⟨#[226, 134, 144]⟩] 9)) W → Calls Tryz.prog 140 #[.slice (some ⟨V.heap.size, 0, none⟩) 7 cap, .string (sgT ts i)] W fun e w' => e = .returned (.bool r) ∧ w' = W) := fun V W cap hW => by
      have := l1In_any (some ⟨V.heap.size, 0, none⟩) 7 cap endTs (sgT ts i) W ((rowS_new V endTs).below (Nat.le_refl _) hW) (by omega)
      rw [hin] at this
      exact this
    obtain ⟨x, hx⟩ : ∃ x, sgT ts i = x := ⟨_, rfl⟩
    rw [hx] at HS HL
    have HBA : Hid (Below w.heap.size w (w.drew.alloc (.cells #[.string ⟨#[41]⟩, .string ⟨#[93]⟩, .string ⟨#[59]⟩, .string ⟨#[125]⟩, .string ⟨#[226, 139, 132]⟩, .string ⟨#[58]⟩, .string ⟨#[226, 134, 144]⟩] 9))) := (Below.refl _ _).drew.alloc (by simp) _
    have HLD : Hid (∀ W, Below (w.drew.alloc (.cells #[.string ⟨#[41]⟩, .string ⟨#[93]⟩, .string ⟨#[59]⟩, .string ⟨#[125]⟩, .string ⟨#[226, 139, 132]⟩, .string ⟨#[58]⟩, .string ⟨#[226, 134, 144]⟩] 9)).heap.size (w.drew.alloc (.cells #[.string ⟨#[41]⟩, .string ⟨#[93]⟩, .string ⟨#[59]⟩, .string ⟨#[125]⟩, .string ⟨#[226, 139, 132]⟩, .string ⟨#[58]⟩, .string ⟨#[226, 134, 144]⟩] 9)) W → _) := fun W hW => unhide HL w.drew W 7 hW
    clear h E hr h0 hln hlt hin hx
    go_enter Tryz.func150, Tryz.ntmps150
    go_wp2_with fail
    go_region_with (first | (go_at_call 91; refine (unhide HS _ (unhide HBA)).mono ?_; rintro e w7 ⟨rfl, hb7⟩; have HL7 := hide (unhide HLD w7 hb7); have HB7 := hide ((unhide HBA).trans (hb7.mono (by simp))); clear hb7) | (go_at_call 91; refine (unhide HS _ (Below.refl _ _).drew).mono ?_; rintro e w7 ⟨rfl, hb7⟩; have hb7' : Below w.heap.size w w7 := (Below.refl _ _).drew.trans hb7; have HL7 := hide (unhide HL w7 _ 7 (Below.refl _ _)); have HB7 := hide (hb7'.alloc hb7'.size (.cells #[.string ⟨#[41]⟩, .string ⟨#[93]⟩, .string ⟨#[59]⟩, .string ⟨#[125]⟩, .string ⟨#[226, 139, 132]⟩, .string ⟨#[58]⟩, .string ⟨#[226, 134, 144]⟩] 9)); clear hb7 hb7') | (go_at_call 140; refine (unhide HL7).mono ?_; rintro e w8 ⟨rfl, rfl⟩))
    all_goals go_wp2_with fail
    all_goals go_ret
    all_goals exact ⟨rfl, unhide HB7⟩

set_option maxRecDepth 20000 in
set_option maxHeartbeats 4000000 in
theorem secYes (E : SEnv Z ta tn ts) (h : SPS Z p ta tn tc false w i nd xs) (hi : i ≤ 4200) (hy : 0 < scalNo ((seenT ts).cl i)) :
    Calls Tryz.prog 181 #[.pointer (some ⟨p, 0, none⟩)] w fun e w' => e = .returned (.int .i64 (scalNo ((seenT ts).cl i) : Nat)) ∧ MidS Z p ta tn tc false w nd xs [] (i + 1) w' nd := by
  have HS := hide (spScalar E h (z := 0) (j := i) (by omega) hi)
  have HM : Hid (MidS Z p ta tn tc false w nd xs [] i w nd) := MidP.start h
  obtain ⟨N, hN⟩ : ∃ N, scalNo ((seenT ts).cl i) = N := ⟨_, rfl⟩
  rw [hN] at HS hy ⊢
  have hq : (((N : Nat) : Int) == 0) = false := by rw [beq_eq_false_iff_ne]; omega
  have hw1 : IntKind.i64.wrap ((i : Int) + 1) = (i : Int) + 1 := by rw [IntKind.wrap_i64]; omega
  clear h hy hN E
  go_enter Tryz.func181, Tryz.ntmps181
  go_wp2_with (go_at_call 96; refine (unhide HS).mono ?_; rintro e w5 ⟨rfl, hb5⟩; have hm := (unhide HM).below hb5; obtain ⟨p0, p1, p2, p3, f0, f1, f2, f3, hpl⟩ := hm.ps.all; have HM5 := hide (MidS.step hm 1 ((i : Int) + 1) (by omega)); clear hm hb5)
  go_ret
  exact ⟨rfl, unhide HM5⟩

set_option maxRecDepth 20000 in
set_option maxHeartbeats 4000000 in
theorem secNo (E : SEnv Z ta tn ts) (h : SPS Z p ta tn tc b w i nd xs) (hi : i ≤ 4200) (hy : b = true ∨ scalNo ((seenT ts).cl i) = 0) :
    Calls Tryz.prog 181 #[.pointer (some ⟨p, 0, none⟩)] w fun e w' => e = .returned (.int .i64 0) ∧ MidS Z p ta tn tc true w nd xs [] i w' nd := by
  have HS := hide (spScalar E h (z := 0) (j := i) (by omega) hi)
  have HM : Hid (MidS Z p ta tn tc b w nd xs [] i w nd) := MidP.start h
  obtain ⟨N, hN⟩ : ∃ N, scalNo ((seenT ts).cl i) = N := ⟨_, rfl⟩
  rw [hN] at HS hy
  clear h hN E
  cases b with
  | true =>
    clear hy
    go_enter Tryz.func181, Tryz.ntmps181
    go_wp2_with (go_at_call 96; refine (unhide HS).mono ?_; rintro e w5 ⟨rfl, hb5⟩; have hm := (unhide HM).below hb5; obtain ⟨p0, p1, p2, p3, f0, f1, f2, f3, hpl⟩ := hm.ps.all; have HM5 := hide (MidS.bad hm); clear hm hb5)
    go_ret
    exact ⟨rfl, unhide HM5⟩
  | false =>
    obtain rfl : N = 0 := by rcases hy with h' | h'; cases h'; exact h'
    go_enter Tryz.func181, Tryz.ntmps181
    go_wp2_with (go_at_call 96; refine (unhide HS).mono ?_; rintro e w5 ⟨rfl, hb5⟩; have hm := (unhide HM).below hb5; obtain ⟨p0, p1, p2, p3, f0, f1, f2, f3, hpl⟩ := hm.ps.all; have HM5 := hide (MidS.bad hm); clear hm hb5)
    go_ret
    exact ⟨rfl, unhide HM5⟩

end
end Go.Proofs.YtmgjicgojlkpcaaGreatDoor
