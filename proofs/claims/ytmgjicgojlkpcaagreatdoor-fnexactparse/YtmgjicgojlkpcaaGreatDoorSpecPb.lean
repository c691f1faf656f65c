import Derived.Test.YtmgjicgojlkpcaaGreatDoorSpecPa
namespace Go.Proofs.YtmgjicgojlkpcaaGreatDoor
open Go.RowKit

theorem prim_all : (signCs.all fun c => decide (fstN primTs (bstr (encZ ((c : Nat) : Int))) 34 0 = primNo c)) = true := by kernel_rfl
theorem prim_nil : fstN primTs ⟨#[]⟩ 34 0 = 0 := by kernel_rfl

/-- What a sign is to the parsers. -/
theorem sg_cases {ts : List Tok} (hok : ∀ y ∈ ts, TokOk y) (j : Nat) : (sgT ts j = ⟨#[]⟩ ∧ (seenT ts).cl j ≤ 4) ∨ ∃ c ∈ signCs, sgT ts j = bstr (encZ ((c : Nat) : Int)) ∧ (seenT ts).cl j = c := by
  by_cases hj : j < ts.length
  · have e : tokA ts 0 j = ts[j] := by unfold tokA; simp [List.getD_eq_getElem?_getD, hj]
    have hc : (seenT ts).cl j = clT ts[j] := by show (if j < ts.length then clT (tokA ts 0 j) else 0) = _; rw [if_pos hj, e]
    have hk := hok _ (List.getElem_mem hj)
    unfold sgT
    rw [hc, e]
    generalize ts[j] = y at hk
    unfold clT
    rcases hk with ⟨h, _⟩ | h | ⟨h, _⟩ | ⟨h, c, hm, ht⟩
    · exact .inl ⟨by rw [if_neg (by omega)], by simp [h]⟩
    · exact .inl ⟨by rw [if_neg (by omega)], by simp [h]⟩
    · refine .inl ⟨by rw [if_neg (by omega)], ?_⟩
      rw [h]
      simp
      split <;> omega
    · refine .inr ⟨c, hm, by rw [if_pos h]; exact ht, ?_⟩
      rw [if_neg (by omega), if_neg (by omega), if_neg (by omega), if_pos h, ht, signOf_at hm]
  · left
    unfold sgT
    rw [tokA_out hj]
    refine ⟨rfl, ?_⟩
    show (if j < ts.length then clT (tokA ts 0 j) else 0) ≤ 4
    rw [if_neg hj]
    omega

theorem prim_low {c : Nat} (h : c ≤ 4) : primNo c = 0 := by
  have : c = 0 ∨ c = 1 ∨ c = 2 ∨ c = 3 ∨ c = 4 := by omega
  rcases this with rfl | rfl | rfl | rfl | rfl <;> decide

theorem sg_prim {ts : List Tok} (hok : ∀ y ∈ ts, TokOk y) (j : Nat) : fstN primTs (sgT ts j) 34 0 = primNo ((seenT ts).cl j) := by
  rcases sg_cases hok j with ⟨h1, h2⟩ | ⟨c, hc, h1, h2⟩
  · rw [h1, prim_nil, prim_low h2]
  · rw [h1, h2]
    exact of_decide_eq_true (List.all_eq_true.mp prim_all c hc)

def begC (c : Nat) : Bool := decide (c = 1 ∨ c = 2 ∨ c = 3 ∨ c = 9082 ∨ c = 9077 ∨ c = 9068 ∨ c = 40)
def endC (c : Nat) : Bool := decide (c = 0 ∨ c = 41 ∨ c = 93 ∨ c = 59 ∨ c = 125 ∨ c = 8900 ∨ c = 58 ∨ c = 8592)

/-- What a token is, by its kind. -/
theorem kind_cases' {ts : List Tok} (hok : ∀ y ∈ ts, TokOk y) (j : Nat) : ((tokA ts 0 j).k = 0 ∧ (seenT ts).cl j = 0 ∧ ¬ j < ts.length) ∨ ((tokA ts 0 j).k = 1 ∧ (seenT ts).cl j = 1 ∧ j < ts.length) ∨ ((tokA ts 0 j).k = 2 ∧ (seenT ts).cl j = 2 ∧ j < ts.length) ∨ ((tokA ts 0 j).k = 3 ∧ ((seenT ts).cl j = 3 ∨ (seenT ts).cl j = 4) ∧ j < ts.length) ∨ ((tokA ts 0 j).k = 4 ∧ 40 ≤ (seenT ts).cl j ∧ j < ts.length) := by
  by_cases hj : j < ts.length
  · have e : tokA ts 0 j = ts[j] := by unfold tokA; simp [List.getD_eq_getElem?_getD, hj]
    have hc : (seenT ts).cl j = clT ts[j] := by show (if j < ts.length then clT (tokA ts 0 j) else 0) = _; rw [if_pos hj, e]
    have hk := hok _ (List.getElem_mem hj)
    rw [hc, e]
    generalize ts[j] = y at hk
    unfold clT
    rcases hk with ⟨h, _⟩ | h | ⟨h, _⟩ | ⟨h, c, hm, ht⟩
    · exact .inr (.inl ⟨h, by simp [h], hj⟩)
    · exact .inr (.inr (.inl ⟨h, by simp [h], hj⟩))
    · refine .inr (.inr (.inr (.inl ⟨h, ?_, hj⟩)))
      by_cases h9 : bt y.t 0 ≤ 90 <;> simp [h, h9]
    · refine .inr (.inr (.inr (.inr ⟨h, ?_, hj⟩)))
      rw [if_neg (by omega), if_neg (by omega), if_neg (by omega), if_pos h, ht, signOf_at hm]
      exact of_decide_eq_true (List.all_eq_true.mp sign_ge c hm)
  · left
    rw [tokA_out hj]
    refine ⟨rfl, ?_, hj⟩
    show (if j < ts.length then clT (tokA ts 0 j) else 0) = 0
    rw [if_neg hj]

section
variable {Z w w0 w1 : World} {p i j q : Nat} {nd nd0 nd1 v : Value} {zs : List Int} {xs ys : List NodeC} {bx : List Nat} {ns : List NodeD} {ta : Option Addr} {tn tc : Nat} {ts : List Tok} {b b' g : Bool} {t : List NodeD}

set_option maxRecDepth 20000 in
set_option maxHeartbeats 2000000 in
theorem spScalar (E : SEnv Z ta tn ts) (h : SPS Z p ta tn tc b w i nd xs) {z : Int} {j : Nat} (hz : (i : Int) + z = (j : Int)) (hj : j ≤ 4200) :
    Calls Tryz.prog 96 #[.pointer (some ⟨p, 0, none⟩), .int .i64 z] w fun e w' => e = .returned (.int .i64 (scalNo ((seenT ts).cl j) : Nat)) ∧ Below w.heap.size w w' := by
  have HS := hide (spSign E h hz hj)
  have HP := hide (fun V => l2Prim_any (sgT ts j) V)
  rw [sg_prim E.ok j] at HP
  obtain ⟨x, hx⟩ : ∃ x, sgT ts j = x := ⟨_, rfl⟩
  obtain ⟨N, hN⟩ : ∃ N, primNo ((seenT ts).cl j) = N := ⟨_, rfl⟩
  have HR : Hid (scalNo ((seenT ts).cl j) = if N ≤ 16 then N else 0) := by show _ = _; unfold scalNo; rw [hN]
  rw [hx] at HS HP
  rw [hN] at HP
  clear h hx hN E
  by_cases h16 : N ≤ 16
  · rw [if_pos h16] at HR
    have hq : ¬ (16 : Int) < (N : Int) := by omega
    go_enter Tryz.func96, Tryz.ntmps96
    go_wp2_with (first | (go_at_call 91; refine (unhide HS).mono ?_; rintro e w5 ⟨rfl, hb5⟩; have HB5 := hide hb5; clear hb5) | (go_at_call 149; refine (unhide HP _).mono ?_; rintro e w6 ⟨rfl, hb6⟩; have HB6 := hide ((unhide HB5).trans (hb6.mono (unhide HB5).size)); clear hb6))
    go_ret
    exact ⟨by rw [unhide HR]; rfl, unhide HB6⟩
  · rw [if_neg h16] at HR
    have hq : (16 : Int) < (N : Int) := by omega
    go_enter Tryz.func96, Tryz.ntmps96
    go_wp2_with (first | (go_at_call 91; refine (unhide HS).mono ?_; rintro e w5 ⟨rfl, hb5⟩; have HB5 := hide hb5; clear hb5) | (go_at_call 149; refine (unhide HP _).mono ?_; rintro e w6 ⟨rfl, hb6⟩; have HB6 := hide ((unhide HB5).trans (hb6.mono (unhide HB5).size)); clear hb6))
    go_ret
    exact ⟨by rw [unhide HR]; rfl, unhide HB6⟩

set_option maxRecDepth 20000 in
set_option maxHeartbeats 4000000 in
theorem spName (E : SEnv Z ta tn ts) (h : SPS Z p ta tn tc b w i nd xs) (hi : Bool) {r : Bool} (hr : decide ((seenT ts).cl i = if hi = true then 4 else 3) = r) :
    Calls Tryz.prog 90 #[.pointer (some ⟨p, 0, none⟩), .bool hi] w fun e w' => e = .returned (.bool r) ∧ Below w.heap.size w w' := by
  have HK := hide (fun (n : Nat) => spKindQ E (h.below (Below.drewN (Below.refl _ _) n)))
  obtain ⟨p0, p1, p2, p3, f0, f1, f2, f3, hpl⟩ := h.all
  have hT := E.row.belowS h.low
  by_cases h3 : (tokA ts 0 i).k = 3
  · have hlt : i < tn := by
      rw [← E.row.len]
      rcases kind_cases' E.ok i with ⟨h', _⟩ | ⟨_, _, h'⟩ | ⟨_, _, h'⟩ | ⟨_, _, h'⟩ | ⟨_, _, h'⟩
      · omega
      · exact h'
      · exact h'
      · exact h'
      · exact h'
    obtain ⟨tb, off, y, rfl, hbl, hy, a0, a1, a2, a3⟩ := hT.get hlt
    have hty := tokA_in hy 0
    have hmem : y ∈ ts := List.mem_of_getElem? hy
    rw [hty] at h3
    have hcl : (seenT ts).cl i = if bt y.t 0 ≤ 90 then 4 else 3 := by
      show (if i < ts.length then clT (tokA ts 0 i) else 0) = _
      rw [if_pos (by rw [E.row.len]; exact hlt), hty]
      unfold clT
      rw [h3]
      simp
    have hnm := E.nam y hmem h3 hi
    have hsz := E.siz y hmem
    have HN := hide (fun V => l2Name_any y.t hi V hsz)
    have hres : nameB y.t hi = r := by
      rw [hnm, ← hr, hcl]
      by_cases h90 : bt y.t 0 ≤ 90 <;> cases hi <;> simp [h90]
    rw [hres] at HN
    rw [hty, h3] at HK
    have hl2 : (i : Int) < (tn : Int) := by omega
    obtain ⟨yk, yn, yt, yp⟩ := y
    clear h hT hy hty hcl hnm hsz hres hr h3 hmem E a0 a1 a3 p2 p3 f0 f1 f2 f3 hlt
    go_enter Tryz.func90, Tryz.ntmps90
    go_wp2_with fail
    go_quiet (first | (go_at_call 143; exact Calls.quiet_of (unhide HK _)) | (go_at_call 56; exact Calls.quiet_of_same (unhide HN _)))
    go_wp2_with fail
    go_ret
    exact ⟨rfl, Below.drewN (Below.refl _ _) _⟩
  · have hf : r = false := by
      rw [← hr]
      refine decide_eq_false fun e => ?_
      have : (seenT ts).cl i = 4 ∨ (seenT ts).cl i = 3 := by cases hi <;> simp at e <;> omega
      rcases kind_cases' E.ok i with ⟨h', h'', _⟩ | ⟨h', h'', _⟩ | ⟨h', h'', _⟩ | ⟨h', h'', _⟩ | ⟨h', h'', _⟩ <;> omega
    subst hf
    obtain ⟨K, hK⟩ : ∃ K, (tokA ts 0 i).k = K := ⟨_, rfl⟩
    rw [hK] at HK h3
    have hq : (K == 3) = false := by simpa using h3
    clear h hT hr hK h3 E p0 p1 p2 p3 f0 f1 f2 f3 hpl
    go_enter Tryz.func90, Tryz.ntmps90
    go_wp2_with fail
    go_quiet (first | (go_at_call 143; exact Calls.quiet_of (unhide HK _)))
    go_wp2_with fail
    go_ret
    exact ⟨rfl, Below.drewN (Below.refl _ _) _⟩

end
end Go.Proofs.YtmgjicgojlkpcaaGreatDoor
