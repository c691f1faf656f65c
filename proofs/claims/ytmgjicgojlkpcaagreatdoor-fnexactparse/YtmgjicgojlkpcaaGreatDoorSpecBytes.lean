import Derived.Test.YtmgjicgojlkpcaaGreatDoorGrowB
namespace Go.Proofs.YtmgjicgojlkpcaaGreatDoor
open Go.RowKit

/-- What l1Bytes gives: a slice of the call's own that reads as zs. -/
def GivesB (w : World) (zs : List Int) (e : Ending) (w' : World) : Prop := ∃ g, e = .returned (.slice (some ⟨g, 0, none⟩) zs.length zs.length) ∧ RowB w' (some ⟨g, 0, none⟩) zs.length zs ∧ Below w.heap.size w w'

theorem givesB_new (w : World) (zs : List Int) : GivesB w zs (.returned (.slice (some ⟨w.heap.size, 0, none⟩) zs.length zs.length)) (w.alloc (.cells (zs.map (Value.int .u8)).toArray 5)) :=
  ⟨w.heap.size, rfl, RowB.new w zs, (Below.refl _ _).alloc (Nat.le_refl _) _⟩

theorem byteN {a : Int} {b : Nat} (h : a = (b : Int)) (hb : b < 256) : IntKind.u8.wrap a = (b : Int) := by
  subst h
  unfold IntKind.wrap
  simp [IntKind.bits, IntKind.signed]
  omega

set_option maxHeartbeats 2000000 in
theorem l1Bytes_any (x : Nat) (hx : x ≤ 2097151) (w : World) : Calls Tryz.prog 179 #[.int .i64 (x : Nat)] w (GivesB w (encZ x)) := by
  by_cases h1 : x < 128
  · have e : encZ (x : Int) = [(x : Int)] := by unfold encZ; rw [if_pos (by omega)]
    rw [e]
    have k1 : (x : Int) < 128 := by omega
    have w1 : IntKind.u8.wrap (x : Int) = (x : Int) := byteN rfl (by omega)
    clear e
    go_enter Tryz.func179, Tryz.ntmps179
    go_wp2_with fail
    go_ret
    exact givesB_new w [(x : Int)]
  · have k1 : ¬ (x : Int) < 128 := by omega
    by_cases h2 : x < 2048
    · have k2 : (x : Int) < 2048 := by omega
      obtain ⟨a, ha⟩ : ∃ a, x / 64 = a := ⟨_, rfl⟩
      obtain ⟨b, hb⟩ : ∃ b, x % 64 = b := ⟨_, rfl⟩
      have e : encZ (x : Int) = [((192 + a : Nat) : Int), ((128 + b : Nat) : Int)] := by
        unfold encZ
        rw [if_neg k1, if_pos k2, show 192 + (x : Int) / 64 = ((192 + a : Nat) : Int) by omega, show 128 + (x : Int) % 64 = ((128 + b : Nat) : Int) by omega]
      rw [e]
      clear e
      obtain ⟨A, hA⟩ : ∃ A, 192 + a = A := ⟨_, rfl⟩
      obtain ⟨B, hB⟩ : ∃ B, 128 + b = B := ⟨_, rfl⟩
      rw [hA, hB]
      have q1 : (x : Int).tdiv 64 = (a : Int) := by rw [Int.tdiv_eq_ediv_of_nonneg (by omega)]; omega
      have q1' : (x : Int) / 64 = (a : Int) := by omega
      have q2 : (x : Int).tmod 64 = (b : Int) := by rw [Int.tmod_eq_emod_of_nonneg (by omega)]; omega
      have q2' : (x : Int) % 64 = (b : Int) := by omega
      have s1 : 192 + (a : Int) = (A : Int) := by omega
      have s2 : 128 + (b : Int) = (B : Int) := by omega
      have w1 : IntKind.u8.wrap (A : Int) = (A : Int) := byteN rfl (by omega)
      have w2 : IntKind.u8.wrap (B : Int) = (B : Int) := byteN rfl (by omega)
      clear ha hb hA hB
      go_enter Tryz.func179, Tryz.ntmps179
      go_wp2_with fail
      go_ret
      exact givesB_new w [(A : Int), (B : Int)]
    · have k2 : ¬ (x : Int) < 2048 := by omega
      by_cases h3 : x < 65536
      · have k3 : (x : Int) < 65536 := by omega
        obtain ⟨a, ha⟩ : ∃ a, x / 4096 = a := ⟨_, rfl⟩
        obtain ⟨m, hm⟩ : ∃ m, x / 64 = m := ⟨_, rfl⟩
        obtain ⟨b, hb⟩ : ∃ b, m % 64 = b := ⟨_, rfl⟩
        obtain ⟨c, hc⟩ : ∃ c, x % 64 = c := ⟨_, rfl⟩
        have e : encZ (x : Int) = [((224 + a : Nat) : Int), ((128 + b : Nat) : Int), ((128 + c : Nat) : Int)] := by
          unfold encZ
          rw [if_neg k1, if_neg k2, if_pos k3, show 224 + (x : Int) / 4096 = ((224 + a : Nat) : Int) by omega, show 128 + (x : Int) / 64 % 64 = ((128 + b : Nat) : Int) by omega, show 128 + (x : Int) % 64 = ((128 + c : Nat) : Int) by omega]
        rw [e]
        clear e
        obtain ⟨A, hA⟩ : ∃ A, 224 + a = A := ⟨_, rfl⟩
        obtain ⟨B, hB⟩ : ∃ B, 128 + b = B := ⟨_, rfl⟩
        obtain ⟨C, hC⟩ : ∃ C, 128 + c = C := ⟨_, rfl⟩
        rw [hA, hB, hC]
        have q1 : (x : Int).tdiv 4096 = (a : Int) := by rw [Int.tdiv_eq_ediv_of_nonneg (by omega)]; omega
        have q1' : (x : Int) / 4096 = (a : Int) := by omega
        have q3 : (x : Int).tdiv 64 = (m : Int) := by rw [Int.tdiv_eq_ediv_of_nonneg (by omega)]; omega
        have q3' : (x : Int) / 64 = (m : Int) := by omega
        have q4 : (m : Int).tmod 64 = (b : Int) := by rw [Int.tmod_eq_emod_of_nonneg (by omega)]; omega
        have q4' : (m : Int) % 64 = (b : Int) := by omega
        have q2 : (x : Int).tmod 64 = (c : Int) := by rw [Int.tmod_eq_emod_of_nonneg (by omega)]; omega
        have q2' : (x : Int) % 64 = (c : Int) := by omega
        have s1 : 224 + (a : Int) = (A : Int) := by omega
        have s2 : 128 + (b : Int) = (B : Int) := by omega
        have s3 : 128 + (c : Int) = (C : Int) := by omega
        have w1 : IntKind.u8.wrap (A : Int) = (A : Int) := byteN rfl (by omega)
        have w2 : IntKind.u8.wrap (B : Int) = (B : Int) := byteN rfl (by omega)
        have w3 : IntKind.u8.wrap (C : Int) = (C : Int) := byteN rfl (by omega)
        clear ha hb hc hm hA hB hC
        go_enter Tryz.func179, Tryz.ntmps179
        go_wp2_with fail
        go_ret
        exact givesB_new w [(A : Int), (B : Int), (C : Int)]
      · have k3 : ¬ (x : Int) < 65536 := by omega
        obtain ⟨a, ha⟩ : ∃ a, x / 262144 = a := ⟨_, rfl⟩
        obtain ⟨l, hl⟩ : ∃ l, x / 4096 = l := ⟨_, rfl⟩
        obtain ⟨b, hb⟩ : ∃ b, l % 64 = b := ⟨_, rfl⟩
        obtain ⟨m, hm⟩ : ∃ m, x / 64 = m := ⟨_, rfl⟩
        obtain ⟨c, hc⟩ : ∃ c, m % 64 = c := ⟨_, rfl⟩
        obtain ⟨d, hd⟩ : ∃ d, x % 64 = d := ⟨_, rfl⟩
        have e : encZ (x : Int) = [((240 + a : Nat) : Int), ((128 + b : Nat) : Int), ((128 + c : Nat) : Int), ((128 + d : Nat) : Int)] := by
          unfold encZ
          rw [if_neg k1, if_neg k2, if_neg k3, show 240 + (x : Int) / 262144 = ((240 + a : Nat) : Int) by omega, show 128 + (x : Int) / 4096 % 64 = ((128 + b : Nat) : Int) by omega, show 128 + (x : Int) / 64 % 64 = ((128 + c : Nat) : Int) by omega, show 128 + (x : Int) % 64 = ((128 + d : Nat) : Int) by omega]
        rw [e]
        clear e
        obtain ⟨A, hA⟩ : ∃ A, 240 + a = A := ⟨_, rfl⟩
        obtain ⟨B, hB⟩ : ∃ B, 128 + b = B := ⟨_, rfl⟩
        obtain ⟨C, hC⟩ : ∃ C, 128 + c = C := ⟨_, rfl⟩
        obtain ⟨E, hE⟩ : ∃ E, 128 + d = E := ⟨_, rfl⟩
        rw [hA, hB, hC, hE]
        have q1 : (x : Int).tdiv 262144 = (a : Int) := by rw [Int.tdiv_eq_ediv_of_nonneg (by omega)]; omega
        have q1' : (x : Int) / 262144 = (a : Int) := by omega
        have q5 : (x : Int).tdiv 4096 = (l : Int) := by rw [Int.tdiv_eq_ediv_of_nonneg (by omega)]; omega
        have q5' : (x : Int) / 4096 = (l : Int) := by omega
        have q6 : (l : Int).tmod 64 = (b : Int) := by rw [Int.tmod_eq_emod_of_nonneg (by omega)]; omega
        have q6' : (l : Int) % 64 = (b : Int) := by omega
        have q3 : (x : Int).tdiv 64 = (m : Int) := by rw [Int.tdiv_eq_ediv_of_nonneg (by omega)]; omega
        have q3' : (x : Int) / 64 = (m : Int) := by omega
        have q4 : (m : Int).tmod 64 = (c : Int) := by rw [Int.tmod_eq_emod_of_nonneg (by omega)]; omega
        have q4' : (m : Int) % 64 = (c : Int) := by omega
        have q2 : (x : Int).tmod 64 = (d : Int) := by rw [Int.tmod_eq_emod_of_nonneg (by omega)]; omega
        have q2' : (x : Int) % 64 = (d : Int) := by omega
        have s1 : 240 + (a : Int) = (A : Int) := by omega
        have s2 : 128 + (b : Int) = (B : Int) := by omega
        have s3 : 128 + (c : Int) = (C : Int) := by omega
        have s4 : 128 + (d : Int) = (E : Int) := by omega
        have w1 : IntKind.u8.wrap (A : Int) = (A : Int) := byteN rfl (by omega)
        have w2 : IntKind.u8.wrap (B : Int) = (B : Int) := byteN rfl (by omega)
        have w3 : IntKind.u8.wrap (C : Int) = (C : Int) := byteN rfl (by omega)
        have w4 : IntKind.u8.wrap (E : Int) = (E : Int) := byteN rfl (by omega)
        clear ha hb hc hd hm hl hA hB hC hE
        go_enter Tryz.func179, Tryz.ntmps179
        go_wp2_with fail
        go_ret
        exact givesB_new w [(A : Int), (B : Int), (C : Int), (E : Int)]

end Go.Proofs.YtmgjicgojlkpcaaGreatDoor
