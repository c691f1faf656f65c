import Derived.Test.YtmgjicgojlkpcaaGreatDoorImplTokP
import Derived.Test.YtmgjicgojlkpcaaGreatDoorImplPrimS
import Derived.Test.YtmgjicgojlkpcaaGreatDoorShelfCut
import Derived.Shelf.Utf8.RuneCount
namespace Go.Proofs.YtmgjicgojlkpcaaGreatDoor
open Go.RowKit

theorem cut_any (s sep : ByteArray) (w : World) (hs : s.size < 4294967281) (hG : GlT w) :
    Calls Tryz.prog 216 #[.string s, .string sep] w fun e w' => e = .returned (.tuple #[.string ⟨(Lib.cut s.data.toList sep.data.toList).1.toArray⟩, .string ⟨(Lib.cut s.data.toList sep.data.toList).2.1.toArray⟩, .bool (Lib.cut s.data.toList sep.data.toList).2.2]) ∧ Below w.heap.size w w' := by
  obtain ⟨m, hm⟩ := hG.len
  refine (Any.strings_Cut Tryz.cutS s sep m w hs hm).mono ?_
  rintro e w' ⟨rfl, n, rfl⟩
  exact ⟨rfl, Below.drewN (Below.refl _ _) _⟩

theorem runes_any (s : ByteArray) (w : World) (hs : s.size < 9223372036854775807) :
    Calls Tryz.prog 202 #[.string s] w fun e w' => e = .returned (.int .i64 (Lib.runeCount s)) ∧ Below w.heap.size w w' := by
  refine (Any.utf8_RuneCountInString { Tryz.replaceS with } s w hs).mono ?_
  rintro e w' ⟨rfl, pos, rfl⟩
  exact ⟨rfl, (Below.refl _ _).alloc (Nat.le_refl _) _⟩

theorem cut_all : (signCs.all fun c => decide ((Lib.cut primBs.data.toList (bstr (encZ ((c : Nat) : Int))).data.toList).2.2 = decide (0 < primNo c)) && (decide (primNo c = 0) || decide (Lib.runeCount ⟨(Lib.cut primBs.data.toList (bstr (encZ ((c : Nat) : Int))).data.toList).1.toArray⟩ + 1 = primNo c))) = true := by kernel_rfl

theorem cut_at {c : Nat} (h : c ∈ signCs) : (Lib.cut primBs.data.toList (bstr (encZ ((c : Nat) : Int))).data.toList).2.2 = decide (0 < primNo c) ∧ (0 < primNo c → Lib.runeCount ⟨(Lib.cut primBs.data.toList (bstr (encZ ((c : Nat) : Int))).data.toList).1.toArray⟩ + 1 = primNo c) := by
  have := List.all_eq_true.mp cut_all c h
  rw [Bool.and_eq_true, decide_eq_true_eq, Bool.or_eq_true, decide_eq_true_eq, decide_eq_true_eq] at this
  exact ⟨this.1, fun hp => this.2.resolve_left (by omega)⟩

theorem cut_size (s sep : List UInt8) : (Lib.cut s sep).1.length ≤ s.length := by
  unfold Lib.cut
  split
  · simp
    omega
  · exact Nat.le_refl _

theorem primBs_size : primBs.size = 77 := by kernel_rfl

theorem primNo_small {n : Nat} (h : n < 5) : primNo n = 0 := by
  have : n = 0 ∨ n = 1 ∨ n = 2 ∨ n = 3 ∨ n = 4 := by omega
  rcases this with rfl | rfl | rfl | rfl | rfl <;> decide

set_option maxRecDepth 100000 in
set_option maxHeartbeats 2000000 in
theorem primOf_any (y : Tok) (hy : TokOk y ∨ y.k = 0) (w : World) (hG : GlT w) :
    Calls Tryz.prog 193 #[tokW y] w fun e w' => e = .returned (.int .i64 (primNo (clT y) : Nat)) ∧ Below w.heap.size w w' := by
  obtain ⟨k, n, t, pl⟩ := y
  have hC : ∀ (x : ByteArray) (W : World), x = primBs → Below w.heap.size w W → Calls Tryz.prog 216 #[.string x, .string t] W fun e w' => e = .returned (.tuple #[.string ⟨(Lib.cut primBs.data.toList t.data.toList).1.toArray⟩, .string ⟨(Lib.cut primBs.data.toList t.data.toList).2.1.toArray⟩, .bool (Lib.cut primBs.data.toList t.data.toList).2.2]) ∧ Below W.heap.size W w' := fun x W hx hW => by
    rw [hx]
    exact cut_any primBs t W (by rw [primBs_size]; omega) (hG.below hW)
  have hsz : (Lib.cut primBs.data.toList t.data.toList).1.length ≤ 77 := by
    have := cut_size primBs.data.toList t.data.toList
    rw [dl_size, primBs_size] at this
    exact this
  have hb4 : k = 4 → ∃ c ∈ signCs, t = bstr (encZ ((c : Nat) : Int)) := fun e => by
    rcases hy with (⟨h, _⟩ | h | ⟨h, _⟩ | ⟨_, hc⟩) | h
    · exact absurd (h.symm.trans e) (by decide)
    · exact absurd (h.symm.trans e) (by decide)
    · exact absurd (h.symm.trans e) (by decide)
    · exact hc
    · exact absurd (h.symm.trans e) (by decide)
  have HP : Hid (k ≠ 4 → primNo (clT ⟨k, n, t, pl⟩) = 0) := fun hk => by
    refine primNo_small ?_
    unfold clT
    dsimp only
    split
    · omega
    · split
      · omega
      · split
        · split <;> omega
        · first | omega | (rw [if_neg hk]; omega)
  have HP4 : Hid (k = 4 → (Lib.cut primBs.data.toList t.data.toList).2.2 = decide (0 < primNo (clT ⟨k, n, t, pl⟩)) ∧ (0 < primNo (clT ⟨k, n, t, pl⟩) → Lib.runeCount ⟨(Lib.cut primBs.data.toList t.data.toList).1.toArray⟩ + 1 = primNo (clT ⟨k, n, t, pl⟩))) := fun e => by
    obtain ⟨c, hc, rfl⟩ := hb4 e
    have e2 : clT ⟨k, n, bstr (encZ ((c : Nat) : Int)), pl⟩ = c := by
      unfold clT
      dsimp only
      rw [e, if_neg (by decide), if_neg (by decide), if_neg (by decide), if_pos rfl, signOf_at hc]
    rw [e2]
    exact cut_at hc
  obtain ⟨N, hN⟩ : ∃ N, primNo (clT ⟨k, n, t, pl⟩) = N := ⟨_, rfl⟩
  rw [hN] at HP HP4 ⊢
  obtain ⟨u1, hu1⟩ : ∃ u, (Lib.cut primBs.data.toList t.data.toList).1 = u := ⟨_, rfl⟩
  obtain ⟨u2, hu2⟩ : ∃ u, (Lib.cut primBs.data.toList t.data.toList).2.1 = u := ⟨_, rfl⟩
  obtain ⟨fd, hfd⟩ : ∃ u, (Lib.cut primBs.data.toList t.data.toList).2.2 = u := ⟨_, rfl⟩
  rw [hu1, hu2, hfd] at hC
  rw [hu1, hfd] at HP4
  rw [hu1] at hsz
  have HC := hide hC
  have HR := hide (fun W => runes_any ⟨u1.toArray⟩ W (by show u1.toArray.size < _; simp; omega))
  obtain ⟨rc, hrc⟩ : ∃ r, Lib.runeCount ⟨u1.toArray⟩ = r := ⟨_, rfl⟩
  have hrb : rc ≤ 77 := by
    have h1 := Lib.runeCount_le (⟨u1.toArray⟩ : ByteArray)
    rw [hrc] at h1
    have h2 : (⟨u1.toArray⟩ : ByteArray).size = u1.length := by show u1.toArray.size = _; simp
    omega
  have hwr : IntKind.i64.wrap ((rc : Int) + 1) = (rc : Int) + 1 := by rw [IntKind.wrap_i64]; omega
  rw [hrc] at HR HP4
  clear hC hb4 hy hG hN hu1 hu2 hfd hsz hrc
  unfold tokW
  by_cases h4 : k = 4
  case neg =>
    have hd : (k != 4) = true := by simpa using h4
    have hN0 := unhide HP h4
    subst hN0
    clear HP4 h4 HP
    go_enter Tryz.func193, Tryz.ntmps193
    go_wp2_with (go_at_call 216; refine (unhide HC _ _ (by kernel_rfl) ((Below.refl _ _).alloc (Nat.le_refl _) _)).mono ?_; rintro e w5 ⟨rfl, hb5⟩; have q0 := (hb5.cell (p := ⟨w.heap.size, 0, none⟩) (by simp)).trans (show _ = some (Value.int .i64 k) by simp); have HB5 := hide (((Below.refl _ _).alloc (Nat.le_refl _) _ : Below w.heap.size w _).trans (hb5.mono (by simp))); clear hb5)
    go_ret
    exact ⟨rfl, unhide HB5⟩
  case pos =>
    subst h4
    obtain ⟨g1, g2⟩ := unhide HP4 rfl
    clear HP HP4
    by_cases hp : 0 < N
    case neg =>
      have hN0 : N = 0 := by omega
      subst hN0
      have hf : fd = false := by rw [g1]; rfl
      subst hf
      clear g1 g2 hp
      go_enter Tryz.func193, Tryz.ntmps193
      go_wp2_with (go_at_call 216; refine (unhide HC _ _ (by kernel_rfl) ((Below.refl _ _).alloc (Nat.le_refl _) _)).mono ?_; rintro e w5 ⟨rfl, hb5⟩; have q0 := (hb5.cell (p := ⟨w.heap.size, 0, none⟩) (by simp)).trans (show _ = some (Value.int .i64 4) by simp); have HB5 := hide (((Below.refl _ _).alloc (Nat.le_refl _) _ : Below w.heap.size w _).trans (hb5.mono (by simp))); clear hb5)
      go_ret
      exact ⟨rfl, unhide HB5⟩
    case pos =>
      have hf : fd = true := by rw [g1]; exact decide_eq_true hp
      subst hf
      have hN1 := g2 hp
      subst hN1
      clear g1 g2 hp
      go_enter Tryz.func193, Tryz.ntmps193
      go_wp2_with (first | (go_at_call 216; refine (unhide HC _ _ (by kernel_rfl) ((Below.refl _ _).alloc (Nat.le_refl _) _)).mono ?_; rintro e w5 ⟨rfl, hb5⟩; have q0 := (hb5.cell (p := ⟨w.heap.size, 0, none⟩) (by simp)).trans (show _ = some (Value.int .i64 4) by simp); have HB5 := hide (((Below.refl _ _).alloc (Nat.le_refl _) _ : Below w.heap.size w _).trans (hb5.mono (by simp))); clear hb5) | (go_at_call 202; refine (unhide HR _).mono ?_; rintro e w6 ⟨rfl, hb6⟩; have HB6 := hide ((unhide HB5).trans (hb6.mono (unhide HB5).size)); clear hb6))
      go_ret
      refine ⟨?_, unhide HB6⟩
      first | rfl | (simp; done) | (simp [Act.eval]; done)

end Go.Proofs.YtmgjicgojlkpcaaGreatDoor
