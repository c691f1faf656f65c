import Derived.Test.YtmikkameameebaaRotGath
import Derived.Test.YtmikkameameebaaImplPlaceIn
import Derived.Test.YtmikkameameebaaSpecBox
import Derived.BigQuiet
namespace Go.Proofs.Ytmikkameameebaa
open Go.RowKit Go.Shelf

set_option maxHeartbeats 1000000 in
theorem wrapped_any (b n : Int) (w : World) (hn : 0 < n ∧ n ≤ 10000) : Calls Try.prog 54 #[.int .i64 b, .int .i64 n] w fun e w' => e = .returned (.int .i64 (b % n)) ∧ w' = w := by
  have HE := hide (wrap_emod hn.1 b)
  have h1 := Int.tmod_lt_of_pos b hn.1
  have h2 : -n < b.tmod n := Int.lt_tmod_of_pos b hn.1
  obtain ⟨m, hm⟩ : ∃ m, b.tmod n = m := ⟨_, rfl⟩
  rw [hm] at HE h1 h2
  obtain ⟨r, hr⟩ : ∃ r, (m + n).tmod n = r := ⟨_, rfl⟩
  have h3 := Int.tmod_lt_of_pos (m + n) hn.1
  have h4 : -n < (m + n).tmod n := Int.lt_tmod_of_pos (m + n) hn.1
  rw [hr] at HE h3 h4
  have q0 : (n == 0) = false := by simp; omega
  have w1 : IntKind.i64.wrap m = m := by rw [IntKind.wrap_i64]; omega
  have w2 : IntKind.i64.wrap (m + n) = m + n := by rw [IntKind.wrap_i64]; omega
  have w3 : IntKind.i64.wrap r = r := by rw [IntKind.wrap_i64]; omega
  have hnz : ¬ n = 0 := by omega
  go_enter Try.func54, Try.ntmps54
  go_wp2
  go_ret
  exact ⟨ret_int HE.out, rfl⟩

theorem eg_rot : ∀ args w, (callFunc 53 args).run Try.prog w = .ok (.enter 53 args) w := enters_of Try.func53 (by kernel_rfl) rfl

set_option maxRecDepth 20000 in
set_option maxHeartbeats 2000000 in
theorem rotClo (pt pk pa : Nat) (a x : Int) (ck ca : Bool) (vk va : Value) (kd b1 : Option Addr) (dk m1 d1 : Nat) (sh kk : List Int) (w : World) (ht : w.cell? ⟨pt, 0, none⟩ = some (.int .i64 a)) (hpk : Box w pk ck vk (.slice kd 1 dk)) (hpa : Box w pa ca (.slice b1 m1 d1) va) (hk : Row w kd 1 kk) (hx : kk.getD 0 0 = x) (hxb : -1000000000000000 ≤ x ∧ x ≤ 1000000000000000) (hr : Row w b1 m1 sh) (hs : ShapeIn sh) :
    NumOk 53 #[.pointer (some ⟨pt, 0, none⟩), .pointer (some ⟨pk, 0, none⟩), .pointer (some ⟨pa, 0, none⟩)] (rotF sh a x) sh m1 w := by
  intro D hD hDl k hkm ib W hW hB
  have hl := hr.len
  have hc1 := (hW.cell (p := ⟨pt, 0, none⟩) (World.block_lt_of_cell? _ _ ht)).trans ht
  obtain ⟨k0, k1, k2, _, _, _⟩ := (hpk.below (Nat.le_refl _) hW).all
  obtain ⟨a0, a1, a2, _, _, _⟩ := (hpa.below (Nat.le_refl _) hW).all
  obtain ⟨bk, ok, rfl, _, ck0⟩ := (hk.below (Nat.le_refl _) hW).get (show 0 < 1 by omega)
  obtain ⟨bs, os, rfl, _, cs⟩ := (hr.below (Nat.le_refl _) hW).get hkm
  have cd := hB.cell (i := k) (by omega)
  rw [hx] at ck0
  simp only [Nat.add_zero] at ck0
  have hDk := hD k (by omega)
  have hsk := (hs.cell k).2
  obtain ⟨dk', hdk⟩ : ∃ y, D.getD k 0 = y := ⟨_, rfl⟩
  obtain ⟨s, hss⟩ : ∃ y, sh.getD k 0 = y := ⟨_, rfl⟩
  rw [hdk] at cd hDk
  rw [hss] at cs hDk hsk
  have HF : Hid (rotF sh a x D k = if (k : Int) = a then (dk' + x) % s else dk') := by show _ = _; unfold rotF; rw [hdk, hss]
  have hw1 : IntKind.i64.wrap (dk' + x) = dk' + x := by rw [IntKind.wrap_i64]; omega
  have hln : sh.length = m1 := hl
  rw [hln]
  clear hW hB hD hDl hpk hpa hk hr hs ht hx hdk hss hl hln k0 k1 a0 a2
  by_cases hka : (k : Int) = a
  · rw [if_pos hka] at HF
    subst hka
    go_enter Try.func53, Try.ntmps53
    go_wp2_with fail
    go_quiet ((go_at_call 54; exact Calls.quiet_of_same (wrapped_any _ _ _ (by omega))))
    go_wp2_with fail
    go_ret
    exact ⟨ret_int HF.out.symm, Below.drewN (Below.refl _ _) _⟩
  · rw [if_neg hka] at HF
    have q : ((k : Int) == a) = false := by simp [hka]
    clear hka
    go_enter Try.func53, Try.ntmps53
    go_wp2_with fail
    go_ret
    exact ⟨ret_int HF.out.symm, Below.refl _ _⟩

end Go.Proofs.Ytmikkameameebaa
