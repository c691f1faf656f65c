import Derived.RangeFuncRecord
import Derived.Test.YtgjpchnkodnieaaGreatDoorMFit0
import Derived.Test.YtgjpchnkodnieaaGreatDoorImplOnAxis
import Derived.Test.YtgjpchnkodnieaaGreatDoorMFit0
import Derived.BigQuiet
namespace Go.Proofs.YtgjpchnkodnieaaGreatDoor
open Go.RowKit Go.Shelf

set_option maxHeartbeats 1000000 in
theorem wrapped_any (b n : Int) (w : World) (hn : 0 < n ∧ n ≤ 10000) : Calls Tryz.prog 66 #[.int .i64 b, .int .i64 n] w fun e w' => e = .returned (.int .i64 (b % n)) ∧ w' = w := by
  have HE := hide (wrap_emod hn.1 b)
  have h1 := Int.tmod_lt_of_pos b hn.1
  have h2 : -n < b.tmod n := Int.lt_tmod_of_pos b hn.1
  obtain ⟨m, hm⟩ : ∃ m, b.tmod n = m := ⟨_, rfl⟩
  rw [hm] at HE h1 h2
  obtain ⟨r, hr⟩ : ∃ r, (m + n).tmod n = r := ⟨_, rfl⟩
  have h3 := Int.tmod_lt_of_pos (m + n) hn.1
  have h4 : -n < (m + n).tmod n := Int.lt_tmod_of_pos (m + n) hn.1
  rw [hr] at HE h3 h4
  have q0 : (n == 0) = false := by simp; omega
  have w1 : IntKind.i64.wrap m = m := by rw [IntKind.wrap_i64]; omega
  have w2 : IntKind.i64.wrap (m + n) = m + n := by rw [IntKind.wrap_i64]; omega
  have w3 : IntKind.i64.wrap r = r := by rw [IntKind.wrap_i64]; omega
  have hnz : ¬ n = 0 := by omega
  go_enter Tryz.func66, Tryz.ntmps66
  go_wp2
  go_ret
  exact ⟨ret_int HE.out, rfl⟩

theorem eg_rot : ∀ args w, (callFunc 65 args).run Tryz.prog w = .ok (.enter 65 args) w := enters_of Tryz.func65 (by kernel_rfl) rfl

theorem onAxis_int (a : Int) (v : Value) (w : World) (g : Nat) (lb : Array Value) (hv : v = .func (.func g) #[] lb) :
    Calls Tryz.prog 64 #[.int .i64 a, v] w fun e w' => e = .returned (.func (.func 152) #[] #[.pointer (some ⟨w.heap.size, 0, none⟩), .pointer (some ⟨w.heap.size + 1, 0, none⟩)]) ∧ w' = (w.alloc (.cells #[.int .i64 a] 3)).alloc (.cells #[v] 92) := by
  subst hv
  go_enter Tryz.func64, Tryz.ntmps64
  go_wp2
  go_ret
  exact ⟨rfl, rfl⟩

theorem axisAt_int (a : Option Addr) (n cap : Nat) (fl : Bool) (w : World) (hs : n ≤ 10000) (z : Int) (hz : Hid ((if fl then 0 else (n : Int) - 1) = z)) :
    Calls Tryz.prog 62 #[.slice a n cap, .bool fl] w fun e w' => e = .returned (.int .i64 z) ∧ w' = w := by
  cases fl with
  | true =>
    have e : z = 0 := by have := unhide hz; simp at this; omega
    subst e
    clear hz
    go_enter Tryz.func62, Tryz.ntmps62
    go_wp2
    go_ret
    exact ⟨rfl, rfl⟩
  | false =>
    have e : (n : Int) - 1 = z := by have := unhide hz; simpa using this
    have h1 : IntKind.i64.wrap ((n : Int) - 1) = z := by rw [IntKind.wrap_i64]; omega
    clear hz
    go_enter Tryz.func62, Tryz.ntmps62
    go_wp2
    go_ret
    exact ⟨by first | rfl | rw [e], rfl⟩

theorem two_cellsR (w : World) (u v : Value) : ((w.alloc (.cells #[u] 3)).alloc (.cells #[v] 92)).cell? ⟨w.heap.size, 0, none⟩ = some u ∧ ((w.alloc (.cells #[u] 3)).alloc (.cells #[v] 92)).cell? ⟨w.heap.size + 1, 0, none⟩ = some v := by
  have h1 : (w.alloc (.cells #[u] 3)).heap[w.heap.size]? = some (.cells #[u] 3 (0, 0)) := World.alloc_heap_new w _
  have h2 := World.alloc_heap_new (w.alloc (.cells #[u] 3)) (.cells #[v] 92)
  rw [World.size_alloc] at h2
  have h3 := Below.heap_alloc (w.alloc (.cells #[u] 3)) (.cells #[v] 92) w.heap.size (by simp)
  rw [h1] at h3
  exact ⟨by simp [World.cell?, h3], by simp only [World.cell?]; rw [h2]; rfl⟩

set_option maxRecDepth 20000 in
set_option maxHeartbeats 2000000 in
theorem rotMoved (pt pk pa a : Nat) (v x s : Int) (ck ca : Bool) (vk va : Value) (kd b1 : Option Addr) (dk m1 d1 : Nat) (sh kk : List Int) (W : World) (ht : W.cell? ⟨pt, 0, none⟩ = some (.int .i64 (a : Nat))) (hpk : Box W pk ck vk (.slice kd 1 dk)) (hpa : Box W pa ca (.slice b1 m1 d1) va) (hk : Row W kd 1 kk) (hx : kk.getD 0 0 = x) (hxb : -1000000000000000 ≤ x ∧ x ≤ 1000000000000000) (hr : Row W b1 m1 sh) (ham : a < m1) (hs : sh.getD a 0 = s) (hv : 0 ≤ v ∧ v < s) (hsb : s ≤ 10000) :
    Calls Tryz.prog 65 #[.int .i64 v, .pointer (some ⟨pk, 0, none⟩), .pointer (some ⟨pa, 0, none⟩), .pointer (some ⟨pt, 0, none⟩)] W fun e w' => e = .returned (.int .i64 ((v + x) % s)) ∧ ∃ q, w' = W.drewN q := by
  obtain ⟨k0, k1, k2, _, _, _⟩ := hpk.all
  obtain ⟨a0, a1, a2, _, _, _⟩ := hpa.all
  obtain ⟨bk, ok, rfl, _, ck0⟩ := hk.get (show 0 < 1 by omega)
  obtain ⟨bs, os, rfl, _, cs⟩ := hr.get ham
  rw [hx] at ck0
  rw [hs] at cs
  simp only [Nat.add_zero] at ck0
  have hw1 : IntKind.i64.wrap (v + x) = v + x := by rw [IntKind.wrap_i64]; omega
  have hamz : (a : Int) < (m1 : Int) := by omega
  clear hpk hpa hk hr hx hs k0 k1 a0 a2
  go_enter Tryz.func65, Tryz.ntmps65
  go_wp2_with fail
  go_quiet ((go_at_call 66; exact Calls.quiet_of_same (wrapped_any _ _ _ (by omega))))
  go_wp2_with fail
  go_ret
  exact ⟨rfl, _, rfl⟩

/-- What onAxis makes of Rotate's closure. -/
theorem rotClo (pa' pf pt pk pa : Nat) (z x : Int) (ck ca : Bool) (vk va : Value) (kd b1 : Option Addr) (dk m1 d1 : Nat) (sh kk : List Int) (w : World) (h1 : w.cell? ⟨pa', 0, none⟩ = some (.int .i64 z)) (h2 : w.cell? ⟨pf, 0, none⟩ = some (.func (.func 65) #[] #[.pointer (some ⟨pk, 0, none⟩), .pointer (some ⟨pa, 0, none⟩), .pointer (some ⟨pt, 0, none⟩)]))
    (ht : w.cell? ⟨pt, 0, none⟩ = some (.int .i64 z)) (hz : 0 < m1 → 0 ≤ z ∧ z < m1) (hpk : Box w pk ck vk (.slice kd 1 dk)) (hpa : Box w pa ca (.slice b1 m1 d1) va) (hk : Row w kd 1 kk) (hx : kk.getD 0 0 = x) (hxb : -1000000000000000 ≤ x ∧ x ≤ 1000000000000000) (hr : Row w b1 m1 sh) (hs : ShapeIn sh) :
    NumOk 152 #[.pointer (some ⟨pa', 0, none⟩), .pointer (some ⟨pf, 0, none⟩)] (rotF sh z x) sh m1 w := by
  have hl := hr.len
  by_cases hm : 0 < m1
  · obtain ⟨hz0, hz1⟩ := hz hm
    obtain ⟨a, rfl⟩ : ∃ a : Nat, z = a := ⟨z.toNat, by omega⟩
    have hc := axisClo sh m1 pa' pf a 65 #[.pointer (some ⟨pk, 0, none⟩), .pointer (some ⟨pa, 0, none⟩), .pointer (some ⟨pt, 0, none⟩)] eg_rot (fun v => (v + x) % sh.getD a 0) w (by omega) (by omega) h1 h2 (fun v hv0 hv1 W hW => rotMoved pt pk pa a v x _ ck ca vk va kd b1 dk m1 d1 sh kk W ((hW.cell (p := ⟨pt, 0, none⟩) (World.block_lt_of_cell? _ _ ht)).trans ht) (hpk.below (Nat.le_refl _) hW) (hpa.below (Nat.le_refl _) hW) (hk.below (Nat.le_refl _) hW) hx hxb (hr.below (Nat.le_refl _) hW) (by omega) rfl ⟨hv0, hv1⟩ (hs.cell a).2)
    intro D hD hDl k hkk ib W hW hB
    have := hc D hD hDl k hkk ib W hW hB
    have e : axisF a (fun v => (v + x) % sh.getD a 0) D k = rotF sh (a : Int) x D k := by
      unfold axisF rotF
      by_cases h : k = a
      · subst h; rw [if_pos rfl, if_pos rfl]
      · rw [if_neg h, if_neg (by omega)]
    rwa [e] at this
  · intro D _ _ k hkk
    omega

end Go.Proofs.YtgjpchnkodnieaaGreatDoor
