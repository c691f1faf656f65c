import Derived.Test.YtngbmcljhcckmaaMMath
import Derived.Test.YtngbmcljhcckmaaMBase
import Derived.Test.YtngbmcljhcckmaaMBase
namespace Go.Proofs.Ytngbmcljhcckmaa
open Go.RowKit

/-- At cell off of block b lies the part p, its lists read by R. -/
def PAt (R : World → Option Addr → Nat → List Int → Prop) (w : World) (b off : Nat) (p : PartD) : Prop :=
  ∃ s1 n1 c1 s2 n2 c2, w.cell? ⟨b, off, none⟩ = some (.bool p.all) ∧ w.cell? ⟨b, off + 1, none⟩ = some (.bool p.c) ∧ w.cell? ⟨b, off + 2, none⟩ = some (.slice s1 n1 c1) ∧ w.cell? ⟨b, off + 3, none⟩ = some (.slice s2 n2 c2) ∧ R w s1 n1 p.sh ∧ R w s2 n2 p.dt

/-- The slice (a, n, _) reads as the parts ps. -/
structure PRow (w : World) (a : Option Addr) (n : Nat) (ps : List PartD) : Prop where
  len : ps.length = n
  small : n ≤ 1048576
  at_ : n = 0 ∨ ∃ b off, a = some ⟨b, off, none⟩ ∧ b < w.heap.size ∧ ∀ i, i < n → PAt Row w b (off + i * 4) (part ps i)

structure PRaw (w : World) (a : Option Addr) (n : Nat) (ps : List PartD) : Prop where
  len : ps.length = n
  max : n ≤ 9223372036854775807
  at_ : n = 0 ∨ ∃ b off, a = some ⟨b, off, none⟩ ∧ b < w.heap.size ∧ ∀ i, i < n → PAt Raw w b (off + i * 4) (part ps i)

theorem Raw.below {w w' : World} {a : Option Addr} {n : Nat} {zs : List Int} {B : Nat} (h : Raw w a n zs) (hB : w.heap.size ≤ B) (hb : Below B w w') : Raw w' a n zs := by
  refine ⟨h.len, h.max, ?_⟩
  rcases h.at_ with h0 | ⟨b, off, rfl, hlt, hc⟩
  · exact .inl h0
  · exact .inr ⟨b, off, rfl, Nat.lt_of_lt_of_le hlt hb.size, fun i hi => (hb.cell (p := ⟨b, off + i, none⟩) (Nat.lt_of_lt_of_le hlt hB)).trans (hc i hi)⟩

theorem PAt.below {R : World → Option Addr → Nat → List Int → Prop} {w w' : World} {b off B : Nat} {p : PartD} (h : PAt R w b off p) (hR : ∀ a n zs, R w a n zs → R w' a n zs) (hlt : b < B) (hb : Below B w w') : PAt R w' b off p := by
  obtain ⟨s1, n1, c1, s2, n2, c2, e1, e2, e3, e4, e5, e6⟩ := h
  exact ⟨s1, n1, c1, s2, n2, c2, (hb.cell (p := ⟨b, off, none⟩) hlt).trans e1, (hb.cell (p := ⟨b, off + 1, none⟩) hlt).trans e2, (hb.cell (p := ⟨b, off + 2, none⟩) hlt).trans e3, (hb.cell (p := ⟨b, off + 3, none⟩) hlt).trans e4, hR _ _ _ e5, hR _ _ _ e6⟩

theorem PRow.below {w w' : World} {a : Option Addr} {n : Nat} {ps : List PartD} {B : Nat} (h : PRow w a n ps) (hB : w.heap.size ≤ B) (hb : Below B w w') : PRow w' a n ps := by
  refine ⟨h.len, h.small, ?_⟩
  rcases h.at_ with h0 | ⟨b, off, rfl, hlt, hc⟩
  · exact .inl h0
  · exact .inr ⟨b, off, rfl, Nat.lt_of_lt_of_le hlt hb.size, fun i hi => (hc i hi).below (fun _ _ _ hr => hr.below hB hb) (Nat.lt_of_lt_of_le hlt hB) hb⟩

theorem PRaw.below {w w' : World} {a : Option Addr} {n : Nat} {ps : List PartD} {B : Nat} (h : PRaw w a n ps) (hB : w.heap.size ≤ B) (hb : Below B w w') : PRaw w' a n ps := by
  refine ⟨h.len, h.max, ?_⟩
  rcases h.at_ with h0 | ⟨b, off, rfl, hlt, hc⟩
  · exact .inl h0
  · exact .inr ⟨b, off, rfl, Nat.lt_of_lt_of_le hlt hb.size, fun i hi => (hc i hi).below (fun _ _ _ hr => hr.below hB hb) (Nat.lt_of_lt_of_le hlt hB) hb⟩

theorem PRow.alloc {w : World} {a : Option Addr} {n : Nat} {ps : List PartD} (h : PRow w a n ps) (o : Obj) : PRow (w.alloc o) a n ps := h.below (Nat.le_refl _) ((Below.refl _ _).alloc (Nat.le_refl _) _)
theorem PRow.drew {w : World} {a : Option Addr} {n : Nat} {ps : List PartD} (h : PRow w a n ps) : PRow w.drew a n ps := h.below (Nat.le_refl _) (Below.refl _ _).drew

theorem PRow.get {w : World} {a : Option Addr} {n : Nat} {ps : List PartD} (h : PRow w a n ps) {k : Nat} (hk : k < n) : ∃ b off, a = some ⟨b, off, none⟩ ∧ b < w.heap.size ∧ PAt Row w b (off + k * 4) (part ps k) := by
  rcases h.at_ with h0 | ⟨b, off, rfl, hlt, hc⟩
  · omega
  · exact ⟨b, off, rfl, hlt, hc k hk⟩

theorem PRaw.get {w : World} {a : Option Addr} {n : Nat} {ps : List PartD} (h : PRaw w a n ps) {k : Nat} (hk : k < n) : ∃ b off, a = some ⟨b, off, none⟩ ∧ b < w.heap.size ∧ PAt Raw w b (off + k * 4) (part ps k) := by
  rcases h.at_ with h0 | ⟨b, off, rfl, hlt, hc⟩
  · omega
  · exact ⟨b, off, rfl, hlt, hc k hk⟩

/-- .. and no shape that is read is nil. -/
structure PRowN (w : World) (a : Option Addr) (n : Nat) (ps : List PartD) : Prop where
  row : PRow w a n ps
  nn : ∀ b off, a = some ⟨b, off, none⟩ → b < w.heap.size → ∀ i, i < n → (part ps i).all = false → ∃ ad m c, w.cell? ⟨b, off + i * 4 + 2, none⟩ = some (.slice (some ad) m c)

theorem PRowN.below {w w' : World} {a : Option Addr} {n : Nat} {ps : List PartD} {B : Nat} (h : PRowN w a n ps) (hB : w.heap.size ≤ B) (hb : Below B w w') : PRowN w' a n ps := by
  refine ⟨h.row.below hB hb, fun b off e hlt i hi hall => ?_⟩
  obtain ⟨b', off', e', hlt', _⟩ := h.row.get hi
  rw [e] at e'
  cases e'
  obtain ⟨ad, m, c, hc⟩ := h.nn b off e hlt' i hi hall
  exact ⟨ad, m, c, (hb.cell (p := ⟨b, off + i * 4 + 2, none⟩) (Nat.lt_of_lt_of_le hlt' hB)).trans hc⟩

theorem PRowN.alloc {w : World} {a : Option Addr} {n : Nat} {ps : List PartD} (h : PRowN w a n ps) (o : Obj) : PRowN (w.alloc o) a n ps := h.below (Nat.le_refl _) ((Below.refl _ _).alloc (Nat.le_refl _) _)

/-- How long the lists of the first k parts may be. -/
def SmallN (ps : List PartD) (k : Nat) : Prop := ∀ i, i < k → (part ps i).sh.length ≤ 1048576 ∧ (part ps i).dt.length ≤ 1048576

theorem SmallN.step {ps : List PartD} {k : Nat} (h : SmallN ps k) (h1 : (part ps k).sh.length ≤ 1048576) (h2 : (part ps k).dt.length ≤ 1048576) : SmallN ps (k + 1) := fun i hi => by
  by_cases e : i = k
  · subst e; exact ⟨h1, h2⟩
  · exact h i (by omega)

theorem PRaw.row {w : World} {a : Option Addr} {n : Nat} {ps : List PartD} (h : PRaw w a n ps) (hn : n ≤ 1048576) (hs : SmallN ps n) : PRow w a n ps := by
  refine ⟨h.len, hn, ?_⟩
  rcases h.at_ with h0 | ⟨b, off, rfl, hlt, hc⟩
  · exact .inl h0
  · refine .inr ⟨b, off, rfl, hlt, fun i hi => ?_⟩
    obtain ⟨s1, n1, c1, s2, n2, c2, e1, e2, e3, e4, e5, e6⟩ := hc i hi
    have := hs i hi
    exact ⟨s1, n1, c1, s2, n2, c2, e1, e2, e3, e4, e5.row (by have := e5.len; omega), e6.row (by have := e6.len; omega)⟩

set_option maxHeartbeats 2000000 in
theorem szPart_any (b c : Bool) (a1 a2 : Option Addr) (n1 n2 c1 c2 : Nat) (left : Int) (w : World) (h1 : n1 ≤ 9223372036854775807) (h2 : n2 ≤ 9223372036854775807) (hl : 0 ≤ left) (hl2 : left ≤ 1048576) :
    Calls Try.prog 77 #[.agg #[.bool b, .bool c, .slice a1 n1 c1, .slice a2 n2 c2], .int .i64 left] w fun e w' => ∃ r : Int, e = .returned (.int .i64 r) ∧ (r = -1 ∨ (0 ≤ r ∧ r ≤ left ∧ n1 ≤ 1048576 ∧ n2 ≤ 1048576)) ∧ Below w.heap.size w w' := by
  by_cases hA : left < n1 + n2
  · go_enter Try.func77, Try.ntmps77
    go_wp2_with fail
    refine (szArray_big _ _ _ _ _ _ _ _ _ h1 h2 hl hl2 hA).mono ?_
    rintro e w' ⟨rfl, hb⟩
    have hbl := ((Below.refl w.heap.size w).alloc (Nat.le_refl _) (.cells #[.bool b, .bool c, .slice a1 n1 c1, .slice a2 n2 c2] 92)).trans (hb.mono (by simp))
    clear hb
    go_wp2
    go_ret
    exact ⟨_, rfl, .inl rfl, hbl⟩
  · have hq : ¬ (left - n1 - n2 < 0) := by omega
    go_enter Try.func77, Try.ntmps77
    go_wp2_with fail
    refine (szArray_ok _ _ _ _ _ _ _ _ _ hl2 (by omega)).mono ?_
    rintro e w' ⟨rfl, hb⟩
    have hbl := ((Below.refl w.heap.size w).alloc (Nat.le_refl _) (.cells #[.bool b, .bool c, .slice a1 n1 c1, .slice a2 n2 c2] 92)).trans (hb.mono (by simp))
    clear hb
    go_wp2
    go_ret
    exact ⟨_, rfl, .inr ⟨by omega, by omega, by omega, by omega⟩, hbl⟩

set_option maxHeartbeats 2000000 in
theorem szPartS_any (a : Option Addr) (n cap : Nat) (ps : List PartD) (left : Int) (w : World) (h : PRaw w a n ps) (hl : 0 ≤ left) (hl2 : left ≤ 1048576) :
    Calls Try.prog 25 #[.slice a n cap, .int .i64 left] w fun e w' => ∃ r : Int, e = .returned (.int .i64 r) ∧ (r = -1 ∨ (0 ≤ r ∧ r ≤ left ∧ n ≤ 1048576 ∧ SmallN ps n)) ∧ Below w.heap.size w w' := by
  have hmx := h.max
  by_cases hA : left < n
  · go_enter Try.func25, Try.ntmps25
    go_wp2
    go_ret
    exact ⟨_, rfl, .inl rfl, Below.refl _ _⟩
  have H := hide h
  clear h
  have hn2 : (n : Int) ≤ left := by omega
  clear hA
  go_enter Try.func25, Try.ntmps25
  go_wp2_with fail
  go_loopw [1, 5] (fun l i wr => ∃ (k : Nat) (r : Int), k ≤ n ∧ i = .int .i64 k ∧ l = .int .i64 r ∧ Hid (0 ≤ r ∧ r ≤ left ∧ SmallN ps k ∧ Below w.heap.size w wr)) (fun _ i _ => n - (intOf i).toNat)
  case atStart => exact ⟨0, left - n, Nat.zero_le _, rfl, rfl, by omega, by omega, fun i hi => absurd hi (Nat.not_lt_zero _), Below.refl _ _⟩
  case round =>
    obtain ⟨k, r, hk, rfl, rfl, HX⟩ := hrel
    by_cases hlt : k < n
    · obtain ⟨hr0, hr1, hsm, hbl⟩ := unhide HX
      obtain ⟨b, off, rfl, hbs, s1, n1, c1, s2, n2, c2, e1, e2, e3, e4, e5, e6⟩ := ((unhide H).below (Nat.le_refl _) hbl).get hlt
      have HSM := hide hsm
      have HBL := hide hbl
      have HE5 := hide e5
      have HE6 := hide e6
      have HN : Hid (n1 ≤ 9223372036854775807 ∧ n2 ≤ 9223372036854775807) := ⟨e5.max, e6.max⟩
      clear HX hsm hbl e5 e6
      obtain ⟨pa, hpa⟩ : ∃ x, x = (part ps k).all := ⟨_, rfl⟩
      obtain ⟨pc, hpc⟩ : ∃ x, x = (part ps k).c := ⟨_, rfl⟩
      rw [← hpa] at e1
      rw [← hpc] at e2
      clear hpa hpc
      go_wp2_with fail
      refine (szPart_any _ _ _ _ _ _ _ _ _ _ (unhide HN).1 (unhide HN).2 hr0 (by omega)).mono ?_
      rintro e w1 ⟨r1, rfl, hr, hb1⟩
      have HBL1 := hide ((unhide HBL).trans (hb1.mono (unhide HBL).size))
      clear hb1 HBL e1 e2 e3 e4
      rcases hr with rfl | ⟨q0, q1, q2, q3⟩
      · go_wp2
        go_ret
        exact ⟨_, rfl, .inl rfl, unhide HBL1⟩
      · have hq : ¬ (r1 < 0) := by omega
        have HS1 : Hid (SmallN ps (k + 1)) := (unhide HSM).step (by rw [(unhide HE5).len]; exact q2) (by rw [(unhide HE6).len]; exact q3)
        clear HE5 HE6 HSM
        go_wp2
        go_roundw
        case rel => exact ⟨k + 1, r1, by omega, by go_num, rfl, q0, by omega, unhide HS1, unhide HBL1⟩
        case measure => simp [intOf]; omega
    · have hkn : k = n := by omega
      subst hkn
      obtain ⟨hr0, hr1, hsm, hbl⟩ := unhide HX
      have HSM := hide hsm
      have HBL := hide hbl
      clear HX hsm hbl
      go_wp2
      go_ret
      exact ⟨_, rfl, .inr ⟨hr0, hr1, by omega, unhide HSM⟩, unhide HBL⟩

end Go.Proofs.Ytngbmcljhcckmaa
