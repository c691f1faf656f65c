import Derived.Test.YtngbmcljhcckmaaMDp
import Derived.Test.YtngbmcljhcckmaaMDraw
import Derived.Test.YtngbmcljhcckmaaMDraw
import Derived.Test.YtngbmcljhcckmaaMLw
import Derived.Test.YtngbmcljhcckmaaMIdx
import Derived.Deep.RegionHeld
namespace Go.Proofs.Ytngbmcljhcckmaa
open Go.RowKit

abbrev nilB : Value := .slice none 0 0

/-- What DrawReplace has drawn so far. -/
structure DR (w : World) (pr p7 : Nat) (c : Bool) (a1 a2 : Addr) (n1 n2 c1 c2 : Nat) (sh dt : List Int) (B g cap k : Nat) (xs : List Value) (ps : List PartD) (V : World) : Prop where
  b0 : Box V w.heap.size false nilB nilB
  b1 : Box V (w.heap.size + 1) false nilB nilB
  b7 : Box V p7 c (.slice (some a1) n1 c1) (.slice (some a2) n2 c2)
  r1 : Row V (some a1) n1 sh
  r2 : Row V (some a2) n2 dt
  gr : PGrow B V g cap k xs ps
  rd : RdOk V pr
  low : Below w.heap.size w V
  hp : w.heap.size + 2 ≤ pr
  hB : pr < B
  hq : pr < p7
  l1 : ∀ x, At (some a1) n1 x → pr < x
  l2 : ∀ x, At (some a2) n2 x → pr < x

section
variable {w V V' : World} {pr p7 : Nat} {c : Bool} {a1 a2 : Addr} {n1 n2 c1 c2 : Nat} {sh dt : List Int} {B g cap k : Nat} {xs : List Value} {ps : List PartD}
theorem DR.next (h : DR w pr p7 c a1 a2 n1 n2 c1 c2 sh dt B g cap k xs ps V) (hb : But (fun x => x = pr) V V') (hr : RdOk V' pr) : DR w pr p7 c a1 a2 n1 n2 c1 c2 sh dt B g cap k xs ps V' :=
  ⟨h.b0.but hb (by have := h.hp; show ¬ w.heap.size = pr; omega), h.b1.but hb (by have := h.hp; show ¬ w.heap.size + 1 = pr; omega), h.b7.but hb (by have := h.hq; show ¬ p7 = pr; omega), hb.row h.r1 (fun x hx hh => by have := h.l1 x hh; omega), hb.row h.r2 (fun x hx hh => by have := h.l2 x hh; omega), h.gr.but hb (fun x hx => by have := h.hB; omega), hr, h.low.trans (hb.below h.low.size (fun x hx => by have := h.hp; omega)), h.hp, h.hB, h.hq, h.l1, h.l2⟩
theorem DR.below (h : DR w pr p7 c a1 a2 n1 n2 c1 c2 sh dt B g cap k xs ps V) (hb : Below V.heap.size V V') : DR w pr p7 c a1 a2 n1 n2 c1 c2 sh dt B g cap k xs ps V' := h.next (But.of_below hb) (h.rd.below hb)
end

/-- The two boxes of the answer are written. -/
theorem drawn_end {w V : World} {pr p7 : Nat} {c : Bool} {a1 a2 : Addr} {n1 n2 c1 c2 : Nat} {sh dt : List Int} {B g cap k : Nat} {xs : List Value} {ps : List PartD} (h : DR w pr p7 c a1 a2 n1 n2 c1 c2 sh dt B g cap k xs ps V) {d : Bool} {b1 b2 : Addr} {m1 m2 d1 d2 : Nat} {sh' dt' : List Int}
    (q1 : Row V (some b1) m1 sh') (q2 : Row V (some b2) m2 dt') (hn1 : n1 ≤ 6) (hn2 : n2 ≤ 10001) (hk : k ≤ 7) (hm1 : m1 ≤ 6) (hm2 : m2 ≤ 10001) :
    DrawnR w (.returned (.tuple #[.agg #[.bool c, .slice (some a1) n1 c1, .slice (some a2) n2 c2], .slice (some ⟨g, 0, none⟩) k cap, .agg #[.bool d, .slice (some b1) m1 d1, .slice (some b2) m2 d2]]))
      ((((((V.setCell ⟨w.heap.size, 0, none⟩ (.bool c)).setCell ⟨w.heap.size, 1, none⟩ (.slice (some a1) n1 c1)).setCell ⟨w.heap.size, 2, none⟩ (.slice (some a2) n2 c2)).setCell ⟨w.heap.size + 1, 0, none⟩ (.bool d)).setCell ⟨w.heap.size + 1, 1, none⟩ (.slice (some b1) m1 d1)).setCell ⟨w.heap.size + 1, 2, none⟩ (.slice (some b2) m2 d2)) := by
  have hb : But (fun x => x = w.heap.size ∨ x = w.heap.size + 1) V ((((((V.setCell ⟨w.heap.size, 0, none⟩ (.bool c)).setCell ⟨w.heap.size, 1, none⟩ (.slice (some a1) n1 c1)).setCell ⟨w.heap.size, 2, none⟩ (.slice (some a2) n2 c2)).setCell ⟨w.heap.size + 1, 0, none⟩ (.bool d)).setCell ⟨w.heap.size + 1, 1, none⟩ (.slice (some b1) m1 d1)).setCell ⟨w.heap.size + 1, 2, none⟩ (.slice (some b2) m2 d2)) :=
    ((((((But.refl _ V).setCell (p := ⟨w.heap.size, 0, none⟩) (.inl rfl) _).setCell (p := ⟨w.heap.size, 1, none⟩) (.inl rfl) _).setCell (p := ⟨w.heap.size, 2, none⟩) (.inl rfl) _).setCell (p := ⟨w.heap.size + 1, 0, none⟩) (.inr rfl) _).setCell (p := ⟨w.heap.size + 1, 1, none⟩) (.inr rfl) _).setCell (p := ⟨w.heap.size + 1, 2, none⟩) (.inr rfl) _
  have hp := h.hp
  have hB := h.hB
  exact ⟨c, a1, a2, n1, n2, c1, c2, sh, dt, B, g, cap, k, xs, ps, d, b1, b2, m1, m2, d1, d2, sh', dt', rfl, hb.row h.r1 (fun x hx hh => by have := h.l1 x hh; omega), hb.row h.r2 (fun x hx hh => by have := h.l2 x hh; omega), h.gr.but hb (fun x hx => by omega), hb.row q1 (fun x hx hh => by have := q1.notBox h.b0 hh; have := q1.notBox h.b1 hh; omega), hb.row q2 (fun x hx hh => by have := q2.notBox h.b0 hh; have := q2.notBox h.b1 hh; omega), hn1, hn2, hk, hm1, hm2, h.low.trans (hb.below h.low.size (fun x hx => by omega))⟩

/-- The reader's block holds no list that begins at its first cell. -/
theorem rd_ne0 {V : World} {pr gb k1 : Nat} {rsh : List Int} (h : RdOk V pr) (hr : Row V (some ⟨gb, 0, none⟩) k1 rsh) : ∀ x, At (some ⟨gb, 0, none⟩) k1 x → x ≠ pr := by
  intro x hx e
  have hg := at_eq hx
  obtain ⟨b, o, he, _, hc⟩ := hr.get (k := 0) (by have := hx.1; omega)
  cases he
  obtain ⟨a, n, c, q, hh, _⟩ := h
  rw [← e, ← hg] at hh
  simp [World.cell?, hh] at hc

theorem index_short {c rc : Bool} {sh dt rsh rdt : List Int} {ps : List PartD} (h : indexA c sh dt ps = ⟨rc, rsh, rdt, 0⟩) : rsh.length ≤ 5 := by
  unfold indexA at h
  split at h
  · split at h
    · rename_i hc
      have := congrArg Ans.code h
      exact absurd this hc
    · rename_i hc
      obtain ⟨_, hs⟩ := parts_ok (by simpa using hc)
      have e : pSh sh ps = rsh := congrArg Ans.sh h
      rw [← e]
      exact (shapeB_in hs).2
  · have := congrArg Ans.code h
    exact absurd (show (3 : Int) = 0 from this) (by decide)

set_option maxRecDepth 20000 in
set_option maxHeartbeats 16000000 in
theorem DrawReplace_any (a : Option Addr) (n cn : Nat) (w : World) (h : Bytes w a n) (hc : n ≤ cn) (hn : n ≤ 1048576) :
    Calls Try.prog 31 #[.slice a n cn] w (DrawnR w) := by
  have HB0 : Hid (Below w.heap.size w ((w.alloc (.cells #[.bool false, nilB, nilB] 26)).alloc (.cells #[.bool false, nilB, nilB] 26))) := ((Below.refl _ _).alloc (Nat.le_refl _) _).alloc (by simp) _
  have HX0 : Hid (Box ((w.alloc (.cells #[.bool false, nilB, nilB] 26)).alloc (.cells #[.bool false, nilB, nilB] 26)) w.heap.size false nilB nilB) := (Box.new w _ _ _).alloc _
  have HX1 : Hid (Box ((w.alloc (.cells #[.bool false, nilB, nilB] 26)).alloc (.cells #[.bool false, nilB, nilB] 26)) (w.heap.size + 1) false nilB nilB) := by
    have := Box.new (w.alloc (.cells #[.bool false, nilB, nilB] 26)) false nilB nilB
    rw [World.size_alloc] at this
    exact this
  have HBY := hide (h.below (unhide HB0))
  clear h
  go_enter Try.func31, Try.ntmps31
  go_wp2_with fail
  refine (l1Open_any a n cn _ (unhide HBY) hc hn).mono ?_
  rintro e w1 ⟨pr, rfl, hr1, hpr, hb1⟩
  have hpr2 : w.heap.size + 2 ≤ pr := by simp at hpr; omega
  have HX0' := hide ((unhide HX0).below (Nat.le_refl _) hb1)
  have HX1' := hide ((unhide HX1).below (Nat.le_refl _) hb1)
  have HB1 := hide ((unhide HB0).trans (hb1.mono (by simp; omega)))
  have HR1 := hide hr1
  clear HX0 HX1 HB0 HBY hr1 hpr hb1
  go_wp2_with fail
  refine (next_any pr _ (unhide HR1)).mono ?_
  rintro e w2 ⟨⟨kk, hkk, rfl⟩, hr2, hb2⟩
  have HX0 := hide ((unhide HX0').but hb2 (by show ¬ w.heap.size = pr; omega))
  have HX1 := hide ((unhide HX1').but hb2 (by show ¬ w.heap.size + 1 = pr; omega))
  have HB2 := hide ((unhide HB1).trans (hb2.below (unhide HB1).size (fun x hx => by omega)))
  have HR2 := hide hr2
  have hprw : pr < w2.heap.size := hr2.lt
  clear HX0' HX1' HB1 HR1 hr2 hb2
  go_wp2_with fail
  refine (l3Array_any pr _ (unhide HR2)).mono ?_
  rintro e w3 ⟨⟨c, a1, a2, n1, n2, c1, c2, sh, dt, rfl, o1, o2, hn1, hn2⟩, hr3, hb3⟩
  obtain ⟨X3, hX3⟩ : ∃ X, X = w3.alloc (.cells #[.bool c, .slice (some a1) n1 c1, .slice (some a2) n2 c2] 26) := ⟨_, rfl⟩
  have hsz3 := hb3.size
  have HA3 : Hid (Below w3.heap.size w3 X3) := by rw [hX3]; exact (Below.refl _ _).alloc (Nat.le_refl _) _
  have HX0' := hide (((unhide HX0).but hb3 (by show ¬ w.heap.size = pr; omega)).below (Nat.le_refl _) (unhide HA3))
  have HX1' := hide (((unhide HX1).but hb3 (by show ¬ w.heap.size + 1 = pr; omega)).below (Nat.le_refl _) (unhide HA3))
  have hb3' := (unhide HB2).trans (hb3.below (unhide HB2).size (fun x hx => by omega))
  have HB3 := hide (hb3'.trans ((unhide HA3).mono hb3'.size))
  have HR3 := hide (hr3.below (unhide HA3))
  have HX7 : Hid (Box X3 w3.heap.size c (.slice (some a1) n1 c1) (.slice (some a2) n2 c2)) := by rw [hX3]; exact Box.new _ _ _ _
  have HL1 : Hid (∀ x, At (some a1) n1 x → pr < x) := fun x hx => by have := o1.low hx; omega
  have HL2 : Hid (∀ x, At (some a2) n2 x → pr < x) := fun x hx => by have := o2.low hx; omega
  have HO1 := hide (o1.row.below (Nat.le_refl _) (unhide HA3))
  have HO2 := hide (o2.row.below (Nat.le_refl _) (unhide HA3))
  have hp7 : pr < w3.heap.size := by omega
  clear HX0 HX1 HB2 HR2 o1 o2 hr3 hb3 hb3'
  obtain ⟨y0, y1, y2, y3, y4, y5, y6⟩ := (unhide HX7).all
  go_upto_region 4 with fail
  rw [← hX3]
  obtain ⟨p7, hp7'⟩ : ∃ p, p = w3.heap.size := ⟨_, rfl⟩
  rw [← hp7'] at y0 y1 y2 y3 y4 y5 y6 hp7 HX7
  rw [← hp7']
  have hX3z : pr < X3.heap.size := by omega
  clear hX3 HA3 hsz3 hp7'
  go_wp2_with fail
  refine (l5Parts_any pr _ a1 a2 n1 n2 c1 c2 sh _ (unhide HR3) (unhide HO1) hn1 (fun x hx => by have := unhide HL1 x hx; omega)).mono ?_
  rintro e w4 ⟨⟨g, k, cap, xs, ps, rfl, hk, hG⟩, hr4, hb4⟩
  have HDR : Hid (DR w pr p7 c a1 a2 n1 n2 c1 c2 sh dt X3.heap.size g cap k xs ps w4) :=
    ⟨(unhide HX0').but hb4 (by show ¬ w.heap.size = pr; omega), (unhide HX1').but hb4 (by show ¬ w.heap.size + 1 = pr; omega), (unhide HX7).but hb4 (by show ¬ p7 = pr; omega), hb4.row (unhide HO1) (fun x hx hh => by have := unhide HL1 x hh; omega), hb4.row (unhide HO2) (fun x hx hh => by have := unhide HL2 x hh; omega), hG, hr4, (unhide HB3).trans (hb4.below (unhide HB3).size (fun x hx => by omega)), hpr2, hX3z, hp7, unhide HL1, unhide HL2⟩
  clear HX0' HX1' HB3 HR3 HX7 HL1 HL2 HO1 HO2 hG hr4 hb4 y0 y1 y2 y3 y4 y5 y6
  obtain ⟨B, hB⟩ : ∃ B, B = X3.heap.size := ⟨_, rfl⟩
  rw [← hB] at HDR hX3z
  clear hB
  clear hprw
  clear X3 w3 w2 w1
  obtain ⟨y0, y1, y2, y3, y4, y5, y6⟩ := (unhide HDR).b7.all
  go_wp2_with fail
  refine (Index_at _ a1 a2 (some ⟨g, 0, none⟩) n1 n2 c1 c2 k cap sh dt ps _ (unhide HDR).r1 (unhide HDR).r2 ((unhide HDR).gr.rowN (by omega))).mono ?_
  rintro e w5 ⟨e1, k1, f1, e2, k2, f2, rfl, hE1, hE2, hb5, hsome⟩
  obtain ⟨R, hR⟩ : ∃ R, indexA c sh dt ps = R := ⟨_, rfl⟩
  have HIR := hide hR
  rw [hR] at hE1 hE2 hsome ⊢
  obtain ⟨rc, rsh, rdt, rcode⟩ := R
  simp only at hE1 hE2 hsome ⊢
  have HD5 := hide ((unhide HDR).below hb5)
  have HE1 := hide hE1
  have HSM := hide hsome
  clear HDR hE1 hE2 hsome hb5 hR y0 y1 y2 y3 y4 y5 y6
  clear w4
  go_upto_region 6 with fail
  obtain ⟨V, hV⟩ : ∃ V, V = w5.alloc (.cells #[.bool rc, .slice e1 k1 f1, .slice e2 k2 f2] 26) := ⟨_, rfl⟩
  have HA : Hid (Below w5.heap.size w5 V) := by rw [hV]; exact (Below.refl _ _).alloc (Nat.le_refl _) _
  have HD6 := hide ((unhide HD5).below (unhide HA))
  have HX9 : Hid (Box V w5.heap.size rc (.slice e1 k1 f1) (.slice e2 k2 f2)) := by rw [hV]; exact Box.new _ _ _ _
  have HE6 := hide ((unhide HE1).below (Nat.le_refl _) (unhide HA))
  have HW5 : w.heap.size ≤ w5.heap.size := (unhide HD5).low.size
  obtain ⟨p9, hp9⟩ : ∃ p, p = w5.heap.size := ⟨_, rfl⟩
  rw [← hV, ← hp9]
  rw [← hp9] at HX9
  have hp9r : pr < p9 := by rw [hp9]; exact (unhide HD5).rd.lt
  clear hV HD5 HE1 HA HW5 hp9
  clear w5
  obtain ⟨y0, y1, y2, y3, y4, y5, y6⟩ := (unhide HD6).b7.all
  obtain ⟨z0, z1, z2, z3, z4, z5, z6⟩ := (unhide HD6).b0.all
  obtain ⟨q0, q1, q2, q3, q4, q5, q6⟩ := (unhide HD6).b1.all
  have hne0 : w.heap.size ≠ p7 := by have := (unhide HD6).hq; omega
  have hne1 : w.heap.size + 1 ≠ p7 := by have := (unhide HD6).hq; omega
  obtain ⟨j4, hj4, r4, r4'⟩ := modN kk 4 (by omega)
  have s4 : (kk : Int).tmod 4 = (j4 : Int) := r4
  have s4' : (kk : Int) % 4 = (j4 : Int) := r4'
  clear r4 r4'
  have hq7 := (unhide HD6).hq
  have hpr0 := (unhide HD6).hp
  have HK : ∀ wx, But (fun x => x = pr ∨ x = w.heap.size ∨ x = w.heap.size + 1) V wx → wx.cell? ⟨p7, 0, none⟩ = some (.bool c) ∧ wx.cell? ⟨p7, 1, none⟩ = some (.slice (some a1) n1 c1) ∧ wx.cell? ⟨p7, 2, none⟩ = some (.slice (some a2) n2 c2) ∧ wx.cell? ⟨p9, 1, none⟩ = some (.slice e1 k1 f1) := fun wx hb => by
    obtain ⟨t0, t1, t2, _, _, _⟩ := ((unhide HD6).b7.but hb (by omega)).all
    obtain ⟨_, t4, _, _, _, _⟩ := ((unhide HX9).but hb (by omega)).all
    exact ⟨t0, t1, t2, t4⟩
  by_cases hc0 : rcode = 0
  case neg =>
    have hcb : (rcode != 0) = true := by simp [hc0]
    clear hc0
    go_wp2_with fail
    go_region_with (go_at_call 65; refine (l3Array_any pr _ (by exact (unhide HD6).rd.below (Below.refl _ _).drew)).mono ?_; rintro e wL ⟨⟨d, b1, b2, m1, m2, d1, d2, sh', dt', rfl, o1, o2, hm1, hm2⟩, hrL, hbL⟩; have hDL := ((unhide HD6).below (Below.refl _ _).drew).next hbL hrL; obtain ⟨y0, y1, y2, y3, y4, y5, y6⟩ := hDL.b7.all; obtain ⟨z0, z1, z2, z3, z4, z5, z6⟩ := hDL.b0.all; obtain ⟨q0, q1, q2, q3, q4, q5, q6⟩ := hDL.b1.all)
    all_goals go_wp2_with fail
    all_goals
      have hF0 := (((hDL.b0.sets (c' := c) (u1 := .slice (some a1) n1 c1) (u2 := .slice (some a2) n2 c2)).other (q := ⟨w.heap.size + 1, 0, none⟩) (by simp) (.bool d)).other (q := ⟨w.heap.size + 1, 1, none⟩) (by simp) (.slice (some b1) m1 d1)).other (q := ⟨w.heap.size + 1, 2, none⟩) (by simp) (.slice (some b2) m2 d2)
      have hF1 := (((hDL.b1.other (q := ⟨w.heap.size, 0, none⟩) (by simp) (.bool c)).other (q := ⟨w.heap.size, 1, none⟩) (by simp) (.slice (some a1) n1 c1)).other (q := ⟨w.heap.size, 2, none⟩) (by simp) (.slice (some a2) n2 c2)).sets (c' := d) (u1 := .slice (some b1) m1 d1) (u2 := .slice (some b2) m2 d2)
      obtain ⟨t0, t1, t2, _, _, _⟩ := hF0.all
      obtain ⟨v0, v1, v2, _, _, _⟩ := hF1.all
      refine bodyPost_ret (v := .tuple #[.agg #[.bool c, .slice (some a1) n1 c1, .slice (some a2) n2 c2], .slice (some ⟨g, 0, none⟩) k cap, .agg #[.bool d, .slice (some b1) m1 d1, .slice (some b2) m2 d2]]) (by simp [results, Try.results31, go_sem, t0, t1, t2, v0, v1, v2]) rfl ?_
      exact drawn_end hDL o1.row o2.row hn1 hn2 hk hm1 hm2
  subst hc0
  by_cases h43 : j4 = 3
  · subst h43
    go_wp2_with fail
    go_region_with (go_at_call 65; refine (l3Array_any pr _ (by exact (unhide HD6).rd.below (Below.refl _ _).drew)).mono ?_; rintro e wL ⟨⟨d, b1, b2, m1, m2, d1, d2, sh', dt', rfl, o1, o2, hm1, hm2⟩, hrL, hbL⟩; have hDL := ((unhide HD6).below (Below.refl _ _).drew).next hbL hrL; obtain ⟨y0, y1, y2, y3, y4, y5, y6⟩ := hDL.b7.all; obtain ⟨z0, z1, z2, z3, z4, z5, z6⟩ := hDL.b0.all; obtain ⟨q0, q1, q2, q3, q4, q5, q6⟩ := hDL.b1.all)
    all_goals go_wp2_with fail
    all_goals
      have hF0 := (((hDL.b0.sets (c' := c) (u1 := .slice (some a1) n1 c1) (u2 := .slice (some a2) n2 c2)).other (q := ⟨w.heap.size + 1, 0, none⟩) (by simp) (.bool d)).other (q := ⟨w.heap.size + 1, 1, none⟩) (by simp) (.slice (some b1) m1 d1)).other (q := ⟨w.heap.size + 1, 2, none⟩) (by simp) (.slice (some b2) m2 d2)
      have hF1 := (((hDL.b1.other (q := ⟨w.heap.size, 0, none⟩) (by simp) (.bool c)).other (q := ⟨w.heap.size, 1, none⟩) (by simp) (.slice (some a1) n1 c1)).other (q := ⟨w.heap.size, 2, none⟩) (by simp) (.slice (some a2) n2 c2)).sets (c' := d) (u1 := .slice (some b1) m1 d1) (u2 := .slice (some b2) m2 d2)
      obtain ⟨t0, t1, t2, _, _, _⟩ := hF0.all
      obtain ⟨v0, v1, v2, _, _, _⟩ := hF1.all
      refine bodyPost_ret (v := .tuple #[.agg #[.bool c, .slice (some a1) n1 c1, .slice (some a2) n2 c2], .slice (some ⟨g, 0, none⟩) k cap, .agg #[.bool d, .slice (some b1) m1 d1, .slice (some b2) m2 d2]]) (by simp [results, Try.results31, go_sem, t0, t1, t2, v0, v1, v2]) rfl ?_
      exact drawn_end hDL o1.row o2.row hn1 hn2 hk hm1 hm2
  have h43b : ((j4 : Int) == 3) = false := by simp; omega
  by_cases h42 : j4 = 2
  · subst h42
    have hvz := (unhide HD6).rd.lt
    have HLT : Hid (Row (V.drew.alloc (.cells #[.int .i64 1] 3)) (some ⟨V.heap.size, 0, none⟩) 1 [1]) := (show Blk _ V.heap.size [1] from World.alloc_heap_new V.drew (.cells #[.int .i64 1] 3)).row rfl (by omega)
    have HBA : Hid (Below V.heap.size V (V.drew.alloc (.cells #[.int .i64 1] 3))) := (Below.refl _ _).drew.alloc (by simp) _
    go_wp2_with fail
    go_region_with (go_at_call 87; refine (l3Of_gen pr (some ⟨V.heap.size, 0, none⟩) 1 1 _ [1] _ (by exact (unhide HD6).rd.below (unhide HBA)) (by exact unhide HLT) (fun x hx => by have := at_eq hx; omega)).mono ?_; rintro e wL ⟨⟨g2, m2, d2, dt', rfl, hm2, ho2⟩, hrL, hbL⟩; have hDL := ((unhide HD6).below (unhide HBA)).next hbL hrL; have hKL : But (fun x => x = pr ∨ x = w.heap.size ∨ x = w.heap.size + 1) V wL := ((But.of_below (S := fun x => x = pr) (unhide HBA)).trans hbL).mono (by rintro x (h | h) <;> exact .inl h); have hrw := hbL.row (unhide HLT) (fun x hx hh => by have := at_eq hh; omega); obtain ⟨_, _, ev, hO2⟩ := Own.of_owns ho2 (by omega); cases ev; obtain ⟨b2, hb2⟩ : ∃ b : Addr, b = ⟨g2, 0, none⟩ := ⟨_, rfl⟩; rw [← hb2] at hO2 ⊢; clear ho2 hb2; obtain ⟨y0, y1, y2, y3, y4, y5, y6⟩ := hDL.b7.all; obtain ⟨z0, z1, z2, z3, z4, z5, z6⟩ := hDL.b0.all; obtain ⟨q0, q1, q2, q3, q4, q5, q6⟩ := hDL.b1.all)
    all_goals go_wp2_with fail
    all_goals
      have hF0 := (((hDL.b0.sets (c' := c) (u1 := .slice (some a1) n1 c1) (u2 := .slice (some a2) n2 c2)).other (q := ⟨w.heap.size + 1, 0, none⟩) (by simp) (.bool c)).other (q := ⟨w.heap.size + 1, 1, none⟩) (by simp) (.slice (some ⟨V.heap.size, 0, none⟩) 1 1)).other (q := ⟨w.heap.size + 1, 2, none⟩) (by simp) (.slice (some b2) m2 d2)
      have hF1 := (((hDL.b1.other (q := ⟨w.heap.size, 0, none⟩) (by simp) (.bool c)).other (q := ⟨w.heap.size, 1, none⟩) (by simp) (.slice (some a1) n1 c1)).other (q := ⟨w.heap.size, 2, none⟩) (by simp) (.slice (some a2) n2 c2)).sets (c' := c) (u1 := .slice (some ⟨V.heap.size, 0, none⟩) 1 1) (u2 := .slice (some b2) m2 d2)
      obtain ⟨t0, t1, t2, _, _, _⟩ := hF0.all
      obtain ⟨v0, v1, v2, _, _, _⟩ := hF1.all
      refine bodyPost_ret (v := .tuple #[.agg #[.bool c, .slice (some a1) n1 c1, .slice (some a2) n2 c2], .slice (some ⟨g, 0, none⟩) k cap, .agg #[.bool c, .slice (some ⟨V.heap.size, 0, none⟩) 1 1, .slice (some b2) m2 d2]]) (by simp [results, Try.results31, go_sem, t0, t1, t2, v0, v1, v2]) rfl ?_
      exact drawn_end hDL hrw hO2.row hn1 hn2 hk (by omega) (by omega)
  have h42b : ((j4 : Int) == 2) = false := by simp; omega
  obtain ⟨gb, rfl⟩ := unhide HSM rfl
  have hk1 : k1 ≤ 6 := by have := index_short (unhide HIR); have := (unhide HE6).len; omega
  obtain ⟨o0, o1, o2, o3, o4, o5, o6⟩ := (unhide HX9).all

  go_wp2_with fail
  go_region_with (go_at_call 87; refine (l3Of_gen pr (some ⟨gb, 0, none⟩) k1 f1 _ rsh _ (by exact (unhide HD6).rd.below (Below.refl _ _).drew) (by exact (unhide HE6).below (Nat.le_refl _) (Below.refl _ _).drew) (rd_ne0 (unhide HD6).rd (unhide HE6))).mono ?_; rintro e wL ⟨⟨g2, m2, d2, dt', rfl, hm2, ho2⟩, hrL, hbL⟩; have hDL := ((unhide HD6).below (Below.refl _ _).drew).next hbL hrL; have hKL : But (fun x => x = pr ∨ x = w.heap.size ∨ x = w.heap.size + 1) V wL := ((But.of_below (S := fun x => x = pr) (Below.refl _ _).drew).trans hbL).mono (by rintro x (h | h) <;> exact .inl h); have hrw := hbL.row ((unhide HE6).below (Nat.le_refl _) (Below.refl _ _).drew) (fun x hx hh => rd_ne0 (unhide HD6).rd (unhide HE6) x hh hx); obtain ⟨_, _, ev, hO2⟩ := Own.of_owns ho2 (by omega); cases ev; obtain ⟨b2, hb2⟩ : ∃ b : Addr, b = ⟨g2, 0, none⟩ := ⟨_, rfl⟩; rw [← hb2] at hO2 ⊢; clear ho2 hb2; obtain ⟨y0, y1, y2, y3, y4, y5, y6⟩ := hDL.b7.all; obtain ⟨z0, z1, z2, z3, z4, z5, z6⟩ := hDL.b0.all; obtain ⟨q0, q1, q2, q3, q4, q5, q6⟩ := hDL.b1.all)
  all_goals go_wp2_with fail
  all_goals
    have hF0 := (((hDL.b0.sets (c' := c) (u1 := .slice (some a1) n1 c1) (u2 := .slice (some a2) n2 c2)).other (q := ⟨w.heap.size + 1, 0, none⟩) (by simp) (.bool (!(c == decide ((250 : Int) ≤ (kk : Int)))))).other (q := ⟨w.heap.size + 1, 1, none⟩) (by simp) (.slice (some ⟨gb, 0, none⟩) k1 f1)).other (q := ⟨w.heap.size + 1, 2, none⟩) (by simp) (.slice (some b2) m2 d2)
    have hF1 := (((hDL.b1.other (q := ⟨w.heap.size, 0, none⟩) (by simp) (.bool c)).other (q := ⟨w.heap.size, 1, none⟩) (by simp) (.slice (some a1) n1 c1)).other (q := ⟨w.heap.size, 2, none⟩) (by simp) (.slice (some a2) n2 c2)).sets (c' := (!(c == decide ((250 : Int) ≤ (kk : Int))))) (u1 := .slice (some ⟨gb, 0, none⟩) k1 f1) (u2 := .slice (some b2) m2 d2)
    obtain ⟨t0, t1, t2, _, _, _⟩ := hF0.all
    obtain ⟨v0, v1, v2, _, _, _⟩ := hF1.all
    refine bodyPost_ret (v := .tuple #[.agg #[.bool c, .slice (some a1) n1 c1, .slice (some a2) n2 c2], .slice (some ⟨g, 0, none⟩) k cap, .agg #[.bool (!(c == decide ((250 : Int) ≤ (kk : Int)))), .slice (some ⟨gb, 0, none⟩) k1 f1, .slice (some b2) m2 d2]]) (by simp [results, Try.results31, go_sem, t0, t1, t2, v0, v1, v2]) rfl ?_
    exact drawn_end hDL hrw hO2.row hn1 hn2 hk hk1 (by omega)


end Go.Proofs.Ytngbmcljhcckmaa
