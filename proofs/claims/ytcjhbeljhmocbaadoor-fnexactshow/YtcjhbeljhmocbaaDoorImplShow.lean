import Derived.Test.YtcjhbeljhmocbaaDoorImplWriterA
import Derived.Test.YtcjhbeljhmocbaaDoorLawShow
import Derived.Laws.EntriesVeiled
namespace Go.Proofs.YtcjhbeljhmocbaaDoor
open Go.RowKit Go.Shelf

attribute [local go_sem] Oper.semAt_some

theorem ownsB_set {w : World} {B t : Nat} {v u : Value} {n : Nat} {xs : List Value} (h : w.ownsRow B 5 1 v n xs) (ht : t < B) (off : Nat) : (w.setCell ⟨t, off, none⟩ u).ownsRow B 5 1 v n xs := by
  refine ⟨h.1, ?_⟩
  rcases h.2 with h' | ⟨g, cap, cur, e, hg, hb, rest⟩
  · exact .inl h'
  · exact .inr ⟨g, cap, cur, e, hg, (heap_setCell_other w _ g u (by show g ≠ t; omega)).trans hb, rest⟩

theorem ownsB_putObj {w : World} {B l : Nat} {v : Value} {n : Nat} {xs : List Value} (h : w.ownsRow B 5 1 v n xs) (hl : l < B) (o : Obj) : (w.putObj l o).ownsRow B 5 1 v n xs := by
  refine ⟨h.1, ?_⟩
  rcases h.2 with h' | ⟨g, cap, cur, e, hg, hb, rest⟩
  · exact .inl h'
  · exact .inr ⟨g, cap, cur, e, hg, (World.putObj_heap_other (by omega)).trans hb, rest⟩

/-- A text so far, in the box t + 2, of the call's own from block t + 8 on; all else as in A0. -/
structure ShowS (t : Nat) (A0 A : World) (v : Value) (n : Nat) (zs : List Int) : Prop where
  own : A.ownsRow (t + 8) 5 1 v n (zs.map (Value.int .u8))
  cell : Boxed A (t + 2) 26 v
  but : But (fun x => x = t + 2 ∨ t + 8 ≤ x) A0 A
  le : t + 8 ≤ A.heap.size

theorem ShowS.text {t n : Nat} {A0 A : World} {v : Value} {zs : List Int} (h : ShowS t A0 A v n zs) : TextG (t + 8) A A v n zs := ⟨h.own, Below.refl _ _, h.le⟩

theorem ShowS.set {t n n' : Nat} {A0 A w1 : World} {v v' : Value} {zs zs' : List Int} (h : ShowS t A0 A v n zs) (hT : TextG (t + 8) A w1 v' n' zs') : ShowS t A0 (w1.setCell ⟨t + 2, 0, none⟩ v') v' n' zs' := by
  have hc : Boxed w1 (t + 2) 26 v := (hT.low.block _ (by omega)).trans h.cell
  refine ⟨ownsB_set hT.own (by omega) _, hc.set v', ?_, by have := hT.le; simpa using this⟩
  have h1 : But (fun x => x = t + 2 ∨ t + 8 ≤ x) A w1 := ⟨hT.low.os, hT.low.tape, hT.low.output, hT.low.size, fun k hk hn => hT.low.block k (by omega)⟩
  exact (h.but.onS h1).setCell (p := ⟨t + 2, 0, none⟩) (.inl rfl) _

theorem ShowS.moved {t n : Nat} {A0 A : World} {v : Value} {zs zs' : List Int} (h : ShowS t A0 A v n zs) (e : zs = zs') : ShowS t A0 A v n zs' := e ▸ h

/-- What holds behind r rounds. -/
def ShowI (t : Nat) (W : World) (c : Bool) (ws dt : List Int) (N M r : Nat) (A : World) : Prop :=
  ∃ v n, n ≤ 120 * (r * N) + 2 * r ∧ A.ownsRow (t + 8) 5 1 v n ((textN c ws dt N M r).map (Value.int .u8)) ∧ Boxed A (t + 2) 26 v ∧ But (fun x => x = t + 2) W A ∧ t + 8 ≤ A.heap.size

theorem TextG.ownB {B n : Nat} {w wr : World} {v : Value} {zs : List Int} (h : TextG B w wr v n zs) (hn : n ≤ 17592186044416) : ∃ b d, v = .slice b n d ∧ OwnB wr B b n zs := by
  have hl : zs.length = n := by have := h.own.1; simpa using this
  rcases h.own.2 with ⟨e, hx⟩ | ⟨g, cap, cur, e, hg, hb, _, _, hcs, ht⟩
  · subst hx
    exact ⟨none, 0, e, hl, by omega, .inl rfl⟩
  · refine ⟨_, _, e, hl, hn, .inr ⟨g, 0, rfl, hg, lt_of_block hb, fun i hi => ?_, fun i hi => frozen_of_row wr g _ _ _ hb⟩⟩
    have e : cur.toList[i]? = some (.int .u8 (zs.getD i 0)) := by
      have : (cur.toList.take (n * 1))[i]? = (zs.map (Value.int .u8))[i]? := by rw [ht]
      rw [List.getElem?_take, if_pos (by omega)] at this
      rw [this]
      simp [hl, hi]
    simpa [World.cell?, hb] using e

/-- The world in which Show's loop begins. -/
def showW (w2 : World) (fv : Value) (M : Nat) (c : Bool) (v1 : Value) (a2 : Addr) (n2 c2 N R : Nat) : World :=
  (((((w2.alloc (.cells #[fv] 40)).alloc (.cells #[.int .i64 (M : Nat)] 3)).alloc (.cells #[.slice none 0 0] 26)).alloc (.cells #[.bool c, v1, .slice (some a2) n2 c2] 28)).alloc (.cells #[.int .i64 (N : Nat)] 3)).alloc (.cells #[.int .i64 (R : Nat)] 3)

structure ShowW (t : Nat) (w2 W : World) (fv : Value) (M : Nat) (c : Bool) (v1 : Value) (a2 : Addr) (n2 c2 N R : Nat) : Prop where
  size : W.heap.size = t + 6
  low : Below t w2 W
  fn : Boxed W t 40 fv
  height : Boxed W (t + 1) 3 (.int .i64 (M : Nat))
  text : Boxed W (t + 2) 26 (.slice none 0 0)
  rows : RowsBox W (t + 3) c v1 a2 n2 c2 N R

theorem showW_is (w2 : World) (fv : Value) (M : Nat) (c : Bool) (v1 : Value) (a2 : Addr) (n2 c2 N R : Nat) : ShowW w2.heap.size w2 (showW w2 fv M c v1 a2 n2 c2 N R) fv M c v1 a2 n2 c2 N R := by
  unfold showW
  refine ⟨by simp, ?_, ?_, ?_, ?_, ?_⟩
  · exact ((((((Below.refl _ w2).alloc (Nat.le_refl _) _).alloc (by simp) _).alloc (by simp; omega) _).alloc (by simp; omega) _).alloc (by simp; omega) _).alloc (by simp; omega) _
  · exact (((((Boxed.new w2 _ _).alloc _).alloc _).alloc _).alloc _).alloc _
  · have := Boxed.new (w2.alloc (.cells #[fv] 40)) 3 (.int .i64 (M : Nat))
    rw [World.size_alloc] at this
    exact (((this.alloc _).alloc _).alloc _).alloc _
  · have := Boxed.new ((w2.alloc (.cells #[fv] 40)).alloc (.cells #[.int .i64 (M : Nat)] 3)) 26 (.slice none 0 0)
    rw [World.size_alloc, World.size_alloc] at this
    exact ((this.alloc _).alloc _).alloc _
  · have := RowsBox.new (((w2.alloc (.cells #[fv] 40)).alloc (.cells #[.int .i64 (M : Nat)] 3)).alloc (.cells #[.slice none 0 0] 26)) c v1 a2 n2 c2 N R
    rw [World.size_alloc, World.size_alloc, World.size_alloc] at this
    exact this

theorem boxed_but {S : Nat → Prop} {w w' : World} {p : Nat} {T : TypeId} {v : Value} (h : Boxed w p T v) (hb : But S w w') (hn : ¬ S p) : Boxed w' p T v := (hb.block p h.lt hn).trans h

theorem Row.hiRow {w : World} {a : Addr} {n N R r : Nat} {dt : List Int} (h : Row w (some a) n dt) (hl : n = R * N) (hr : r < R) {k : Nat} (hk : At (some (a.add (r * N))) N k) : k < w.heap.size := (h.rowAt hl hr).hi hk

theorem OwnB.mono {w : World} {B B' : Nat} {a : Option Addr} {n : Nat} {zs : List Int} (h : OwnB w B a n zs) (hB : B' ≤ B) : OwnB w B' a n zs := by
  refine ⟨h.len, h.small, ?_⟩
  rcases h.at_ with h0 | ⟨g, off, rfl, hg, r⟩
  · exact .inl h0
  · exact .inr ⟨g, off, rfl, by omega, r⟩

theorem RowB.newAt (w : World) (g : Nat) (hg : g = w.heap.size) (zs : List Int) : RowB (w.alloc (.cells (zs.map (Value.int .u8)).toArray 5)) (some ⟨g, 0, none⟩) zs.length zs := by
  subst hg
  exact RowB.new w zs

theorem ShowS.fin {t k n3 N M : Nat} {W A A3 : World} {v3 : Value} {zs3 ws dt : List Int} {c : Bool} (hb : But (fun x => x = t + 2) W A) (hz : W.heap.size = t + 6) (hzA : W.heap.size + 2 ≤ A.heap.size) (S : ShowS t A A3 v3 n3 zs3) (e : zs3 = textN c ws dt N M (k + 1)) (hn : n3 ≤ 120 * ((k + 1) * N) + 2 * (k + 1)) (a : Act) :
    roundEndK (W.heap.size + 2) (ShowI t W c ws dt N M (k + 1)) A .normal a A3 := by
  refine ⟨fun r h1 h2 => S.but.block r (by omega) (by omega), v3, n3, hn, by rw [← e]; exact S.own, S.cell, ?_, S.le⟩
  exact ⟨S.but.os.trans hb.os, S.but.tape.trans hb.tape, S.but.output.trans hb.output, Nat.le_trans hb.size S.but.size, fun r hr hn' => (S.but.block r (by have := hb.size; omega) (by omega)).trans (hb.block r hr hn')⟩

theorem TextG.isSlice {B n : Nat} {w wr : World} {v : Value} {zs : List Int} (h : TextG B w wr v n zs) : ∃ b d, v = .slice b n d := by
  rcases h.own.2 with ⟨e, rfl⟩ | ⟨g, cap, cur, e, _⟩
  · exact ⟨none, 0, e⟩
  · exact ⟨_, _, e⟩

theorem ret_nil (B : Nat) (w w' : World) (zs : List Int) (hz : zs = []) (hb : Below w.heap.size w w') : ∃ b m d, Ending.returned (Value.slice none 0 0) = .returned (.slice b m d) ∧ OwnB w' B b m zs ∧ Below w.heap.size w w' :=
  ⟨none, 0, 0, rfl, ⟨by rw [hz]; rfl, by omega, .inl rfl⟩, hb⟩

set_option maxRecDepth 100000 in
set_option maxHeartbeats 8000000 in
theorem implShow_in (c : Bool) (a1 a2 : Addr) (n1 n2 c1 c2 : Nat) (sh dt : List Int) (w : World) (h1 : Row w (some a1) n1 sh) (h2 : Row w (some a2) n2 dt) (hc1 : n1 ≤ c1) (hc2 : n2 ≤ c2) (hG : GlS w) :
    CallsIn Fence.wide 9 Tryd.prog 7 #[.agg #[.bool c, .slice (some a1) n1 c1, .slice (some a2) n2 c2]] w fun e w' => ∃ b m d, e = .returned (.slice b m d) ∧ OwnB w' w.heap.size b m (showT c sh dt) ∧ Below w.heap.size w w' := by
  have hl1 := hide h1.len
  have hl2 := hide h2.len
  have hs1 := h1.small
  have hs2 := h2.small
  have H1 := hide h1
  have H2 := hide h2
  have HGL := hide hG
  obtain ⟨Q, hQ⟩ : ∃ Q, Q = w.alloc (.cells #[.bool c, .slice (some a1) n1 c1, .slice (some a2) n2 c2] 28) := ⟨_, rfl⟩
  have HQ := hide hQ
  have HBX : Hid (Box Q w.heap.size c (.slice (some a1) n1 c1) (.slice (some a2) n2 c2)) := by rw [hQ]; exact Box.new w _ _ _
  have HBQ : Hid (Below w.heap.size w Q) := by rw [hQ]; exact (Below.refl _ _).alloc (Nat.le_refl _) _
  have hQs : Q.heap.size = w.heap.size + 1 := by rw [hQ]; simp
  clear hQ h1 h2 hG
  obtain ⟨p, hp⟩ : ∃ p, p = w.heap.size := ⟨_, rfl⟩
  have HP := hide hp
  refine callsIn_of_wp_marks Tryd.func7 rfl trivial ?_ rfl
  simp only [Tryd.ntmps7, List.size_toArray, List.length_cons, List.length_nil, Nat.reduceAdd, Nat.reduceSub, Array.replicate_succ, Array.replicate_zero, List.push_toArray, List.append_toArray, List.nil_append, List.cons_append]
  cases hok : arrOk c sh dt with
  | false =>
    have HOK := hide hok
    have HS := hide (show_bad hok)
    have HC := hide (implArrayOk_eq c (some a1) (some a2) n1 n2 c1 c2 sh dt Q (H1.out.below (Nat.le_refl _) HBQ.out) (H2.out.below (Nat.le_refl _) HBQ.out) false HOK)
    rw [HQ.out] at HC
    clear hok
    gi_wp2_with (refine ⟨trivial, ?_⟩; gi_at_call 18; refine (callsIn_wide.2 HC.out).mono ?_; rintro e w2 ⟨rfl, hb2⟩; rw [← HQ.out] at hb2; have HB2 := hide hb2; clear hb2)
    refine ⟨_, results_tmp rfl _ _ _, ?_⟩
    exact ret_nil _ w w2 _ HS.out (HBQ.out.trans (HB2.out.mono (by omega)))
  | true =>
    have HOK := hide hok
    have HC := hide (implArrayOk_eq c (some a1) (some a2) n1 n2 c1 c2 sh dt Q (H1.out.below (Nat.le_refl _) HBQ.out) (H2.out.below (Nat.le_refl _) HBQ.out) true HOK)
    rw [HQ.out] at HC
    by_cases hnone : n2 = 0 ∧ 2 < n1
    · have HS := hide (show_none hok (by rw [hl2.out]; exact hnone.1) (by rw [hl1.out]; exact hnone.2))
      obtain ⟨hz, hz2⟩ := hnone
      have hz2i : (2 : Int) < (n1 : Int) := by omega
      subst hz
      clear hok
      gi_wp2_with (refine ⟨trivial, ?_⟩; gi_at_call 18; refine (callsIn_wide.2 HC.out).mono ?_; rintro e w2 ⟨rfl, hb2⟩; rw [← HQ.out] at hb2; have HB2 := hide hb2; obtain ⟨x0, x1, x2⟩ := (HBX.out.below (Nat.le_refl _) hb2).cells; clear hb2)
      refine ⟨_, results_tmp rfl _ _ _, ?_⟩
      exact ret_nil _ w w2 _ HS.out (HBQ.out.trans (HB2.out.mono (by omega)))
    · obtain ⟨R, hR, hn, hRb, hNb, hn2, hMb, hMp⟩ := show_parts hok hl1.out hl2.out
      have HS := hide (show_go hok (by rw [hl1.out, hl2.out]; exact hnone))
      rw [hl1.out, hl2.out, hR, Int.toNat_natCast] at HS
      obtain ⟨N, hN⟩ : ∃ N, axisE sh 1 = N := ⟨_, rfl⟩
      obtain ⟨M, hM⟩ : ∃ M, axisE sh 2 = M := ⟨_, rfl⟩
      rw [hN] at hn hNb HS
      rw [hM] at hMb hMp HS
      have hS := (shapeIn_of hok).1
      have HRW : Hid (∀ A, Below w.heap.size w A → Calls Tryd.prog 19 #[.agg #[.bool c, .slice (some a1) n1 c1, .slice (some a2) n2 c2]] A fun e w' => ∃ f, e = .returned f ∧ WriterOk f c dt N R n2 w' ∧ Below A.heap.size A w') := fun A hb =>
        rowWriter_any c a1 a2 n1 n2 c1 c2 N R sh dt A HOK.out (HGL.out.below hb) (H1.out.below (Nat.le_refl _) hb) (H2.out.below (Nat.le_refl _) hb) hc1 hc2 hN hR hn hn2 hRb hNb
      have HAX : Hid (∀ A, Below w.heap.size w A → Calls Tryd.prog 20 #[.slice (some a1) n1 c1, .int .i64 2] A fun e w' => e = .returned (.int .i64 (M : Nat)) ∧ w' = A) := fun A hb => by
        rw [← hM]
        exact axisFromEnd_any (some a1) n1 c1 sh 2 A (H1.out.below (Nat.le_refl _) hb) (by omega) (by omega) (fun i => (hS.cell i).1)
      have HRO : Hid (∀ A, Below w.heap.size w A → Calls Tryd.prog 21 #[.agg #[.bool c, .slice (some a1) n1 c1, .slice (some a2) n2 c2]] A fun e w' => e = .returned (.func (.func 35) #[] #[.pointer (some ⟨A.heap.size + 1 + 1, 0, none⟩), .pointer (some ⟨A.heap.size, 0, none⟩), .pointer (some ⟨A.heap.size + 1, 0, none⟩)]) ∧
          w' = ((A.alloc (.cells #[.bool c, .slice (some a1) n1 c1, .slice (some a2) n2 c2] 28)).alloc (.cells #[.int .i64 (N : Nat)] 3)).alloc (.cells #[.int .i64 (R : Nat)] 3)) := fun A hb =>
        rowsOf_any c a1 (.slice (some a2) n2 c2) n1 c1 sh A (H1.out.below (Nat.le_refl _) hb) hc1 hS N R hN hR
      obtain ⟨b, hb, hb2⟩ : ∃ b, ((n2 : Int) == 0) = b ∧ (b = true → ¬ (2 : Int) < (n1 : Int)) := ⟨_, rfl, fun h => by simp at h; omega⟩
      have HMP := hide hMp
      have HN := hide hn
      clear hok hnone hS hN hM hR hMp hn
      cases b
      all_goals try have hb3 : decide ((2 : Int) < (n1 : Int)) = false := decide_eq_false (hb2 rfl)
      all_goals clear hb2
      all_goals gi_wp2_with (first
        | (refine ⟨trivial, ?_⟩; gi_at_call 18; refine (callsIn_wide.2 HC.out).mono ?_; rintro e w1 ⟨rfl, hb1⟩; rw [← HQ.out] at hb1; have HX1 := hide (HBX.out.below (Nat.le_refl _) hb1); have HB1 := hide (HBQ.out.trans (hb1.mono (by omega))); obtain ⟨x0, x1, x2⟩ := HX1.out.cells; clear hb1)
        | (refine ⟨trivial, ?_⟩; gi_at_call 19; refine (callsIn_wide.2 (HRW.out _ HB1.out)).mono ?_; rintro e w2 ⟨f, rfl, ⟨gw, lw, rfl, egw, hwr⟩, hb2⟩; have HX2 := hide (HX1.out.below (Nat.le_refl _) hb2); have HB2 := hide (HB1.out.trans (hb2.mono HB1.out.size)); obtain ⟨y0, y1, y2⟩ := HX2.out.cells; have hpl : w.heap.size < w2.heap.size := HX2.out.lt; have hpl1 : w.heap.size < w2.heap.size + 1 := (by omega); have hpl2 : w.heap.size < w2.heap.size + 1 + 1 := (by omega); clear hb2 x0 x1 x2)
        | (refine ⟨trivial, ?_⟩; gi_at_call 20; refine (callsIn_wide.2 (HAX.out _ (HB2.out.alloc HB2.out.size _))).mono ?_; rintro e w3 ⟨rfl, hw3⟩; obtain rfl := hw3.symm)
        | (refine ⟨trivial, ?_⟩; gi_at_call 21; refine (callsIn_wide.2 (HRO.out _ (((HB2.out.alloc HB2.out.size _).alloc (by have := HB2.out.size; simp; omega) _).alloc (by have := HB2.out.size; simp; omega) _))).mono ?_; rintro e w4 ⟨rfl, hw4⟩; obtain rfl := hw4.symm))
      all_goals (
        obtain ⟨W, hW⟩ : ∃ W, W = showW w2 (.func (.func gw) #[] lw) M c (.slice (some a1) n1 c1) a2 n2 c2 N R := ⟨_, rfl⟩
        have HSW := hide (showW_is w2 (.func (.func gw) #[] lw) M c (.slice (some a1) n1 c1) a2 n2 c2 N R)
        rw [← hW] at HSW
        unfold showW at hW
        rw [← hW]
        have H12 := hide (And.intro (H1.out.below (Nat.le_refl _) HB2.out) (And.intro (H2.out.below (Nat.le_refl _) HB2.out) (HGL.out.below HB2.out)))
        have hwz2 := HB2.out.size
        have HWR := hide hwr
        clear hwr hW HRW HAX HRO HX1 HX2 HB1 y0 y1 y2 hpl hpl1 hpl2 HC HBX HBQ hQs HQ H1 H2 HGL
        obtain ⟨t, ht⟩ : ∃ t, t = w2.heap.size := ⟨_, rfl⟩
        rw [← ht] at HSW ⊢
        have HT := hide ht
        clear ht
        have hzW := HSW.out.size
        simp only [Nat.add_assoc, Nat.reduceAdd]
        apply range_kept (gf := 35) (lb := #[.pointer (some ⟨t + 5, 0, none⟩), .pointer (some ⟨t + 3, 0, none⟩), .pointer (some ⟨t + 4, 0, none⟩)]) rfl eg_rows (ar := rowAr a2 c2 N) (fun _ => rfl) (rows1_seq _ (t + 3) c (.slice (some a1) n1 c1) a2 n2 c2 N R HN.out hn2 hRb hNb hc2)
          (ShowI t W c (wsN dt N n2) dt N M)
        case hI =>
          rintro k A ⟨v, n, _, _, _, hbut, _⟩
          exact HSW.out.rows.but hbut (by omega) (by omega) (by omega)
        case hIp =>
          rintro k A l o ⟨v, n, hnb, hown, hbx, hbut, hle⟩ hl1 hl2
          exact ⟨v, n, hnb, ownsB_putObj hown (by omega) o, (World.putObj_heap_other (by omega)).trans hbx, hbut.putHi hl1 o, by simpa using hle⟩
        case h0 =>
          intro o o'
          exact ⟨.slice none 0 0, 0, by omega, by simpa [textN] using World.ownsRow_nil _ _ _ _, (HSW.out.text.alloc _).alloc _, ((But.refl _ _).alloc _).alloc _, by simp; omega⟩
        case hassign =>
          intro l k A K hK
          unfold rowAr
          gi_wp2
          exact hK
        case hbody =>
          rintro l k A hk ⟨v, n, hnb, hown, hbx, hbut, hle⟩ hzA
          obtain ⟨zs, hzs⟩ : ∃ zs, textN c (wsN dt N n2) dt N M k = zs := ⟨_, rfl⟩
          rw [hzs] at hown
          have S0 : ShowS t A A v n zs := ⟨hown, hbx, But.refl _ _, hle⟩
          have HS0 := hide S0
          have HBUT := hide hbut
          have HZS := hide hzs
          have HKL : Hid (n ≤ 1000000 * 200) := by
            have h1 : k * N ≤ R * N := Nat.mul_le_mul_right N (by omega)
            have := HN.out
            show n ≤ _
            omega
          have HNB := hide hnb
          have HAll : Hid (∀ A1 v1 n1' zs1, ShowS t A A1 v1 n1' zs1 → Below t w2 A1 ∧ Boxed A1 t 40 (.func (.func gw) #[] lw) ∧ Boxed A1 (t + 1) 3 (.int .i64 (M : Nat))) := fun A1 v1 n1' zs1 h => by
            have hb1 := h.but
            have hbl : Below t W A1 := (hbut.below (B := t) (by omega) (by rintro x rfl; omega)).trans (hb1.below (B := t) (by omega) (by rintro x (rfl | hx) <;> omega))
            refine ⟨HSW.out.low.trans hbl, ?_, ?_⟩
            · exact boxed_but (boxed_but HSW.out.fn hbut (by omega)) hb1 (by omega)
            · exact boxed_but (boxed_but HSW.out.height hbut (by omega)) hb1 (by omega)
          have HCALL : Hid (∀ A1 v1 n1' zs1, ShowS t A A1 v1 n1' zs1 → n1' ≤ 1000000 * 200 + 1 → Calls Tryd.prog gw (#[v1, .slice (some (a2.add (k * N))) N (c2 - k * N)] ++ lw) A1 (GivesT (t + 8) A1 (n1' + 120 * N) (zs1 ++ rowN c (wsN dt N n2) (rowAt dt N k) N))) := fun A1 v1 n1' zs1 h hle1 => by
            obtain ⟨g1, -, -⟩ := HAll.out _ _ _ _ h
            have g1' := g1
            rw [HT.out] at g1'
            have hr2 := (H12.out.2.1).below (Nat.le_refl _) g1'
            refine HWR.out (t + 8) n1' k v1 zs1 _ _ A1 g1' (by have := HT.out; omega) h.text (hr2.rowAt HN.out hk) (fun x hx => ?_) hk (by omega) (fun wx hwx => H12.out.2.2.below ?_)
            · have := (H12.out.2.1).hiRow HN.out hk hx
              have := HT.out
              omega
            · rw [← HT.out]; exact g1.trans (hwx.mono (by omega))
          obtain ⟨ra, hra⟩ : ∃ s, s = some (a2.add (k * N)) := ⟨_, rfl⟩
          obtain ⟨rc, hrc⟩ : ∃ s, s = c2 - k * N := ⟨_, rfl⟩
          rw [← hra, ← hrc] at HCALL ⊢
          obtain ⟨ln, hln⟩ : ∃ s, rowN c (wsN dt N n2) (rowAt dt N k) N = s := ⟨_, rfl⟩
          rw [hln] at HCALL
          have HLN := hide hln
          have hMb2 := hMb
          have hkb : k < 10000 := by omega
          have HK := hide hk
          have hmp : ¬ (M : Int) = 0 := by have := HMP.out (by omega); omega
          obtain ⟨q, hq⟩ : ∃ q, k % M = q := ⟨_, rfl⟩
          have hqi : (k : Int) % (M : Int) = (q : Int) := by rw [← hq]; simp
          have HQM := hide hq
          have hbxc := hbx.cell
          have hbxf := hbx.frozen
          obtain ⟨-, hf0, hh0⟩ := HAll.out _ _ _ _ S0
          have hf0c := hf0.cell
          have hh0c := hh0.cell
          obtain ⟨i0, hi, hz0, hz1, hz2⟩ := info_parts info_byte
          have HFIN : Hid (∀ A3 v3 n3 zs3 (a : Act), ShowS t A A3 v3 n3 zs3 → zs3 = zs ++ (if 0 < k ∧ k % M = 0 then [10] else []) ++ ln ++ [10] → n3 ≤ n + 1 + 120 * N + 1 → roundEndK (W.heap.size + 2) (ShowI t W c (wsN dt N n2) dt N M (k + 1)) A .normal a A3) := fun A3 v3 n3 zs3 a S e hn3 => by
            refine ShowS.fin HBUT.out hzW hzA S ?_ ?_ a
            · rw [e, textN_succ, HZS.out]
              unfold lineT
              rw [rowAt_len (hl2.out.trans HN.out) HK.out, HLN.out, ← List.append_assoc]
            · have := HNB.out
              rw [Nat.add_mul, Nat.one_mul]
              omega
          clear S0 hra hrc hown hbx hbut hzs hnb hln hk hq hf0 hh0 HSW H12 HWR HAll
          have hle8 := HS0.out.le
          by_cases h0 : 0 < k
          case neg =>
            have h0i : ¬ (0 : Int) < (k : Int) := by omega
            have HIF : Hid ((if 0 < k ∧ k % M = 0 then [10] else [] : List Int) = []) := if_neg (fun h => h0 h.1)
            clear h0 hqi hmp
            gi_wp2_with (first | (refine ⟨trivial, ?_⟩; refine (CallsIn.inRound l (callsIn_wide.2 (HCALL.out _ _ n _ HS0.out (by have := HKL.out; omega)))).mono ?_; rintro e w5 ⟨v2, n2', rfl, hn2', hT2⟩; obtain ⟨s2, d2, hv2⟩ := hT2.isSlice; subst hv2; have HS2 := hide (HS0.out.set hT2); have e1 := (hT2.low.cell (p := ⟨t + 2, 0, none⟩) (by show t + 2 < t + 8; omega)).trans HS0.out.cell.cell; have e2 := (hT2.low.frozen (p := ⟨t + 2, 0, none⟩) (by show t + 2 < t + 8; omega)).trans HS0.out.cell.frozen; clear hT2) | (gi_at_builtin; refine wpListIn_append_own _ rfl _ _ 26 rfl (t + 8) 5 i0 (.int .u8 0) 1 1 Tryd.underlying26 hi hz0 hz1 hz2 rfl (by decide) (.slice s2 n2' d2) n2' _ rfl (HS2.out.text.keep ((Below.refl _ _).alloc (Nat.le_refl _) _)).own ⟨w5.heap.size, 0, none⟩ 1 1 ([10].map (Value.int .u8)) rfl rfl (RowB.newAt (w5.setCell ⟨t + 2, 0, none⟩ (.slice s2 n2' d2)) w5.heap.size (by simp) [10]).news (one_bytes _) (by unfold maxLen; have := HKL.out; omega) (by have := HKL.out; omega) (by have := HS2.out.le; simp; simp at this; omega) ?_; intro v3 w7 hown hg _; have hT3 := HS2.out.text.step hown hg; obtain ⟨s3, d3, hv3⟩ := hT3.isSlice; subst hv3; have HS3 := hide (HS2.out.set hT3); have f1 := (hT3.low.cell (p := ⟨t + 2, 0, none⟩) (by show t + 2 < t + 8; omega)).trans HS2.out.cell.cell; have f2 := (hT3.low.frozen (p := ⟨t + 2, 0, none⟩) (by show t + 2 < t + 8; omega)).trans HS2.out.cell.frozen; clear hown hg hT3))
            exact HFIN.out _ _ _ _ _ HS3.out (by rw [HIF.out]; simp) (by omega)
          case pos =>
            have h0i : (0 : Int) < (k : Int) := by omega
            by_cases hq0 : q = 0
            case pos =>
              have HIF : Hid ((if 0 < k ∧ k % M = 0 then [10] else [] : List Int) = [10]) := if_pos ⟨h0, by rw [HQM.out]; exact hq0⟩
              have hqz : (k : Int) % (M : Int) = 0 := by rw [hqi, hq0]; rfl
              clear h0 hqi
              subst hq0
              gi_wp2_with (first | (gi_at_builtin; refine wpListIn_append_own _ rfl _ _ 26 rfl (t + 8) 5 i0 (.int .u8 0) 1 1 Tryd.underlying26 hi hz0 hz1 hz2 rfl (by decide) v n _ rfl (HS0.out.text.keep ((Below.refl _ _).alloc (Nat.le_refl _) _)).own ⟨A.heap.size, 0, none⟩ 1 1 ([10].map (Value.int .u8)) rfl rfl (RowB.newAt A A.heap.size (by simp) [10]).news (one_bytes _) (by unfold maxLen; have := HKL.out; omega) (by have := HKL.out; omega) (by rw [World.size_alloc]; have := HS0.out.le; omega) ?_; intro v1 w1 hown hg _; have hT1 := HS0.out.text.step hown hg; obtain ⟨s1, d1, hv1⟩ := hT1.isSlice; subst hv1; have HS1 := hide (HS0.out.set hT1); have dd1 := (hT1.low.cell (p := ⟨t + 2, 0, none⟩) (by show t + 2 < t + 8; omega)).trans hbxc; have dd2 := (hT1.low.frozen (p := ⟨t + 2, 0, none⟩) (by show t + 2 < t + 8; omega)).trans hbxf; have dd3 := (hT1.low.cell (p := ⟨t, 0, none⟩) (by show t < t + 8; omega)).trans hf0c; clear hown hg hT1) | (refine ⟨trivial, ?_⟩; refine (CallsIn.inRound l (callsIn_wide.2 (HCALL.out _ _ (n + 1) _ HS1.out (by have := HKL.out; omega)))).mono ?_; rintro e w5 ⟨v2, n2', rfl, hn2', hT2⟩; obtain ⟨s2, d2, hv2⟩ := hT2.isSlice; subst hv2; have HS2 := hide (HS1.out.set hT2); have e1 := (hT2.low.cell (p := ⟨t + 2, 0, none⟩) (by show t + 2 < t + 8; omega)).trans HS1.out.cell.cell; have e2 := (hT2.low.frozen (p := ⟨t + 2, 0, none⟩) (by show t + 2 < t + 8; omega)).trans HS1.out.cell.frozen; clear hT2) | (gi_at_builtin; refine wpListIn_append_own _ rfl _ _ 26 rfl (t + 8) 5 i0 (.int .u8 0) 1 1 Tryd.underlying26 hi hz0 hz1 hz2 rfl (by decide) (.slice s2 n2' d2) n2' _ rfl (HS2.out.text.keep ((Below.refl _ _).alloc (Nat.le_refl _) _)).own ⟨w5.heap.size, 0, none⟩ 1 1 ([10].map (Value.int .u8)) rfl rfl (RowB.newAt (w5.setCell ⟨t + 2, 0, none⟩ (.slice s2 n2' d2)) w5.heap.size (by simp) [10]).news (one_bytes _) (by unfold maxLen; have := HKL.out; omega) (by have := HKL.out; omega) (by have := HS2.out.le; simp; simp at this; omega) ?_; intro v3 w7 hown hg _; have hT3 := HS2.out.text.step hown hg; obtain ⟨s3, d3, hv3⟩ := hT3.isSlice; subst hv3; have HS3 := hide (HS2.out.set hT3); have f1 := (hT3.low.cell (p := ⟨t + 2, 0, none⟩) (by show t + 2 < t + 8; omega)).trans HS2.out.cell.cell; have f2 := (hT3.low.frozen (p := ⟨t + 2, 0, none⟩) (by show t + 2 < t + 8; omega)).trans HS2.out.cell.frozen; clear hown hg hT3))
              exact HFIN.out _ _ _ _ _ HS3.out (by rw [HIF.out]) (by omega)
            case neg =>
              have HIF : Hid ((if 0 < k ∧ k % M = 0 then [10] else [] : List Int) = []) := if_neg (fun h => hq0 (by rw [← HQM.out]; exact h.2))
              have hq1 : ¬ (q : Int) = 0 := by omega
              clear h0 hq0
              gi_wp2_with (first | (refine ⟨trivial, ?_⟩; refine (CallsIn.inRound l (callsIn_wide.2 (HCALL.out _ _ n _ HS0.out (by have := HKL.out; omega)))).mono ?_; rintro e w5 ⟨v2, n2', rfl, hn2', hT2⟩; obtain ⟨s2, d2, hv2⟩ := hT2.isSlice; subst hv2; have HS2 := hide (HS0.out.set hT2); have e1 := (hT2.low.cell (p := ⟨t + 2, 0, none⟩) (by show t + 2 < t + 8; omega)).trans HS0.out.cell.cell; have e2 := (hT2.low.frozen (p := ⟨t + 2, 0, none⟩) (by show t + 2 < t + 8; omega)).trans HS0.out.cell.frozen; clear hT2) | (gi_at_builtin; refine wpListIn_append_own _ rfl _ _ 26 rfl (t + 8) 5 i0 (.int .u8 0) 1 1 Tryd.underlying26 hi hz0 hz1 hz2 rfl (by decide) (.slice s2 n2' d2) n2' _ rfl (HS2.out.text.keep ((Below.refl _ _).alloc (Nat.le_refl _) _)).own ⟨w5.heap.size, 0, none⟩ 1 1 ([10].map (Value.int .u8)) rfl rfl (RowB.newAt (w5.setCell ⟨t + 2, 0, none⟩ (.slice s2 n2' d2)) w5.heap.size (by simp) [10]).news (one_bytes _) (by unfold maxLen; have := HKL.out; omega) (by have := HKL.out; omega) (by have := HS2.out.le; simp; simp at this; omega) ?_; intro v3 w7 hown hg _; have hT3 := HS2.out.text.step hown hg; obtain ⟨s3, d3, hv3⟩ := hT3.isSlice; subst hv3; have HS3 := hide (HS2.out.set hT3); have f1 := (hT3.low.cell (p := ⟨t + 2, 0, none⟩) (by show t + 2 < t + 8; omega)).trans HS2.out.cell.cell; have f2 := (hT3.low.frozen (p := ⟨t + 2, 0, none⟩) (by show t + 2 < t + 8; omega)).trans HS2.out.cell.frozen; clear hown hg hT3))
              exact HFIN.out _ _ _ _ _ HS3.out (by rw [HIF.out]; simp) (by omega)
        case hdone =>
          rintro D A hD ⟨v, n, hnb, hown, hbx, hbut, hle⟩ hK
          have hc := hbx.cell
          have HO : Hid (TextG (t + 8) (A.putObj D (.deferred none)) (A.putObj D (.deferred none)) v n (showT c sh dt)) := by
            refine ⟨?_, Below.refl _ _, by simpa using hle⟩
            rw [HS.out]
            exact ownsB_putObj hown (by omega) _
          have HBL : Hid (Below w.heap.size w (A.putObj D (.deferred none))) := by
            have := HT.out
            exact (HB2.out.trans ((HSW.out.low.trans (hbut.below (B := t) (by omega) (by rintro x rfl; omega))).mono (by omega))).trans (below_putObj A (by omega) _)
          have HNN : Hid (n ≤ 17592186044416) := by show n ≤ _; have := HN.out; omega
          clear hown hbx hbut hnb
          gi_wp2
          refine ⟨by simp, .inl ⟨_, _, rfl, run_takeDeferred hK, ?_⟩⟩
          refine ⟨_, results_tmp rfl _ _ _, ?_⟩
          obtain ⟨b, d, hv, hO⟩ := HO.out.ownB HNN.out
          exact ⟨b, n, d, by rw [hv]; rfl, hO.mono (by have := HT.out; omega), HBL.out⟩)

/-- The developers' Show gives what is asked, where the tables lie as laid. -/
theorem implShow_holds : LawShow.Impl GlS := fun c a1 a2 n1 n2 c1 c2 sh dt w h1 h2 hc1 hc2 hG => callsIn_wide.1 (implShow_in c a1 a2 n1 n2 c1 c2 sh dt w h1 h2 hc1 hc2 hG)

end Go.Proofs.YtcjhbeljhmocbaaDoor
