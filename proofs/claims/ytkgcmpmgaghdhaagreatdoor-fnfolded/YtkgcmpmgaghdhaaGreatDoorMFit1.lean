import Derived.Test.YtkgcmpmgaghdhaaGreatDoorMFit0
import Derived.Test.YtkgcmpmgaghdhaaGreatDoorMFit0
import Derived.Deep.AppendLies
import Derived.Deep.OwnRows
import Derived.Deep.RegionHeld3
import Derived.BigRegion
import Derived.Deep.RegionLaw
import Derived.Deep.RegionHeld
import Derived.OrdersHeld
import Derived.RegionTactic
import Derived.WalkKit
import Derived.Laws.OwnMore
import Derived.Laws.AppendOwnNone
import Derived.RangeFuncRecord
import Derived.BigQuiet
import Derived.Deep.DeepCutAuto
import Derived.Test.YtkgcmpmgaghdhaaGreatDoorChecked
namespace Go.Proofs.YtkgcmpmgaghdhaaGreatDoor
open Go.RowKit

theorem Blk.new (w : World) : Blk (w.alloc (.cells #[] 3)) w.heap.size [] := by
  show (w.heap.push _)[w.heap.size]? = _
  simp

theorem Blk.owns {w : World} {g base : Nat} (h : Blk w g []) (hb : base ≤ g) : w.ownsRow base 3 1 (.slice (some ⟨g, 0, none⟩) 0 0) 0 [] :=
  ⟨by simp, .inr ⟨g, 0, #[], rfl, hb, h, by simp, by unfold maxLen; omega, by simp, by simp⟩⟩

theorem Own.grown {w w1 : World} {B g n : Nat} {a : Option Addr} {zs : List Int} (h : Own w B a n zs) (o : Obj) (hg : (w.alloc o).grownBy w1 (some g)) (hne : ∀ x, At a n x → x ≠ g) : Own w1 B a n zs := by
  refine ⟨h.len, h.small, ?_⟩
  rcases h.at_ with h0 | ⟨b, off, rfl, hb, hlt, hc, hf⟩
  · exact .inl h0
  · by_cases hn : n = 0
    · exact .inl hn
    have hk : w1.heap[b]? = w.heap[b]? := (hg.block b (by simp; omega) (fun e => hne b (at_self hn) (by simpa using e))).trans (Below.heap_alloc w o b hlt)
    refine .inr ⟨b, off, rfl, hb, ?_, fun i hi => (World.cell?_of_block (w := w) (a := ⟨b, off + i, none⟩) hk).trans (hc i hi), fun i hi => (World.frozen?_of_block (w := w) (a := ⟨b, off + i, none⟩) hk).trans (hf i hi)⟩
    rcases Nat.lt_or_ge b w1.heap.size with h1 | h1
    · exact h1
    · rw [Array.getElem?_eq_none h1, Array.getElem?_eq_getElem hlt] at hk; cases hk

/-- A struct of an array is laid whose shape reads as zs and whose numbers are none yet; all of it is new. -/
def Laid (w2 : World) (c : Bool) (m : Nat) (zs : List Int) (r : Value) (wx : World) : Prop :=
  ∃ p g ash csh, r = .pointer (some ⟨p, 0, none⟩) ∧ Box wx p c (.slice ash m csh) (.slice (some ⟨g, 0, none⟩) 0 0) ∧ Blk wx g [] ∧ Own wx w2.heap.size ash m zs ∧ Below w2.heap.size w2 wx ∧ w2.heap.size ≤ p ∧ w2.heap.size ≤ g ∧ ∀ x, At ash m x → x ≠ g

theorem laid_cbz {w2 wA : World} {c : Bool} {m csh : Nat} {zs : List Int} {ash : Option Addr} (hO : Own wA w2.heap.size ash m zs) (hK : Below w2.heap.size w2 wA) : Laid w2 c m zs (.pointer (some ⟨wA.heap.size + 1, 0, none⟩)) ((wA.alloc (.cells #[] 3)).alloc (.cells #[.bool c, .slice ash m csh, .slice (some ⟨wA.heap.size, 0, none⟩) 0 0] 25)) := by
  have hs := hK.size
  refine ⟨wA.heap.size + 1, wA.heap.size, ash, csh, rfl, ?_, (Blk.new wA).alloc _, (hO.alloc _).alloc _, (hK.alloc hs _).alloc (by simp; omega) _, by omega, by omega, fun x hx => by have := hO.row.hi hx; omega⟩
  have := Box.new (wA.alloc (.cells #[] 3)) c (.slice ash m csh) (.slice (some ⟨wA.heap.size, 0, none⟩) 0 0)
  simpa using this

theorem laid_czb {w2 wA : World} {c : Bool} {m csh : Nat} {zs : List Int} {ash : Option Addr} (hO : Own wA w2.heap.size ash m zs) (hK : Below w2.heap.size w2 wA) : Laid w2 c m zs (.pointer (some ⟨wA.heap.size, 0, none⟩)) ((wA.alloc (.cells #[.bool c, .slice ash m csh, .slice (some ⟨wA.heap.size + 1, 0, none⟩) 0 0] 25)).alloc (.cells #[] 3)) := by
  have hs := hK.size
  refine ⟨wA.heap.size, wA.heap.size + 1, ash, csh, rfl, (Box.new _ _ _ _).alloc _, ?_, (hO.alloc _).alloc _, (hK.alloc hs _).alloc (by simp; omega) _, by omega, by omega, fun x hx => by have := hO.row.hi hx; omega⟩
  have := Blk.new (wA.alloc (.cells #[.bool c, .slice ash m csh, .slice (some ⟨wA.heap.size + 1, 0, none⟩) 0 0] 25))
  simpa using this

theorem laid_bcz {w2 wA : World} {c : Bool} {m csh : Nat} {zs : List Int} {ash : Option Addr} {g : Nat} (hO : Own wA w2.heap.size ash m zs) (hK : Below w2.heap.size w2 wA) (hQ : Blk wA g []) (hg : w2.heap.size ≤ g) (hne : ∀ x, At ash m x → x ≠ g) : Laid w2 c m zs (.pointer (some ⟨wA.heap.size, 0, none⟩)) (wA.alloc (.cells #[.bool c, .slice ash m csh, .slice (some ⟨g, 0, none⟩) 0 0] 25)) :=
  ⟨wA.heap.size, g, ash, csh, rfl, Box.new _ _ _ _, hQ.alloc _, hO.alloc _, hK.alloc hK.size _, hK.size, hg, hne⟩

theorem Blk.notBox {w : World} {g p : Nat} {c : Bool} {v1 v2 : Value} (h : Blk w g []) (hb : Box w p c v1 v2) : g ≠ p := by
  rintro rfl
  unfold Blk at h
  unfold Box at hb
  rw [h] at hb
  simp at hb

theorem laid_zc {w2 wA : World} {c : Bool} {m csh : Nat} {zs : List Int} {ash : Option Addr} {g p : Nat} {c' : Bool} {a1 a2 : Option Addr} {l1 l2 k1 k2 : Nat} (hO : Own wA w2.heap.size ash m zs) (hK : Below w2.heap.size w2 wA) (hP : Box wA p c' (.slice a1 l1 k1) (.slice a2 l2 k2)) (hp : w2.heap.size ≤ p) (hQ : Blk wA g []) (hg : w2.heap.size ≤ g) (hne : ∀ x, At ash m x → x ≠ g) :
    Laid w2 c m zs (.pointer (some ⟨p, 0, none⟩)) (((wA.setCell ⟨p, 0, none⟩ (.bool c)).setCell ⟨p, 1, none⟩ (.slice ash m csh)).setCell ⟨p, 2, none⟩ (.slice (some ⟨g, 0, none⟩) 0 0)) := by
  have hn : ∀ x, At ash m x → x ≠ p := fun x hx => hO.row.notBox hP hx
  have hgp := hQ.notBox hP
  exact ⟨p, g, ash, csh, rfl, hP.sets, ((hQ.other hgp _).other hgp _).other hgp _, ((hO.other hn _).other hn _).other hn _, ((hK.setCell hp _).setCell hp _).setCell hp _, hp, hg, hne⟩

theorem laid_zcb {w2 wA : World} {c : Bool} {m csh : Nat} {zs : List Int} {ash : Option Addr} {p : Nat} {c' : Bool} {a1 a2 : Option Addr} {l1 l2 k1 k2 : Nat} (hO : Own wA w2.heap.size ash m zs) (hK : Below w2.heap.size w2 wA) (hP : Box wA p c' (.slice a1 l1 k1) (.slice a2 l2 k2)) (hp : w2.heap.size ≤ p) :
    Laid w2 c m zs (.pointer (some ⟨p, 0, none⟩)) ((((wA.setCell ⟨p, 0, none⟩ (.bool c)).setCell ⟨p, 1, none⟩ (.slice ash m csh)).setCell ⟨p, 2, none⟩ (.slice (some ⟨wA.heap.size, 0, none⟩) 0 0)).alloc (.cells #[] 3)) := by
  have hn : ∀ x, At ash m x → x ≠ p := fun x hx => hO.row.notBox hP hx
  refine ⟨p, wA.heap.size, ash, csh, rfl, hP.sets.alloc _, ?_, (((hO.other hn _).other hn _).other hn _).alloc _, (((hK.setCell hp _).setCell hp _).setCell hp _).alloc (by simpa using hK.size) _, hp, hK.size, fun x hx => by have := hO.row.hi hx; omega⟩
  have := Blk.new (((wA.setCell ⟨p, 0, none⟩ (.bool c)).setCell ⟨p, 1, none⟩ (.slice ash m csh)).setCell ⟨p, 2, none⟩ (.slice (some ⟨wA.heap.size, 0, none⟩) 0 0))
  simpa using this

end Go.Proofs.YtkgcmpmgaghdhaaGreatDoor
namespace Go.Proofs.YtkgcmpmgaghdhaaGreatDoor
open Go.RowKit

/-- An array that is being drawn lies in box p7, the answer's box p0 is untouched. -/
structure DG (w : World) (pr p0 p7 : Nat) (c : Bool) (v1 : Value) (wr : World) (l : List Int) (n g cap : Nat) : Prop where
  box : Box wr p7 c v1 (.slice (some ⟨g, 0, none⟩) n cap)
  owns : wr.ownsRow w.heap.size 3 1 (.slice (some ⟨g, 0, none⟩) n cap) n (l.map (Value.int .i64))
  res : Box wr p0 false (.slice none 0 0) (.slice none 0 0)
  rd : RdOk wr pr
  but : But (fun x => x = pr) w wr
  h0 : w.heap.size ≤ p0
  h7 : w.heap.size ≤ p7
  hp : pr < w.heap.size

section
variable {w wr w' : World} {pr p0 p7 n g cap g' cap' : Nat} {c : Bool} {v1 : Value} {l : List Int}
theorem DG.next (h : DG w pr p0 p7 c v1 wr l n g cap) (hb : But (fun x => x = pr) wr w') (hr : RdOk w' pr) : DG w pr p0 p7 c v1 w' l n g cap :=
  ⟨h.box.but hb (by have := h.h7; have := h.hp; omega), owns_but h.owns hb (by have := owns_from h.owns; have := h.hp; omega), h.res.but hb (by have := h.h0; have := h.hp; omega), hr, (h.but.trans hb).mono (by rintro x (h | h) <;> exact h), h.h0, h.h7, h.hp⟩

theorem DG.below (h : DG w pr p0 p7 c v1 wr l n g cap) (hb : Below wr.heap.size wr w') : DG w pr p0 p7 c v1 w' l n g cap := h.next (But.of_below hb) (h.rd.below hb)

theorem DG.push (h : DG w pr p0 p7 c v1 wr l n g cap) {x : Int} {o : Obj} (hown : w'.ownsRow w.heap.size 3 1 (.slice (some ⟨g', 0, none⟩) (n + 1) cap') (n + 1) (l.map (Value.int .i64) ++ [.int .i64 x])) (hg : (wr.alloc o).grownBy w' (Value.ownBlock (.slice (some ⟨g, 0, none⟩) n cap))) :
    Box w' p7 c v1 (.slice (some ⟨g, 0, none⟩) n cap) ∧ DG w pr p0 p7 c v1 (w'.setCell ⟨p7, 2, none⟩ (.slice (some ⟨g', 0, none⟩) (n + 1) cap')) (l ++ [x]) (n + 1) g' cap' := by
  have hg' : (wr.alloc o).grownBy w' (some g) := hg
  have hb6 := h.box.grown h.owns o hg
  have hr6 := h.res.grown h.owns o hg
  obtain ⟨hrd, hbt⟩ := draw_grown h.rd h.but h.hp (owns_from h.owns) hg'
  have hs : But (fun x => x = p7) w' (w'.setCell ⟨p7, 2, none⟩ (.slice (some ⟨g', 0, none⟩) (n + 1) cap')) := (But.refl (fun x => x = p7) w').setCell (p := ⟨p7, 2, none⟩) rfl _
  have hp7 := h.h7
  have hp := h.hp
  have hne : p0 ≠ p7 ∨ p0 = p7 := by omega
  refine ⟨hb6, hb6.set2 _, ?_, ?_, hrd.but hs (by rintro k rfl; omega), ?_, h.h0, h.h7, h.hp⟩
  · rw [List.map_append]
    exact owns_box_set hown hb6 _ _
  · by_cases e : p0 = p7
    · subst e
      exfalso
      have h1 := h.box
      have h2 := h.res
      unfold Box at h1 h2
      rw [h1] at h2
      simp at h2
    · exact hr6.other (by simpa using e) _
  · exact ⟨hbt.os, hbt.tape, hbt.output, by have := hbt.size; simpa using this, fun k hk hn => (heap_setCell_other _ _ k _ (by simp; omega)).trans (hbt.block k hk hn)⟩
end

theorem But.setNew {S : Nat → Prop} {w w' : World} (h : But S w w') {p : Addr} (hp : w.heap.size ≤ p.block) (v : Value) : But S w (w'.setCell p v) :=
  ⟨h.os, h.tape, h.output, by have := h.size; simpa using this, fun k hk hn => (heap_setCell_other _ _ k _ (by omega)).trans (h.block k hk hn)⟩

theorem owns_nebox {w : World} {base n g cap p : Nat} {xs : List Value} {c : Bool} {v1 v2 : Value} (h : w.ownsRow base 3 1 (.slice (some ⟨g, 0, none⟩) n cap) n xs) (hp : Box w p c v1 v2) : g ≠ p := by
  rcases h.2 with ⟨e, _⟩ | ⟨g', cap', cur, e, hge, hh, hr⟩
  · cases e
  · cases e
    intro e
    subst e
    unfold Box at hp
    rw [hp] at hh
    have := congrArg (fun o => match o with | some (.cells _ t _) => t | _ => 0) hh
    simp at this

set_option maxRecDepth 20000 in
set_option maxHeartbeats 4000000 in
theorem l3Of_any (pr g1 n1 cap1 : Nat) (c : Bool) (zs : List Int) (w : World) (h : RdOk w pr) (hz : Row w (some ⟨g1, 0, none⟩) n1 zs) (hgp : g1 ≠ pr) :
    Calls Tryz.prog 111 #[.pointer (some ⟨pr, 0, none⟩), .slice (some ⟨g1, 0, none⟩) n1 cap1, .bool c] w fun e w' => (∃ (g n cap : Nat) (l : List Int), e = .returned (.agg #[.bool c, .slice (some ⟨g1, 0, none⟩) n1 cap1, .slice (some ⟨g, 0, none⟩) n cap]) ∧ n ≤ 10000 ∧ w'.ownsRow w.heap.size 3 1 (.slice (some ⟨g, 0, none⟩) n cap) n (l.map (Value.int .i64))) ∧ RdOk w' pr ∧ But (fun x => x = pr) w w' := by
  have hlw := h.lt
  obtain ⟨i0, hi, hz0, hz1, hz2⟩ := info_parts info_int
  obtain ⟨N, hN⟩ : ∃ N, countOf zs = N := ⟨_, rfl⟩
  have HN := hide hN
  have hNb : N ≤ 10000 := by
    rw [← hN]
    unfold countOf
    split
    · rename_i ha
      cases hp : prodFrom zs 1 with
      | none => simp
      | some m =>
        have := prodFrom_bd zs 1 m ha (by omega) (by omega) hp
        simp only
        split <;> omega
    · omega
  obtain ⟨NN, hNN⟩ : ∃ NN : Nat, NN = N.toNat := ⟨_, rfl⟩
  have hN1 : NN ≤ 10000 := by omega
  have HLT : Hid (∀ n : Nat, n < NN → (n : Int) < N) := fun n hn => by omega
  have HGE : Hid (∀ n : Nat, ¬ n < NN → ¬ (n : Int) < N) := fun n hn => by omega
  clear hNN hNb
  have HR := hide h
  have HZ := hide hz
  clear h hz hN
  go_enter Tryz.func111, Tryz.ntmps111
  go_upto_region 2 with fail
  obtain ⟨W, hW⟩ : ∃ W, W = ((w.alloc (.cells #[.bool false, .slice none 0 0, .slice none 0 0] 25)).alloc (.cells #[] 3)).alloc (.cells #[.bool c, .slice (some ⟨g1, 0, none⟩) n1 cap1, .slice (some ⟨w.heap.size + 1, 0, none⟩) 0 0] 25) := ⟨_, rfl⟩
  have HD : Hid (DG w pr w.heap.size (w.heap.size + 1 + 1) c (.slice (some ⟨g1, 0, none⟩) n1 cap1) W [] 0 (w.heap.size + 1) 0) := by
    have hb : Below w.heap.size w W := by rw [hW]; exact (((Below.refl _ w).alloc (Nat.le_refl _) _).alloc (by simp) _).alloc (by simp; omega) _
    have b1 : Box W w.heap.size false (.slice none 0 0) (.slice none 0 0) := by rw [hW]; exact ((Box.new w _ _ _).alloc _).alloc _
    have b2 : Box W (w.heap.size + 1 + 1) c (.slice (some ⟨g1, 0, none⟩) n1 cap1) (.slice (some ⟨w.heap.size + 1, 0, none⟩) 0 0) := by
      rw [hW]
      have := Box.new ((w.alloc (.cells #[.bool false, .slice none 0 0, .slice none 0 0] 25)).alloc (.cells #[] 3)) c (.slice (some ⟨g1, 0, none⟩) n1 cap1) (.slice (some ⟨w.heap.size + 1, 0, none⟩) 0 0)
      rw [World.size_alloc, World.size_alloc] at this
      exact this
    have b3 : Blk W (w.heap.size + 1) [] := by
      rw [hW]
      have := Blk.new (w.alloc (.cells #[.bool false, .slice none 0 0, .slice none 0 0] 25))
      rw [World.size_alloc] at this
      exact this.alloc _
    exact ⟨b2, b3.owns (by omega), b1, (unhide HR).below hb, But.of_below hb, Nat.le_refl _, by omega, hlw⟩
  rw [← hW]
  clear hW
  have HZW : Hid (Row W (some ⟨g1, 0, none⟩) n1 zs) := (unhide HD).but.row (unhide HZ) (by rintro k rfl hk; exact hgp (at_eq hk))
  generalize w.heap.size + 1 + 1 = p7 at *
  generalize w.heap.size + 1 = g0 at *
  go_upto_region 3 with (go_at_call 41; refine (l3Count_eq _ _ _ zs _ (unhide HZW) _ HN).mono ?_; rintro e wq ⟨rfl, hwq⟩; obtain rfl := hwq.symm)
  clear HZW HR HZ
  go_wp2_with fail
  go_loopw [9] (fun i wr => ∃ (n g cap : Nat) (l : List Int), n ≤ NN ∧ i = .int .i64 (n : Nat) ∧ Hid (DG w pr w.heap.size p7 c (.slice (some ⟨g1, 0, none⟩) n1 cap1) wr l n g cap)) (fun i _ => NN - (intOf i).toNat)
  case atStart => exact ⟨0, g0, 0, [], Nat.zero_le _, rfl, HD⟩
  case round =>
    clear HD
    obtain ⟨n, g, cap, l, hn, rfl, hd⟩ := hrel
    by_cases hlt : n < NN
    · have hnz : (n : Int) < N := unhide HLT n hlt
      have hcall := l3Num_any pr wr (unhide hd).rd
      go_upto_if 24 with (go_at_call 141; refine hcall.mono ?_; rintro e w2 ⟨⟨v, hv1, hv2, rfl⟩, hr2, hb2⟩; have HD2 := hide ((unhide hd).next hb2 hr2); clear hr2 hb2)
      clear hd hcall
      go_cut [10] (fun v wx => (∃ x : Int, v = .int .i64 x) ∧ Below w2.heap.size w2 wx)
      case first =>
        cases c with
        | true =>
          obtain ⟨y, hy⟩ : ∃ y : Nat, (y : Int) = v + 1000000000000000 := ⟨(v + 1000000000000000).toNat, by omega⟩
          obtain ⟨j, hj, q1, q2⟩ := modN y 8 (by omega)
          have q1' : (y : Int).tmod 8 = (j : Int) := q1
          have q2' : (y : Int) % 8 = (j : Int) := q2
          have hyb : y ≤ 2000000000000000 := by omega
          have hw0 : v + 1000000000000000 = (y : Int) := hy.symm
          have hw1 : IntKind.i64.wrap (y : Int) = (y : Int) := by rw [IntKind.wrap_i64]; omega
          have hw2 : IntKind.i64.wrap (j : Int) = (j : Int) := by rw [IntKind.wrap_i64]; omega
          have hc := lits w2 [97, 98, 99, 32, 9077, 120, 128512, 233] j (by simpa using hj)
          obtain ⟨x, hx⟩ : ∃ x, x = ([97, 98, 99, 32, 9077, 120, 128512, 233] : List Int).getD j 0 := ⟨_, rfl⟩
          rw [← hx] at hc
          simp only [List.map_cons, List.map_nil] at hc
          have hjz : (j : Int) < 8 := by omega
          clear hx q1 q2 hy hv1 hv2
          go_wp2_with fail
          go_meet
          case rel => exact ⟨⟨x, rfl⟩, (Below.refl _ _).alloc (Nat.le_refl _) _⟩
        | false =>
          go_wp2_with fail
          go_meet
          case rel => exact ⟨⟨v, rfl⟩, Below.refl _ _⟩
      case rest =>
        obtain ⟨w3, hw3⟩ : ∃ x, x = wc := ⟨_, rfl⟩
        subst hw3
        obtain ⟨⟨x, rfl⟩, hb3⟩ := hcut
        have HD3 := hide ((unhide HD2).below hb3)
        clear HD2 hb3
        obtain ⟨y0, y1, y2, y3, y4, y5, y6⟩ := (unhide HD3).box.all
        have hsz3 := (unhide HD3).but.size
        go_wp2_with (at_builtin; refine wpList_append_lies _ rfl _ _ 23 rfl w.heap.size 3 i0 (.int .i64 0) 1 8 Tryz.underlying23 hi hz0 hz1 hz2 rfl (by decide) _ _ _ rfl (owns_below (unhide HD3).owns (Nat.le_refl _) ((Below.refl _ _).alloc (Nat.le_refl _) _)) ⟨w3.heap.size, 0, none⟩ 1 1 [.int .i64 x] rfl rfl (cells_new _ _) (one_one _) (by omega) (by unfold maxLen; omega) (by omega) (by simp; omega) (w3.heap.size + 1) (by simp) ?_; intro g' cap' w7 hown' hgrow hat hlt7; have HD7 := hide ((unhide HD3).push hown' hgrow); clear hown' hgrow hat hlt7 y0 y1 y2 y3 y4 y5 y6; obtain ⟨y0, y1, y2, y3, y4, y5, y6⟩ := (unhide HD7).1.all)
        go_roundw
        case rel => exact ⟨n + 1, g', cap', l ++ [x], by omega, by go_num, hide (unhide HD7).2⟩
        case measure => simp [intOf]; omega
    · have hnz := unhide HGE n hlt
      have hd' := unhide hd
      obtain ⟨y0, y1, y2, y3, y4, y5, y6⟩ := hd'.box.all
      obtain ⟨q0, q1, q2, q3, q4, q5, q6⟩ := hd'.res.all
      clear hd'
      go_wp2_with fail
      have hx := (unhide hd).res.sets (c' := c) (u1 := .slice (some ⟨g1, 0, none⟩) n1 cap1) (u2 := .slice (some ⟨g, 0, none⟩) n cap)
      obtain ⟨r0, r1, r2, _, _, _⟩ := hx.all
      refine bodyPost_ret (v := .agg #[.bool c, .slice (some ⟨g1, 0, none⟩) n1 cap1, .slice (some ⟨g, 0, none⟩) n cap]) (by simp [results, Tryz.results111, go_sem, r0, r1, r2]) rfl ?_
      have hs : But (fun x => x = w.heap.size) wr (((wr.setCell ⟨w.heap.size, 0, none⟩ (.bool c)).setCell ⟨w.heap.size, 1, none⟩ (.slice (some ⟨g1, 0, none⟩) n1 cap1)).setCell ⟨w.heap.size, 2, none⟩ (.slice (some ⟨g, 0, none⟩) n cap)) := (((But.refl (fun x => x = w.heap.size) wr).setCell (p := ⟨w.heap.size, 0, none⟩) rfl _).setCell (p := ⟨w.heap.size, 1, none⟩) rfl _).setCell (p := ⟨w.heap.size, 2, none⟩) rfl _
      exact ⟨⟨g, n, cap, l, rfl, by omega, owns_but (unhide hd).owns hs (owns_nebox (unhide hd).owns (unhide hd).res)⟩, (unhide hd).rd.but hs (by rintro k rfl; omega), (((unhide hd).but.setNew (p := ⟨w.heap.size, 0, none⟩) (Nat.le_refl _) _).setNew (p := ⟨w.heap.size, 1, none⟩) (Nat.le_refl _) _).setNew (p := ⟨w.heap.size, 2, none⟩) (Nat.le_refl _) _⟩

end Go.Proofs.YtkgcmpmgaghdhaaGreatDoor
namespace Go.Proofs.YtkgcmpmgaghdhaaGreatDoor
open Go.RowKit

theorem madeList (z : Value) (n : Nat) : madeCells #[z] n = (List.replicate n z).toArray := by
  apply Array.toList_inj.mp
  simpa using toList_madeCells_one z n

theorem Blk.made (w : World) (n g : Nat) (hg : g = w.heap.size) : Blk (w.alloc (.cells (madeCells #[.int .i64 0] n) 3)) g (List.replicate n 0) := by
  subst hg
  show (w.heap.push _)[w.heap.size]? = _
  rw [madeList]
  simp

end Go.Proofs.YtkgcmpmgaghdhaaGreatDoor
namespace Go.Proofs.YtkgcmpmgaghdhaaGreatDoor
open Go.RowKit

/-- An array of the draw's own lies in box p4, the answer's box p0 is untouched. -/
def AG (w : World) (pr p0 p4 : Nat) (wx : World) : Prop :=
  ∃ (c : Bool) (a1 a2 : Addr) (n1 n2 c1 c2 : Nat) (sh dt : List Int), Box wx p4 c (.slice (some a1) n1 c1) (.slice (some a2) n2 c2) ∧ Own wx w.heap.size (some a1) n1 sh ∧ Own wx w.heap.size (some a2) n2 dt ∧ n1 ≤ 6 ∧ n2 ≤ 10001 ∧ RdOk wx pr ∧ But (fun x => x = pr) w wx ∧ Box wx p0 false (.slice none 0 0) (.slice none 0 0)

theorem ag_set {w wx : World} {pr p0 p4 : Nat} {c c' : Bool} {v1 v2 : Value} {a1 a2 : Addr} {n1 n2 c1 c2 : Nat} {sh dt : List Int} (hb : Box wx p4 c v1 v2) (o1 : Own wx w.heap.size (some a1) n1 sh) (o2 : Own wx w.heap.size (some a2) n2 dt) (ne1 : ∀ k, At (some a1) n1 k → k ≠ p4) (ne2 : ∀ k, At (some a2) n2 k → k ≠ p4) (h1 : n1 ≤ 6) (h2 : n2 ≤ 10001) (hr : RdOk wx pr) (hbut : But (fun x => x = pr) w wx) (h0 : Box wx p0 false (.slice none 0 0) (.slice none 0 0)) (hp4 : w.heap.size ≤ p4) (hpr : pr < w.heap.size) (hne : p0 ≠ p4) :
    AG w pr p0 p4 (((wx.setCell ⟨p4, 0, none⟩ (.bool c')).setCell ⟨p4, 1, none⟩ (.slice (some a1) n1 c1)).setCell ⟨p4, 2, none⟩ (.slice (some a2) n2 c2)) := by
  have hs : But (fun x => x = p4) wx (((wx.setCell ⟨p4, 0, none⟩ (.bool c')).setCell ⟨p4, 1, none⟩ (.slice (some a1) n1 c1)).setCell ⟨p4, 2, none⟩ (.slice (some a2) n2 c2)) := (((But.refl (fun x => x = p4) wx).setCell (p := ⟨p4, 0, none⟩) rfl _).setCell (p := ⟨p4, 1, none⟩) rfl _).setCell (p := ⟨p4, 2, none⟩) rfl _
  exact ⟨c', a1, a2, n1, n2, c1, c2, sh, dt, hb.sets, hs.own o1 (by rintro k rfl hk; exact ne1 _ hk rfl), hs.own o2 (by rintro k rfl hk; exact ne2 _ hk rfl), h1, h2, hr.but hs (by rintro k rfl; omega), ((hbut.setNew (p := ⟨p4, 0, none⟩) hp4 _).setNew (p := ⟨p4, 1, none⟩) hp4 _).setNew (p := ⟨p4, 2, none⟩) hp4 _, h0.but hs (by show ¬ p0 = p4; exact hne)⟩

theorem own_of_lits (w : World) (B : Nat) (l : List Int) (hB : B ≤ w.heap.size) (hl : l.length ≤ 100) : Own (w.alloc (.cells (l.map (Value.int .i64)).toArray 3)) B (some ⟨w.heap.size, 0, none⟩) l.length l :=
  (show Blk (w.alloc _) w.heap.size l from World.alloc_heap_new w _).own rfl (by omega) hB

theorem divN (k m : Nat) : ∃ j : Nat, j = k / m ∧ (k : Int).tdiv (m : Int) = (j : Int) ∧ (k : Int) / (m : Int) = (j : Int) := ⟨k / m, rfl, by rw [Int.tdiv_eq_ediv_of_nonneg (by omega)]; rfl, rfl⟩

theorem Own.take {w : World} {B n m : Nat} {a : Option Addr} {zs : List Int} (h : Own w B a n zs) (hm : m ≤ n) : Own w B a m (zs.take m) := by
  refine ⟨by rw [List.length_take, h.len]; omega, by have := h.small; omega, ?_⟩
  rcases h.at_ with h0 | ⟨b, off, e, hb, hlt, hc, hf⟩
  · exact .inl (by omega)
  · refine .inr ⟨b, off, e, hb, hlt, fun i hi => ?_, fun i hi => hf i (by omega)⟩
    rw [hc i (by omega)]
    simp [List.getD, hi]

theorem box_set1 {w : World} {p : Nat} {c : Bool} {v1 v2 : Value} (h : Box w p c v1 v2) (v : Value) : Box (w.setCell ⟨p, 1, none⟩ v) p c v v2 := by
  unfold Box at h ⊢
  rw [heap_setCell_same w p 1 _ _ _ h]
  simp

/-- What is known of the array before it is spoilt. -/
structure AW (w : World) (pr p0 p4 : Nat) (c : Bool) (g1 g2 n1 n2 c1 c2 : Nat) (sh dt : List Int) (wx : World) : Prop where
  box : Box wx p4 c (.slice (some ⟨g1, 0, none⟩) n1 c1) (.slice (some ⟨g2, 0, none⟩) n2 c2)
  o1 : wx.ownsRow w.heap.size 3 1 (.slice (some ⟨g1, 0, none⟩) n1 c1) n1 (sh.map (Value.int .i64))
  o2 : wx.ownsRow w.heap.size 3 1 (.slice (some ⟨g2, 0, none⟩) n2 c2) n2 (dt.map (Value.int .i64))
  ne : g1 ≠ g2
  h1 : n1 ≤ 6
  h2 : n2 ≤ 10001
  rd : RdOk wx pr
  but : But (fun x => x = pr) w wx
  b0 : Box wx p0 false (.slice none 0 0) (.slice none 0 0)
  hp : pr < w.heap.size
  h4 : w.heap.size ≤ p4
  h0 : w.heap.size ≤ p0

section
variable {w wx w' : World} {pr p0 p4 g1 g2 n1 n2 c1 c2 : Nat} {c : Bool} {sh dt : List Int}
theorem AW.ag (h : AW w pr p0 p4 c g1 g2 n1 n2 c1 c2 sh dt wx) : AG w pr p0 p4 wx := by
  obtain ⟨_, _, e1, q1⟩ := Own.of_owns h.o1 (by have := h.h1; omega)
  obtain ⟨_, _, e2, q2⟩ := Own.of_owns h.o2 (by have := h.h2; omega)
  cases e1
  cases e2
  exact ⟨c, _, _, n1, n2, c1, c2, sh, dt, h.box, q1, q2, h.h1, h.h2, h.rd, h.but, h.b0⟩

theorem AW.next (h : AW w pr p0 p4 c g1 g2 n1 n2 c1 c2 sh dt wx) (hb : But (fun x => x = pr) wx w') (hr : RdOk w' pr) : AW w pr p0 p4 c g1 g2 n1 n2 c1 c2 sh dt w' :=
  ⟨h.box.but hb (by have := h.h4; have := h.hp; show ¬ p4 = pr; omega), owns_but h.o1 hb (by have := owns_from h.o1; have := h.hp; show ¬ g1 = pr; omega), owns_but h.o2 hb (by have := owns_from h.o2; have := h.hp; show ¬ g2 = pr; omega), h.ne, h.h1, h.h2, hr, (h.but.trans hb).mono (by rintro x (h | h) <;> exact h), h.b0.but hb (by have := h.h0; have := h.hp; show ¬ p0 = pr; omega), h.hp, h.h4, h.h0⟩

theorem AW.p04 (h : AW w pr p0 p4 c g1 g2 n1 n2 c1 c2 sh dt wx) : p0 ≠ p4 := by
  intro e
  subst e
  have h1 := h.box
  have h2 := h.b0
  unfold Box at h1 h2
  rw [h1] at h2
  simp at h2

theorem AW.below (h : AW w pr p0 p4 c g1 g2 n1 n2 c1 c2 sh dt wx) (hb : Below wx.heap.size wx w') : AW w pr p0 p4 c g1 g2 n1 n2 c1 c2 sh dt w' := h.next (But.of_below hb) (h.rd.below hb)

/-- One number more behind the shape. -/
theorem AW.push1 {g' cap' : Nat} {x : Int} {o : Obj} (h : AW w pr p0 p4 c g1 g2 n1 n2 c1 c2 sh dt wx) (hn : n1 ≤ 5) (hown : w'.ownsRow w.heap.size 3 1 (.slice (some ⟨g', 0, none⟩) (n1 + 1) cap') (n1 + 1) (sh.map (Value.int .i64) ++ [.int .i64 x])) (hg : (wx.alloc o).grownBy w' (Value.ownBlock (.slice (some ⟨g1, 0, none⟩) n1 c1))) :
    Box w' p4 c (.slice (some ⟨g1, 0, none⟩) n1 c1) (.slice (some ⟨g2, 0, none⟩) n2 c2) ∧ AG w pr p0 p4 (w'.setCell ⟨p4, 1, none⟩ (.slice (some ⟨g', 0, none⟩) (n1 + 1) cap')) := by
  have hg' : (wx.alloc o).grownBy w' (some g1) := hg
  have hb6 := h.box.grown h.o1 o hg
  have h06 := h.b0.grown h.o1 o hg
  obtain ⟨hrd, hbt⟩ := draw_grown h.rd h.but h.hp (owns_from h.o1) hg'
  have o26 := owns_but h.o2 (but_grown hg') (fun e => h.ne e.symm)
  have hs : But (fun x => x = p4) w' (w'.setCell ⟨p4, 1, none⟩ (.slice (some ⟨g', 0, none⟩) (n1 + 1) cap')) := (But.refl (fun x => x = p4) w').setCell (p := ⟨p4, 1, none⟩) rfl _
  rw [show sh.map (Value.int .i64) ++ [.int .i64 x] = (sh ++ [x]).map (Value.int .i64) by simp] at hown
  obtain ⟨_, _, e1, q1⟩ := Own.of_owns (owns_but hown hs (owns_nebox hown hb6)) (by omega)
  obtain ⟨_, _, e2, q2⟩ := Own.of_owns (owns_but o26 hs (owns_nebox o26 hb6)) (by have := h.h2; omega)
  cases e1
  cases e2
  have hp4 := h.h4
  have hp := h.hp
  exact ⟨hb6, c, _, _, n1 + 1, n2, cap', c2, sh ++ [x], dt, box_set1 hb6 _, q1, q2, by omega, h.h2, hrd.but hs (by rintro k rfl; omega), hbt.setNew (p := ⟨p4, 1, none⟩) hp4 _, h06.but hs (by show ¬ p0 = p4; exact h.p04)⟩

/-- One element more behind the elements. -/
theorem AW.push2 {g' cap' : Nat} {x : Int} {o : Obj} (h : AW w pr p0 p4 c g1 g2 n1 n2 c1 c2 sh dt wx) (hn : n2 ≤ 10000) (hown : w'.ownsRow w.heap.size 3 1 (.slice (some ⟨g', 0, none⟩) (n2 + 1) cap') (n2 + 1) (dt.map (Value.int .i64) ++ [.int .i64 x])) (hg : (wx.alloc o).grownBy w' (Value.ownBlock (.slice (some ⟨g2, 0, none⟩) n2 c2))) :
    Box w' p4 c (.slice (some ⟨g1, 0, none⟩) n1 c1) (.slice (some ⟨g2, 0, none⟩) n2 c2) ∧ AG w pr p0 p4 (w'.setCell ⟨p4, 2, none⟩ (.slice (some ⟨g', 0, none⟩) (n2 + 1) cap')) := by
  have hg' : (wx.alloc o).grownBy w' (some g2) := hg
  have hb6 := h.box.grown h.o2 o hg
  have h06 := h.b0.grown h.o2 o hg
  obtain ⟨hrd, hbt⟩ := draw_grown h.rd h.but h.hp (owns_from h.o2) hg'
  have o16 := owns_but h.o1 (but_grown hg') h.ne
  have hs : But (fun x => x = p4) w' (w'.setCell ⟨p4, 2, none⟩ (.slice (some ⟨g', 0, none⟩) (n2 + 1) cap')) := (But.refl (fun x => x = p4) w').setCell (p := ⟨p4, 2, none⟩) rfl _
  rw [show dt.map (Value.int .i64) ++ [.int .i64 x] = (dt ++ [x]).map (Value.int .i64) by simp] at hown
  obtain ⟨_, _, e1, q1⟩ := Own.of_owns (owns_but o16 hs (owns_nebox o16 hb6)) (by have := h.h1; omega)
  obtain ⟨_, _, e2, q2⟩ := Own.of_owns (owns_but hown hs (owns_nebox hown hb6)) (by omega)
  cases e1
  cases e2
  have hp4 := h.h4
  have hp := h.hp
  exact ⟨hb6, c, _, _, n1, n2 + 1, c1, cap', sh, dt ++ [x], hb6.set2 _, q1, q2, h.h1, by omega, hrd.but hs (by rintro k rfl; omega), hbt.setNew (p := ⟨p4, 2, none⟩) hp4 _, h06.but hs (by show ¬ p0 = p4; exact h.p04)⟩
end

set_option maxRecDepth 20000 in
set_option maxHeartbeats 8000000 in
theorem l3Array_any (pr : Nat) (w : World) (h : RdOk w pr) :
    Calls Tryz.prog 40 #[.pointer (some ⟨pr, 0, none⟩)] w fun e w' => (∃ (c : Bool) (a1 a2 : Addr) (n1 n2 c1 c2 : Nat) (sh dt : List Int), e = .returned (.agg #[.bool c, .slice (some a1) n1 c1, .slice (some a2) n2 c2]) ∧ Own w' w.heap.size (some a1) n1 sh ∧ Own w' w.heap.size (some a2) n2 dt ∧ n1 ≤ 6 ∧ n2 ≤ 10001) ∧ RdOk w' pr ∧ But (fun x => x = pr) w w' := by
  have hlw := h.lt
  obtain ⟨i0, hi, hz0, hz1, hz2⟩ := info_parts info_int
  have hb0 : Below w.heap.size w (w.alloc (.cells #[.bool false, .slice none 0 0, .slice none 0 0] 25)) := (Below.refl _ w).alloc (Nat.le_refl _) _
  have HP0 : Hid (Box (w.alloc (.cells #[.bool false, .slice none 0 0, .slice none 0 0] 25)) w.heap.size false (.slice none 0 0) (.slice none 0 0)) := Box.new w _ _ _
  have HBB : Hid (But (fun x => x = pr) w (w.alloc (.cells #[.bool false, .slice none 0 0, .slice none 0 0] 25))) := But.of_below hb0
  have hcall := next_any pr _ (h.below hb0)
  clear h hb0
  go_enter Tryz.func40, Tryz.ntmps40
  go_upto_region 2 with (go_at_call 72; refine hcall.mono ?_; rintro e w1 ⟨⟨k, hk, rfl⟩, hr1, hb1⟩; have HR1 := hide hr1; have HB1' := hide hb1; clear hr1 hb1)
  clear hcall
  have HP1 := hide ((unhide HP0).but (unhide HB1') (by show ¬ w.heap.size = pr; omega))
  have HB1 : Hid (But (fun x => x = pr) w w1) := ((unhide HBB).trans (unhide HB1')).mono (by rintro x (h | h) <;> exact h)
  clear HP0 HBB HB1'
  obtain ⟨j5, hj5, q5, q5'⟩ := modN k 5 (by omega)
  have r5 : (k : Int).tmod 5 = (j5 : Int) := q5
  have r5' : (k : Int) % 5 = (j5 : Int) := q5'
  obtain ⟨bc, hbc⟩ : ∃ bc, ((j5 : Int) == 4) = bc := ⟨_, rfl⟩
  have hcS := l3Shape_any pr w1 (unhide HR1)
  have hw1 := (unhide HP1).lt
  clear q5 q5'
  go_upto_region 3 with (first
    | (go_at_call 112; refine hcS.mono ?_; rintro e w2 ⟨⟨g1, n1, cap1, zs, rfl, hn1, ho1⟩, hr2, hb2⟩; obtain ⟨_, _, ev, hO1⟩ := Own.of_owns ho1 (by omega); cases ev; have HR2 := hide hr2; have HB2 := hide hb2; have HO2 := hide ho1; have HQ2 := hide hO1; clear hr2 hb2 ho1 hO1)
    | (go_at_call 111; refine (l3Of_any pr g1 n1 cap1 bc zs _ (unhide HR2) (unhide HQ2).row (by have := owns_from (unhide HO2); have := (unhide HR1).lt; omega)).mono ?_; rintro e w3 ⟨⟨g2, n2, cap2, dt, rfl, hn2, ho2⟩, hr3, hb3⟩; have HR3 := hide hr3; have HB3 := hide hb3; have HO3 := hide ho2; clear hr3 hb3 ho2))
  clear hcS
  obtain ⟨p4, hp4⟩ : ∃ p, p = w3.heap.size := ⟨_, rfl⟩
  obtain ⟨W4, hW4⟩ : ∃ W, W = w3.alloc (.cells #[.bool bc, .slice (some ⟨g1, 0, none⟩) n1 cap1, .slice (some ⟨g2, 0, none⟩) n2 cap2] 25) := ⟨_, rfl⟩
  have hz12 := (unhide HB2).size
  have hz23 := (unhide HB3).size
  have HAW : Hid (AW w pr w.heap.size p4 bc g1 g2 n1 n2 cap1 cap2 zs dt W4) := by
    have hge1 := owns_from (unhide HO2)
    have hge2 := owns_from (unhide HO3)
    have hg1l : g1 < w2.heap.size := owns_lt (unhide HO2) rfl
    have hprl := (unhide HR1).lt
    have hb4 : Below w3.heap.size w3 W4 := by rw [hW4]; exact (Below.refl _ _).alloc (Nat.le_refl _) _
    refine ⟨by rw [hW4, hp4]; exact Box.new w3 _ _ _, owns_mono (owns_below (owns_but (unhide HO2) (unhide HB3) (by show ¬ g1 = pr; omega)) (Nat.le_refl _) hb4) (by omega), owns_mono (owns_below (unhide HO3) (Nat.le_refl _) hb4) (by omega), by omega, by omega, by omega, (unhide HR3).below hb4, ?_, ?_, hlw, by omega, Nat.le_refl _⟩
    · exact ((((unhide HB1).trans (unhide HB2)).trans (unhide HB3)).trans (T := fun x => x = pr) (But.of_below hb4)).mono (by rintro x (((h | h) | h) | h) <;> exact h)
    · exact (((unhide HP1).but (unhide HB2) (by show ¬ w.heap.size = pr; omega)).but (unhide HB3) (by show ¬ w.heap.size = pr; omega)).below (Nat.le_refl _) hb4
  rw [← hW4, ← hp4]
  clear hW4 hp4 HR1 HR2 HR3 HB1 HB2 HB3 HP1 HO2 HO3 HQ2 hz12 hz23 hw1
  go_upto_if 17 with fail
  go_cut [] (fun wx => AG w pr w.heap.size p4 wx)
  case first =>
    by_cases h246 : 246 ≤ k
    · have h246z : (246 : Int) ≤ (k : Int) := by omega
      have hcall := next_any pr _ (unhide HAW).rd
      go_upto_region 5 with (go_at_call 72; refine hcall.mono ?_; rintro e w5 ⟨⟨v, hv, rfl⟩, hr5, hb5⟩; have HW5 := hide ((unhide HAW).next hb5 hr5); clear hr5 hb5)
      clear hcall HAW
      obtain ⟨j, hj, q6, q6'⟩ := modN v 6 (by omega)
      have r6 : (v : Int).tmod 6 = (j : Int) := q6
      have r6' : (v : Int) % 6 = (j : Int) := q6'
      obtain ⟨d, hd0, qd, qd'⟩ := divN v 6
      have rd' : (v : Int).tdiv 6 = (d : Int) := qd
      have rd'' : (v : Int) / 6 = (d : Int) := qd'
      have hd255 : d ≤ 255 := by rw [hd0]; exact Nat.le_trans (Nat.div_le_self v 6) hv
      clear q6 q6' qd qd' hd0 h246z h246 r5 r5'
      obtain ⟨y0, y1, y2, y3, y4, y5, y6⟩ := (unhide HW5).box.all
      have hsz5 := (unhide HW5).but.size
      have hn25 := (unhide HW5).h2
      by_cases e0 : j = 0
      · have g0 : ((j : Int) == 0) = true := by simp [e0]
        clear e0
        go_wp2_with (at_builtin; refine wpList_append_lies _ rfl _ _ 23 rfl w.heap.size 3 i0 (.int .i64 0) 1 8 Tryz.underlying23 hi hz0 hz1 hz2 rfl (by decide) _ _ _ rfl (owns_below (unhide HW5).o2 (Nat.le_refl _) ((Below.refl _ _).alloc (Nat.le_refl _) _)) ⟨w5.heap.size, 0, none⟩ 1 1 [.int .i64 1] rfl rfl (cells_new _ _) (one_one _) (by omega) (by unfold maxLen; omega) (by omega) (by simp; omega) (w5.heap.size + 1) (by simp) ?_; intro g' cap' w7 hown' hgrow hat hlt7; have HD7 := hide ((unhide HW5).push2 hn2 hown' hgrow); clear hown' hgrow hat hlt7 y0 y1 y2 y3 y4 y5 y6; obtain ⟨y0, y1, y2, y3, y4, y5, y6⟩ := (unhide HD7).1.all)
        go_meet
        case rel => exact (unhide HD7).2
      · have g0 : ((j : Int) == 0) = false := by simp; omega
        by_cases e1 : j = 1
        · have g1' : ((j : Int) == 1) = true := by simp [e1]
          obtain ⟨t4, ht4, qt, qt'⟩ := modN d 4 (by omega)
          have rt : (d : Int).tmod 4 = (t4 : Int) := qt
          have rt' : (d : Int) % 4 = (t4 : Int) := qt'
          have hwt : IntKind.i64.wrap (t4 : Int) = (t4 : Int) := by rw [IntKind.wrap_i64]; omega
          obtain ⟨x, hx⟩ : ∃ x, x = ([1, 0, -1, 10001] : List Int).getD t4 0 := ⟨_, rfl⟩
          have hc : ∀ W : World, (W.alloc (.cells #[.int .i64 1, .int .i64 0, .int .i64 (-1), .int .i64 10001] 3)).cell? ⟨W.heap.size, t4, none⟩ = some (.int .i64 x) := fun W => by
            rw [hx]; exact lits W [1, 0, -1, 10001] t4 (by simpa using ht4)
          have hc1 := hc w5
          have hc2 := hc w5.drew
          have HRD1 := hide rd'
          have HRT1 := hide rt
          have hn15 : n1 ≤ 5 := hn1
          have hnw : ∀ (u : Int) (j : Nat) (y : Value), ([.int .i64 u] : List Value)[j]? = some y → ((w5.alloc (.cells #[.int .i64 1, .int .i64 0, .int .i64 (-1), .int .i64 10001] 3)).alloc (.cells #[.int .i64 u] 3)).cell? ((⟨w5.heap.size + 1, 0, none⟩ : Addr).add j) = some y := fun u => by
            have h := cells_new (w5.alloc (.cells #[.int .i64 1, .int .i64 0, .int .i64 (-1), .int .i64 10001] 3)) u
            rw [World.size_alloc] at h
            exact h
          have HY : Hid (AW w pr w.heap.size p4 bc g1 g2 n1 n2 cap1 cap2 zs dt (w5.alloc (.cells #[.int .i64 1, .int .i64 0, .int .i64 (-1), .int .i64 10001] 3)).drew) := (unhide HW5).below (((Below.refl _ _).alloc (Nat.le_refl _) _).drew)
          clear hx qt qt' hc
          go_upto_region 9 with fail
          have htz0 : (0 : Int) ≤ (t4 : Int) := by omega
          have htz2 : (t4 : Int) < 4 := by omega
          have rd3 : (v : Int).tdiv 6 = (d : Int) := unhide HRD1
          have rt3 : (d : Int).tmod 4 = (t4 : Int) := unhide HRT1
          have hwd : IntKind.i64.wrap (d : Int) = (d : Int) := by rw [IntKind.wrap_i64]; omega
          go_region_law (first | (refine step_append_lies _ (by rfl) _ _ _ (by rfl) w.heap.size 3 i0 _ 1 8 Tryz.underlying23 hi hz0 hz1 hz2 rfl (by omega) (.slice (some ⟨g1, 0, none⟩) n1 cap1) n1 (zs.map (Value.int .i64)) (by rfl) (by exact (unhide HY).o1.alloc _) ⟨w5.heap.size + 1, 0, none⟩ 1 1 [.int .i64 x] (by rfl) (by rfl) (by exact hnw _) (one_one _) (by omega) (by unfold maxLen; omega) (by omega) (by simp; omega) (w5.heap.size + 2) (by simp) ?_; intro g' cap' w7 hown' hgrow hat hlt7; have HD7 := hide ((unhide HY).push1 hn15 hown' (by exact hgrow)); clear hown' hgrow hat hlt7 y0 y1 y2 y3 y4 y5 y6; obtain ⟨y0, y1, y2, y3, y4, y5, y6⟩ := (unhide HD7).1.all))
          all_goals go_wp2_with fail
          all_goals (go_meet; case rel => exact (unhide HD7).2)
        · have g1' : ((j : Int) == 1) = false := by simp; omega
          by_cases e2 : j = 2
          · have g2' : ((j : Int) == 2) = true := by simp [e2]
            obtain ⟨t2, ht2, qt, qt'⟩ := modN d 2 (by omega)
            have rt : (d : Int).tmod 2 = (t2 : Int) := qt
            have rt' : (d : Int) % 2 = (t2 : Int) := qt'
            obtain ⟨nn, hnn⟩ : ∃ nn : Nat, nn = 10000 + t2 := ⟨_, rfl⟩
            have hsum : (10000 : Int) + (t2 : Int) = (nn : Int) := by omega
            have hnb : nn ≤ 10001 := by omega
            have hwn : IntKind.i64.wrap (nn : Int) = (nn : Int) := by rw [IntKind.wrap_i64]; omega
            have hmk := run_make_row' (P := Tryz.prog) 23 3 (.int .i64 0) 8 Tryz.underlying23 info_int rfl .i64 .i64 nn (by omega) (by omega)
            clear qt qt' hnn e0 e1 e2
            go_wp2_with fail
            go_meet
            case rel =>
              obtain ⟨X, hX⟩ : ∃ X, X = ((w5.setCell ⟨p4, 0, none⟩ (.bool false)).setCell ⟨p4, 1, none⟩ (.slice (some ⟨w5.heap.size, 0, none⟩) 1 1)).setCell ⟨p4, 2, none⟩ (.slice (some ⟨w5.heap.size + 1, 0, none⟩) nn nn) := ⟨_, rfl⟩
              have hXs : X.heap.size = w5.heap.size := by rw [hX]; simp
              have hs : But (fun x => x = p4) w5 X := by rw [hX]; exact (((But.refl (fun x => x = p4) w5).setCell (p := ⟨p4, 0, none⟩) rfl _).setCell (p := ⟨p4, 1, none⟩) rfl _).setCell (p := ⟨p4, 2, none⟩) rfl _
              have hbx : Box X p4 false (.slice (some ⟨w5.heap.size, 0, none⟩) 1 1) (.slice (some ⟨w5.heap.size + 1, 0, none⟩) nn nn) := by rw [hX]; exact (unhide HW5).box.sets
              have hbt : But (fun x => x = pr) w X := by rw [hX]; exact (((unhide HW5).but.setNew (p := ⟨p4, 0, none⟩) (unhide HW5).h4 _).setNew (p := ⟨p4, 1, none⟩) (unhide HW5).h4 _).setNew (p := ⟨p4, 2, none⟩) (unhide HW5).h4 _
              rw [← hX]
              have h44 := (unhide HW5).h4
              have hpp := (unhide HW5).hp
              have hrd := (unhide HW5).rd.but hs (by rintro k rfl; omega)
              have hb0 := (unhide HW5).b0.but hs (by show ¬ w.heap.size = p4; exact (unhide HW5).p04)
              have b1 : Blk ((X.alloc (.cells #[.int .i64 (nn : Nat)] 3)).alloc (.cells (madeCells #[.int .i64 0] nn) 3)) w5.heap.size [(nn : Int)] := by rw [← hXs]; exact (show Blk (X.alloc _) X.heap.size [(nn : Int)] from World.alloc_heap_new X _).alloc _
              have b2 : Blk ((X.alloc (.cells #[.int .i64 (nn : Nat)] 3)).alloc (.cells (madeCells #[.int .i64 0] nn) 3)) (w5.heap.size + 1) (List.replicate nn 0) := Blk.made _ _ _ (by simp [hXs])
              have hbw : Below X.heap.size X ((X.alloc (.cells #[.int .i64 (nn : Nat)] 3)).alloc (.cells (madeCells #[.int .i64 0] nn) 3)) := ((Below.refl _ X).alloc (Nat.le_refl _) _).alloc (by simp) _
              refine ⟨false, ⟨w5.heap.size, 0, none⟩, ⟨w5.heap.size + 1, 0, none⟩, 1, nn, 1, nn, [(nn : Int)], List.replicate nn 0, hbx.below (Nat.le_refl _) hbw, b1.own rfl (by omega) (by omega), b2.own (by simp) (by omega) (by omega), by omega, hnb, hrd.below hbw, ?_, hb0.below (Nat.le_refl _) hbw⟩
              exact (hbt.trans (T := fun x => x = pr) (But.of_below hbw)).mono (by rintro x (h | h) <;> exact h)
          · have g2' : ((j : Int) == 2) = false := by simp; omega
            by_cases e3 : j = 3
            · have g3' : ((j : Int) == 3) = true := by simp [e3]
              obtain ⟨t2, ht2, qt, qt'⟩ := modN d 2 (by omega)
              have rt : (d : Int).tmod 2 = (t2 : Int) := qt
              have rt' : (d : Int) % 2 = (t2 : Int) := qt'
              obtain ⟨nn, hnn⟩ : ∃ nn : Nat, nn = 5 + t2 := ⟨_, rfl⟩
              have hsum : (5 : Int) + (t2 : Int) = (nn : Int) := by omega
              have hnb : nn ≤ 6 := by omega
              have hnz : (nn : Int) ≤ 6 := by omega
              have hwn : IntKind.i64.wrap (nn : Int) = (nn : Int) := by rw [IntKind.wrap_i64]; omega
              have hp4l := (unhide HW5).box.lt
              clear qt qt' hnn e0 e1 e2 e3
              go_wp2_with fail
              go_meet
              case rel =>
                obtain ⟨X, hX⟩ : ∃ X, X = (w5.setCell ⟨p4, 1, none⟩ (.slice (some ⟨w5.heap.size, 0, none⟩) nn 6)).setCell ⟨p4, 2, none⟩ (.slice (some ⟨w5.heap.size + 1, 0, none⟩) 1 1) := ⟨_, rfl⟩
                have hXs : X.heap.size = w5.heap.size := by rw [hX]; simp
                have hs : But (fun x => x = p4) w5 X := by rw [hX]; exact ((But.refl (fun x => x = p4) w5).setCell (p := ⟨p4, 1, none⟩) rfl _).setCell (p := ⟨p4, 2, none⟩) rfl _
                have hbx : Box X p4 bc (.slice (some ⟨w5.heap.size, 0, none⟩) nn 6) (.slice (some ⟨w5.heap.size + 1, 0, none⟩) 1 1) := by rw [hX]; exact (box_set1 (unhide HW5).box _).set2 _
                have hbt : But (fun x => x = pr) w X := by rw [hX]; exact ((unhide HW5).but.setNew (p := ⟨p4, 1, none⟩) (unhide HW5).h4 _).setNew (p := ⟨p4, 2, none⟩) (unhide HW5).h4 _
                rw [← hX]
                have h44 := (unhide HW5).h4
                have hpp := (unhide HW5).hp
                have hrd := (unhide HW5).rd.but hs (by rintro k rfl; omega)
                have hb0 := (unhide HW5).b0.but hs (by show ¬ w.heap.size = p4; exact (unhide HW5).p04)
                have b1 : Own ((X.alloc (.cells #[.int .i64 1, .int .i64 1, .int .i64 1, .int .i64 1, .int .i64 1, .int .i64 1] 3)).alloc (.cells #[.int .i64 1] 3)) w.heap.size (some ⟨w5.heap.size, 0, none⟩) 6 [1, 1, 1, 1, 1, 1] := by
                  rw [← hXs]
                  exact ((show Blk (X.alloc _) X.heap.size [1, 1, 1, 1, 1, 1] from World.alloc_heap_new X _).alloc _).own rfl (by omega) (by omega)
                have b2 : Blk ((X.alloc (.cells #[.int .i64 1, .int .i64 1, .int .i64 1, .int .i64 1, .int .i64 1, .int .i64 1] 3)).alloc (.cells #[.int .i64 1] 3)) (w5.heap.size + 1) [1] := by
                  have h3 := World.alloc_heap_new (X.alloc (.cells #[.int .i64 1, .int .i64 1, .int .i64 1, .int .i64 1, .int .i64 1, .int .i64 1] 3)) (.cells #[.int .i64 1] 3)
                  rw [World.size_alloc, hXs] at h3
                  exact h3
                have hbw : Below X.heap.size X ((X.alloc (.cells #[.int .i64 1, .int .i64 1, .int .i64 1, .int .i64 1, .int .i64 1, .int .i64 1] 3)).alloc (.cells #[.int .i64 1] 3)) := ((Below.refl _ X).alloc (Nat.le_refl _) _).alloc (by simp) _
                refine ⟨bc, ⟨w5.heap.size, 0, none⟩, ⟨w5.heap.size + 1, 0, none⟩, nn, 1, 6, 1, _, [1], hbx.below (Nat.le_refl _) hbw, b1.take hnb, b2.own rfl (by omega) (by omega), hnb, by omega, hrd.below hbw, ?_, hb0.below (Nat.le_refl _) hbw⟩
                exact (hbt.trans (T := fun x => x = pr) (But.of_below hbw)).mono (by rintro x (h | h) <;> exact h)
            · have g3' : ((j : Int) == 3) = false := by simp; omega
              by_cases en : 0 < n2
              · have enz : (0 : Int) < (n2 : Int) := by omega
                obtain ⟨t5, ht5, qt, qt'⟩ := modN d 5 (by omega)
                have rt : (d : Int).tmod 5 = (t5 : Int) := qt
                have rt' : (d : Int) % 5 = (t5 : Int) := qt'
                have htz : (t5 : Int) < 5 := by omega
                have hwt : IntKind.i64.wrap (t5 : Int) = (t5 : Int) := by rw [IntKind.wrap_i64]; omega
                obtain ⟨x, hx⟩ : ∃ x, x = ([1000000000000001, -1000000000000001, 55296, 1114112, -1] : List Int).getD t5 0 := ⟨_, rfl⟩
                have hc : ∀ W : World, (W.alloc (.cells #[.int .i64 1000000000000001, .int .i64 (-1000000000000001), .int .i64 55296, .int .i64 1114112, .int .i64 (-1)] 3)).cell? ⟨W.heap.size, t5, none⟩ = some (.int .i64 x) := fun W => by
                  rw [hx]; exact lits W [1000000000000001, -1000000000000001, 55296, 1114112, -1] t5 (by simpa using ht5)
                obtain ⟨_, _, ev, hOd⟩ := Own.of_owns (unhide HW5).o2 (by omega)
                cases ev
                rcases hOd.at_ with h | ⟨gg, oo, hgg, hgl, hgs, hce, hfr⟩
                · omega
                cases hgg
                have cd0 := hce 0 en
                have fd0 := hfr 0 en
                simp only [Nat.add_zero] at cd0 fd0
                have hgp4 : g2 ≠ p4 := owns_nebox (unhide HW5).o2 (unhide HW5).box
                have hp4l := (unhide HW5).box.lt
                have HKEEP : ∀ wx, But (fun x => x = g2) w5 wx → wx.cell? ⟨p4, 2, none⟩ = some (.slice (some ⟨g2, 0, none⟩) n2 cap2) := fun wx hwx => (hwx.cellAt hp4l (by show ¬ p4 = g2; omega)).trans (unhide HW5).box.cells.2.2
                have hc1 := hc w5
                have hc2 := hc w5.drew
                have HRD1 := hide rd'
                have HRT1 := hide rt
                clear hx qt qt' hce hfr hc
                go_upto_region 16 with fail
                have htz0 : (0 : Int) ≤ (t5 : Int) := by omega
                have htz2 : (t5 : Int) < 5 := by omega
                have enz2 : (0 : Int) < (n2 : Int) := by omega
                have rd3 : (v : Int).tdiv 6 = (d : Int) := unhide HRD1
                have rt3 : (d : Int).tmod 5 = (t5 : Int) := unhide HRT1
                have hwd : IntKind.i64.wrap (d : Int) = (d : Int) := by rw [IntKind.wrap_i64]; omega
                go_region
                all_goals go_wp2_with fail
                go_meet
                case rel =>
                  obtain ⟨_, _, ev, hO1⟩ := Own.of_owns (unhide HW5).o1 (by have := (unhide HW5).h1; omega)
                  cases ev
                  have hb : But (fun x => x = g2) w5 (w5.setCell ⟨g2, 0, none⟩ (.int .i64 x)) := (But.refl (fun x => x = g2) w5).setCell (p := ⟨g2, 0, none⟩) rfl _
                  have hbw : Below (w5.setCell ⟨g2, 0, none⟩ (.int .i64 x)).heap.size (w5.setCell ⟨g2, 0, none⟩ (.int .i64 x)) ((w5.setCell ⟨g2, 0, none⟩ (.int .i64 x)).alloc (.cells #[.int .i64 1000000000000001, .int .i64 (-1000000000000001), .int .i64 55296, .int .i64 1114112, .int .i64 (-1)] 3)).drew := ((Below.refl _ _).alloc (Nat.le_refl _) _).drew
                  have hge2 := owns_from (unhide HW5).o2
                  have hpp := (unhide HW5).hp
                  have hne := (unhide HW5).ne
                  have hO2 := hOd.set en x
                  simp only [Nat.add_zero] at hO2
                  refine ⟨bc, ⟨g1, 0, none⟩, ⟨g2, 0, none⟩, n1, n2, cap1, cap2, zs, dt.set 0 x, ((unhide HW5).box.but hb (by show ¬ p4 = g2; omega)).below (Nat.le_refl _) hbw, (hb.own hO1 (by rintro k rfl hk; have := at_eq hk; omega)).below (Nat.le_refl _) hbw, hO2.below (Nat.le_refl _) hbw, (unhide HW5).h1, (unhide HW5).h2, ((unhide HW5).rd.but hb (by rintro k rfl; omega)).below hbw, ?_, ((unhide HW5).b0.but hb (by show ¬ w.heap.size = g2; exact (owns_nebox (unhide HW5).o2 (unhide HW5).b0).symm)).below (Nat.le_refl _) hbw⟩
                  exact (((unhide HW5).but.setNew (p := ⟨g2, 0, none⟩) hge2 _).trans (T := fun x => x = pr) (But.of_below hbw)).mono (by rintro x (h | h) <;> exact h)
              · have enz : ¬ (0 : Int) < (n2 : Int) := by omega
                go_wp2_with fail
                go_meet
                case rel => exact (unhide HW5).ag
    · have h246z : ¬ (246 : Int) ≤ (k : Int) := by omega
      go_wp2_with fail
      go_meet
      case rel => exact (unhide HAW).ag
  case rest =>
    obtain ⟨w6, hw6⟩ : ∃ x, x = wc := ⟨_, rfl⟩
    subst hw6
    obtain ⟨c, a1, a2, m1, m2, d1, d2, sh, dt2, hb, o1, o2, hm1, hm2, hrd, hbt, hb0⟩ := hcut
    obtain ⟨y0, y1, y2, y3, y4, y5, y6⟩ := hb.all
    obtain ⟨q0, q1, q2, q3, q4, q5, q6⟩ := hb0.all
    have HB0 := hide hb0
    have HO1 := hide o1
    have HO2 := hide o2
    have HRD := hide hrd
    have HBT := hide hbt
    have HNB : Hid ((∀ k, At (some a1) m1 k → k ≠ w.heap.size) ∧ ∀ k, At (some a2) m2 k → k ≠ w.heap.size) := ⟨fun k hk => o1.row.notBox hb0 hk, fun k hk => o2.row.notBox hb0 hk⟩
    clear hb hb0 o1 o2 hrd hbt HAW
    go_wp2_with fail
    have hx := (unhide HB0).sets (c' := c) (u1 := .slice (some a1) m1 d1) (u2 := .slice (some a2) m2 d2)
    obtain ⟨r0, r1, r2, _, _, _⟩ := hx.all
    refine bodyPost_ret (v := .agg #[.bool c, .slice (some a1) m1 d1, .slice (some a2) m2 d2]) (by simp [results, Tryz.results40, go_sem, r0, r1, r2]) rfl ?_
    have hs : But (fun x => x = w.heap.size) w6 (((w6.setCell ⟨w.heap.size, 0, none⟩ (.bool c)).setCell ⟨w.heap.size, 1, none⟩ (.slice (some a1) m1 d1)).setCell ⟨w.heap.size, 2, none⟩ (.slice (some a2) m2 d2)) := (((But.refl (fun x => x = w.heap.size) w6).setCell (p := ⟨w.heap.size, 0, none⟩) rfl _).setCell (p := ⟨w.heap.size, 1, none⟩) rfl _).setCell (p := ⟨w.heap.size, 2, none⟩) rfl _
    exact ⟨⟨c, a1, a2, m1, m2, d1, d2, sh, dt2, rfl, hs.own (unhide HO1) (by rintro k rfl hk; exact (unhide HNB).1 _ hk rfl), hs.own (unhide HO2) (by rintro k rfl hk; exact (unhide HNB).2 _ hk rfl), hm1, hm2⟩, (unhide HRD).but hs (by rintro k rfl; omega), (((unhide HBT).setNew (p := ⟨w.heap.size, 0, none⟩) (Nat.le_refl _) _).setNew (p := ⟨w.heap.size, 1, none⟩) (Nat.le_refl _) _).setNew (p := ⟨w.heap.size, 2, none⟩) (Nat.le_refl _) _⟩

end Go.Proofs.YtkgcmpmgaghdhaaGreatDoor
namespace Go.Proofs.YtkgcmpmgaghdhaaGreatDoor
open Go.RowKit

/-- A slice of bytes lies in memory. -/
def Bytes (w : World) (a : Option Addr) (n : Nat) : Prop :=
  n = 0 ∨ ∃ b off, a = some ⟨b, off, none⟩ ∧ b < w.heap.size ∧ ∀ i, i < n → ∃ v : Nat, v ≤ 255 ∧ w.cell? ⟨b, off + i, none⟩ = some (.int .u8 (v : Nat))

theorem Bytes.below {w w' : World} {a : Option Addr} {n : Nat} (h : Bytes w a n) (hb : Below w.heap.size w w') : Bytes w' a n := by
  rcases h with h | ⟨b, off, e, hbl, hv⟩
  · exact .inl h
  · refine .inr ⟨b, off, e, by have := hb.size; omega, fun i hi => ?_⟩
    obtain ⟨v, h1, h2⟩ := hv i hi
    exact ⟨v, h1, (hb.cell (p := ⟨b, off + i, none⟩) hbl).trans h2⟩

theorem Bytes.take {w : World} {a : Option Addr} {n m : Nat} (h : Bytes w a n) (hm : m ≤ n) : Bytes w a m := by
  rcases h with h | ⟨b, off, e, hbl, hv⟩
  · exact .inl (by omega)
  · exact .inr ⟨b, off, e, hbl, fun i hi => hv i (by omega)⟩

theorem rd_new {w : World} {a : Option Addr} {n c : Nat} (h : Bytes w a n) (hn : n ≤ 1000) : RdOk (w.alloc (.cells #[.slice a n c, .int .i64 0] 115)) w.heap.size := by
  refine ⟨a, n, c, 0, World.alloc_heap_new w _, hn, Nat.zero_le _, ?_⟩
  rcases h with h | ⟨b, off, e, hbl, hv⟩
  · exact .inl h
  · refine .inr ⟨b, off, e, hbl, fun i hi => ?_⟩
    obtain ⟨v, h1, h2⟩ := hv i hi
    exact ⟨v, h1, (((Below.refl w.heap.size w).alloc (Nat.le_refl _) _).cell (p := ⟨b, off + i, none⟩) hbl).trans h2⟩

set_option maxHeartbeats 2000000 in
theorem l1Open_any (a : Option Addr) (n c : Nat) (w : World) (h : Bytes w a n) (hc : n ≤ c) (hn : n ≤ 1048576) :
    Calls Tryz.prog 38 #[.slice a n c] w fun e w' => ∃ pr, e = .returned (.pointer (some ⟨pr, 0, none⟩)) ∧ RdOk w' pr ∧ w.heap.size ≤ pr ∧ Below w.heap.size w w' := by
  by_cases hlt : 1000 < n
  · have hltz : (1000 : Int) < (n : Int) := by omega
    rcases h with h | ⟨b, off, rfl, hbl, hv⟩
    · omega
    have HBY : Hid (Bytes w (some ⟨b, off, none⟩) 1000) := Bytes.take (n := n) (.inr ⟨b, off, rfl, hbl, hv⟩) (by omega)
    have hc1 : (1000 : Int) ≤ (c : Int) := by omega
    clear hv
    go_enter Tryz.func38, Tryz.ntmps38
    go_wp2_with fail
    refine bodyPost_ret (v := .pointer (some ⟨w.heap.size, 0, none⟩)) (by simp [results, Tryz.results38, go_sem]) rfl ⟨w.heap.size, rfl, rd_new (unhide HBY) (Nat.le_refl _), Nat.le_refl _, (Below.refl _ _).alloc (Nat.le_refl _) _⟩
  · have hltz : ¬ (1000 : Int) < (n : Int) := by omega
    have HBY := hide h
    clear h
    go_enter Tryz.func38, Tryz.ntmps38
    go_wp2_with fail
    refine bodyPost_ret (v := .pointer (some ⟨w.heap.size, 0, none⟩)) (by simp [results, Tryz.results38, go_sem]) rfl ⟨w.heap.size, rfl, rd_new (unhide HBY) (by omega), Nat.le_refl _, (Below.refl _ _).alloc (Nat.le_refl _) _⟩

end Go.Proofs.YtkgcmpmgaghdhaaGreatDoor
namespace Go.Proofs.YtkgcmpmgaghdhaaGreatDoor
open Go.RowKit

/-- What a draw of two arrays gives. -/
def DrawnTwo (w : World) (e : Ending) (w' : World) : Prop := ∃ (c d : Bool) (a1 a2 b1 b2 : Addr) (n1 n2 m1 m2 c1 c2 d1 d2 : Nat) (sh dt sh' dt' : List Int), e = .returned (.tuple #[.agg #[.bool c, .slice (some a1) n1 c1, .slice (some a2) n2 c2], .agg #[.bool d, .slice (some b1) m1 d1, .slice (some b2) m2 d2]]) ∧ Row w' (some a1) n1 sh ∧ Row w' (some a2) n2 dt ∧ Row w' (some b1) m1 sh' ∧ Row w' (some b2) m2 dt' ∧ n1 ≤ 6 ∧ n2 ≤ 10001 ∧ m1 ≤ 6 ∧ m2 ≤ 10001 ∧ Below w.heap.size w w'

/-- The two boxes of the answer are written. -/
theorem drawn2_end {w V : World} {x0 x1 : Bool} {c d : Bool} {a1 a2 b1 b2 : Addr} {n1 n2 m1 m2 c1 c2 d1 d2 : Nat} {sh dt sh' dt' : List Int} (h0 : Box V w.heap.size x0 (.slice none 0 0) (.slice none 0 0)) (h1 : Box V (w.heap.size + 1) x1 (.slice none 0 0) (.slice none 0 0)) (r1 : Row V (some a1) n1 sh) (r2 : Row V (some a2) n2 dt) (q1 : Row V (some b1) m1 sh') (q2 : Row V (some b2) m2 dt') (hn1 : n1 ≤ 6) (hn2 : n2 ≤ 10001) (hm1 : m1 ≤ 6) (hm2 : m2 ≤ 10001) (hl : Below w.heap.size w V) :
    DrawnTwo w (.returned (.tuple #[.agg #[.bool c, .slice (some a1) n1 c1, .slice (some a2) n2 c2], .agg #[.bool d, .slice (some b1) m1 d1, .slice (some b2) m2 d2]]))
      ((((((V.setCell ⟨w.heap.size, 0, none⟩ (.bool c)).setCell ⟨w.heap.size, 1, none⟩ (.slice (some a1) n1 c1)).setCell ⟨w.heap.size, 2, none⟩ (.slice (some a2) n2 c2)).setCell ⟨w.heap.size + 1, 0, none⟩ (.bool d)).setCell ⟨w.heap.size + 1, 1, none⟩ (.slice (some b1) m1 d1)).setCell ⟨w.heap.size + 1, 2, none⟩ (.slice (some b2) m2 d2)) := by
  have hb : But (fun x => x = w.heap.size ∨ x = w.heap.size + 1) V ((((((V.setCell ⟨w.heap.size, 0, none⟩ (.bool c)).setCell ⟨w.heap.size, 1, none⟩ (.slice (some a1) n1 c1)).setCell ⟨w.heap.size, 2, none⟩ (.slice (some a2) n2 c2)).setCell ⟨w.heap.size + 1, 0, none⟩ (.bool d)).setCell ⟨w.heap.size + 1, 1, none⟩ (.slice (some b1) m1 d1)).setCell ⟨w.heap.size + 1, 2, none⟩ (.slice (some b2) m2 d2)) :=
    ((((((But.refl _ V).setCell (p := ⟨w.heap.size, 0, none⟩) (.inl rfl) _).setCell (p := ⟨w.heap.size, 1, none⟩) (.inl rfl) _).setCell (p := ⟨w.heap.size, 2, none⟩) (.inl rfl) _).setCell (p := ⟨w.heap.size + 1, 0, none⟩) (.inr rfl) _).setCell (p := ⟨w.heap.size + 1, 1, none⟩) (.inr rfl) _).setCell (p := ⟨w.heap.size + 1, 2, none⟩) (.inr rfl) _
  have hk : ∀ {a : Option Addr} {n : Nat} {zs : List Int}, Row V a n zs → ∀ x, x = w.heap.size ∨ x = w.heap.size + 1 → ¬ At a n x := fun hr x hx hh => by have := hr.notBox h0 hh; have := hr.notBox h1 hh; omega
  exact ⟨c, d, a1, a2, b1, b2, n1, n2, m1, m2, c1, c2, d1, d2, sh, dt, sh', dt', rfl, hb.row r1 (hk r1), hb.row r2 (hk r2), hb.row q1 (hk q1), hb.row q2 (hk q2), hn1, hn2, hm1, hm2, hl.trans (hb.below hl.size (fun x hx => by omega))⟩

end Go.Proofs.YtkgcmpmgaghdhaaGreatDoor
namespace Go.Proofs.YtkgcmpmgaghdhaaGreatDoor
open Go.RowKit

set_option maxHeartbeats 400000 in
theorem l3Ints_some (ad : Addr) (n cap : Nat) (zs : List Int) (w : World) (h : Row w (some ad) n zs) :
    Calls Tryz.prog 56 #[.slice (some ad) n cap] w fun e w' => ∃ g cap', e = .returned (.slice (some ⟨g, 0, none⟩) n cap') ∧ Own w' w.heap.size (some ⟨g, 0, none⟩) n zs ∧ Below w.heap.size w w' := by
  have hl := h.len
  have hs := h.small
  have H := hide h
  clear h
  obtain ⟨i0, hi, hz0, hz1, hz2⟩ := info_parts info_int
  go_enter Tryz.func56, Tryz.ntmps56
  go_wp2_with (at_builtin; refine wpList_append_own _ rfl _ _ 23 rfl w.heap.size 3 i0 (.int .i64 0) 1 8 Tryz.underlying23 hi hz0 hz1 hz2 rfl (by decide) _ _ _ rfl (owns_empty w) ad n cap (zs.map (Value.int .i64)) rfl (by simpa using hl) (cells_ints ((unhide H).alloc _)) (one_ints zs) (by unfold maxLen; omega) (by omega) (by simp) ?_; intro v1 w1 hown hgrow hnil)
  have hown' : w1.ownsRow w.heap.size 3 1 v1 n (zs.map (Value.int .i64)) := by simpa using hown
  have hsome : ∃ g cap', v1 = .slice (some ⟨g, 0, none⟩) n cap' := by
    rcases hown'.2 with ⟨e, _⟩ | ⟨g, c', cur, e, _⟩
    · have := (hnil.mp e).1
      cases this
    · exact ⟨g, c', e⟩
  obtain ⟨g, cap', rfl⟩ := hsome
  obtain ⟨a', cap'', hv, ho⟩ := Own.of_owns hown' hs
  cases hv
  have hbel : Below w.heap.size w w1 := ((Below.refl _ _).alloc (Nat.le_refl _) _).grown hgrow (by simp) (by intro k hk; cases hk; exact Nat.le_refl _)
  clear hown hgrow hnil
  go_wp2
  go_ret
  exact ⟨_, _, rfl, ho, hbel⟩

end Go.Proofs.YtkgcmpmgaghdhaaGreatDoor
namespace Go.Proofs.YtkgcmpmgaghdhaaGreatDoor
open Go.RowKit


set_option maxRecDepth 20000 in
set_option maxHeartbeats 4000000 in
theorem l3Of_gen (pr : Nat) (sa : Option Addr) (n1 cap1 : Nat) (c : Bool) (zs : List Int) (w : World) (h : RdOk w pr) (hz : Row w sa n1 zs) (hgp : ∀ k, At sa n1 k → k ≠ pr) :
    Calls Tryz.prog 111 #[.pointer (some ⟨pr, 0, none⟩), .slice sa n1 cap1, .bool c] w fun e w' => (∃ (g n cap : Nat) (l : List Int), e = .returned (.agg #[.bool c, .slice sa n1 cap1, .slice (some ⟨g, 0, none⟩) n cap]) ∧ n ≤ 10000 ∧ w'.ownsRow w.heap.size 3 1 (.slice (some ⟨g, 0, none⟩) n cap) n (l.map (Value.int .i64))) ∧ RdOk w' pr ∧ But (fun x => x = pr) w w' := by
  have hlw := h.lt
  obtain ⟨i0, hi, hz0, hz1, hz2⟩ := info_parts info_int
  obtain ⟨N, hN⟩ : ∃ N, countOf zs = N := ⟨_, rfl⟩
  have HN := hide hN
  have hNb : N ≤ 10000 := by
    rw [← hN]
    unfold countOf
    split
    · rename_i ha
      cases hp : prodFrom zs 1 with
      | none => simp
      | some m =>
        have := prodFrom_bd zs 1 m ha (by omega) (by omega) hp
        simp only
        split <;> omega
    · omega
  obtain ⟨NN, hNN⟩ : ∃ NN : Nat, NN = N.toNat := ⟨_, rfl⟩
  have hN1 : NN ≤ 10000 := by omega
  have HLT : Hid (∀ n : Nat, n < NN → (n : Int) < N) := fun n hn => by omega
  have HGE : Hid (∀ n : Nat, ¬ n < NN → ¬ (n : Int) < N) := fun n hn => by omega
  clear hNN hNb
  have HR := hide h
  have HZ := hide hz
  clear h hz hN
  go_enter Tryz.func111, Tryz.ntmps111
  go_upto_region 2 with fail
  obtain ⟨W, hW⟩ : ∃ W, W = ((w.alloc (.cells #[.bool false, .slice none 0 0, .slice none 0 0] 25)).alloc (.cells #[] 3)).alloc (.cells #[.bool c, .slice sa n1 cap1, .slice (some ⟨w.heap.size + 1, 0, none⟩) 0 0] 25) := ⟨_, rfl⟩
  have HD : Hid (DG w pr w.heap.size (w.heap.size + 1 + 1) c (.slice sa n1 cap1) W [] 0 (w.heap.size + 1) 0) := by
    have hb : Below w.heap.size w W := by rw [hW]; exact (((Below.refl _ w).alloc (Nat.le_refl _) _).alloc (by simp) _).alloc (by simp; omega) _
    have b1 : Box W w.heap.size false (.slice none 0 0) (.slice none 0 0) := by rw [hW]; exact ((Box.new w _ _ _).alloc _).alloc _
    have b2 : Box W (w.heap.size + 1 + 1) c (.slice sa n1 cap1) (.slice (some ⟨w.heap.size + 1, 0, none⟩) 0 0) := by
      rw [hW]
      have := Box.new ((w.alloc (.cells #[.bool false, .slice none 0 0, .slice none 0 0] 25)).alloc (.cells #[] 3)) c (.slice sa n1 cap1) (.slice (some ⟨w.heap.size + 1, 0, none⟩) 0 0)
      rw [World.size_alloc, World.size_alloc] at this
      exact this
    have b3 : Blk W (w.heap.size + 1) [] := by
      rw [hW]
      have := Blk.new (w.alloc (.cells #[.bool false, .slice none 0 0, .slice none 0 0] 25))
      rw [World.size_alloc] at this
      exact this.alloc _
    exact ⟨b2, b3.owns (by omega), b1, (unhide HR).below hb, But.of_below hb, Nat.le_refl _, by omega, hlw⟩
  rw [← hW]
  clear hW
  have HZW : Hid (Row W sa n1 zs) := (unhide HD).but.row (unhide HZ) (fun k hk hh => hgp k hh hk)
  generalize w.heap.size + 1 + 1 = p7 at *
  generalize w.heap.size + 1 = g0 at *
  go_upto_region 3 with (go_at_call 41; refine (l3Count_eq _ _ _ zs _ (unhide HZW) _ HN).mono ?_; rintro e wq ⟨rfl, hwq⟩; obtain rfl := hwq.symm)
  clear HZW HR HZ
  go_wp2_with fail
  go_loopw [9] (fun i wr => ∃ (n g cap : Nat) (l : List Int), n ≤ NN ∧ i = .int .i64 (n : Nat) ∧ Hid (DG w pr w.heap.size p7 c (.slice sa n1 cap1) wr l n g cap)) (fun i _ => NN - (intOf i).toNat)
  case atStart => exact ⟨0, g0, 0, [], Nat.zero_le _, rfl, HD⟩
  case round =>
    clear HD
    obtain ⟨n, g, cap, l, hn, rfl, hd⟩ := hrel
    by_cases hlt : n < NN
    · have hnz : (n : Int) < N := unhide HLT n hlt
      have hcall := l3Num_any pr wr (unhide hd).rd
      go_upto_if 24 with (go_at_call 141; refine hcall.mono ?_; rintro e w2 ⟨⟨v, hv1, hv2, rfl⟩, hr2, hb2⟩; have HD2 := hide ((unhide hd).next hb2 hr2); clear hr2 hb2)
      clear hd hcall
      go_cut [10] (fun v wx => (∃ x : Int, v = .int .i64 x) ∧ Below w2.heap.size w2 wx)
      case first =>
        cases c with
        | true =>
          obtain ⟨y, hy⟩ : ∃ y : Nat, (y : Int) = v + 1000000000000000 := ⟨(v + 1000000000000000).toNat, by omega⟩
          obtain ⟨j, hj, q1, q2⟩ := modN y 8 (by omega)
          have q1' : (y : Int).tmod 8 = (j : Int) := q1
          have q2' : (y : Int) % 8 = (j : Int) := q2
          have hyb : y ≤ 2000000000000000 := by omega
          have hw0 : v + 1000000000000000 = (y : Int) := hy.symm
          have hw1 : IntKind.i64.wrap (y : Int) = (y : Int) := by rw [IntKind.wrap_i64]; omega
          have hw2 : IntKind.i64.wrap (j : Int) = (j : Int) := by rw [IntKind.wrap_i64]; omega
          have hc := lits w2 [97, 98, 99, 32, 9077, 120, 128512, 233] j (by simpa using hj)
          obtain ⟨x, hx⟩ : ∃ x, x = ([97, 98, 99, 32, 9077, 120, 128512, 233] : List Int).getD j 0 := ⟨_, rfl⟩
          rw [← hx] at hc
          simp only [List.map_cons, List.map_nil] at hc
          have hjz : (j : Int) < 8 := by omega
          clear hx q1 q2 hy hv1 hv2
          go_wp2_with fail
          go_meet
          case rel => exact ⟨⟨x, rfl⟩, (Below.refl _ _).alloc (Nat.le_refl _) _⟩
        | false =>
          go_wp2_with fail
          go_meet
          case rel => exact ⟨⟨v, rfl⟩, Below.refl _ _⟩
      case rest =>
        obtain ⟨w3, hw3⟩ : ∃ x, x = wc := ⟨_, rfl⟩
        subst hw3
        obtain ⟨⟨x, rfl⟩, hb3⟩ := hcut
        have HD3 := hide ((unhide HD2).below hb3)
        clear HD2 hb3
        obtain ⟨y0, y1, y2, y3, y4, y5, y6⟩ := (unhide HD3).box.all
        have hsz3 := (unhide HD3).but.size
        go_wp2_with (at_builtin; refine wpList_append_lies _ rfl _ _ 23 rfl w.heap.size 3 i0 (.int .i64 0) 1 8 Tryz.underlying23 hi hz0 hz1 hz2 rfl (by decide) _ _ _ rfl (owns_below (unhide HD3).owns (Nat.le_refl _) ((Below.refl _ _).alloc (Nat.le_refl _) _)) ⟨w3.heap.size, 0, none⟩ 1 1 [.int .i64 x] rfl rfl (cells_new _ _) (one_one _) (by omega) (by unfold maxLen; omega) (by omega) (by simp; omega) (w3.heap.size + 1) (by simp) ?_; intro g' cap' w7 hown' hgrow hat hlt7; have HD7 := hide ((unhide HD3).push hown' hgrow); clear hown' hgrow hat hlt7 y0 y1 y2 y3 y4 y5 y6; obtain ⟨y0, y1, y2, y3, y4, y5, y6⟩ := (unhide HD7).1.all)
        go_roundw
        case rel => exact ⟨n + 1, g', cap', l ++ [x], by omega, by go_num, hide (unhide HD7).2⟩
        case measure => simp [intOf]; omega
    · have hnz := unhide HGE n hlt
      have hd' := unhide hd
      obtain ⟨y0, y1, y2, y3, y4, y5, y6⟩ := hd'.box.all
      obtain ⟨q0, q1, q2, q3, q4, q5, q6⟩ := hd'.res.all
      clear hd'
      go_wp2_with fail
      have hx := (unhide hd).res.sets (c' := c) (u1 := .slice sa n1 cap1) (u2 := .slice (some ⟨g, 0, none⟩) n cap)
      obtain ⟨r0, r1, r2, _, _, _⟩ := hx.all
      refine bodyPost_ret (v := .agg #[.bool c, .slice sa n1 cap1, .slice (some ⟨g, 0, none⟩) n cap]) (by simp [results, Tryz.results111, go_sem, r0, r1, r2]) rfl ?_
      have hs : But (fun x => x = w.heap.size) wr (((wr.setCell ⟨w.heap.size, 0, none⟩ (.bool c)).setCell ⟨w.heap.size, 1, none⟩ (.slice sa n1 cap1)).setCell ⟨w.heap.size, 2, none⟩ (.slice (some ⟨g, 0, none⟩) n cap)) := (((But.refl (fun x => x = w.heap.size) wr).setCell (p := ⟨w.heap.size, 0, none⟩) rfl _).setCell (p := ⟨w.heap.size, 1, none⟩) rfl _).setCell (p := ⟨w.heap.size, 2, none⟩) rfl _
      exact ⟨⟨g, n, cap, l, rfl, by omega, owns_but (unhide hd).owns hs (owns_nebox (unhide hd).owns (unhide hd).res)⟩, (unhide hd).rd.but hs (by rintro k rfl; omega), (((unhide hd).but.setNew (p := ⟨w.heap.size, 0, none⟩) (Nat.le_refl _) _).setNew (p := ⟨w.heap.size, 1, none⟩) (Nat.le_refl _) _).setNew (p := ⟨w.heap.size, 2, none⟩) (Nat.le_refl _) _⟩

end Go.Proofs.YtkgcmpmgaghdhaaGreatDoor
namespace Go.Proofs.YtkgcmpmgaghdhaaGreatDoor
open Go.RowKit

/-- What a function that draws an array by the reader pr gives: its slices read so. -/
def DrawnRow (pr : Nat) (w : World) (e : Ending) (w' : World) : Prop := (∃ (c : Bool) (a1 a2 : Addr) (n1 n2 c1 c2 : Nat) (sh dt : List Int), e = .returned (.agg #[.bool c, .slice (some a1) n1 c1, .slice (some a2) n2 c2]) ∧ Own w' w.heap.size (some a1) n1 sh ∧ Own w' w.heap.size (some a2) n2 dt ∧ n1 ≤ 6 ∧ n2 ≤ 10001) ∧ RdOk w' pr ∧ But (fun x => x = pr) w w'

/-- The answer's box is filled. -/
theorem drawnR_end {w wx : World} {pr p0 : Nat} {c k : Bool} {s1 s2 : Option Addr} {l1 l2 k1 k2 : Nat} {a1 a2 : Addr} {n1 n2 c1 c2 : Nat} {sh dt : List Int} (hp : Box wx p0 c (.slice s1 l1 k1) (.slice s2 l2 k2)) (hp0 : w.heap.size ≤ p0) (o1 : Own wx w.heap.size (some a1) n1 sh) (o2 : Own wx w.heap.size (some a2) n2 dt) (h1 : n1 ≤ 6) (h2 : n2 ≤ 10001) (hr : RdOk wx pr) (hpr : pr < w.heap.size) (hb : But (fun x => x = pr) w wx) :
    DrawnRow pr w (.returned (.agg #[.bool k, .slice (some a1) n1 c1, .slice (some a2) n2 c2])) (((wx.setCell ⟨p0, 0, none⟩ (.bool k)).setCell ⟨p0, 1, none⟩ (.slice (some a1) n1 c1)).setCell ⟨p0, 2, none⟩ (.slice (some a2) n2 c2)) := by
  have hs : But (fun x => x = p0) wx (((wx.setCell ⟨p0, 0, none⟩ (.bool k)).setCell ⟨p0, 1, none⟩ (.slice (some a1) n1 c1)).setCell ⟨p0, 2, none⟩ (.slice (some a2) n2 c2)) := (((But.refl (fun x => x = p0) wx).setCell (p := ⟨p0, 0, none⟩) rfl _).setCell (p := ⟨p0, 1, none⟩) rfl _).setCell (p := ⟨p0, 2, none⟩) rfl _
  have hn1 : ∀ x, x = p0 → ¬ At (some a1) n1 x := fun x e hk => (o1.row.notBox hp hk) e
  have hn2 : ∀ x, x = p0 → ¬ At (some a2) n2 x := fun x e hk => (o2.row.notBox hp hk) e
  exact ⟨⟨k, a1, a2, n1, n2, c1, c2, sh, dt, rfl, hs.own o1 hn1, hs.own o2 hn2, h1, h2⟩, hr.but hs (by rintro x rfl; omega), ((hb.setNew (p := ⟨p0, 0, none⟩) hp0 _).setNew (p := ⟨p0, 1, none⟩) hp0 _).setNew (p := ⟨p0, 2, none⟩) hp0 _⟩

set_option maxRecDepth 20000 in
set_option maxHeartbeats 4000000 in
theorem l4Like_any (pr : Nat) (ca : Bool) (s1 s2 : Addr) (l1 l2 f1 f2 : Nat) (zs : List Int) (w : World) (h : RdOk w pr) (hz : Row w (some s1) l1 zs) (hne : ∀ x, At (some s1) l1 x → x ≠ pr) (hl1 : l1 ≤ 6) :
    Calls Tryz.prog 73 #[.pointer (some ⟨pr, 0, none⟩), .agg #[.bool ca, .slice (some s1) l1 f1, .slice (some s2) l2 f2]] w (DrawnRow pr w) := by
  have hlw := h.lt
  obtain ⟨W0, hW0⟩ : ∃ W, W = (w.alloc (.cells #[.bool ca, .slice (some s1) l1 f1, .slice (some s2) l2 f2] 25)).alloc (.cells #[.bool false, .slice none 0 0, .slice none 0 0] 25) := ⟨_, rfl⟩
  have hb0 : Below w.heap.size w W0 := by rw [hW0]; exact ((Below.refl _ w).alloc (Nat.le_refl _) _).alloc (by simp) _
  have HA0 : Hid (Box W0 w.heap.size ca (.slice (some s1) l1 f1) (.slice (some s2) l2 f2)) := by rw [hW0]; exact (Box.new w _ _ _).alloc _
  have HP0 : Hid (Box W0 (w.heap.size + 1) false (.slice none 0 0) (.slice none 0 0)) := by
    rw [hW0]
    have := Box.new (w.alloc (.cells #[.bool ca, .slice (some s1) l1 f1, .slice (some s2) l2 f2] 25)) false (.slice none 0 0) (.slice none 0 0)
    rwa [World.size_alloc] at this
  have HBB : Hid (But (fun x => x = pr) w W0) := But.of_below hb0
  have hcall := next_any pr _ (h.below hb0)
  have HZ := hide (hz.below (Nat.le_refl _) hb0)
  have HNE := hide hne
  have HW0 := hide hW0
  clear h hb0 hz hne hW0
  go_enter Tryz.func73, Tryz.ntmps73
  go_wp2_with fail
  rw [← unhide HW0]
  refine hcall.mono ?_
  rintro e w1 ⟨⟨k, hk, rfl⟩, hr1, hb1⟩
  have HR1 := hide hr1
  have HP1 := hide ((unhide HP0).but hb1 (by show ¬ w.heap.size + 1 = pr; omega))
  have HA1 := hide ((unhide HA0).but hb1 (by show ¬ w.heap.size = pr; omega))
  have HZ1 := hide (hb1.row (unhide HZ) (fun x hx hh => unhide HNE x hh hx))
  have HB1 : Hid (But (fun x => x = pr) w w1) := ((unhide HBB).trans hb1).mono (by rintro x (h | h) <;> exact h)
  have hw1 := (unhide HP1).lt
  clear hcall hr1 hb1 HP0 HA0 HZ HBB HW0
  obtain ⟨j4, hj4, q4, q4'⟩ := modN k 4 (by omega)
  have r4 : (k : Int).tmod 4 = (j4 : Int) := q4
  have r4' : (k : Int) % 4 = (j4 : Int) := q4'
  obtain ⟨j6, hj6, q6, q6'⟩ := modN k 16 (by omega)
  have r6 : (k : Int).tmod 16 = (j6 : Int) := q6
  have r6' : (k : Int) % 16 = (j6 : Int) := q6'
  clear q4 q4' q6 q6'
  by_cases h0 : j4 = 0
  · have g0 : ((j4 : Int) == 0) = true := by simp [h0]
    have hcA := l3Array_any pr w1 (unhide HR1)
    clear h0
    go_wp2_with (go_at_call 40; refine hcA.mono ?_; rintro e w2 ⟨⟨c, a1, a2, n1, n2, c1, c2, sh, dt, rfl, o1, o2, h1, h2⟩, hr2, hb2⟩; have HO1 := hide o1; have HO2 := hide o2; have HR2 := hide hr2; have HB2 := hide hb2; have HP2 := hide ((unhide HP1).but hb2 (by show ¬ w.heap.size + 1 = pr; omega)); obtain ⟨y0, y1, y2, y3, y4, y5, y6⟩ := (unhide HP2).all; clear o1 o2 hr2 hb2)
    have hx := (unhide HP2).sets (c' := c) (u1 := .slice (some a1) n1 c1) (u2 := .slice (some a2) n2 c2)
    obtain ⟨r0, r1, r2, _, _, _⟩ := hx.all
    refine bodyPost_ret (v := .agg #[.bool c, .slice (some a1) n1 c1, .slice (some a2) n2 c2]) (by simp [results, Tryz.results73, go_sem, r0, r1, r2]) rfl ?_
    exact drawnR_end (unhide HP2) (by omega) ((unhide HO1).mono (by omega)) ((unhide HO2).mono (by omega)) h1 h2 (unhide HR2) hlw (((unhide HB1).trans (unhide HB2)).mono (by rintro x (h | h) <;> exact h))
  · have g0 : ((j4 : Int) == 0) = false := by simp; omega
    clear h0
    by_cases h1 : j4 = 1
    · have g1 : ((j4 : Int) == 1) = true := by simp [h1]
      obtain ⟨bc, hbc⟩ : ∃ bc, ((j6 : Int) == 5) = bc := ⟨_, rfl⟩
      have hown : Own (w1.alloc (.cells #[] 3)) w.heap.size (some ⟨w1.heap.size, 0, none⟩) 0 [] := ⟨rfl, by omega, .inl rfl⟩
      have hrow := hown.row
      have HOWN := hide hown
      have hprl := (unhide HR1).lt
      have hcO := l3Of_any pr w1.heap.size 0 0 bc [] _ ((unhide HR1).below ((Below.refl _ _).alloc (Nat.le_refl _) _)) hrow (by omega)
      have HBA : Hid (Below w1.heap.size w1 (w1.alloc (.cells #[] 3))) := (Below.refl _ _).alloc (Nat.le_refl _) _
      clear h1 hrow hown
      go_wp2_with (go_at_call 111; (try rw [hbc]); refine hcO.mono ?_; rintro e w2 ⟨⟨g, n, cap, l, rfl, hn, ho⟩, hr2, hb2⟩; obtain ⟨_, _, ev, hO2⟩ := Own.of_owns ho (by omega); cases ev; have HO2 := hide hO2; have HR2 := hide hr2; have HB2 := hide hb2; have HP2 := hide (((unhide HP1).alloc _).but hb2 (by show ¬ w.heap.size + 1 = pr; omega)); obtain ⟨y0, y1, y2, y3, y4, y5, y6⟩ := (unhide HP2).all; clear ho hO2 hr2 hb2)
      have hx := (unhide HP2).sets (c' := bc) (u1 := .slice (some ⟨w1.heap.size, 0, none⟩) 0 0) (u2 := .slice (some ⟨g, 0, none⟩) n cap)
      obtain ⟨r0, r1, r2, _, _, _⟩ := hx.all
      refine bodyPost_ret (v := .agg #[.bool bc, .slice (some ⟨w1.heap.size, 0, none⟩) 0 0, .slice (some ⟨g, 0, none⟩) n cap]) (by simp [results, Tryz.results73, go_sem, r0, r1, r2]) rfl ?_
      have hsz := (unhide HBA).size
      refine drawnR_end (sh := []) (dt := l) (unhide HP2) (by omega) ((unhide HB2).own (unhide HOWN) (by rintro x rfl hk; have := at_eq hk; omega)) ((unhide HO2).mono (by omega)) (by omega) (by omega) (unhide HR2) hlw ?_
      exact (((unhide HB1).trans (T := fun x => x = pr) (But.of_below (unhide HBA))).trans (unhide HB2)).mono (by rintro x ((h | h) | h) <;> exact h)
    · have g1 : ((j4 : Int) == 1) = false := by simp; omega
      obtain ⟨bc, hbc⟩ : ∃ bc, ((j6 : Int) == 6) = bc := ⟨_, rfl⟩
      have hprl := (unhide HR1).lt
      clear h1
      obtain ⟨x0, x1, x2, x3, x4, x5, x6⟩ := (unhide HA1).all
      go_wp2_with (first
        | (go_at_call 56; refine (l3Ints_some s1 l1 f1 zs _ (unhide HZ1)).mono ?_; rintro e w2 ⟨gs, fs, rfl, hOs, hbs⟩; have HOS := hide hOs; have HBS := hide hbs; clear hOs hbs)
        | (go_at_call 111; (try rw [hbc]); refine (l3Of_gen pr (some ⟨gs, 0, none⟩) l1 fs bc zs _ ((unhide HR1).below (unhide HBS)) (unhide HOS).row (fun x hx => by have := (unhide HOS).low hx; omega)).mono ?_; rintro e w3 ⟨⟨g, n, cap, l, rfl, hn, ho⟩, hr2, hb2⟩; obtain ⟨_, _, ev, hO2⟩ := Own.of_owns ho (by omega); cases ev; have HO2 := hide hO2; have HR2 := hide hr2; have HB2 := hide hb2; have HP2 := hide (((unhide HP1).below (Nat.le_refl _) (unhide HBS)).but hb2 (by show ¬ w.heap.size + 1 = pr; omega)); obtain ⟨y0, y1, y2, y3, y4, y5, y6⟩ := (unhide HP2).all; clear ho hO2 hr2 hb2))
      have hx := (unhide HP2).sets (c' := bc) (u1 := .slice (some ⟨gs, 0, none⟩) l1 fs) (u2 := .slice (some ⟨g, 0, none⟩) n cap)
      obtain ⟨r0, r1, r2, _, _, _⟩ := hx.all
      refine bodyPost_ret (v := .agg #[.bool bc, .slice (some ⟨gs, 0, none⟩) l1 fs, .slice (some ⟨g, 0, none⟩) n cap]) (by simp [results, Tryz.results73, go_sem, r0, r1, r2]) rfl ?_
      have hsz := (unhide HBS).size
      refine drawnR_end (sh := zs) (dt := l) (unhide HP2) (by omega) (((unhide HB2).own (unhide HOS) (by rintro x rfl hk; have := (unhide HOS).low hk; omega)).mono (by omega)) ((unhide HO2).mono (by omega)) (by omega) (by omega) (unhide HR2) hlw ?_
      exact (((unhide HB1).trans (T := fun x => x = pr) (But.of_below (unhide HBS))).trans (unhide HB2)).mono (by rintro x ((h | h) | h) <;> exact h)

end Go.Proofs.YtkgcmpmgaghdhaaGreatDoor
namespace Go.Proofs.YtkgcmpmgaghdhaaGreatDoor
open Go.RowKit

/-- A list of N numbers is drawn. -/
def DrawnN (pr N : Nat) (w : World) (e : Ending) (w' : World) : Prop := (∃ (c : Bool) (a1 a2 : Addr) (n1 c1 c2 : Nat) (sh dt : List Int), e = .returned (.agg #[.bool c, .slice (some a1) n1 c1, .slice (some a2) N c2]) ∧ Own w' w.heap.size (some a1) n1 sh ∧ Own w' w.heap.size (some a2) N dt ∧ n1 ≤ 6) ∧ RdOk w' pr ∧ But (fun x => x = pr) w w'

theorem DrawnN.below {pr N : Nat} {w w' w'' : World} {e : Ending} (h : DrawnN pr N w e w') (hb : Below w'.heap.size w' w'') : DrawnN pr N w e w'' := by
  obtain ⟨⟨c, a1, a2, n1, c1, c2, sh, dt, he, o1, o2, l1⟩, hr, hbt⟩ := h
  exact ⟨⟨c, a1, a2, n1, c1, c2, sh, dt, he, o1.below (Nat.le_refl _) hb, o2.below (Nat.le_refl _) hb, l1⟩, hr.below hb, (hbt.trans (T := fun x => x = pr) (But.of_below hb)).mono (by rintro x (h | h) <;> exact h)⟩

theorem drawnN_end {w wx : World} {pr p0 : Nat} {c k : Bool} {s1 s2 : Option Addr} {l1 l2 k1 k2 : Nat} {a1 a2 : Addr} {n1 n2 c1 c2 : Nat} {sh dt : List Int} (hp : Box wx p0 c (.slice s1 l1 k1) (.slice s2 l2 k2)) (hp0 : w.heap.size ≤ p0) (o1 : Own wx w.heap.size (some a1) n1 sh) (o2 : Own wx w.heap.size (some a2) n2 dt) (h1 : n1 ≤ 6) (hr : RdOk wx pr) (hpr : pr < w.heap.size) (hb : But (fun x => x = pr) w wx) :
    DrawnN pr n2 w (.returned (.agg #[.bool k, .slice (some a1) n1 c1, .slice (some a2) n2 c2])) (((wx.setCell ⟨p0, 0, none⟩ (.bool k)).setCell ⟨p0, 1, none⟩ (.slice (some a1) n1 c1)).setCell ⟨p0, 2, none⟩ (.slice (some a2) n2 c2)) := by
  have hs : But (fun x => x = p0) wx (((wx.setCell ⟨p0, 0, none⟩ (.bool k)).setCell ⟨p0, 1, none⟩ (.slice (some a1) n1 c1)).setCell ⟨p0, 2, none⟩ (.slice (some a2) n2 c2)) := (((But.refl (fun x => x = p0) wx).setCell (p := ⟨p0, 0, none⟩) rfl _).setCell (p := ⟨p0, 1, none⟩) rfl _).setCell (p := ⟨p0, 2, none⟩) rfl _
  have hn1 : ∀ x, x = p0 → ¬ At (some a1) n1 x := fun x e hk => (o1.row.notBox hp hk) e
  have hn2 : ∀ x, x = p0 → ¬ At (some a2) n2 x := fun x e hk => (o2.row.notBox hp hk) e
  exact ⟨⟨k, a1, a2, n1, c1, c2, sh, dt, rfl, hs.own o1 hn1, hs.own o2 hn2, h1⟩, hr.but hs (by rintro x rfl; omega), ((hb.setNew (p := ⟨p0, 0, none⟩) hp0 _).setNew (p := ⟨p0, 1, none⟩) hp0 _).setNew (p := ⟨p0, 2, none⟩) hp0 _⟩

set_option maxRecDepth 20000 in
set_option maxHeartbeats 8000000 in
theorem l5Small_any (pr N : Nat) (hN : N ≤ 10000) (w : World) (h : RdOk w pr) :
    Calls Tryz.prog 130 #[.pointer (some ⟨pr, 0, none⟩), .int .i64 (N : Nat)] w (DrawnN pr N w) := by
  have hlw := h.lt
  obtain ⟨i0, hi, hz0, hz1, hz2⟩ := info_parts info_int
  have hb0 : Below w.heap.size w (w.alloc (.cells #[.bool false, .slice none 0 0, .slice none 0 0] 25)) := (Below.refl _ w).alloc (Nat.le_refl _) _
  have HP0 : Hid (Box (w.alloc (.cells #[.bool false, .slice none 0 0, .slice none 0 0] 25)) w.heap.size false (.slice none 0 0) (.slice none 0 0)) := Box.new w _ _ _
  have HB0 : Hid (But (fun x => x = pr) w (w.alloc (.cells #[.bool false, .slice none 0 0, .slice none 0 0] 25))) := But.of_below hb0
  have hcall := next_any pr _ (h.below hb0)
  clear h hb0
  go_enter Tryz.func130, Tryz.ntmps130
  go_upto_region 3 with (go_at_call 72; refine hcall.mono ?_; rintro e w1 ⟨⟨k, hk, rfl⟩, hr1, hb1⟩; have HR1 := hide hr1; have HB1' := hide hb1; clear hr1 hb1)
  clear hcall
  have HP1 := hide ((unhide HP0).but (unhide HB1') (by show ¬ w.heap.size = pr; omega))
  have HB1 : Hid (But (fun x => x = pr) w w1) := ((unhide HB0).trans (unhide HB1')).mono (by rintro x (h | h) <;> exact h)
  have hw1 := (unhide HP1).lt
  clear HP0 HB0 HB1'
  obtain ⟨W, hW⟩ : ∃ W, W = ((w1.alloc (.cells #[.int .i64 (N : Nat)] 3)).alloc (.cells #[] 3)).alloc (.cells #[.bool false, .slice (some ⟨w1.heap.size, 0, none⟩) 1 1, .slice (some ⟨w1.heap.size + 1, 0, none⟩) 0 0] 25) := ⟨_, rfl⟩
  have hKW : Below w1.heap.size w1 W := by rw [hW]; exact (((Below.refl _ _).alloc (Nat.le_refl _) _).alloc (by simp) _).alloc (by simp; omega) _
  have HS : Hid (Own W w.heap.size (some ⟨w1.heap.size, 0, none⟩) 1 [(N : Int)]) := by
    rw [hW]
    refine Blk.own (zs := [(N : Int)]) ?_ rfl (by omega) (by omega)
    exact (Blk.alloc (Blk.alloc (show Blk (w1.alloc (.cells #[.int .i64 (N : Nat)] 3)) w1.heap.size [(N : Int)] from (by show (w1.heap.push _)[w1.heap.size]? = _; simp)) _) _)
  have HD : Hid (DG w pr w.heap.size (w1.heap.size + 1 + 1) false (.slice (some ⟨w1.heap.size, 0, none⟩) 1 1) W [] 0 (w1.heap.size + 1) 0) := by
    have b2 : Box W (w1.heap.size + 1 + 1) false (.slice (some ⟨w1.heap.size, 0, none⟩) 1 1) (.slice (some ⟨w1.heap.size + 1, 0, none⟩) 0 0) := by
      rw [hW]
      have := Box.new ((w1.alloc (.cells #[.int .i64 (N : Nat)] 3)).alloc (.cells #[] 3)) false (.slice (some ⟨w1.heap.size, 0, none⟩) 1 1) (.slice (some ⟨w1.heap.size + 1, 0, none⟩) 0 0)
      rw [World.size_alloc, World.size_alloc] at this
      exact this
    have b3 : Blk W (w1.heap.size + 1) [] := by
      rw [hW]
      have := Blk.new (w1.alloc (.cells #[.int .i64 (N : Nat)] 3))
      rw [World.size_alloc] at this
      exact this.alloc _
    exact ⟨b2, b3.owns (by omega), (unhide HP1).below (Nat.le_refl _) hKW, (unhide HR1).below hKW, ((unhide HB1).trans (T := fun x => x = pr) (But.of_below hKW)).mono (by rintro x (h | h) <;> exact h), Nat.le_refl _, by omega, hlw⟩
  rw [← hW]
  clear hW HR1 HP1
  obtain ⟨gs, hgs⟩ : ∃ g, g = w1.heap.size := ⟨_, rfl⟩
  rw [← hgs] at HD HS ⊢
  have hgw : w.heap.size < gs := by omega
  clear hgs HB1 hw1 hKW
  have hg0 : gs + 1 ≠ gs := by omega
  have hp7g : gs + 1 + 1 ≠ gs := by omega
  have hp7r : gs + 1 + 1 ≠ pr := by omega
  have hp7w : gs + 1 + 1 ≠ w.heap.size := by omega
  generalize gs + 1 + 1 = p7 at *
  generalize gs + 1 = g0 at *
  go_wp2_with fail
  go_loopw [7] (fun i wr => ∃ (n g cap : Nat) (l : List Int), n ≤ N ∧ i = .int .i64 (n : Nat) ∧ Hid (g ≠ gs) ∧ Hid (DG w pr w.heap.size p7 false (.slice (some ⟨gs, 0, none⟩) 1 1) wr l n g cap) ∧ Hid (Own wr w.heap.size (some ⟨gs, 0, none⟩) 1 [(N : Int)])) (fun i _ => N - (intOf i).toNat)
  case atStart => exact ⟨0, g0, 0, [], Nat.zero_le _, rfl, hide hg0, HD, HS⟩
  case round =>
    clear HD HS
    obtain ⟨n, g, cap, l, hn, rfl, hgn, hd, hs⟩ := hrel
    by_cases hlt : n < N
    · have hnz : (n : Int) < (N : Int) := by omega
      have HC := hide (next_any pr wr.drew ((unhide hd).rd.below (Below.refl _ _).drew))
      have HDD := hide ((unhide hd).below (Below.refl _ _).drew)
      have HSD := hide ((unhide hs).below (Nat.le_refl _) (Below.refl _ _).drew)
      obtain ⟨y0, y1, y2, y3, y4, y5, y6⟩ := (unhide HDD).box.all
      have h7 := (unhide hd).h7
      clear hd hs
      go_wp2_with fail
      go_region_law (first | (refine step_append_lies _ (by rfl) _ _ _ (by rfl) w.heap.size 3 i0 _ 1 8 Tryz.underlying23 hi hz0 hz1 hz2 rfl (by omega) (.slice (some ⟨g, 0, none⟩) n cap) n (l.map (Value.int .i64)) (by rfl) (by exact owns_below (unhide HD2).owns (Nat.le_refl _) ((Below.refl _ _).alloc (Nat.le_refl _) _)) ⟨w2.heap.size, 0, none⟩ 1 1 [.int .i64 ((j9 : Int) - 3)] (by rfl) (by rfl) (by exact cells_new _ _) (one_one _) (by omega) (by unfold maxLen; omega) (by omega) (by have := (unhide HD2).but.size; simp; omega) (w2.heap.size + 1) (by simp) ?_; intro g' cap' w7 hown' hgrow hat hlt7; have HD7 := hide ((unhide HD2).push hown' (by exact hgrow)); have hgn' : g' ≠ gs := (by have h2 := unhide hgn; have h3 := unhide HGL; rcases hat with h | h; (· have h4 := Option.some.inj (show some g = some g' from h); omega); omega); have HS7 := hide ((unhide HS2).grown _ (g := g) (by exact hgrow) (fun x hx => by have := at_eq hx; have h2 := unhide hgn; omega)); clear hown' hgrow hat hlt7 y0 y1 y2 y3 y4 y5 y6; obtain ⟨y0, y1, y2, y3, y4, y5, y6⟩ := (unhide HD7).1.all) | (go_simp; go_at_call 72; refine (unhide HC).mono ?_; rintro e w2 ⟨⟨q, hq, rfl⟩, hr2, hb2⟩; have HD2 := hide ((unhide HDD).next hb2 hr2); have HS2 := hide (hb2.own (unhide HSD) (by rintro x rfl hk; have := at_eq hk; omega)); have HGL : Hid (gs < w2.heap.size) := (by obtain ⟨b, off, eb, hlt, _⟩ := (unhide HS2).row.get (k := 0) (by omega); cases eb; exact hlt); obtain ⟨j9, hj9, q9, q9'⟩ := modN q 9 (by omega); have r9 : (q : Int).tmod 9 = (j9 : Int) := q9; have r9' : (q : Int) % 9 = (j9 : Int) := q9'; have w9 : IntKind.i64.wrap ((j9 : Int) - 3) = (j9 : Int) - 3 := (by rw [IntKind.wrap_i64]; omega); clear hr2 hb2 q9 q9' y0 y1 y2 y3 y4 y5 y6; obtain ⟨y0, y1, y2, y3, y4, y5, y6⟩ := (unhide HD2).box.all))
      all_goals go_wp2_with fail
      all_goals refine ⟨⟨n + 1, g', cap', l ++ [(j9 : Int) - 3], by omega, by go_num, hide hgn', hide (unhide HD7).2, hide ((unhide HS7).other (q := ⟨p7, 2, none⟩) (fun x hx e => by have := at_eq hx; simp at e; omega) _)⟩, ?_⟩
      all_goals (simp [intOf]; omega)
    · have hnz : ¬ (n : Int) < (N : Int) := by omega
      have hnN : n = N := by omega
      subst hnN
      obtain ⟨y0, y1, y2, y3, y4, y5, y6⟩ := (unhide hd).box.all
      obtain ⟨q0, q1, q2, q3, q4, q5, q6⟩ := (unhide hd).res.all
      obtain ⟨_, _, ev, hO2⟩ := Own.of_owns (unhide hd).owns (by omega)
      cases ev
      have HO2 := hide hO2
      have hgp7 := owns_nebox (unhide hd).owns (unhide hd).box
      have h0w := (unhide hd).h0
      clear hO2
      obtain ⟨j2, hj2, q2m, q2m'⟩ := modN k 2 (by omega)
      have r2 : (k : Int).tmod 2 = (j2 : Int) := q2m
      have r2' : (k : Int) % 2 = (j2 : Int) := q2m'
      clear q2m q2m'
      by_cases hc : n = 1 ∧ j2 = 0
      · have g1 : ((n : Int) == 1) = true := by simp [hc.1]
        have g2 : ((j2 : Int) == 0) = true := by simp [hc.2]
        have HN := hide hc
        clear hc
        go_wp2_with fail
        have hres : Box (wr.setCell ⟨p7, 1, none⟩ (.slice (some ⟨wr.heap.size, 0, none⟩) 0 0)) w.heap.size false (.slice none 0 0) (.slice none 0 0) := (unhide hd).res.other (q := ⟨p7, 1, none⟩) (fun e => hp7w e.symm) _
        have hx := (hres.sets (c' := false) (u1 := .slice (some ⟨wr.heap.size, 0, none⟩) 0 0) (u2 := .slice (some ⟨g, 0, none⟩) n cap)).alloc (.cells #[] 3)
        obtain ⟨t0, t1, t2, _, _, _⟩ := hx.all
        refine bodyPost_ret (v := .agg #[.bool false, .slice (some ⟨wr.heap.size, 0, none⟩) 0 0, .slice (some ⟨g, 0, none⟩) n cap]) (by simp [results, Tryz.results130, go_sem, t0, t1, t2]) rfl ?_
        have hbs : But (fun x => x = p7) wr (wr.setCell ⟨p7, 1, none⟩ (.slice (some ⟨wr.heap.size, 0, none⟩) 0 0)) := (But.refl (fun x => x = p7) wr).setCell (p := ⟨p7, 1, none⟩) rfl _
        have h7x := (unhide hd).h7
        have hO0 : Own (wr.setCell ⟨p7, 1, none⟩ (.slice (some ⟨wr.heap.size, 0, none⟩) 0 0)) w.heap.size (some ⟨wr.heap.size, 0, none⟩) 0 [] := ⟨rfl, by omega, .inl rfl⟩
        exact (drawnN_end hres (Nat.le_refl _) hO0 ((unhide HO2).other (q := ⟨p7, 1, none⟩) (fun x hx e => by have := at_eq hx; simp at e; omega) _) (by omega) ((unhide hd).rd.but hbs (by rintro x rfl; omega)) hlw ((unhide hd).but.setNew (p := ⟨p7, 1, none⟩) (unhide hd).h7 _)).below ((Below.refl _ _).alloc (Nat.le_refl _) _)
      · by_cases hc1 : n = 1
        · have g1 : ((n : Int) == 1) = true := by simp [hc1]
          have g2 : ((j2 : Int) == 0) = false := by simp; omega
          clear hc hc1
          go_wp2_with fail
          have hx := (unhide hd).res.sets (c' := false) (u1 := .slice (some ⟨gs, 0, none⟩) 1 1) (u2 := .slice (some ⟨g, 0, none⟩) n cap)
          obtain ⟨t0, t1, t2, _, _, _⟩ := hx.all
          refine bodyPost_ret (v := .agg #[.bool false, .slice (some ⟨gs, 0, none⟩) 1 1, .slice (some ⟨g, 0, none⟩) n cap]) (by simp [results, Tryz.results130, go_sem, t0, t1, t2]) rfl ?_
          exact drawnN_end (unhide hd).res (Nat.le_refl _) (unhide hs) (unhide HO2) (by omega) (unhide hd).rd hlw (unhide hd).but
        · have g1 : ((n : Int) == 1) = false := by simp; omega
          clear hc hc1
          go_wp2_with fail
          have hx := (unhide hd).res.sets (c' := false) (u1 := .slice (some ⟨gs, 0, none⟩) 1 1) (u2 := .slice (some ⟨g, 0, none⟩) n cap)
          obtain ⟨t0, t1, t2, _, _, _⟩ := hx.all
          refine bodyPost_ret (v := .agg #[.bool false, .slice (some ⟨gs, 0, none⟩) 1 1, .slice (some ⟨g, 0, none⟩) n cap]) (by simp [results, Tryz.results130, go_sem, t0, t1, t2]) rfl ?_
          exact drawnN_end (unhide hd).res (Nat.le_refl _) (unhide hs) (unhide HO2) (by omega) (unhide hd).rd hlw (unhide hd).but

end Go.Proofs.YtkgcmpmgaghdhaaGreatDoor
namespace Go.Proofs.YtkgcmpmgaghdhaaGreatDoor
open Go.RowKit

/-- A number is written somewhere: a list of numbers stays a list of numbers. -/
theorem Own.scar {w : World} {B n : Nat} {a : Option Addr} {zs : List Int} (h : Own w B a n zs) (p : Addr) (x : Int) : ∃ ys, Own (w.setCell p (.int .i64 x)) B a n ys := by
  rcases h.at_ with h0 | ⟨g, off, rfl, hg, hlt, hc, hf⟩
  · exact ⟨zs, h.len, h.small, .inl h0⟩
  · refine ⟨(List.range n).map fun i => if (⟨g, off + i, none⟩ : Addr) = p then x else zs.getD i 0, by simp, h.small, .inr ⟨g, off, rfl, hg, by simpa using hlt, fun i hi => ?_, fun i hi => by simpa using hf i hi⟩⟩
    by_cases e : (⟨g, off + i, none⟩ : Addr) = p
    · rw [← e, World.cell?_setCell_same _ _ _ (hc i hi)]
      simp [List.getD, hi]
    · rw [World.cell?_setCell_other _ _ _ _ (fun e2 => e e2.symm), hc i hi]
      simp [List.getD, hi, e]

set_option maxRecDepth 20000 in
set_option maxHeartbeats 8000000 in
theorem l5Odd_any (pr N : Nat) (hN : N ≤ 10000) (w : World) (h : RdOk w pr) :
    Calls Tryz.prog 78 #[.pointer (some ⟨pr, 0, none⟩), .int .i64 (N : Nat)] w (DrawnRow pr w) := by
  have hlw := h.lt
  have hb0 : Below w.heap.size w (w.alloc (.cells #[.bool false, .slice none 0 0, .slice none 0 0] 25)) := (Below.refl _ w).alloc (Nat.le_refl _) _
  have HP0 : Hid (Box (w.alloc (.cells #[.bool false, .slice none 0 0, .slice none 0 0] 25)) w.heap.size false (.slice none 0 0) (.slice none 0 0)) := Box.new w _ _ _
  have HB0 : Hid (But (fun x => x = pr) w (w.alloc (.cells #[.bool false, .slice none 0 0, .slice none 0 0] 25))) := But.of_below hb0
  have hcall := next_any pr _ (h.below hb0)
  clear h hb0
  go_enter Tryz.func78, Tryz.ntmps78
  go_upto_region 2 with (go_at_call 72; refine hcall.mono ?_; rintro e w1 ⟨⟨k, hk, rfl⟩, hr1, hb1⟩; have HR1 := hide hr1; have HB1' := hide hb1; clear hr1 hb1)
  clear hcall
  have HP1 := hide ((unhide HP0).but (unhide HB1') (by show ¬ w.heap.size = pr; omega))
  have HB1 : Hid (But (fun x => x = pr) w w1) := ((unhide HB0).trans (unhide HB1')).mono (by rintro x (h | h) <;> exact h)
  have hw1 := (unhide HP1).lt
  clear HP0 HB0 HB1'
  by_cases hb : 240 ≤ k
  · have g0 : decide ((240 : Int) ≤ (k : Int)) = true := by simp; omega
    have hcA := l3Array_any pr w1 (unhide HR1)
    clear hb
    go_wp2_with (go_at_call 40; refine hcA.mono ?_; rintro e w2 ⟨⟨c, a1, a2, n1, n2, c1, c2, sh, dt, rfl, o1, o2, h1, h2⟩, hr2, hb2⟩; have HO1 := hide o1; have HO2 := hide o2; have HR2 := hide hr2; have HB2 := hide hb2; have HP2 := hide ((unhide HP1).but hb2 (by show ¬ w.heap.size = pr; omega)); obtain ⟨y0, y1, y2, y3, y4, y5, y6⟩ := (unhide HP2).all; clear o1 o2 hr2 hb2)
    have hx := (unhide HP2).sets (c' := c) (u1 := .slice (some a1) n1 c1) (u2 := .slice (some a2) n2 c2)
    obtain ⟨r0, r1, r2, _, _, _⟩ := hx.all
    refine bodyPost_ret (v := .agg #[.bool c, .slice (some a1) n1 c1, .slice (some a2) n2 c2]) (by simp [results, Tryz.results78, go_sem, r0, r1, r2]) rfl ?_
    exact drawnR_end (unhide HP2) (Nat.le_refl _) ((unhide HO1).mono (by omega)) ((unhide HO2).mono (by omega)) h1 h2 (unhide HR2) hlw (((unhide HB1).trans (unhide HB2)).mono (by rintro x (h | h) <;> exact h))
  · have g0 : decide ((240 : Int) ≤ (k : Int)) = false := by simp; omega
    have hcS := l5Small_any pr N hN w1 (unhide HR1)
    clear hb
    by_cases hq : 230 ≤ k ∧ 0 < N
    · have g1 : decide ((230 : Int) ≤ (k : Int)) = true := by simp; omega
      have g2 : decide ((0 : Int) < (N : Int)) = true := by simp; omega
      have hN0 : 0 < N := hq.2
      clear hq
      obtain ⟨j4, hj4, q4, q4'⟩ := modN k 4 (by omega)
      have r4 : (k : Int).tmod 4 = (j4 : Int) := q4
      have r4' : (k : Int) % 4 = (j4 : Int) := q4'
      clear q4 q4'
      go_upto_if 21 with (go_at_call 130; refine hcS.mono ?_; rintro e w2 ⟨⟨c, a1, a2, n1, c1, c2, sh, dt, rfl, o1, o2, h1⟩, hr2, hb2⟩; have HO1 := hide o1; have HO2 := hide o2; have HR2 := hide hr2; have HB2 := hide hb2; clear o1 o2 hr2 hb2)
      obtain ⟨X, hX⟩ : ∃ X, X = w2.alloc (.cells #[.bool c, .slice (some a1) n1 c1, .slice (some a2) N c2] 25) := ⟨_, rfl⟩
      obtain ⟨p6, hp6⟩ : ∃ p, p = w2.heap.size := ⟨_, rfl⟩
      have hsz := (unhide HB2).size
      have hKX : Below w2.heap.size w2 X := by rw [hX]; exact (Below.refl _ _).alloc (Nat.le_refl _) _
      have HBX : Hid (Box X p6 c (.slice (some a1) n1 c1) (.slice (some a2) N c2)) := by rw [hX, hp6]; exact Box.new _ _ _ _
      have HRX := hide (((unhide HP1).but (unhide HB2) (by show ¬ w.heap.size = pr; omega)).below (Nat.le_refl _) hKX)
      have O1X := hide (((unhide HO1).below (Nat.le_refl _) hKX).mono (B' := w.heap.size) (by have h9 := hw1; omega))
      have O2X := hide (((unhide HO2).below (Nat.le_refl _) hKX).mono (B' := w.heap.size) (by have h9 := hw1; omega))
      have RDX := hide ((unhide HR2).below hKX)
      have BTX : Hid (But (fun x => x = pr) w X) := (((unhide HB1).trans (unhide HB2)).trans (T := fun x => x = pr) (But.of_below hKX)).mono (by rintro x ((h | h) | h) <;> exact h)
      have hp6w : w.heap.size < p6 := by omega
      rw [← hX, ← hp6]
      clear hX hp6 hKX HO1 HO2 HR2 HB2 hsz HP1 HB1 HR1
      rcases (unhide O2X).at_ with h0 | ⟨b, off, eb, hbw, hlt, hc, hf⟩
      · omega
      cases eb
      have hc0 := hc 0 hN0
      have hf0 := hf 0 hN0
      rw [Nat.add_zero] at hc0 hf0
      have hnb : ¬ b = p6 := fun e => (unhide O2X).row.notBox (unhide HBX) (show At (some ⟨b, off, none⟩) N b from ⟨by omega, _, rfl, rfl⟩) e
      have hnw : ¬ b = w.heap.size := fun e => (unhide O2X).row.notBox (unhide HRX) (show At (some ⟨b, off, none⟩) N b from ⟨by omega, _, rfl, rfl⟩) e
      have hlit := lits X [10000, 10001, -10001, 1000000000000000] j4 (by simpa using hj4)
      obtain ⟨x, hx⟩ : ∃ x, x = ([10000, 10001, -10001, 1000000000000000] : List Int).getD j4 0 := ⟨_, rfl⟩
      rw [← hx] at hlit
      simp only [List.map_cons, List.map_nil] at hlit
      have hjz : (j4 : Int) < 4 := by omega
      obtain ⟨y0, y1, y2, y3, y4, y5, y6⟩ := (unhide HBX).all
      clear hc hf hx
      go_wp2_with fail
      go_region
      obtain ⟨V, hV⟩ : ∃ V, V = ((X.setCell ⟨b, off, none⟩ (.int .i64 x)).alloc (.cells #[.int .i64 10000, .int .i64 10001, .int .i64 (-10001), .int .i64 1000000000000000] 3)).drew := ⟨_, rfl⟩
      obtain ⟨s1, hs1⟩ := (unhide O1X).scar ⟨b, off, none⟩ x
      obtain ⟨s2, hs2⟩ := (unhide O2X).scar ⟨b, off, none⟩ x
      have hKV : Below (X.setCell ⟨b, off, none⟩ (.int .i64 x)).heap.size (X.setCell ⟨b, off, none⟩ (.int .i64 x)) V := by rw [hV]; exact ((Below.refl _ _).alloc (Nat.le_refl _) _).drew
      have hbs : But (fun y => y = b) X (X.setCell ⟨b, off, none⟩ (.int .i64 x)) := (But.refl (fun y => y = b) X).setCell (p := ⟨b, off, none⟩) rfl _
      have BXV := hide (((unhide HBX).other (q := ⟨b, off, none⟩) (fun e => hnb e.symm) (.int .i64 x)).below (Nat.le_refl _) hKV)
      have RXV := hide (((unhide HRX).other (q := ⟨b, off, none⟩) (fun e => hnw e.symm) (.int .i64 x)).below (Nat.le_refl _) hKV)
      have O1V := hide (hs1.below (Nat.le_refl _) hKV)
      have O2V := hide (hs2.below (Nat.le_refl _) hKV)
      have RDV := hide (((unhide RDX).but hbs (by rintro y rfl; omega)).below hKV)
      have BTV : Hid (But (fun x => x = pr) w V) := (((unhide BTX).setNew (p := ⟨b, off, none⟩) hbw (.int .i64 x)).trans (T := fun x => x = pr) (But.of_below hKV)).mono (by rintro x (h | h) <;> exact h)
      rw [← hV]
      clear hV hKV hbs hs1 hs2 hc0 hf0 hlit y0 y1 y2 y3 y4 y5 y6
      obtain ⟨y0, y1, y2, y3, y4, y5, y6⟩ := (unhide BXV).all
      obtain ⟨z0, z1, z2, z3, z4, z5, z6⟩ := (unhide RXV).all
      go_wp2_with fail
      have hx := (unhide RXV).sets (c' := c) (u1 := .slice (some a1) n1 c1) (u2 := .slice (some ⟨b, off, none⟩) N c2)
      obtain ⟨t0, t1, t2, _, _, _⟩ := hx.all
      refine bodyPost_ret (v := .agg #[.bool c, .slice (some a1) n1 c1, .slice (some ⟨b, off, none⟩) N c2]) (by simp [results, Tryz.results78, go_sem, t0, t1, t2]) rfl ?_
      exact drawnR_end (unhide RXV) (Nat.le_refl _) (unhide O1V) (unhide O2V) h1 (by omega) (unhide RDV) hlw (unhide BTV)
    · by_cases hk2 : 230 ≤ k
      · have g1 : decide ((230 : Int) ≤ (k : Int)) = true := by simp; omega
        obtain ⟨Z, hZ⟩ : ∃ Z : Nat, N = Z ∧ Z = 0 := ⟨_, rfl, by omega⟩
        obtain ⟨rfl, hZ0⟩ := hZ
        have HZ := hide hZ0
        have g2 : decide ((0 : Int) < (N : Int)) = false := by simp; omega
        have g3 : decide (0 < N) = false := by simp; omega
        clear hq hk2 hZ0
        go_upto_if 21 with (go_at_call 130; refine hcS.mono ?_; rintro e w2 ⟨⟨c, a1, a2, n1, c1, c2, sh, dt, rfl, o1, o2, h1⟩, hr2, hb2⟩; have HO1 := hide o1; have HO2 := hide o2; have HR2 := hide hr2; have HB2 := hide hb2; clear o1 o2 hr2 hb2)
        obtain ⟨X, hX⟩ : ∃ X, X = w2.alloc (.cells #[.bool c, .slice (some a1) n1 c1, .slice (some a2) N c2] 25) := ⟨_, rfl⟩
        obtain ⟨p6, hp6⟩ : ∃ p, p = w2.heap.size := ⟨_, rfl⟩
        have hsz := (unhide HB2).size
        have hKX : Below w2.heap.size w2 X := by rw [hX]; exact (Below.refl _ _).alloc (Nat.le_refl _) _
        have BXV : Hid (Box X p6 c (.slice (some a1) n1 c1) (.slice (some a2) N c2)) := by rw [hX, hp6]; exact Box.new _ _ _ _
        have RXV := hide (((unhide HP1).but (unhide HB2) (by show ¬ w.heap.size = pr; omega)).below (Nat.le_refl _) hKX)
        have O1V := hide (((unhide HO1).below (Nat.le_refl _) hKX).mono (B' := w.heap.size) (by have h9 := hw1; omega))
        have O2V := hide (((unhide HO2).below (Nat.le_refl _) hKX).mono (B' := w.heap.size) (by have h9 := hw1; omega))
        have RDV := hide ((unhide HR2).below hKX)
        have BTV : Hid (But (fun x => x = pr) w X) := (((unhide HB1).trans (unhide HB2)).trans (T := fun x => x = pr) (But.of_below hKX)).mono (by rintro x ((h | h) | h) <;> exact h)
        rw [← hX, ← hp6]
        clear hX hp6 hKX HO1 HO2 HR2 HB2 hsz HP1 HB1 HR1
        obtain ⟨y0, y1, y2, y3, y4, y5, y6⟩ := (unhide BXV).all
        obtain ⟨z0, z1, z2, z3, z4, z5, z6⟩ := (unhide RXV).all
        go_wp2_with fail
        have hx := (unhide RXV).sets (c' := c) (u1 := .slice (some a1) n1 c1) (u2 := .slice (some a2) N c2)
        obtain ⟨t0, t1, t2, _, _, _⟩ := hx.all
        refine bodyPost_ret (v := .agg #[.bool c, .slice (some a1) n1 c1, .slice (some a2) N c2]) (by simp [results, Tryz.results78, go_sem, t0, t1, t2]) rfl ?_
        exact drawnR_end (unhide RXV) (Nat.le_refl _) (unhide O1V) (unhide O2V) h1 (by omega) (unhide RDV) hlw (unhide BTV)
      · have g1 : decide ((230 : Int) ≤ (k : Int)) = false := by simp; omega
        clear hq hk2
        obtain ⟨bn, hbn⟩ : ∃ b, decide ((0 : Int) < (N : Int)) = b := ⟨_, rfl⟩
        go_upto_if 21 with (go_at_call 130; refine hcS.mono ?_; rintro e w2 ⟨⟨c, a1, a2, n1, c1, c2, sh, dt, rfl, o1, o2, h1⟩, hr2, hb2⟩; have HO1 := hide o1; have HO2 := hide o2; have HR2 := hide hr2; have HB2 := hide hb2; clear o1 o2 hr2 hb2)
        obtain ⟨X, hX⟩ : ∃ X, X = w2.alloc (.cells #[.bool c, .slice (some a1) n1 c1, .slice (some a2) N c2] 25) := ⟨_, rfl⟩
        obtain ⟨p6, hp6⟩ : ∃ p, p = w2.heap.size := ⟨_, rfl⟩
        have hsz := (unhide HB2).size
        have hKX : Below w2.heap.size w2 X := by rw [hX]; exact (Below.refl _ _).alloc (Nat.le_refl _) _
        have BXV : Hid (Box X p6 c (.slice (some a1) n1 c1) (.slice (some a2) N c2)) := by rw [hX, hp6]; exact Box.new _ _ _ _
        have RXV := hide (((unhide HP1).but (unhide HB2) (by show ¬ w.heap.size = pr; omega)).below (Nat.le_refl _) hKX)
        have O1V := hide (((unhide HO1).below (Nat.le_refl _) hKX).mono (B' := w.heap.size) (by have h9 := hw1; omega))
        have O2V := hide (((unhide HO2).below (Nat.le_refl _) hKX).mono (B' := w.heap.size) (by have h9 := hw1; omega))
        have RDV := hide ((unhide HR2).below hKX)
        have BTV : Hid (But (fun x => x = pr) w X) := (((unhide HB1).trans (unhide HB2)).trans (T := fun x => x = pr) (But.of_below hKX)).mono (by rintro x ((h | h) | h) <;> exact h)
        rw [← hX, ← hp6]
        clear hX hp6 hKX HO1 HO2 HR2 HB2 hsz HP1 HB1 HR1
        obtain ⟨y0, y1, y2, y3, y4, y5, y6⟩ := (unhide BXV).all
        obtain ⟨z0, z1, z2, z3, z4, z5, z6⟩ := (unhide RXV).all
        go_wp2_with fail
        have hx := (unhide RXV).sets (c' := c) (u1 := .slice (some a1) n1 c1) (u2 := .slice (some a2) N c2)
        obtain ⟨t0, t1, t2, _, _, _⟩ := hx.all
        refine bodyPost_ret (v := .agg #[.bool c, .slice (some a1) n1 c1, .slice (some a2) N c2]) (by simp [results, Tryz.results78, go_sem, t0, t1, t2]) rfl ?_
        exact drawnR_end (unhide RXV) (Nat.le_refl _) (unhide O1V) (unhide O2V) h1 (by omega) (unhide RDV) hlw (unhide BTV)

end Go.Proofs.YtkgcmpmgaghdhaaGreatDoor
namespace Go.Proofs.YtkgcmpmgaghdhaaGreatDoor
open Go.RowKit

/-- What a draw of a number, an array and a flag gives. -/
def DrawnF (w : World) (e : Ending) (w' : World) : Prop := ∃ (op : Int) (c fl : Bool) (a1 a2 : Addr) (n1 n2 c1 c2 : Nat) (sh dt : List Int), e = .returned (.tuple #[.int .i64 op, .agg #[.bool c, .slice (some a1) n1 c1, .slice (some a2) n2 c2], .bool fl]) ∧ Row w' (some a1) n1 sh ∧ Row w' (some a2) n2 dt ∧ n1 ≤ 6 ∧ n2 ≤ 10001 ∧ Below w.heap.size w w'

/-- An array is drawn and its elements are being changed. -/
structure DF (w : World) (pr p6 : Nat) (c : Bool) (a1 a2 : Addr) (n1 n2 c1 c2 : Nat) (V : World) : Prop where
  b0 : Box V w.heap.size false (.slice none 0 0) (.slice none 0 0)
  b6 : Box V p6 c (.slice (some a1) n1 c1) (.slice (some a2) n2 c2)
  o1 : ∃ sh, Own V (pr + 1) (some a1) n1 sh
  o2 : ∃ dt, Own V (pr + 1) (some a2) n2 dt
  low : Below w.heap.size w V
  hp : w.heap.size + 1 ≤ pr
  hq : pr < p6

section
variable {w V V' : World} {pr p6 : Nat} {c : Bool} {a1 a2 : Addr} {n1 n2 c1 c2 : Nat}
theorem DF.below (h : DF w pr p6 c a1 a2 n1 n2 c1 c2 V) (hb : Below V.heap.size V V') : DF w pr p6 c a1 a2 n1 n2 c1 c2 V' := by
  obtain ⟨s1, hs1⟩ := h.o1
  obtain ⟨s2, hs2⟩ := h.o2
  exact ⟨h.b0.below (Nat.le_refl _) hb, h.b6.below (Nat.le_refl _) hb, ⟨s1, hs1.below (Nat.le_refl _) hb⟩, ⟨s2, hs2.below (Nat.le_refl _) hb⟩, h.low.trans (hb.mono h.low.size), h.hp, h.hq⟩
theorem DF.write {b off : Nat} (h : DF w pr p6 c a1 ⟨b, off, none⟩ n1 n2 c1 c2 V) {k : Nat} (hk : k < n2) (x : Int) : DF w pr p6 c a1 ⟨b, off, none⟩ n1 n2 c1 c2 (V.setCell ⟨b, off + k, none⟩ (.int .i64 x)) := by
  obtain ⟨s1, hs1⟩ := h.o1
  obtain ⟨s2, hs2⟩ := h.o2
  have hat : At (some ⟨b, off, none⟩) n2 b := ⟨by omega, _, rfl, rfl⟩
  have hlo := hs2.low hat
  have e0 := hs2.row.notBox h.b0 hat
  have e6 := hs2.row.notBox h.b6 hat
  obtain ⟨t1, ht1⟩ := hs1.scar ⟨b, off + k, none⟩ x
  obtain ⟨t2, ht2⟩ := hs2.scar ⟨b, off + k, none⟩ x
  have hp := h.hp
  exact ⟨h.b0.other (q := ⟨b, off + k, none⟩) (fun e => e0 e.symm) _, h.b6.other (q := ⟨b, off + k, none⟩) (fun e => e6 e.symm) _, ⟨t1, ht1⟩, ⟨t2, ht2⟩, h.low.setCell (p := ⟨b, off + k, none⟩) (by show w.heap.size ≤ b; omega) _, h.hp, h.hq⟩
end

set_option maxRecDepth 20000 in
set_option maxHeartbeats 8000000 in
theorem DrawFold_any (a : Option Addr) (n cn : Nat) (w : World) (h : Bytes w a n) (hc : n ≤ cn) (hn : n ≤ 1048576) :
    Calls Tryz.prog 32 #[.slice a n cn] w (DrawnF w) := by
  have HB0 : Hid (Below w.heap.size w (w.alloc (.cells #[.bool false, .slice none 0 0, .slice none 0 0] 25))) := (Below.refl _ _).alloc (Nat.le_refl _) _
  have HX0 : Hid (Box (w.alloc (.cells #[.bool false, .slice none 0 0, .slice none 0 0] 25)) w.heap.size false (.slice none 0 0) (.slice none 0 0)) := Box.new w _ _ _
  have HBY := hide (h.below (unhide HB0))
  clear h
  go_enter Tryz.func32, Tryz.ntmps32
  go_wp2_with fail
  refine (l1Open_any a n cn _ (unhide HBY) hc hn).mono ?_
  rintro e w1 ⟨pr, rfl, hr1, hpr, hb1⟩
  have hpr2 : w.heap.size + 1 ≤ pr := by simp at hpr; omega
  have HX0' := hide ((unhide HX0).below (Nat.le_refl _) hb1)
  have HB1 := hide ((unhide HB0).trans (hb1.mono (by simp)))
  have HR1 := hide hr1
  clear HX0 HB0 HBY hr1 hpr hb1
  go_wp2_with fail
  refine (next_any pr _ (unhide HR1)).mono ?_
  rintro e w2 ⟨⟨kk, hkk, rfl⟩, hr2, hb2⟩
  have HX0 := hide ((unhide HX0').but hb2 (by show ¬ w.heap.size = pr; omega))
  have HB2 := hide ((unhide HB1).trans (hb2.below (unhide HB1).size (fun x hx => by omega)))
  have HR2 := hide hr2
  have hprw : pr < w2.heap.size := hr2.lt
  clear HX0' HB1 HR1 hr2 hb2
  obtain ⟨j5, hj5, q5, q5'⟩ := modN kk 5 (by omega)
  have r5 : (kk : Int).tmod 5 = (j5 : Int) := q5
  have r5' : (kk : Int) % 5 = (j5 : Int) := q5'
  obtain ⟨j18, hj18, q18, q18'⟩ := modN kk 18 (by omega)
  have r18 : (kk : Int).tmod 18 = (j18 : Int) := q18
  have r18' : (kk : Int) % 18 = (j18 : Int) := q18'
  obtain ⟨j2, hj2, q2, q2'⟩ := modN kk 2 (by omega)
  have r2 : (kk : Int).tmod 2 = (j2 : Int) := q2
  have r2' : (kk : Int) % 2 = (j2 : Int) := q2'
  obtain ⟨fb, hfb⟩ : ∃ b, ((j2 : Int) == 1) = b := ⟨_, rfl⟩
  clear q5 q5' q18 q18' q2 q2'
  go_wp2_with fail
  refine (l3Array_any pr _ (unhide HR2)).mono ?_
  rintro e w3 ⟨⟨c, a1, a2, n1, n2, c1, c2, sh, dt, rfl, o1, o2, hn1, hn2⟩, hr3, hb3⟩
  obtain ⟨X3, hX3⟩ : ∃ X, X = w3.alloc (.cells #[.bool c, .slice (some a1) n1 c1, .slice (some a2) n2 c2] 25) := ⟨_, rfl⟩
  obtain ⟨p6, hp6⟩ : ∃ p, p = w3.heap.size := ⟨_, rfl⟩
  have hsz3 := hb3.size
  have HA3 : Hid (Below w3.heap.size w3 X3) := by rw [hX3]; exact (Below.refl _ _).alloc (Nat.le_refl _) _
  have hb3' := (unhide HB2).trans (hb3.below (unhide HB2).size (fun x hx => by omega))
  have HD : Hid (DF w pr p6 c a1 a2 n1 n2 c1 c2 X3) := ⟨((unhide HX0).but hb3 (by show ¬ w.heap.size = pr; omega)).below (Nat.le_refl _) (unhide HA3), by rw [hX3, hp6]; exact Box.new _ _ _ _, ⟨sh, (o1.below (Nat.le_refl _) (unhide HA3)).mono (by omega)⟩, ⟨dt, (o2.below (Nat.le_refl _) (unhide HA3)).mono (by omega)⟩, hb3'.trans ((unhide HA3).mono hb3'.size), hpr2, by omega⟩
  have HX3 := hide hX3
  have HP6 := hide hp6
  clear HX0 HB2 HR2 o1 o2 hr3 hb3 hb3' hX3 hp6 HA3 hsz3 hprw
  go_upto_region 4 with fail
  rw [← unhide HX3, ← unhide HP6]
  clear HX3 HP6 sh dt
  by_cases h5 : j5 = 4
  · have g5 : ((j5 : Int) == 4) = true := by simp [h5]
    clear h5
    go_wp2_with fail
    go_loopw [8] (fun i wr => ∃ k : Nat, k ≤ n2 ∧ i = .int .i64 (k : Nat) ∧ Hid (DF w pr p6 c a1 a2 n1 n2 c1 c2 wr)) (fun i _ => n2 - (intOf i).toNat)
    case atStart => exact ⟨0, Nat.zero_le _, rfl, HD⟩
    case round =>
      clear HD
      obtain ⟨k, hk, rfl, hd⟩ := hrel
      by_cases hkn : k < n2
      · have g1 : decide ((k : Int) < (n2 : Int)) = true := by simp; omega
        obtain ⟨y0, y1, y2, y3, y4, y5, y6⟩ := (unhide hd).b6.all
        obtain ⟨dt, ho2⟩ := (unhide hd).o2
        rcases ho2.at_ with h0 | ⟨b, off, eb, hbw, hltb, hcell, hfr⟩
        · omega
        cases eb
        have hc0 := hcell k hkn
        have hf0 := hfr k hkn
        obtain ⟨v, hv⟩ : ∃ v, v = dt.getD k 0 := ⟨_, rfl⟩
        rw [← hv] at hc0
        clear hcell hfr hv ho2
        go_wp2_with fail
        go_region
        all_goals go_wp2_with fail
        all_goals refine ⟨⟨k + 1, by omega, by go_num, hide (((unhide hd).write hkn _).below (Below.refl _ _).drew)⟩, ?_⟩
        all_goals (simp [intOf]; omega)
      · have g1 : decide ((k : Int) < (n2 : Int)) = false := by simp; omega
        have g3 : ¬ k < n2 := hkn
        obtain ⟨sh, ho1⟩ := (unhide hd).o1
        obtain ⟨dt, ho2⟩ := (unhide hd).o2
        have HO1 := hide ho1
        have HO2 := hide ho2
        obtain ⟨y0, y1, y2, y3, y4, y5, y6⟩ := (unhide hd).b6.all
        obtain ⟨z0, z1, z2, z3, z4, z5, z6⟩ := (unhide hd).b0.all
        have e1 : ¬ p6 = w.heap.size := by have h1 := (unhide hd).hq; have h2 := (unhide hd).hp; omega
        have e2 : ¬ w.heap.size = p6 := fun e => e1 e.symm
        clear ho1 ho2
        go_wp2_with fail
        go_region
        all_goals go_wp2_with fail
        all_goals
          have hF0 := (unhide hd).b0.sets (c' := c) (u1 := .slice (some a1) n1 c1) (u2 := .slice (some a2) n2 c2)
          obtain ⟨t0, t1, t2, _, _, _⟩ := hF0.all
          refine bodyPost_ret (v := .tuple #[.int .i64 (j18 : Nat), .agg #[.bool c, .slice (some a1) n1 c1, .slice (some a2) n2 c2], .bool fb]) (by simp [results, Tryz.results32, go_sem, t0, t1, t2]) rfl ?_
          have hs : But (fun x => x = w.heap.size) wr (((wr.setCell ⟨w.heap.size, 0, none⟩ (.bool c)).setCell ⟨w.heap.size, 1, none⟩ (.slice (some a1) n1 c1)).setCell ⟨w.heap.size, 2, none⟩ (.slice (some a2) n2 c2)) := (((But.refl (fun x => x = w.heap.size) wr).setCell (p := ⟨w.heap.size, 0, none⟩) rfl _).setCell (p := ⟨w.heap.size, 1, none⟩) rfl _).setCell (p := ⟨w.heap.size, 2, none⟩) rfl _
          have hn1' : ∀ x, x = w.heap.size → ¬ At (some a1) n1 x := fun x e hk => ((unhide HO1).row.notBox (unhide hd).b0 hk) e
          have hn2' : ∀ x, x = w.heap.size → ¬ At (some a2) n2 x := fun x e hk => ((unhide HO2).row.notBox (unhide hd).b0 hk) e
          exact ⟨(j18 : Int), c, fb, a1, a2, n1, n2, c1, c2, sh, dt, rfl, (hs.own (unhide HO1) hn1').row.below (Nat.le_refl _) (Below.refl _ _).drew, (hs.own (unhide HO2) hn2').row.below (Nat.le_refl _) (Below.refl _ _).drew, hn1, hn2, ((((unhide hd).low.setCell (p := ⟨w.heap.size, 0, none⟩) (Nat.le_refl _) _).setCell (p := ⟨w.heap.size, 1, none⟩) (Nat.le_refl _) _).setCell (p := ⟨w.heap.size, 2, none⟩) (Nat.le_refl _) _).drew⟩
  · have g5 : ((j5 : Int) == 4) = false := by simp; omega
    have hd := HD
    clear h5 HD
    obtain ⟨sh, ho1⟩ := (unhide hd).o1
    obtain ⟨dt, ho2⟩ := (unhide hd).o2
    have HO1 := hide ho1
    have HO2 := hide ho2
    obtain ⟨y0, y1, y2, y3, y4, y5, y6⟩ := (unhide hd).b6.all
    obtain ⟨z0, z1, z2, z3, z4, z5, z6⟩ := (unhide hd).b0.all
    have e1 : ¬ p6 = w.heap.size := by have h1 := (unhide hd).hq; have h2 := (unhide hd).hp; omega
    have e2 : ¬ w.heap.size = p6 := fun e => e1 e.symm
    clear ho1 ho2
    go_wp2_with fail
    go_region
    all_goals go_wp2_with fail
    all_goals
      have hF0 := (unhide hd).b0.sets (c' := c) (u1 := .slice (some a1) n1 c1) (u2 := .slice (some a2) n2 c2)
      obtain ⟨t0, t1, t2, _, _, _⟩ := hF0.all
      refine bodyPost_ret (v := .tuple #[.int .i64 (j18 : Nat), .agg #[.bool c, .slice (some a1) n1 c1, .slice (some a2) n2 c2], .bool fb]) (by simp [results, Tryz.results32, go_sem, t0, t1, t2]) rfl ?_
      have hs : But (fun x => x = w.heap.size) X3 (((X3.setCell ⟨w.heap.size, 0, none⟩ (.bool c)).setCell ⟨w.heap.size, 1, none⟩ (.slice (some a1) n1 c1)).setCell ⟨w.heap.size, 2, none⟩ (.slice (some a2) n2 c2)) := (((But.refl (fun x => x = w.heap.size) X3).setCell (p := ⟨w.heap.size, 0, none⟩) rfl _).setCell (p := ⟨w.heap.size, 1, none⟩) rfl _).setCell (p := ⟨w.heap.size, 2, none⟩) rfl _
      have hn1' : ∀ x, x = w.heap.size → ¬ At (some a1) n1 x := fun x e hk => ((unhide HO1).row.notBox (unhide hd).b0 hk) e
      have hn2' : ∀ x, x = w.heap.size → ¬ At (some a2) n2 x := fun x e hk => ((unhide HO2).row.notBox (unhide hd).b0 hk) e
      exact ⟨(j18 : Int), c, fb, a1, a2, n1, n2, c1, c2, sh, dt, rfl, (hs.own (unhide HO1) hn1').row.below (Nat.le_refl _) (Below.refl _ _).drew, (hs.own (unhide HO2) hn2').row.below (Nat.le_refl _) (Below.refl _ _).drew, hn1, hn2, ((((unhide hd).low.setCell (p := ⟨w.heap.size, 0, none⟩) (Nat.le_refl _) _).setCell (p := ⟨w.heap.size, 1, none⟩) (Nat.le_refl _) _).setCell (p := ⟨w.heap.size, 2, none⟩) (Nat.le_refl _) _).drew⟩

end Go.Proofs.YtkgcmpmgaghdhaaGreatDoor
namespace Go.Proofs.YtkgcmpmgaghdhaaGreatDoor
open Go.RowKit

/-- k elements have been gathered into the array in box p. -/
structure Stage (w2 : World) (p : Nat) (c : Bool) (ash : Option Addr) (m csh : Nat) (zs : List Int) (f : Nat → Int × Int) (k : Nat) (wr : World) (g cap : Nat) : Prop where
  box : Box wr p c (.slice ash m csh) (.slice (some ⟨g, 0, none⟩) k cap)
  owns : wr.ownsRow w2.heap.size 3 1 (.slice (some ⟨g, 0, none⟩) k cap) k ((vals f k).map (Value.int .i64))
  own : Own wr w2.heap.size ash m zs
  ne : ∀ x, At ash m x → x ≠ g
  low : Below w2.heap.size w2 wr
  code : firstCode f k = 0
  place : w2.heap.size ≤ p

theorem Stage.start {w2 wx : World} {p g : Nat} {c : Bool} {ash : Option Addr} {m csh : Nat} {zs : List Int} (f : Nat → Int × Int) (h1 : Box wx p c (.slice ash m csh) (.slice (some ⟨g, 0, none⟩) 0 0)) (h2 : Blk wx g []) (h3 : Own wx w2.heap.size ash m zs) (h4 : Below w2.heap.size w2 wx) (h7 : w2.heap.size ≤ p) (h5 : w2.heap.size ≤ g) (h6 : ∀ x, At ash m x → x ≠ g) : Stage w2 p c ash m csh zs f 0 wx g 0 :=
  ⟨h1, h2.owns h5, h3, h6, h4, rfl, h7⟩

theorem Stage.below {w2 wr w5 : World} {p g cap k : Nat} {c : Bool} {ash : Option Addr} {m csh : Nat} {zs : List Int} {f : Nat → Int × Int} (h : Stage w2 p c ash m csh zs f k wr g cap) (hb : Below wr.heap.size wr w5) : Stage w2 p c ash m csh zs f k w5 g cap :=
  ⟨h.box.below (Nat.le_refl _) hb, owns_below h.owns (Nat.le_refl _) hb, h.own.below (Nat.le_refl _) hb, h.ne, h.low.trans (hb.mono h.low.size), h.code, h.place⟩

theorem Stage.drew {w2 wr : World} {p g cap k : Nat} {c : Bool} {ash : Option Addr} {m csh : Nat} {zs : List Int} {f : Nat → Int × Int} (h : Stage w2 p c ash m csh zs f k wr g cap) : Stage w2 p c ash m csh zs f k wr.drew g cap := h.below (Below.refl _ _).drew

theorem Stage.push {w2 w5 w6 : World} {p g g' cap cap' k : Nat} {c : Bool} {ash : Option Addr} {m csh : Nat} {zs : List Int} {f : Nat → Int × Int} {r1 : Int} (o : Obj) (h : Stage w2 p c ash m csh zs f k w5 g cap) (hf : f k = (r1, 0))
    (hown : w6.ownsRow w2.heap.size 3 1 (.slice (some ⟨g', 0, none⟩) (k + 1) cap') (k + 1) ((vals f k).map (Value.int .i64) ++ [.int .i64 r1])) (hg : (w5.alloc o).grownBy w6 (Value.ownBlock (.slice (some ⟨g, 0, none⟩) k cap))) (hat : Value.ownBlock (.slice (some ⟨g, 0, none⟩) k cap) = some g' ∨ g' = w5.heap.size + 1) :
    Box w6 p c (.slice ash m csh) (.slice (some ⟨g, 0, none⟩) k cap) ∧ Stage w2 p c ash m csh zs f (k + 1) (w6.setCell ⟨p, 2, none⟩ (.slice (some ⟨g', 0, none⟩) (k + 1) cap')) g' cap' := by
  have hb6 := h.box.grown h.owns o hg
  have hg' : (w5.alloc o).grownBy w6 (some g) := hg
  have ho6 := h.own.grown o hg' h.ne
  have hlow := h.low.trans (below_append o h.owns h.low.size hg)
  have hne' : ∀ x, At ash m x → x ≠ g' := by
    intro x hx
    rcases hat with e | e
    · have e' : g = g' := by simpa [Value.ownBlock] using e
      rw [← e']; exact h.ne x hx
    · have := h.own.row.hi hx; omega
  refine ⟨hb6, hb6.set2 _, ?_, ho6.other (fun x hx => ho6.row.notBox hb6 hx) _, hne', hlow.setCell h.place _, code_step h.code (by rw [hf]), h.place⟩
  · rw [vals_snoc, hf]
    exact owns_box_set hown hb6 _ _

end Go.Proofs.YtkgcmpmgaghdhaaGreatDoor
namespace Go.Proofs.YtkgcmpmgaghdhaaGreatDoor
open Go.RowKit

section
variable {P : Program} (w : World)

/-- append of whatever number of elements to a slice that is there. -/
theorem run_append_some (t ty : TypeId) (base : Nat) (e : TypeId) (i : TypeInfo) (z : Value) (size bytes : Nat) (ht : P.underlying t = some (.slice e)) (hi : P.info? e = some i) (hz : i.zero = some z)
    (hsize : i.size = size) (hby : i.bytes = bytes) (hzs : z.cells.size = size) (hsz : 0 < size)
    (g0 n cap0 : Nat) (xs : List Value) (hown : w.ownsRow base e size (.slice (some ⟨g0, 0, none⟩) n cap0) n xs)
    (ad : Addr) (m c : Nat) (news : List Value) (hl : news.length = m * size) (hnews : ∀ j u, news[j]? = some u → w.cell? (ad.add j) = some u) (h1 : ∀ u ∈ news, u.oneCell' = true)
    (h63 : n + m ≤ maxLen) (hbytes : (n + m) * bytes ≤ 140737488355328) (hbase : base ≤ w.heap.size) :
    ∃ g cap w', (Builtin.append_ #[t, t] ty #[.slice (some ⟨g0, 0, none⟩) n cap0, .slice (some ad) m c]).run P w = .ok (.slice (some ⟨g, 0, none⟩) (n + m) cap) w' ∧
      w'.ownsRow base e size (.slice (some ⟨g, 0, none⟩) (n + m) cap) (n + m) (xs ++ news) ∧ w.grownBy w' (some g0) ∧ (g = g0 ∨ g = w.heap.size) := by
  obtain ⟨v', w', hr, h2, h3, h4, h5⟩ := run_append_own_at (P := P) w base t ty e i z size bytes ht hi hz hsize hby hzs hsz _ n xs hown ad m c news hl hnews h1 h63 hbytes hbase
  have hf : ∃ g cap, v' = .slice (some ⟨g, 0, none⟩) (n + m) cap := by
    rcases h2.2 with ⟨e0, e1⟩ | ⟨g, cap, cur, hv, _⟩
    · exact absurd (h4.1 e0).1 (by simp)
    · exact ⟨g, cap, hv⟩
  obtain ⟨g, cap, rfl⟩ := hf
  refine ⟨g, cap, w', hr, h2, h3, ?_⟩
  rcases h5 with h5 | h5
  · left; simpa [Value.ownBlock] using h5
  · right; simpa [Value.ownBlock] using h5

theorem wp_append_some {o : Oper} {a : Act} {K : Act → World → Prop} {Q : Exit → Act → World → Prop} (s x : Operand) (t : TypeId)
    (ho : o.op = .call { callee := .builtin .append, args := #[s, x], argTypes := #[t, t] })
    (base : Nat) (e : TypeId) (i : TypeInfo) (z : Value) (size bytes : Nat) (ht : P.underlying t = some (.slice e)) (hi : P.info? e = some i) (hz : i.zero = some z)
    (hsize : i.size = size) (hby : i.bytes = bytes) (hzs : z.cells.size = size) (hsz : 0 < size)
    (g0 n cap0 : Nat) (xs : List Value) (hs : a.eval s = .slice (some ⟨g0, 0, none⟩) n cap0) (hown : w.ownsRow base e size (.slice (some ⟨g0, 0, none⟩) n cap0) n xs)
    (ad : Addr) (m c : Nat) (news : List Value) (hx : a.eval x = .slice (some ad) m c) (hl : news.length = m * size) (hnews : ∀ j u, news[j]? = some u → w.cell? (ad.add j) = some u) (h1 : ∀ u ∈ news, u.oneCell' = true)
    (h63 : n + m ≤ maxLen) (hbytes : (n + m) * bytes ≤ 140737488355328) (hbase : base ≤ w.heap.size)
    (h : ∀ g cap w', w'.ownsRow base e size (.slice (some ⟨g, 0, none⟩) (n + m) cap) (n + m) (xs ++ news) → w.grownBy w' (some g0) → (g = g0 ∨ g = w.heap.size) → K (a.put o.dst (.slice (some ⟨g, 0, none⟩) (n + m) cap)) w') : o.wp P a w K Q := by
  obtain ⟨g, cap, w', hr, h2, h3, h4⟩ := run_append_some (P := P) w t o.type base e i z size bytes ht hi hz hsize hby hzs hsz g0 n cap0 xs hown ad m c news hl hnews h1 h63 hbytes hbase
  unfold Oper.wp execOp
  simp only [ho, resolve, invoke, builtin, Sem.run_bind, Sem.run_pure, Result.andThen_ok, List.map_toArray, List.map_cons, List.map_nil, hs, hx, hr]
  exact h g cap w' h2 h3 h4

theorem step_append_some {ops : Array Oper} {o : Oper} {a : Act} {K : Act → World → Prop} {Q : Exit → Act → World → Prop} {E : Prop} (hgd : o.guard = none) (s x : Operand) (t : TypeId)
    (ho : o.op = .call { callee := .builtin .append, args := #[s, x], argTypes := #[t, t] })
    (base : Nat) (e : TypeId) (i : TypeInfo) (z : Value) (size bytes : Nat) (ht : P.underlying t = some (.slice e)) (hi : P.info? e = some i) (hz : i.zero = some z)
    (hsize : i.size = size) (hby : i.bytes = bytes) (hzs : z.cells.size = size) (hsz : 0 < size)
    (g0 n cap0 : Nat) (xs : List Value) (hs : a.eval s = .slice (some ⟨g0, 0, none⟩) n cap0) (hown : w.ownsRow base e size (.slice (some ⟨g0, 0, none⟩) n cap0) n xs)
    (ad : Addr) (m c : Nat) (news : List Value) (hx : a.eval x = .slice (some ad) m c) (hl : news.length = m * size) (hnews : ∀ j u, news[j]? = some u → w.cell? (ad.add j) = some u) (h1 : ∀ u ∈ news, u.oneCell' = true)
    (h63 : n + m ≤ maxLen) (hbytes : (n + m) * bytes ≤ 140737488355328) (hbase : base ≤ w.heap.size)
    (h : ∀ g cap w', w'.ownsRow base e size (.slice (some ⟨g, 0, none⟩) (n + m) cap) (n + m) (xs ++ news) → w.grownBy w' (some g0) → (g = g0 ∨ g = w.heap.size) → K (a.put o.dst (.slice (some ⟨g, 0, none⟩) (n + m) cap)) w') :
    if Region.wanted o (yielded ops a.tmps) = true then Oper.wp P o a w K Q else E := by
  have hw : Region.wanted o (yielded ops a.tmps) = true := by simp [Region.wanted, hgd]
  rw [if_pos hw]
  exact wp_append_some w s x t ho base e i z size bytes ht hi hz hsize hby hzs hsz g0 n cap0 xs hs hown ad m c news hx hl hnews h1 h63 hbytes hbase h

end

theorem Box.grown0 {w w1 : World} {p base n g cap : Nat} {c : Bool} {v1 v2 : Value} {xs : List Value} (h : Box w p c v1 v2) (hown : w.ownsRow base 3 1 (.slice (some ⟨g, 0, none⟩) n cap) n xs) (hg : w.grownBy w1 (some g)) : Box w1 p c v1 v2 := by
  refine (hg.block p h.lt ?_).trans h
  rcases hown.2 with ⟨e, _⟩ | ⟨g', cap', cur, e, _, hh, _⟩
  · cases e
  · cases e
    intro e
    cases e
    unfold Box at h
    rw [h] at hh
    have := congrArg (fun o => match o with | some (.cells _ t _) => t | _ => 0) hh
    simp at this

theorem Own.grown0 {w w1 : World} {B g n : Nat} {a : Option Addr} {zs : List Int} (h : Own w B a n zs) (hg : w.grownBy w1 (some g)) (hne : ∀ x, At a n x → x ≠ g) : Own w1 B a n zs := by
  refine ⟨h.len, h.small, ?_⟩
  rcases h.at_ with h0 | ⟨b, off, rfl, hb, hlt, hc, hf⟩
  · exact .inl h0
  · by_cases hn : n = 0
    · exact .inl hn
    have hk : w1.heap[b]? = w.heap[b]? := hg.block b hlt (fun e => hne b (at_self hn) (by simpa using e))
    refine .inr ⟨b, off, rfl, hb, Nat.lt_of_lt_of_le hlt hg.size, fun i hi => ?_, fun i hi => ?_⟩
    · exact (World.cell?_of_block hk).trans (hc i hi)
    · exact (World.frozen?_of_block hk).trans (hf i hi)

/-- An array in box p, its elements so far l. -/
structure Gat (w2 : World) (p : Nat) (c : Bool) (ash : Option Addr) (m csh : Nat) (zs l : List Int) (n : Nat) (wr : World) (g cap : Nat) : Prop where
  box : Box wr p c (.slice ash m csh) (.slice (some ⟨g, 0, none⟩) n cap)
  owns : wr.ownsRow w2.heap.size 3 1 (.slice (some ⟨g, 0, none⟩) n cap) n (l.map (Value.int .i64))
  own : Own wr w2.heap.size ash m zs
  ne : ∀ x, At ash m x → x ≠ g
  low : Below w2.heap.size w2 wr
  place : w2.heap.size ≤ p

theorem Gat.len {w2 wr : World} {p g cap n : Nat} {c : Bool} {ash : Option Addr} {m csh : Nat} {zs l : List Int} (h : Gat w2 p c ash m csh zs l n wr g cap) : l.length = n := by
  have := h.owns.1
  simpa using this

theorem Gat.drew {w2 wr : World} {p g cap n : Nat} {c : Bool} {ash : Option Addr} {m csh : Nat} {zs l : List Int} (h : Gat w2 p c ash m csh zs l n wr g cap) : Gat w2 p c ash m csh zs l n wr.drew g cap :=
  have hb : Below wr.heap.size wr wr.drew := (Below.refl _ _).drew
  ⟨h.box.below (Nat.le_refl _) hb, owns_below h.owns (Nat.le_refl _) hb, h.own.below (Nat.le_refl _) hb, h.ne, h.low.trans (hb.mono h.low.size), h.place⟩

theorem Gat.push {w2 w5 w6 : World} {p g g' cap cap' n k : Nat} {c : Bool} {ash : Option Addr} {m csh : Nat} {zs l r : List Int} (h : Gat w2 p c ash m csh zs l n w5 g cap)
    (hown : w6.ownsRow w2.heap.size 3 1 (.slice (some ⟨g', 0, none⟩) (n + k) cap') (n + k) (l.map (Value.int .i64) ++ r.map (Value.int .i64))) (hg : w5.grownBy w6 (some g)) (hat : g' = g ∨ g' = w5.heap.size) :
    (Box w6 p c (.slice ash m csh) (.slice (some ⟨g, 0, none⟩) n cap) ∧ Below w2.heap.size w2 w6) ∧ Gat w2 p c ash m csh zs (l ++ r) (n + k) (w6.setCell ⟨p, 2, none⟩ (.slice (some ⟨g', 0, none⟩) (n + k) cap')) g' cap' := by
  have hb6 := h.box.grown0 h.owns hg
  have ho6 := h.own.grown0 hg h.ne
  have hge : w2.heap.size ≤ g := by
    rcases h.owns.2 with ⟨e, _⟩ | ⟨g1, _, _, e, hb, _⟩
    · cases e
    · cases e; exact hb
  have hlow : Below w2.heap.size w2 w6 := h.low.grown hg h.low.size (by intro k hk; cases hk; exact hge)
  have hne' : ∀ x, At ash m x → x ≠ g' := by
    intro x hx
    rcases hat with e | e
    · rw [e]; exact h.ne x hx
    · have := h.own.row.hi hx; omega
  refine ⟨⟨hb6, hlow⟩, hb6.set2 _, ?_, ho6.other (fun x hx => ho6.row.notBox hb6 hx) _, hne', hlow.setCell h.place _, h.place⟩
  rw [List.map_append]
  exact owns_box_set hown hb6 _ _

theorem addr_plus (b o k : Nat) : (⟨b, o, none⟩ : Addr).add k = ⟨b, o + k, none⟩ := by
  unfold Addr.add
  split
  · simp
  · rfl

/-- What a statement reads that appends to the array's elements. -/
theorem holds_of {wx : World} {p b : Nat} {c d : Bool} {v1 v2 u1 u2 : Value} (h : Box wx p c v1 v2) (hb : Box wx b d u1 u2) : wx.cell? ⟨p, 2, none⟩ = some v2 ∧ wx.cell? ⟨b, 2, none⟩ = some u2 ∧ wx.frozen? ⟨p, 2, none⟩ = false := by
  obtain ⟨x0, x1, x2, x3, x4, x5, x6⟩ := h.all
  exact ⟨x2, hb.cells.2.2, by assumption⟩

theorem Gat.holds {w2 wr : World} {p g cap n b : Nat} {c d : Bool} {ash : Option Addr} {m csh : Nat} {zs l : List Int} {u1 u2 : Value} (h : Gat w2 p c ash m csh zs l n wr g cap) (hb : Box wr b d u1 u2) : wr.cell? ⟨p, 2, none⟩ = some (.slice (some ⟨g, 0, none⟩) n cap) ∧ wr.cell? ⟨b, 2, none⟩ = some u2 ∧ wr.frozen? ⟨p, 2, none⟩ = false := holds_of h.box hb

theorem Gat.grew {w2 w5 w6 : World} {p g cap n : Nat} {c : Bool} {ash : Option Addr} {m csh : Nat} {zs l : List Int} (h : Gat w2 p c ash m csh zs l n w5 g cap) (hg : w5.grownBy w6 (some g)) :
    Box w6 p c (.slice ash m csh) (.slice (some ⟨g, 0, none⟩) n cap) ∧ Below w2.heap.size w2 w6 := by
  have hge : w2.heap.size ≤ g := by
    rcases h.owns.2 with ⟨e, _⟩ | ⟨g1, _, _, e, hb, _⟩
    · cases e
    · cases e; exact hb
  exact ⟨h.box.grown0 h.owns hg, h.low.grown hg h.low.size (by intro k hk; cases hk; exact hge)⟩

/-- The cells of a piece of a row. -/
theorem sub_cells {w : World} {a : Addr} {n u m : Nat} {zs : List Int} (h : Row w (some a) n zs) (hu : u + m ≤ n) : ∀ (j : Nat) v, (((zs.drop u).take m).map (Value.int .i64))[j]? = some v → w.cell? ((a.add u).add j) = some v := by
  intro j v hj
  have hlen := h.len
  have hjm : j < m := by
    rcases Nat.lt_or_ge j m with h' | h'
    · exact h'
    · rw [List.getElem?_eq_none (by simp; omega)] at hj; cases hj
  obtain ⟨b, o, e, _, _⟩ := h.get (show 0 < n by omega)
  cases e
  have hc := cells_ints h (u + j) v (by
    rw [← hj]
    simp only [List.getElem?_map, List.getElem?_take_of_lt hjm, List.getElem?_drop])
  rw [addr_plus] at hc
  rw [addr_plus, addr_plus, Nat.add_assoc]
  exact hc

theorem sub_cells' {w : World} {a A : Addr} {n u m e : Nat} {zs : List Int} (hA : (if e = u then some a else some (a.add u)) = some A) (h : Row w (some a) n zs) (hu : u + m ≤ n) (hn : n ≤ e) : ∀ (j : Nat) v, (((zs.drop u).take m).map (Value.int .i64))[j]? = some v → w.cell? (A.add j) = some v := by
  by_cases he : e = u
  · intro j v hj
    have : m = 0 := by omega
    subst this
    simp at hj
  · rw [if_neg he] at hA
    cases hA
    exact sub_cells h hu

theorem sub_len {n u m : Nat} {zs : List Int} (h : zs.length = n) (hu : u + m ≤ n) : (((zs.drop u).take m).map (Value.int .i64)).length = m * 1 := by
  simp; omega

theorem cat_bounds {k B x y p q n : Nat} (hk : k < B) (hp : B * x = p) (hq : B * y = q) (hn : n ≤ k * (x + y)) : k * x + x ≤ p ∧ k * y + y ≤ q ∧ n + x + y ≤ p + q := by
  have h1 : (k + 1) * x ≤ B * x := Nat.mul_le_mul_right _ hk
  have h2 : (k + 1) * y ≤ B * y := Nat.mul_le_mul_right _ hk
  rw [Nat.add_mul, Nat.one_mul] at h1 h2
  rw [Nat.mul_add] at hn
  omega

theorem cat_next {k x y n : Nat} (hn : n ≤ k * (x + y)) : n + x + y ≤ (k + 1) * (x + y) := by
  rw [Nat.add_mul, Nat.one_mul]; omega

end Go.Proofs.YtkgcmpmgaghdhaaGreatDoor
namespace Go.Proofs.YtkgcmpmgaghdhaaGreatDoor
open Go.RowKit

/-- A list of the call's own, made since W, that grows by appends. -/
structure Ch (W V : World) (g cap n : Nat) (zs : List Int) : Prop where
  own : V.ownsRow W.heap.size 3 1 (.slice (some ⟨g, 0, none⟩) n cap) n (zs.map (Value.int .i64))
  low : Below W.heap.size W V

section
variable {W V : World} {g cap n : Nat} {zs : List Int}
theorem Ch.start (hB : Below W.heap.size W V) (hg : g = V.heap.size) : Ch W (V.alloc (.cells #[] 3)) g 0 0 [] := by
  subst hg
  exact ⟨owns_mono (owns_empty V) hB.size, hB.alloc hB.size _⟩
theorem Ch.alloc (h : Ch W V g cap n zs) (o : Obj) : Ch W (V.alloc o) g cap n zs := ⟨owns_below h.own (Nat.le_refl _) ((Below.refl _ _).alloc (Nat.le_refl _) _), h.low.alloc h.low.size _⟩
theorem Ch.drew (h : Ch W V g cap n zs) : Ch W V.drew g cap n zs := ⟨owns_below h.own (Nat.le_refl _) (Below.refl _ _).drew, h.low.drew⟩
theorem Ch.row (h : Ch W V g cap n zs) (hs : n ≤ 17592186044416) : Row V (some ⟨g, 0, none⟩) n zs := by
  obtain ⟨a, c, e, ho⟩ := Own.of_owns h.own hs
  cases e
  exact ho.row

theorem step_append_ch {P : Program} (hP : P = Tryz.prog) {ops : Array Oper} {o : Oper} {a : Act} {K : Act → World → Prop} {Q : Exit → Act → World → Prop} {E : Prop} (hgd : o.guard = none) (s x : Operand)
    (ho : o.op = .call { callee := .builtin .append, args := #[s, x], argTypes := #[23, 23] })
    (hC : Ch W V g cap n zs) (hs : a.eval s = .slice (some ⟨g, 0, none⟩) n cap) (ad : Addr) (m c : Nat) (ys : List Int) (hr : Row W (some ad) m ys) (hx : a.eval x = .slice (some ad) m c) (N : Nat) (hN : n + m = N) (hb : N ≤ 20000)
    (h : ∀ g' cap' V', Ch W V' g' cap' N (zs ++ ys) → (∀ p c v1 v2, Box V p c v1 v2 → Box V' p c v1 v2) → K (a.put o.dst (.slice (some ⟨g', 0, none⟩) N cap')) V') :
    if Region.wanted o (yielded ops a.tmps) = true then Oper.wp P o a V K Q else E := by
  subst hP hN
  obtain ⟨i0, hi, hz0, hz1, hz2⟩ := info_parts info_int
  have hl := hr.len
  have hr' := hr.below (Nat.le_refl _) hC.low
  refine step_append_some _ hgd s x 23 ho W.heap.size 3 i0 (.int .i64 0) 1 8 Tryz.underlying23 hi hz0 hz1 hz2 rfl (by decide) g n cap (zs.map (Value.int .i64)) hs hC.own ad m c (ys.map (Value.int .i64)) hx (by simpa using hl) (cells_ints hr') (one_ints ys) (by unfold maxLen; omega) (by omega) hC.low.size ?_
  intro g' cap' V' hown hgrow _
  have hge : W.heap.size ≤ g := by
    rcases hC.own.2 with ⟨e, _⟩ | ⟨g', c', cur, e, hg, _⟩
    · cases e
    · cases e; exact hg
  exact h g' cap' V' ⟨by rw [List.map_append]; exact hown, hC.low.grown hgrow hC.low.size (by intro k hk; cases hk; exact hge)⟩ (fun p c v1 v2 hbx => hbx.grown0 hC.own hgrow)
end

end Go.Proofs.YtkgcmpmgaghdhaaGreatDoor
namespace Go.Proofs.YtkgcmpmgaghdhaaGreatDoor
open Go

section
variable {P : Program} {ops : Array Oper} {Q : Exit → Act → World → Prop} {md : Region.Mode} {S : World → Prop} {st : Nat}

/-- Whatever order is picked from here on, and S holds behind every operation but number st. -/
def wpAnyL (P : Program) (md : Region.Mode) (ops : Array Oper) (Q : Exit → Act → World → Prop) (S : World → Prop) (st : Nat) : Nat → Array Bool → Act → World → Prop
  | 0, listed, a, w => Region.ready md ops listed = [] ∧ Q .normal a w
  | fuel + 1, listed, a, w =>
    (Region.ready md ops listed = [] → Q .normal a w) ∧
    ∀ i ∈ Region.ready md ops listed, wpOp P ops Q i (fun a' w' => (i ≠ st → S w') ∧ wpAnyL P md ops Q S st fuel (listed.setIfInBounds i true) a' w') a w

theorem wpAny_of_L : ∀ (fuel : Nat) (listed : Array Bool) (a : Act) (w : World), wpAnyL P md ops Q S st fuel listed a w → wpAny P md ops Q fuel listed a w
  | 0, _, _, _, h => h
  | fuel + 1, _, _, _, h => ⟨h.1, fun i hi => wpOp_mono (fun a' w' h' => wpAny_of_L fuel _ a' w' h'.2) (h.2 i hi)⟩

/-- Operation st waits for operation i. -/
def waitsFor (md : Region.Mode) (ops : Array Oper) (st i : Nat) : Bool := ((ops[st]?).map (·.after.any fun e => Region.binds md e && e.on == i)).getD false

theorem waits_not {i : Nat} {listed : Array Bool} (hw : waitsFor md ops st i = true) (hi : listed.getD i true = false) : st ∉ Region.ready md ops listed := by
  intro hst
  obtain ⟨_, o, ho, hall⟩ := mem_ready.1 hst
  unfold waitsFor at hw
  rw [ho] at hw
  simp only [Option.map_some, Option.getD_some, Array.any_eq_true'] at hw
  obtain ⟨e, he, hb⟩ := hw
  simp only [Bool.and_eq_true, beq_iff_eq] at hb
  have h1 := hall e he hb.1
  rw [hb.2] at h1
  rcases Nat.lt_or_ge i listed.size with h' | h'
  · simp [h'] at hi h1; rw [hi] at h1; cases h1
  · simp [Array.getElem?_eq_none h'] at h1

theorem wpAnyL_first {i : Nat} {oi : Oper} {v : Value} (hi : ops[i]? = some oi) (hsel : ∀ (j : Nat) (o : Oper) cs b, ops[j]? = some o → o.op ≠ .select cs b)
    (hQ : ∀ c a w, Q (.panic c) (a.put oi.dst v) w → Q (.panic c) a w) (hw : waitsFor md ops st i = true) :
    ∀ (fuel : Nat) (listed : Array Bool) (a : Act) (w : World),
      (∀ j oj, ops[j]? = some oj → j ≠ i → listed.getD j true = false → (∀ e ∈ oj.after, Region.binds md e = true → e.on ≠ i) → oi.apart ops oj = true) →
      i ∈ Region.ready md ops listed → YieldsIf P ops S oi v a → S w →
      wpAnyL P md ops Q S st fuel (listed.setIfInBounds i true) (a.put oi.dst v) w → wpAnyL P md ops Q S st (fuel + 1) listed a w := by
  intro fuel
  induction fuel with
  | zero =>
    intro listed a w _ hr hy hS H
    refine ⟨fun h => (by rw [h] at hr; cases hr), fun j hj => ?_⟩
    by_cases hji : j = i
    · subst hji; exact hy.wpOp hi hS ⟨fun _ => hS, H⟩
    · have := ready_mono hj hji
      rw [H.1] at this
      cases this
  | succ fuel ih =>
    intro listed a w hfree hr hy hS H
    refine ⟨fun h => (by rw [h] at hr; cases hr), fun j hj => ?_⟩
    by_cases hji : j = i
    · subst hji; exact hy.wpOp hi hS ⟨fun _ => hS, H⟩
    · have h1 := H.2 j (ready_mono hj hji)
      have hjst : j ≠ st := fun e => waits_not hw (mem_ready.1 hr).1 (e ▸ hj)
      obtain ⟨hjun, oj, hoj, hall⟩ := mem_ready.1 hj
      have hnot : ∀ e ∈ oj.after, Region.binds md e = true → e.on ≠ i := fun e he hb heq => by
        have h1 := hall e he hb
        have h0 := (mem_ready.1 hr).1
        rw [heq] at h1
        rcases Nat.lt_or_ge i listed.size with h' | h'
        · simp [h'] at h0 h1; rw [h0] at h1; cases h1
        · simp [Array.getElem?_eq_none h'] at h1
      have h2 := wpOp_putIf hoj (hfree j oj hoj hji hjun hnot) (fun cs b => hsel i oi cs b hi) (fun cs b => hsel j oj cs b hoj) hQ hy h1
      have hfree' : ∀ k ok, ops[k]? = some ok → k ≠ i → (listed.setIfInBounds j true).getD k true = false →
          (∀ e ∈ ok.after, Region.binds md e = true → e.on ≠ i) → oi.apart ops ok = true := fun k ok hk hki hun hno => by
        refine hfree k ok hk hki ?_ hno
        by_cases hjk : j = k
        · subst hjk; exact hjun
        · rw [getD_set_ne true hjk] at hun; exact hun
      refine wpOp_mono (fun a' w' h3 => ⟨h3.2.1, ih (listed.setIfInBounds j true) a' w' hfree' (ready_mono hr (Ne.symm hji)) h3.1 (h3.2.1 hjst) ?_⟩) h2
      rw [Array.setIfInBounds_comm _ _ hji]
      exact h3.2.2

/-- Take number i first. -/
theorem wpAnyL_take {i : Nat} {oi : Oper} {v : Value} {fuel : Nat} {listed : Array Bool} {a : Act} {w : World} (hi : ops[i]? = some oi)
    (hs : Region.noSelect ops = true) (hf : Region.free md ops listed i = true) (hr : (Region.ready md ops listed).contains i = true) (hw : waitsFor md ops st i = true)
    (hQ : ∀ c a w, Q (.panic c) (a.put oi.dst v) w → Q (.panic c) a w) (hy : YieldsIf P ops S oi v a) (hS : S w)
    (h : wpAnyL P md ops Q S st fuel (listed.setIfInBounds i true) (a.put oi.dst v) w) : wpAnyL P md ops Q S st (fuel + 1) listed a w :=
  wpAnyL_first hi (Region.noSelect_spec hs) hQ hw fuel listed a w (Region.free_spec hi hf) (by simpa using hr) hy hS h

/-- Take number i first, its value into slot d. -/
theorem wpAnyL_put (i d : Nat) (v : Value) {oi : Oper} {fuel : Nat} {listed : Array Bool} {a : Act} {w : World} (hi : ops[i]? = some oi) (hd : oi.dst = some d)
    (hs : Region.noSelect ops = true) (hf : Region.free md ops listed i = true) (hr : (Region.ready md ops listed).contains i = true) (hw : waitsFor md ops st i = true)
    (hQ : ∀ c a (d : Nat) v w, Q (.panic c) (a.put (some d) v) w → Q (.panic c) a w) (hg : Region.wanted oi (yielded ops a.tmps) = true) (hy : ∀ w, S w → (execOp a.eval oi).run P w = .ok (.value v) w) (hS : S w)
    (h : wpAnyL P md ops Q S st fuel (listed.setIfInBounds i true) (a.put (some d) v) w) : wpAnyL P md ops Q S st (fuel + 1) listed a w :=
  wpAnyL_take hi hs hf hr hw (fun c a w h => by rw [hd] at h; exact hQ c a d v w h) (Or.inl ⟨hg, hy⟩) hS (by rw [hd]; exact h)

/-- One alone may come up. -/
theorem wpAnyL_one {i : Nat} {fuel : Nat} {listed : Array Bool} {a : Act} {w : World} (hr : Region.ready md ops listed = [i])
    (h : wpOp P ops Q i (fun a' w' => (i ≠ st → S w') ∧ wpAnyL P md ops Q S st fuel (listed.setIfInBounds i true) a' w') a w) : wpAnyL P md ops Q S st (fuel + 1) listed a w :=
  ⟨fun h0 => (by rw [hr] at h0; cases h0), fun j hj => (by rw [hr] at hj; simp at hj; subst hj; exact h)⟩

theorem wpAnyL_done {listed : Array Bool} {a : Act} {w : World} (hr : Region.ready md ops listed = []) (h : Q .normal a w) : ∀ fuel, wpAnyL P md ops Q S st fuel listed a w
  | 0 => ⟨hr, h⟩
  | _ + 1 => ⟨fun _ => h, by rw [hr]; simp⟩

theorem wp_region_L {id : Nat} {a : Act} {w : World} (S : World → Prop) (st : Nat) (hm : P.follows .mixedOrders = true)
    (h : wpAnyL P .any ops Q S st ops.size (Array.replicate ops.size false) a { w with drawn := w.drawn + 1 }) : (Code.region id ops true).wp P Q a w :=
  wp_region_any hm (wpAny_of_L _ _ _ _ h)

theorem op_wp {K : Act → World → Prop} {a : Act} {w : World} {i : Nat} {o : Oper} (hi : ops[i]? = some o) (hg : Region.wanted o (yielded ops a.tmps) = true) (h : o.wp P a w K Q) : wpOp P ops Q i K a w := by
  unfold wpOp
  rw [hi]
  show if Region.wanted o (yielded ops a.tmps) = true then _ else _
  rw [if_pos hg]
  exact .inl h

theorem eval_ne {a : Act} {d e : Nat} {v : Value} (h : d ≠ e) : (a.put (some d) v).eval (.tmp e) = a.eval (.tmp e) :=
  Act.eval_put (dst := some d) (x := .tmp e) (by simp; exact fun hy => h hy.symm)

theorem eval_eq {a : Act} {d : Nat} {v : Value} (h : d < a.tmps.size) : (a.put (some d) v).eval (.tmp d) = v := by
  simp [Act.eval, Act.put, h]

theorem put_size {a : Act} {d : Nat} {v : Value} : (a.put (some d) v).tmps.size = a.tmps.size := by simp [Act.put]
end

end Go.Proofs.YtkgcmpmgaghdhaaGreatDoor
namespace Go.Proofs.YtkgcmpmgaghdhaaGreatDoor
open Go.RowKit

section
variable {o : Oper} {a : Act}
theorem rgF0 (x : Operand) (b : Nat) (ho : o.op = .fieldAddr 25 x 0) (hx : a.eval x = .pointer (some ⟨b, 0, none⟩)) (w : World) : (execOp a.eval o).run Tryz.prog w = .ok (.value (.pointer (some ⟨b, 0, none⟩))) w := by
  unfold execOp
  simp only [ho, hx]
  go_simp
theorem rgF1 (x : Operand) (b : Nat) (ho : o.op = .fieldAddr 25 x 1) (hx : a.eval x = .pointer (some ⟨b, 0, none⟩)) (w : World) : (execOp a.eval o).run Tryz.prog w = .ok (.value (.pointer (some ⟨b, 1, none⟩))) w := by
  unfold execOp
  simp only [ho, hx]
  go_simp
theorem rgF2 (x : Operand) (b : Nat) (ho : o.op = .fieldAddr 25 x 2) (hx : a.eval x = .pointer (some ⟨b, 0, none⟩)) (w : World) : (execOp a.eval o).run Tryz.prog w = .ok (.value (.pointer (some ⟨b, 2, none⟩))) w := by
  unfold execOp
  simp only [ho, hx]
  go_simp
theorem rgL (x : Operand) (p : Addr) {s : Option Addr} {l c : Nat} (ho : o.op = .load 23 x) (hx : a.eval x = .pointer (some p)) (w : World) (hc : w.cell? p = some (.slice s l c)) : (execOp a.eval o).run Tryz.prog w = .ok (.value (.slice s l c)) w := by
  unfold execOp
  simp only [ho, hx]
  go_simp
theorem rgI (x : Operand) (p : Addr) {z : Int} (ho : o.op = .load 3 x) (hx : a.eval x = .pointer (some p)) (w : World) (hc : w.cell? p = some (.int .i64 z)) : (execOp a.eval o).run Tryz.prog w = .ok (.value (.int .i64 z)) w := by
  unfold execOp
  simp only [ho, hx]
  go_simp
theorem rgM (x : Operand) {v : Value} (ho : o.op = .move x) (hx : a.eval x = v) (w : World) : (execOp a.eval o).run Tryz.prog w = .ok (.value v) w := by
  unfold execOp
  simp only [ho, hx]
  go_simp
theorem rg_mul (x y : Operand) {i j k : Int} (ho : o.op = .binOp .mul 3 x y 3) (hx : a.eval x = .int .i64 i) (hy : a.eval y = .int .i64 j) (hk : IntKind.i64.wrap (i * j) = k) (w : World) : (execOp a.eval o).run Tryz.prog w = .ok (.value (.int .i64 k)) w := by
  unfold execOp
  simp only [ho, hx, hy]
  go_simp
theorem rg_add (x y : Operand) {i j k : Int} (ho : o.op = .binOp .add 3 x y 3) (hx : a.eval x = .int .i64 i) (hy : a.eval y = .int .i64 j) (hk : IntKind.i64.wrap (i + j) = k) (w : World) : (execOp a.eval o).run Tryz.prog w = .ok (.value (.int .i64 k)) w := by
  unfold execOp
  simp only [ho, hx, hy]
  go_simp
theorem rg_rem (x y : Operand) {i j k : Nat} (ho : o.op = .binOp .rem 3 x y 3) (hx : a.eval x = .int .i64 (i : Nat)) (hy : a.eval y = .int .i64 (j : Nat)) (hk : 0 < j ∧ i % j = k ∧ j ≤ 4611686018427387904) (w : World) : (execOp a.eval o).run Tryz.prog w = .ok (.value (.int .i64 (k : Nat))) w := by
  obtain ⟨h0, hk, hj⟩ := hk
  have hjz : ¬ (j : Int) = 0 := by omega
  have hjn : ¬ j = 0 := by omega
  have h2 : (i : Int).tmod (j : Int) = (k : Int) := by rw [Int.tmod_eq_emod_of_nonneg (by omega), ← hk]; rfl
  have hkj : k < j := by rw [← hk]; exact Nat.mod_lt _ h0
  have h3 : IntKind.i64.wrap (k : Int) = (k : Int) := by rw [IntKind.wrap_i64]; omega
  unfold execOp
  simp only [ho, hx, hy]
  go_simp
theorem rgN (t : Nat) {s : Option Addr} {l c : Nat} (ho : o.op = .call { callee := .builtin .len, args := #[.tmp t], argTypes := #[23] }) (hx : a.eval (.tmp t) = .slice s l c) (w : World) : (execOp a.eval o).run Tryz.prog w = .ok (.value (.int .i64 (l : Nat))) w := by
  have hx' : a.tmps[t]?.getD undef = .slice s l c := by simpa [Act.eval] using hx
  unfold execOp
  simp only [ho]
  go_simp
theorem rgX (x y : Operand) {b off m c J : Nat} (ho : o.op = .indexAddr 23 x y) (hx : a.eval x = .slice (some ⟨b, off, none⟩) m c) (hy : a.eval y = .int .i64 (J : Nat)) (hJ : J < m) (w : World) : (execOp a.eval o).run Tryz.prog w = .ok (.value (.pointer (some ⟨b, off + J, none⟩))) w := by
  have h1 : (J : Int) < (m : Int) := by omega
  unfold execOp
  simp only [ho, hx, hy]
  go_simp
theorem rgS1 (t : Nat) {z : Int} (ho : o.op = .buildSlice 23 1 #[(0, .tmp t)]) (hx : a.eval (.tmp t) = .int .i64 z) (w : World) : (execOp a.eval o).run Tryz.prog w = .ok (.value (.slice (some ⟨w.heap.size, 0, none⟩) 1 1)) (w.alloc (.cells #[.int .i64 z] 3)) := by
  have hx' : a.tmps[t]?.getD undef = .int .i64 z := by simpa [Act.eval] using hx
  unfold execOp
  simp only [ho]
  go_simp
theorem rgSt (x y : Operand) (p : Nat) {v1 : Value} {s : Option Addr} {l c : Nat} (ho : o.op = .store 23 x y) (hx : a.eval x = .pointer (some ⟨p, 2, none⟩)) (hy : a.eval y = .slice s l c) (w : World) (hc : w.cell? ⟨p, 2, none⟩ = some v1) (hf : w.frozen? ⟨p, 2, none⟩ = false) : (execOp a.eval o).run Tryz.prog w = .ok .skip (w.setCell ⟨p, 2, none⟩ (.slice s l c)) := by
  unfold execOp
  simp only [ho, hx, hy]
  go_simp
theorem put_nothing {a : Act} {v : Value} : a.put none v = a := rfl
theorem wanted_free {o : Oper} {y : Nat → Option Bool} (h : o.guard = none) : Region.wanted o y = true := by simp [Region.wanted, h]
end

end Go.Proofs.YtkgcmpmgaghdhaaGreatDoor
namespace Go.Proofs.YtkgcmpmgaghdhaaGreatDoor
open Go.RowKit

theorem row_none {w : World} {n : Nat} {zs : List Int} (h : Row w none n zs) : n = 0 ∧ zs = [] := by
  obtain ⟨hl, _, h0 | ⟨b, off, hb, _⟩⟩ := h
  · subst h0; exact ⟨rfl, List.length_eq_zero_iff.mp hl⟩
  · cases hb

theorem run_append_nocap {P : Program} {w : World} (base : Nat) (t ty e : TypeId) (i : TypeInfo) (size : Nat) (ht : P.underlying t = some (.slice e)) (hi : P.info? e = some i)
    (v : Value) (n : Nat) (xs : List Value) (hown : w.ownsRow base e size v n xs) (c : Nat) : (Builtin.append_ #[t, t] ty #[v, .slice none 0 c]).run P w = .ok v w := by
  rcases hown.2 with ⟨rfl, rfl⟩ | ⟨g, cap, cur, rfl, _, _, hnc, _⟩
  · simp [Builtin.append_, run_underlying ht, sizeOf, typeInfo, hi, Builtin.lenOf, Builtin.firstCells]
  · simp [Builtin.append_, run_underlying ht, sizeOf, typeInfo, hi, Builtin.lenOf, Builtin.firstCells, hnc, storeCells]

theorem wpList_append_nocap {P : Program} {w : World} {ops : Array Oper} {rest : List Oper} {o : Oper} {a : Act} {Q : Exit → Act → World → Prop} (hgd : o.guard = none) (s x : Operand) (t : TypeId)
    (ho : o.op = .call { callee := .builtin .append, args := #[s, x], argTypes := #[t, t] })
    (base : Nat) (e : TypeId) (i : TypeInfo) (size : Nat) (ht : P.underlying t = some (.slice e)) (hi : P.info? e = some i)
    (v : Value) (n : Nat) (xs : List Value) (hs : a.eval s = v) (hown : w.ownsRow base e size v n xs) (k : Nat) (hk : k = 0) (c : Nat) (hx : a.eval x = .slice none k c)
    (h : wpList P ops Q rest (a.put o.dst v) w) : wpList P ops Q (o :: rest) a w := by
  subst hk
  refine wpList_plain hgd fun K hK => ?_
  have hrun := run_append_nocap (P := P) (w := w) base t o.type e i size ht hi v n xs hown c
  unfold Oper.wp
  simp [execOp, ho, resolve, invoke, builtin, hs, hx, hrun, Result.andThen]
  exact hK _ _ h

end Go.Proofs.YtkgcmpmgaghdhaaGreatDoor
namespace Go.Proofs.YtkgcmpmgaghdhaaGreatDoor
open Go.RowKit

/-- A slice that reads as zs and is nil only where it is empty. -/
def Src (w : World) (s : Option Addr) (n _c : Nat) (zs : List Int) : Prop := Row w s n zs ∧ ((∃ ad, s = some ad) ∨ (s = none ∧ n = 0))
theorem Src.below {w w' : World} {s : Option Addr} {n c B : Nat} {zs : List Int} (h : Src w s n c zs) (hB : w.heap.size ≤ B) (hb : Below B w w') : Src w' s n c zs := ⟨h.1.below hB hb, h.2⟩
theorem Src.some {w : World} {s : Addr} {n c : Nat} {zs : List Int} (h : Row w (some s) n zs) : Src w (some s) n c zs := ⟨h, .inl ⟨s, rfl⟩⟩
theorem Src.none (w : World) : Src w none 0 0 [] := ⟨row_nil _ _, .inr ⟨rfl, rfl⟩⟩
theorem Src.of {w : World} {s : Option Addr} {n c : Nat} {zs : List Int} (h : Row w s n zs) : Src w s n c zs := by
  cases s with
  | some a => exact Src.some h
  | none => exact ⟨h, .inr ⟨rfl, (row_none h).1⟩⟩

def oLw_0 : Oper := { dst := some 3, op := Op.fieldAddr 25 (Operand.tmp 1) 0, type := 0, pos := "laws.go:46", after := #[], guard := none }
def oLw_1 : Oper := { dst := some 4, op := Op.load 4 (Operand.tmp 3), type := 4, pos := "laws.go:46", after := #[{ on := 0, ground := Ground.data }], guard := none }
def oLw_2 : Oper := { dst := some 5, op := Op.buildSlice 23 0 #[], type := 23, pos := "laws.go:46", after := #[], guard := none }
def oLw_3 : Oper := { dst := some 6, op := Op.fieldAddr 25 (Operand.tmp 1) 1, type := 0, pos := "laws.go:46", after := #[], guard := none }
def oLw_4 : Oper := { dst := some 7, op := Op.load 23 (Operand.tmp 6), type := 23, pos := "laws.go:46", after := #[{ on := 3, ground := Ground.data }], guard := none }
def oLw_5 : Oper := { dst := some 8, op := Op.call { callee := Callee.builtin Builtin.append, args := #[Operand.tmp 5, Operand.tmp 7], argTypes := #[23, 23] }, type := 23, pos := "laws.go:46", after := #[{ on := 2, ground := Ground.data }, { on := 4, ground := Ground.data }], guard := none }
def oLw_6 : Oper := { dst := some 9, op := Op.buildSlice 23 0 #[], type := 23, pos := "laws.go:46", after := #[], guard := none }
def oLw_7 : Oper := { dst := some 10, op := Op.fieldAddr 25 (Operand.tmp 1) 2, type := 0, pos := "laws.go:46", after := #[], guard := none }
def oLw_8 : Oper := { dst := some 11, op := Op.load 23 (Operand.tmp 10), type := 23, pos := "laws.go:46", after := #[{ on := 7, ground := Ground.data }], guard := none }
def oLw_9 : Oper := { dst := some 12, op := Op.call { callee := Callee.builtin Builtin.append, args := #[Operand.tmp 9, Operand.tmp 11], argTypes := #[23, 23] }, type := 23, pos := "laws.go:46", after := #[{ on := 6, ground := Ground.data }, { on := 8, ground := Ground.data }, { on := 5, ground := Ground.chain }], guard := none }
def oLw_10 : Oper := { dst := some 13, op := Op.build 25 #[(0, Operand.tmp 4), (1, Operand.tmp 8), (2, Operand.tmp 12)], type := 25, pos := "laws.go:46", after := #[{ on := 1, ground := Ground.data }, { on := 5, ground := Ground.data }, { on := 9, ground := Ground.data }], guard := none }
def oLw_11 : Oper := { dst := none, op := Op.store 25 (Operand.tmp 2) (Operand.tmp 13), type := 0, pos := "laws.go:46", after := #[{ on := 10, ground := Ground.data }, { on := 9, ground := Ground.chain }, { on := 0, ground := Ground.phase }, { on := 1, ground := Ground.phase }, { on := 2, ground := Ground.phase }, { on := 3, ground := Ground.phase }, { on := 4, ground := Ground.phase }, { on := 5, ground := Ground.phase }, { on := 6, ground := Ground.phase }, { on := 7, ground := Ground.phase }, { on := 8, ground := Ground.phase }, { on := 9, ground := Ground.phase }, { on := 10, ground := Ground.phase }], guard := none }

/-- laws.lwArray's region 1. -/
def opsLw : Array Oper := #[oLw_0, oLw_1, oLw_2, oLw_3, oLw_4, oLw_5, oLw_6, oLw_7, oLw_8, oLw_9, oLw_10, oLw_11]

section
variable {P : Program} {ops : Array Oper} {Q : Exit → Act → World → Prop} {md : Region.Mode} {S : World → Prop} {st : Nat}
theorem wpAnyL_two {i j : Nat} {fuel : Nat} {listed : Array Bool} {a : Act} {w : World} (hr : Region.ready md ops listed = [i, j])
    (h : wpOp P ops Q i (fun a' w' => (i ≠ st → S w') ∧ wpAnyL P md ops Q S st fuel (listed.setIfInBounds i true) a' w') a w)
    (h' : wpOp P ops Q j (fun a' w' => (j ≠ st → S w') ∧ wpAnyL P md ops Q S st fuel (listed.setIfInBounds j true) a' w') a w) : wpAnyL P md ops Q S st (fuel + 1) listed a w :=
  ⟨fun h0 => (by rw [hr] at h0; cases h0), fun k hk => (by rw [hr] at hk; simp at hk; rcases hk with rfl | rfl <;> assumption)⟩
end

section
variable {o : Oper} {a : Act}
theorem rgS0 (ho : o.op = .buildSlice 23 0 #[]) (w : World) : (execOp a.eval o).run Tryz.prog w = .ok (.value (.slice (some ⟨w.heap.size, 0, none⟩) 0 0)) (w.alloc (.cells #[] 3)) := by
  unfold execOp
  simp only [ho]
  go_simp
theorem rgBool (x : Operand) (p : Addr) {z : Bool} (ho : o.op = .load 4 x) (hx : a.eval x = .pointer (some p)) (w : World) (hc : w.cell? p = some (.bool z)) : (execOp a.eval o).run Tryz.prog w = .ok (.value (.bool z)) w := by
  unfold execOp
  simp only [ho, hx]
  go_simp
theorem rgStruct (i j k : Nat) {z : Bool} {s1 s2 : Option Addr} {m1 d1 m2 d2 : Nat} (ho : o.op = .build 25 #[(0, .tmp i), (1, .tmp j), (2, .tmp k)]) (h0 : a.eval (.tmp i) = .bool z) (h1 : a.eval (.tmp j) = .slice s1 m1 d1) (h2 : a.eval (.tmp k) = .slice s2 m2 d2) (w : World) : (execOp a.eval o).run Tryz.prog w = .ok (.value (.agg #[.bool z, .slice s1 m1 d1, .slice s2 m2 d2])) w := by
  have h0' : a.tmps[i]?.getD undef = .bool z := by simpa [Act.eval] using h0
  have h1' : a.tmps[j]?.getD undef = .slice s1 m1 d1 := by simpa [Act.eval] using h1
  have h2' : a.tmps[k]?.getD undef = .slice s2 m2 d2 := by simpa [Act.eval] using h2
  unfold execOp
  simp only [ho]
  go_simp
theorem rgStoreA (x y : Operand) (p : Nat) {c c' : Bool} {u1 u2 : Value} {s1 s2 : Option Addr} {m1 d1 m2 d2 : Nat} (ho : o.op = .store 25 x y) (hx : a.eval x = .pointer (some ⟨p, 0, none⟩)) (hy : a.eval y = .agg #[.bool c', .slice s1 m1 d1, .slice s2 m2 d2]) (w : World) (hb : Box w p c u1 u2) : (execOp a.eval o).run Tryz.prog w = .ok .skip (((w.setCell ⟨p, 0, none⟩ (.bool c')).setCell ⟨p, 1, none⟩ (.slice s1 m1 d1)).setCell ⟨p, 2, none⟩ (.slice s2 m2 d2)) := by
  obtain ⟨y0, y1, y2, y3, y4, y5, y6⟩ := hb.all
  unfold execOp
  simp only [ho, hx, hy]
  go_simp
end

theorem row_news {w : World} {s : Addr} {n : Nat} {zs : List Int} (h : Row w (some s) n zs) : ∀ (j : Nat) u, (zs.map (Value.int .i64))[j]? = some u → w.cell? (s.add j) = some u := by
  intro j u hj
  have hl := h.len
  have hjn : j < n := by
    rcases Nat.lt_or_ge j n with h' | h'
    · exact h'
    · rw [List.getElem?_eq_none (by rw [List.length_map]; omega)] at hj
      cases hj
  obtain ⟨b, o, hab, _, hc⟩ := h.get hjn
  cases hab
  have hadd : (⟨b, o, none⟩ : Addr).add j = ⟨b, o + j, none⟩ := by unfold Addr.add; split <;> simp_all
  rw [hadd, hc]
  have hjz : j < zs.length := by omega
  simp [List.getElem?_eq_getElem hjz] at hj
  simp [List.getD, List.getElem?_eq_getElem hjz, hj]

theorem ints_one (zs : List Int) : ∀ u ∈ zs.map (Value.int .i64), u.oneCell' = true := by
  intro u hu
  obtain ⟨x, _, rfl⟩ := List.mem_map.1 hu
  rfl

theorem put_defers {a : Act} {d : Nat} {v : Value} : (a.put (some d) v).defers = a.defers := rfl

theorem wp_append_src {P : Program} (w : World) {o : Oper} {a : Act} {K : Act → World → Prop} {Q : Exit → Act → World → Prop} (s x : Operand) (t : TypeId)
    (ho : o.op = .call { callee := .builtin .append, args := #[s, x], argTypes := #[t, t] })
    (base : Nat) (e : TypeId) (i : TypeInfo) (ht : P.underlying t = some (.slice e)) (hi : P.info? e = some i) (hz : i.zero = some (.int .i64 0))
    (hsize : i.size = 1) (hby : i.bytes = 8)
    (g0 : Nat) (hs : a.eval s = .slice (some ⟨g0, 0, none⟩) 0 0) (hown : w.ownsRow base e 1 (.slice (some ⟨g0, 0, none⟩) 0 0) 0 [])
    (ad : Option Addr) (m c : Nat) (zs : List Int) (hx : a.eval x = .slice ad m c) (hsrc : Src w ad m c zs) (hm : m ≤ 20000) (hbase : base ≤ w.heap.size)
    (h : ∀ g cap w', w'.ownsRow base e 1 (.slice (some ⟨g, 0, none⟩) m cap) m (zs.map (Value.int .i64)) → w.grownBy w' (some g0) → (g = g0 ∨ g = w.heap.size) → K (a.put o.dst (.slice (some ⟨g, 0, none⟩) m cap)) w') : o.wp P a w K Q := by
  obtain ⟨hrow, hk⟩ := hsrc
  have hlen := hrow.len
  rcases hk with ⟨ad, rfl⟩ | ⟨rfl, rfl⟩
  · refine wp_append_some w s x t ho base e i (.int .i64 0) 1 8 ht hi hz hsize hby rfl (by decide) g0 0 0 [] hs hown ad m c (zs.map (Value.int .i64)) hx (by simp [hlen]) (row_news hrow) (ints_one _) (by unfold maxLen; omega) (by omega) hbase ?_
    intro g d w' ho' hg hat
    rw [Nat.zero_add] at ho' ⊢
    exact h g d w' (by simpa using ho') hg hat
  · have hrun := run_append_nocap (P := P) (w := w) base t o.type e i 1 ht hi _ 0 [] hown c
    obtain rfl : zs = [] := List.length_eq_zero_iff.1 hlen
    unfold Oper.wp execOp
    simp only [ho, resolve, invoke, builtin, Sem.run_bind, Sem.run_pure, Result.andThen_ok, List.map_toArray, List.map_cons, List.map_nil, hs, hx, hrun]
    exact h g0 0 w hown ⟨rfl, rfl, rfl, Nat.le_refl _, fun _ _ _ => rfl⟩ (.inl rfl)

/-- How far the two copies have come: 0 not begun, 1 an empty row lies, 2 copied. -/
structure LwS (W : World) (p q : Nat) (c : Bool) (s1 s2 : Option Addr) (n1 n2 c1 c2 : Nat) (sh dt : List Int) (A B gA gB dA dB : Nat) (a : Act) (wx : World) : Prop where
  low : Below W.heap.size W wx
  size : 14 ≤ a.tmps.size
  df : a.defers = []
  e2 : a.eval (.tmp 2) = .pointer (some ⟨q, 0, none⟩)
  e4 : a.eval (.tmp 4) = .bool c
  e7 : a.eval (.tmp 7) = .slice s1 n1 c1
  e11 : a.eval (.tmp 11) = .slice s2 n2 c2
  a1 : A = 1 → a.eval (.tmp 5) = .slice (some ⟨gA, 0, none⟩) 0 0 ∧ wx.ownsRow W.heap.size 3 1 (.slice (some ⟨gA, 0, none⟩) 0 0) 0 []
  a2 : A = 2 → a.eval (.tmp 8) = .slice (some ⟨gA, 0, none⟩) n1 dA ∧ wx.ownsRow W.heap.size 3 1 (.slice (some ⟨gA, 0, none⟩) n1 dA) n1 (sh.map (Value.int .i64))
  b1 : B = 1 → a.eval (.tmp 9) = .slice (some ⟨gB, 0, none⟩) 0 0 ∧ wx.ownsRow W.heap.size 3 1 (.slice (some ⟨gB, 0, none⟩) 0 0) 0 []
  b2 : B = 2 → a.eval (.tmp 12) = .slice (some ⟨gB, 0, none⟩) n2 dB ∧ wx.ownsRow W.heap.size 3 1 (.slice (some ⟨gB, 0, none⟩) n2 dB) n2 (dt.map (Value.int .i64))
  la : A ≠ 0 → gA < wx.heap.size
  lb : B ≠ 0 → gB < wx.heap.size
  ne : A ≠ 0 → B ≠ 0 → gA ≠ gB

section
variable {W wx w' : World} {p q n1 n2 c1 c2 A B gA gB dA dB g d : Nat} {c : Bool} {s1 s2 : Option Addr} {sh dt : List Int} {a : Act}
theorem lw_owns {v : Value} {n : Nat} {xs : List Value} (h : wx.ownsRow W.heap.size 3 1 v n xs) : (wx.alloc (.cells #[] 3)).ownsRow W.heap.size 3 1 v n xs := h.alloc _
theorem lw_grown {n cap k : Nat} {xs : List Value} (h : wx.ownsRow W.heap.size 3 1 (.slice (some ⟨k, 0, none⟩) n cap) n xs) (hg : wx.grownBy w' (some g)) (hk : k ≠ g) : w'.ownsRow W.heap.size 3 1 (.slice (some ⟨k, 0, none⟩) n cap) n xs := by
  refine ⟨h.1, ?_⟩
  rcases h.2 with ⟨e, _⟩ | ⟨g', cap', cur, e, hge, hh, hr⟩
  · cases e
  · cases e
    exact .inr ⟨_, _, cur, rfl, hge, (hg.block _ (lt_of_block hh) (fun e => hk (by simpa using e))).trans hh, hr⟩
theorem lw_low (h : Below W.heap.size W wx) (hg : wx.grownBy w' (some g)) (hge : W.heap.size ≤ g) : Below W.heap.size W w' :=
  ⟨hg.os.trans h.os, hg.tape.trans h.tape, hg.output.trans h.output, Nat.le_trans h.size hg.size, fun k hk => (hg.block k (by have := h.size; omega) (fun e => by have := (Option.some.inj e : k = g); omega)).trans (h.block k hk)⟩
theorem lw_from {n cap k : Nat} {xs : List Value} (h : wx.ownsRow W.heap.size 3 1 (.slice (some ⟨k, 0, none⟩) n cap) n xs) : W.heap.size ≤ k := by
  rcases h.2 with ⟨e, _⟩ | ⟨g', cap', cur, e, hge, hh, hr⟩
  · cases e
  · cases e; exact hge
theorem lw_lt {n cap k : Nat} {xs : List Value} (h : wx.ownsRow W.heap.size 3 1 (.slice (some ⟨k, 0, none⟩) n cap) n xs) : k < wx.heap.size := by
  rcases h.2 with ⟨e, _⟩ | ⟨g', cap', cur, e, hge, hh, hr⟩
  · cases e
  · cases e; exact lt_of_block hh

theorem LwS.buildA (h : LwS W p q c s1 s2 n1 n2 c1 c2 sh dt 0 B gA gB dA dB a wx) : LwS W p q c s1 s2 n1 n2 c1 c2 sh dt 1 B wx.heap.size gB dA dB (a.put (some 5) (.slice (some ⟨wx.heap.size, 0, none⟩) 0 0)) (wx.alloc (.cells #[] 3)) :=
  ⟨h.low.alloc h.low.size _, by rw [put_size]; exact h.size, by rw [put_defers]; exact h.df, by rw [eval_ne (by decide)]; exact h.e2, by rw [eval_ne (by decide)]; exact h.e4, by rw [eval_ne (by decide)]; exact h.e7, by rw [eval_ne (by decide)]; exact h.e11,
    fun _ => ⟨eval_eq (by have := h.size; omega), (Blk.new wx).owns h.low.size⟩, fun e => by omega,
    fun e => ⟨by rw [eval_ne (by decide)]; exact (h.b1 e).1, lw_owns (h.b1 e).2⟩, fun e => ⟨by rw [eval_ne (by decide)]; exact (h.b2 e).1, lw_owns (h.b2 e).2⟩,
    fun _ => by simp, fun e => by have := h.lb e; simp; omega, fun _ e => by have := h.lb e; omega⟩
theorem LwS.buildB (h : LwS W p q c s1 s2 n1 n2 c1 c2 sh dt A 0 gA gB dA dB a wx) : LwS W p q c s1 s2 n1 n2 c1 c2 sh dt A 1 gA wx.heap.size dA dB (a.put (some 9) (.slice (some ⟨wx.heap.size, 0, none⟩) 0 0)) (wx.alloc (.cells #[] 3)) :=
  ⟨h.low.alloc h.low.size _, by rw [put_size]; exact h.size, by rw [put_defers]; exact h.df, by rw [eval_ne (by decide)]; exact h.e2, by rw [eval_ne (by decide)]; exact h.e4, by rw [eval_ne (by decide)]; exact h.e7, by rw [eval_ne (by decide)]; exact h.e11,
    fun e => ⟨by rw [eval_ne (by decide)]; exact (h.a1 e).1, lw_owns (h.a1 e).2⟩, fun e => ⟨by rw [eval_ne (by decide)]; exact (h.a2 e).1, lw_owns (h.a2 e).2⟩,
    fun _ => ⟨eval_eq (by have := h.size; omega), (Blk.new wx).owns h.low.size⟩, fun e => by omega,
    fun e => by have := h.la e; simp; omega, fun _ => by simp, fun e _ => by have := h.la e; omega⟩
theorem LwS.appA (h : LwS W p q c s1 s2 n1 n2 c1 c2 sh dt 1 B gA gB dA dB a wx) (ho : w'.ownsRow W.heap.size 3 1 (.slice (some ⟨g, 0, none⟩) n1 d) n1 (sh.map (Value.int .i64))) (hg : wx.grownBy w' (some gA)) (hat : g = gA ∨ g = wx.heap.size) : LwS W p q c s1 s2 n1 n2 c1 c2 sh dt 2 B g gB d dB (a.put (some 8) (.slice (some ⟨g, 0, none⟩) n1 d)) w' :=
  ⟨lw_low h.low hg (lw_from (h.a1 rfl).2), by rw [put_size]; exact h.size, by rw [put_defers]; exact h.df, by rw [eval_ne (by decide)]; exact h.e2, by rw [eval_ne (by decide)]; exact h.e4, by rw [eval_ne (by decide)]; exact h.e7, by rw [eval_ne (by decide)]; exact h.e11,
    fun e => by omega, fun _ => ⟨eval_eq (by have := h.size; omega), ho⟩,
    fun e => ⟨by rw [eval_ne (by decide)]; exact (h.b1 e).1, lw_grown (h.b1 e).2 hg (h.ne (by omega) (by omega)).symm⟩, fun e => ⟨by rw [eval_ne (by decide)]; exact (h.b2 e).1, lw_grown (h.b2 e).2 hg (h.ne (by omega) (by omega)).symm⟩,
    fun _ => lw_lt ho, fun e => Nat.lt_of_lt_of_le (h.lb e) hg.size, fun _ e => by have h1 := h.lb e; have h2 := h.ne (by omega) e; rcases hat with rfl | rfl <;> omega⟩
theorem LwS.appB (h : LwS W p q c s1 s2 n1 n2 c1 c2 sh dt A 1 gA gB dA dB a wx) (ho : w'.ownsRow W.heap.size 3 1 (.slice (some ⟨g, 0, none⟩) n2 d) n2 (dt.map (Value.int .i64))) (hg : wx.grownBy w' (some gB)) (hat : g = gB ∨ g = wx.heap.size) : LwS W p q c s1 s2 n1 n2 c1 c2 sh dt A 2 gA g dA d (a.put (some 12) (.slice (some ⟨g, 0, none⟩) n2 d)) w' :=
  ⟨lw_low h.low hg (lw_from (h.b1 rfl).2), by rw [put_size]; exact h.size, by rw [put_defers]; exact h.df, by rw [eval_ne (by decide)]; exact h.e2, by rw [eval_ne (by decide)]; exact h.e4, by rw [eval_ne (by decide)]; exact h.e7, by rw [eval_ne (by decide)]; exact h.e11,
    fun e => ⟨by rw [eval_ne (by decide)]; exact (h.a1 e).1, lw_grown (h.a1 e).2 hg (h.ne (by omega) (by omega))⟩, fun e => ⟨by rw [eval_ne (by decide)]; exact (h.a2 e).1, lw_grown (h.a2 e).2 hg (h.ne (by omega) (by omega))⟩,
    fun e => by omega, fun _ => ⟨eval_eq (by have := h.size; omega), ho⟩,
    fun e => Nat.lt_of_lt_of_le (h.la e) hg.size, fun _ => lw_lt ho, fun e _ => by have h1 := h.la e; have h2 := h.ne e (by omega); rcases hat with rfl | rfl <;> omega⟩
end

section
variable {Q : Exit → Act → World → Prop} (W : World) (p q : Nat) (c : Bool) (s1 s2 : Option Addr) (n1 n2 c1 c2 : Nat) (sh dt : List Int)
theorem lw_22 (u1 u2 : Value) (hq : Box W q false u1 u2) (hend : ∀ a g1 g2 d1 d2 wx, LwS W p q c s1 s2 n1 n2 c1 c2 sh dt 2 2 g1 g2 d1 d2 a wx → Q .normal (a.put (some 13) (.agg #[.bool c, .slice (some ⟨g1, 0, none⟩) n1 d1, .slice (some ⟨g2, 0, none⟩) n2 d2])) (((wx.setCell ⟨q, 0, none⟩ (.bool c)).setCell ⟨q, 1, none⟩ (.slice (some ⟨g1, 0, none⟩) n1 d1)).setCell ⟨q, 2, none⟩ (.slice (some ⟨g2, 0, none⟩) n2 d2))) (a : Act) (gA gB dA dB : Nat) (wx : World) (h : LwS W p q c s1 s2 n1 n2 c1 c2 sh dt 2 2 gA gB dA dB a wx) : wpAnyL Tryz.prog .any opsLw Q (fun wx => Below W.heap.size W wx) 11 2 #[true, true, true, true, true, true, true, true, true, true, false, false] a wx := by
  refine wpAnyL_one (i := 10) (by kernel_rfl) ?_
  refine op_wp (o := oLw_10) rfl (wanted_free rfl) ?_
  unfold Oper.wp
  rw [rgStruct (o := oLw_10) 4 8 12 rfl h.e4 (h.a2 rfl).1 (h.b2 rfl).1 wx]
  refine ⟨fun _ => h.low, ?_⟩
  show wpAnyL _ _ _ _ _ _ (0 + 1) _ (Act.put _ (some 13) _) _
  refine wpAnyL_one (i := 11) (by kernel_rfl) ?_
  refine op_wp (o := oLw_11) rfl (wanted_free rfl) ?_
  unfold Oper.wp
  rw [rgStoreA (o := oLw_11) (.tmp 2) (.tmp 13) q (c' := c) (s1 := some ⟨gA, 0, none⟩) (s2 := some ⟨gB, 0, none⟩) (m1 := n1) (d1 := dA) (m2 := n2) (d2 := dB) rfl (by rw [eval_ne (by decide)]; exact h.e2) (eval_eq (by have := h.size; omega)) wx (hq.below (Nat.le_refl _) h.low)]
  refine ⟨fun h => absurd rfl h, ?_⟩
  refine wpAnyL_done (by kernel_rfl) ?_ _
  rw [show oLw_11.dst = none from rfl, put_nothing]
  exact hend a gA gB dA dB wx h

theorem lw_21 (r2 : Src W s2 n2 c2 dt) (h2 : n2 ≤ 20000) (u1 u2 : Value) (hq : Box W q false u1 u2) (hend : ∀ a g1 g2 d1 d2 wx, LwS W p q c s1 s2 n1 n2 c1 c2 sh dt 2 2 g1 g2 d1 d2 a wx → Q .normal (a.put (some 13) (.agg #[.bool c, .slice (some ⟨g1, 0, none⟩) n1 d1, .slice (some ⟨g2, 0, none⟩) n2 d2])) (((wx.setCell ⟨q, 0, none⟩ (.bool c)).setCell ⟨q, 1, none⟩ (.slice (some ⟨g1, 0, none⟩) n1 d1)).setCell ⟨q, 2, none⟩ (.slice (some ⟨g2, 0, none⟩) n2 d2))) (a : Act) (gA gB dA dB : Nat) (wx : World) (h : LwS W p q c s1 s2 n1 n2 c1 c2 sh dt 2 1 gA gB dA dB a wx) : wpAnyL Tryz.prog .any opsLw Q (fun wx => Below W.heap.size W wx) 11 3 #[true, true, true, true, true, true, true, true, true, false, false, false] a wx := by
  obtain ⟨i0, hi, hz0, hz1, hz2⟩ := info_parts info_int
  refine wpAnyL_one (i := 9) (by kernel_rfl) ?_
  ·
    have hL : (#[true, true, true, true, true, true, true, true, true, false, false, false] : Array Bool).setIfInBounds 9 true = #[true, true, true, true, true, true, true, true, true, true, false, false] := by kernel_rfl
    refine op_wp (o := oLw_9) rfl (wanted_free rfl) ?_
    have hrow := r2.below (Nat.le_refl _) h.low
    refine wp_append_src wx (.tmp 9) (.tmp 11) 23 rfl W.heap.size 3 i0 Tryz.underlying23 hi hz0 hz1 hz2 gB (h.b1 rfl).1 (h.b1 rfl).2 s2 n2 c2 dt h.e11 hrow (by omega) h.low.size ?_
    intro g d w' ho hg hat
    have h' := h.appB ho hg hat
    refine ⟨fun _ => h'.low, ?_⟩
    rw [hL]
    exact lw_22 W p q c s1 s2 n1 n2 c1 c2 sh dt u1 u2 hq hend _ _ _ _ _ _ h'

theorem lw_20 (r2 : Src W s2 n2 c2 dt) (h2 : n2 ≤ 20000) (u1 u2 : Value) (hq : Box W q false u1 u2) (hend : ∀ a g1 g2 d1 d2 wx, LwS W p q c s1 s2 n1 n2 c1 c2 sh dt 2 2 g1 g2 d1 d2 a wx → Q .normal (a.put (some 13) (.agg #[.bool c, .slice (some ⟨g1, 0, none⟩) n1 d1, .slice (some ⟨g2, 0, none⟩) n2 d2])) (((wx.setCell ⟨q, 0, none⟩ (.bool c)).setCell ⟨q, 1, none⟩ (.slice (some ⟨g1, 0, none⟩) n1 d1)).setCell ⟨q, 2, none⟩ (.slice (some ⟨g2, 0, none⟩) n2 d2))) (a : Act) (gA gB dA dB : Nat) (wx : World) (h : LwS W p q c s1 s2 n1 n2 c1 c2 sh dt 2 0 gA gB dA dB a wx) : wpAnyL Tryz.prog .any opsLw Q (fun wx => Below W.heap.size W wx) 11 4 #[true, true, true, true, true, true, false, true, true, false, false, false] a wx := by
  obtain ⟨i0, hi, hz0, hz1, hz2⟩ := info_parts info_int
  refine wpAnyL_one (i := 6) (by kernel_rfl) ?_
  ·
    have hL : (#[true, true, true, true, true, true, false, true, true, false, false, false] : Array Bool).setIfInBounds 6 true = #[true, true, true, true, true, true, true, true, true, false, false, false] := by kernel_rfl
    refine op_wp (o := oLw_6) rfl (wanted_free rfl) ?_
    unfold Oper.wp
    rw [rgS0 (o := oLw_6) rfl wx]
    refine ⟨fun _ => h.buildB.low, ?_⟩
    rw [hL]
    exact lw_21 W p q c s1 s2 n1 n2 c1 c2 sh dt r2 h2 u1 u2 hq hend _ _ _ _ _ _ h.buildB

theorem lw_11 (r1 : Src W s1 n1 c1 sh) (r2 : Src W s2 n2 c2 dt) (h1 : n1 ≤ 20000) (h2 : n2 ≤ 20000) (u1 u2 : Value) (hq : Box W q false u1 u2) (hend : ∀ a g1 g2 d1 d2 wx, LwS W p q c s1 s2 n1 n2 c1 c2 sh dt 2 2 g1 g2 d1 d2 a wx → Q .normal (a.put (some 13) (.agg #[.bool c, .slice (some ⟨g1, 0, none⟩) n1 d1, .slice (some ⟨g2, 0, none⟩) n2 d2])) (((wx.setCell ⟨q, 0, none⟩ (.bool c)).setCell ⟨q, 1, none⟩ (.slice (some ⟨g1, 0, none⟩) n1 d1)).setCell ⟨q, 2, none⟩ (.slice (some ⟨g2, 0, none⟩) n2 d2))) (a : Act) (gA gB dA dB : Nat) (wx : World) (h : LwS W p q c s1 s2 n1 n2 c1 c2 sh dt 1 1 gA gB dA dB a wx) : wpAnyL Tryz.prog .any opsLw Q (fun wx => Below W.heap.size W wx) 11 4 #[true, true, true, true, true, false, true, true, true, false, false, false] a wx := by
  obtain ⟨i0, hi, hz0, hz1, hz2⟩ := info_parts info_int
  refine wpAnyL_one (i := 5) (by kernel_rfl) ?_
  ·
    have hL : (#[true, true, true, true, true, false, true, true, true, false, false, false] : Array Bool).setIfInBounds 5 true = #[true, true, true, true, true, true, true, true, true, false, false, false] := by kernel_rfl
    refine op_wp (o := oLw_5) rfl (wanted_free rfl) ?_
    have hrow := r1.below (Nat.le_refl _) h.low
    refine wp_append_src wx (.tmp 5) (.tmp 7) 23 rfl W.heap.size 3 i0 Tryz.underlying23 hi hz0 hz1 hz2 gA (h.a1 rfl).1 (h.a1 rfl).2 s1 n1 c1 sh h.e7 hrow (by omega) h.low.size ?_
    intro g d w' ho hg hat
    have h' := h.appA ho hg hat
    refine ⟨fun _ => h'.low, ?_⟩
    rw [hL]
    exact lw_21 W p q c s1 s2 n1 n2 c1 c2 sh dt r2 h2 u1 u2 hq hend _ _ _ _ _ _ h'

theorem lw_10 (r1 : Src W s1 n1 c1 sh) (r2 : Src W s2 n2 c2 dt) (h1 : n1 ≤ 20000) (h2 : n2 ≤ 20000) (u1 u2 : Value) (hq : Box W q false u1 u2) (hend : ∀ a g1 g2 d1 d2 wx, LwS W p q c s1 s2 n1 n2 c1 c2 sh dt 2 2 g1 g2 d1 d2 a wx → Q .normal (a.put (some 13) (.agg #[.bool c, .slice (some ⟨g1, 0, none⟩) n1 d1, .slice (some ⟨g2, 0, none⟩) n2 d2])) (((wx.setCell ⟨q, 0, none⟩ (.bool c)).setCell ⟨q, 1, none⟩ (.slice (some ⟨g1, 0, none⟩) n1 d1)).setCell ⟨q, 2, none⟩ (.slice (some ⟨g2, 0, none⟩) n2 d2))) (a : Act) (gA gB dA dB : Nat) (wx : World) (h : LwS W p q c s1 s2 n1 n2 c1 c2 sh dt 1 0 gA gB dA dB a wx) : wpAnyL Tryz.prog .any opsLw Q (fun wx => Below W.heap.size W wx) 11 5 #[true, true, true, true, true, false, false, true, true, false, false, false] a wx := by
  obtain ⟨i0, hi, hz0, hz1, hz2⟩ := info_parts info_int
  refine wpAnyL_two (i := 5) (j := 6) (by kernel_rfl) ?_ ?_
  ·
    have hL : (#[true, true, true, true, true, false, false, true, true, false, false, false] : Array Bool).setIfInBounds 5 true = #[true, true, true, true, true, true, false, true, true, false, false, false] := by kernel_rfl
    refine op_wp (o := oLw_5) rfl (wanted_free rfl) ?_
    have hrow := r1.below (Nat.le_refl _) h.low
    refine wp_append_src wx (.tmp 5) (.tmp 7) 23 rfl W.heap.size 3 i0 Tryz.underlying23 hi hz0 hz1 hz2 gA (h.a1 rfl).1 (h.a1 rfl).2 s1 n1 c1 sh h.e7 hrow (by omega) h.low.size ?_
    intro g d w' ho hg hat
    have h' := h.appA ho hg hat
    refine ⟨fun _ => h'.low, ?_⟩
    rw [hL]
    exact lw_20 W p q c s1 s2 n1 n2 c1 c2 sh dt r2 h2 u1 u2 hq hend _ _ _ _ _ _ h'
  ·
    have hL : (#[true, true, true, true, true, false, false, true, true, false, false, false] : Array Bool).setIfInBounds 6 true = #[true, true, true, true, true, false, true, true, true, false, false, false] := by kernel_rfl
    refine op_wp (o := oLw_6) rfl (wanted_free rfl) ?_
    unfold Oper.wp
    rw [rgS0 (o := oLw_6) rfl wx]
    refine ⟨fun _ => h.buildB.low, ?_⟩
    rw [hL]
    exact lw_11 W p q c s1 s2 n1 n2 c1 c2 sh dt r1 r2 h1 h2 u1 u2 hq hend _ _ _ _ _ _ h.buildB

theorem lw_01 (r1 : Src W s1 n1 c1 sh) (r2 : Src W s2 n2 c2 dt) (h1 : n1 ≤ 20000) (h2 : n2 ≤ 20000) (u1 u2 : Value) (hq : Box W q false u1 u2) (hend : ∀ a g1 g2 d1 d2 wx, LwS W p q c s1 s2 n1 n2 c1 c2 sh dt 2 2 g1 g2 d1 d2 a wx → Q .normal (a.put (some 13) (.agg #[.bool c, .slice (some ⟨g1, 0, none⟩) n1 d1, .slice (some ⟨g2, 0, none⟩) n2 d2])) (((wx.setCell ⟨q, 0, none⟩ (.bool c)).setCell ⟨q, 1, none⟩ (.slice (some ⟨g1, 0, none⟩) n1 d1)).setCell ⟨q, 2, none⟩ (.slice (some ⟨g2, 0, none⟩) n2 d2))) (a : Act) (gA gB dA dB : Nat) (wx : World) (h : LwS W p q c s1 s2 n1 n2 c1 c2 sh dt 0 1 gA gB dA dB a wx) : wpAnyL Tryz.prog .any opsLw Q (fun wx => Below W.heap.size W wx) 11 5 #[true, true, false, true, true, false, true, true, true, false, false, false] a wx := by
  obtain ⟨i0, hi, hz0, hz1, hz2⟩ := info_parts info_int
  refine wpAnyL_one (i := 2) (by kernel_rfl) ?_
  ·
    have hL : (#[true, true, false, true, true, false, true, true, true, false, false, false] : Array Bool).setIfInBounds 2 true = #[true, true, true, true, true, false, true, true, true, false, false, false] := by kernel_rfl
    refine op_wp (o := oLw_2) rfl (wanted_free rfl) ?_
    unfold Oper.wp
    rw [rgS0 (o := oLw_2) rfl wx]
    refine ⟨fun _ => h.buildA.low, ?_⟩
    rw [hL]
    exact lw_11 W p q c s1 s2 n1 n2 c1 c2 sh dt r1 r2 h1 h2 u1 u2 hq hend _ _ _ _ _ _ h.buildA

theorem lw_00 (r1 : Src W s1 n1 c1 sh) (r2 : Src W s2 n2 c2 dt) (h1 : n1 ≤ 20000) (h2 : n2 ≤ 20000) (u1 u2 : Value) (hq : Box W q false u1 u2) (hend : ∀ a g1 g2 d1 d2 wx, LwS W p q c s1 s2 n1 n2 c1 c2 sh dt 2 2 g1 g2 d1 d2 a wx → Q .normal (a.put (some 13) (.agg #[.bool c, .slice (some ⟨g1, 0, none⟩) n1 d1, .slice (some ⟨g2, 0, none⟩) n2 d2])) (((wx.setCell ⟨q, 0, none⟩ (.bool c)).setCell ⟨q, 1, none⟩ (.slice (some ⟨g1, 0, none⟩) n1 d1)).setCell ⟨q, 2, none⟩ (.slice (some ⟨g2, 0, none⟩) n2 d2))) (a : Act) (gA gB dA dB : Nat) (wx : World) (h : LwS W p q c s1 s2 n1 n2 c1 c2 sh dt 0 0 gA gB dA dB a wx) : wpAnyL Tryz.prog .any opsLw Q (fun wx => Below W.heap.size W wx) 11 6 #[true, true, false, true, true, false, false, true, true, false, false, false] a wx := by
  obtain ⟨i0, hi, hz0, hz1, hz2⟩ := info_parts info_int
  refine wpAnyL_two (i := 2) (j := 6) (by kernel_rfl) ?_ ?_
  ·
    have hL : (#[true, true, false, true, true, false, false, true, true, false, false, false] : Array Bool).setIfInBounds 2 true = #[true, true, true, true, true, false, false, true, true, false, false, false] := by kernel_rfl
    refine op_wp (o := oLw_2) rfl (wanted_free rfl) ?_
    unfold Oper.wp
    rw [rgS0 (o := oLw_2) rfl wx]
    refine ⟨fun _ => h.buildA.low, ?_⟩
    rw [hL]
    exact lw_10 W p q c s1 s2 n1 n2 c1 c2 sh dt r1 r2 h1 h2 u1 u2 hq hend _ _ _ _ _ _ h.buildA
  ·
    have hL : (#[true, true, false, true, true, false, false, true, true, false, false, false] : Array Bool).setIfInBounds 6 true = #[true, true, false, true, true, false, true, true, true, false, false, false] := by kernel_rfl
    refine op_wp (o := oLw_6) rfl (wanted_free rfl) ?_
    unfold Oper.wp
    rw [rgS0 (o := oLw_6) rfl wx]
    refine ⟨fun _ => h.buildB.low, ?_⟩
    rw [hL]
    exact lw_01 W p q c s1 s2 n1 n2 c1 c2 sh dt r1 r2 h1 h2 u1 u2 hq hend _ _ _ _ _ _ h.buildB

theorem regionLw (r1 : Src W s1 n1 c1 sh) (r2 : Src W s2 n2 c2 dt) (h1 : n1 ≤ 20000) (h2 : n2 ≤ 20000) (u1 u2 : Value) (hq : Box W q false u1 u2) (hend : ∀ a g1 g2 d1 d2 wx, LwS W p q c s1 s2 n1 n2 c1 c2 sh dt 2 2 g1 g2 d1 d2 a wx → Q .normal (a.put (some 13) (.agg #[.bool c, .slice (some ⟨g1, 0, none⟩) n1 d1, .slice (some ⟨g2, 0, none⟩) n2 d2])) (((wx.setCell ⟨q, 0, none⟩ (.bool c)).setCell ⟨q, 1, none⟩ (.slice (some ⟨g1, 0, none⟩) n1 d1)).setCell ⟨q, 2, none⟩ (.slice (some ⟨g2, 0, none⟩) n2 d2))) (a : Act) (hsz : 14 ≤ a.tmps.size) (hdf : a.defers = []) (h1p : a.eval (.tmp 1) = .pointer (some ⟨p, 0, none⟩)) (h2q : a.eval (.tmp 2) = .pointer (some ⟨q, 0, none⟩)) (hp : Box W p c (.slice s1 n1 c1) (.slice s2 n2 c2)) (hQ : ∀ c a (d : Nat) v w, Q (.panic c) (a.put (some d) v) w → Q (.panic c) a w) :
    (Code.region 1 opsLw true).wp Tryz.prog Q a W := by
  have hb0 : Below W.heap.size W W.drew := (Below.refl _ _).drew
  have hS0 : (fun wx => Below W.heap.size W wx) W.drew := hb0
  have hS : ∀ w, Below W.heap.size W w → _ := fun w hw => (hp.below (Nat.le_refl _) hw).cells
  refine wp_region_L (fun wx => Below W.heap.size W wx) 11 (by kernel_rfl) ?_
  show wpAnyL _ _ _ _ _ _ (11 + 1) _ _ W.drew
  refine wpAnyL_put 0 3 (.pointer (some ⟨p, 0, none⟩)) (oi := oLw_0) rfl rfl (by kernel_rfl) (by kernel_rfl) (by kernel_rfl) (by kernel_rfl) hQ (wanted_free rfl) (fun w hw => rgF0 (.tmp 1) p rfl h1p w) hS0 ?_
  refine wpAnyL_put 1 4 (.bool c) (oi := oLw_1) rfl rfl (by kernel_rfl) (by kernel_rfl) (by kernel_rfl) (by kernel_rfl) hQ (wanted_free rfl) (fun w hw => rgBool (.tmp 3) _ rfl (eval_eq (by omega)) w (hS w hw).1) hS0 ?_
  refine wpAnyL_put 3 6 (.pointer (some ⟨p, 1, none⟩)) (oi := oLw_3) rfl rfl (by kernel_rfl) (by kernel_rfl) (by kernel_rfl) (by kernel_rfl) hQ (wanted_free rfl) (fun w hw => rgF1 (.tmp 1) p rfl (by rw [eval_ne (by decide), eval_ne (by decide)]; exact h1p) w) hS0 ?_
  refine wpAnyL_put 4 7 (.slice s1 n1 c1) (oi := oLw_4) rfl rfl (by kernel_rfl) (by kernel_rfl) (by kernel_rfl) (by kernel_rfl) hQ (wanted_free rfl) (fun w hw => rgL (.tmp 6) _ rfl (eval_eq (by rw [put_size, put_size]; omega)) w (hS w hw).2.1) hS0 ?_
  refine wpAnyL_put 7 10 (.pointer (some ⟨p, 2, none⟩)) (oi := oLw_7) rfl rfl (by kernel_rfl) (by kernel_rfl) (by kernel_rfl) (by kernel_rfl) hQ (wanted_free rfl) (fun w hw => rgF2 (.tmp 1) p rfl (by rw [eval_ne (by decide), eval_ne (by decide), eval_ne (by decide), eval_ne (by decide)]; exact h1p) w) hS0 ?_
  refine wpAnyL_put 8 11 (.slice s2 n2 c2) (oi := oLw_8) rfl rfl (by kernel_rfl) (by kernel_rfl) (by kernel_rfl) (by kernel_rfl) hQ (wanted_free rfl) (fun w hw => rgL (.tmp 10) _ rfl (eval_eq (by rw [put_size, put_size, put_size, put_size]; omega)) w (hS w hw).2.2) hS0 ?_
  have hL : ((((((Array.replicate opsLw.size false).setIfInBounds 0 true).setIfInBounds 1 true).setIfInBounds 3 true).setIfInBounds 4 true).setIfInBounds 7 true).setIfInBounds 8 true = #[true, true, false, true, true, false, false, true, true, false, false, false] := by kernel_rfl
  rw [hL]
  refine lw_00 W p q c s1 s2 n1 n2 c1 c2 sh dt r1 r2 h1 h2 u1 u2 hq hend _ 0 0 0 0 _ ⟨hb0, by rw [put_size, put_size, put_size, put_size, put_size, put_size]; exact hsz, by rw [put_defers, put_defers, put_defers, put_defers, put_defers, put_defers]; exact hdf, (by rw [eval_ne (by decide), eval_ne (by decide), eval_ne (by decide), eval_ne (by decide), eval_ne (by decide), eval_ne (by decide)]; exact h2q), (by rw [eval_ne (by decide), eval_ne (by decide), eval_ne (by decide), eval_ne (by decide)]; exact eval_eq (by rw [put_size]; omega)), (by rw [eval_ne (by decide), eval_ne (by decide)]; exact eval_eq (by rw [put_size, put_size, put_size]; omega)), (eval_eq (by rw [put_size, put_size, put_size, put_size, put_size]; omega)), fun e => by omega, fun e => by omega, fun e => by omega, fun e => by omega, fun e => absurd rfl e, fun e => absurd rfl e, fun e => absurd rfl e⟩
end

end Go.Proofs.YtkgcmpmgaghdhaaGreatDoor
namespace Go.Proofs.YtkgcmpmgaghdhaaGreatDoor
open Go.RowKit

/-- What an impl function's answer is. -/
def GivesOwn (w : World) (r : Ans) (e : Ending) (w' : World) : Prop := ∃ b1 m1 d1 b2 m2 d2, e = .returned (.tuple #[.agg #[.bool r.c, .slice b1 m1 d1, .slice b2 m2 d2], .int .i64 r.code]) ∧ Own w' w.heap.size b1 m1 r.sh ∧ Own w' w.heap.size b2 m2 r.dt ∧ Apart b1 m1 b2 m2 ∧ Below w.heap.size w w'

theorem own_none (w : World) (B : Nat) (a : Option Addr) : Own w B a 0 [] := ⟨rfl, by omega, .inl rfl⟩

theorem gives_none {w w' : World} {code : Int} (h : Below w.heap.size w w') : GivesOwn w (noAns code) (.returned (.tuple #[.agg #[.bool false, .slice none 0 0, .slice none 0 0], .int .i64 code])) w' :=
  ⟨none, 0, 0, none, 0, 0, rfl, own_none _ _ _, own_none _ _ _, fun _ h => absurd rfl h.1, h⟩

theorem arr_parts {c : Bool} {sh dt : List Int} (h : arrOk c sh dt = true) : shapeB sh = true ∧ countOf sh = (dt.length : Int) := by
  unfold arrOk at h
  simp only [Bool.and_eq_true, decide_eq_true_eq] at h
  refine ⟨?_, h.2.1⟩
  unfold shapeB
  rw [decide_eq_true h.1, decide_eq_true (by omega)]; rfl

theorem firstCode_zero {f : Nat → Int × Int} {n : Nat} : firstCode f n = 0 ↔ ∀ k, k < n → (f k).2 = 0 := by
  induction n with
  | zero => exact ⟨fun _ k hk => absurd hk (Nat.not_lt_zero _), fun _ => rfl⟩
  | succ n ih =>
    constructor
    · intro h
      have h0 : firstCode f n = 0 := by
        by_cases h0 : firstCode f n = 0
        · exact h0
        · simp only [firstCode, if_neg h0] at h; exact h
      have h1 : (f n).2 = 0 := by simpa only [firstCode, if_pos h0] using h
      intro k hk
      by_cases hkn : k = n
      · subst hkn; exact h1
      · exact ih.mp h0 k (by omega)
    · intro h
      exact code_step (ih.mpr fun k hk => h k (by omega)) (h n (by omega))

end Go.Proofs.YtkgcmpmgaghdhaaGreatDoor
namespace Go.Proofs.YtkgcmpmgaghdhaaGreatDoor
open Go.RowKit

set_option maxHeartbeats 2000000 in
theorem lwScalar_any (v : Int) (w : World) :
    Calls Tryz.prog 14 #[.int .i64 v] w fun e w' => ∃ g, e = .returned (.agg #[.bool false, .slice none 0 0, .slice (some ⟨g, 0, none⟩) 1 1]) ∧ Own w' w.heap.size (some ⟨g, 0, none⟩) 1 [v] ∧ Below w.heap.size w w' := by
  have HP0 : Hid (Box (w.alloc (.cells #[.bool false, .slice none 0 0, .slice none 0 0] 25)) w.heap.size false (.slice none 0 0) (.slice none 0 0)) := Box.new w _ _ _
  obtain ⟨y0, y1, y2, y3, y4, y5, y6⟩ := (unhide HP0).all
  go_enter Tryz.func14, Tryz.ntmps14
  go_wp2_with fail
  have hx := Box.new w false (.slice none 0 0) (.slice (some ⟨w.heap.size + 1, 0, none⟩) 1 1)
  obtain ⟨r0, r1, r2, _, _, _⟩ := (hx.below (Nat.le_refl _) ((Below.refl _ _).alloc (Nat.le_refl _) (.cells #[.int .i64 v] 3))).all
  refine bodyPost_ret (v := .agg #[.bool false, .slice none 0 0, .slice (some ⟨w.heap.size + 1, 0, none⟩) 1 1]) (by simp [results, Tryz.results14, go_sem]) rfl ⟨w.heap.size + 1, rfl, ?_, ((Below.refl _ _).alloc (Nat.le_refl _) _).alloc (by simp) _⟩
  have hb := World.alloc_heap_new (w.alloc (.cells #[.bool false, .slice none 0 0, .slice (some ⟨w.heap.size + 1, 0, none⟩) 1 1] 25)) (.cells #[.int .i64 v] 3)
  rw [World.size_alloc] at hb
  exact (show Blk _ (w.heap.size + 1) [v] from hb).own rfl (by omega) (by omega)

end Go.Proofs.YtkgcmpmgaghdhaaGreatDoor
namespace Go.Proofs.YtkgcmpmgaghdhaaGreatDoor
open Go.RowKit

set_option maxHeartbeats 400000 in
theorem l3Ints_nil (cap : Nat) (w : World) :
    Calls Tryz.prog 56 #[.slice none 0 cap] w fun e w' => ∃ a' cap', e = .returned (.slice a' 0 cap') ∧ Own w' w.heap.size a' 0 [] ∧ Below w.heap.size w w' := by
  obtain ⟨i0, hi, hz0, hz1, hz2⟩ := info_parts info_int
  have hown := owns_empty w
  go_enter Tryz.func56, Tryz.ntmps56
  go_wp2_with (at_builtin; refine wpList_append_nocap rfl _ _ 23 rfl w.heap.size 3 i0 1 Tryz.underlying23 hi _ 0 [] rfl hown 0 rfl cap rfl ?_)
  go_ret
  exact ⟨_, _, rfl, ⟨rfl, by omega, .inl rfl⟩, (Below.refl _ _).alloc (Nat.le_refl _) _⟩

/-- A copy of a list that may be nil. -/
theorem l3Ints_opt (ad : Option Addr) (n cap : Nat) (zs : List Int) (w : World) (h : Row w ad n zs) :
    Calls Tryz.prog 56 #[.slice ad n cap] w fun e w' => ∃ a' cap', e = .returned (.slice a' n cap') ∧ Own w' w.heap.size a' n zs ∧ Below w.heap.size w w' := by
  cases ad with
  | some a => exact l3Ints_any a n cap zs w h
  | none =>
    obtain ⟨rfl, rfl⟩ := row_none h
    exact l3Ints_nil cap w

end Go.Proofs.YtkgcmpmgaghdhaaGreatDoor
namespace Go.Proofs.YtkgcmpmgaghdhaaGreatDoor
open Go.RowKit

set_option maxHeartbeats 2000000 in
theorem lwVector_some (ad : Addr) (n c : Nat) (zs : List Int) (w : World) (h : Row w (some ad) n zs) :
    Calls Tryz.prog 20 #[.slice (some ad) n c] w fun e w' => ∃ g1 g2 d2, e = .returned (.agg #[.bool false, .slice (some ⟨g1, 0, none⟩) 1 1, .slice (some ⟨g2, 0, none⟩) n d2]) ∧ Own w' w.heap.size (some ⟨g1, 0, none⟩) 1 [(n : Int)] ∧ Own w' w.heap.size (some ⟨g2, 0, none⟩) n zs ∧ n ≤ d2 ∧ Below w.heap.size w w' := by
  have hl := h.len
  have hs := h.small
  have H := hide h
  clear h
  obtain ⟨i0, hi, hz0, hz1, hz2⟩ := info_parts info_int
  have HOE : Hid ((((w.alloc (.cells #[.bool false, .slice none 0 0, .slice none 0 0] 25)).alloc (.cells #[.int .i64 (n : Nat)] 3)).alloc (.cells #[] 3)).ownsRow (w.heap.size + 1 + 1) 3 1 (.slice (some ⟨w.heap.size + 1 + 1, 0, none⟩) 0 0) 0 []) := by
    have := owns_empty ((w.alloc (.cells #[.bool false, .slice none 0 0, .slice none 0 0] 25)).alloc (.cells #[.int .i64 (n : Nat)] 3))
    exact hide (by simpa using this)
  have HX : Hid (Box ((w.alloc (.cells #[.bool false, .slice none 0 0, .slice none 0 0] 25)).alloc (.cells #[.int .i64 (n : Nat)] 3)) w.heap.size false (.slice none 0 0) (.slice none 0 0)) := (Box.new w _ _ _).alloc _
  have HO1 : Hid (Own ((w.alloc (.cells #[.bool false, .slice none 0 0, .slice none 0 0] 25)).alloc (.cells #[.int .i64 (n : Nat)] 3)) w.heap.size (some ⟨w.heap.size + 1, 0, none⟩) 1 [(n : Int)]) := by
    have hb := World.alloc_heap_new (w.alloc (.cells #[.bool false, .slice none 0 0, .slice none 0 0] 25)) (.cells #[.int .i64 (n : Nat)] 3)
    rw [World.size_alloc] at hb
    exact (show Blk _ (w.heap.size + 1) [(n : Int)] from hb).own rfl (by omega) (by omega)
  go_enter Tryz.func20, Tryz.ntmps20
  go_wp2_with (at_builtin; refine wpList_append_own _ rfl _ _ 23 rfl (w.heap.size + 1 + 1) 3 i0 (.int .i64 0) 1 8 Tryz.underlying23 hi hz0 hz1 hz2 rfl (by decide) _ _ _ rfl (unhide HOE) ad n c (zs.map (Value.int .i64)) rfl (by simpa using hl) (cells_ints ((((unhide H).alloc _).alloc _).alloc _)) (one_ints zs) (by unfold maxLen; omega) (by omega) (by simp) ?_; intro v1 w1 hown hgrow hnil; have hown' : w1.ownsRow (w.heap.size + 1 + 1) 3 1 v1 n (zs.map (Value.int .i64)) := (by simpa using hown); obtain ⟨g, cap', rfl⟩ : ∃ g cap', v1 = .slice (some ⟨g, 0, none⟩) n cap' := (by rcases hown'.2 with ⟨e, _⟩ | ⟨g, c', cur, e, _⟩; (· have := (hnil.mp e).1; cases this); exact ⟨g, c', e⟩); obtain ⟨_, _, hv, ho⟩ := Own.of_owns hown' hs; cases hv; have hcap : n ≤ cap' := (by rcases hown'.2 with ⟨h', h0⟩ | ⟨g', c', cur, h', _, _, hle, _⟩; (· simp at h'); cases h'; omega); have HO2 := hide ho; have hbel : Below (w.heap.size + 1 + 1) ((w.alloc (.cells #[.bool false, .slice none 0 0, .slice none 0 0] 25)).alloc (.cells #[.int .i64 (n : Nat)] 3)) w1 := (((Below.refl _ _).alloc (by simp) _).grown hgrow (by simp) (by intro k hk; cases hk; exact Nat.le_refl _)); have HBL := hide hbel; have HXW : Hid (Box w1 w.heap.size false (.slice none 0 0) (.slice none 0 0)) := hide (Box.below (unhide HX) (by simp) hbel); obtain ⟨y0, y1, y2, y3, y4, y5, y6⟩ := (unhide HXW).all; clear hown hgrow hnil hown' ho hbel)
  have hx := (unhide HXW).sets (c' := false) (u1 := .slice (some ⟨w.heap.size + 1, 0, none⟩) 1 1) (u2 := .slice (some ⟨g, 0, none⟩) n cap')
  obtain ⟨r0, r1, r2, _, _, _⟩ := hx.all
  refine bodyPost_ret (v := .agg #[.bool false, .slice (some ⟨w.heap.size + 1, 0, none⟩) 1 1, .slice (some ⟨g, 0, none⟩) n cap']) (by simp [results, Tryz.results20, go_sem, r0, r1, r2]) rfl ?_
  have hs' : But (fun x => x = w.heap.size) w1 (((w1.setCell ⟨w.heap.size, 0, none⟩ (.bool false)).setCell ⟨w.heap.size, 1, none⟩ (.slice (some ⟨w.heap.size + 1, 0, none⟩) 1 1)).setCell ⟨w.heap.size, 2, none⟩ (.slice (some ⟨g, 0, none⟩) n cap')) := (((But.refl (fun x => x = w.heap.size) w1).setCell (p := ⟨w.heap.size, 0, none⟩) rfl _).setCell (p := ⟨w.heap.size, 1, none⟩) rfl _).setCell (p := ⟨w.heap.size, 2, none⟩) rfl _
  have o1 : Own w1 w.heap.size (some ⟨w.heap.size + 1, 0, none⟩) 1 [(n : Int)] := (unhide HO1).below (by simp) (unhide HBL)
  have hb0 : Below w.heap.size w w1 := (((Below.refl _ w).alloc (Nat.le_refl _) _).alloc (by simp) _).trans ((unhide HBL).mono (by omega))
  exact ⟨_, _, _, rfl, hs'.own o1 (by rintro x rfl hk; have := at_eq hk; omega), hs'.own ((unhide HO2).mono (by omega)) (by rintro x rfl hk; have := (unhide HO2).low hk; omega), hcap, ((hb0.setCell (p := ⟨w.heap.size, 0, none⟩) (Nat.le_refl _) _).setCell (p := ⟨w.heap.size, 1, none⟩) (Nat.le_refl _) _).setCell (p := ⟨w.heap.size, 2, none⟩) (Nat.le_refl _) _⟩

end Go.Proofs.YtkgcmpmgaghdhaaGreatDoor
namespace Go.Proofs.YtkgcmpmgaghdhaaGreatDoor
open Go.RowKit

/-- A variable of a law that holds an array: its box and what its two slices read as. -/
structure Var (W : World) (p : Nat) (c : Bool) (e1 : Option Addr) (k1 f1 : Nat) (e2 : Option Addr) (k2 f2 : Nat) (sh dt : List Int) : Prop where
  box : Box W p c (.slice e1 k1 f1) (.slice e2 k2 f2)
  r1 : Row W e1 k1 sh
  r2 : Row W e2 k2 dt

section
variable {W V : World} {p : Nat} {c : Bool} {e1 e2 : Option Addr} {k1 f1 k2 f2 : Nat} {sh dt : List Int}
theorem Var.below (h : Var W p c e1 k1 f1 e2 k2 f2 sh dt) (hb : Below W.heap.size W V) : Var V p c e1 k1 f1 e2 k2 f2 sh dt :=
  ⟨h.box.below (Nat.le_refl _) hb, h.r1.below (Nat.le_refl _) hb, h.r2.below (Nat.le_refl _) hb⟩
theorem Var.cells (h : Var W p c e1 k1 f1 e2 k2 f2 sh dt) : W.cell? ⟨p, 0, none⟩ = some (.bool c) ∧ W.cell? ⟨p, 1, none⟩ = some (.slice e1 k1 f1) ∧ W.cell? ⟨p, 2, none⟩ = some (.slice e2 k2 f2) := h.box.cells
/-- A new variable, its box laid last. -/
theorem Var.new (r1 : Row W e1 k1 sh) (r2 : Row W e2 k2 dt) : Var (W.alloc (.cells #[.bool c, .slice e1 k1 f1, .slice e2 k2 f2] 25 (0, 0))) W.heap.size c e1 k1 f1 e2 k2 f2 sh dt :=
  ⟨Box.new W _ _ _, r1.alloc _, r2.alloc _⟩
/-- .. or written into a box that lies. -/
theorem Var.put {x : Bool} {a1 a2 : Option Addr} {l1 l2 m1 m2 : Nat} (h : Box W p x (.slice a1 l1 m1) (.slice a2 l2 m2)) (r1 : Row W e1 k1 sh) (r2 : Row W e2 k2 dt) : Var (((W.setCell ⟨p, 0, none⟩ (.bool c)).setCell ⟨p, 1, none⟩ (.slice e1 k1 f1)).setCell ⟨p, 2, none⟩ (.slice e2 k2 f2)) p c e1 k1 f1 e2 k2 f2 sh dt :=
  ⟨h.sets, r1.sets h _ _ _, r2.sets h _ _ _⟩
/-- Another variable's box is written. -/
theorem Var.but {q : Nat} {x : Bool} {a1 a2 : Option Addr} {l1 l2 m1 m2 : Nat} (h : Var W p c e1 k1 f1 e2 k2 f2 sh dt) (hq : Box W q x (.slice a1 l1 m1) (.slice a2 l2 m2)) (hb : But (fun y => y = q) W V) (hp : ¬ p = q) : Var V p c e1 k1 f1 e2 k2 f2 sh dt :=
  ⟨h.box.but hb hp, hb.row h.r1 (fun _ hx hh => h.r1.notBox hq hh hx), hb.row h.r2 (fun _ hx hh => h.r2.notBox hq hh hx)⟩
end

end Go.Proofs.YtkgcmpmgaghdhaaGreatDoor
namespace Go.Proofs.YtkgcmpmgaghdhaaGreatDoor
open Go.RowKit

def oF_0 : Oper := { dst := some 89, op := Op.buildSlice 23 0 #[], type := 23, pos := "laws.go:502", after := #[], guard := none }
def oF_1 : Oper := { dst := some 90, op := Op.fieldAddr 25 (Operand.tmp 7) 2, type := 0, pos := "laws.go:502", after := #[], guard := none }
def oF_2 : Oper := { dst := some 91, op := Op.load 23 (Operand.tmp 90), type := 23, pos := "laws.go:502", after := #[{ on := 1, ground := Ground.data }], guard := none }
def oF_3 : Oper := { dst := some 92, op := Op.call { callee := Callee.builtin Builtin.append, args := #[Operand.tmp 89, Operand.tmp 91], argTypes := #[23, 23] }, type := 23, pos := "laws.go:502", after := #[{ on := 0, ground := Ground.data }, { on := 2, ground := Ground.data }], guard := none }
def oF_4 : Oper := { dst := some 93, op := Op.fieldAddr 25 (Operand.tmp 10) 2, type := 0, pos := "laws.go:502", after := #[], guard := none }
def oF_5 : Oper := { dst := some 94, op := Op.load 23 (Operand.tmp 93), type := 23, pos := "laws.go:502", after := #[{ on := 4, ground := Ground.data }], guard := none }
def oF_6 : Oper := { dst := some 95, op := Op.call { callee := Callee.builtin Builtin.append, args := #[Operand.tmp 92, Operand.tmp 94], argTypes := #[23, 23] }, type := 23, pos := "laws.go:502", after := #[{ on := 3, ground := Ground.data }, { on := 5, ground := Ground.data }, { on := 3, ground := Ground.chain }], guard := none }
def oF_7 : Oper := { dst := some 96, op := Op.call { callee := Callee.value (Operand.func 20), args := #[Operand.tmp 95], argTypes := #[23] }, type := 25, pos := "laws.go:502", after := #[{ on := 6, ground := Ground.data }, { on := 6, ground := Ground.chain }], guard := none }
def oF_8 : Oper := { dst := some 12, op := Op.alloc 25, type := 0, pos := "laws.go:502", after := #[], guard := none }
def oF_9 : Oper := { dst := none, op := Op.store 25 (Operand.tmp 12) (Operand.tmp 96), type := 0, pos := "laws.go:502", after := #[{ on := 8, ground := Ground.data }, { on := 7, ground := Ground.data }, { on := 7, ground := Ground.chain }, { on := 0, ground := Ground.phase }, { on := 1, ground := Ground.phase }, { on := 2, ground := Ground.phase }, { on := 3, ground := Ground.phase }, { on := 4, ground := Ground.phase }, { on := 5, ground := Ground.phase }, { on := 6, ground := Ground.phase }, { on := 7, ground := Ground.phase }, { on := 8, ground := Ground.phase }], guard := none }

/-- FnFolded's statement that joins two lists. -/
def opsF : Array Oper := #[oF_0, oF_1, oF_2, oF_3, oF_4, oF_5, oF_6, oF_7, oF_8, oF_9]

section
variable {o : Oper} {a : Act}
theorem rgAlloc (ho : o.op = .alloc 25) (w : World) : (execOp a.eval o).run Tryz.prog w = .ok (.value (.pointer (some ⟨w.heap.size, 0, none⟩))) (w.alloc (.cells #[.bool false, .slice none 0 0, .slice none 0 0] 25)) := by
  unfold execOp
  simp only [ho]
  go_simp
end

theorem runVec {K : Act → World → Prop} {Q : Exit → Act → World → Prop} {o : Oper} {a : Act} {w : World} (x : Operand) {u : Value} (ho : o.op = .call { callee := .value (.func 20), args := #[x], argTypes := #[23] }) (hx : a.eval x = u)
    (h : Calls Tryz.prog 20 #[u] w fun | .returned r, w' => K (a.put o.dst r) w' | .panicked c, w' => Q (.panic c) a w' | .outgrown, _ => LetsOut Q) : o.wp Tryz.prog a w K Q := by
  have e : (execOp a.eval o).run Tryz.prog w = .ok (.enter 20 #[u]) w := by
    unfold execOp
    simp only [ho]
    go_simp
    rw [← hx]
    cases x <;> simp [Act.eval]
  unfold Oper.wp
  rw [e]
  exact h

theorem wp_append_ch {W V : World} {g cap n : Nat} {zs : List Int} {o : Oper} {a : Act} {K : Act → World → Prop} {Q : Exit → Act → World → Prop} (s x : Operand)
    (ho : o.op = .call { callee := .builtin .append, args := #[s, x], argTypes := #[23, 23] })
    (hC : Ch W V g cap n zs) (hs : a.eval s = .slice (some ⟨g, 0, none⟩) n cap) (ad : Addr) (m c : Nat) (ys : List Int) (hr : Row W (some ad) m ys) (hx : a.eval x = .slice (some ad) m c) (N : Nat) (hN : n + m = N) (hb : N ≤ 20000)
    (h : ∀ g' cap' V', Ch W V' g' cap' N (zs ++ ys) → (∀ p c v1 v2, Box V p c v1 v2 → Box V' p c v1 v2) → K (a.put o.dst (.slice (some ⟨g', 0, none⟩) N cap')) V') :
    o.wp Tryz.prog a V K Q := by
  subst hN
  obtain ⟨i0, hi, hz0, hz1, hz2⟩ := info_parts info_int
  have hl := hr.len
  have hr' := hr.below (Nat.le_refl _) hC.low
  refine wp_append_some _ s x 23 ho W.heap.size 3 i0 (.int .i64 0) 1 8 Tryz.underlying23 hi hz0 hz1 hz2 rfl (by decide) g n cap (zs.map (Value.int .i64)) hs hC.own ad m c (ys.map (Value.int .i64)) hx (by simpa using hl) (cells_ints hr') (one_ints ys) (by unfold maxLen; omega) (by omega) hC.low.size ?_
  intro g' cap' V' hown hgrow _
  have hge : W.heap.size ≤ g := by
    rcases hC.own.2 with ⟨e, _⟩ | ⟨g', c', cur, e, hg, _⟩
    · cases e
    · cases e; exact hg
  exact h g' cap' V' ⟨by rw [List.map_append]; exact hown, hC.low.grown hgrow hC.low.size (by intro k hk; cases hk; exact hge)⟩ (fun p c v1 v2 hbx => hbx.grown0 hC.own hgrow)

/-- How far the chain has come. -/
def ChS (W : World) (dt dt' : List Int) (n N : Nat) (s : Nat) (a : Act) (wx : World) : Prop :=
  (s = 1 → ∃ g, a.eval (.tmp 89) = .slice (some ⟨g, 0, none⟩) 0 0 ∧ Ch W wx g 0 0 []) ∧
  (s = 2 → ∃ g cp, a.eval (.tmp 92) = .slice (some ⟨g, 0, none⟩) n cp ∧ Ch W wx g cp n dt) ∧
  (s = 3 → ∃ g cp, a.eval (.tmp 95) = .slice (some ⟨g, 0, none⟩) N cp ∧ Ch W wx g cp N (dt ++ dt')) ∧
  (s = 4 → ∃ g1 g2 d, a.eval (.tmp 96) = .agg #[.bool false, .slice (some ⟨g1, 0, none⟩) 1 1, .slice (some ⟨g2, 0, none⟩) N d] ∧ Row wx (some ⟨g1, 0, none⟩) 1 [(N : Int)] ∧ Row wx (some ⟨g2, 0, none⟩) N (dt ++ dt'))

structure FoS (W : World) (s1 s2 : Addr) (n2 c2 m2 d2 N : Nat) (dt dt' : List Int) (s : Nat) (b : Bool) (C : Act) (p : Nat) (wx : World) : Prop where
  low : Below W.heap.size W wx
  size : 249 ≤ C.tmps.size
  e91 : C.eval (.tmp 91) = .slice (some s1) n2 c2
  e94 : C.eval (.tmp 94) = .slice (some s2) m2 d2
  ch : ChS W dt dt' n2 N s C wx
  bx : b = true → W.heap.size ≤ p ∧ Box wx p false (.slice none 0 0) (.slice none 0 0)

theorem put_comm {a : Act} {i j : Nat} {x y : Value} (h : i ≠ j) : (a.put (some i) x).put (some j) y = (a.put (some j) y).put (some i) x := by
  have e : (a.tmps.setIfInBounds i x).setIfInBounds j y = (a.tmps.setIfInBounds j y).setIfInBounds i x := by
    apply Array.ext'
    simp only [Array.toList_setIfInBounds]
    exact List.set_comm _ _ h
  show ({ a with tmps := (a.tmps.setIfInBounds i x).setIfInBounds j y } : Act) = { a with tmps := (a.tmps.setIfInBounds j y).setIfInBounds i x }
  rw [e]

section
variable {W wx w' : World} {s1 s2 : Addr} {n2 c2 m2 d2 N s p : Nat} {dt dt' : List Int} {b : Bool} {C : Act}
theorem FoS.box (h : FoS W s1 s2 n2 c2 m2 d2 N dt dt' s false C p wx) : FoS W s1 s2 n2 c2 m2 d2 N dt dt' s true C wx.heap.size (wx.alloc (.cells #[.bool false, .slice none 0 0, .slice none 0 0] 25)) := by
  refine ⟨h.low.alloc h.low.size _, h.size, h.e91, h.e94, ⟨fun e => ?_, fun e => ?_, fun e => ?_, fun e => ?_⟩, fun _ => ⟨h.low.size, Box.new _ _ _ _⟩⟩
  · obtain ⟨g, q1, q2⟩ := h.ch.1 e
    exact ⟨g, q1, q2.alloc _⟩
  · obtain ⟨g, cp, q1, q2⟩ := h.ch.2.1 e
    exact ⟨g, cp, q1, q2.alloc _⟩
  · obtain ⟨g, cp, q1, q2⟩ := h.ch.2.2.1 e
    exact ⟨g, cp, q1, q2.alloc _⟩
  · obtain ⟨g1, g2, d, q1, q2, q3⟩ := h.ch.2.2.2 e
    exact ⟨g1, g2, d, q1, q2.alloc _, q3.alloc _⟩
theorem FoS.next {t : Nat} {v : Value} (h : FoS W s1 s2 n2 c2 m2 d2 N dt dt' s b C p wx) (ht : t = 89 ∨ t = 92 ∨ t = 95 ∨ t = 96) (hb : Below W.heap.size W w') (hx : ∀ p c v1 v2, Box wx p c v1 v2 → Box w' p c v1 v2) {s' : Nat} (hc : ChS W dt dt' n2 N s' (C.put (some t) v) w') : FoS W s1 s2 n2 c2 m2 d2 N dt dt' s' b (C.put (some t) v) p w' :=
  ⟨hb, by rw [put_size]; exact h.size, by rw [eval_ne (by omega)]; exact h.e91, by rw [eval_ne (by omega)]; exact h.e94, hc, fun e => ⟨(h.bx e).1, hx _ _ _ _ (h.bx e).2⟩⟩
end

section
variable {Q : Exit → Act → World → Prop} (W : World) (s1 s2 : Addr) (n2 c2 m2 d2 N : Nat) (dt dt' : List Int)
/-- What is asked behind the statement: L is the frame behind the loads. -/
def EndF (Q : Exit → Act → World → Prop) (W : World) (N : Nat) (zs : List Int) (L : Act) : Prop :=
  ∀ (wx : World) (p g1 g2 d : Nat) (v89 v92 v95 v96 : Value), W.heap.size ≤ p → Var wx p false (some ⟨g1, 0, none⟩) 1 1 (some ⟨g2, 0, none⟩) N d [(N : Int)] zs → Below W.heap.size W wx → Q .normal (((((L.put (some 89) v89).put (some 92) v92).put (some 95) v95).put (some 96) v96).put (some 12) (.pointer (some ⟨p, 0, none⟩))) wx
set_option maxRecDepth 20000 in
theorem fs_41 (L : Act) (_r1 : Row W (some s1) n2 dt) (_r2 : Row W (some s2) m2 dt') (_hN : n2 + m2 = N) (_hb : N ≤ 20000) (hend : EndF Q W N (dt ++ dt') L) (v89 v92 v95 v96 : Value) (p : Nat) (wx : World) (h : FoS W s1 s2 n2 c2 m2 d2 N dt dt' 4 true ((((L.put (some 89) v89).put (some 92) v92).put (some 95) v95).put (some 96) v96) p wx) : wpAnyL Tryz.prog .any opsF Q (fun wx => Below W.heap.size W wx) 9 1 #[true, true, true, true, true, true, true, true, true, false] (((((L.put (some 89) v89).put (some 92) v92).put (some 95) v95).put (some 96) v96).put (some 12) (.pointer (some ⟨p, 0, none⟩))) wx := by
  obtain ⟨g1, g2, d, q1, q2, q3⟩ := h.ch.2.2.2 rfl
  obtain ⟨e2, e3⟩ := h.bx rfl
  have hsz := h.size
  refine wpAnyL_one (i := 9) (by kernel_rfl) ?_
  refine op_wp (o := oF_9) rfl (wanted_free rfl) ?_
  unfold Oper.wp
  rw [rgStoreA (o := oF_9) (.tmp 12) (.tmp 96) p (c' := false) (s1 := some ⟨g1, 0, none⟩) (s2 := some ⟨g2, 0, none⟩) (m1 := 1) (d1 := 1) (m2 := N) (d2 := d) rfl (eval_eq (by omega)) (by rw [eval_ne (by decide)]; exact q1) wx e3]
  refine ⟨fun h => absurd rfl h, ?_⟩
  refine wpAnyL_done (by kernel_rfl) ?_ _
  rw [show oF_9.dst = none from rfl, put_nothing]
  exact hend _ p g1 g2 d v89 v92 v95 v96 e2 (Var.put e3 q2 q3) (((h.low.setCell (p := ⟨p, 0, none⟩) e2 _).setCell (p := ⟨p, 1, none⟩) e2 _).setCell (p := ⟨p, 2, none⟩) e2 _)

set_option maxRecDepth 20000 in
theorem fs_40 (L : Act) (r1 : Row W (some s1) n2 dt) (r2 : Row W (some s2) m2 dt') (hN : n2 + m2 = N) (hb : N ≤ 20000) (hend : EndF Q W N (dt ++ dt') L) (v89 v92 v95 v96 : Value) (p : Nat) (wx : World) (h : FoS W s1 s2 n2 c2 m2 d2 N dt dt' 4 false ((((L.put (some 89) v89).put (some 92) v92).put (some 95) v95).put (some 96) v96) p wx) : wpAnyL Tryz.prog .any opsF Q (fun wx => Below W.heap.size W wx) 9 2 #[true, true, true, true, true, true, true, true, false, false] ((((L.put (some 89) v89).put (some 92) v92).put (some 95) v95).put (some 96) v96) wx := by
  have hsz := h.size
  refine wpAnyL_one (i := 8) (by kernel_rfl) ?_
  · have hL : (#[true, true, true, true, true, true, true, true, false, false] : Array Bool).setIfInBounds 8 true = #[true, true, true, true, true, true, true, true, true, false] := by kernel_rfl
    refine op_wp (o := oF_8) rfl (wanted_free rfl) ?_
    unfold Oper.wp
    rw [rgAlloc (o := oF_8) rfl wx]
    refine ⟨fun _ => h.box.low, ?_⟩
    rw [hL]
    exact fs_41 W s1 s2 n2 c2 m2 d2 N dt dt' L r1 r2 hN hb hend v89 v92 v95 v96 _ _ h.box

set_option maxRecDepth 20000 in
theorem fs_31 (L : Act) (r1 : Row W (some s1) n2 dt) (r2 : Row W (some s2) m2 dt') (hN : n2 + m2 = N) (hb : N ≤ 20000) (hend : EndF Q W N (dt ++ dt') L) (v89 v92 v95 : Value) (p : Nat) (wx : World) (h : FoS W s1 s2 n2 c2 m2 d2 N dt dt' 3 true (((L.put (some 89) v89).put (some 92) v92).put (some 95) v95) p wx) : wpAnyL Tryz.prog .any opsF Q (fun wx => Below W.heap.size W wx) 9 2 #[true, true, true, true, true, true, true, false, true, false] ((((L.put (some 89) v89).put (some 92) v92).put (some 95) v95).put (some 12) (.pointer (some ⟨p, 0, none⟩))) wx := by
  have hsz := h.size
  refine wpAnyL_one (i := 7) (by kernel_rfl) ?_
  · have hL : (#[true, true, true, true, true, true, true, false, true, false] : Array Bool).setIfInBounds 7 true = #[true, true, true, true, true, true, true, true, true, false] := by kernel_rfl
    refine op_wp (o := oF_7) rfl (wanted_free rfl) ?_
    obtain ⟨g, cp, q1, q2⟩ := h.ch.2.2.1 rfl
    refine runVec (o := oF_7) (.tmp 95) rfl (by rw [eval_ne (by decide)]; exact q1) ((lwVector_some ⟨g, 0, none⟩ N cp (dt ++ dt') wx (q2.row (by omega))).mono ?_)
    rintro e w3 ⟨g1, g2, d, rfl, hE1, hE2, _, hb3⟩
    have hl3 : Below W.heap.size W w3 := h.low.trans (hb3.mono h.low.size)
    have h' : FoS W s1 s2 n2 c2 m2 d2 N dt dt' 4 true ((((L.put (some 89) v89).put (some 92) v92).put (some 95) v95).put (some 96) (.agg #[.bool false, .slice (some ⟨g1, 0, none⟩) 1 1, .slice (some ⟨g2, 0, none⟩) N d])) p w3 := h.next (.inr (.inr (.inr rfl))) hl3 (fun _ _ _ _ hx => hx.below (Nat.le_refl _) hb3) ⟨fun e => by omega, fun e => by omega, fun e => by omega, fun _ => ⟨g1, g2, d, eval_eq (by omega), hE1.row, hE2.row⟩⟩
    refine ⟨fun _ => h'.low, ?_⟩
    rw [hL]
    show wpAnyL _ _ _ _ _ _ _ _ (((((L.put (some 89) v89).put (some 92) v92).put (some 95) v95).put (some 12) (.pointer (some ⟨p, 0, none⟩))).put (some 96) (.agg #[.bool false, .slice (some ⟨g1, 0, none⟩) 1 1, .slice (some ⟨g2, 0, none⟩) N d])) _
    rw [put_comm (i := 12) (j := 96) (by decide)]
    exact fs_41 W s1 s2 n2 c2 m2 d2 N dt dt' L r1 r2 hN hb hend v89 v92 v95 _ _ _ h'

set_option maxRecDepth 20000 in
theorem fs_30 (L : Act) (r1 : Row W (some s1) n2 dt) (r2 : Row W (some s2) m2 dt') (hN : n2 + m2 = N) (hb : N ≤ 20000) (hend : EndF Q W N (dt ++ dt') L) (v89 v92 v95 : Value) (p : Nat) (wx : World) (h : FoS W s1 s2 n2 c2 m2 d2 N dt dt' 3 false (((L.put (some 89) v89).put (some 92) v92).put (some 95) v95) p wx) : wpAnyL Tryz.prog .any opsF Q (fun wx => Below W.heap.size W wx) 9 3 #[true, true, true, true, true, true, true, false, false, false] (((L.put (some 89) v89).put (some 92) v92).put (some 95) v95) wx := by
  have hsz := h.size
  refine wpAnyL_two (i := 7) (j := 8) (by kernel_rfl) ?_ ?_
  · have hL : (#[true, true, true, true, true, true, true, false, false, false] : Array Bool).setIfInBounds 7 true = #[true, true, true, true, true, true, true, true, false, false] := by kernel_rfl
    refine op_wp (o := oF_7) rfl (wanted_free rfl) ?_
    obtain ⟨g, cp, q1, q2⟩ := h.ch.2.2.1 rfl
    refine runVec (o := oF_7) (.tmp 95) rfl q1 ((lwVector_some ⟨g, 0, none⟩ N cp (dt ++ dt') wx (q2.row (by omega))).mono ?_)
    rintro e w3 ⟨g1, g2, d, rfl, hE1, hE2, _, hb3⟩
    have hl3 : Below W.heap.size W w3 := h.low.trans (hb3.mono h.low.size)
    have h' : FoS W s1 s2 n2 c2 m2 d2 N dt dt' 4 false ((((L.put (some 89) v89).put (some 92) v92).put (some 95) v95).put (some 96) (.agg #[.bool false, .slice (some ⟨g1, 0, none⟩) 1 1, .slice (some ⟨g2, 0, none⟩) N d])) p w3 := h.next (.inr (.inr (.inr rfl))) hl3 (fun _ _ _ _ hx => hx.below (Nat.le_refl _) hb3) ⟨fun e => by omega, fun e => by omega, fun e => by omega, fun _ => ⟨g1, g2, d, eval_eq (by omega), hE1.row, hE2.row⟩⟩
    refine ⟨fun _ => h'.low, ?_⟩
    rw [hL]
    show wpAnyL _ _ _ _ _ _ _ _ ((((L.put (some 89) v89).put (some 92) v92).put (some 95) v95).put (some 96) (.agg #[.bool false, .slice (some ⟨g1, 0, none⟩) 1 1, .slice (some ⟨g2, 0, none⟩) N d])) _
    exact fs_40 W s1 s2 n2 c2 m2 d2 N dt dt' L r1 r2 hN hb hend v89 v92 v95 _ _ _ h'
  · have hL : (#[true, true, true, true, true, true, true, false, false, false] : Array Bool).setIfInBounds 8 true = #[true, true, true, true, true, true, true, false, true, false] := by kernel_rfl
    refine op_wp (o := oF_8) rfl (wanted_free rfl) ?_
    unfold Oper.wp
    rw [rgAlloc (o := oF_8) rfl wx]
    refine ⟨fun _ => h.box.low, ?_⟩
    rw [hL]
    exact fs_31 W s1 s2 n2 c2 m2 d2 N dt dt' L r1 r2 hN hb hend v89 v92 v95 _ _ h.box

set_option maxRecDepth 20000 in
theorem fs_21 (L : Act) (r1 : Row W (some s1) n2 dt) (r2 : Row W (some s2) m2 dt') (hN : n2 + m2 = N) (hb : N ≤ 20000) (hend : EndF Q W N (dt ++ dt') L) (v89 v92 : Value) (p : Nat) (wx : World) (h : FoS W s1 s2 n2 c2 m2 d2 N dt dt' 2 true ((L.put (some 89) v89).put (some 92) v92) p wx) : wpAnyL Tryz.prog .any opsF Q (fun wx => Below W.heap.size W wx) 9 3 #[true, true, true, true, true, true, false, false, true, false] (((L.put (some 89) v89).put (some 92) v92).put (some 12) (.pointer (some ⟨p, 0, none⟩))) wx := by
  have hsz := h.size
  refine wpAnyL_one (i := 6) (by kernel_rfl) ?_
  · have hL : (#[true, true, true, true, true, true, false, false, true, false] : Array Bool).setIfInBounds 6 true = #[true, true, true, true, true, true, true, false, true, false] := by kernel_rfl
    refine op_wp (o := oF_6) rfl (wanted_free rfl) ?_
    obtain ⟨g, cp, q1, q2⟩ := h.ch.2.1 rfl
    refine wp_append_ch (o := oF_6) (.tmp 92) (.tmp 94) rfl q2 (by rw [eval_ne (by decide)]; exact q1) s2 m2 d2 dt' r2 (by rw [eval_ne (by decide)]; exact h.e94) N hN hb ?_
    intro g' cp' V' hC hbx
    have h' : FoS W s1 s2 n2 c2 m2 d2 N dt dt' 3 true (((L.put (some 89) v89).put (some 92) v92).put (some 95) (.slice (some ⟨g', 0, none⟩) N cp')) p V' := h.next (.inr (.inr (.inl rfl))) hC.low hbx ⟨fun e => by omega, fun e => by omega, fun _ => ⟨g', cp', eval_eq (by omega), hC⟩, fun e => by omega⟩
    refine ⟨fun _ => h'.low, ?_⟩
    rw [hL]
    show wpAnyL _ _ _ _ _ _ _ _ ((((L.put (some 89) v89).put (some 92) v92).put (some 12) (.pointer (some ⟨p, 0, none⟩))).put (some 95) (.slice (some ⟨g', 0, none⟩) N cp')) _
    rw [put_comm (i := 12) (j := 95) (by decide)]
    exact fs_31 W s1 s2 n2 c2 m2 d2 N dt dt' L r1 r2 hN hb hend v89 v92 _ _ _ h'

set_option maxRecDepth 20000 in
theorem fs_20 (L : Act) (r1 : Row W (some s1) n2 dt) (r2 : Row W (some s2) m2 dt') (hN : n2 + m2 = N) (hb : N ≤ 20000) (hend : EndF Q W N (dt ++ dt') L) (v89 v92 : Value) (p : Nat) (wx : World) (h : FoS W s1 s2 n2 c2 m2 d2 N dt dt' 2 false ((L.put (some 89) v89).put (some 92) v92) p wx) : wpAnyL Tryz.prog .any opsF Q (fun wx => Below W.heap.size W wx) 9 4 #[true, true, true, true, true, true, false, false, false, false] ((L.put (some 89) v89).put (some 92) v92) wx := by
  have hsz := h.size
  refine wpAnyL_two (i := 6) (j := 8) (by kernel_rfl) ?_ ?_
  · have hL : (#[true, true, true, true, true, true, false, false, false, false] : Array Bool).setIfInBounds 6 true = #[true, true, true, true, true, true, true, false, false, false] := by kernel_rfl
    refine op_wp (o := oF_6) rfl (wanted_free rfl) ?_
    obtain ⟨g, cp, q1, q2⟩ := h.ch.2.1 rfl
    refine wp_append_ch (o := oF_6) (.tmp 92) (.tmp 94) rfl q2 q1 s2 m2 d2 dt' r2 h.e94 N hN hb ?_
    intro g' cp' V' hC hbx
    have h' : FoS W s1 s2 n2 c2 m2 d2 N dt dt' 3 false (((L.put (some 89) v89).put (some 92) v92).put (some 95) (.slice (some ⟨g', 0, none⟩) N cp')) p V' := h.next (.inr (.inr (.inl rfl))) hC.low hbx ⟨fun e => by omega, fun e => by omega, fun _ => ⟨g', cp', eval_eq (by omega), hC⟩, fun e => by omega⟩
    refine ⟨fun _ => h'.low, ?_⟩
    rw [hL]
    show wpAnyL _ _ _ _ _ _ _ _ (((L.put (some 89) v89).put (some 92) v92).put (some 95) (.slice (some ⟨g', 0, none⟩) N cp')) _
    exact fs_30 W s1 s2 n2 c2 m2 d2 N dt dt' L r1 r2 hN hb hend v89 v92 _ _ _ h'
  · have hL : (#[true, true, true, true, true, true, false, false, false, false] : Array Bool).setIfInBounds 8 true = #[true, true, true, true, true, true, false, false, true, false] := by kernel_rfl
    refine op_wp (o := oF_8) rfl (wanted_free rfl) ?_
    unfold Oper.wp
    rw [rgAlloc (o := oF_8) rfl wx]
    refine ⟨fun _ => h.box.low, ?_⟩
    rw [hL]
    exact fs_21 W s1 s2 n2 c2 m2 d2 N dt dt' L r1 r2 hN hb hend v89 v92 _ _ h.box

set_option maxRecDepth 20000 in
theorem fs_11 (L : Act) (r1 : Row W (some s1) n2 dt) (r2 : Row W (some s2) m2 dt') (hN : n2 + m2 = N) (hb : N ≤ 20000) (hend : EndF Q W N (dt ++ dt') L) (v89 : Value) (p : Nat) (wx : World) (h : FoS W s1 s2 n2 c2 m2 d2 N dt dt' 1 true (L.put (some 89) v89) p wx) : wpAnyL Tryz.prog .any opsF Q (fun wx => Below W.heap.size W wx) 9 4 #[true, true, true, false, true, true, false, false, true, false] ((L.put (some 89) v89).put (some 12) (.pointer (some ⟨p, 0, none⟩))) wx := by
  have hsz := h.size
  refine wpAnyL_one (i := 3) (by kernel_rfl) ?_
  · have hL : (#[true, true, true, false, true, true, false, false, true, false] : Array Bool).setIfInBounds 3 true = #[true, true, true, true, true, true, false, false, true, false] := by kernel_rfl
    refine op_wp (o := oF_3) rfl (wanted_free rfl) ?_
    obtain ⟨g, q1, q2⟩ := h.ch.1 rfl
    refine wp_append_ch (o := oF_3) (.tmp 89) (.tmp 91) rfl q2 (by rw [eval_ne (by decide)]; exact q1) s1 n2 c2 dt r1 (by rw [eval_ne (by decide)]; exact h.e91) n2 (Nat.zero_add _) (by omega) ?_
    intro g' cp V' hC hbx
    have h' : FoS W s1 s2 n2 c2 m2 d2 N dt dt' 2 true ((L.put (some 89) v89).put (some 92) (.slice (some ⟨g', 0, none⟩) n2 cp)) p V' := h.next (.inr (.inl rfl)) hC.low hbx ⟨fun e => by omega, fun _ => ⟨g', cp, eval_eq (by omega), hC⟩, fun e => by omega, fun e => by omega⟩
    refine ⟨fun _ => h'.low, ?_⟩
    rw [hL]
    show wpAnyL _ _ _ _ _ _ _ _ (((L.put (some 89) v89).put (some 12) (.pointer (some ⟨p, 0, none⟩))).put (some 92) (.slice (some ⟨g', 0, none⟩) n2 cp)) _
    rw [put_comm (i := 12) (j := 92) (by decide)]
    exact fs_21 W s1 s2 n2 c2 m2 d2 N dt dt' L r1 r2 hN hb hend v89 _ _ _ h'

set_option maxRecDepth 20000 in
theorem fs_10 (L : Act) (r1 : Row W (some s1) n2 dt) (r2 : Row W (some s2) m2 dt') (hN : n2 + m2 = N) (hb : N ≤ 20000) (hend : EndF Q W N (dt ++ dt') L) (v89 : Value) (p : Nat) (wx : World) (h : FoS W s1 s2 n2 c2 m2 d2 N dt dt' 1 false (L.put (some 89) v89) p wx) : wpAnyL Tryz.prog .any opsF Q (fun wx => Below W.heap.size W wx) 9 5 #[true, true, true, false, true, true, false, false, false, false] (L.put (some 89) v89) wx := by
  have hsz := h.size
  refine wpAnyL_two (i := 3) (j := 8) (by kernel_rfl) ?_ ?_
  · have hL : (#[true, true, true, false, true, true, false, false, false, false] : Array Bool).setIfInBounds 3 true = #[true, true, true, true, true, true, false, false, false, false] := by kernel_rfl
    refine op_wp (o := oF_3) rfl (wanted_free rfl) ?_
    obtain ⟨g, q1, q2⟩ := h.ch.1 rfl
    refine wp_append_ch (o := oF_3) (.tmp 89) (.tmp 91) rfl q2 q1 s1 n2 c2 dt r1 h.e91 n2 (Nat.zero_add _) (by omega) ?_
    intro g' cp V' hC hbx
    have h' : FoS W s1 s2 n2 c2 m2 d2 N dt dt' 2 false ((L.put (some 89) v89).put (some 92) (.slice (some ⟨g', 0, none⟩) n2 cp)) p V' := h.next (.inr (.inl rfl)) hC.low hbx ⟨fun e => by omega, fun _ => ⟨g', cp, eval_eq (by omega), hC⟩, fun e => by omega, fun e => by omega⟩
    refine ⟨fun _ => h'.low, ?_⟩
    rw [hL]
    show wpAnyL _ _ _ _ _ _ _ _ ((L.put (some 89) v89).put (some 92) (.slice (some ⟨g', 0, none⟩) n2 cp)) _
    exact fs_20 W s1 s2 n2 c2 m2 d2 N dt dt' L r1 r2 hN hb hend v89 _ _ _ h'
  · have hL : (#[true, true, true, false, true, true, false, false, false, false] : Array Bool).setIfInBounds 8 true = #[true, true, true, false, true, true, false, false, true, false] := by kernel_rfl
    refine op_wp (o := oF_8) rfl (wanted_free rfl) ?_
    unfold Oper.wp
    rw [rgAlloc (o := oF_8) rfl wx]
    refine ⟨fun _ => h.box.low, ?_⟩
    rw [hL]
    exact fs_11 W s1 s2 n2 c2 m2 d2 N dt dt' L r1 r2 hN hb hend v89 _ _ h.box

set_option maxRecDepth 20000 in
theorem fs_01 (L : Act) (r1 : Row W (some s1) n2 dt) (r2 : Row W (some s2) m2 dt') (hN : n2 + m2 = N) (hb : N ≤ 20000) (hend : EndF Q W N (dt ++ dt') L) (p : Nat) (wx : World) (h : FoS W s1 s2 n2 c2 m2 d2 N dt dt' 0 true L p wx) : wpAnyL Tryz.prog .any opsF Q (fun wx => Below W.heap.size W wx) 9 5 #[false, true, true, false, true, true, false, false, true, false] (L.put (some 12) (.pointer (some ⟨p, 0, none⟩))) wx := by
  have hsz := h.size
  refine wpAnyL_one (i := 0) (by kernel_rfl) ?_
  · have hL : (#[false, true, true, false, true, true, false, false, true, false] : Array Bool).setIfInBounds 0 true = #[true, true, true, false, true, true, false, false, true, false] := by kernel_rfl
    refine op_wp (o := oF_0) rfl (wanted_free rfl) ?_
    unfold Oper.wp
    rw [rgS0 (o := oF_0) rfl wx]
    have h' : FoS W s1 s2 n2 c2 m2 d2 N dt dt' 1 true (L.put (some 89) (.slice (some ⟨wx.heap.size, 0, none⟩) 0 0)) p (wx.alloc (.cells #[] 3)) := h.next (.inl rfl) (h.low.alloc h.low.size _) (fun _ _ _ _ hx => hx.alloc _) ⟨fun _ => ⟨_, eval_eq (by omega), Ch.start h.low rfl⟩, fun e => by omega, fun e => by omega, fun e => by omega⟩
    refine ⟨fun _ => h'.low, ?_⟩
    rw [hL]
    show wpAnyL _ _ _ _ _ _ _ _ ((L.put (some 12) (.pointer (some ⟨p, 0, none⟩))).put (some 89) (.slice (some ⟨wx.heap.size, 0, none⟩) 0 0)) _
    rw [put_comm (i := 12) (j := 89) (by decide)]
    exact fs_11 W s1 s2 n2 c2 m2 d2 N dt dt' L r1 r2 hN hb hend _ _ _ h'

set_option maxRecDepth 20000 in
theorem fs_00 (L : Act) (r1 : Row W (some s1) n2 dt) (r2 : Row W (some s2) m2 dt') (hN : n2 + m2 = N) (hb : N ≤ 20000) (hend : EndF Q W N (dt ++ dt') L) (p : Nat) (wx : World) (h : FoS W s1 s2 n2 c2 m2 d2 N dt dt' 0 false L p wx) : wpAnyL Tryz.prog .any opsF Q (fun wx => Below W.heap.size W wx) 9 6 #[false, true, true, false, true, true, false, false, false, false] L wx := by
  have hsz := h.size
  refine wpAnyL_two (i := 0) (j := 8) (by kernel_rfl) ?_ ?_
  · have hL : (#[false, true, true, false, true, true, false, false, false, false] : Array Bool).setIfInBounds 0 true = #[true, true, true, false, true, true, false, false, false, false] := by kernel_rfl
    refine op_wp (o := oF_0) rfl (wanted_free rfl) ?_
    unfold Oper.wp
    rw [rgS0 (o := oF_0) rfl wx]
    have h' : FoS W s1 s2 n2 c2 m2 d2 N dt dt' 1 false (L.put (some 89) (.slice (some ⟨wx.heap.size, 0, none⟩) 0 0)) p (wx.alloc (.cells #[] 3)) := h.next (.inl rfl) (h.low.alloc h.low.size _) (fun _ _ _ _ hx => hx.alloc _) ⟨fun _ => ⟨_, eval_eq (by omega), Ch.start h.low rfl⟩, fun e => by omega, fun e => by omega, fun e => by omega⟩
    refine ⟨fun _ => h'.low, ?_⟩
    rw [hL]
    show wpAnyL _ _ _ _ _ _ _ _ (L.put (some 89) (.slice (some ⟨wx.heap.size, 0, none⟩) 0 0)) _
    exact fs_10 W s1 s2 n2 c2 m2 d2 N dt dt' L r1 r2 hN hb hend _ _ _ h'
  · have hL : (#[false, true, true, false, true, true, false, false, false, false] : Array Bool).setIfInBounds 8 true = #[false, true, true, false, true, true, false, false, true, false] := by kernel_rfl
    refine op_wp (o := oF_8) rfl (wanted_free rfl) ?_
    unfold Oper.wp
    rw [rgAlloc (o := oF_8) rfl wx]
    refine ⟨fun _ => h.box.low, ?_⟩
    rw [hL]
    exact fs_01 W s1 s2 n2 c2 m2 d2 N dt dt' L r1 r2 hN hb hend _ _ h.box

theorem regionF (pA pB : Nat) (g1A g1B : Option Addr) (kA fA kB fB : Nat) (cA cB : Bool) (a : Act) (hsz : 249 ≤ a.tmps.size) (h7 : a.eval (.tmp 7) = .pointer (some ⟨pA, 0, none⟩)) (h10 : a.eval (.tmp 10) = .pointer (some ⟨pB, 0, none⟩))
    (hA : Box W pA cA (.slice g1A kA fA) (.slice (some s1) n2 c2)) (hB : Box W pB cB (.slice g1B kB fB) (.slice (some s2) m2 d2)) (r1 : Row W (some s1) n2 dt) (r2 : Row W (some s2) m2 dt') (hN : n2 + m2 = N) (hb : N ≤ 20000)
    (hQ : ∀ c a (d : Nat) v w, Q (.panic c) (a.put (some d) v) w → Q (.panic c) a w) (hend : EndF Q W N (dt ++ dt') ((((a.put (some 90) (.pointer (some ⟨pA, 2, none⟩))).put (some 91) (.slice (some s1) n2 c2)).put (some 93) (.pointer (some ⟨pB, 2, none⟩))).put (some 94) (.slice (some s2) m2 d2))) :
    (Code.region 10 opsF true).wp Tryz.prog Q a W := by
  have hb0 : Below W.heap.size W { W with drawn := W.drawn + 1 } := (Below.refl _ _).drew
  refine wp_region_L (fun wx => Below W.heap.size W wx) 9 (by kernel_rfl) ?_
  show wpAnyL _ _ _ _ _ _ (9 + 1) _ _ _
  refine wpAnyL_put 1 90 (.pointer (some ⟨pA, 2, none⟩)) rfl rfl (by kernel_rfl) (by kernel_rfl) (by kernel_rfl) (by kernel_rfl) hQ rfl (fun w _ => rgF2 (.tmp 7) pA rfl h7 w) hb0 ?_
  refine wpAnyL_put 2 91 (.slice (some s1) n2 c2) rfl rfl (by kernel_rfl) (by kernel_rfl) (by kernel_rfl) (by kernel_rfl) hQ rfl (fun w hw => rgL (.tmp 90) _ rfl (eval_eq (by omega)) w (hA.below (Nat.le_refl _) hw).cells.2.2) hb0 ?_
  refine wpAnyL_put 4 93 (.pointer (some ⟨pB, 2, none⟩)) rfl rfl (by kernel_rfl) (by kernel_rfl) (by kernel_rfl) (by kernel_rfl) hQ rfl (fun w _ => rgF2 (.tmp 10) pB rfl (by rw [eval_ne (by decide), eval_ne (by decide)]; exact h10) w) hb0 ?_
  refine wpAnyL_put 5 94 (.slice (some s2) m2 d2) rfl rfl (by kernel_rfl) (by kernel_rfl) (by kernel_rfl) (by kernel_rfl) hQ rfl (fun w hw => rgL (.tmp 93) _ rfl (eval_eq (by rw [put_size, put_size]; omega)) w (hB.below (Nat.le_refl _) hw).cells.2.2) hb0 ?_
  refine fs_00 W s1 s2 n2 c2 m2 d2 N dt dt' _ r1 r2 hN hb hend 0 _ ⟨hb0, by rw [put_size, put_size, put_size, put_size]; exact hsz, ?_, eval_eq (by rw [put_size, put_size, put_size]; omega), ⟨fun e => by omega, fun e => by omega, fun e => by omega, fun e => by omega⟩, fun e => by cases e⟩
  rw [eval_ne (by decide), eval_ne (by decide)]
  exact eval_eq (by rw [put_size]; omega)
end

end Go.Proofs.YtkgcmpmgaghdhaaGreatDoor
namespace Go.Proofs.YtkgcmpmgaghdhaaGreatDoor
open Go.RowKit

set_option maxHeartbeats 2000000 in
theorem lwArray_src (c : Bool) (s1 s2 : Option Addr) (n1 n2 c1 c2 : Nat) (sh dt : List Int) (w : World) (r1 : Src w s1 n1 c1 sh) (r2 : Src w s2 n2 c2 dt) (h1 : n1 ≤ 20000) (h2 : n2 ≤ 20000) :
    Calls Tryz.prog 11 #[.agg #[.bool c, .slice s1 n1 c1, .slice s2 n2 c2]] w fun e w' => ∃ g1 g2 d1 d2, e = .returned (.agg #[.bool c, .slice (some ⟨g1, 0, none⟩) n1 d1, .slice (some ⟨g2, 0, none⟩) n2 d2]) ∧ Own w' w.heap.size (some ⟨g1, 0, none⟩) n1 sh ∧ Own w' w.heap.size (some ⟨g2, 0, none⟩) n2 dt ∧ n1 ≤ d1 ∧ n2 ≤ d2 ∧ Below w.heap.size w w' := by
  obtain ⟨W0, hW0⟩ : ∃ W0, W0 = (w.alloc (.cells #[.bool c, .slice s1 n1 c1, .slice s2 n2 c2] 25)).alloc (.cells #[.bool false, .slice none 0 0, .slice none 0 0] 25) := ⟨_, rfl⟩
  have hz0 : W0.heap.size = w.heap.size + 1 + 1 := by rw [hW0]; simp
  have HB0 : Hid (Below w.heap.size w W0) := by rw [hW0]; exact ((Below.refl _ w).alloc (Nat.le_refl _) _).alloc (by simp) _
  have HX0 : Hid (Box W0 w.heap.size c (.slice s1 n1 c1) (.slice s2 n2 c2)) := by
    rw [hW0]; exact (Box.new w _ _ _).below (Nat.le_refl _) ((Below.refl _ _).alloc (Nat.le_refl _) _)
  have HX1 : Hid (Box W0 (w.heap.size + 1) false (.slice none 0 0) (.slice none 0 0)) := by
    rw [hW0]
    have := Box.new (w.alloc (.cells #[.bool c, .slice s1 n1 c1, .slice s2 n2 c2] 25)) false (.slice none 0 0) (.slice none 0 0)
    rw [World.size_alloc] at this
    exact this
  have HW0 := hide hW0
  have R1 := hide (r1.below (Nat.le_refl _) (unhide HB0))
  have R2 := hide (r2.below (Nat.le_refl _) (unhide HB0))
  have HZ0 := hide hz0
  clear hW0 hz0 r1 r2
  go_enter Tryz.func11, Tryz.ntmps11
  go_upto_region 1 with fail
  rw [← unhide HW0]
  refine regionLw W0 w.heap.size (w.heap.size + 1) c s1 s2 n1 n2 c1 c2 sh dt (unhide R1) (unhide R2) h1 h2 _ _ (unhide HX1) ?_ _ (by simp) rfl rfl rfl (unhide HX0) ?_
  · intro a g1 g2 d1 d2 wx hlw
    apply_assumption
    have hv2 : (a.put (some 13) (.agg #[.bool c, .slice (some ⟨g1, 0, none⟩) n1 d1, .slice (some ⟨g2, 0, none⟩) n2 d2])).eval (.tmp 2) = .pointer (some ⟨w.heap.size + 1, 0, none⟩) := by rw [eval_ne (by decide)]; exact hlw.e2
    obtain ⟨a', ha'⟩ : ∃ a', a' = a.put (some 13) (.agg #[.bool c, .slice (some ⟨g1, 0, none⟩) n1 d1, .slice (some ⟨g2, 0, none⟩) n2 d2]) := ⟨_, rfl⟩
    have hdf : a'.defers = [] := by rw [ha', put_defers]; exact hlw.df
    rw [← ha'] at hv2 ⊢
    have hv3 : a'.tmps[2]?.getD undef = .pointer (some ⟨w.heap.size + 1, 0, none⟩) := by simpa [Act.eval] using hv2
    clear ha'
    have hb := ((unhide HX1).below (Nat.le_refl _) hlw.low).sets (c' := c) (u1 := .slice (some ⟨g1, 0, none⟩) n1 d1) (u2 := .slice (some ⟨g2, 0, none⟩) n2 d2)
    obtain ⟨r0, r1, r2, _, _, _⟩ := hb.all
    have hbx := (unhide HX1).below (Nat.le_refl _) hlw.low
    have hz0 := unhide HZ0
    have o1 := (hlw.a2 rfl).2
    have o2 := (hlw.b2 rfl).2
    have hk1 : n1 ≤ d1 := by
      rcases o1.2 with ⟨e, _⟩ | ⟨g', cap', cur, e, _, _, hr, _⟩
      · cases e
      · cases e; exact hr
    have hk2 : n2 ≤ d2 := by
      rcases o2.2 with ⟨e, _⟩ | ⟨g', cap', cur, e, _, _, hr, _⟩
      · cases e
      · cases e; exact hr
    obtain ⟨_, _, e1, q1⟩ := Own.of_owns o1 (by omega)
    obtain ⟨_, _, e2, q2⟩ := Own.of_owns o2 (by omega)
    cases e1
    cases e2
    have hn1 : ∀ k, At (some ⟨g1, 0, none⟩) n1 k → k ≠ w.heap.size + 1 := fun k hk => q1.row.notBox hbx hk
    have hn2 : ∀ k, At (some ⟨g2, 0, none⟩) n2 k → k ≠ w.heap.size + 1 := fun k hk => q2.row.notBox hbx hk
    have hlow := (unhide HB0).trans (hlw.low.mono (by omega))
    go_wp2_with fail
    refine bodyPost_ret (v := .agg #[.bool c, .slice (some ⟨g1, 0, none⟩) n1 d1, .slice (some ⟨g2, 0, none⟩) n2 d2]) (by simp [results, Tryz.results11, go_sem, hv3, r0, r1, r2]) hdf ?_
    exact ⟨g1, g2, d1, d2, rfl, (((q1.mono (by omega)).other (q := ⟨w.heap.size + 1, 0, none⟩) hn1 _).other (q := ⟨w.heap.size + 1, 1, none⟩) hn1 _).other (q := ⟨w.heap.size + 1, 2, none⟩) hn1 _, (((q2.mono (by omega)).other (q := ⟨w.heap.size + 1, 0, none⟩) hn2 _).other (q := ⟨w.heap.size + 1, 1, none⟩) hn2 _).other (q := ⟨w.heap.size + 1, 2, none⟩) hn2 _, hk1, hk2, ((hlow.setCell (p := ⟨w.heap.size + 1, 0, none⟩) (by simp) _).setCell (p := ⟨w.heap.size + 1, 1, none⟩) (by simp) _).setCell (p := ⟨w.heap.size + 1, 2, none⟩) (by simp) _⟩
  · exact fun _ _ _ _ _ h => h

end Go.Proofs.YtkgcmpmgaghdhaaGreatDoor
namespace Go.Proofs.YtkgcmpmgaghdhaaGreatDoor
open Go.RowKit

/-- The two sentinels lie as their initialisers lay them: errNoResult points to a, errTooGreat to b. -/
structure Gl (w : World) (a b : Addr) : Prop where
  no : w.cell? ⟨2, 0, none⟩ = some (.iface 175 (.pointer (some a)))
  big : w.cell? ⟨1, 0, none⟩ = some (.iface 175 (.pointer (some b)))
  ne : a ≠ b
  rowA : ∃ ca ta, w.heap[a.block]? = some (.cells ca ta (0, 0))
  rowB : ∃ cb tb, w.heap[b.block]? = some (.cells cb tb (0, 0))

theorem Gl.below {w w' : World} {a b : Addr} (h : Gl w a b) (hb : Below w.heap.size w w') : Gl w' a b := by
  obtain ⟨h1, h2, h3, ⟨ca, ta, h4⟩, ⟨cb, tb, h5⟩⟩ := h
  exact ⟨(hb.cell (p := ⟨2, 0, none⟩) (World.block_lt_of_cell? _ _ h1)).trans h1, (hb.cell (p := ⟨1, 0, none⟩) (World.block_lt_of_cell? _ _ h2)).trans h2, h3,
    ⟨ca, ta, (hb.block _ (lt_of_block h4)).trans h4⟩, ⟨cb, tb, (hb.block _ (lt_of_block h5)).trans h5⟩⟩

theorem Gl.alloc {w : World} {a b : Addr} (h : Gl w a b) (o : Obj) : Gl (w.alloc o) a b := h.below ((Below.refl _ _).alloc (Nat.le_refl _) _)
theorem Gl.drewN {w : World} {a b : Addr} (h : Gl w a b) (q : Nat) : Gl (w.drewN q) a b := h.below (Below.drewN (Below.refl _ _) _)

/-- What an axis of no elements gives for the ops 1 to 16. -/
def emptyTab : List Int := [0, 0, 1, 1, 1000000000000000, -1000000000000000, 0, 1, 1, 0, 0, 1, 1, 0, 1, 0]

/-- The sentinels and the table emptyFolds lie as laid. -/
structure GlF (w : World) (a b : Addr) : Prop where
  gl : Gl w a b
  tab : ∀ i, i < 16 → w.cell? ⟨0, i, none⟩ = some (.int .i64 (emptyTab.getD i 0))

theorem GlF.below {w w' : World} {a b : Addr} (h : GlF w a b) (hb : Below w.heap.size w w') : GlF w' a b :=
  ⟨h.gl.below hb, fun i hi => (hb.cell (p := ⟨0, i, none⟩) (World.block_lt_of_cell? _ _ (h.tab i hi))).trans (h.tab i hi)⟩
theorem GlF.alloc {w : World} {a b : Addr} (h : GlF w a b) (o : Obj) : GlF (w.alloc o) a b := h.below ((Below.refl _ _).alloc (Nat.le_refl _) _)

/-- What an element's function gives for a code: nil, errTooGreat or errNoResult. -/
def errV (a b : Addr) (code : Int) : Value := if code = 0 then .nilIface else if code = 7 then .iface 175 (.pointer (some b)) else .iface 175 (.pointer (some a))

theorem errV_0 (a b : Addr) : errV a b 0 = .nilIface := rfl
theorem errV_7 (a b : Addr) : errV a b 7 = .iface 175 (.pointer (some b)) := rfl
theorem errV_3 (a b : Addr) : errV a b 3 = .iface 175 (.pointer (some a)) := rfl

/-- The codes that elements can have. -/
def codeIn (code : Int) : Prop := code = 0 ∨ code = 3 ∨ code = 7

end Go.Proofs.YtkgcmpmgaghdhaaGreatDoor
namespace Go.Proofs.YtkgcmpmgaghdhaaGreatDoor
open Go.RowKit

theorem ret_three {a b c a' b' c' : Int} (ha : a = a') (hb : b = b') (hc : c = c') : Ending.returned (.tuple #[.int .i64 a, .int .i64 b, .int .i64 c]) = .returned (.tuple #[.int .i64 a', .int .i64 b', .int .i64 c']) := by rw [ha, hb, hc]

theorem drop_snoc (sh : List Int) (k i : Nat) (h : k < sh.length) (hi : i ≤ k) : (sh.take (k + 1)).drop i = (sh.take k).drop i ++ [sh.getD k 0] := by
  rw [take_snoc sh k h, List.drop_append_of_le_length (by simp; omega)]

theorem prodAll_one (xs : List Int) (x : Int) : prodAll (xs ++ [x]) = prodAll xs * x := by simp [prodAll]

/-- The products in front of and behind place t of the first k. -/
def partB (sh : List Int) (t k : Nat) : Int := prodAll (sh.take (min k t))
def partA (sh : List Int) (t k : Nat) : Int := prodAll ((sh.take k).drop (t + 1))

theorem partB_lt {sh : List Int} {t k : Nat} (hk : k < sh.length) (h : k < t) : partB sh t (k + 1) = partB sh t k * sh.getD k 0 := by
  unfold partB; rw [Nat.min_eq_left (by omega), Nat.min_eq_left (by omega), take_snoc sh k hk, prodAll_one]
theorem partB_ge {sh : List Int} {t k : Nat} (h : t ≤ k) : partB sh t (k + 1) = partB sh t k := by
  unfold partB; rw [Nat.min_eq_right (by omega), Nat.min_eq_right (by omega)]
theorem partA_gt {sh : List Int} {t k : Nat} (hk : k < sh.length) (h : t < k) : partA sh t (k + 1) = partA sh t k * sh.getD k 0 := by
  unfold partA; rw [drop_snoc sh k (t + 1) hk (by omega), prodAll_one]
theorem partA_le {sh : List Int} {t k : Nat} (h : k ≤ t) : partA sh t (k + 1) = partA sh t k := by
  unfold partA; rw [List.drop_eq_nil_of_le (by simp; omega), List.drop_eq_nil_of_le (by simp; omega)]
theorem partB_bd {sh : List Int} (h : ShapeIn sh) (t k : Nat) : 0 ≤ partB sh t k ∧ partB sh t k ≤ 10000 := (h.take _).bd
theorem partA_bd {sh : List Int} (h : ShapeIn sh) (t k : Nat) : 0 ≤ partA sh t k ∧ partA sh t k ≤ 10000 := ((h.take _).drop _).bd

set_option maxHeartbeats 1000000 in
theorem l4Axis_any (a : Option Addr) (n cap : Nat) (sh : List Int) (first : Bool) (w : World) (h : Row w a n sh) (hS : ShapeIn sh) (hn : 0 < n) :
    Calls Tryz.prog 89 #[.slice a n cap, .bool first] w fun e w' => e = .returned (.tuple #[.int .i64 (axisB sh first), .int .i64 (axisN sh first), .int .i64 (axisA sh first)]) ∧ Below w.heap.size w w' := by
  have hlen := hide h.len
  have hsm := h.small
  have H := hide h
  have HS := hide hS
  clear h hS
  obtain ⟨t, ht⟩ : ∃ t, axisAt sh first = t := ⟨_, rfl⟩
  have htn : t < n := by rw [← ht]; unfold axisAt; rw [unhide hlen]; split <;> omega
  have HT := hide ht
  have HB : Hid (axisB sh first = partB sh t n) := by show _ = _; unfold axisB partB; rw [ht, Nat.min_eq_right (by omega)]
  have HA : Hid (axisA sh first = partA sh t n) := by show _ = _; unfold axisA partA; rw [ht, List.take_of_length_le (by rw [unhide hlen]; exact Nat.le_refl _)]
  have HN : Hid (axisN sh first = sh.getD t 0) := by show _ = _; unfold axisN; rw [ht]
  obtain ⟨bt, ot, hat, hltt, hct⟩ := (unhide H).get htn
  subst hat
  have hcell : Hid (∀ k, k < n → w.cell? ⟨bt, ot + k, none⟩ = some (.int .i64 (sh.getD k 0))) := by
    intro k hk
    obtain ⟨b', o', e', _, hc'⟩ := (unhide H).get hk
    cases e'
    exact hc'
  have hft : (first = true ∧ t = 0) ∨ (first = false ∧ (n : Int) - 1 = (t : Int)) := by
    have := unhide HT
    unfold axisAt at this
    rw [unhide hlen] at this
    cases first
    · exact .inr ⟨rfl, by simp at this; omega⟩
    · exact .inl ⟨rfl, by simp at this; omega⟩
  clear ht
  go_enter Tryz.func89, Tryz.ntmps89
  go_upto_if 14 with fail
  go_cut [7] (fun b wx => w = wx ∧ b = .int .i64 t)
  case first =>
    rcases hft with ⟨rfl, rfl⟩ | ⟨rfl, hnt⟩
    · go_wp2
      go_meet
      case rel => exact ⟨rfl, rfl⟩
    · go_wp2
      go_meet
      case rel => exact ⟨rfl, by rw [← hnt]⟩
  case rest =>
    obtain ⟨rfl, rfl⟩ := hcut
    clear hft
    go_wp2
    go_loop [8, 9, 10] (fun p q i => ∃ (k : Nat) (x y : Int), k ≤ n ∧ i = .int .i64 k ∧ p = .int .i64 x ∧ q = .int .i64 y ∧ Hid (partB sh t k = x) ∧ Hid (partA sh t k = y)) (fun _ _ i => n - (intOf i).toNat)
    case atStart => exact ⟨0, 1, 1, Nat.zero_le _, rfl, rfl, rfl, by show _ = _; simp [partB, prodAll], by show _ = _; simp [partA, prodAll]⟩
    case round =>
      obtain ⟨k, x, y, hk, rfl, rfl, rfl, hx, hy⟩ := hrel
      by_cases hlt : k < n
      · have hc := unhide hcell k hlt
        have hks : Hid (k < sh.length) := by show k < sh.length; rw [unhide hlen]; exact hlt
        obtain ⟨z, hz⟩ : ∃ z, z = sh.getD k 0 := ⟨_, rfl⟩
        rw [← hz] at hc
        have HZ := hide hz
        clear hz
        by_cases h1 : k < t
        · have HX : Hid (partB sh t (k + 1) = x * z) := by show _ = _; rw [partB_lt (unhide hks) h1, unhide hx, unhide HZ]
          have HY : Hid (partA sh t (k + 1) = y) := by show _ = _; rw [partA_le (by omega), unhide hy]
          have hb := partB_bd (unhide HS) t (k + 1)
          rw [unhide HX] at hb
          obtain ⟨hb0, hb1⟩ := hb
          go_wp2
          go_round
          case rel => exact ⟨k + 1, x * z, y, by omega, by go_num, rfl, rfl, HX, HY⟩
          case measure => simp [intOf]; omega
        · by_cases h2 : t < k
          · have HX : Hid (partB sh t (k + 1) = x) := by show _ = _; rw [partB_ge (by omega), unhide hx]
            have HY : Hid (partA sh t (k + 1) = y * z) := by show _ = _; rw [partA_gt (unhide hks) h2, unhide hy, unhide HZ]
            have hb := partA_bd (unhide HS) t (k + 1)
            rw [unhide HY] at hb
            obtain ⟨hb0, hb1⟩ := hb
            go_wp2
            go_round
            case rel => exact ⟨k + 1, x, y * z, by omega, by go_num, rfl, rfl, HX, HY⟩
            case measure => simp [intOf]; omega
          · have HX : Hid (partB sh t (k + 1) = x) := by show _ = _; rw [partB_ge (by omega), unhide hx]
            have HY : Hid (partA sh t (k + 1) = y) := by show _ = _; rw [partA_le (by omega), unhide hy]
            go_wp2
            go_round
            case rel => exact ⟨k + 1, x, y, by omega, by go_num, rfl, rfl, HX, HY⟩
            case measure => simp [intOf]; omega
      · have hkn : k = n := by omega
        subst hkn
        go_wp2
        go_quiet (fail)
        go_wp2
        refine bodyPost_ret (v := .tuple #[.int .i64 x, .int .i64 (sh.getD t 0), .int .i64 y]) (by simp [results, Tryz.results89, go_sem]) rfl ?_
        exact ⟨ret_three ((unhide HB).trans (unhide hx)).symm (unhide HN).symm ((unhide HA).trans (unhide hy)).symm, Below.drewN (Below.refl _ _) _⟩

theorem row_tail {w : World} {b off n : Nat} {zs : List Int} (h : Row w (some ⟨b, off, none⟩) n zs) (hn : 0 < n) : Row w (some ⟨b, off + 1, none⟩) (n - 1) (zs.drop 1) := by
  refine ⟨by rw [List.length_drop, h.len], by have := h.small; omega, ?_⟩
  rcases h.at_ with h0 | ⟨b', o', e, hlt, hc⟩
  · omega
  · cases e
    refine .inr ⟨b, off + 1, rfl, hlt, fun i hi => ?_⟩
    have := hc (i + 1) (by omega)
    rw [show off + 1 + i = off + (i + 1) by omega, this]
    simp [List.getD]

theorem row_head {w : World} {a : Option Addr} {n m : Nat} {zs : List Int} (h : Row w a n zs) (hm : m ≤ n) : Row w a m (zs.take m) := by
  refine ⟨by rw [List.length_take, h.len]; omega, by have := h.small; omega, ?_⟩
  rcases h.at_ with h0 | ⟨b', o', e, hlt, hc⟩
  · exact .inl (by omega)
  · refine .inr ⟨b', o', e, hlt, fun i hi => ?_⟩
    rw [hc i (by omega)]
    simp [List.getD, hi]

end Go.Proofs.YtkgcmpmgaghdhaaGreatDoor
namespace Go.Proofs.YtkgcmpmgaghdhaaGreatDoor
open Go.RowKit

set_option maxHeartbeats 400000 in
theorem l4Without_any (b off n cap : Nat) (sh : List Int) (first : Bool) (w : World) (h : Row w (some ⟨b, off, none⟩) n sh) (hn : 0 < n) (hcap : n ≤ cap) :
    Calls Tryz.prog 88 #[.slice (some ⟨b, off, none⟩) n cap, .bool first] w fun e w' => ∃ a' cap', e = .returned (.slice a' (n - 1) cap') ∧ Own w' w.heap.size a' (n - 1) (without sh first) ∧ Below w.heap.size w w' := by
  have H := hide h
  have hlen := hide h.len
  have hsm := h.small
  clear h
  have hz : ∀ (ad : Addr), n - 1 = 0 → Row w (some ad) (n - 1) (sh.drop 1) := fun ad h0 => by
    rw [h0]
    exact ⟨by rw [List.length_drop, unhide hlen]; exact h0, by omega, .inl rfl⟩
  cases first with
  | true =>
    go_enter Tryz.func88, Tryz.ntmps88
    go_wp2_with fail
    all_goals
      refine (l3Ints_any _ _ _ (sh.drop 1) _ (by first | exact row_tail (unhide H) hn | exact hz _ (by omega))).mono ?_
      rintro e w1 ⟨a', cap', rfl, hO, hb⟩
      go_wp2
      go_ret
      exact ⟨a', cap', rfl, hO, hb⟩
  | false =>
    have HE : Hid (without sh false = sh.take (n - 1)) := by show _ = _; unfold without; rw [unhide hlen]; rfl
    have hn1 : (n : Int) - 1 = ((n - 1 : Nat) : Int) := by omega
    go_enter Tryz.func88, Tryz.ntmps88
    go_wp2_with fail
    all_goals
      refine (l3Ints_any _ _ _ (sh.take (n - 1)) _ (by first | exact row_head (unhide H) (Nat.sub_le _ _))).mono ?_
      rintro e w1 ⟨a', cap', rfl, hO, hb⟩
      go_wp2
      go_ret
      exact ⟨a', cap', rfl, by rw [unhide HE]; exact hO, hb⟩

end Go.Proofs.YtkgcmpmgaghdhaaGreatDoor
namespace Go.Proofs.YtkgcmpmgaghdhaaGreatDoor
open Go.RowKit

set_option maxHeartbeats 1000000 in
theorem l4Mod_any (a b : Int) (w : World) (ha : -1000000000000000 ≤ a ∧ a ≤ 1000000000000000) (hb : -1000000000000000 ≤ b ∧ b ≤ 1000000000000000) : Calls Tryz.prog 166 #[.int .i64 a, .int .i64 b] w fun e w' => e = .returned (.int .i64 (modOf a b)) ∧ w' = w := by
  obtain ⟨ha1, ha2⟩ := ha
  obtain ⟨hb1, hb2⟩ := hb
  by_cases h0 : a = 0
  · subst h0
    have HE : Hid (modOf 0 b = b) := rfl
    go_enter Tryz.func166, Tryz.ntmps166
    go_wp2
    go_ret
    exact ⟨ret_int HE.out.symm, rfl⟩
  have q0 : (a == 0) = false := by simp [h0]
  have hm : -1000000000000000 ≤ b.tmod a ∧ b.tmod a ≤ 1000000000000000 := by
    have := Int.natAbs_tmod b a
    have h3 : b.natAbs % a.natAbs ≤ b.natAbs := Nat.mod_le _ _
    omega
  obtain ⟨m, hm0⟩ : ∃ m, b.tmod a = m := ⟨_, rfl⟩
  rw [hm0] at hm
  obtain ⟨hm1, hm2⟩ := hm
  by_cases hz : m = 0
  · subst hz
    have HE : Hid (modOf a b = 0) := by show _ = _; unfold modOf; rw [if_neg h0, hm0]; simp
    go_enter Tryz.func166, Tryz.ntmps166
    go_wp2
    go_ret
    exact ⟨ret_int HE.out.symm, rfl⟩
  have q1 : (m != 0) = true := by simp [hz]
  by_cases hs : m < 0
  · by_cases ht : a < 0
    · have HE : Hid (modOf a b = m) := by show _ = _; unfold modOf; rw [if_neg h0, hm0]; simp [hs, ht]
      clear hz
      go_enter Tryz.func166, Tryz.ntmps166
      go_wp2
      go_ret
      exact ⟨ret_int HE.out.symm, rfl⟩
    · have HE : Hid (modOf a b = m + a) := by show _ = _; unfold modOf; rw [if_neg h0, hm0]; simp [hs, ht, hz]
      clear hz
      go_enter Tryz.func166, Tryz.ntmps166
      go_wp2
      go_ret
      exact ⟨ret_int HE.out.symm, rfl⟩
  · by_cases ht : a < 0
    · have HE : Hid (modOf a b = m + a) := by show _ = _; unfold modOf; rw [if_neg h0, hm0]; simp [hs, ht, hz]
      clear hz
      go_enter Tryz.func166, Tryz.ntmps166
      go_wp2
      go_ret
      exact ⟨ret_int HE.out.symm, rfl⟩
    · have HE : Hid (modOf a b = m) := by show _ = _; unfold modOf; rw [if_neg h0, hm0]; simp [hs, ht]
      clear hz
      go_enter Tryz.func166, Tryz.ntmps166
      go_wp2
      go_ret
      exact ⟨ret_int HE.out.symm, rfl⟩

end Go.Proofs.YtkgcmpmgaghdhaaGreatDoor
