import Derived.Test.YtngbmcljhcckmaaMLw
import Derived.Test.YtngbmcljhcckmaaMDraw
import Derived.Test.YtngbmcljhcckmaaMDraw
import Derived.Deep.DeepCutAuto
import Derived.Test.YtngbmcljhcckmaaSpecWhere
import Derived.Deep.RegionHeld
namespace Go.Proofs.Ytngbmcljhcckmaa
open Go.RowKit

set_option maxHeartbeats 1000000 in
theorem l4Mod_some (a b : Int) (w : World) : Calls Try.prog 112 #[.int .i64 a, .int .i64 b] w fun e w' => (∃ v : Int, e = .returned (.int .i64 v)) ∧ w' = w := by
  by_cases h0 : a = 0
  · subst h0
    go_enter Try.func112, Try.ntmps112
    go_wp2
    go_ret
    exact ⟨⟨_, rfl⟩, rfl⟩
  have q0 : (a == 0) = false := by simp [h0]
  go_enter Try.func112, Try.ntmps112
  go_wp2
  all_goals (go_ret; exact ⟨⟨_, rfl⟩, rfl⟩)

theorem PGrow.mono {B B' : Nat} {w : World} {g cap k : Nat} {xs : List Value} {ps : List PartD} (h : PGrow B w g cap k xs ps) (hB : B' ≤ B) : PGrow B' w g cap k xs ps := by
  refine ⟨?_, h.len, fun i hi => ?_⟩
  · obtain ⟨o1, o2⟩ := h.own
    refine ⟨o1, ?_⟩
    rcases o2 with o2 | ⟨g', cap', cur, hv, hg', r⟩
    · exact Or.inl o2
    · exact Or.inr ⟨g', cap', cur, hv, by omega, r⟩
  · obtain ⟨s1, n1, c1, s2, n2, c2, e0, e1, e2, e3, it⟩ := h.items i hi
    exact ⟨s1, n1, c1, s2, n2, c2, e0, e1, e2, e3, it.r1, it.r2, it.ne1, it.ne2, fun x hx => by have := it.low1 x hx; omega, fun x hx => by have := it.low2 x hx; omega, it.m1, it.m2, it.nn⟩

/-- The part's array that is being drawn, in box pb, made behind the world Z. -/
structure PS (Z : World) (pr pb : Nat) (c : Bool) (g1 n1 cc g2 n2 c2 : Nat) (sh dt : List Int) (wx : World) : Prop where
  box : Box wx pb c (.slice (some ⟨g1, 0, none⟩) n1 cc) (.slice (some ⟨g2, 0, none⟩) n2 c2)
  o1 : Own wx Z.heap.size (some ⟨g1, 0, none⟩) n1 sh
  o2 : Own wx Z.heap.size (some ⟨g2, 0, none⟩) n2 dt
  e1 : g1 ≠ pb
  e2 : g2 ≠ pb
  e3 : g1 ≠ g2
  m1 : n1 ≤ 2
  m2 : n2 ≤ 10000
  pz : Z.heap.size ≤ pb
  gz : Z.heap.size ≤ g2
  pz' : pr < Z.heap.size
  rd : RdOk wx pr
  but : But (fun x => x = pr) Z wx

section
variable {Z wx w' : World} {pr pb g1 n1 cc g2 n2 c2 : Nat} {c : Bool} {sh dt : List Int}
theorem PS.below (h : PS Z pr pb c g1 n1 cc g2 n2 c2 sh dt wx) (hb : Below wx.heap.size wx w') : PS Z pr pb c g1 n1 cc g2 n2 c2 sh dt w' :=
  ⟨h.box.below (Nat.le_refl _) hb, h.o1.below (Nat.le_refl _) hb, h.o2.below (Nat.le_refl _) hb, h.e1, h.e2, h.e3, h.m1, h.m2, h.pz, h.gz, h.pz', h.rd.below hb, (h.but.trans (T := fun _ => False) (But.of_below hb)).mono (fun _ hk => hk.elim id False.elim)⟩

theorem PS.set (h : PS Z pr pb c g1 n1 cc g2 n2 c2 sh dt wx) {j : Nat} (hj : j < n2) (x : Int) : PS Z pr pb c g1 n1 cc g2 n2 c2 sh (dt.set j x) (wx.setCell ⟨g2, j, none⟩ (.int .i64 x)) := by
  have hb : But (fun y => y = g2) wx (wx.setCell ⟨g2, j, none⟩ (.int .i64 x)) := (But.refl (fun y => y = g2) wx).setCell (p := ⟨g2, j, none⟩) rfl _
  have ho := Own.set h.o2 hj x
  rw [Nat.zero_add] at ho
  exact ⟨h.box.other (q := ⟨g2, j, none⟩) (Ne.symm h.e2) _, hb.own h.o1 (fun k hk hh => by have := at_eq hh; have := h.e3; omega), ho, h.e1, h.e2, h.e3, h.m1, h.m2, h.pz, h.gz, h.pz', h.rd.but hb (fun k hk => by have := h.gz; have := h.pz'; omega), h.but.setNew (p := ⟨g2, j, none⟩) h.gz _⟩

theorem PS.char (h : PS Z pr pb c g1 n1 cc g2 n2 c2 sh dt wx) (d : Bool) : PS Z pr pb d g1 n1 cc g2 n2 c2 sh dt (wx.setCell ⟨pb, 0, none⟩ (.bool d)) := by
  have hb : But (fun y => y = pb) wx (wx.setCell ⟨pb, 0, none⟩ (.bool d)) := (But.refl (fun y => y = pb) wx).setCell (p := ⟨pb, 0, none⟩) rfl _
  refine ⟨?_, hb.own h.o1 (fun k hk hh => by have := at_eq hh; have := h.e1; omega), hb.own h.o2 (fun k hk hh => by have := at_eq hh; have := h.e2; omega), h.e1, h.e2, h.e3, h.m1, h.m2, h.pz, h.gz, h.pz', h.rd.but hb (fun k hk => by have := h.pz; have := h.pz'; omega), h.but.setNew (p := ⟨pb, 0, none⟩) h.pz _⟩
  have hx := h.box
  unfold Box at hx ⊢
  rw [heap_setCell_same wx pb 0 _ _ _ hx]
  simp
end

theorem PS.new {w2 V wL : World} {pr g1 m1 g2 m2 dd : Nat} {sh' dt' : List Int} (hV : Below w2.heap.size w2 V) (hO : Own V w2.heap.size (some ⟨g1, 0, none⟩) m1 sh') (hg1 : w2.heap.size ≤ g1) (hg1V : g1 < V.heap.size) (hm1 : m1 ≤ 2) (hm2 : m2 ≤ 10000)
    (ho2 : wL.ownsRow V.heap.size 3 1 (.slice (some ⟨g2, 0, none⟩) m2 dd) m2 (dt'.map (Value.int .i64))) (hr : RdOk wL pr) (hb : But (fun x => x = pr) V wL) (hp : pr < w2.heap.size) :
    PS w2 pr wL.heap.size false g1 m1 m1 g2 m2 dd sh' dt' (wL.alloc (.cells #[.bool false, .slice (some ⟨g1, 0, none⟩) m1 m1, .slice (some ⟨g2, 0, none⟩) m2 dd] 26)) := by
  have hsz := hb.size
  have hge := owns_from ho2
  have hlt : g2 < wL.heap.size := lw_lt (W := V) ho2
  obtain ⟨_, _, ev, hO2⟩ := Own.of_owns ho2 (by omega)
  cases ev
  have hba : Below wL.heap.size wL (wL.alloc (.cells #[.bool false, .slice (some ⟨g1, 0, none⟩) m1 m1, .slice (some ⟨g2, 0, none⟩) m2 dd] 26)) := (Below.refl _ _).alloc (Nat.le_refl _) _
  exact ⟨Box.new _ _ _ _, (hb.own hO (fun k hk hh => by have := at_eq hh; omega)).alloc _, (hO2.mono hV.size).alloc _, by omega, by omega, by omega, hm1, hm2, by have := hV.size; omega, by have := hV.size; omega, hp, hr.below hba, (((But.of_below (S := fun x => x = pr) hV).trans hb).mono (by rintro x (h | h) <;> exact h)).alloc _⟩

abbrev oI (l : List Int) : Obj := .cells (l.map (Value.int .i64)).toArray 3

/-- Six lists written out. -/
def lit6 (w : World) : World := (((((w.alloc (oI [])).alloc (oI [2])).alloc (oI [3])).alloc (oI [2, 2])).alloc (oI [1])).alloc (oI [0])

theorem lit6_own (w : World) (o : Obj) : Below w.heap.size w ((lit6 w).alloc o) ∧ ((lit6 w).alloc o).heap.size = w.heap.size + 7 ∧ Own ((lit6 w).alloc o) w.heap.size (some ⟨w.heap.size, 0, none⟩) 0 [] ∧ Own ((lit6 w).alloc o) w.heap.size (some ⟨w.heap.size + 1, 0, none⟩) 1 [2] ∧ Own ((lit6 w).alloc o) w.heap.size (some ⟨w.heap.size + 2, 0, none⟩) 1 [3] ∧ Own ((lit6 w).alloc o) w.heap.size (some ⟨w.heap.size + 3, 0, none⟩) 2 [2, 2] ∧ Own ((lit6 w).alloc o) w.heap.size (some ⟨w.heap.size + 4, 0, none⟩) 1 [1] ∧ Own ((lit6 w).alloc o) w.heap.size (some ⟨w.heap.size + 5, 0, none⟩) 1 [0] := by
  have b0 : Blk (w.alloc (oI [])) w.heap.size [] := World.alloc_heap_new w (oI [])
  have b1 : Blk ((w.alloc (oI [])).alloc (oI [2])) (w.heap.size + 1) [2] := by have := World.alloc_heap_new (w.alloc (oI [])) (oI [2]); rwa [World.size_alloc] at this
  have b2 : Blk (((w.alloc (oI [])).alloc (oI [2])).alloc (oI [3])) (w.heap.size + 2) [3] := by have := World.alloc_heap_new ((w.alloc (oI [])).alloc (oI [2])) (oI [3]); rwa [World.size_alloc, World.size_alloc] at this
  have b3 : Blk ((((w.alloc (oI [])).alloc (oI [2])).alloc (oI [3])).alloc (oI [2, 2])) (w.heap.size + 3) [2, 2] := by have := World.alloc_heap_new (((w.alloc (oI [])).alloc (oI [2])).alloc (oI [3])) (oI [2, 2]); rwa [World.size_alloc, World.size_alloc, World.size_alloc] at this
  have b4 : Blk (((((w.alloc (oI [])).alloc (oI [2])).alloc (oI [3])).alloc (oI [2, 2])).alloc (oI [1])) (w.heap.size + 4) [1] := by have := World.alloc_heap_new ((((w.alloc (oI [])).alloc (oI [2])).alloc (oI [3])).alloc (oI [2, 2])) (oI [1]); rwa [World.size_alloc, World.size_alloc, World.size_alloc, World.size_alloc] at this
  have b5 : Blk (lit6 w) (w.heap.size + 5) [0] := by have := World.alloc_heap_new (((((w.alloc (oI [])).alloc (oI [2])).alloc (oI [3])).alloc (oI [2, 2])).alloc (oI [1])) (oI [0]); rwa [World.size_alloc, World.size_alloc, World.size_alloc, World.size_alloc, World.size_alloc] at this
  have hz : (lit6 w).heap.size = w.heap.size + 6 := by unfold lit6; simp
  refine ⟨?_, by rw [World.size_alloc, hz], ?_, ?_, ?_, ?_, ?_, ?_⟩
  · unfold lit6
    exact (((((((Below.refl _ _).alloc (Nat.le_refl _) _).alloc (by simp) _).alloc (by simp; omega) _).alloc (by simp; omega) _).alloc (by simp; omega) _).alloc (by simp; omega) _).alloc (by simp; omega) _
  · exact ((((((b0.alloc _).alloc _).alloc _).alloc _).alloc _).alloc _).own rfl (by omega) (by omega)
  · exact (((((b1.alloc _).alloc _).alloc _).alloc _).alloc _).own rfl (by omega) (by omega)
  · exact ((((b2.alloc _).alloc _).alloc _).alloc _).own rfl (by omega) (by omega)
  · exact (((b3.alloc _).alloc _).alloc _).own rfl (by omega) (by omega)
  · exact ((b4.alloc _).alloc _).own rfl (by omega) (by omega)
  · exact (b5.alloc _).own rfl (by omega) (by omega)

end Go.Proofs.Ytngbmcljhcckmaa
namespace Go.Proofs.Ytngbmcljhcckmaa
open Go.RowKit

theorem own_cell0 {w : World} {B g n k : Nat} {zs : List Int} (h : Own w B (some ⟨g, 0, none⟩) n zs) (hk : k < n) : w.cell? ⟨g, k, none⟩ = some (.int .i64 (zs.getD k 0)) ∧ w.frozen? ⟨g, k, none⟩ = false := by
  rcases h.at_ with h0 | ⟨g', off', e, _, _, hc, hf⟩
  · omega
  · cases e
    have h1 := hc k hk
    have h2 := hf k hk
    rw [Nat.zero_add] at h1 h2
    exact ⟨h1, h2⟩

theorem own_lt0 {w : World} {B g n k : Nat} {zs : List Int} (h : Own w B (some ⟨g, 0, none⟩) n zs) (hk : k < n) : g < w.heap.size := h.row.hi (at_self (by omega))

/-- What the drawing of parts has come to. -/
structure DP (w : World) (pr : Nat) (c : Bool) (v1 v2 : Value) (g cap k : Nat) (wr : World) : Prop where
  box : Box wr w.heap.size c v1 v2
  grow : ∃ xs ps, PGrow (w.heap.size + 1) wr g cap k xs ps
  rd : RdOk wr pr
  but : But (fun x => x = pr) w wr

theorem DP.next {w wr w' : World} {pr g cap k : Nat} {c : Bool} {v1 v2 : Value} (h : DP w pr c v1 v2 g cap k wr) (hp : pr < w.heap.size) (hb : But (fun x => x = pr) wr w') (hr : RdOk w' pr) : DP w pr c v1 v2 g cap k w' := by
  obtain ⟨xs, ps, hg⟩ := h.grow
  exact ⟨h.box.but hb (by show ¬ w.heap.size = pr; omega), ⟨xs, ps, hg.but hb (fun x hx => by omega)⟩, hr, (h.but.trans hb).mono (by rintro x (h | h) <;> exact h)⟩

theorem DP.below {w wr w' : World} {pr g cap k : Nat} {c : Bool} {v1 v2 : Value} (h : DP w pr c v1 v2 g cap k wr) (hp : pr < w.heap.size) (hb : Below wr.heap.size wr w') : DP w pr c v1 v2 g cap k w' := h.next hp (But.of_below hb) (h.rd.below hb)

theorem DP.push {w wr w1 : World} {pr g cap k g' cap' : Nat} {c : Bool} {v1 v2 : Value} {s1 s2 : Option Addr} {n1 c1 n2 c2 : Nat} {p : PartD} (o : Obj) (h : DP w pr c v1 v2 g cap k wr) (hp : pr < w.heap.size) {xs : List Value} {ps : List PartD} (hg0 : PGrow (w.heap.size + 1) wr g cap k xs ps) (it : PItem (w.heap.size + 1) wr g s1 n1 c1 s2 n2 c2 p)
    (hown : w1.ownsRow (w.heap.size + 1) 96 4 (.slice (some ⟨g', 0, none⟩) (k + 1) cap') (k + 1) (xs ++ [.bool p.all, .bool p.c, .slice s1 n1 c1, .slice s2 n2 c2])) (hg : (wr.alloc o).grownBy w1 (some g)) (hat : g' = g ∨ g' = wr.heap.size + 1) : DP w pr c v1 v2 g' cap' (k + 1) w1 := by
  obtain ⟨hG, hb⟩ := hg0.push o it hown hg hat
  have hge := hg0.ge
  exact ⟨h.box.but hb (by show ¬ w.heap.size = g; omega), ⟨_, _, hG⟩, h.rd.but hb (fun x hx => by omega), ⟨hb.os.trans h.but.os, hb.tape.trans h.but.tape, hb.output.trans h.but.output, Nat.le_trans h.but.size hb.size, fun x hx hn => (hb.block x (Nat.lt_of_lt_of_le hx h.but.size) (by omega)).trans (h.but.block x hx hn)⟩⟩

set_option maxRecDepth 20000 in
set_option maxHeartbeats 16000000 in
theorem l5Parts_any (pr : Nat) (c : Bool) (a1 a2 : Addr) (n1 n2 c1 c2 : Nat) (sh : List Int) (w : World) (h : RdOk w pr) (hr : Row w (some a1) n1 sh) (hn : n1 ≤ 6) (hap : ∀ x, At (some a1) n1 x → x ≠ pr) :
    Calls Try.prog 86 #[.pointer (some ⟨pr, 0, none⟩), .agg #[.bool c, .slice (some a1) n1 c1, .slice (some a2) n2 c2]] w fun e w' => (∃ (g k cap : Nat) (xs : List Value) (ps : List PartD), e = .returned (.slice (some ⟨g, 0, none⟩) k cap) ∧ k ≤ 7 ∧ PGrow w.heap.size w' g cap k xs ps) ∧ RdOk w' pr ∧ But (fun x => x = pr) w w' := by
  obtain ⟨i0, hi, hz0, hz1, hz2⟩ := info_parts info_part
  have hpw := h.lt
  have HR := hide hr
  have HAP := hide hap
  have hb0 : Below w.heap.size w (w.alloc (.cells #[.bool c, .slice (some a1) n1 c1, .slice (some a2) n2 c2] 26)) := (Below.refl _ w).alloc (Nat.le_refl _) _
  have HRD := hide (h.below hb0)
  have HBB : Hid (But (fun x => x = pr) w (w.alloc (.cells #[.bool c, .slice (some a1) n1 c1, .slice (some a2) n2 c2] 26))) := But.of_below hb0
  have HX0 := hide (Box.new w c (.slice (some a1) n1 c1) (.slice (some a2) n2 c2))
  have HROW : Hid (∀ wr, But (fun x => x = pr) w wr → Row wr (some a1) n1 sh) := fun wr hb => hb.row hr (fun x hx hh => hap x hh hx)
  clear h hr hap hb0
  go_enter Try.func86, Try.ntmps86
  go_wp2_with fail
  refine (next_any pr _ (unhide HRD)).mono ?_
  rintro e w1 ⟨⟨kk, hkk, rfl⟩, hr1, hb1⟩
  obtain ⟨jd, hjd, q1, q2⟩ := divN kk 248
  have hjd1 : jd ≤ 1 := by omega
  have q1' : (kk : Int).tdiv 248 = (jd : Int) := q1
  have q2' : (kk : Int) / 248 = (jd : Int) := q2
  have hz1w : w.heap.size + 1 ≤ w1.heap.size := by have := hb1.size; simp at this; omega
  have HS : Hid (DP w pr c (.slice (some a1) n1 c1) (.slice (some a2) n2 c2) w1.heap.size 0 0 (w1.alloc (.cells #[] 96))) := by
    have hbx := (unhide HX0).but hb1 (by show ¬ w.heap.size = pr; omega)
    exact ⟨hbx.alloc _, ⟨[], [], PGrow.start w1 hz1w⟩, hr1.below ((Below.refl _ _).alloc (Nat.le_refl _) _), (((unhide HBB).trans hb1).mono (by rintro x (h | h) <;> exact h)).alloc _⟩
  obtain ⟨T, hT⟩ : ∃ T : Nat, T = n1 + jd := ⟨_, rfl⟩
  have hTi : (n1 : Int) + (jd : Int) = (T : Int) := by omega
  have hT7 : T ≤ 7 := by omega
  have hTn : n1 ≤ T := by omega
  clear hT
  clear HRD HBB HX0 hr1 hb1 q1 q2 hjd hkk
  go_wp2_with fail
  go_loopw [6, 7] (fun o i wr => ∃ (k g cap : Nat), k ≤ T ∧ i = .int .i64 k ∧ o = .slice (some ⟨g, 0, none⟩) k cap ∧ Hid (DP w pr c (.slice (some a1) n1 c1) (.slice (some a2) n2 c2) g cap k wr)) (fun _ i _ => T - (intOf i).toNat)
  case atStart => exact ⟨0, w1.heap.size, 0, Nat.zero_le _, rfl, rfl, unhide HS⟩
  case round =>
    obtain ⟨k, g, cap, hk, rfl, rfl, HD⟩ := hrel
    clear HS
    obtain ⟨x0, x1, x2, x3, x4, x5, x6⟩ := (unhide HD).box.all
    by_cases hlt : k < T
    case neg =>
      obtain rfl : k = T := by omega
      have hd := unhide HD
      obtain ⟨xs, ps, hg⟩ := hd.grow
      have HG := hide (hg.mono (Nat.le_succ _))
      have HRD := hide hd.rd
      have HBT := hide hd.but
      clear hd hg HD
      go_wp2
      go_ret
      exact ⟨⟨g, k, cap, xs, ps, rfl, hT7, unhide HG⟩, unhide HRD, unhide HBT⟩
    have hlti : (k : Int) < (T : Int) := by omega
    go_wp2_with fail
    refine (next_any pr _ (unhide HD).rd).mono ?_
    rintro e w2 ⟨⟨v, hv, rfl⟩, hr2, hb2⟩
    have HD2 := hide ((unhide HD).next hpw hb2 hr2)
    clear hr2 hb2 HD x0 x1 x2 x3 x4 x5 x6
    obtain ⟨j4, hj4, q4, q4'⟩ := modN v 4 (by omega)
    have r4 : (v : Int).tmod 4 = (j4 : Int) := q4
    have r4' : (v : Int) % 4 = (j4 : Int) := q4'
    clear q4 q4'
    by_cases h40 : j4 = 0
    · subst h40
      obtain ⟨xs, ps, hg⟩ := (unhide HD2).grow
      have HG := hide hg
      have HIT : Hid (PItem (w.heap.size + 1) w2 g none 0 0 none 0 0 ⟨true, false, [], []⟩) := ⟨Src.none _, Src.none _, fun hh => hh.1 rfl, fun hh => hh.1 rfl, fun _ hh => absurd rfl hh.1, fun _ hh => absurd rfl hh.1, by omega, by omega, fun hh => by cases hh⟩
      have hgz := hg.lt
      have hwz := (unhide HD2).but.size
      have hge := hg.ge
      clear hg
      go_wp2_with (at_builtin; refine wpList_append_some rfl _ _ 44 rfl (w.heap.size + 1) 96 i0 _ 4 64 Try.underlying44 hi hz0 hz1 hz2 rfl (by decide) g k cap xs rfl ((unhide HG).own.alloc _) ⟨w2.heap.size, 0, none⟩ 1 1 [.bool true, .bool false, .slice none 0 0, .slice none 0 0] rfl rfl (news4 _ _ _ _ _) (one4 _ _ _ _ _ _ _ _) (by unfold maxLen; omega) (by omega) (by rw [World.size_alloc]; omega) ?_; intro g3 cap3 w3 hown3 hgrow3 hat3; have HD3 := hide ((unhide HD2).push _ hpw (unhide HG) (unhide HIT) (by simpa using hown3) hgrow3 (by rcases hat3 with e | e; exact .inl e; exact .inr (by simpa using e))); clear hown3 hgrow3 hat3)
      go_roundw
      case rel => exact ⟨k + 1, g3, cap3, by omega, by go_num, rfl, unhide HD3⟩
      case measure => simp [intOf]; omega
    have h40b : ((j4 : Int) == 0) = false := by simp; omega
    clear h40
    obtain ⟨x0, x1, x2, x3, x4, x5, x6⟩ := (unhide HD2).box.all
    obtain ⟨d4, hd4, q4, q4'⟩ := divN v 4
    have s4 : (v : Int).tdiv 4 = (d4 : Int) := q4
    have s4' : (v : Int) / 4 = (d4 : Int) := q4'
    obtain ⟨j6, hj6, q6, q6'⟩ := modN d4 6 (by omega)
    have s6 : (d4 : Int).tmod 6 = (j6 : Int) := q6
    have s6' : (d4 : Int) % 6 = (j6 : Int) := q6'
    clear q4 q4' q6 q6' hd4
    go_upto_region 9 with fail
    go_cut [9] (fun u wx => ∃ pb g1 m1 cc g2 m2 dd sh' dt', u = .pointer (some ⟨pb, 0, none⟩) ∧ PS w2 pr pb false g1 m1 cc g2 m2 dd sh' dt' wx)
    case first =>
      obtain ⟨hV, hVz, l0, l1, l2, l3, l4, l5⟩ := lit6_own w2 (.cells #[.slice (some ⟨w2.heap.size, 0, none⟩) 0 0, .slice (some ⟨w2.heap.size + 1, 0, none⟩) 1 1, .slice (some ⟨w2.heap.size + 2, 0, none⟩) 1 1, .slice (some ⟨w2.heap.size + 3, 0, none⟩) 2 2, .slice (some ⟨w2.heap.size + 4, 0, none⟩) 1 1, .slice (some ⟨w2.heap.size + 5, 0, none⟩) 1 1] 22)
      have HV := hide hV
      have HL0 := hide l0
      have HL1 := hide l1
      have HL2 := hide l2
      have HL3 := hide l3
      have HL4 := hide l4
      have HL5 := hide l5
      have HVZ := hide hVz
      have hpz : pr < w2.heap.size := by have := (unhide HD2).but.size; omega
      have HRV := hide ((unhide HD2).rd.below hV)
      clear hV hVz l0 l1 l2 l3 l4 l5
      have hj6' : j6 = 0 ∨ j6 = 1 ∨ j6 = 2 ∨ j6 = 3 ∨ j6 = 4 ∨ j6 = 5 := by omega
      clear hj6
      rcases hj6' with rfl | rfl | rfl | rfl | rfl | rfl
      · go_wp2_with fail
        refine (l3Of_any pr w2.heap.size 0 0 false [] _ (by exact unhide HRV) (by exact (unhide HL0).row) (by omega)).mono ?_
        rintro e wL ⟨⟨g2, m2, dd, dt', rfl, hm2, ho2⟩, hrL, hbL⟩
        have HPS := hide (PS.new (unhide HV) (unhide HL0) (by omega) (by rw [unhide HVZ]; omega) (by omega) hm2 ho2 hrL hbL hpz)
        clear ho2 hrL hbL
        go_wp2_with fail
        go_meet
        case rel => exact ⟨_, _, _, _, _, _, _, _, _, rfl, unhide HPS⟩
      · go_wp2_with fail
        refine (l3Of_any pr (w2.heap.size + 1) 1 1 false [2] _ (by exact unhide HRV) (by exact (unhide HL1).row) (by omega)).mono ?_
        rintro e wL ⟨⟨g2, m2, dd, dt', rfl, hm2, ho2⟩, hrL, hbL⟩
        have HPS := hide (PS.new (unhide HV) (unhide HL1) (by omega) (by rw [unhide HVZ]; omega) (by omega) hm2 ho2 hrL hbL hpz)
        clear ho2 hrL hbL
        go_wp2_with fail
        go_meet
        case rel => exact ⟨_, _, _, _, _, _, _, _, _, rfl, unhide HPS⟩
      · go_wp2_with fail
        refine (l3Of_any pr (w2.heap.size + 2) 1 1 false [3] _ (by exact unhide HRV) (by exact (unhide HL2).row) (by omega)).mono ?_
        rintro e wL ⟨⟨g2, m2, dd, dt', rfl, hm2, ho2⟩, hrL, hbL⟩
        have HPS := hide (PS.new (unhide HV) (unhide HL2) (by omega) (by rw [unhide HVZ]; omega) (by omega) hm2 ho2 hrL hbL hpz)
        clear ho2 hrL hbL
        go_wp2_with fail
        go_meet
        case rel => exact ⟨_, _, _, _, _, _, _, _, _, rfl, unhide HPS⟩
      · go_wp2_with fail
        refine (l3Of_any pr (w2.heap.size + 3) 2 2 false [2, 2] _ (by exact unhide HRV) (by exact (unhide HL3).row) (by omega)).mono ?_
        rintro e wL ⟨⟨g2, m2, dd, dt', rfl, hm2, ho2⟩, hrL, hbL⟩
        have HPS := hide (PS.new (unhide HV) (unhide HL3) (by omega) (by rw [unhide HVZ]; omega) (by omega) hm2 ho2 hrL hbL hpz)
        clear ho2 hrL hbL
        go_wp2_with fail
        go_meet
        case rel => exact ⟨_, _, _, _, _, _, _, _, _, rfl, unhide HPS⟩
      · go_wp2_with fail
        refine (l3Of_any pr (w2.heap.size + 4) 1 1 false [1] _ (by exact unhide HRV) (by exact (unhide HL4).row) (by omega)).mono ?_
        rintro e wL ⟨⟨g2, m2, dd, dt', rfl, hm2, ho2⟩, hrL, hbL⟩
        have HPS := hide (PS.new (unhide HV) (unhide HL4) (by omega) (by rw [unhide HVZ]; omega) (by omega) hm2 ho2 hrL hbL hpz)
        clear ho2 hrL hbL
        go_wp2_with fail
        go_meet
        case rel => exact ⟨_, _, _, _, _, _, _, _, _, rfl, unhide HPS⟩
      · go_wp2_with fail
        refine (l3Of_any pr (w2.heap.size + 5) 1 1 false [0] _ (by exact unhide HRV) (by exact (unhide HL5).row) (by omega)).mono ?_
        rintro e wL ⟨⟨g2, m2, dd, dt', rfl, hm2, ho2⟩, hrL, hbL⟩
        have HPS := hide (PS.new (unhide HV) (unhide HL5) (by omega) (by rw [unhide HVZ]; omega) (by omega) hm2 ho2 hrL hbL hpz)
        clear ho2 hrL hbL
        go_wp2_with fail
        go_meet
        case rel => exact ⟨_, _, _, _, _, _, _, _, _, rfl, unhide HPS⟩
    case rest =>
      obtain ⟨pb, g1, m1, cc, g2, m2, dd, sh', dt', rfl, hps⟩ := hcut
      obtain ⟨X, hX⟩ : ∃ x, x = wc := ⟨_, rfl⟩
      subst hX
      have HPS := hide hps
      have HDX := hide ((unhide HD2).next hpw hps.but hps.rd)
      clear hps x0 x1 x2 x3 x4 x5 x6 s4 s4' s6 s6' hj6
      obtain ⟨x0, x1, x2, x3, x4, x5, x6⟩ := (unhide HDX).box.all
      go_upto_region 11 with fail
      go_cut [60] (fun u wx => (∃ bb : Bool, u = .bool bb ∧ (bb = true → k < n1)) ∧ wx = X)
      case first =>
        by_cases hkn : k < n1
        · have hkni : (k : Int) < (n1 : Int) := by omega
          obtain ⟨ba, oa, hab, _, hca⟩ := (unhide HROW X (unhide HDX).but).get hkn
          cases hab
          obtain ⟨xv, hxv⟩ : ∃ x, x = sh.getD k 0 := ⟨_, rfl⟩
          rw [← hxv] at hca
          clear hxv
          go_wp2_with fail
          go_meet
          case rel => exact ⟨⟨_, rfl, fun _ => hkn⟩, rfl⟩
        · have hkni : ¬ (k : Int) < (n1 : Int) := by omega
          go_wp2_with fail
          go_meet
          case rel => exact ⟨⟨_, rfl, fun hh => by simp at hh⟩, rfl⟩
      case rest =>
        obtain ⟨⟨bb, rfl, hbb⟩, rfl⟩ := hcut
        obtain ⟨Y, hY⟩ : ∃ x, x = wc := ⟨_, rfl⟩
        subst hY
        go_upto_if 60 with fail
        go_cut [10] (fun u wx => (∃ nn : Int, u = .int .i64 nn) ∧ wx = Y)
        case first =>
          cases bb with
          | true =>
            have hkn := hbb rfl
            have hkni : (k : Int) < (n1 : Int) := by omega
            obtain ⟨ba, oa, hab, _, hca⟩ := (unhide HROW Y (unhide HDX).but).get hkn
            cases hab
            go_wp2_with fail
            go_meet
            case rel => exact ⟨⟨_, rfl⟩, rfl⟩
          | false =>
            go_wp2_with fail
            go_meet
            case rel => exact ⟨⟨1, rfl⟩, rfl⟩
        case rest =>
          obtain ⟨⟨nn, rfl⟩, rfl⟩ := hcut
          obtain ⟨Y, hY⟩ : ∃ x, x = wc := ⟨_, rfl⟩
          subst hY
          clear hbb x0 x1 x2 x3 x4 x5 x6 HDX
          obtain ⟨y0, y1, y2, y3, y4, y5, y6⟩ := (unhide HPS).box.all
          have hm2 := (unhide HPS).m2
          go_wp2_with fail
          go_loopw [11] (fun i wr => ∃ (j : Nat) (dl : List Int), j ≤ m2 ∧ i = .int .i64 j ∧ Hid (PS w2 pr pb false g1 m1 cc g2 m2 dd sh' dl wr)) (fun i _ => m2 - (intOf i).toNat)
          case atStart => exact ⟨0, dt', Nat.zero_le _, rfl, HPS⟩
          case round =>
            obtain ⟨j, dl, hj, rfl, HQ⟩ := hrel
            clear y0 y1 y2 y3 y4 y5 y6
            obtain ⟨y0, y1, y2, y3, y4, y5, y6⟩ := (unhide HQ).box.all
            by_cases hjl : j < m2
            · have hji : (j : Int) < (m2 : Int) := by omega
              obtain ⟨cx, cf⟩ := own_cell0 (unhide HQ).o2 hjl
              obtain ⟨xd, hxd⟩ : ∃ x, x = dl.getD j 0 := ⟨_, rfl⟩
              rw [← hxd] at cx
              clear hxd
              have hgl : g2 < wr.heap.size := own_lt0 (unhide HQ).o2 hjl
              have hne : pb ≠ g2 := Ne.symm (unhide HQ).e2
              go_wp2_with fail
              go_region_with (go_at_call 112; refine (l4Mod_some _ _ _).mono ?_; rintro e wM ⟨⟨mv, rfl⟩, rfl⟩)
              all_goals
                by_cases hv240 : 240 ≤ v
                · have q240 : (240 : Int) ≤ (v : Int) := by omega
                  go_wp2_with fail
                  go_roundw
                  case rel => first
                    | exact ⟨j + 1, _, by omega, by go_num, hide ((((unhide HQ).below (Below.refl _ _).drew).set hjl _).set hjl _)⟩
                    | exact ⟨j + 1, _, by omega, by go_num, hide (((unhide HQ).below (Below.refl _ _).drew).set hjl _)⟩
                  case measure => simp [intOf]; omega
                · have q240 : ¬ (240 : Int) ≤ (v : Int) := by omega
                  go_wp2_with fail
                  go_roundw
                  case rel => exact ⟨j + 1, _, by omega, by go_num, hide (((unhide HQ).below (Below.refl _ _).drew).set hjl _)⟩
                  case measure => simp [intOf]; omega
            · obtain rfl : j = m2 := by omega
              by_cases hv250 : 250 ≤ v
              · have q250 : (250 : Int) ≤ (v : Int) := by omega
                go_upto_region 21 with fail
                obtain ⟨Z, hZ⟩ : ∃ Z, Z = wr.setCell ⟨pb, 0, none⟩ (.bool true) := ⟨_, rfl⟩
                have HQ2 : Hid (PS w2 pr pb true g1 m1 cc g2 j dd sh' dl Z) := by rw [hZ]; exact (unhide HQ).char true
                rw [← hZ]
                clear hZ y0 y1 y2 y3 y4 y5 y6
                obtain ⟨z0, z1, z2, z3, z4, z5, z6⟩ := (unhide HQ2).box.all
                have HDZ := hide ((unhide HD2).next hpw (unhide HQ2).but (unhide HQ2).rd)
                obtain ⟨xs, ps, hg⟩ := (unhide HDZ).grow
                have HG := hide hg
                have hgw2 : g < w2.heap.size := by obtain ⟨_, _, hg2⟩ := (unhide HD2).grow; exact hg2.lt
                have hww2 : w.heap.size + 1 ≤ w2.heap.size := by have := (unhide HD2).box.lt; omega
                have hwz := (unhide HDZ).but.size
                have HIT : Hid (PItem (w.heap.size + 1) Z g (some ⟨g1, 0, none⟩) m1 cc (some ⟨g2, 0, none⟩) j dd ⟨false, true, sh', dl⟩) := ⟨Src.some (unhide HQ2).o1.row, Src.some (unhide HQ2).o2.row, fun hh => by have := (unhide HQ2).o1.low hh; omega, fun hh => by have := (unhide HQ2).o2.low hh; omega, fun x hx => by have := (unhide HQ2).o1.low hx; omega, fun x hx => by have := (unhide HQ2).o2.low hx; omega, by have := (unhide HQ2).m1; omega, by have := (unhide HQ2).m2; omega, fun _ => ⟨_, rfl⟩⟩
                clear hg
                go_wp2_with (at_builtin; refine wpList_append_some rfl _ _ 44 rfl (w.heap.size + 1) 96 i0 _ 4 64 Try.underlying44 hi hz0 hz1 hz2 rfl (by decide) g k cap xs rfl ((unhide HG).own.alloc _) ⟨Z.heap.size, 0, none⟩ 1 1 [.bool false, .bool true, .slice (some ⟨g1, 0, none⟩) m1 cc, .slice (some ⟨g2, 0, none⟩) j dd] rfl rfl (news4 _ _ _ _ _) (one4 _ _ _ _ _ _ _ _) (by unfold maxLen; omega) (by omega) (by rw [World.size_alloc]; omega) ?_; intro g3 cap3 w3 hown3 hgrow3 hat3; have HD3 := hide ((unhide HDZ).push _ hpw (unhide HG) (unhide HIT) (by simpa using hown3) hgrow3 (by rcases hat3 with e | e; exact .inl e; exact .inr (by simpa using e))); clear hown3 hgrow3 hat3)
                go_roundw
                case rel => exact ⟨k + 1, g3, cap3, by omega, by go_num, rfl, unhide HD3⟩
                case measure => simp [intOf]; omega
              · have q250 : ¬ (250 : Int) ≤ (v : Int) := by omega
                obtain ⟨Z, hZ⟩ : ∃ Z, Z = wr := ⟨_, rfl⟩
                subst hZ
                have HQ2 := HQ
                clear y0 y1 y2 y3 y4 y5 y6
                obtain ⟨z0, z1, z2, z3, z4, z5, z6⟩ := (unhide HQ2).box.all
                have HDZ := hide ((unhide HD2).next hpw (unhide HQ2).but (unhide HQ2).rd)
                obtain ⟨xs, ps, hg⟩ := (unhide HDZ).grow
                have HG := hide hg
                have hgw2 : g < w2.heap.size := by obtain ⟨_, _, hg2⟩ := (unhide HD2).grow; exact hg2.lt
                have hww2 : w.heap.size + 1 ≤ w2.heap.size := by have := (unhide HD2).box.lt; omega
                have hwz := (unhide HDZ).but.size
                have HIT : Hid (PItem (w.heap.size + 1) Z g (some ⟨g1, 0, none⟩) m1 cc (some ⟨g2, 0, none⟩) j dd ⟨false, false, sh', dl⟩) := ⟨Src.some (unhide HQ2).o1.row, Src.some (unhide HQ2).o2.row, fun hh => by have := (unhide HQ2).o1.low hh; omega, fun hh => by have := (unhide HQ2).o2.low hh; omega, fun x hx => by have := (unhide HQ2).o1.low hx; omega, fun x hx => by have := (unhide HQ2).o2.low hx; omega, by have := (unhide HQ2).m1; omega, by have := (unhide HQ2).m2; omega, fun _ => ⟨_, rfl⟩⟩
                clear hg
                go_wp2_with (at_builtin; refine wpList_append_some rfl _ _ 44 rfl (w.heap.size + 1) 96 i0 _ 4 64 Try.underlying44 hi hz0 hz1 hz2 rfl (by decide) g k cap xs rfl ((unhide HG).own.alloc _) ⟨Z.heap.size, 0, none⟩ 1 1 [.bool false, .bool false, .slice (some ⟨g1, 0, none⟩) m1 cc, .slice (some ⟨g2, 0, none⟩) j dd] rfl rfl (news4 _ _ _ _ _) (one4 _ _ _ _ _ _ _ _) (by unfold maxLen; omega) (by omega) (by rw [World.size_alloc]; omega) ?_; intro g3 cap3 w3 hown3 hgrow3 hat3; have HD3 := hide ((unhide HDZ).push _ hpw (unhide HG) (unhide HIT) (by simpa using hown3) hgrow3 (by rcases hat3 with e | e; exact .inl e; exact .inr (by simpa using e))); clear hown3 hgrow3 hat3)
                go_roundw
                case rel => exact ⟨k + 1, g3, cap3, by omega, by go_num, rfl, unhide HD3⟩
                case measure => simp [intOf]; omega

end Go.Proofs.Ytngbmcljhcckmaa
