import Derived.Test.YtmgjicgojlkpcaaGreatDoorImplParseA
import Derived.Test.YtmgjicgojlkpcaaGreatDoorImplAs
import Derived.Deep.RegionLaw
namespace Go.Proofs.YtmgjicgojlkpcaaGreatDoor
open Go.RowKit

set_option maxRecDepth 20000 in
set_option maxHeartbeats 4000000 in
theorem implParse_code (b off cap : Nat) (s : ByteArray) (w : World) (h : RowB w (some ⟨b, off, none⟩) s.size (bz s)) (hs : s.size ≤ 17592186044416) (hG : GlP w) (hc : (lexT s).2.1 ≠ 0) :
    Calls Tryz.prog 20 #[.slice (some ⟨b, off, none⟩) s.size cap] w fun e w' => GivesTree w.heap.size (parseT s) e w' ∧ Below w.heap.size w w' := by
  have hbA : Below w.heap.size w (w.alloc (.cells #[.slice none 0 0] 29)) := (Below.refl _ _).alloc (Nat.le_refl _) _
  have HL := hide (implLex_any b off cap s (w.alloc (.cells #[.slice none 0 0] 29)) (h.below (Nat.le_refl _) hbA) hs (hG.gl.below hbA).2.1 (hG.gl.below hbA).2.2)
  have HBA := hide hbA
  have hr : parseT s = ([], (lexT s).2.1, (lexT s).2.2) := by unfold parseT; rw [if_pos hc]
  rw [hr]
  generalize lexT s = L at HL hc ⊢
  obtain ⟨ts, c, q⟩ := L
  have hc0 : (c == 0) = false := by simpa using hc
  clear h hs hG hbA hr hc
  go_enter Tryz.func20, Tryz.ntmps20
  go_wp2_with (go_at_call 47; refine (unhide HL).mono ?_; rintro e w2 ⟨v, rfl, _, hb2⟩; have hcell : w2.cell? ⟨w.heap.size, 0, none⟩ = some (.slice none 0 0) := (hb2.cell (p := ⟨w.heap.size, 0, none⟩) (by simp)).trans (by simp); have hfz : w2.frozen? ⟨w.heap.size, 0, none⟩ = false := (hb2.frozen (p := ⟨w.heap.size, 0, none⟩) (by simp)).trans (by simp); have hsz := hb2.size; have HB2 := hide ((unhide HBA).trans (hb2.mono (by simp))); clear hb2; dsimp only)
  refine bodyPost_ret (v := .tuple #[.agg #[.slice none 0 0], .int .i64 c, .int .i64 (q : Nat)]) (by simp [results, Tryz.results20, go_sem, hcell]) rfl ?_
  exact ⟨⟨_, [], rfl, rfl, OwnN.nil _ _⟩, (unhide HB2).setCell (Nat.le_refl _) _⟩

/-- Behind errors.As all stands but the target's own cell. -/
theorem as_but {w : World} {t : Addr} {e : Addr} {o1 o2 o3 o4 : Obj} {B : Nat} (hB : B ≤ t.block) (hw : B ≤ w.heap.size) : Below B w (((((w.alloc o1).alloc o2).alloc o3).alloc o4).setCell t (.pointer (some e))) :=
  (((((Below.refl _ _).alloc hw _).alloc (by simp; omega) _).alloc (by simp; omega) _).alloc (by simp; omega) _).setCell hB _
theorem as_cell {w : World} {t : Addr} {u old : Value} {o1 o2 o3 o4 : Obj} (ht : w.cell? t = some old) : (((((w.alloc o1).alloc o2).alloc o3).alloc o4).setCell t u).cell? t = some u := by
  have hl := World.block_lt_of_cell? _ _ ht
  exact World.cell?_setCell_same _ _ _ (by rw [World.cell?_alloc_lt _ _ t (by simp; omega), World.cell?_alloc_lt _ _ t (by simp; omega), World.cell?_alloc_lt _ _ t (by simp; omega), World.cell?_alloc_lt _ _ t hl]; exact ht)

set_option maxRecDepth 20000 in
set_option maxHeartbeats 4000000 in
theorem implParse_bad (b off cap : Nat) (s : ByteArray) (w : World) (h : RowB w (some ⟨b, off, none⟩) s.size (bz s)) (hs : s.size ≤ 17592186044416) (hG : GlP w) (hc : (lexT s).2.1 = 0) (hbad : ¬ ((lineR (lexT s).1).1 = true ∧ ¬ (lineR (lexT s).1).2.1 < (lexT s).1.length)) :
    Calls Tryz.prog 20 #[.slice (some ⟨b, off, none⟩) s.size cap] w fun e w' => GivesTree w.heap.size (parseT s) e w' ∧ Below w.heap.size w w' := by
  have hbA : Below w.heap.size w (w.alloc (.cells #[.slice none 0 0] 29)) := (Below.refl _ _).alloc (Nat.le_refl _) _
  have HL := hide (implLex_any b off cap s (w.alloc (.cells #[.slice none 0 0] 29)) (h.below (Nat.le_refl _) hbA) hs (hG.gl.below hbA).2.1 (hG.gl.below hbA).2.2)
  have HBA := hide hbA
  have hr : parseT s = ([], 1, (tokA (lexT s).1 s.size (lineR (lexT s).1).2.1).p) := by unfold parseT; rw [if_neg (by simpa using hc), if_neg hbad]
  rw [hr]
  obtain ⟨hm1, hm2⟩ := lex_made s
  have hs2 : s.size ≤ 2000 := lex_short hc
  have HG := hide hG
  generalize lexT s = L at HL hc hbad hm1 hm2 ⊢
  obtain ⟨ts, c, q⟩ := L
  have hc0 : c = 0 := hc
  subst hc0
  have HM1 := hide hm1
  have hm2' : ts.length ≤ 2000 := hm2
  have HBAD := hide hbad
  generalize hN : s.size = n at HL hs2 ⊢
  obtain ⟨Q, hQ⟩ : ∃ Q, (tokA ts n (lineR ts).2.1).p = Q := ⟨_, rfl⟩
  rw [show ((([] : List NodeD), (1 : Int), (tokA ts n (lineR ts).2.1).p) : List NodeD × Int × Nat) = ([], 1, Q) by rw [hQ]]
  have HQ := hide hQ
  clear h hs hG hbA hr hc hm1 hm2 hbad hN hQ
  go_enter Tryz.func20, Tryz.ntmps20
  go_wp2_with (
     (go_at_call 47; refine (unhide HL).mono ?_; rintro e w2 ⟨v, rfl, hO, hb2⟩; have hO' : w2.ownsRow (w.alloc (.cells #[.slice none 0 0] 29)).heap.size 64 4 v ts.length (ts.flatMap tokCells) := hO; obtain ⟨ta, tc, rfl, hT⟩ := ownT_of hO'; have hcell : w2.cell? ⟨w.heap.size, 0, none⟩ = some (.slice none 0 0) := (hb2.cell (p := ⟨w.heap.size, 0, none⟩) (by simp)).trans (by simp); have hfz : w2.frozen? ⟨w.heap.size, 0, none⟩ = false := (hb2.frozen (p := ⟨w.heap.size, 0, none⟩) (by simp)).trans (by simp); have hsz : w.heap.size < w2.heap.size := (by have := hb2.size; simp at this; omega); have hB2 := (unhide HBA).trans (hb2.mono (by simp)); have HE : Hid (IEnv w2 ta ts.length ts n) := ⟨hT.row, fun y hy => ((unhide HM1) y hy).1.1, by omega, by omega, ((unhide HG).below hB2).gl, ((unhide HG).below hB2).err⟩; have HB2 := hide hB2; clear hb2 hO hO' hT hB2; dsimp only)
  )
  refine (lineP_bad (unhide HE) hm2' ips_new (unhide HBAD)).mono ?_
  rintro e w3 ⟨fb, rfl, hf, hb3⟩
  obtain ⟨ev, hf'⟩ := hf
  rw [unhide HQ] at hf'
  have hfl := lt_of_block hf'
  have hz3 := hb3.size
  have c3 : w3.cell? ⟨w.heap.size, 0, none⟩ = some (.slice none 0 0) := (hb3.cell (p := ⟨w.heap.size, 0, none⟩) hsz).trans hcell
  have f3 : w3.frozen? ⟨w.heap.size, 0, none⟩ = false := (hb3.frozen (p := ⟨w.heap.size, 0, none⟩) hsz).trans hfz
  have hB3 := (unhide HB2).trans (hb3.mono (Nat.le_of_lt hsz))
  have hh := ((unhide HG).below hB3).han
  have HAS := hide (as_hit ⟨fb, 0, none⟩ ⟨w3.heap.size, 0, none⟩ (.pointer none) (w3.alloc (.cells #[.pointer none] 90)) (by rw [World.cell?_alloc_lt _ _ ⟨0, 0, none⟩ (World.block_lt_of_cell? _ _ hh)]; exact hh) (by simp) (by simp))
  have hcf : w3.cell? ⟨fb, 0, none⟩ = some (.int .i64 (Q : Nat)) := by simp [World.cell?, hf']
  have hne1 : ¬ fb = w.heap.size := fun e => by
    rw [e, c3] at hcf
    cases hcf
  have hne2 : ¬ w3.heap.size = w.heap.size := by omega
  have HB3 := hide hB3
  delta faultV
  clear hf' hb3 hh hB3 hcell hfz HL HBA HE HB2 HBAD HQ HM1
  go_wp2_with (go_at_call 49; refine (unhide HAS).mono ?_; clear HAS; rintro e w4 ⟨rfl, hw4⟩; have hb4 : Below w3.heap.size w3 w4 := (by rw [hw4]; exact ((Below.refl _ _).alloc (Nat.le_refl _) _).trans (as_but (Nat.le_refl _) (by simp))); have ct : w4.cell? ⟨w3.heap.size, 0, none⟩ = some (.pointer (some ⟨fb, 0, none⟩)) := (by rw [hw4]; exact as_cell (old := .pointer none) (by simp)); have cq : w4.cell? ⟨fb, 0, none⟩ = some (.int .i64 (Q : Nat)) := (hb4.cell (p := ⟨fb, 0, none⟩) hfl).trans hcf; have c4 : w4.cell? ⟨w.heap.size, 0, none⟩ = some (.slice none 0 0) := (hb4.cell (p := ⟨w.heap.size, 0, none⟩) (by show w.heap.size < _; omega)).trans c3; have f4 : w4.frozen? ⟨w.heap.size, 0, none⟩ = false := (hb4.frozen (p := ⟨w.heap.size, 0, none⟩) (by show w.heap.size < _; omega)).trans f3; have HB4 := hide ((unhide HB3).trans (hb4.mono (by omega))); clear hb4 hw4)
  go_region
  all_goals go_wp2_with fail
  all_goals (refine bodyPost_ret (v := .tuple #[.agg #[.slice none 0 0], .int .i64 1, .int .i64 (Q : Nat)]) (by simp [results, Tryz.results20, go_sem, c4]) rfl ?_; exact ⟨⟨_, [], rfl, rfl, OwnN.nil _ _⟩, (by first | exact ((unhide HB4).setCell (Nat.le_refl _) _).drew | exact ((unhide HB4).drew).setCell (Nat.le_refl _) _)⟩)

set_option maxRecDepth 20000 in
set_option maxHeartbeats 4000000 in
theorem implParse_ok (b off cap : Nat) (s : ByteArray) (w : World) (h : RowB w (some ⟨b, off, none⟩) s.size (bz s)) (hs : s.size ≤ 17592186044416) (hG : GlP w) (hc : (lexT s).2.1 = 0) {q0 : Nat} {l : List (List NodeD)} (hl : lineR (lexT s).1 = (true, q0, l)) (hq : ¬ q0 < (lexT s).1.length) :
    Calls Tryz.prog 20 #[.slice (some ⟨b, off, none⟩) s.size cap] w fun e w' => GivesTree w.heap.size (parseT s) e w' ∧ Below w.heap.size w w' := by
  have hbA : Below w.heap.size w (w.alloc (.cells #[.slice none 0 0] 29)) := (Below.refl _ _).alloc (Nat.le_refl _) _
  have HL := hide (implLex_any b off cap s (w.alloc (.cells #[.slice none 0 0] 29)) (h.below (Nat.le_refl _) hbA) hs (hG.gl.below hbA).2.1 (hG.gl.below hbA).2.2)
  have HBA := hide hbA
  obtain ⟨S, hS⟩ : ∃ S, treeB txtB (lineN l) = S := ⟨_, rfl⟩
  have hr : parseT s = if S = true then (lineN l, 0, 0) else ([], 7, 0) := by unfold parseT; rw [if_neg (by simpa using hc), hl, if_pos ⟨rfl, hq⟩, hS]
  rw [hr]
  obtain ⟨hm1, hm2⟩ := lex_made s
  have hs2 : s.size ≤ 2000 := lex_short hc
  have HG := hide hG
  generalize lexT s = L at HL hc hl hq hm1 hm2 ⊢
  obtain ⟨ts, c, q⟩ := L
  have hc0 : c = 0 := hc
  subst hc0
  have hm2' : ts.length ≤ 2000 := hm2
  obtain ⟨k1, k2, k3, _⟩ := line_knows hm2' (fun y hy => (hm1 y hy).2.1) hl
  obtain ⟨k4, k5⟩ := line_small k1 k2 k3
  have HSD := hide (line_smallD k1 k2 k3)
  have HK5 := hide k5
  have HM1 := hide hm1
  have HLN := hide hl
  have HQ : Hid (¬ q0 < ts.length) := hq
  have HSS := hide hS
  generalize hN : s.size = n at HL hs2 ⊢
  clear h hs hG hbA hr hc hm1 hm2 hl hq hN k1 k2 k3 k5 hS
  go_enter Tryz.func20, Tryz.ntmps20
  go_wp2_with (
     (go_at_call 47; refine (unhide HL).mono ?_; rintro e w2 ⟨v, rfl, hO, hb2⟩; have hO' : w2.ownsRow (w.alloc (.cells #[.slice none 0 0] 29)).heap.size 64 4 v ts.length (ts.flatMap tokCells) := hO; obtain ⟨ta, tc, rfl, hT⟩ := ownT_of hO'; have hcell : w2.cell? ⟨w.heap.size, 0, none⟩ = some (.slice none 0 0) := (hb2.cell (p := ⟨w.heap.size, 0, none⟩) (by simp)).trans (by simp); have hfz : w2.frozen? ⟨w.heap.size, 0, none⟩ = false := (hb2.frozen (p := ⟨w.heap.size, 0, none⟩) (by simp)).trans (by simp); have hsz : w.heap.size < w2.heap.size := (by have := hb2.size; simp at this; omega); have hB2 := (unhide HBA).trans (hb2.mono (by simp)); have HE : Hid (IEnv w2 ta ts.length ts n) := ⟨hT.row, fun y hy => ((unhide HM1) y hy).1.1, by omega, by omega, ((unhide HG).below hB2).gl, ((unhide HG).below hB2).err⟩; have HB2 := hide hB2; clear hb2 hO hO' hT hB2; dsimp only)
  )
  refine (lineP_ok (unhide HE) hm2' (fun y hy => ((unhide HM1) y hy).2.1) ips_new (unhide HLN) (unhide HQ)).mono ?_
  rintro e w3 ⟨rfl, nd, hk⟩
  obtain ⟨xs, hP, hxl, hxd⟩ := hk.ps
  have hxd' : xs.map NodeC.d = lineN l := by
    rw [hxd]
    show [] ++ shiftN 0 (rowT [lineN l]) = _
    rw [shift_zero, rowT_one]
    rfl
  have hxn : xs.length = (lineN l).length := by rw [← hxd', List.length_map]
  have hb3 := hP.low
  have hsm : SmallC xs := smallC_of hxd' fun x hx => by obtain ⟨_, a, b⟩ := unhide HK5 x hx; exact ⟨by omega, by omega⟩
  obtain ⟨a3, d3, rfl, hC⟩ := own_nrow hP.own hP.lists hsm (by omega)
  rw [hxd'] at hC
  have HON : Hid (OwnN w3 w2.heap.size (.slice a3 xs.length d3) xs) := ⟨hP.own, hP.lists, hP.apart⟩
  have hz3 := hb3.size
  have c3 : w3.cell? ⟨w.heap.size, 0, none⟩ = some (.slice none 0 0) := (hb3.cell (p := ⟨w.heap.size, 0, none⟩) hsz).trans hcell
  have f3 : w3.frozen? ⟨w.heap.size, 0, none⟩ = false := (hb3.frozen (p := ⟨w.heap.size, 0, none⟩) hsz).trans hfz
  have p3 : w3.cell? ⟨w2.heap.size, 3, none⟩ = some (.slice a3 xs.length d3) := hP.all.2.2.2.1
  have pl3 : w2.heap.size < w3.heap.size := hP.all.2.2.2.2.2.2.2.2
  have hB3 := (unhide HB2).trans (hb3.mono (Nat.le_of_lt hsz))
  have hbA : Below w3.heap.size w3 (w3.alloc (.cells #[.pointer none] 90)) := (Below.refl _ _).alloc (Nat.le_refl _) _
  have HTO := hide (implTree_any a3 xs.length d3 (lineN l) (w3.alloc (.cells #[.pointer none] 90)) (hC.below (Nat.le_refl _) hbA) (by rw [hxn]; exact unhide HSD) (((unhide HG).below hB3).below hbA).gl)
  rw [unhide HSS] at HTO
  obtain ⟨X, hX⟩ : ∃ X, xs.length = X := ⟨_, rfl⟩
  rw [hX] at HTO HON p3
  have HXD := hide hxd'
  have HB3 := hide (hB3.trans (hbA.mono hB3.size))
  have HBA3 := hide hbA
  clear hk hP hxl hxd hxd' hxn hsm hC hb3 hbA hB3 hcell hfz HL HBA HE HB2 HLN HQ HM1 hX
  go_wp2_with (first
    | (go_at_call 49; refine (as_nil _ _).mono ?_; rintro e w4 ⟨rfl, rfl⟩)
    | (go_at_call 10; refine (unhide HTO).mono ?_; rintro e w5 ⟨rfl, hb5⟩; have HB5 := hide ((unhide HB3).trans (hb5.mono (unhide HB3).size)); have hb35 := (unhide HBA3).trans (hb5.mono (unhide HBA3).size); have p5 := (hb35.cell (p := ⟨w2.heap.size, 3, none⟩) pl3).trans p3; have c5 := (hb35.cell (p := ⟨w.heap.size, 0, none⟩) (by show w.heap.size < _; omega)).trans c3; have f5 := (hb35.frozen (p := ⟨w.heap.size, 0, none⟩) (by show w.heap.size < _; omega)).trans f3; have HON5 := hide ((unhide HON).below hb35); clear hb5 hb35 HTO HON p3 c3 f3; cases S))
  · refine bodyPost_ret (v := .tuple #[.agg #[.slice none 0 0], .int .i64 7, .int .i64 0]) (by simp [results, Tryz.results20, go_sem, c5]) rfl ?_
    exact ⟨⟨_, [], rfl, rfl, OwnN.nil _ _⟩, (unhide HB5).setCell (Nat.le_refl _) _⟩
  · refine bodyPost_ret (v := .tuple #[.agg #[.slice a3 X d3], .int .i64 0, .int .i64 0]) (by simp [results, Tryz.results20, go_sem, c5]) rfl ?_
    exact ⟨⟨_, xs, rfl, unhide HXD, (unhide HON5).set hsz (Nat.le_of_lt hsz)⟩, (unhide HB5).setCell (Nat.le_refl _) _⟩

/-- The developers' Parse. -/
theorem implParse_any (b off cap : Nat) (s : ByteArray) (w : World) (h : RowB w (some ⟨b, off, none⟩) s.size (bz s)) (hs : s.size ≤ 17592186044416) (hG : GlP w) :
    Calls Tryz.prog 20 #[.slice (some ⟨b, off, none⟩) s.size cap] w fun e w' => GivesTree w.heap.size (parseT s) e w' ∧ Below w.heap.size w w' := by
  by_cases hc : (lexT s).2.1 = 0
  · by_cases hb : (lineR (lexT s).1).1 = true ∧ ¬ (lineR (lexT s).1).2.1 < (lexT s).1.length
    · exact implParse_ok b off cap s w h hs hG hc (q0 := (lineR (lexT s).1).2.1) (l := (lineR (lexT s).1).2.2) (by rw [← hb.1]) hb.2
    · exact implParse_bad b off cap s w h hs hG hc hb
  · exact implParse_code b off cap s w h hs hG hc

end Go.Proofs.YtmgjicgojlkpcaaGreatDoor
