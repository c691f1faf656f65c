import Derived.Test.YtkgcmpmgaghdhaaGreatDoorImplRepC
import Derived.Test.YtkgcmpmgaghdhaaGreatDoorImplOnAxis
import Derived.Test.YtkgcmpmgaghdhaaGreatDoorImplList5
import Derived.Test.YtkgcmpmgaghdhaaGreatDoorImplBelow0
import Derived.Test.YtkgcmpmgaghdhaaGreatDoorMFit1
import Derived.Test.YtkgcmpmgaghdhaaGreatDoorMFit1
import Derived.Test.YtkgcmpmgaghdhaaGreatDoorRepFin
import Derived.Test.YtkgcmpmgaghdhaaGreatDoorMFit0
namespace Go.Proofs.YtkgcmpmgaghdhaaGreatDoor
open Go.RowKit Go.Shelf

/-- Block p holds one slice. -/
def OneS (w : World) (p : Nat) (v : Value) : Prop := w.heap[p]? = some (.cells #[v] 23 (0, 0))
theorem OneS.lt {w : World} {p : Nat} {v : Value} (h : OneS w p v) : p < w.heap.size := lt_of_block h
theorem OneS.new (w : World) (v : Value) : OneS (w.alloc (.cells #[v] 23)) w.heap.size v := World.alloc_heap_new w _
theorem OneS.below {w w' : World} {p B : Nat} {v : Value} (h : OneS w p v) (hB : w.heap.size ≤ B) (hb : Below B w w') : OneS w' p v := (hb.block p (Nat.lt_of_lt_of_le h.lt hB)).trans h
theorem OneS.drew {w : World} {p : Nat} {v : Value} (h : OneS w p v) : OneS w.drew p v := h
theorem OneS.cell {w : World} {p : Nat} {v : Value} (h : OneS w p v) : w.cell? ⟨p, 0, none⟩ = some v := by
  unfold OneS at h
  simp [World.cell?, h]
theorem OneS.free {w : World} {p : Nat} {v : Value} (h : OneS w p v) : w.frozen? ⟨p, 0, none⟩ = false := frozen_of_row w p 0 _ _ h
theorem OneS.set {w : World} {p : Nat} {v : Value} (h : OneS w p v) (u : Value) : (w.setCell ⟨p, 0, none⟩ u).cell? ⟨p, 0, none⟩ = some u := by
  have hc := h.cell
  exact World.cell?_setCell_same _ _ _ (by rw [hc])

/-- The list of numbers lies in a cell of its own. -/
def TakenAt (w W : World) (xs : List Int) (r : Value) (wx : World) : Prop :=
  ∃ pt a' N cap', r = .pointer (some ⟨pt, 0, none⟩) ∧ wx.cell? ⟨pt, 0, none⟩ = some (.slice a' N cap') ∧ Own wx w.heap.size a' N xs ∧ Below W.heap.size W wx

theorem taken_of {w W wB : World} {xs : List Int} {pt N cap' : Nat} {a' : Option Addr} {v : Value} (hP : OneS wB pt v) (hO : Own wB w.heap.size a' N xs) (hne : ∀ x, At a' N x → x ≠ pt) (hB : Below W.heap.size W wB) (hp : W.heap.size ≤ pt) :
    TakenAt w W xs (.pointer (some ⟨pt, 0, none⟩)) (wB.setCell ⟨pt, 0, none⟩ (.slice a' N cap')) :=
  ⟨pt, a', N, cap', rfl, hP.set _, hO.other (q := ⟨pt, 0, none⟩) hne _, hB.setCell (p := ⟨pt, 0, none⟩) hp _⟩

theorem two_cells (w : World) (u v : Value) : ((w.alloc (.cells #[u] 3)).alloc (.cells #[v] 58)).cell? ⟨w.heap.size, 0, none⟩ = some u ∧ ((w.alloc (.cells #[u] 3)).alloc (.cells #[v] 58)).cell? ⟨w.heap.size + 1, 0, none⟩ = some v := by
  have h1 : (w.alloc (.cells #[u] 3)).heap[w.heap.size]? = some (.cells #[u] 3 (0, 0)) := World.alloc_heap_new w _
  have h2 := World.alloc_heap_new (w.alloc (.cells #[u] 3)) (.cells #[v] 58)
  rw [World.size_alloc] at h2
  have h3 := Below.heap_alloc (w.alloc (.cells #[u] 3)) (.cells #[v] 58) w.heap.size (by simp)
  rw [h1] at h3
  exact ⟨by simp [World.cell?, h3], by simp only [World.cell?]; rw [h2]; rfl⟩

theorem rep_codeList {c d : Bool} {sh dt sh' dt' : List Int} {fl : Bool} {r : Int} (h : codeList c d sh dt sh' dt' = r) (hr : r ≠ 0) : replicateA c d sh dt sh' dt' fl = noAns r := by
  unfold codeList at h
  split at h
  · rename_i hh; exact rep_list hh.1 hh.2 r h hr
  · rename_i hh
    subst h
    unfold replicateA
    rw [if_neg hh]

theorem eg_rep : ∀ args w, (callFunc 71 args).run Tryz.prog w = .ok (.enter 71 args) w := enters_of Tryz.func71 (by kernel_rfl) rfl

set_option maxHeartbeats 1000000 in
theorem repMoved (pt : Nat) (ta : Option Addr) (N cap : Nat) (I : List Nat) (v : Int) (W : World) (hc : W.cell? ⟨pt, 0, none⟩ = some (.slice ta N cap)) (hr : Row W ta N (I.map fun (n : Nat) => (n : Int) + 1)) (hv : 0 ≤ v ∧ v < N) (hI : ∀ j, j < I.length → I.getD j 0 ≤ 10000) :
    Calls Tryz.prog 71 #[.int .i64 v, .pointer (some ⟨pt, 0, none⟩)] W fun e w' => e = .returned (.int .i64 ((I.getD v.toNat 0 : Nat) : Int)) ∧ ∃ q, w' = W.drewN q := by
  obtain ⟨j, rfl⟩ : ∃ j : Nat, v = j := ⟨v.toNat, by omega⟩
  have hjN : j < N := by omega
  have hlen := hr.len
  rw [List.length_map] at hlen
  obtain ⟨b, off, rfl, _, hcx⟩ := hr.get hjN
  have hx := getD_nat_map I j (by omega)
  have hb := hI j (by omega)
  obtain ⟨x, hxx⟩ : ∃ x, (I.map fun (n : Nat) => (n : Int) + 1).getD j 0 = x := ⟨_, rfl⟩
  rw [hxx] at hcx hx
  have h1 : IntKind.i64.wrap (x - 1) = x - 1 := by rw [IntKind.wrap_i64]; omega
  have HX := hide hx
  have hjz : (j : Int) < (N : Int) := by omega
  clear hr hI hlen hx hxx hv hb
  rw [Int.toNat_natCast]
  go_enter Tryz.func71, Tryz.ntmps71
  go_wp2_with fail
  go_ret
  exact ⟨ret_int (unhide HX), 0, rfl⟩

set_option maxRecDepth 20000 in
set_option maxHeartbeats 8000000 in
theorem implReplicate_any (c d : Bool) (a1 a2 b1 b2 : Option Addr) (n1 n2 m1 m2 c1 c2 d1 d2 : Nat) (sh dt sh' dt' : List Int) (fl : Bool) (w : World) (h1 : Row w a1 n1 sh) (h2 : Row w a2 n2 dt) (k1 : Row w b1 m1 sh') (k2 : Row w b2 m2 dt') :
    Calls Tryz.prog 16 #[.agg #[.bool c, .slice a1 n1 c1, .slice a2 n2 c2], .agg #[.bool d, .slice b1 m1 d1, .slice b2 m2 d2], .bool fl] w (GivesOwn w (replicateA c d sh dt sh' dt' fl)) := by
  have hl1 := hide h1.len
  have hl2 := hide h2.len
  have hl3 := hide k1.len
  have hl4 := hide k2.len
  have hs1 := h1.small
  have hs2 := h2.small
  have hs4 := k2.small
  have H1 := hide h1
  have H2 := hide h2
  have K1 := hide k1
  have K2 := hide k2
  clear h1 h2 k1 k2
  obtain ⟨r, hr⟩ : ∃ r, codeList c d sh dt sh' dt' = r := ⟨_, rfl⟩
  have HRC := hide hr
  clear hr
  go_enter Tryz.func16, Tryz.ntmps16
  go_upto_if 20 with (go_at_call 59; refine (implListCode_any c d a1 a2 b1 b2 n1 n2 m1 m2 c1 c2 d1 d2 sh dt sh' dt' _ ((((unhide H1).alloc _).alloc _).alloc _) ((((unhide H2).alloc _).alloc _).alloc _) ((((unhide K1).alloc _).alloc _).alloc _) ((((unhide K2).alloc _).alloc _).alloc _) _ HRC).mono ?_; rintro e w1 ⟨rfl, hb1⟩; obtain ⟨B0, B1, B2, hB1⟩ := boxes3 hb1; have D4 := hide B0; have D5 := hide B1; have D6 := hide B2; have hB3 := hide hB1; clear hb1 hB1 B0 B1 B2)
  by_cases hcode : r = 0
  · subst hcode
    have HOK : Hid ((arrOk c sh dt = true ∧ arrOk d sh' dt' = true) ∧ listCode c sh.length = 0) := by
      have h := unhide HRC
      unfold codeList at h
      split at h
      · rename_i hh; exact ⟨hh, h⟩
      · omega
    have HR1 : Hid (arrOk c sh dt = true) := (unhide HOK).1.1
    have HR2 : Hid (arrOk d sh' dt' = true) := (unhide HOK).1.2
    have HL0 : Hid (listCode c sh.length = 0) := (unhide HOK).2
    have hn1 : n1 ≤ 1 := by
      have h := unhide HL0
      rw [unhide hl1] at h
      unfold listCode at h
      split at h
      · omega
      · omega
    clear HOK HRC
    obtain ⟨zs, hzs⟩ : ∃ zs, zs = repSh sh' := ⟨_, rfl⟩
    have HOKZ : Hid (arrOk d zs dt' = true) := by rw [hzs]; exact rep_ok (unhide HR2)
    have HZN : Hid (zs ≠ []) := by rw [hzs]; exact repSh_ne sh'
    have HZE : Hid (zs = repSh sh') := hzs
    have HZ0 : Hid (m1 = 0 → zs = [(m2 : Int)]) := fun h => by
      have e : sh' = [] := List.length_eq_zero_iff.mp (by rw [unhide hl3]; exact h)
      have hp := (shapeIn_of (unhide HR2)).2.1
      rw [unhide hl4, e] at hp
      simp [prodAll] at hp
      rw [hzs, e, ← hp]; rfl
    have HZ1 : Hid (m1 ≠ 0 → zs = sh') := fun h => by
      have : sh' ≠ [] := fun e => h (by rw [← unhide hl3, e]; rfl)
      rw [hzs]; unfold repSh; rw [if_neg this]
    have hm15 : m1 ≤ 5 := by have := (shapeIn_of (unhide HR2)).2.2; rw [unhide hl3] at this; exact this
    clear hzs
    obtain ⟨y0, y1, y2, y3, y4, y5, y6⟩ := (unhide D5).all
    have hz6 := (unhide D6).lt
    go_upto_if 26 with fail
    go_cut [] (fun wx => ∃ (s1 : Addr) (M e1 : Nat), 0 < M ∧ M ≤ 5 ∧ Row wx (some s1) M zs ∧ Box wx w.heap.size c (.slice a1 n1 c1) (.slice a2 n2 c2) ∧ Box wx (w.heap.size + 1) d (.slice (some s1) M e1) (.slice b2 m2 d2) ∧ Box wx (w.heap.size + 2) false (.slice none 0 0) (.slice none 0 0) ∧ Below w.heap.size w wx)
    case first => as_aux_lemma =>
      by_cases hm0 : m1 = 0
      · have g0 : ((m1 : Int) == 0) = true := by simp [hm0]
        have HZ := hide (unhide HZ0 hm0)
        clear hm0
        go_wp2_with (go_at_call 60; refine (lineOf_any d _ b2 m2 d2 _).mono ?_; rintro e w4 ⟨s, rfl, hs, hBk, hb4⟩; have HBK := hide hBk; have HS := hide hs; have HB4 := hide hb4; clear hBk hs hb4 y0 y1 y2 y3 y4 y5 y6; obtain ⟨y0, y1, y2, y3, y4, y5, y6⟩ := ((unhide D5).below (Nat.le_refl _) (unhide HB4)).all)
        go_meet
        case rel =>
          have E4 := (unhide D4).below (Nat.le_refl _) (unhide HB4)
          have E5 := (unhide D5).below (Nat.le_refl _) (unhide HB4)
          have E6 := (unhide D6).below (Nat.le_refl _) (unhide HB4)
          have hz3 := (unhide hB3).size
          have hR : Row w4 (some ⟨s, 0, none⟩) 1 zs := by rw [unhide HZ]; exact (unhide HBK).row rfl (by omega)
          refine ⟨⟨s, 0, none⟩, 1, 1, by omega, by omega, ?_, ?_, E5.sets, ?_, ?_⟩
          · exact hR.sets E5 _ _ _
          · exact ((E4.other (q := ⟨w.heap.size + 1, 0, none⟩) (by simp) _).other (q := ⟨w.heap.size + 1, 1, none⟩) (by simp) _).other (q := ⟨w.heap.size + 1, 2, none⟩) (by simp) _
          · exact ((E6.other (q := ⟨w.heap.size + 1, 0, none⟩) (by simp) _).other (q := ⟨w.heap.size + 1, 1, none⟩) (by simp) _).other (q := ⟨w.heap.size + 1, 2, none⟩) (by simp) _
          · exact ((((unhide hB3).trans ((unhide HB4).mono hz3)).setCell (by simp) _).setCell (by simp) _).setCell (by simp) _
      · have g0 : ((m1 : Int) == 0) = false := by simp; omega
        have HZ := hide (unhide HZ1 hm0)
        have hmp : 0 < m1 := by omega
        clear hm0
        go_wp2_with fail
        go_meet
        case rel =>
          obtain ⟨bq, oq, ebq, _⟩ := (unhide K1).get hmp
          subst ebq
          exact ⟨⟨bq, oq, none⟩, m1, d1, hmp, by omega, by rw [unhide HZ]; exact (unhide K1).below (Nat.le_refl _) (unhide hB3), unhide D4, unhide D5, unhide D6, unhide hB3⟩
    case rest =>
      obtain ⟨w2, hw2⟩ : ∃ x, x = wc := ⟨_, rfl⟩
      subst hw2
      obtain ⟨s1, M, e1, hM0, hM5, hrow, f4, f5, f6, hbl⟩ := hcut
      have hZL : zs.length = M := hrow.len
      have HRW := hide hrow
      have E4 := hide f4
      have E5 := hide f5
      have E6 := hide f6
      have hB4 := hide hbl
      clear hrow f4 f5 f6 hbl D4 D5 D6 hB3 y0 y1 y2 y3 y4 y5 y6 hz6 HZ0 HZ1 hm15
      obtain ⟨B, L, A, hax, hprod, hBb, hLb, hAb⟩ := axis_is fl (unhide HOKZ) (unhide HZN)
      obtain ⟨m, hm⟩ : ∃ m, m = repM dt sh' fl := ⟨_, rfl⟩
      obtain ⟨hrN, hrM⟩ := repM_is dt sh' fl (L := L) (K := n2) (by rw [← unhide HZE]; exact hax.l) (unhide hl2)
      have hME : m = if L = 1 then n2 else L := by rw [hm]; exact hrM
      obtain ⟨ax, haxx⟩ : ∃ ax, (if fl then 0 else M - 1) = ax := ⟨_, rfl⟩
      have HAXI := hide haxx
      have haxl : ax < M := by rw [← haxx]; split <;> omega
      have haxr : repAx zs fl = ax := by unfold repAx; rw [hZL, haxx]
      have haxe : axisAt zs fl = ax := by unfold axisAt; rw [hZL, haxx]
      have hcL : zs.getD ax 0 = (L : Int) := by rw [← haxe]; exact hax.l
      have HRN := hide hrN
      have HMM := hide hm
      have HAX := hide hax
      have HPR := hide hprod
      have HAR := hide haxr
      have hm1 : m ≤ 10000 := by
        have h5 := (shapeIn_of (unhide HR1)).1.bd
        rw [(shapeIn_of (unhide HR1)).2.1, unhide hl2] at h5
        rw [hME]; split <;> omega
      have HME := hide hME
      have HZL := hide hZL
      clear hax hprod hm hrM hrN haxx haxr haxe hME hZL
      obtain ⟨y0, y1, y2, y3, y4, y5, y6⟩ := (unhide E5).all
      obtain ⟨bs, os, hbs, hbsl, hcs⟩ := (unhide HRW).get haxl
      cases hbs
      rw [hcL] at hcs
      have haxz : (ax : Int) < (M : Int) := by omega
      go_upto_region 7 with (go_at_call 61; refine (axisAt_any _ M e1 fl _ hM0 (by omega) ax HAXI).mono ?_; rintro e w' ⟨rfl, hw⟩; obtain rfl := hw.symm)
      go_upto_region 8 with (go_at_call 62; refine (numbersUpTo_any L hLb _).mono ?_; rintro e w3 ⟨sN, gN, rfl, hsN, hgN, hne, hbs, hbg, hb3⟩; have HSN := hide hsN; have HGN := hide hgN; have HBS := hide hbs; have HBG := hide hbg; have HB3 := hide hb3; clear hsN hgN hne hbs hbg hb3)
      obtain ⟨p10, hp10⟩ : ∃ p, p = w3.heap.size := ⟨_, rfl⟩
      obtain ⟨W5, hW5⟩ : ∃ W, W = w3.alloc (.cells #[.bool false, .slice (some ⟨sN, 0, none⟩) 1 1, .slice (some ⟨gN, 0, none⟩) L L] 25) := ⟨_, rfl⟩
      have F4 : Hid (Box W5 w.heap.size c (.slice a1 n1 c1) (.slice a2 n2 c2)) := by rw [hW5]; exact ((unhide E4).below (Nat.le_refl _) (unhide HB3)).alloc _
      have F5 : Hid (Box W5 (w.heap.size + 1) d (.slice (some ⟨bs, os, none⟩) M e1) (.slice b2 m2 d2)) := by rw [hW5]; exact ((unhide E5).below (Nat.le_refl _) (unhide HB3)).alloc _
      have F6 : Hid (Box W5 (w.heap.size + 2) false (.slice none 0 0) (.slice none 0 0)) := by rw [hW5]; exact ((unhide E6).below (Nat.le_refl _) (unhide HB3)).alloc _
      have FN : Hid (Box W5 p10 false (.slice (some ⟨sN, 0, none⟩) 1 1) (.slice (some ⟨gN, 0, none⟩) L L)) := by rw [hW5, hp10]; exact Box.new w3 _ _ _
      have HSL : Hid (Row W5 (some ⟨sN, 0, none⟩) 1 [(L : Int)]) := by rw [hW5]; exact ((unhide HBS).alloc _).row rfl (by omega)
      have HGL : Hid (Row W5 (some ⟨gN, 0, none⟩) L (upTo L)) := by rw [hW5]; exact ((unhide HBG).alloc _).row (upTo_len L) (by omega)
      have HRS : Hid (Row W5 (some ⟨bs, os, none⟩) M zs) := by rw [hW5]; exact ((unhide HRW).below (Nat.le_refl _) (unhide HB3)).alloc _
      have HB5 : Hid (Below w.heap.size w W5) := by rw [hW5]; exact ((unhide hB4).trans ((unhide HB3).mono (unhide hB4).size)).alloc (by have := (unhide hB4).size; have := (unhide HB3).size; omega) _
      have hp2 : w.heap.size + 2 < p10 := by rw [hp10]; exact ((unhide E6).below (Nat.le_refl _) (unhide HB3)).lt
      rw [← hW5, ← hp10]
      clear hW5 hp10 E4 E5 E6 HRW hB4 HB3 HBS HBG HSN HGN y0 y1 y2 y3 y4 y5 y6 hcs hbsl
      have H1J := hide ((unhide H1).below (Nat.le_refl _) (unhide HB5))
      have H2J := hide ((unhide H2).below (Nat.le_refl _) (unhide HB5))
      have K2J := hide ((unhide K2).below (Nat.le_refl _) (unhide HB5))
      obtain ⟨cd, hcd⟩ : ∃ cd : Int, (if L ≠ 1 ∧ n2 ≠ 1 ∧ n2 ≠ L then 5 else 0) = cd := ⟨_, rfl⟩
      have HCD := hide hcd
      clear hcd
      obtain ⟨x0, x1, x2, x3, x4, x5, x6⟩ := (unhide F4).all
      obtain ⟨v0, v1, v2, v3, v4, v5, v6⟩ := (unhide FN).all
      go_upto_if 46 with (go_at_call 63; refine (jointCount_any c a1 a2 (some ⟨sN, 0, none⟩) (some ⟨gN, 0, none⟩) n1 n2 c1 c2 L 1 L sh dt _ (unhide H1J) (unhide HSL) (unhide HR1) (unhide hl2) hn1 hLb cd HCD).mono ?_; rintro e w6 ⟨cnt, rfl, hcnt, hb6⟩; have HCN := hide hcnt; have HB6' := hide hb6; clear hcnt hb6)
      clear x0 x1 x2 x3 x4 x5 x6 v0 v1 v2 v3 v4 v5 v6
      have J4 := hide ((unhide F4).below (Nat.le_refl _) (unhide HB6'))
      have J5 := hide ((unhide F5).below (Nat.le_refl _) (unhide HB6'))
      have J6 := hide ((unhide F6).below (Nat.le_refl _) (unhide HB6'))
      have JN := hide ((unhide FN).below (Nat.le_refl _) (unhide HB6'))
      have HG6 := hide ((unhide HGL).below (Nat.le_refl _) (unhide HB6'))
      have HR6 := hide ((unhide HRS).below (Nat.le_refl _) (unhide HB6'))
      have HB6 := hide ((unhide HB5).trans ((unhide HB6').mono (unhide HB5).size))
      have H2K := hide ((unhide H2J).below (Nat.le_refl _) (unhide HB6'))
      have K2K := hide ((unhide K2J).below (Nat.le_refl _) (unhide HB6'))
      clear F4 F5 F6 FN HSL HGL HRS HB5 HB6' H1J H2J K2J
      by_cases herr : L ≠ 1 ∧ n2 ≠ 1 ∧ n2 ≠ L
      · have HS : Hid (replicateA c d sh dt sh' dt' fl = noAns 5) := rep_len (unhide HR1) (unhide HR2) (unhide HL0) (by rw [unhide HRN, unhide hl2]; exact herr)
        obtain rfl : cd = 5 := by have := unhide HCD; rw [if_pos herr] at this; exact this.symm
        clear herr HCN
        obtain ⟨q0, q1, q2, q3, q4, q5, q6⟩ := (unhide J6).all
        go_wp2_with fail
        refine bodyPost_ret (v := .tuple #[.agg #[.bool false, .slice none 0 0, .slice none 0 0], .int .i64 5]) (by simp [results, Tryz.results16, go_sem, q0, q1, q2]) rfl ?_
        rw [unhide HS]
        exact gives_none ((((unhide HB6).setCell (by simp <;> omega) _).setCell (by simp <;> omega) _).setCell (by simp <;> omega) _)
      · have HNE : Hid (¬ (repN sh' fl ≠ 1 ∧ dt.length ≠ 1 ∧ dt.length ≠ repN sh' fl)) := by rw [unhide HRN, unhide hl2]; exact herr
        obtain rfl : cd = 0 := by have := unhide HCD; rw [if_neg herr] at this; exact this.symm
        have hcm : cnt = m := by rw [unhide HCN rfl, unhide HME]; rfl
        subst cnt
        have hmL : 0 < m → 0 < L := by
          intro h
          have := unhide HME
          by_cases h1 : L = 1
          · omega
          · rw [if_neg h1] at this; omega
        have HKM : Hid (∀ k, k < m → k * (if n2 = 1 then 0 else 1) < n2 ∧ k * (if n2 = 1 then 0 else 1) = k % n2 ∧ k * (if L = 1 then 0 else 1) < L ∧ k * (if L = 1 then 0 else 1) = k % L) := fun k hk => by
          have h := unhide HME
          have e1 : k * (if n2 = 1 then 0 else 1) < n2 ∧ k * (if n2 = 1 then 0 else 1) = k % n2 := by
            by_cases h1 : n2 = 1
            · rw [if_pos h1, h1]; simp [Nat.mod_one]
            · rw [if_neg h1]
              have hkn : k < n2 := by
                by_cases h2 : L = 1
                · rw [if_pos h2] at h; omega
                · rw [if_neg h2] at h
                  omega
              rw [Nat.mul_one, Nat.mod_eq_of_lt hkn]; exact ⟨hkn, rfl⟩
          have e2 : k * (if L = 1 then 0 else 1) < L ∧ k * (if L = 1 then 0 else 1) = k % L := by
            by_cases h2 : L = 1
            · rw [if_pos h2, h2]; simp [Nat.mod_one]
            · rw [if_neg h2]
              rw [if_neg h2] at h
              rw [Nat.mul_one, Nat.mod_eq_of_lt (by omega)]; exact ⟨by omega, rfl⟩
          exact ⟨e1.1, e1.2, e2.1, e2.2⟩
        obtain ⟨ng, hng⟩ : ∃ ng, (!dt.all nonNeg) = ng := ⟨_, rfl⟩
        have HNG := hide hng
        clear hng herr HCN HCD
        obtain ⟨x0, x1, x2, x3, x4, x5, x6⟩ := (unhide J4).all
        go_upto_if 51 with (go_at_call 64; refine (hasBelow0_eq _ _ _ dt _ (unhide H2K) _ HNG).mono ?_; rintro e w' ⟨rfl, hw⟩; obtain rfl := hw.symm)
        cases ng with
        | true =>
          have HS : Hid (replicateA c d sh dt sh' dt' fl = noAns 3) := rep_neg (unhide HR1) (unhide HR2) (unhide HL0) (unhide HNE) (by have := unhide HNG; simpa using this)
          clear x0 x1 x2 x3 x4 x5 x6
          obtain ⟨q0, q1, q2, q3, q4, q5, q6⟩ := (unhide J6).all
          go_wp2_with fail
          refine bodyPost_ret (v := .tuple #[.agg #[.bool false, .slice none 0 0, .slice none 0 0], .int .i64 3]) (by simp [results, Tryz.results16, go_sem, q0, q1, q2]) rfl ?_
          rw [unhide HS]
          exact gives_none ((((unhide HB6).setCell (by simp <;> omega) _).setCell (by simp <;> omega) _).setCell (by simp <;> omega) _)
        | false =>
          have HA : Hid (dt.all nonNeg = true) := by
            have h := unhide HNG
            show dt.all nonNeg = true
            cases hh : dt.all nonNeg with
            | true => rfl
            | false => rw [hh] at h; cases h
          obtain ⟨z, hz⟩ : ∃ z : Nat, z = 0 := ⟨_, rfl⟩
          obtain ⟨t1, ht1⟩ : ∃ t : Nat, t = if n2 = 1 then 0 else 1 := ⟨_, rfl⟩
          obtain ⟨t2, ht2⟩ : ∃ t : Nat, t = if L = 1 then 0 else 1 := ⟨_, rfl⟩
          have HX1 : Hid (∀ wx, Calls Tryz.prog 54 #[.agg #[.bool c, .slice a1 n1 c1, .slice a2 n2 c2], .int .i64 (m : Nat)] wx fun e w' => e = .returned (.agg #[.slice a2 n2 c2, .int .i64 (z : Nat), .int .i64 (t1 : Nat), .int .i64 (m : Nat)]) ∧ Below wx.heap.size wx w') := fun wx => by
            have := extended_any c a1 a2 n1 n2 c1 c2 m hs2 wx
            rwa [← ht1, ← hz] at this
          have HX2 : Hid (∀ wx, Calls Tryz.prog 54 #[.agg #[.bool false, .slice (some ⟨sN, 0, none⟩) 1 1, .slice (some ⟨gN, 0, none⟩) L L], .int .i64 (m : Nat)] wx fun e w' => e = .returned (.agg #[.slice (some ⟨gN, 0, none⟩) L L, .int .i64 (z : Nat), .int .i64 (t2 : Nat), .int .i64 (m : Nat)]) ∧ Below wx.heap.size wx w') := fun wx => by
            have key : ∀ aS aG : Addr, Calls Tryz.prog 54 #[.agg #[.bool false, .slice (some aS) 1 1, .slice (some aG) L L], .int .i64 (m : Nat)] wx fun e w' => e = .returned (.agg #[.slice (some aG) L L, .int .i64 (z : Nat), .int .i64 (t2 : Nat), .int .i64 (m : Nat)]) ∧ Below wx.heap.size wx w' := fun aS aG => by
              have := extended_any false aS aG 1 L 1 L m (by omega) wx
              rwa [← ht2, ← hz] at this
            exact key _ _
          have HT1 : Hid (∀ k, k < m → z + k * t1 < n2 ∧ dt.getD (z + k * t1) 0 = timesAt dt k) := fun k hk => by
            obtain ⟨q1, q2, _, _⟩ := unhide HKM k hk
            rw [hz, ht1, Nat.zero_add]
            refine ⟨q1, ?_⟩
            unfold timesAt
            rw [q2, unhide hl2]
          have HT2 : Hid (∀ k, k < m → z + k * t2 < L ∧ (upTo L).getD (z + k * t2) 0 = ((k % L : Nat) : Int) + 1) := fun k hk => by
            obtain ⟨_, _, q3, q4⟩ := unhide HKM k hk
            rw [hz, ht2, Nat.zero_add]
            refine ⟨q3, ?_⟩
            rw [upTo_get q3, q4]
          have HT3 : Hid (∀ k, k < m → z + k * t1 < n2 ∧ dt.getD (z + k * t1) 0 = timesAt dt k ∧ 0 ≤ timesAt dt k ∧ timesAt dt k ≤ 1000000000000000) := fun k hk => by
            obtain ⟨q1, q2⟩ := unhide HT1 k hk
            exact ⟨q1, q2, times_nn (unhide HA) k, by rw [← q2]; exact (dataOk_bd (unhide HR1) (by rw [unhide hl2]; exact q1)).2⟩
          clear hz ht1 ht2 HKM HNG
          go_upto_region 14 with (go_at_call 54; refine (unhide HX1 _).mono ?_; rintro e w7 ⟨rfl, hb7⟩; have HB7' := hide hb7; clear hb7)
          clear x0 x1 x2 x3 x4 x5 x6
          obtain ⟨p13, hp13⟩ : ∃ p, p = w7.heap.size := ⟨_, rfl⟩
          obtain ⟨W8, hW8⟩ : ∃ W, W = w7.alloc (.cells #[.slice a2 n2 c2, .int .i64 (z : Nat), .int .i64 (t1 : Nat), .int .i64 (m : Nat)] 68) := ⟨_, rfl⟩
          have G5 : Hid (Box W8 (w.heap.size + 1) d (.slice (some ⟨bs, os, none⟩) M e1) (.slice b2 m2 d2)) := by rw [hW8]; exact ((unhide J5).below (Nat.le_refl _) (unhide HB7')).alloc _
          have G6 : Hid (Box W8 (w.heap.size + 2) false (.slice none 0 0) (.slice none 0 0)) := by rw [hW8]; exact ((unhide J6).below (Nat.le_refl _) (unhide HB7')).alloc _
          have GN : Hid (Box W8 p10 false (.slice (some ⟨sN, 0, none⟩) 1 1) (.slice (some ⟨gN, 0, none⟩) L L)) := by rw [hW8]; exact ((unhide JN).below (Nat.le_refl _) (unhide HB7')).alloc _
          have GS : Hid (SBox W8 p13 a2 n2 c2 z t1 m) := by rw [hW8, hp13]; exact SBox.new w7 _ _ _ _ _ _
          have HG8 : Hid (Row W8 (some ⟨gN, 0, none⟩) L (upTo L)) := by rw [hW8]; exact ((unhide HG6).below (Nat.le_refl _) (unhide HB7')).alloc _
          have HR8 : Hid (Row W8 (some ⟨bs, os, none⟩) M zs) := by rw [hW8]; exact ((unhide HR6).below (Nat.le_refl _) (unhide HB7')).alloc _
          have HB8 : Hid (Below w.heap.size w W8) := by rw [hW8]; exact ((unhide HB6).trans ((unhide HB7').mono (unhide HB6).size)).alloc (by have := (unhide HB6).size; have := (unhide HB7').size; omega) _
          have hp13l : p10 < p13 := by rw [hp13]; exact ((unhide JN).below (Nat.le_refl _) (unhide HB7')).lt
          rw [← hW8, ← hp13]
          clear hW8 hp13 J4 J5 J6 JN HG6 HR6 HB6 H2K K2K HB7' HX1
          obtain ⟨y0, y1, y2, y3, y4, y5, y6⟩ := (unhide G5).all
          go_upto_region 15 with (go_at_call 65; refine (Clone_any ⟨bs, os, none⟩ M e1 zs _ (unhide HR8)).mono ?_; rintro e w9 ⟨ash, csh, rfl, hcap, hO, hb9⟩; have HO9 := hide hO; have HB9' := hide hb9; clear hcap hO hb9)
          clear y0 y1 y2 y3 y4 y5 y6
          have L5 := hide ((unhide G5).below (Nat.le_refl _) (unhide HB9'))
          have L6 := hide ((unhide G6).below (Nat.le_refl _) (unhide HB9'))
          have LN := hide ((unhide GN).below (Nat.le_refl _) (unhide HB9'))
          have LS := hide ((unhide GS).below (Nat.le_refl _) (unhide HB9'))
          have HG9 := hide ((unhide HG8).below (Nat.le_refl _) (unhide HB9'))
          have HR9 := hide ((unhide HR8).below (Nat.le_refl _) (unhide HB9'))
          have HB9 := hide ((unhide HB8).trans ((unhide HB9').mono (unhide HB8).size))
          have hp13w : p13 < W8.heap.size := (unhide GS).lt
          have HG8' := HG8
          have HBW' : Hid (bs < W8.heap.size) := (unhide HR8).hi (at_self (by omega))
          have HW8W' : Hid (w.heap.size ≤ W8.heap.size) := (unhide HB8).size
          clear G5 G6 GN GS HG8 HR8 HB8
          have HGW : Hid (L ≠ 0 → gN < W8.heap.size) := fun h => by
            have := (unhide HG8').hi (at_self h)
            exact this
          have HBW : Hid (bs < W8.heap.size) := unhide HBW'
          have HW8W : Hid (w.heap.size ≤ W8.heap.size) := unhide HW8W'
          have HLO : Hid (∀ x, At ash M x → W8.heap.size ≤ x) := fun x hx => (unhide HO9).low hx
          have H2N := hide ((unhide H2).below (Nat.le_refl _) (unhide HB9))
          obtain ⟨lm, hlm⟩ : ∃ lm, lm = limS (timesSum dt m) := ⟨_, rfl⟩
          have hcall := limitedSum_any a2 n2 c2 z t1 m dt w9 (unhide H2N) hm1 (unhide HT3) (unhide HA)
          rw [← hlm] at hcall
          have HLM := hide hlm
          clear hlm
          rcases (unhide HO9).at_ with h | ⟨gs, os', rfl, hgs, hgsl, hce, hfr⟩
          · omega
          obtain ⟨s0, s1', s2, s3⟩ := (unhide LS).cells
          have hLSl := (unhide LS).lt
          go_upto_region 16 with (go_at_call 66; refine hcall.mono ?_; rintro e wA ⟨rfl, hbA⟩; have HBA' := hide hbA; have hca := (hbA.cell (p := ⟨gs, os' + ax, none⟩) hgsl).trans (hce ax haxl); have hfa := (hbA.frozen (p := ⟨gs, os' + ax, none⟩) hgsl).trans (hfr ax haxl); clear hbA)
          clear hcall s0 s1' s2 s3 hce hfr
          obtain ⟨WB, hWB⟩ : ∃ W, W = wA.setCell ⟨gs, os' + ax, none⟩ (.int .i64 lm) := ⟨_, rfl⟩
          have hng2 : gs ≠ w.heap.size + 1 ∧ gs ≠ w.heap.size + 2 ∧ gs ≠ p10 ∧ gs ≠ p13 := by have := unhide HLO gs (at_self (by omega)); omega
          have M5 : Hid (Box WB (w.heap.size + 1) d (.slice (some ⟨bs, os, none⟩) M e1) (.slice b2 m2 d2)) := by rw [hWB]; exact ((unhide L5).below (Nat.le_refl _) (unhide HBA')).other (by simpa using hng2.1.symm) _
          have M6 : Hid (Box WB (w.heap.size + 2) false (.slice none 0 0) (.slice none 0 0)) := by rw [hWB]; exact ((unhide L6).below (Nat.le_refl _) (unhide HBA')).other (by simpa using hng2.2.1.symm) _
          have MN : Hid (Box WB p10 false (.slice (some ⟨sN, 0, none⟩) 1 1) (.slice (some ⟨gN, 0, none⟩) L L)) := by rw [hWB]; exact ((unhide LN).below (Nat.le_refl _) (unhide HBA')).other (by simpa using hng2.2.2.1.symm) _
          have MS : Hid (SBox WB p13 a2 n2 c2 z t1 m) := by
            rw [hWB]
            exact (heap_setCell_other _ ⟨gs, os' + ax, none⟩ p13 _ (by simpa using hng2.2.2.2.symm)).trans ((unhide LS).below (Nat.le_refl _) (unhide HBA'))
          have hgNl : gN < W8.heap.size ∨ L = 0 := by
            by_cases hL0 : L = 0
            · exact .inr hL0
            · exact .inl ((unhide HGW) hL0)
          have hNgs : ∀ x, At (some ⟨gN, 0, none⟩) L x → x ≠ gs := fun x hx => by
            have e := at_eq hx
            have := unhide HLO gs (at_self (by omega))
            rcases hgNl with h | h
            · omega
            · exact absurd h hx.1
          have HGB : Hid (Row WB (some ⟨gN, 0, none⟩) L (upTo L)) := by rw [hWB]; exact ((unhide HG9).below (Nat.le_refl _) (unhide HBA')).otherB hNgs _
          have hbsl' : ∀ x, At (some ⟨bs, os, none⟩) M x → x ≠ gs := fun x hx => by
            have e := at_eq hx
            have h1 := unhide HLO gs (at_self (by omega))
            have h2 := unhide HBW
            omega
          have HRB : Hid (Row WB (some ⟨bs, os, none⟩) M zs) := by rw [hWB]; exact ((unhide HR9).below (Nat.le_refl _) (unhide HBA')).otherB hbsl' _
          obtain ⟨ZL, hZL⟩ : ∃ ZL, ZL = zs.set ax lm := ⟨_, rfl⟩
          have HOB : Hid (Own WB W8.heap.size (some ⟨gs, os', none⟩) M ZL) := by rw [hWB, hZL]; exact ((unhide HO9).below (Nat.le_refl _) (unhide HBA')).set haxl _
          have HBB : Hid (Below w.heap.size w WB) := by rw [hWB]; exact ((unhide HB9).trans ((unhide HBA').mono (unhide HB9).size)).setCell (by have := unhide HLO gs (at_self (by omega)); have := unhide HW8W; show w.heap.size ≤ gs; omega) _
          have HZLE := hide hZL
          rw [← hWB]
          clear hWB hZL L5 L6 LN LS HG9 HR9 HB9 HBA' HO9 H2N hca hfa hgNl hng2 hNgs hbsl' hLSl
          obtain ⟨sb, hsb⟩ : ∃ r, shapeB ZL = r := ⟨_, rfl⟩
          have HSB := hide hsb
          clear hsb
          go_upto_if 66 with (go_at_call 67; refine (shapeOk_eq _ _ _ ZL _ (unhide HOB).row _ HSB).mono ?_; rintro e w' ⟨rfl, hw⟩; obtain rfl := hw.symm)
          cases sb with
          | false =>
            have HS : Hid (replicateA c d sh dt sh' dt' fl = noAns 7) := by
              refine rep_big (unhide HR1) (unhide HR2) (unhide HL0) (unhide HNE) (unhide HA) ?_
              by_cases hbig : 10000 < timesSum dt (repM dt sh' fl)
              · exact .inl hbig
              · right
                unfold repZS
                rw [← unhide HZE, unhide HAR]
                have h := unhide HSB
                rw [unhide HZLE, unhide HLM] at h
                rw [← unhide HMM] at hbig ⊢
                rwa [show limS (timesSum dt m) = timesSum dt m by unfold limS; omega] at h
            obtain ⟨q0, q1, q2, q3, q4, q5, q6⟩ := (unhide M6).all
            go_wp2_with fail
            refine bodyPost_ret (v := .tuple #[.agg #[.bool false, .slice none 0 0, .slice none 0 0], .int .i64 7]) (by simp [results, Tryz.results16, go_sem, q0, q1, q2]) rfl ?_
            rw [unhide HS]
            exact gives_none ((((unhide HBB).setCell (by simp <;> omega) _).setCell (by simp <;> omega) _).setCell (by simp <;> omega) _)
          | true =>
            obtain ⟨I, hI⟩ : ∃ I, I = repIdx dt L m := ⟨_, rfl⟩
            have hle : timesSum dt m ≤ 10000 ∧ lm = timesSum dt m := by
              have h := (shapeB_in (unhide HSB)).1.cell ax
              have hg : ZL.getD ax 0 = lm := by rw [unhide HZLE]; simp [List.getD, show ax < zs.length by rw [unhide HZL]; exact haxl]
              rw [hg] at h
              have h2 := unhide HLM
              unfold limS at h2
              omega
            have HIL : Hid ((I.length : Int) = timesSum dt m) := by rw [hI]; exact repIdx_len m (times_nn (unhide HA))
            have HZI : Hid (ZL = zs.set (repAx zs fl) (I.length : Int)) := by show _ = _; rw [unhide HZLE, unhide HAR, hle.2, unhide HIL]
            have hPb := (shapeB_in (unhide HSB)).1.bd
            obtain ⟨N, hN⟩ : ∃ N : Nat, prodAll ZL = (N : Int) := ⟨(prodAll ZL).toNat, by omega⟩
            have HN := hide hN
            have HGO : Hid (replicateA c d sh dt sh' dt' fl = ⟨d, ZL, vals (gatherAt d zs dt' (idxF ax I) ZL) N, 0⟩) := by
              show _ = _
              have hz : repZS dt sh' fl = ZL := by unfold repZS; rw [← unhide HZE, unhide HAR, ← unhide HMM, unhide HZLE, hle.2]
              rw [rep_go (unhide HR1) (unhide HR2) (unhide HL0) (unhide HNE) (unhide HA) (by rw [hz, ← unhide HMM, unhide HSB]; rintro (h | h); (· omega); cases h), hz, ← unhide HMM, unhide HRN, ← unhide HZE, (unhide HAX).b, (unhide HAX).a]
              have hv := rep_vals (d := d) (dt := dt) (dt' := dt') (N := N) (unhide HZN) (unhide HAX) (by rw [unhide HPR]) hmL (by rw [← hI, ← unhide HZI]; exact unhide HSB) (by rw [← hI, ← unhide HZI]; exact hN)
              rw [← hI, ← unhide HZI, unhide HAR] at hv
              simpa using hv
            have HIB : Hid (∀ j, j < I.length → I.getD j 0 ≤ 10000) := fun j hj => by
              rw [hI] at hj ⊢
              by_cases hm0 : 0 < m
              · have := repIdx_lt (dt := dt) (hmL hm0) m ((repIdx dt L m).getD j 0) (by simp only [List.getD, List.getElem?_eq_getElem hj, Option.getD_some]; exact List.getElem_mem hj)
                omega
              · have e : m = 0 := by omega
                rw [e] at hj
                simp [repIdx] at hj
            have HOUT : Hid (outN dt L m = I.map fun (n : Nat) => (n : Int) + 1) := by show _ = _; rw [hI]; rfl
            have HZA : Hid (ZL.getD ax 0 = (I.length : Int)) := by show _ = _; rw [unhide HZI, unhide HAR]; simp [List.getD, show ax < zs.length by rw [unhide HZL]; exact haxl]
            have HZX : Hid (ShapeIn ZL ∧ ZL.length = M) := ⟨(shapeB_in (unhide HSB)).1, (unhide HOB).row.len⟩
            have HZS : Hid (ShapeIn zs ∧ prodAll zs = (m2 : Int)) := by
              obtain ⟨q1, q2, _⟩ := shapeIn_of (unhide HOKZ)
              exact ⟨q1, by rw [q2, unhide hl4]⟩
            have hts : timesSum dt m ≤ 10000 := hle.1
            clear hI hle hPb hN HLM HZLE HZI HIL HNE HL0 HR1 HR2 HZN HAX HPR HME HMM HRN HT3 hmL HZE
            have H2B := hide ((unhide H2).below (Nat.le_refl _) (unhide HBB))
            have K2B := hide ((unhide K2).below (Nat.le_refl _) (unhide HBB))
            have hWBz := (unhide HBB).size
            obtain ⟨v0, v1, v2, v3, v4, v5, v6⟩ := (unhide MN).all
            obtain ⟨s0, s1', s2, s3⟩ := (unhide MS).cells
            have hMSl := (unhide MS).lt
            have hM6l := (unhide M6).lt
            go_upto_region 18 with fail
            go_cut [15] (fun r wx => TakenAt w WB (outN dt L m) r wx)
            case first => as_aux_lemma =>
              have HKEEP : ∀ wx, Below WB.heap.size WB wx → wx.cell? ⟨p10, 0, none⟩ = some (.bool false) ∧ wx.cell? ⟨p10, 1, none⟩ = some (.slice (some ⟨sN, 0, none⟩) 1 1) ∧ wx.cell? ⟨p10, 2, none⟩ = some (.slice (some ⟨gN, 0, none⟩) L L) ∧ wx.cell? ⟨p13, 0, none⟩ = some (.slice a2 n2 c2) ∧ wx.cell? ⟨p13, 1, none⟩ = some (.int .i64 (z : Nat)) ∧ wx.cell? ⟨p13, 2, none⟩ = some (.int .i64 (t1 : Nat)) ∧ wx.cell? ⟨p13, 3, none⟩ = some (.int .i64 (m : Nat)) := fun wx hwx => by
                obtain ⟨q0, q1, q2⟩ := ((unhide MN).below (Nat.le_refl _) hwx).cells
                obtain ⟨q3, q4, q5, q6⟩ := ((unhide MS).below (Nat.le_refl _) hwx).cells
                exact ⟨q0, q1, q2, q3, q4, q5, q6⟩
              have HCO : ∀ wx, Below WB.heap.size WB wx → Calls Tryz.prog 68 #[.agg #[.slice (some ⟨gN, 0, none⟩) L L, .int .i64 (z : Nat), .int .i64 (t2 : Nat), .int .i64 (m : Nat)], .agg #[.slice a2 n2 c2, .int .i64 (z : Nat), .int .i64 (t1 : Nat), .int .i64 (m : Nat)]] wx fun e w' => ∃ a' N cap', e = .returned (.slice a' N cap') ∧ Own w' wx.heap.size a' N (outN dt L m) ∧ Below wx.heap.size wx w' := fun wx hwx => countedOut_any _ _ L L z t2 n2 c2 z t1 m (upTo L) dt wx ((unhide HGB).below (Nat.le_refl _) hwx) ((unhide H2B).below (Nat.le_refl _) hwx) hm1 (unhide HA) hts (unhide HT2) (unhide HT1)
              go_region_held (fun wx => wx.cell? ⟨p10, 0, none⟩ = some (.bool false) ∧ wx.cell? ⟨p10, 1, none⟩ = some (.slice (some ⟨sN, 0, none⟩) 1 1) ∧ wx.cell? ⟨p10, 2, none⟩ = some (.slice (some ⟨gN, 0, none⟩) L L) ∧ wx.cell? ⟨p13, 0, none⟩ = some (.slice a2 n2 c2) ∧ wx.cell? ⟨p13, 1, none⟩ = some (.int .i64 (z : Nat)) ∧ wx.cell? ⟨p13, 2, none⟩ = some (.int .i64 (t1 : Nat)) ∧ wx.cell? ⟨p13, 3, none⟩ = some (.int .i64 (m : Nat)))
                (first | (refine HKEEP _ ?_; repeat (first | exact hK2 | exact hK1 | exact Below.refl _ _ | refine Below.drew ?_ | refine Below.alloc ?_ (by first | omega | (simp <;> omega)) _ | refine Below.setCell ?_ (by first | omega | (simp <;> omega)) _)))
                (first
                | (go_at_call 54; refine (unhide HX2 _).mono ?_; rintro e wE ⟨rfl, hbE⟩; have hK1 : Below WB.heap.size WB wE := (by first | exact ((Below.refl _ WB).drew.alloc (Nat.le_refl _) _).trans (hbE.mono (by simp)) | exact ((Below.refl _ WB).alloc (Nat.le_refl _) _).drew.trans (hbE.mono (by simp)) | exact (Below.refl _ WB).drew.trans hbE); have hs1 := hK1.size; (first | (have hP1 := (OneS.new _ _).below (Nat.le_refl _) hbE) | (have hP1 := (OneS.new _ _).drew.below (Nat.le_refl _) hbE) | skip))
                | (go_at_call 68; refine (HCO _ (by first | exact hK1.alloc hK1.size _ | exact hK1)).mono ?_; rintro e wF ⟨a', N', cap', rfl, hOF, hbF⟩; have hK2 : Below WB.heap.size WB wF := (by first | exact (hK1.alloc hK1.size _).trans (hbF.mono (by have := hK1.size; simp; omega)) | exact hK1.trans (hbF.mono hK1.size)); have hs2 := hK2.size; (first | (have hP2 := hP1.below (Nat.le_refl _) hbF; have hP2c := hP2.cell; have hP2f := hP2.free; have hP2l := hP2.lt; have hP1l := hP1.lt; (try simp at hP2c hP2f hP2l hP1l)) | (have hP2 := (OneS.new _ _).below (Nat.le_refl _) hbF; have hP2c := hP2.cell; have hP2f := hP2.free; have hP2l := hP2.lt; (try simp at hP2c hP2f hP2l)) | (have hP2 := (OneS.new _ _).drew.below (Nat.le_refl _) hbF; have hP2c := hP2.cell; have hP2f := hP2.free; have hP2l := hP2.lt; (try simp at hP2c hP2f hP2l)) | skip)))
              all_goals go_wp2_with fail
              all_goals (go_meet; case rel => first
                | (refine taken_of hP2 ?_ ?_ hK2 ?_; (refine hOF.mono ?_; first | omega | (simp; omega)); (intro x hx; have h := hOF.low hx; (try simp at h); omega); (first | omega | exact Nat.le_refl _ | (simp; omega)))
                | (refine ⟨_, a', N', cap', rfl, (OneS.new _ _).cell, (hOF.mono ?_).alloc _, hK2.alloc hK2.size _⟩; first | omega | (simp; omega)))
            case rest =>
              obtain ⟨wT, hwT⟩ : ∃ x, x = wc := ⟨_, rfl⟩
              subst hwT
              obtain ⟨pt, ta, NT, capT, rfl, hptc, hOT, hbT⟩ := hcut
              have hptl : pt < wT.heap.size := World.block_lt_of_cell? _ _ hptc
              have P5 := hide ((unhide M5).below (Nat.le_refl _) hbT)
              have P6 := hide ((unhide M6).below (Nat.le_refl _) hbT)
              have HRT := hide ((unhide HRB).below (Nat.le_refl _) hbT)
              have K2T := hide ((unhide K2B).below (Nat.le_refl _) hbT)
              have HOS := hide (((unhide HOB).below (Nat.le_refl _) hbT).mono (show w.heap.size ≤ W8.heap.size by have := unhide HW8W; omega))
              have HSX : Hid (∀ x, At (some ⟨gs, os', none⟩) M x → x ≠ w.heap.size + 2 ∧ x < wT.heap.size) := fun x hx => by
                have e := at_eq hx
                have h1 := unhide HLO gs (at_self (by omega))
                have h2 := unhide HW8W
                have h3 := (unhide HOS).row.hi hx
                omega
              have HBT := hide ((unhide HBB).trans (hbT.mono (unhide HBB).size))
              have HPT := hide hptc
              have HOT := hide hOT
              have hIN : NT = I.length := by have h := (unhide HOT).row.len; rw [unhide HOUT, List.length_map] at h; exact h.symm
              have hTz := (unhide HBT).size
              obtain ⟨bx, hbx⟩ : ∃ bx, bx = w.heap.size + 1 + 1 := ⟨_, rfl⟩
              have hbx2 : w.heap.size + 2 = bx := by omega
              rw [hbx2] at P6 HSX
              have hbxl : bx < wT.heap.size := (unhide P6).lt
              clear hptc hOT hbT M5 M6 MN MS HRB K2B HOB HBB H2B v0 v1 v2 v3 v4 v5 v6 s0 s1' s2 s3 hMSl hM6l hWBz HGB
              go_upto_region 19 with fail
              rw [← hbx]
              go_cut [7] (fun v wx => v = .int .i64 0 ∧ Res5 w d ZL (vals (gatherAt d zs dt' (idxF ax I) ZL) N) M N bx wx)
              case first => as_aux_lemma =>
                have HKEEP : ∀ wx, But (fun k => k = bx) wT wx → wx.cell? ⟨w.heap.size + 1, 0, none⟩ = some (.bool d) ∧ wx.cell? ⟨w.heap.size + 1, 1, none⟩ = some (.slice (some ⟨bs, os, none⟩) M e1) ∧ wx.cell? ⟨w.heap.size + 1, 2, none⟩ = some (.slice b2 m2 d2) := fun wx hwx => by
                  obtain ⟨y0, y1, y2, _, _, _⟩ := (unhide P5).all
                  exact ⟨(hwx.cellAt (by omega) (by omega)).trans y0, (hwx.cellAt (by omega) (by omega)).trans y1, (hwx.cellAt (by omega) (by omega)).trans y2⟩
                obtain ⟨y0, y1, y2⟩ := HKEEP _ (But.refl _ _)
                obtain ⟨r0, r1, r2, r3, r4, r5, r6⟩ := (unhide P6).all
                have hwb : w.heap.size + 1 < bx := by omega
                clear hbx hbx2
                go_region_held3 (fun wx => wx.cell? ⟨w.heap.size + 1, 0, none⟩ = some (.bool d) ∧ wx.cell? ⟨w.heap.size + 1, 1, none⟩ = some (.slice (some ⟨bs, os, none⟩) M e1) ∧ wx.cell? ⟨w.heap.size + 1, 2, none⟩ = some (.slice b2 m2 d2)) (first | exact HKEEP _ (But.refl _ _).drew | exact HKEEP _ (But.of_below (unhide HKO)) | exact HKEEP _ (But.of_below (unhide HKG)) | exact HKEEP _ ((((But.of_below (S := fun k => k = bx) (unhide HKG)).setCell (p := ⟨bx, 0, none⟩) rfl _).setCell (p := ⟨bx, 1, none⟩) rfl _).setCell (p := ⟨bx, 2, none⟩) rfl _))
                  (first
                  | (go_at_call 70; refine (onAxis_gives ax _ _ 71 #[.pointer (some ⟨pt, 0, none⟩)] rfl).mono ?_; rintro e wO ⟨rfl, hwO⟩; (have HKO : Hid (Below wT.heap.size wT wO) := (by rw [hwO]; exact (((Below.refl _ wT).drew.alloc (Nat.le_refl _) _).alloc (by simp) _))); (have HA1 : Hid (wO.cell? ⟨wT.heap.size, 0, none⟩ = some (.int .i64 (ax : Nat)) ∧ wO.cell? ⟨wT.heap.size + 1, 0, none⟩ = some (.func (.func 71) #[] #[.pointer (some ⟨pt, 0, none⟩)])) := (by rw [hwO]; exact two_cells wT.drew _ _)); clear hwO r0 r1 r2 r3 r4 r5 r6 y0 y1 y2; obtain ⟨y0, y1, y2⟩ := HKEEP _ (But.of_below (unhide HKO)); obtain ⟨r0, r1, r2, r3, r4, r5, r6⟩ := ((unhide P6).below (Nat.le_refl _) (unhide HKO)).all)
                  | (go_at_call 69; refine (gathered_any d (some ⟨bs, os, none⟩) b2 (some ⟨gs, os', none⟩) M m2 e1 d2 M csh zs dt' ZL 128 _ eg_onAxis (idxF ax I) _ N ((unhide HRT).below (Nat.le_refl _) (unhide HKO)) ((unhide K2T).below (Nat.le_refl _) (unhide HKO)) ((unhide HOS).row.below (Nat.le_refl _) (unhide HKO)) (unhide HZS).1 (unhide HZX).1 hM5 (unhide HN) (unhide HZS).2 (axisClo ZL M wT.heap.size (wT.heap.size + 1) ax 71 #[.pointer (some ⟨pt, 0, none⟩)] eg_rep (fun v => ((I.getD v.toNat 0 : Nat) : Int)) _ (by rw [(unhide HZX).2]; omega) (by rw [(unhide HZX).2]; exact haxl) (unhide HA1).1 (unhide HA1).2 (fun v hv0 hv1 W hW => repMoved pt ta NT capT I v W ((((unhide HKO).trans (hW.mono (unhide HKO).size)).cell (p := ⟨pt, 0, none⟩) hptl).trans (unhide HPT)) (by rw [← unhide HOUT]; exact (unhide HOT).row.below (Nat.le_refl _) ((unhide HKO).trans (hW.mono (unhide HKO).size))) ⟨hv0, by rw [unhide HZA] at hv1; rw [hIN]; exact hv1⟩ (unhide HIB)))).mono ?_; rintro e wG ⟨gd, rfl, hgd, hBG, hbG⟩; have HKG : Hid (Below wT.heap.size wT wG) := (unhide HKO).trans (hbG.mono (unhide HKO).size); have HBG := hide hBG; have HGD := hide hgd; have HOG := hide ((unhide HOS).below (Nat.le_refl _) (unhide HKG)); clear hgd hBG hbG r0 r1 r2 r3 r4 r5 r6 y0 y1 y2; obtain ⟨y0, y1, y2⟩ := HKEEP _ (But.of_below (unhide HKG)); obtain ⟨r0, r1, r2, r3, r4, r5, r6⟩ := ((unhide P6).below (Nat.le_refl _) (unhide HKG)).all))
                all_goals go_wp2_with fail
                all_goals (go_meet; case rel => exact ⟨rfl, Res5.set ((unhide P6).below (Nat.le_refl _) (unhide HKG)) (unhide HOG) (by have := unhide HGD; have := (unhide HKO).size; omega) (unhide HBG) (fun h => by have := (unhide HSX _ h).2; have := unhide HGD; have := (unhide HKO).size; omega) ((unhide HBT).trans ((unhide HKG).mono hTz)) (fun h => (unhide HSX _ h).1 rfl) (by have := unhide HGD; have := (unhide HKO).size; omega) (by omega)⟩)
              case rest =>
                obtain ⟨wz, hwz⟩ : ∃ x, x = wc := ⟨_, rfl⟩
                subst hwz
                obtain ⟨rfl, ash2, csh2, gd, hb, hO, hgd, hB, hne, hbl⟩ := hcut
                obtain ⟨q0, q1, q2, q3, q4, q5, q6⟩ := hb.all
                have HNb : N ≤ 10000 := by have := (unhide HZX).1.bd; have := unhide HN; omega
                clear hb
                go_wp2_with fail
                refine bodyPost_ret (v := .tuple #[.agg #[.bool d, .slice ash2 M csh2, .slice (some ⟨gd, 0, none⟩) N N], .int .i64 0]) (by simp [results, Tryz.results16, go_sem, q0, q1, q2]) rfl ?_
                rw [unhide HGO]
                exact gives_res (by simp [vals]) (by omega) hO hgd hB hne hbl
  · have HS : Hid (replicateA c d sh dt sh' dt' fl = noAns r) := rep_codeList (unhide HRC) hcode
    have hcb : (r != 0) = true := by simp [hcode]
    clear hcode
    obtain ⟨q0, q1, q2, q3, q4, q5, q6⟩ := (unhide D6).all
    go_wp2_with fail
    refine bodyPost_ret (v := .tuple #[.agg #[.bool false, .slice none 0 0, .slice none 0 0], .int .i64 r]) (by simp [results, Tryz.results16, go_sem, q0, q1, q2]) rfl ?_
    rw [unhide HS]
    exact gives_none ((((unhide hB3).setCell (by simp <;> omega) _).setCell (by simp <;> omega) _).setCell (by simp <;> omega) _)

end Go.Proofs.YtkgcmpmgaghdhaaGreatDoor
