import Derived.Test.YtkgcmpmgaghdhaaGreatDoorImplDecodeA
import Derived.Deep.RegionHeld
namespace Go.Proofs.YtkgcmpmgaghdhaaGreatDoor
open Go.RowKit Go.Shelf

set_option maxRecDepth 20000 in
set_option maxHeartbeats 4000000 in
theorem implDecode_some (c d : Bool) (a1 a2 b1 b2 : Option Addr) (n1 n2 m1 m2 c1 c2 d1 d2 : Nat) (sh dt sh' dt' : List Int) (w : World) (h1 : Row w a1 n1 sh) (h2 : Row w a2 n2 dt) (k1 : Row w b1 m1 sh') (k2 : Row w b2 m2 dt') (r1 r2 : Int) (hr1 : Hid (codeList c d sh dt sh' dt' = r1)) (hr2 : Hid (codeList d c sh' dt' sh dt = r2)) (ga gb : Addr) (hG : GlD w ga gb) (hr : orOf r1 r2 = 0) (hok : arrOk c sh dt = true) (hok' : arrOk d sh' dt' = true) (hn : n1 ≤ 1) (hm : m1 ≤ 1) (hne : n2 = 1 ∨ n2 = decLen n2 m2) (v : Int) (hrr : decStep dt dt' n2 m2 (decLen n2 m2) = some v) :
    Calls Tryz.prog 25 #[.agg #[.bool c, .slice a1 n1 c1, .slice a2 n2 c2], .agg #[.bool d, .slice b1 m1 d1, .slice b2 m2 d2]] w (GivesOwn w (⟨false, [], [v], 0⟩)) := by
  have HR := hide hr
  have hlm : m2 = 1 ∨ m2 = decLen n2 m2 := by unfold decLen; split <;> omega
  have HJ : Hid (∀ wx, Below w.heap.size w wx → _) := fun wx hwx => jointCountD c d a1 a2 b1 b2 n1 n2 m1 m2 c1 c2 d1 d2 sh dt sh' dt' wx (h1.below (Nat.le_refl _) hwx) (k1.below (Nat.le_refl _) hwx) hok hok' h2.len k2.len hn hm 0 (hide (by rw [if_neg (by omega)]))
  have hlen : decLen n2 m2 ≤ 10000 := by
    have e1 := (arr_parts hok).2
    have e2 := (count_bd sh).2
    have e3 := (arr_parts hok').2
    have e4 := (count_bd sh').2
    rw [h2.len] at e1
    rw [k2.len] at e3
    unfold decLen
    split <;> omega
  obtain ⟨m, hmm⟩ : ∃ m, decLen n2 m2 = m := ⟨_, rfl⟩
  rw [hmm] at hlen hne hlm HJ hrr
  have hbd : ∀ k, -1000000000000000 ≤ dt.getD k 0 ∧ dt.getD k 0 ≤ 1000000000000000 := fun k => arr_bdD hok k
  have hbd' : ∀ k, -1000000000000000 ≤ dt'.getD k 0 ∧ dt'.getD k 0 ≤ 1000000000000000 := fun k => arr_bdD hok' k
  have HCLO : Hid (∀ pc W, Box W w.heap.size c (.slice a1 n1 c1) (.slice a2 n2 c2) → Box W (w.heap.size + 1) d (.slice b1 m1 d1) (.slice b2 m2 d2) → W.cell? ⟨pc, 0, none⟩ = some (.int .i64 (m : Nat)) → Below w.heap.size w W → ElemOk ga gb 83 #[.pointer (some ⟨w.heap.size, 0, none⟩), .pointer (some ⟨pc, 0, none⟩), .pointer (some ⟨w.heap.size + 1, 0, none⟩)] (fun _ => decEl (decStep dt dt' n2 m2 m)) 1 W) := fun pc W hA hB hC hb k hk W2 hW2 => by
    have hpl := World.block_lt_of_cell? _ _ hC
    exact decodeClo ga gb c d a1 a2 b1 b2 n1 n2 m1 m2 c1 c2 d1 d2 w.heap.size pc (w.heap.size + 1) m k dt dt' W2 (hA.below (Nat.le_refl _) hW2) (hB.below (Nat.le_refl _) hW2) ((hW2.cell (p := ⟨pc, 0, none⟩) hpl).trans hC) (h2.below (Nat.le_refl _) (hb.trans (hW2.mono hb.size))) (k2.below (Nat.le_refl _) (hb.trans (hW2.mono hb.size))) (hG.below (hb.trans (hW2.mono hb.size))) hlen hne hlm hbd hbd'
  have HGD := hide hG
  rw [hrr] at HCLO
  clear hr hok hok' hn hm hne hlm hbd hbd' hlen hmm hrr hG
  have hs2 := h2.small
  have hs4 := k2.small
  obtain ⟨W0, hW0⟩ : ∃ W0, W0 = (((w.alloc (.cells #[.bool c, .slice a1 n1 c1, .slice a2 n2 c2] 25)).alloc (.cells #[.bool d, .slice b1 m1 d1, .slice b2 m2 d2] 25)).alloc (.cells #[.bool false, .slice none 0 0, .slice none 0 0] 25)) := ⟨_, rfl⟩
  have hbW : Below w.heap.size w W0 := by rw [hW0]; exact (((Below.refl _ w).alloc (Nat.le_refl _) _).alloc (by simp) _).alloc (by simp; omega) _
  have HBOX : Hid (∀ wx, Below W0.heap.size W0 wx → Box wx w.heap.size c (.slice a1 n1 c1) (.slice a2 n2 c2) ∧ Box wx (w.heap.size + 1) d (.slice b1 m1 d1) (.slice b2 m2 d2) ∧ Box wx (w.heap.size + 2) false (.slice none 0 0) (.slice none 0 0) ∧ Below w.heap.size w wx) := fun wx hwx => by rw [hW0] at hwx; exact boxes3 hwx
  have HL1 : Hid (∀ wx, Below W0.heap.size W0 wx → Calls Tryz.prog 59 #[.agg #[.bool c, .slice a1 n1 c1, .slice a2 n2 c2], .agg #[.bool d, .slice b1 m1 d1, .slice b2 m2 d2]] wx fun e w' => e = .returned (.int .i64 r1) ∧ Below wx.heap.size wx w') := fun wx hwx => implListCode_any c d a1 a2 b1 b2 n1 n2 m1 m2 c1 c2 d1 d2 sh dt sh' dt' wx (h1.below (Nat.le_refl _) (hbW.trans (hwx.mono hbW.size))) (h2.below (Nat.le_refl _) (hbW.trans (hwx.mono hbW.size))) (k1.below (Nat.le_refl _) (hbW.trans (hwx.mono hbW.size))) (k2.below (Nat.le_refl _) (hbW.trans (hwx.mono hbW.size))) r1 hr1
  have HL2 : Hid (∀ wx, Below W0.heap.size W0 wx → Calls Tryz.prog 59 #[.agg #[.bool d, .slice b1 m1 d1, .slice b2 m2 d2], .agg #[.bool c, .slice a1 n1 c1, .slice a2 n2 c2]] wx fun e w' => e = .returned (.int .i64 r2) ∧ Below wx.heap.size wx w') := fun wx hwx => implListCode_any d c b1 b2 a1 a2 m1 m2 n1 n2 d1 d2 c1 c2 sh' dt' sh dt wx (k1.below (Nat.le_refl _) (hbW.trans (hwx.mono hbW.size))) (k2.below (Nat.le_refl _) (hbW.trans (hwx.mono hbW.size))) (h1.below (Nat.le_refl _) (hbW.trans (hwx.mono hbW.size))) (h2.below (Nat.le_refl _) (hbW.trans (hwx.mono hbW.size))) r2 hr2
  have HKEEP : ∀ wx, Below W0.heap.size W0 wx → Below W0.heap.size W0 wx ∧ (wx.cell? ⟨w.heap.size, 0, none⟩ = some (.bool c) ∧ wx.cell? ⟨w.heap.size, 1, none⟩ = some (.slice a1 n1 c1) ∧ wx.cell? ⟨w.heap.size, 2, none⟩ = some (.slice a2 n2 c2)) ∧ (wx.cell? ⟨w.heap.size + 1, 0, none⟩ = some (.bool d) ∧ wx.cell? ⟨w.heap.size + 1, 1, none⟩ = some (.slice b1 m1 d1) ∧ wx.cell? ⟨w.heap.size + 1, 2, none⟩ = some (.slice b2 m2 d2)) := fun wx hwx => ⟨hwx, (unhide HBOX _ hwx).1.cells, (unhide HBOX _ hwx).2.1.cells⟩
  clear h1 h2 k1 k2 hr1 hr2 hbW
  obtain ⟨_, ⟨x0, x1, x2⟩, ⟨y0, y1, y2⟩⟩ := HKEEP _ (Below.refl _ _)
  go_enter Tryz.func25, Tryz.ntmps25
  go_upto_region 1 with fail
  rw [← hW0]
  clear hW0
  go_region_held (fun wx => Below W0.heap.size W0 wx ∧ (wx.cell? ⟨w.heap.size, 0, none⟩ = some (.bool c) ∧ wx.cell? ⟨w.heap.size, 1, none⟩ = some (.slice a1 n1 c1) ∧ wx.cell? ⟨w.heap.size, 2, none⟩ = some (.slice a2 n2 c2)) ∧ (wx.cell? ⟨w.heap.size + 1, 0, none⟩ = some (.bool d) ∧ wx.cell? ⟨w.heap.size + 1, 1, none⟩ = some (.slice b1 m1 d1) ∧ wx.cell? ⟨w.heap.size + 1, 2, none⟩ = some (.slice b2 m2 d2))) (first | exact HKEEP _ hKC | exact HKEEP _ (hKB.alloc hKB.size _) | exact HKEEP _ hKB | exact HKEEP _ hKA | exact HKEEP _ (Below.refl _ _).drew | (refine HKEEP _ ?_; repeat (first | exact hKC | exact hKB | exact hKA | exact Below.refl _ _ | refine Below.drew ?_ | refine Below.alloc ?_ (by first | omega | (simp <;> omega)) _)))
    (first
    | (go_at_call 59; have hz := hKA; refine (unhide HL2 _ hKA).mono ?_; rintro e wB ⟨rfl, hbB⟩; have hKB : Below W0.heap.size W0 wB := hKA.trans (hbB.mono hKA.size); obtain ⟨_, ⟨x0, x1, x2⟩, ⟨y0, y1, y2⟩⟩ := HKEEP _ hKB)
    | (go_at_call 59; refine (unhide HL1 _ (Below.refl _ _).drew).mono ?_; rintro e wA ⟨rfl, hbA⟩; have hKA : Below W0.heap.size W0 wA := (Below.refl _ _).drew.trans (hbA.mono (by simp)); obtain ⟨_, ⟨x0, x1, x2⟩, ⟨y0, y1, y2⟩⟩ := HKEEP _ hKA)
    | (go_at_call 82; refine (or_any r1 r2 wB.heap.size _ (by exact cell_of_row _ _ 0 _ _ (0, 0) (heap_alloc_last wB _)) (by exact cell_of_row _ _ 1 _ _ (0, 0) (heap_alloc_last wB _))).mono ?_; rintro e wC ⟨rfl, hwC⟩; have hKC : Below W0.heap.size W0 wC := (by rw [hwC]; repeat (first | exact hKB | refine Below.drew ?_ | refine Below.alloc ?_ (by first | omega | (have := hKB.size; omega)) _)); clear hwC; obtain ⟨_, ⟨x0, x1, x2⟩, ⟨y0, y1, y2⟩⟩ := HKEEP _ hKC))
  all_goals rw [unhide HR]
  all_goals go_wp2_with fail
  all_goals refine (unhide HJ _ (unhide HBOX _ hKC).2.2.2).mono ?_
  all_goals (rintro e wJ ⟨cnt, rfl, hcnt, hbJ⟩; have hct := hcnt trivial; subst hct; have hKJ : Below W0.heap.size W0 wJ := hKC.trans (hbJ.mono hKC.size); clear hbJ hcnt)
  all_goals
    have hKX : Below W0.heap.size W0 (wJ.alloc (.cells #[.int .i64 (cnt : Nat)] 3)) := hKJ.alloc hKJ.size _
    obtain ⟨bA, bB, bR, bl⟩ := unhide HBOX _ hKX
    have hcC : (wJ.alloc (.cells #[.int .i64 (cnt : Nat)] 3)).cell? ⟨wJ.heap.size, 0, none⟩ = some (.int .i64 (cnt : Nat)) := cell_of_row _ _ 0 _ _ (0, 0) (heap_alloc_last wJ _)
    have HEL := hide (unhide HCLO wJ.heap.size _ bA bB hcC bl)
    have HGX := hide ((unhide HGD).below bl)
    have HBR := hide bR
    have HBL := hide bl
    have egd : ∀ args w, (callFunc 83 args).run Tryz.prog w = .ok (.enter 83 args) w := enters_of Tryz.func83 (by kernel_rfl) rfl
    clear bA bB bR bl hcC hKX
    go_wp2_with (go_at_call 52; refine (reckoned1 ga gb 83 _ egd _ _ (.inl rfl) _ (unhide HGX) (unhide HEL)).mono ?_; rintro e wR ⟨hres, hbR⟩; obtain ⟨_, p, hp, rfl, hblk⟩ | ⟨hne, _⟩ := hres; rotate_left; exact absurd (by simp [firstCode]) hne; have HK := hide (show Blk wR p [v] from hblk); have HP := hide hp; clear hblk hp; have HBX := hide ((unhide HBR).below (Nat.le_refl _) hbR); have HLW := hide ((unhide HBL).trans (hbR.mono (unhide HBL).size)); obtain ⟨q0, q1, q2, q3, q4, q5, q6⟩ := (unhide HBX).all; clear hbR)
    have hx : Box (((wR.setCell ⟨w.heap.size + 1 + 1, 0, none⟩ (.bool false)).setCell ⟨w.heap.size + 1 + 1, 1, none⟩ (.slice none 0 0)).setCell ⟨w.heap.size + 1 + 1, 2, none⟩ (.slice (some ⟨p, 0, none⟩) 1 1)) (w.heap.size + 1 + 1) false (.slice none 0 0) (.slice (some ⟨p, 0, none⟩) 1 1) := (unhide HBX).sets
    obtain ⟨s0, s1, s2, _, _, _, _⟩ := hx.all
    refine bodyPost_ret (v := .tuple #[.agg #[.bool false, .slice none 0 0, .slice (some ⟨p, 0, none⟩) 1 1], .int .i64 0]) (by simp [results, Tryz.results25, go_sem, s0, s1, s2]) rfl ?_
    have hz := (unhide HBR).lt
    have hk : Blk wR p [v] := unhide HK
    have hp' := unhide HP
    have hne : p ≠ w.heap.size + 2 := by omega
    refine ⟨none, 0, 0, some ⟨p, 0, none⟩, 1, 1, rfl, own_none _ _ _, Blk.own (((hk.other (p := ⟨w.heap.size + 2, 0, none⟩) hne _).other (p := ⟨w.heap.size + 2, 1, none⟩) hne _).other (p := ⟨w.heap.size + 2, 2, none⟩) hne _) rfl (by omega) (by have := (unhide HBL).size; omega), fun _ h => absurd rfl h.1, (((unhide HLW).setCell (by simp <;> omega) _).setCell (by simp <;> omega) _).setCell (by simp <;> omega) _⟩

set_option maxRecDepth 20000 in
set_option maxHeartbeats 4000000 in
theorem implDecode_none (c d : Bool) (a1 a2 b1 b2 : Option Addr) (n1 n2 m1 m2 c1 c2 d1 d2 : Nat) (sh dt sh' dt' : List Int) (w : World) (h1 : Row w a1 n1 sh) (h2 : Row w a2 n2 dt) (k1 : Row w b1 m1 sh') (k2 : Row w b2 m2 dt') (r1 r2 : Int) (hr1 : Hid (codeList c d sh dt sh' dt' = r1)) (hr2 : Hid (codeList d c sh' dt' sh dt = r2)) (ga gb : Addr) (hG : GlD w ga gb) (hr : orOf r1 r2 = 0) (hok : arrOk c sh dt = true) (hok' : arrOk d sh' dt' = true) (hn : n1 ≤ 1) (hm : m1 ≤ 1) (hne : n2 = 1 ∨ n2 = decLen n2 m2) (hrr : decStep dt dt' n2 m2 (decLen n2 m2) = none) :
    Calls Tryz.prog 25 #[.agg #[.bool c, .slice a1 n1 c1, .slice a2 n2 c2], .agg #[.bool d, .slice b1 m1 d1, .slice b2 m2 d2]] w (GivesOwn w (noAns 7)) := by
  have HR := hide hr
  have hlm : m2 = 1 ∨ m2 = decLen n2 m2 := by unfold decLen; split <;> omega
  have HJ : Hid (∀ wx, Below w.heap.size w wx → _) := fun wx hwx => jointCountD c d a1 a2 b1 b2 n1 n2 m1 m2 c1 c2 d1 d2 sh dt sh' dt' wx (h1.below (Nat.le_refl _) hwx) (k1.below (Nat.le_refl _) hwx) hok hok' h2.len k2.len hn hm 0 (hide (by rw [if_neg (by omega)]))
  have hlen : decLen n2 m2 ≤ 10000 := by
    have e1 := (arr_parts hok).2
    have e2 := (count_bd sh).2
    have e3 := (arr_parts hok').2
    have e4 := (count_bd sh').2
    rw [h2.len] at e1
    rw [k2.len] at e3
    unfold decLen
    split <;> omega
  obtain ⟨m, hmm⟩ : ∃ m, decLen n2 m2 = m := ⟨_, rfl⟩
  rw [hmm] at hlen hne hlm HJ hrr
  have hbd : ∀ k, -1000000000000000 ≤ dt.getD k 0 ∧ dt.getD k 0 ≤ 1000000000000000 := fun k => arr_bdD hok k
  have hbd' : ∀ k, -1000000000000000 ≤ dt'.getD k 0 ∧ dt'.getD k 0 ≤ 1000000000000000 := fun k => arr_bdD hok' k
  have HCLO : Hid (∀ pc W, Box W w.heap.size c (.slice a1 n1 c1) (.slice a2 n2 c2) → Box W (w.heap.size + 1) d (.slice b1 m1 d1) (.slice b2 m2 d2) → W.cell? ⟨pc, 0, none⟩ = some (.int .i64 (m : Nat)) → Below w.heap.size w W → ElemOk ga gb 83 #[.pointer (some ⟨w.heap.size, 0, none⟩), .pointer (some ⟨pc, 0, none⟩), .pointer (some ⟨w.heap.size + 1, 0, none⟩)] (fun _ => decEl (decStep dt dt' n2 m2 m)) 1 W) := fun pc W hA hB hC hb k hk W2 hW2 => by
    have hpl := World.block_lt_of_cell? _ _ hC
    exact decodeClo ga gb c d a1 a2 b1 b2 n1 n2 m1 m2 c1 c2 d1 d2 w.heap.size pc (w.heap.size + 1) m k dt dt' W2 (hA.below (Nat.le_refl _) hW2) (hB.below (Nat.le_refl _) hW2) ((hW2.cell (p := ⟨pc, 0, none⟩) hpl).trans hC) (h2.below (Nat.le_refl _) (hb.trans (hW2.mono hb.size))) (k2.below (Nat.le_refl _) (hb.trans (hW2.mono hb.size))) (hG.below (hb.trans (hW2.mono hb.size))) hlen hne hlm hbd hbd'
  have HGD := hide hG
  rw [hrr] at HCLO
  clear hr hok hok' hn hm hne hlm hbd hbd' hlen hmm hrr hG
  have hs2 := h2.small
  have hs4 := k2.small
  obtain ⟨W0, hW0⟩ : ∃ W0, W0 = (((w.alloc (.cells #[.bool c, .slice a1 n1 c1, .slice a2 n2 c2] 25)).alloc (.cells #[.bool d, .slice b1 m1 d1, .slice b2 m2 d2] 25)).alloc (.cells #[.bool false, .slice none 0 0, .slice none 0 0] 25)) := ⟨_, rfl⟩
  have hbW : Below w.heap.size w W0 := by rw [hW0]; exact (((Below.refl _ w).alloc (Nat.le_refl _) _).alloc (by simp) _).alloc (by simp; omega) _
  have HBOX : Hid (∀ wx, Below W0.heap.size W0 wx → Box wx w.heap.size c (.slice a1 n1 c1) (.slice a2 n2 c2) ∧ Box wx (w.heap.size + 1) d (.slice b1 m1 d1) (.slice b2 m2 d2) ∧ Box wx (w.heap.size + 2) false (.slice none 0 0) (.slice none 0 0) ∧ Below w.heap.size w wx) := fun wx hwx => by rw [hW0] at hwx; exact boxes3 hwx
  have HL1 : Hid (∀ wx, Below W0.heap.size W0 wx → Calls Tryz.prog 59 #[.agg #[.bool c, .slice a1 n1 c1, .slice a2 n2 c2], .agg #[.bool d, .slice b1 m1 d1, .slice b2 m2 d2]] wx fun e w' => e = .returned (.int .i64 r1) ∧ Below wx.heap.size wx w') := fun wx hwx => implListCode_any c d a1 a2 b1 b2 n1 n2 m1 m2 c1 c2 d1 d2 sh dt sh' dt' wx (h1.below (Nat.le_refl _) (hbW.trans (hwx.mono hbW.size))) (h2.below (Nat.le_refl _) (hbW.trans (hwx.mono hbW.size))) (k1.below (Nat.le_refl _) (hbW.trans (hwx.mono hbW.size))) (k2.below (Nat.le_refl _) (hbW.trans (hwx.mono hbW.size))) r1 hr1
  have HL2 : Hid (∀ wx, Below W0.heap.size W0 wx → Calls Tryz.prog 59 #[.agg #[.bool d, .slice b1 m1 d1, .slice b2 m2 d2], .agg #[.bool c, .slice a1 n1 c1, .slice a2 n2 c2]] wx fun e w' => e = .returned (.int .i64 r2) ∧ Below wx.heap.size wx w') := fun wx hwx => implListCode_any d c b1 b2 a1 a2 m1 m2 n1 n2 d1 d2 c1 c2 sh' dt' sh dt wx (k1.below (Nat.le_refl _) (hbW.trans (hwx.mono hbW.size))) (k2.below (Nat.le_refl _) (hbW.trans (hwx.mono hbW.size))) (h1.below (Nat.le_refl _) (hbW.trans (hwx.mono hbW.size))) (h2.below (Nat.le_refl _) (hbW.trans (hwx.mono hbW.size))) r2 hr2
  have HKEEP : ∀ wx, Below W0.heap.size W0 wx → Below W0.heap.size W0 wx ∧ (wx.cell? ⟨w.heap.size, 0, none⟩ = some (.bool c) ∧ wx.cell? ⟨w.heap.size, 1, none⟩ = some (.slice a1 n1 c1) ∧ wx.cell? ⟨w.heap.size, 2, none⟩ = some (.slice a2 n2 c2)) ∧ (wx.cell? ⟨w.heap.size + 1, 0, none⟩ = some (.bool d) ∧ wx.cell? ⟨w.heap.size + 1, 1, none⟩ = some (.slice b1 m1 d1) ∧ wx.cell? ⟨w.heap.size + 1, 2, none⟩ = some (.slice b2 m2 d2)) := fun wx hwx => ⟨hwx, (unhide HBOX _ hwx).1.cells, (unhide HBOX _ hwx).2.1.cells⟩
  clear h1 h2 k1 k2 hr1 hr2 hbW
  obtain ⟨_, ⟨x0, x1, x2⟩, ⟨y0, y1, y2⟩⟩ := HKEEP _ (Below.refl _ _)
  go_enter Tryz.func25, Tryz.ntmps25
  go_upto_region 1 with fail
  rw [← hW0]
  clear hW0
  go_region_held (fun wx => Below W0.heap.size W0 wx ∧ (wx.cell? ⟨w.heap.size, 0, none⟩ = some (.bool c) ∧ wx.cell? ⟨w.heap.size, 1, none⟩ = some (.slice a1 n1 c1) ∧ wx.cell? ⟨w.heap.size, 2, none⟩ = some (.slice a2 n2 c2)) ∧ (wx.cell? ⟨w.heap.size + 1, 0, none⟩ = some (.bool d) ∧ wx.cell? ⟨w.heap.size + 1, 1, none⟩ = some (.slice b1 m1 d1) ∧ wx.cell? ⟨w.heap.size + 1, 2, none⟩ = some (.slice b2 m2 d2))) (first | exact HKEEP _ hKC | exact HKEEP _ (hKB.alloc hKB.size _) | exact HKEEP _ hKB | exact HKEEP _ hKA | exact HKEEP _ (Below.refl _ _).drew | (refine HKEEP _ ?_; repeat (first | exact hKC | exact hKB | exact hKA | exact Below.refl _ _ | refine Below.drew ?_ | refine Below.alloc ?_ (by first | omega | (simp <;> omega)) _)))
    (first
    | (go_at_call 59; have hz := hKA; refine (unhide HL2 _ hKA).mono ?_; rintro e wB ⟨rfl, hbB⟩; have hKB : Below W0.heap.size W0 wB := hKA.trans (hbB.mono hKA.size); obtain ⟨_, ⟨x0, x1, x2⟩, ⟨y0, y1, y2⟩⟩ := HKEEP _ hKB)
    | (go_at_call 59; refine (unhide HL1 _ (Below.refl _ _).drew).mono ?_; rintro e wA ⟨rfl, hbA⟩; have hKA : Below W0.heap.size W0 wA := (Below.refl _ _).drew.trans (hbA.mono (by simp)); obtain ⟨_, ⟨x0, x1, x2⟩, ⟨y0, y1, y2⟩⟩ := HKEEP _ hKA)
    | (go_at_call 82; refine (or_any r1 r2 wB.heap.size _ (by exact cell_of_row _ _ 0 _ _ (0, 0) (heap_alloc_last wB _)) (by exact cell_of_row _ _ 1 _ _ (0, 0) (heap_alloc_last wB _))).mono ?_; rintro e wC ⟨rfl, hwC⟩; have hKC : Below W0.heap.size W0 wC := (by rw [hwC]; repeat (first | exact hKB | refine Below.drew ?_ | refine Below.alloc ?_ (by first | omega | (have := hKB.size; omega)) _)); clear hwC; obtain ⟨_, ⟨x0, x1, x2⟩, ⟨y0, y1, y2⟩⟩ := HKEEP _ hKC))
  all_goals rw [unhide HR]
  all_goals go_wp2_with fail
  all_goals refine (unhide HJ _ (unhide HBOX _ hKC).2.2.2).mono ?_
  all_goals (rintro e wJ ⟨cnt, rfl, hcnt, hbJ⟩; have hct := hcnt trivial; subst hct; have hKJ : Below W0.heap.size W0 wJ := hKC.trans (hbJ.mono hKC.size); clear hbJ hcnt)
  all_goals
    have hKX : Below W0.heap.size W0 (wJ.alloc (.cells #[.int .i64 (cnt : Nat)] 3)) := hKJ.alloc hKJ.size _
    obtain ⟨bA, bB, bR, bl⟩ := unhide HBOX _ hKX
    have hcC : (wJ.alloc (.cells #[.int .i64 (cnt : Nat)] 3)).cell? ⟨wJ.heap.size, 0, none⟩ = some (.int .i64 (cnt : Nat)) := cell_of_row _ _ 0 _ _ (0, 0) (heap_alloc_last wJ _)
    have HEL := hide (unhide HCLO wJ.heap.size _ bA bB hcC bl)
    have HGX := hide ((unhide HGD).below bl)
    have HBR := hide bR
    have HBL := hide bl
    have egd : ∀ args w, (callFunc 83 args).run Tryz.prog w = .ok (.enter 83 args) w := enters_of Tryz.func83 (by kernel_rfl) rfl
    clear bA bB bR bl hcC hKX
    go_wp2_with (go_at_call 52; refine (reckoned1 ga gb 83 _ egd _ _ (.inr rfl) _ (unhide HGX) (unhide HEL)).mono ?_; rintro e wR ⟨hres, hbR⟩; obtain ⟨hne, _⟩ | ⟨_, he⟩ := hres; exact absurd hne (by decide); have he7 : e = .returned (.tuple #[.agg #[.bool false, .slice none 0 0, .slice none 0 0], .int .i64 7]) := he; subst he7; clear he; have HBX := hide ((unhide HBR).below (Nat.le_refl _) hbR); have HLW := hide ((unhide HBL).trans (hbR.mono (unhide HBL).size)); obtain ⟨q0, q1, q2, q3, q4, q5, q6⟩ := (unhide HBX).all; clear hbR)
    have hx : Box (((wR.setCell ⟨w.heap.size + 1 + 1, 0, none⟩ (.bool false)).setCell ⟨w.heap.size + 1 + 1, 1, none⟩ (.slice none 0 0)).setCell ⟨w.heap.size + 1 + 1, 2, none⟩ (.slice none 0 0)) (w.heap.size + 1 + 1) false (.slice none 0 0) (.slice none 0 0) := (unhide HBX).sets
    obtain ⟨s0, s1, s2, _, _, _, _⟩ := hx.all
    refine bodyPost_ret (v := .tuple #[.agg #[.bool false, .slice none 0 0, .slice none 0 0], .int .i64 7]) (by simp [results, Tryz.results25, go_sem, s0, s1, s2]) rfl ?_
    exact gives_none ((((unhide HLW).setCell (by simp <;> omega) _).setCell (by simp <;> omega) _).setCell (by simp <;> omega) _)

end Go.Proofs.YtkgcmpmgaghdhaaGreatDoor
