import Derived.Test.YtkgcmpmgaghdhaaGreatDoorImplDecode
import Derived.Test.YtkgcmpmgaghdhaaGreatDoorMFit1
import Derived.Test.YtkgcmpmgaghdhaaGreatDoorMFit0
import Derived.Test.YtkgcmpmgaghdhaaGreatDoorMFit2
import Derived.Test.YtkgcmpmgaghdhaaGreatDoorImplReck
import Derived.Deep.RegionHeld
namespace Go.Proofs.YtkgcmpmgaghdhaaGreatDoor
open Go.RowKit Go.Shelf

set_option maxRecDepth 20000 in
set_option maxHeartbeats 2000000 in
theorem jointCountD (c d : Bool) (a1 a2 b1 b2 : Option Addr) (n1 n2 m1 m2 c1 c2 d1 d2 : Nat) (sh dt sh' dt' : List Int) (w : World) (h1 : Row w a1 n1 sh) (hk1 : Row w b1 m1 sh') (hok : arrOk c sh dt = true) (hok' : arrOk d sh' dt' = true) (hl : dt.length = n2) (hl' : dt'.length = m2) (hr : n1 ≤ 1) (hr' : m1 ≤ 1) (code : Int) (hc : Hid ((if n2 ≠ 1 ∧ n2 ≠ decLen n2 m2 then 5 else 0) = code)) :
    Calls Tryz.prog 63 #[.agg #[.bool c, .slice a1 n1 c1, .slice a2 n2 c2], .agg #[.bool d, .slice b1 m1 d1, .slice b2 m2 d2]] w fun e w' => ∃ cnt : Nat, e = .returned (.tuple #[.int .i64 (cnt : Nat), .int .i64 code]) ∧ (code = 0 → cnt = decLen n2 m2) ∧ Below w.heap.size w w' := by
  obtain ⟨hin, hpr, _⟩ := shapeIn_of hok
  obtain ⟨hin', hpr', _⟩ := shapeIn_of hok'
  have hbd := hin.bd
  have hbd' := hin'.bd
  rw [hpr, hl] at hbd
  rw [hpr', hl'] at hbd'
  have hlen := h1.len
  have hlen' := hk1.len
  rw [hl] at hpr
  rw [hl'] at hpr'
  have one : ∀ {s : List Int} {k m : Nat}, s.length = k → prodAll s = ((m : Nat) : Int) → k = 1 → s = [(m : Int)] := fun {s k m} hs hp h => by
    obtain ⟨x, rfl⟩ := List.length_eq_one_iff.1 (hs.trans h)
    simp [prodAll] at hp
    rw [hp]
  have non : ∀ {s : List Int} {k m : Nat}, s.length = k → prodAll s = ((m : Nat) : Int) → k = 0 → m = 1 := fun {s k m} hs hp h => by
    have e := List.length_eq_zero_iff.1 (hs.trans h)
    subst e
    simp [prodAll] at hp
    omega
  have HJC : Hid (jointCode n1 n2 m1 m2 sh sh' = code) := by
    show _ = _
    rw [← unhide hc]
    unfold jointCode
    by_cases hB : m2 = 1
    · rw [if_pos (show wideB n1 n2 m1 m2 = true ∨ m2 = 1 from .inr hB), if_neg (show ¬ (n2 ≠ 1 ∧ n2 ≠ decLen n2 m2) from by simp [decLen, hB])]
    · by_cases hA : n2 = 1
      · rw [if_pos (show wideB n1 n2 m1 m2 = true ∨ m2 = 1 from .inl (by simp [wideB, hA, hB])), if_neg (show ¬ (n2 ≠ 1 ∧ n2 ≠ decLen n2 m2) from by simp [hA])]
      · rw [if_neg (show ¬ (wideB n1 n2 m1 m2 = true ∨ m2 = 1) from by simp [wideB, hA, hB])]
        have e1 : n1 = 1 := by
          rcases Nat.lt_or_ge n1 1 with h | h
          · exact absurd (non hlen hpr (by omega)) hA
          · omega
        have e2 : m1 = 1 := by
          rcases Nat.lt_or_ge m1 1 with h | h
          · exact absurd (non hlen' hpr' (by omega)) hB
          · omega
        rw [if_neg (show ¬ n1 ≠ m1 by omega), one hlen hpr e1, one hlen' hpr' e2]
        by_cases hnl : n2 = m2
        · rw [if_neg (show ¬ ([(n2 : Int)] ≠ [(m2 : Int)]) by simp [hnl]), if_neg (show ¬ (n2 ≠ 1 ∧ n2 ≠ decLen n2 m2) from by simp [decLen, hB, hnl])]
        · rw [if_pos (show [(n2 : Int)] ≠ [(m2 : Int)] by simp; omega), if_pos (show n2 ≠ 1 ∧ n2 ≠ decLen n2 m2 from ⟨hA, by simp [decLen, hB, hnl]⟩)]
  have HJS : Hid (code = 0 → ShapeIn (jointSh n1 n2 m1 m2 sh sh') ∧ prodAll (jointSh n1 n2 m1 m2 sh sh') = ((decLen n2 m2 : Nat) : Int)) := fun h0 => by
    have hnc : ¬ (n2 ≠ 1 ∧ n2 ≠ decLen n2 m2) := fun hh => by have := unhide hc; rw [if_pos hh] at this; omega
    unfold jointSh wideB
    unfold decLen at hnc ⊢
    by_cases hw : (decide (n2 = 1) && (decide (m2 ≠ 1) || decide (n1 < m1))) = true
    · rw [if_pos hw]
      refine ⟨hin', ?_⟩
      rw [hpr']
      simp at hw
      split <;> omega
    · rw [if_neg hw]
      refine ⟨hin, ?_⟩
      rw [hpr]
      simp at hw
      split
      · rfl
      · rename_i hm
        rw [if_neg hm] at hnc
        by_cases hn : n2 = 1
        · exact absurd (hw hn).1 hm
        · have : n2 = m2 := by omega
          rw [this]
  have HJ := hide (jointShape_any c d a1 a2 b1 b2 n1 n2 m1 m2 c1 c2 d1 d2 sh sh')
  have H1 := hide h1
  have K1 := hide hk1
  clear h1 hk1 hok hok' hin hin' hpr hpr' one non hc hlen hlen' hl hl'
  go_enter Tryz.func63, Tryz.ntmps63
  go_wp2_with fail
  refine (unhide HJ _ (((unhide H1).alloc _).alloc _) (((unhide K1).alloc _).alloc _) (by omega) (by omega)).mono ?_
  rintro e w1 ⟨hcase, hb1⟩
  rw [unhide HJC] at hcase
  have HB1 : Hid (Below w.heap.size w w1) := ((((Below.refl _ w).alloc (Nat.le_refl _) _).alloc (by simp) _).trans (hb1.mono (by simp; omega)))
  clear hb1
  rcases hcase with ⟨h0, a', k, cap', rfl, hO⟩ | ⟨h0, rfl⟩
  · subst h0
    obtain ⟨s1, s2⟩ := unhide HJS rfl
    have HP := hide s2
    have HO := hide hO
    clear hO s2
    go_wp2_with (go_at_call 51; refine (cellsOf_nD _ _ _ _ _ (unhide HO).row s1 _ HP).mono ?_; rintro e w2 ⟨rfl, hw⟩; obtain rfl := hw.symm)
    go_ret2
    first | exact ⟨_, rfl, rfl, unhide HB1⟩ | exact ⟨_, rfl, fun _ => rfl, unhide HB1⟩
  · have s1 : ShapeIn [] := ⟨rfl, 1, rfl⟩
    have HP : Hid (prodAll [] = ((1 : Nat) : Int)) := hide rfl
    go_wp2_with (go_at_call 51; refine (cellsOf_nD none 0 0 [] _ (row_nil _ _) s1 _ HP).mono ?_; rintro e w2 ⟨rfl, hw⟩; obtain rfl := hw.symm)
    go_ret2
    exact ⟨1, rfl, fun h => absurd h h0, unhide HB1⟩

/-- How a list goes through an extended strip. -/
theorem ext_at {dt : List Int} {n2 m : Nat} (h : n2 = 1 ∨ n2 = m) (k : Nat) (hk : k < m) : 0 + k * (if n2 = 1 then 0 else 1) < n2 ∧ dt.getD (0 + k * (if n2 = 1 then 0 else 1)) 0 = dt.getD (k % n2) 0 := by
  by_cases h1 : n2 = 1
  · subst h1
    simp [Nat.mod_one]
  · have e : n2 = m := by omega
    rw [if_neg h1, Nat.mul_one, Nat.zero_add, Nat.mod_eq_of_lt (by omega)]
    exact ⟨by omega, rfl⟩

set_option maxRecDepth 20000 in
set_option maxHeartbeats 4000000 in
theorem decodeClo (ga gb : Addr) (c d : Bool) (a1 a2 b1 b2 : Option Addr) (n1 n2 m1 m2 c1 c2 d1 d2 pa pc pb m k : Nat) (dt dt' : List Int) (W : World) (hA : Box W pa c (.slice a1 n1 c1) (.slice a2 n2 c2)) (hB : Box W pb d (.slice b1 m1 d1) (.slice b2 m2 d2)) (hC : W.cell? ⟨pc, 0, none⟩ = some (.int .i64 (m : Nat))) (h2 : Row W a2 n2 dt) (k2 : Row W b2 m2 dt') (hG : GlD W ga gb) (hm : m ≤ 10000)
    (hn : n2 = 1 ∨ n2 = m) (hn' : m2 = 1 ∨ m2 = m) (hb : ∀ k, -1000000000000000 ≤ dt.getD k 0 ∧ dt.getD k 0 ≤ 1000000000000000) (hb' : ∀ k, -1000000000000000 ≤ dt'.getD k 0 ∧ dt'.getD k 0 ≤ 1000000000000000) :
    Calls Tryz.prog 83 #[.int .i64 (k : Nat), .pointer (some ⟨pa, 0, none⟩), .pointer (some ⟨pc, 0, none⟩), .pointer (some ⟨pb, 0, none⟩)] W fun e w' => e = .returned (.tuple #[.int .i64 (decEl (decStep dt dt' n2 m2 m)).1, errV ga gb (decEl (decStep dt dt' n2 m2 m)).2]) ∧ Below W.heap.size W w' := by
  obtain ⟨z, hz⟩ : ∃ z : Nat, z = 0 := ⟨_, rfl⟩
  have hs2 := h2.small
  have hs4 := k2.small
  have HE : Hid (∀ wx, Calls Tryz.prog 54 #[.agg #[.bool c, .slice a1 n1 c1, .slice a2 n2 c2], .int .i64 (m : Nat)] wx fun e w' => e = .returned (.agg #[.slice a2 n2 c2, .int .i64 (z : Nat), .int .i64 ((if n2 = 1 then 0 else 1 : Nat) : Int), .int .i64 (m : Nat)]) ∧ Below wx.heap.size wx w') := fun wx => by rw [hz]; exact extended_any c a1 a2 n1 n2 c1 c2 m hs2 wx
  have HE' : Hid (∀ wx, Calls Tryz.prog 54 #[.agg #[.bool d, .slice b1 m1 d1, .slice b2 m2 d2], .int .i64 (m : Nat)] wx fun e w' => e = .returned (.agg #[.slice b2 m2 d2, .int .i64 (z : Nat), .int .i64 ((if m2 = 1 then 0 else 1 : Nat) : Int), .int .i64 (m : Nat)]) ∧ Below wx.heap.size wx w') := fun wx => by rw [hz]; exact extended_any d b1 b2 m1 m2 d1 d2 m hs4 wx
  have HD : Hid (∀ wx, Below W.heap.size W wx → _) := fun wx hwx => decoded_any ga gb a2 b2 n2 m2 c2 d2 z (if n2 = 1 then 0 else 1) (if m2 = 1 then 0 else 1) m dt dt' wx (h2.below (Nat.le_refl _) hwx) (k2.below (Nat.le_refl _) hwx) (hG.below hwx) hm (fun k hk => by rw [hz]; exact ext_at hn k hk) (fun k hk => by rw [hz]; exact ext_at hn' k hk) hb hb'
  have hpl := World.block_lt_of_cell? _ _ hC
  have HKEEP : ∀ wx, Below W.heap.size W wx → Below W.heap.size W wx ∧ wx.cell? ⟨pc, 0, none⟩ = some (.int .i64 (m : Nat)) ∧ (wx.cell? ⟨pa, 0, none⟩ = some (.bool c) ∧ wx.cell? ⟨pa, 1, none⟩ = some (.slice a1 n1 c1) ∧ wx.cell? ⟨pa, 2, none⟩ = some (.slice a2 n2 c2)) ∧ (wx.cell? ⟨pb, 0, none⟩ = some (.bool d) ∧ wx.cell? ⟨pb, 1, none⟩ = some (.slice b1 m1 d1) ∧ wx.cell? ⟨pb, 2, none⟩ = some (.slice b2 m2 d2)) := fun wx hwx => ⟨hwx, (hwx.cell (p := ⟨pc, 0, none⟩) hpl).trans hC, (hA.below (Nat.le_refl _) hwx).cells, (hB.below (Nat.le_refl _) hwx).cells⟩
  generalize decEl (decStep dt dt' n2 m2 m) = r at *
  obtain ⟨r1, r2⟩ := r
  generalize (if n2 = 1 then 0 else 1) = s1 at *
  generalize (if m2 = 1 then 0 else 1) = s2 at *
  obtain ⟨ev, hev⟩ : ∃ ev, ev = errV ga gb r2 := ⟨_, rfl⟩
  simp only [← hev]
  have HEV := hide hev
  clear hz hev h2 k2 hA hB hC hG hb hb' hn hn'
  obtain ⟨_, z0, ⟨x0, x1, x2⟩, ⟨y0, y1, y2⟩⟩ := HKEEP _ (Below.refl _ _)
  go_enter Tryz.func83, Tryz.ntmps83
  go_wp2_with fail
  go_region_held (fun wx => Below W.heap.size W wx ∧ wx.cell? ⟨pc, 0, none⟩ = some (.int .i64 (m : Nat)) ∧ (wx.cell? ⟨pa, 0, none⟩ = some (.bool c) ∧ wx.cell? ⟨pa, 1, none⟩ = some (.slice a1 n1 c1) ∧ wx.cell? ⟨pa, 2, none⟩ = some (.slice a2 n2 c2)) ∧ (wx.cell? ⟨pb, 0, none⟩ = some (.bool d) ∧ wx.cell? ⟨pb, 1, none⟩ = some (.slice b1 m1 d1) ∧ wx.cell? ⟨pb, 2, none⟩ = some (.slice b2 m2 d2))) (first | (refine HKEEP _ ?_; repeat (first | exact hKC | exact hKB | exact hKA | exact Below.refl _ _ | refine Below.drew ?_)))
    (first
    | (go_at_call_of 54 (Value.slice a2 n2 c2); refine (unhide HE _).mono ?_; rintro e wA ⟨rfl, hbA⟩; have hKA : Below W.heap.size W wA := (Below.refl _ _).drew.trans (hbA.mono (by simp)); obtain ⟨_, z0, ⟨x0, x1, x2⟩, ⟨y0, y1, y2⟩⟩ := HKEEP _ hKA)
    | (go_at_call_of 54 (Value.slice b2 m2 d2); refine (unhide HE' _).mono ?_; rintro e wB ⟨rfl, hbB⟩; have hKB : Below W.heap.size W wB := hKA.trans (hbB.mono hKA.size))
    | (go_at_call 84; refine (unhide HD _ hKB).mono ?_; rintro e wC ⟨rfl, hbC⟩; have hKC : Below W.heap.size W wC := hKB.trans (hbC.mono hKB.size); simp only [← unhide HEV]))
  go_wp2
  go_ret2
  exact ⟨rfl, hKC⟩

theorem arr_bdD {c : Bool} {sh dt : List Int} (h : arrOk c sh dt = true) (k : Nat) : -1000000000000000 ≤ dt.getD k 0 ∧ dt.getD k 0 ≤ 1000000000000000 := by
  by_cases hk : k < dt.length
  · exact dataOk_bd h hk
  · simp [List.getD, Nat.le_of_not_lt hk]

set_option maxHeartbeats 1000000 in
theorem reckoned1 (ga gb : Addr) (g : Nat) (lb : Array Value) (eg : ∀ args w, (callFunc g args).run Tryz.prog w = .ok (.enter g args) w) (r1 r2 : Int) (hr : r2 = 0 ∨ r2 = 7) (w : World) (hG : GlD w ga gb) (hE : ElemOk ga gb g lb (fun _ => (r1, r2)) 1 w) :
    Calls Tryz.prog 52 #[.slice none 0 0, .func (.func g) #[] lb] w (Reck w (fun _ => (r1, r2)) 1 none 0 0) := by
  have hf : ∀ k, k < 1 → codeIn (((fun _ => (r1, r2)) : Nat → Int × Int) k).2 := fun k _ => by rcases hr with h | h <;> simp [codeIn, h]
  have HE : Hid (∀ o, ElemOk ga gb g lb (fun _ => (r1, r2)) 1 (w.alloc o)) := fun o => hE.low ((Below.refl _ _).alloc (Nat.le_refl _) _)
  have HF := hide hf
  have HS : Hid (shapeB [] = true) := hide rfl
  have HC : Hid (countOf [] = ((1 : Nat) : Int)) := hide rfl
  have HG := hide hG
  have HFC : Hid (firstCode ((fun _ => (r1, r2)) : Nat → Int × Int) 1 = r2) := hide (by simp [firstCode])
  clear hE hf hG
  have HW : Hid (∀ o, Below w.heap.size w (w.alloc o)) := fun o => (Below.refl _ _).alloc (Nat.le_refl _) _
  by_cases h0 : firstCode ((fun _ => (r1, r2)) : Nat → Int × Int) 1 = 0
  · have HZ := hide h0
    clear h0
    go_enter Tryz.func52, Tryz.ntmps52
    go_wp2_with (first
      | (go_at_call 51; refine (cellsOf_count _ _ _ [] _ (row_nil _ _) (unhide HS) _ HC).mono ?_; rintro e w1 ⟨rfl, rfl⟩)
      | (go_at_call 98; refine (listOf_any ga gb g lb eg _ 1 _ (by omega) (unhide HF) (unhide HE _)).mono ?_; rintro e w2 ⟨hr, hb2⟩; obtain ⟨_, rfl, hblk⟩ | ⟨hne, _⟩ := hr; rotate_left; exact absurd (unhide HZ) hne; have hB := Box.below (Box.new w false (.slice none 0 0) (.slice none 0 0)) (Nat.le_refl _) hb2; obtain ⟨q0, q1, q2, q3, q4, q5, q6⟩ := hB.all; have HK := hide hblk; have HL := hide ((unhide HW _).trans (hb2.mono (by simp))); clear hb2 hblk hB))
    refine bodyPost_ret (v := .tuple #[.agg #[.bool false, .slice none 0 0, .slice (some ⟨w.heap.size + 1, 0, none⟩) 1 1], .int .i64 0]) (by simp [results, Tryz.results52, go_sem, q0, q1, q2]) rfl ?_
    refine ⟨.inl ⟨unhide HZ, w.heap.size + 1, by omega, rfl, ?_⟩, (((unhide HL).setCell (Nat.le_refl _) _).setCell (Nat.le_refl _) _).setCell (Nat.le_refl _) _⟩
    have hk : Blk w2 (w.heap.size + 1) (vals ((fun _ => (r1, r2)) : Nat → Int × Int) 1) := by simpa using unhide HK
    exact ((hk.other (by simp) _).other (by simp) _).other (by simp) _
  · have HZ := hide h0
    have HCD : Hid (∀ W, GlD W ga gb → Calls Tryz.prog 119 #[.iface 175 (.pointer (some gb))] W fun e w' => e = .returned (.int .i64 7) ∧ w' = W) := fun W h => codeOfD ga gb W h
    have hr7 : r2 = 7 := by rw [unhide HFC] at h0; omega
    subst hr7
    clear h0
    go_enter Tryz.func52, Tryz.ntmps52
    go_wp2_with (first
      | (go_at_call 51; refine (cellsOf_count _ _ _ [] _ (row_nil _ _) (unhide HS) _ HC).mono ?_; rintro e w1 ⟨rfl, rfl⟩)
      | (go_at_call 98; refine (listOf_any ga gb g lb eg _ 1 _ (by omega) (unhide HF) (unhide HE _)).mono ?_; rintro e w2 ⟨hr, hb2⟩; obtain ⟨hne, _⟩ | ⟨_, hci, rfl⟩ := hr; exact absurd hne (unhide HZ); rw [unhide HFC]; have hB := Box.below (Box.new w false (.slice none 0 0) (.slice none 0 0)) (Nat.le_refl _) hb2; obtain ⟨q0, q1, q2, q3, q4, q5, q6⟩ := hB.all; have HL := hide ((unhide HW _).trans (hb2.mono (by simp))); rw [errV_7]; clear hb2 hB hci)
      | (go_at_call 119; refine (unhide HCD _ ((unhide HG).below (unhide HL))).mono ?_; rintro e w3 ⟨rfl, rfl⟩))
    refine bodyPost_ret (v := .tuple #[.agg #[.bool false, .slice none 0 0, .slice none 0 0], .int .i64 7]) (by simp [results, Tryz.results52, go_sem, q0, q1, q2]) rfl ?_
    exact ⟨.inr ⟨unhide HZ, by rw [unhide HFC]⟩, (((unhide HL).setCell (Nat.le_refl _) _).setCell (Nat.le_refl _) _).setCell (Nat.le_refl _) _⟩

end Go.Proofs.YtkgcmpmgaghdhaaGreatDoor
