import Derived.Test.YtijamlgiinjikaaGreatDoorDrawLexS
namespace Go.Proofs.YtijamlgiinjikaaGreatDoor
open Go.RowKit

set_option maxRecDepth 20000 in
set_option maxHeartbeats 8000000 in
theorem DrawLex_any (a : Option Addr) (n0 c : Nat) (w : World) (h : Bytes w a n0) (hc : n0 ≤ c) (hn0 : n0 ≤ 1048576) :
    Calls Tryz.prog 4 #[.slice a n0 c] w (GivesBytes w) := by
  have HO := hide (l1Open_any a n0 c w h hc hn0)
  obtain ⟨i0, hii, hz0, hz1, hz2⟩ := info_parts info_byte
  clear h hc hn0
  go_enter Tryz.func4, Tryz.ntmps4
  go_wp2_with fail
  refine (unhide HO).mono ?_
  rintro e w1 ⟨pr, rfl, hr1, hp, hb1⟩
  have HR1 := hide hr1
  have HB1 := hide hb1
  have hpl := hr1.lt
  clear hr1 hb1
  go_wp2_with fail
  refine (next_any pr w1 (unhide HR1)).mono ?_
  rintro e w2 ⟨⟨v, hv, rfl⟩, hr2, hb2⟩
  have HB2 : Hid (Below w.heap.size w w2) := (unhide HB1).trans (hb2.below (by omega) (fun k hk => by omega))
  have hpl2 := hr2.lt
  have HS0 : Hid (DrS w pr (w2.alloc (.cells #[] 5)) w2.heap.size 0 0 []) := by
    have hz := (unhide HB2).size
    refine ⟨⟨by simp [uz], .inr ⟨w2.heap.size, 0, #[], rfl, by omega, ?_, by simp, by unfold maxLen; omega, by simp, by simp [uz]⟩⟩, (unhide HB2).alloc hz _, hr2.below ((Below.refl _ _).alloc (Nat.le_refl _) _)⟩
    show (w2.heap.push _)[w2.heap.size]? = _
    simp
  obtain ⟨kk, hkk, e1, e2⟩ := modN v 20 (by omega)
  have e1' : (v : Int).tmod 20 = (kk : Int) := e1
  have e2' : (v : Int) % 20 = (kk : Int) := e2
  obtain ⟨j4, hj4, f1, f2⟩ := modN v 4 (by omega)
  have f1' : (v : Int).tmod 4 = (j4 : Int) := f1
  have f2' : (v : Int) % 4 = (j4 : Int) := f2
  obtain ⟨j3, hj3, d1, d2⟩ := modN v 3 (by omega)
  have d1' : (v : Int).tmod 3 = (j3 : Int) := d1
  have d2' : (v : Int) % 3 = (j3 : Int) := d2
  clear hr2 hb2 e1 e2 f1 f2 d1 d2 HB1 HR1 hpl
  go_wp2_with fail
  go_loopw [5, 6, 7] (fun u i _ wr => ∃ (g cap n k : Nat) (out : List UInt8), u = .slice (some ⟨g, 0, none⟩) n cap ∧ i = .int .i64 (k : Nat) ∧ k ≤ 20 ∧ n ≤ 40 * k ∧ Hid (DrS w pr wr g cap n out)) (fun _ i _ _ => 20 - (intOf i).toNat)
  case atStart => exact ⟨w2.heap.size, 0, 0, 0, [], rfl, rfl, by omega, by omega, HS0⟩
  case round =>
    obtain ⟨g, cap, n, k, out, rfl, rfl, hk, hnk, HS⟩ := hrel
    clear HS0
    have hwz := (unhide HS).low.size
    have hpw := (unhide HS).rd.lt
    by_cases hik : k < kk
    case neg =>
      have hiki : ¬ (k : Int) < (kk : Int) := by omega
      by_cases hbig : 253 ≤ v
      · have hbi : (253 : Int) ≤ (v : Int) := by omega
        obtain ⟨m, hm⟩ : ∃ m : Nat, 1999 + j3 = m := ⟨_, rfl⟩
        have em : (1999 : Int) + (j3 : Int) = (m : Int) := by omega
        have hwm : IntKind.i64.wrap (m : Int) = (m : Int) := by rw [IntKind.wrap_i64]; omega
        have hm2 : m ≤ 2001 := by omega
        clear hm
        go_wp2_with (first | (at_make; refine wpList_make_full _ rfl _ _ 22 rfl wr.heap.size 5 i0 (.int .u8 0) 1 Tryz.underlying22 hii hz0 hz1 _ _ _ _ m rfl rfl rfl rfl (by rw [hz2]; omega) (by unfold maxLen; omega) (Nat.le_refl _) ?_; intro w9 hown hgrow; have HM9 : Hid (GivesBytes w (.returned (.slice (some ⟨wr.heap.size, 0, none⟩) m m)) w9) := (by have h8 : w9.ownsRow wr.heap.size 5 1 (.slice (some ⟨wr.heap.size, 0, none⟩) m m) m ((uz (List.replicate m 0)).map (Value.int .u8)) := (by simpa [toList_madeCells_one, Value.cells, uz] using hown); refine ⟨wr.heap.size, m, List.replicate m 0, by rw [List.length_replicate], by rw [List.length_replicate]; exact rowB_of h8, by rw [List.length_replicate]; omega, ?_⟩; exact (unhide HS).low.trans (((Below.refl _ _).grown hgrow (Nat.le_refl _) (by simp)).mono hwz)); clear hown hgrow))
        go_ret
        exact unhide HM9
      · have hbi : ¬ (253 : Int) ≤ (v : Int) := by omega
        go_wp2_with fail
        go_ret
        exact (unhide HS).gives (by omega)
    have hiki : (k : Int) < (kk : Int) := by omega
    obtain ⟨ra, rn, rc, rp, hrc, hr1, hr2, hr3⟩ := (unhide HS).rd
    have HLF := hide (left_at pr wr hrc hr1 hr2)
    clear hrc hr3
    have hgo : k < 2 ∨ (¬ k < 2 ∧ 0 < (rn : Int) - (rp : Int)) ∨ (¬ k < 2 ∧ ¬ 0 < (rn : Int) - (rp : Int)) := by omega
    have HPC := hide (fun q => l1Piece_any pr (wr.drewN q) ((unhide HS).rd.below (Below.drewN (Below.refl _ _) q)))
    rcases hgo with hg | ⟨hg, hg2⟩ | ⟨hg, hg2⟩
    · have hgi : (k : Int) < 2 := by omega
      go_wp2_with fail
      refine (unhide HPC 0).mono ?_
      rintro e w6 ⟨⟨x, hx1, hx2, rfl⟩, hr6, hb6⟩
      have HS6 := hide (((unhide HS).below hwz (Below.drewN (Below.refl _ _) 0)).next hp hwz hb6 hr6)
      have hpw6 := hr6.lt
      have hwz6 : w.heap.size ≤ w6.heap.size := (unhide HS6).low.size
      have hx0 : 0 < x.size := hx1
      have hix := fun W => run_idx (s := x) (k := 0) hx0 W
      have hy8 := bt_lt x 0
      obtain ⟨y, hy⟩ : ∃ y, bt x 0 = y := ⟨_, rfl⟩
      rw [hy] at hix hy8
      clear hy hr6 hb6
      have HNX : Hid (∀ (z : ByteArray), 1 ≤ z.size → z.size ≤ 31 → ∃ cz W7, (convert 9 22 (.string z)).run Tryz.prog w6 = .ok (.slice (some ⟨w6.heap.size, 0, none⟩) z.size cz) W7 ∧ RowB W7 (some ⟨w6.heap.size, 0, none⟩) z.size (uz z.data.toList) ∧ DrS w pr W7 g cap n out ∧ w6.heap.size < W7.heap.size) := hide fun z _ _ => by
        obtain ⟨cz, W7, h1, _, h3, h4, h5⟩ := conv_str w6 z
        exact ⟨cz, W7, h1, h3, (unhide HS6).below hwz6 h4, h5⟩
      obtain ⟨cx, Wx, hcvx, hrowx, hSx, hzx⟩ := unhide HNX x hx1 hx2
      obtain ⟨c3, W3, hcv3, hrow3, hS3, hz3⟩ := unhide HNX (ByteArray.mk #[32]) (by decide) (by decide)
      have HROWx := hide hrowx
      have HSx := hide hSx
      have HROW3 := hide hrow3
      have HS3 := hide hS3
      clear hrowx hSx hrow3 hS3
      go_wp2_with (first | (at_builtin; refine wpList_append_lies _ rfl _ _ 22 rfl (pr + 1) 5 i0 (.int .u8 0) 1 1 Tryz.underlying22 hii hz0 hz1 hz2 rfl (by decide) _ _ _ rfl (unhide HSx).own ⟨w6.heap.size, 0, none⟩ x.size cx ((uz x.data.toList).map (Value.int .u8)) rfl (by rw [List.length_map, uz_len, ← Lib.size_eq, Nat.mul_one]) (news_of (unhide HROWx)) (one_bytes _) (by omega) (by unfold maxLen; omega) (by omega) (by omega) Wx.heap.size rfl ?_; intro g8 cap8 w8 hown' hgrow hat hlt8; have HS8 := hide ((unhide HSx).push hp (by omega) hown' hgrow); clear hgrow hat hown' hlt8) | (at_builtin; refine wpList_append_lies _ rfl _ _ 22 rfl (pr + 1) 5 i0 (.int .u8 0) 1 1 Tryz.underlying22 hii hz0 hz1 hz2 rfl (by decide) _ _ _ rfl (unhide HS3).own ⟨w6.heap.size, 0, none⟩ 1 c3 ((uz (ByteArray.mk #[32]).data.toList).map (Value.int .u8)) rfl (by rfl) (news_of (unhide HROW3)) (one_bytes _) (by omega) (by unfold maxLen; omega) (by omega) (by omega) W3.heap.size rfl ?_; intro g9 cap9 w9 hown' hgrow hat hlt8; have HS9 := hide ((unhide HS3).push hp (by omega) hown' hgrow); clear hgrow hat hown' hlt8))
      all_goals first
        | exact ⟨⟨g8, cap8, n + x.size, k + 1, out ++ x.data.toList, rfl, by go_num, by omega, by omega, HS8⟩, by simp [intOf]; omega⟩
        | exact ⟨⟨g9, cap9, n + 1, k + 1, out ++ (ByteArray.mk #[32]).data.toList, rfl, by go_num, by omega, by omega, HS9⟩, by simp [intOf]; omega⟩
    · have hgi : ¬ (k : Int) < 2 := by omega
      go_wp2_with (go_at_call 11; refine (unhide HLF).mono ?_; rintro e w5 ⟨rfl, q5, rfl⟩)
      refine (unhide HPC q5).mono ?_
      rintro e w6 ⟨⟨x, hx1, hx2, rfl⟩, hr6, hb6⟩
      have HS6 := hide (((unhide HS).below hwz (Below.drewN (Below.refl _ _) q5)).next hp hwz hb6 hr6)
      have hpw6 := hr6.lt
      have hwz6 : w.heap.size ≤ w6.heap.size := (unhide HS6).low.size
      have hx0 : 0 < x.size := hx1
      have hix := fun W => run_idx (s := x) (k := 0) hx0 W
      have hy8 := bt_lt x 0
      obtain ⟨y, hy⟩ : ∃ y, bt x 0 = y := ⟨_, rfl⟩
      rw [hy] at hix hy8
      clear hy hr6 hb6
      have HNX : Hid (∀ (z : ByteArray), 1 ≤ z.size → z.size ≤ 31 → ∃ cz W7, (convert 9 22 (.string z)).run Tryz.prog w6 = .ok (.slice (some ⟨w6.heap.size, 0, none⟩) z.size cz) W7 ∧ RowB W7 (some ⟨w6.heap.size, 0, none⟩) z.size (uz z.data.toList) ∧ DrS w pr W7 g cap n out ∧ w6.heap.size < W7.heap.size) := hide fun z _ _ => by
        obtain ⟨cz, W7, h1, _, h3, h4, h5⟩ := conv_str w6 z
        exact ⟨cz, W7, h1, h3, (unhide HS6).below hwz6 h4, h5⟩
      obtain ⟨cx, Wx, hcvx, hrowx, hSx, hzx⟩ := unhide HNX x hx1 hx2
      obtain ⟨c3, W3, hcv3, hrow3, hS3, hz3⟩ := unhide HNX (ByteArray.mk #[32]) (by decide) (by decide)
      have HROWx := hide hrowx
      have HSx := hide hSx
      have HROW3 := hide hrow3
      have HS3 := hide hS3
      clear hrowx hSx hrow3 hS3
      go_wp2_with (first | (at_builtin; refine wpList_append_lies _ rfl _ _ 22 rfl (pr + 1) 5 i0 (.int .u8 0) 1 1 Tryz.underlying22 hii hz0 hz1 hz2 rfl (by decide) _ _ _ rfl (unhide HSx).own ⟨w6.heap.size, 0, none⟩ x.size cx ((uz x.data.toList).map (Value.int .u8)) rfl (by rw [List.length_map, uz_len, ← Lib.size_eq, Nat.mul_one]) (news_of (unhide HROWx)) (one_bytes _) (by omega) (by unfold maxLen; omega) (by omega) (by omega) Wx.heap.size rfl ?_; intro g8 cap8 w8 hown' hgrow hat hlt8; have HS8 := hide ((unhide HSx).push hp (by omega) hown' hgrow); clear hgrow hat hown' hlt8) | (at_builtin; refine wpList_append_lies _ rfl _ _ 22 rfl (pr + 1) 5 i0 (.int .u8 0) 1 1 Tryz.underlying22 hii hz0 hz1 hz2 rfl (by decide) _ _ _ rfl (unhide HS3).own ⟨w6.heap.size, 0, none⟩ 1 c3 ((uz (ByteArray.mk #[32]).data.toList).map (Value.int .u8)) rfl (by rfl) (news_of (unhide HROW3)) (one_bytes _) (by omega) (by unfold maxLen; omega) (by omega) (by omega) W3.heap.size rfl ?_; intro g9 cap9 w9 hown' hgrow hat hlt8; have HS9 := hide ((unhide HS3).push hp (by omega) hown' hgrow); clear hgrow hat hown' hlt8))
      all_goals first
        | exact ⟨⟨g8, cap8, n + x.size, k + 1, out ++ x.data.toList, rfl, by go_num, by omega, by omega, HS8⟩, by simp [intOf]; omega⟩
        | exact ⟨⟨g9, cap9, n + 1, k + 1, out ++ (ByteArray.mk #[32]).data.toList, rfl, by go_num, by omega, by omega, HS9⟩, by simp [intOf]; omega⟩
    · have hgi : ¬ (k : Int) < 2 := by omega
      by_cases hbig : 253 ≤ v
      · have hbi : (253 : Int) ≤ (v : Int) := by omega
        obtain ⟨m, hm⟩ : ∃ m : Nat, 1999 + j3 = m := ⟨_, rfl⟩
        have em : (1999 : Int) + (j3 : Int) = (m : Int) := by omega
        have hwm : IntKind.i64.wrap (m : Int) = (m : Int) := by rw [IntKind.wrap_i64]; omega
        have hm2 : m ≤ 2001 := by omega
        clear hm
        go_wp2_with (first | (go_at_call 11; refine (unhide HLF).mono ?_; rintro e w5 ⟨rfl, q5, rfl⟩) | (at_make; refine wpList_make_full _ rfl _ _ 22 rfl wr.heap.size 5 i0 (.int .u8 0) 1 Tryz.underlying22 hii hz0 hz1 _ _ _ _ m rfl rfl rfl rfl (by rw [hz2]; omega) (by unfold maxLen; omega) (Nat.le_refl _) ?_; intro w9 hown hgrow; have HM9 : Hid (GivesBytes w (.returned (.slice (some ⟨wr.heap.size, 0, none⟩) m m)) w9) := (by have h8 : w9.ownsRow wr.heap.size 5 1 (.slice (some ⟨wr.heap.size, 0, none⟩) m m) m ((uz (List.replicate m 0)).map (Value.int .u8)) := (by simpa [toList_madeCells_one, Value.cells, uz] using hown); refine ⟨wr.heap.size, m, List.replicate m 0, by rw [List.length_replicate], by rw [List.length_replicate]; exact rowB_of h8, by rw [List.length_replicate]; omega, ?_⟩; exact ((unhide HS).low.trans (Below.drewN (Below.refl _ _) _)).trans (((Below.refl _ _).grown hgrow (Nat.le_refl _) (by simp)).mono hwz)); clear hown hgrow))
        go_ret
        exact unhide HM9
      · have hbi : ¬ (253 : Int) ≤ (v : Int) := by omega
        go_wp2_with (go_at_call 11; refine (unhide HLF).mono ?_; rintro e w5 ⟨rfl, q5, rfl⟩)
        go_ret
        exact ((unhide HS).below hwz (Below.drewN (Below.refl _ _) _)).gives (by omega)

end Go.Proofs.YtijamlgiinjikaaGreatDoor
