import Derived.Test.YtmgjicgojlkpcaaGreatDoorSpecOrd
namespace Go.Proofs.YtmgjicgojlkpcaaGreatDoor
open Go.RowKit

set_option maxRecDepth 20000 in
set_option maxHeartbeats 8000000 in
theorem ordP (Z : World) (nd : Value) (xs : List NodeC) (hxl : xs.length ≤ 1048576) : ∀ (f e : Nat) (t : List NodeD), e < f → TreeAt (xs.map NodeC.d) e t → OrdP Z nd xs e t
  | 0, _, _, h, _ => absurd h (Nat.not_lt_zero _)
  | f + 1, e, t, hef, ht => by
    intro w v ys h hroom
    obtain ⟨i0, hi, hz0, hz1, hz2⟩ := info_parts info_int
    obtain ⟨j0, hj, hy0, hy1, hy2⟩ := info_parts info_node
    obtain ⟨k, n, m, s, nums, ls, rfl⟩ : ∃ k n m s nums ls, t = treeN k n m s nums ls := by cases ht; exact ⟨_, _, _, _, _, _, rfl⟩
    obtain ⟨nb, nc, a4, c4, a5, c5, es, rfl, hen, hnb, y0, y1, y2, y3, y4, y5, hks, hk4, hts, hlt, hc⟩ := h.got ht
    obtain ⟨a0, c0, rfl⟩ := own_slice h.own
    have hen' : ((e : Nat) : Int) < ((xs.length : Nat) : Int) := Int.ofNat_lt.2 hen
    have hln : ls.length ≤ 100000 := by have := tree_len k n m s nums ls; have := row_ge ls (trees_pos hts); omega
    have HIH := hide (fun (a : Nat) (l : List NodeD) (ha : a ∈ es) (hta : TreeAt (xs.map NodeC.d) a l) => ordP Z (.slice (some ⟨nb, 0, none⟩) xs.length nc) xs hxl f a l (by have := hlt a ha; omega) hta)
    have HST := hide (OrdK.start h (.cells #[.int .i64 k, .int .i64 n, .int .i64 m, .string s, .slice a4 nums.length c4, .slice a5 ls.length c5] 47))
    have HKS := hide hks
    have HTS := hide hts
    have HRM := hide hroom
    clear h ht hlt hks hts hroom hc hef
    go_enter Tryz.func46, Tryz.ntmps46
    go_wp2_with fail
    go_loopw [2, 8, 9] (fun u2 u8 u9 wr => ∃ (kk : Nat) (zs : List NodeC), kk ≤ ls.length ∧ u9 = .int .i64 (kk : Nat) ∧ Hid (zs.map NodeC.d = shiftN ys.length (rowT (ls.take kk))) ∧ Hid (OrdK Z w (.slice a0 ys.length c0) (.slice (some ⟨nb, 0, none⟩) xs.length nc) xs ys w.heap.size (.cells #[.int .i64 k, .int .i64 n, .int .i64 m, .string s, .slice a4 nums.length c4, .slice a5 ls.length c5] 47) wr u2 zs u8 (placesT ys.length (ls.take kk)))) (fun _ _ u9 _ => ls.length - (intOf u9).toNat)
    case atStart => exact ⟨0, [], Nat.zero_le _, rfl, rfl, HST⟩
    case round =>
      obtain ⟨kk, zs, hkk, rfl, HZ, HK⟩ := hrel
      clear HST
      obtain ⟨cs, hcs⟩ : ∃ cs, placesT ys.length (ls.take kk) = cs := ⟨_, rfl⟩
      rw [hcs] at HK
      have HCS := hide hcs
      clear hcs
      obtain ⟨a2, c2, rfl⟩ := own_slice (unhide HK).out.own
      obtain ⟨a8, c8, rfl⟩ := own_slice (unhide HK).kids
      have hbx := (unhide HK).box
      have hbl := lt_of_block hbx
      have b0 : wr.cell? ⟨w.heap.size, 0, none⟩ = some (.int .i64 k) := by simp [World.cell?, hbx]
      have b1 : wr.cell? ⟨w.heap.size, 1, none⟩ = some (.int .i64 n) := by simp [World.cell?, hbx]
      have b2 : wr.cell? ⟨w.heap.size, 2, none⟩ = some (.int .i64 m) := by simp [World.cell?, hbx]
      have b3 : wr.cell? ⟨w.heap.size, 3, none⟩ = some (.string s) := by simp [World.cell?, hbx]
      have b4 : wr.cell? ⟨w.heap.size, 4, none⟩ = some (.slice a4 nums.length c4) := by simp [World.cell?, hbx]
      have b5 : wr.cell? ⟨w.heap.size, 5, none⟩ = some (.slice a5 ls.length c5) := by simp [World.cell?, hbx]
      have bf : wr.frozen? ⟨w.heap.size, 5, none⟩ = false := frozen_of_row wr w.heap.size 5 _ _ hbx
      have hzl := (unhide HK).out.low.size
      clear hbx
      have hN0 : (ys ++ zs).length + (rowT (ls.drop kk)).length + 1 ≤ 100000 := by
        have h1 := unhide HRM
        have h2 := congrArg List.length (unhide HZ)
        rw [List.length_map, shift_len] at h2
        rw [tree_len] at h1
        have h3 := row_app (ls.take kk) (ls.drop kk)
        rw [List.take_append_drop] at h3
        rw [List.length_append]
        omega
      generalize hN : (ys ++ zs).length = N at HK hN0 ⊢
      have HNN := hide hN
      clear hN
      have hcl : cs.length ≤ 100000 := by
        rw [← unhide HCS, placesT, List.length_map, roots_len, List.length_take]
        omega
      by_cases hlk : kk < ls.length
      · have hlk' : ((kk : Nat) : Int) < ((ls.length : Nat) : Int) := Int.ofNat_lt.2 hlk
        obtain ⟨l, hl⟩ : ∃ l, ls[kk]? = some l := ⟨_, List.getElem?_eq_getElem hlk⟩
        obtain ⟨a, ha, _, hta⟩ := (unhide HTS).get hlk
        have hta' : TreeAt (xs.map NodeC.d) a l := (unhide HTS).2 kk a l ha hl
        have hkd := (unhide HKS _ _ _ (unhide HK).out).2
        rcases own_at hkd with ⟨_, h0⟩ | ⟨kb, c5', e5, hkb, _, _, hcel⟩
        · rw [castL, List.length_map, (unhide HTS).1] at h0; omega
        have hc0 := hcel kk (.int .i64 ((a : Nat) : Int)) (by rw [castL, List.map_map, List.getElem?_map, ha]; rfl)
        have e5' : a5 = some ⟨kb, 0, none⟩ := by injection e5
        subst e5'
        clear e5 hkd hcel
        have hdr : (rowT (ls.drop kk)).length = l.length + (rowT (ls.drop (kk + 1))).length := by
          rw [List.drop_eq_getElem_cons hlk, row_cons]
          rw [List.getElem?_eq_getElem hlk] at hl
          cases hl
          rfl
        have hlp := tree_pos hta'
        have KC := hide (unhide HIH a l (List.mem_of_getElem? ha) hta' _ _ _ (unhide HK).out (by have := unhide HNN; omega))
        have hlb : N + l.length + 1 ≤ 100000 := by omega
        have HLK := hide hl
        clear ha hl hta hta' hdr
        go_wp2_with (first | (go_at_call 46; refine (unhide KC).mono ?_; clear KC; rintro e' w6 ⟨v', ys', rfl, ho, hd, hf, hb, hat⟩; have hk6 := (unhide HK).kid ho hf hb hat; obtain ⟨a6, c6, rfl⟩ := own_slice ho.own; have hyl : ys'.length = l.length := (by have := congrArg List.length hd; rw [List.length_map, shift_len] at this; exact this); have hl6 : (ys ++ zs ++ ys').length = N + l.length := (by rw [List.length_append, unhide HNN, hyl]); generalize hN6 : (ys ++ zs ++ ys').length = N6 at hk6 hl6 ⊢; have h61 : 1 ≤ N6 := (by omega); have h6b : N6 ≤ 100000 := (by omega); have HL6 := hide hl6; have hw6 : IntKind.i64.wrap ((N6 : Int) - 1) = (N6 : Int) - 1 := (by rw [IntKind.wrap_i64]; omega); have HK6 := hide (hk6.below ((Below.refl _ _).alloc (Nat.le_refl _) (.cells #[.int .i64 ((N6 : Int) - 1)] 3))); have HD6 := hide hd; have HN6 := hide hN6; have hzl6 := hk6.out.low.size; clear ho hd hf hb hat hk6 hyl hN6 hl6) | (at_builtin; refine wpList_append_lies _ rfl _ _ 45 rfl Z.heap.size 3 i0 (.int .i64 0) 1 8 Tryz.underlying45 hi hz0 hz1 hz2 rfl (by decide) _ _ _ rfl (unhide HK6).kids ⟨w6.heap.size, 0, none⟩ 1 1 [.int .i64 ((N6 : Int) - 1)] rfl rfl (cells_i _ _) (one_i _) (by omega) (by unfold maxLen; omega) (by omega) (by simp; try omega) (w6.heap.size + 1) (by simp) ?_; intro g' cap' w9 hown' hgrow hat' hlt9; have hk9 := OrdK.grow (us := cs ++ [(N6 : Int) - 1]) (unhide HK6) (by unfold OwnI; rw [List.map_append, List.length_append]; exact hown') hgrow (Or.imp (fun h => h) (fun h => h.trans (by simp)) hat'); have HK9 := hide hk9; clear hk9 hown' hgrow hat' hlt9))
        go_roundw
        case rel =>
          have hl := unhide HLK
          have htk : ls.take (kk + 1) = ls.take kk ++ [l] := by
            rw [List.take_add_one, hl]
            rfl
          have hzl : zs.length = (rowT (ls.take kk)).length := by
            have h2 := congrArg List.length (unhide HZ)
            rwa [List.length_map, shift_len] at h2
          have hyz : (ys ++ zs).length = ys.length + (rowT (ls.take kk)).length := by rw [List.length_append, hzl]
          refine ⟨kk + 1, zs ++ ys', hlk, by go_num, ?_, ?_⟩
          · refine hide ?_
            rw [List.map_append, unhide HZ, unhide HD6, htk, row_append, shift_app, shift_add, rowT_one, hyz]
          · refine hide ?_
            have e : placesT ys.length (ls.take (kk + 1)) = cs ++ [(N6 : Int) - 1] := by
              rw [htk, places_app, unhide HCS, places_one]
              have h3 := unhide HL6
              have h4 := unhide HNN
              rw [h3, ← h4, hyz]
            rw [e]
            exact unhide HK9
        case measure => simp [intOf]; omega
      · have hke : kk = ls.length := by omega
        have hlk' : ¬ ((kk : Nat) : Int) < ((ls.length : Nat) : Int) := by omega
        have HOWN : Hid (∀ o : Obj, ((wr.setCell ⟨w.heap.size, 5, none⟩ (.slice a8 cs.length c8)).alloc o).ownsRow Z.heap.size 47 6 (.slice a2 N c2) N ((ys ++ zs).flatMap NodeC.cells)) := hide fun o => by
          have h1 := ((unhide HK).setB (.slice a8 cs.length c8)).1.below ((Below.refl _ _).alloc (Nat.le_refl _) o)
          have h2 := h1.own
          rw [unhide HNN] at h2
          exact h2
        have HNEW : Hid (∀ (V : World) (j : Nat) (u : Value), ([.int .i64 k, .int .i64 n, .int .i64 m, .string s, .slice a4 nums.length c4, .slice a8 cs.length c8] : List Value)[j]? = some u → (V.alloc (.cells #[.int .i64 k, .int .i64 n, .int .i64 m, .string s, .slice a4 nums.length c4, .slice a8 cs.length c8] 47)).cell? ((⟨V.heap.size, 0, none⟩ : Addr).add j) = some u) := hide fun V => World.news_of_block (cs := #[.int .i64 k, .int .i64 n, .int .i64 m, .string s, .slice a4 nums.length c4, .slice a8 cs.length c8]) (t := 47) (fr := (0, 0)) (by show (V.heap.push _)[V.heap.size]? = _; simp)
        have H4 := hide ((unhide HKS _ _ _ (unhide HK).out).1)
        have HKE := hide hke
        have HK4 := hide hk4
        have hNb : N ≤ 100000 := by omega
        clear hke hk4 hlk hkk hN0 hen hen' y0 y1 y2 y3 y4 y5 hnb HIH HTS HRM HKS
        go_wp2_with (at_builtin; refine wpList_append_lies _ rfl _ _ 27 rfl Z.heap.size 47 j0 _ 6 88 Tryz.underlying27 hj hy0 hy1 hy2 rfl (by decide) _ _ _ rfl (unhide HOWN _) ⟨wr.heap.size, 0, none⟩ 1 1 [.int .i64 k, .int .i64 n, .int .i64 m, .string s, .slice a4 nums.length c4, .slice a8 cs.length c8] rfl rfl (by have := unhide HNEW (wr.setCell ⟨w.heap.size, 5, none⟩ (.slice a8 cs.length c8)); simpa using this) (one_node _ _ _ _ _ _ _ _ _ _) (by omega) (by unfold maxLen; omega) (by omega) (by simp; try omega) (wr.heap.size + 1) (by simp) ?_; intro g' cap' w9 hown' hgrow hat' hlt9; rw [← unhide HNN] at hown'; have HD := hide (OrdK.done (unhide HK) (unhide H4) (unhide HK4) _ hown' hgrow hat'); clear hown' hgrow hat' hlt9)
        go_ret
        obtain ⟨ys', hO, hd, hf, hb, ha⟩ := unhide HD
        rw [unhide HNN] at hO ha
        refine ⟨_, rfl, ys', hO, ?_, hf, hb, ha⟩
        have hz := unhide HZ
        have hcs := unhide HCS
        rw [unhide HKE, List.take_length] at hz hcs
        rw [hd, hz, shift_tree, hcs]

end Go.Proofs.YtmgjicgojlkpcaaGreatDoor
