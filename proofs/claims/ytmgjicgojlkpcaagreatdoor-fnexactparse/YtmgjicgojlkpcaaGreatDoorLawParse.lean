import Derived.Test.YtmgjicgojlkpcaaGreatDoorSpecParse
import Derived.Test.YtmgjicgojlkpcaaGreatDoorImplParse
import Derived.Test.YtmgjicgojlkpcaaGreatDoorLawHdO
import Derived.Test.YtmgjicgojlkpcaaGreatDoorNEq
import Derived.Test.YtmgjicgojlkpcaaGreatDoorBytesEq
import Derived.Test.YtmgjicgojlkpcaaGreatDoorToBytes
namespace Go.Proofs.YtmgjicgojlkpcaaGreatDoor
open Go.RowKit

theorem OwnN.but {S : Nat → Prop} {w w' : World} {B : Nat} {nd : Value} {xs : List NodeC} (h : OwnN w B nd xs) (hb : But S w w') (hS : ∀ k, S k → k < B) : OwnN w' B nd xs := by
  have hk : ∀ k, k < w.heap.size → B ≤ k → w'.heap[k]? = w.heap[k]? := fun k h1 h2 => hb.block k h1 fun e => by have := hS k e; omega
  have kp : ∀ {e size n : Nat} {v : Value} {l : List Value}, w.ownsRow B e size v n l → w'.ownsRow B e size v n l := fun {e size n v l} ho => own_keep ho fun g hg => by
    obtain ⟨_, h1, h2⟩ := ownBlk_of ho hg
    exact hk g (lt_of_block h1) h2
  exact ⟨kp h.own, fun x hx => ⟨kp (h.lists x hx).1, kp (h.lists x hx).2⟩, h.apart⟩

theorem blk_hi {w : World} {B : Nat} {xs : List NodeC} (hl : ∀ x ∈ xs, x.Ok w B) {k : Nat} (hk : k ∈ blksC xs) : k < w.heap.size := by
  obtain ⟨x, hx, hgx⟩ := List.mem_flatMap.1 hk
  unfold NodeC.blks at hgx
  rcases List.mem_append.1 hgx with h1 | h1
  · exact (ownBlk_of (hl x hx).1 (by simpa [Option.mem_toList] using h1)).elim fun _ hc => lt_of_block hc.1
  · exact (ownBlk_of (hl x hx).2 (by simpa [Option.mem_toList] using h1)).elim fun _ hc => lt_of_block hc.1

/-- A tree of the call's own: it can be read, marked, and the marks are held. -/
structure TreeW (w : World) (B H : Nat) (nd : Value) (xs : List NodeC) (ns : List NodeD) : Prop where
  own : OwnN w B nd xs
  dat : xs.map NodeC.d = ns
  few : xs.length ≤ 1048576
  small : SmallC xs
  hi : ∀ k, nd.ownBlock = some k ∨ k ∈ blksC xs → k < H

section
variable {w w' : World} {B H : Nat} {nd : Value} {xs : List NodeC} {ns : List NodeD}

theorem TreeW.row (h : TreeW w B H nd xs ns) : ∃ a c, nd = .slice a xs.length c ∧ NRow w a xs.length ns := by
  obtain ⟨a, c, e, hC⟩ := own_nrow h.own.own h.own.lists h.small h.few
  exact ⟨a, c, e, by rw [← h.dat]; exact hC.row⟩
theorem TreeW.below (h : TreeW w B H nd xs ns) (hb : Below w.heap.size w w') : TreeW w' B H nd xs ns := ⟨h.own.below hb, h.dat, h.few, h.small, h.hi⟩
theorem TreeW.but {S : Nat → Prop} (h : TreeW w B H nd xs ns) (hb : But S w w') (hS : ∀ k, S k → k < B) : TreeW w' B H nd xs ns := ⟨h.own.but hb hS, h.dat, h.few, h.small, h.hi⟩
theorem TreeW.eq {a2 : Option Addr} {c2 n : Nat} (h : TreeW w B H nd xs ns) (hn : xs.length = n) (h2 : NRow w a2 n ns) : Calls Tryz.prog 11 #[.agg #[nd], .agg #[.slice a2 n c2]] w fun e w' => e = .returned (.bool true) ∧ Below w.heap.size w w' := by
  subst hn
  obtain ⟨a, c, rfl, hr⟩ := h.row
  exact eqTree_refl a a2 xs.length c c2 ns w hr h2

/-- Marked, and held. -/
theorem TreeW.mark (h : TreeW w B H nd xs ns) : ∃ K : Nat, Calls Tryz.prog 15 #[.agg #[nd], .int .i64 1] w fun e w' => e = .returned (.int .i64 (K : Nat)) ∧ But (fun y => B ≤ y ∧ y < H) w w' ∧ Calls Tryz.prog 21 #[.agg #[nd], .int .i64 1] w' fun e w'' => e = .returned (.int .i64 (K : Nat)) ∧ Below w'.heap.size w' w'' := by
  by_cases h0 : xs = []
  · subst h0
    obtain ⟨a, c, rfl, _⟩ := h.row
    exact ⟨1, (markTree_nil a c w).mono fun e w' ⟨h1, h2⟩ => ⟨h1, But.of_below h2, heldTree_nil a c w'⟩⟩
  · obtain ⟨g, cap, rfl, hN⟩ := NW.of_own h.own.own h.own.lists h.own.apart h.small h0
    refine ⟨endK 1 xs, (markTree_own g cap B xs w hN h.few h.small).mono fun e w' ⟨h1, h2, h3⟩ => ⟨h1, h3.mono fun k hk => ?_, heldTree_own g cap B xs w' h2 h.few h.small⟩⟩
    rcases hk with rfl | hk
    · exact ⟨hN.low, h.hi _ (.inl rfl)⟩
    · exact ⟨blk_low h.own.lists hk, h.hi _ (.inr hk)⟩

end

theorem parseT_small (s : ByteArray) : (parseT s).1.length ≤ 8003 ∧ ∀ x ∈ (parseT s).1, x.s.size ≤ 5000 ∧ x.nums.length ≤ 5000 ∧ x.kids.length ≤ 8003 := by
  have nil : (([] : List NodeD)).length ≤ 8003 ∧ ∀ x ∈ ([] : List NodeD), x.s.size ≤ 5000 ∧ x.nums.length ≤ 5000 ∧ x.kids.length ≤ 8003 := ⟨Nat.zero_le _, fun x hx => by cases hx⟩
  obtain ⟨hm1, hm2⟩ := lex_made s
  unfold parseT
  split
  · exact nil
  · split
    · rename_i h1
      split
      · obtain ⟨k1, k2, k3, _⟩ := line_knows hm2 (fun y hy => (hm1 y hy).2.1) (q := (lineR (lexT s).1).2.1) (l := (lineR (lexT s).1).2.2) (by rw [← h1.1])
        exact line_small k1 k2 k3
      · exact nil
    · exact nil

theorem treeW_of {w : World} {B : Nat} {nd : Value} {xs : List NodeC} {s : ByteArray} (h1 : xs.map NodeC.d = (parseT s).1) (h2 : OwnN w B nd xs) : TreeW w B w.heap.size nd xs (parseT s).1 := by
  obtain ⟨k1, k2⟩ := parseT_small s
  exact ⟨h2, h1, by have := congrArg List.length h1; rw [List.length_map] at this; omega, smallC_of h1 fun x hx => by obtain ⟨_, a, b⟩ := k2 x hx; exact ⟨by omega, by omega⟩, fun k hk => hk.elim (fun e => (ownBlk_of h2.own e).elim fun _ hc => lt_of_block hc.1) (blk_hi h2.lists)⟩

namespace LawParse

set_option maxRecDepth 20000 in
set_option maxHeartbeats 4000000 in
theorem law_small (a : Option Addr) (c : Nat) (s : ByteArray) (w : World) (h : RowB w a s.size (bz s)) (hn : s.size ≤ 1048576) (hG : GlP w) :
    Calls Tryz.prog 5 #[.slice a s.size c] w fun e w' => e = .returned (.bool true) ∧ Below w.heap.size w w' := by
  have H := hide h
  have HG : Hid (∀ v, Below w.heap.size w v → GlP v) := fun v hv => hG.below hv
  have hni : ¬ (1048576 : Int) < (s.size : Int) := by omega
  obtain ⟨r, hr⟩ : ∃ r, parseT s = r := ⟨_, rfl⟩
  have HR := hide hr
  have HTW : Hid (∀ (v : World) (B : Nat) (nd : Value) (xs : List NodeC), xs.map NodeC.d = r.1 → OwnN v B nd xs → TreeW v B v.heap.size nd xs r.1) := by rw [← hr]; exact fun v B nd xs h1 h2 => treeW_of h1 h2
  clear h hG hr
  obtain ⟨ns, cd, pl⟩ := r
  obtain ⟨n, hnn⟩ : ∃ n, ns.length = n := ⟨_, rfl⟩
  have HN := hide hnn
  clear hnn
  go_enter Tryz.func5, Tryz.ntmps5
  go_wp2_with fail
  refine (toByteS_any _ _ _ (bz s) _ (by exact unhide H) (by omega)).mono ?_
  rintro e w1 ⟨g1, rfl, hg1, hl1, hO1, hb1⟩
  go_wp2_with fail
  refine (specParse_any g1 0 _ s w1 (by exact hO1.row) (by omega)).mono ?_
  rintro e w2 ⟨⟨a2, n2, c2, he, hS⟩, hb2⟩
  rw [unhide HR] at he hS
  have hS' : NRow w2 a2 n2 ns := hS
  have hns : n2 = n := by rw [← hS'.len]; exact unhide HN
  subst hns
  have he' : e = .returned (.tuple #[.agg #[.slice a2 n2 c2], .int .i64 cd, .int .i64 (pl : Nat)]) := he
  subst he'
  have hK2 := hide (hb1.trans (hb2.mono hb1.size))
  obtain ⟨W2, hW2⟩ : ∃ W2, W2 = w2.alloc (.cells #[.slice a2 n2 c2] 29) := ⟨_, rfl⟩
  have hz2 : W2.heap.size = w2.heap.size + 1 := by rw [hW2]; simp
  have HW2 : Hid (Below w2.heap.size w2 W2) := by rw [hW2]; exact (Below.refl _ _).alloc (Nat.le_refl _) _
  have HST : Hid (∀ v, Below W2.heap.size W2 v → Below w.heap.size w v ∧ v.cell? ⟨w2.heap.size, 0, none⟩ = some (.slice a2 n2 c2) ∧ NRow v a2 n2 ns) := fun v hv => by
    have h1 := (unhide HW2).trans (hv.mono (unhide HW2).size)
    refine ⟨(unhide hK2).trans (h1.mono (unhide hK2).size), (hv.cell (p := ⟨w2.heap.size, 0, none⟩) (by show w2.heap.size < _; omega)).trans (by rw [hW2]; simp), hS'.below (Nat.le_refl _) h1⟩
  have HWW := hide hW2
  clear he hS hS' hb1 hb2 hO1 hg1 hl1 w1 hW2
  go_wp2_with fail
  rw [← unhide HWW]
  refine (toByteS_any _ _ _ (bz s) _ (by exact (unhide H).below (Nat.le_refl _) (unhide HST _ (Below.refl _ _)).1) (by omega)).mono ?_
  rintro e w4 ⟨g4, rfl, hg4, hl4, hO4, hb4⟩
  have hs4 := unhide HST _ hb4
  have HO4 := hide hO4
  have HL4 := hide hb4
  have hz4 := hb4.size
  clear hb4 hO4
  go_wp2_with fail
  refine (implParse_any g4 0 _ s w4 (by exact (unhide HO4).row) (by omega) (unhide HG _ hs4.1)).mono ?_
  rintro e w5 ⟨⟨nd, xs, he, hxd, hON⟩, hb5⟩
  rw [unhide HR] at he hxd
  have he' : e = .returned (.tuple #[.agg #[nd], .int .i64 cd, .int .i64 (pl : Nat)]) := he
  subst he'
  have hT5 := unhide HTW _ _ _ _ hxd hON
  have hxl : xs.length = n2 := by rw [← unhide HN, ← List.length_map (f := NodeC.d), hxd]
  obtain ⟨a7, c7, rfl, _⟩ := hT5.row
  rw [hxl] at hT5 ⊢
  have hb45 := (unhide HL4).trans (hb5.mono (unhide HL4).size)
  obtain ⟨W7, hW7⟩ : ∃ W7, W7 = w5.alloc (.cells #[.slice a7 n2 c7] 29) := ⟨_, rfl⟩
  have hbA7 : Below w5.heap.size w5 W7 := by rw [hW7]; exact (Below.refl _ _).alloc (Nat.le_refl _) _
  have HT7 := hide (hT5.below hbA7)
  have d7 : W7.cell? ⟨w5.heap.size, 0, none⟩ = some (.slice a7 n2 c7) := by rw [hW7]; simp
  have hd7 : w5.heap.size < W7.heap.size := by rw [hW7]; simp
  have HL7 := hide (hb45.trans (hbA7.mono hb45.size))
  have HO7 := hide (((unhide HO4).below (Nat.le_refl _) hb5).below (Nat.le_refl _) hbA7)
  have HX := hide hxl
  have HWW7 := hide hW7
  have hg45 : g4 < w5.heap.size := Nat.lt_of_lt_of_le hl4 hb5.size
  obtain ⟨B5, hB5⟩ : ∃ B5, w4.heap.size = B5 := ⟨_, rfl⟩
  rw [hB5] at HT7 hl4 hz4
  have e5 := (unhide HST _ hb45).2.1
  have hw25 : w2.heap.size < w5.heap.size := by have := hb45.size; omega
  clear hT5 hON hxd he hs4 hb5 HL4 HO4 hb45 hbA7 hxl hW7 hB5
  go_wp2_with fail
  rw [← unhide HWW7]
  refine (TreeW.eq (unhide HT7) (unhide HX) (unhide HST _ (unhide HL7)).2.2).mono ?_
  rintro e w8 ⟨rfl, hb8⟩
  clear HWW7
  obtain ⟨p7, hp7⟩ : ∃ p7, p7 = w5.heap.size := ⟨_, rfl⟩
  rw [← hp7] at d7 hd7 hg45 HT7 ⊢
  clear hp7 e5 hw25
  have HT8 := hide ((unhide HT7).below hb8)
  have d8 := (hb8.cell (p := ⟨p7, 0, none⟩) hd7).trans d7
  have hd8 : p7 < w8.heap.size := Nat.lt_of_lt_of_le hd7 hb8.size
  have HL8 := hide ((unhide HL7).trans (hb8.mono (unhide HL7).size))
  have HO8 := hide ((unhide HO7).below (Nat.le_refl _) hb8)
  clear hb8 HT7 d7 hd7 HL7 HO7
  go_wp2_with fail
  refine (toByteS_any _ _ _ (bz s) _ (by exact (unhide H).below (Nat.le_refl _) (unhide HST _ (unhide HL8)).1) (by omega)).mono ?_
  rintro e w9 ⟨g9, rfl, hg9, hl9, hO9, hb9⟩
  have HT9 := hide ((unhide HT8).below hb9)
  have d9 := (hb9.cell (p := ⟨p7, 0, none⟩) hd8).trans d8
  have hd9 : p7 < w9.heap.size := Nat.lt_of_lt_of_le hd8 hb9.size
  have HL9 := hide ((unhide HL8).trans (hb9.mono (unhide HL8).size))
  have HO9 := hide ((unhide HO8).below (Nat.le_refl _) hb9)
  have HX9 := hide hO9.row
  clear hb9 HT8 d8 hd8 HL8 HO8 hg9 hl9 hO9 w8
  go_wp2_with fail
  refine (eqByteS_any _ _ _ _ _ _ (bz s) (bz s) _ (by exact (unhide HO9).row) (by exact unhide HX9) (by omega)).mono ?_
  rintro e wA ⟨rfl, qA, rfl⟩
  rw [decide_eq_true rfl]
  have hbA : Below w9.heap.size w9 (w9.drewN qA) := Below.drewN (Below.refl _ w9) qA
  obtain ⟨wA, hwA⟩ : ∃ W, w9.drewN qA = W := ⟨_, rfl⟩
  rw [hwA] at hbA ⊢
  have HTA := hide ((unhide HT9).below hbA)
  have dA := (hbA.cell (p := ⟨p7, 0, none⟩) hd9).trans d9
  have hdA : p7 < wA.heap.size := Nat.lt_of_lt_of_le hd9 hbA.size
  have HLA := hide ((unhide HL9).trans (hbA.mono (unhide HL9).size))
  have HOA := hide ((unhide HO9).below (Nat.le_refl _) hbA)
  clear hbA hwA HT9 d9 hd9 HL9 HO9 HX9 w9
  go_wp2_with fail
  refine (markByteS_any _ _ _ W2.heap.size (bz s) _ _ (by exact unhide HOA) (by omega) (by omega)).mono ?_
  rintro e wB ⟨rfl, _, hbB⟩
  have hSB : ∀ k, At (some ⟨g4, 0, none⟩) s.size k → k = g4 := fun k hk => (at_eq hk).symm
  have HTB := hide ((unhide HTA).but hbB (fun k hk => by have := hSB k hk; omega))
  have dB : wB.cell? ⟨p7, 0, none⟩ = some (.slice a7 n2 c7) := (World.cell?_of_block (w := wA) (a := ⟨p7, 0, none⟩) (hbB.block p7 hdA (fun hk => by have := hSB p7 hk; omega))).trans dA
  have hdB : p7 < wB.heap.size := Nat.lt_of_lt_of_le hdA hbB.size
  have HLB := hide ((unhide HLA).trans (hbB.below (unhide HLA).size (fun k hk => by have := hSB k hk; omega)))
  have hk0 : ¬ ((1 : Int) + s.size < 0) := by omega
  have eB := (unhide HST _ (unhide HLB)).2.1
  clear hbB hSB HTA dA hdA HLA HOA wA
  go_wp2_with fail
  refine (TreeW.eq (unhide HTB) (unhide HX) (unhide HST _ (unhide HLB)).2.2).mono ?_
  rintro e wC ⟨rfl, hbC⟩
  have HTC := hide ((unhide HTB).below hbC)
  have dC := (hbC.cell (p := ⟨p7, 0, none⟩) hdB).trans dB
  have hdC : p7 < wC.heap.size := Nat.lt_of_lt_of_le hdB hbC.size
  have HLC := hide ((unhide HLB).trans (hbC.mono (unhide HLB).size))
  obtain ⟨K, hK⟩ := (unhide HTC).mark
  have HK := hide hK
  clear hbC HTB dB hdB HLB hK eB
  go_wp2_with fail
  refine (unhide HK).mono ?_
  rintro e wD ⟨rfl, hbD, hhD⟩
  have HH := hide hhD
  have dD : wD.cell? ⟨p7, 0, none⟩ = some (.slice a7 n2 c7) := (World.cell?_of_block (w := wC) (a := ⟨p7, 0, none⟩) (hbD.block p7 hdC (fun hk => by have := hk.2; omega))).trans dC
  have hdD : p7 < wD.heap.size := Nat.lt_of_lt_of_le hdC hbD.size
  have HLD := hide ((unhide HLC).trans (hbD.below (unhide HLC).size (fun k hk => by have := hk.1; omega)))
  clear hbD hhD HTC dC hdC HLC HK wC
  go_wp2_with fail
  refine (unhide HH).mono ?_
  rintro e wE ⟨rfl, hbE⟩
  have HLE := hide ((unhide HLD).trans (hbE.mono (unhide HLD).size))
  have hKn : ¬ (K : Int) < 0 := by omega
  clear hbE HLD dD hdD HH wD
  go_wp2_with fail
  refine (toByteS_any _ _ _ (bz s) _ (by exact (unhide H).below (Nat.le_refl _) (unhide HST _ (unhide HLE)).1) (by omega)).mono ?_
  rintro e wF ⟨gF, rfl, hgF, hlF, hOF, hbF⟩
  have HLF := hide ((unhide HLE).trans (hbF.mono (unhide HLE).size))
  have HOF := hide hOF.row
  clear hbF HLE hgF hlF hOF wE
  go_wp2_with fail
  refine (implParse_any gF 0 _ s wF (by exact unhide HOF) (by omega) (unhide HG _ (unhide HST _ (unhide HLF)).1)).mono ?_
  rintro e wG ⟨⟨ndG, xsG, he, hxd, hON⟩, hbG⟩
  rw [unhide HR] at he hxd
  have he' : e = .returned (.tuple #[.agg #[ndG], .int .i64 cd, .int .i64 (pl : Nat)]) := he
  subst he'
  have hTG := unhide HTW _ _ _ _ hxd hON
  have hxl : xsG.length = n2 := by rw [← unhide HN, ← List.length_map (f := NodeC.d), hxd]
  obtain ⟨aG, cG, rfl, _⟩ := hTG.row
  rw [hxl] at hTG ⊢
  have HLG := hide ((unhide HLF).trans (hbG.mono (unhide HLF).size))
  obtain ⟨WG, hWG⟩ : ∃ WG, WG = wG.alloc (.cells #[.slice aG n2 cG] 29) := ⟨_, rfl⟩
  have hbA : Below wG.heap.size wG WG := by rw [hWG]; exact (Below.refl _ _).alloc (Nat.le_refl _) _
  have HTG := hide (hTG.below hbA)
  have HXG := hide hxl
  have eG := (unhide HST _ (unhide HLG)).2.1
  have hwG : w2.heap.size < wG.heap.size := by have := (unhide HLG).size; omega
  have HLW := hide ((unhide HLG).trans (hbA.mono (unhide HLG).size))
  have HWWG := hide hWG
  clear hTG hON hxd he hbG HLF HOF hbA hxl hWG
  go_wp2_with fail
  rw [← unhide HWWG]
  refine (TreeW.eq (unhide HTG) (unhide HXG) (unhide HST _ (unhide HLW)).2.2).mono ?_
  rintro e wH ⟨rfl, hbH⟩
  have HLH := hide ((unhide HLW).trans (hbH.mono (unhide HLW).size))
  clear hbH
  go_wp2_with fail
  go_ret
  exact ⟨rfl, (unhide HST _ (unhide HLH)).1⟩

set_option maxHeartbeats 2000000 in
theorem law_big (a : Option Addr) (n c : Nat) (w : World) (hn : 1048576 < n) :
    Calls Tryz.prog 5 #[.slice a n c] w fun e w' => e = .returned (.bool true) ∧ Below w.heap.size w w' := by
  have hnz : (1048576 : Int) < (n : Int) := by omega
  go_enter Tryz.func5, Tryz.ntmps5
  go_wp2_with fail
  go_ret
  exact ⟨rfl, Below.refl _ _⟩

end LawParse

end Go.Proofs.YtmgjicgojlkpcaaGreatDoor
