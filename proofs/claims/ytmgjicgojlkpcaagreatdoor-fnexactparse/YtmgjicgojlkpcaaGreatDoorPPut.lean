import Derived.Test.YtmgjicgojlkpcaaGreatDoorPState
import Derived.Deep.AppendLies
import Derived.Deep.RegionLaw
namespace Go.Proofs.YtmgjicgojlkpcaaGreatDoor
open Go.RowKit

theorem one_node (k n m : Int) (s : ByteArray) (s1 s2 : Option Addr) (n1 c1 n2 c2 : Nat) : ∀ u ∈ ([.int .i64 k, .int .i64 n, .int .i64 m, .string s, .slice s1 n1 c1, .slice s2 n2 c2] : List Value), u.oneCell' = true := by
  intro u hu
  simp at hu
  rcases hu with rfl | rfl | rfl | rfl | rfl | rfl <;> rfl

theorem own_slice {w : World} {B e size n : Nat} {v : Value} {l : List Value} (h : w.ownsRow B e size v n l) : ∃ a c, v = .slice a n c := by
  rcases h.2 with ⟨rfl, rfl⟩ | ⟨g, cap, cur, rfl, _⟩
  · exact ⟨none, 0, rfl⟩
  · exact ⟨_, _, rfl⟩

/-- What stands while the nodes are appended to. -/
theorem PS.grown {T : TypeId} {Z w W w7 : World} {p i : Nat} {v0 v2 nd : Value} {xs : List NodeC} (h : PS T Z p v0 v2 w i nd xs) (hW : Below w.heap.size w W) (hg : W.grownBy w7 nd.ownBlock) : w7.cell? ⟨p, 3, none⟩ = some nd ∧ w7.frozen? ⟨p, 3, none⟩ = false ∧ p < w7.heap.size := by
  have hpl := lt_of_block h.box
  have hz := hW.size
  have hnp : some p ≠ nd.ownBlock := fun e => by
    obtain ⟨cur, hh, _⟩ := ownBlk_of h.own e.symm
    rw [h.box] at hh
    have := Option.some.inj hh
    simp at this
    exact h.ty.1 this.2
  have hb7 := (hg.block p (by omega) hnp).trans ((hW.block p hpl).trans h.box)
  exact ⟨by simp [World.cell?, hb7], frozen_of_row w7 p 3 _ _ hb7, lt_of_block hb7⟩

/-- The node's box stands while the nodes are appended to. -/
theorem keep7 (w : World) (k n m : Int) (s : ByteArray) (s1 s2 : Option Addr) (n1 c1 n2 c2 : Nat) {o2 : Obj} {w7 : World} {r : Option Nat} {P : Prop} (hg : (((w.alloc (.cells #[.int .i64 k, .int .i64 n, .int .i64 m, .string s, .slice s1 n1 c1, .slice s2 n2 c2] 47)).drew).alloc o2).grownBy w7 r) (hne : ∀ g, r = some g → g < w.heap.size) (hP : P) :
    P ∧ w7.cell? ⟨w.heap.size, 0, none⟩ = some (.int .i64 k) ∧ w7.cell? ⟨w.heap.size, 1, none⟩ = some (.int .i64 n) ∧ w7.cell? ⟨w.heap.size, 2, none⟩ = some (.int .i64 m) ∧ w7.cell? ⟨w.heap.size, 3, none⟩ = some (.string s) ∧ w7.cell? ⟨w.heap.size, 4, none⟩ = some (.slice s1 n1 c1) ∧ w7.cell? ⟨w.heap.size, 5, none⟩ = some (.slice s2 n2 c2) := by
  have h1 : ((w.alloc (.cells #[.int .i64 k, .int .i64 n, .int .i64 m, .string s, .slice s1 n1 c1, .slice s2 n2 c2] 47)).drew.alloc o2).heap[w.heap.size]? = some (.cells #[.int .i64 k, .int .i64 n, .int .i64 m, .string s, .slice s1 n1 c1, .slice s2 n2 c2] 47 (0, 0)) := by
    rw [Below.heap_alloc _ _ _ (by simp)]
    show (w.heap.push _)[w.heap.size]? = _
    simp
  have hbl := (hg.block w.heap.size (by simp; omega) (fun e => by have := hne w.heap.size e.symm; omega)).trans h1
  refine ⟨hP, ?_, ?_, ?_, ?_, ?_, ?_⟩ <;> simp [World.cell?, hbl]

set_option maxRecDepth 20000 in
set_option maxHeartbeats 4000000 in
theorem putS (Z : World) (p : Nat) (v0 v2 : Value) (w : World) (i : Nat) (nd : Value) (xs : List NodeC) (h : PS 81 Z p v0 v2 w i nd xs) (k n m : Int) (s : ByteArray) (nums kids : List Int) (s1 s2 : Option Addr) (n1 c1 n2 c2 : Nat) (hx : (⟨⟨k, n, m, s, nums, kids⟩, .slice s1 n1 c1, .slice s2 n2 c2⟩ : NodeC).Ok w Z.heap.size) (hd : ∀ b ∈ (⟨⟨k, n, m, s, nums, kids⟩, .slice s1 n1 c1, .slice s2 n2 c2⟩ : NodeC).blks, b ∉ blksC xs) (hnd : (⟨⟨k, n, m, s, nums, kids⟩, .slice s1 n1 c1, .slice s2 n2 c2⟩ : NodeC).blks.Nodup) (hlen : xs.length ≤ 1048576) :
    Calls Tryz.prog 45 #[.pointer (some ⟨p, 0, none⟩), .agg #[.int .i64 k, .int .i64 n, .int .i64 m, .string s, .slice s1 n1 c1, .slice s2 n2 c2]] w fun e w' => e = .returned (.int .i64 (xs.length : Nat)) ∧ ∃ nd', PS 81 Z p v0 v2 w' i nd' (xs ++ [⟨⟨k, n, m, s, nums, kids⟩, .slice s1 n1 c1, .slice s2 n2 c2⟩]) ∧ PBut p nd w w' ∧ (nd'.ownBlock = nd.ownBlock ∨ ∀ b, nd'.ownBlock = some b → w.heap.size ≤ b) := by
  obtain ⟨i0, hi, hz0, hz1, hz2⟩ := info_parts info_node
  obtain ⟨a0, c0, rfl⟩ := own_slice h.own
  obtain ⟨p0, p1, p2, p3, f0, f1, f2, f3, hpl⟩ := h.all
  have hpw : p ≠ w.heap.size := by omega
  have HW : Hid (∀ o : Obj, Below w.heap.size w ((w.alloc (.cells #[.int .i64 k, .int .i64 n, .int .i64 m, .string s, .slice s1 n1 c1, .slice s2 n2 c2] 47)).drew.alloc o)) := fun o => (((Below.refl _ _).alloc (Nat.le_refl _) _).drew).alloc (by simp) _
  have HX : Hid (∀ W, Below w.heap.size w W → (⟨⟨k, n, m, s, nums, kids⟩, .slice s1 n1 c1, .slice s2 n2 c2⟩ : NodeC).Ok W Z.heap.size) := fun W hW => ⟨own_keep hx.1 fun g hg => hW.block g ((ownBlk_of hx.1 hg).elim fun _ hc => lt_of_block hc.1), own_keep hx.2 fun g hg => hW.block g ((ownBlk_of hx.2 hg).elim fun _ hc => lt_of_block hc.1)⟩
  have HD := hide hd
  have HND := hide hnd
  have HNB : Hid (∀ b ∈ (⟨⟨k, n, m, s, nums, kids⟩, .slice s1 n1 c1, .slice s2 n2 c2⟩ : NodeC).blks, b < w.heap.size) := fun b hb => by
    unfold NodeC.blks at hb
    rcases List.mem_append.1 hb with h' | h'
    · exact (ownBlk_of hx.1 (by simpa [Option.mem_toList] using h')).elim fun _ hc => lt_of_block hc.1
    · exact (ownBlk_of hx.2 (by simpa [Option.mem_toList] using h')).elim fun _ hc => lt_of_block hc.1
  have H := hide h
  have HOWN : Hid (∀ W, Below w.heap.size w W → W.ownsRow Z.heap.size 47 6 (.slice a0 xs.length c0) xs.length (xs.flatMap NodeC.cells)) := fun W hW => (h.below hW).own
  have HNE : Hid (∀ g, (Value.slice a0 xs.length c0).ownBlock = some g → g < w.heap.size) := fun g hg => (ownBlk_of h.own hg).elim fun _ hc => lt_of_block hc.1
  have hzl : Z.heap.size ≤ w.heap.size := h.low.size
  have HNEW : Hid (∀ (V : World) (j : Nat) (u : Value), ([.int .i64 k, .int .i64 n, .int .i64 m, .string s, .slice s1 n1 c1, .slice s2 n2 c2] : List Value)[j]? = some u → (V.alloc (.cells #[.int .i64 k, .int .i64 n, .int .i64 m, .string s, .slice s1 n1 c1, .slice s2 n2 c2] 47)).cell? ((⟨V.heap.size, 0, none⟩ : Addr).add j) = some u) := fun V => World.news_of_block (cs := #[.int .i64 k, .int .i64 n, .int .i64 m, .string s, .slice s1 n1 c1, .slice s2 n2 c2]) (t := 47) (fr := (0, 0)) (by show (V.heap.push _)[V.heap.size]? = _; simp)
  clear h hx hd hnd
  go_enter Tryz.func45, Tryz.ntmps45
  go_wp2_with fail
  go_region_law (first | (refine step_append_lies _ (by rfl) _ _ _ (by rfl) Z.heap.size 47 i0 _ 6 88 Tryz.underlying27 hi hz0 hz1 hz2 rfl (by omega) (.slice a0 xs.length c0) xs.length (xs.flatMap NodeC.cells) (by rfl) (unhide HOWN _ (unhide HW _)) ⟨w.heap.size + 1, 0, none⟩ 1 1 [.int .i64 k, .int .i64 n, .int .i64 m, .string s, .slice s1 n1 c1, .slice s2 n2 c2] (by rfl) (by rfl) (by have := unhide HNEW (w.alloc (.cells #[.int .i64 k, .int .i64 n, .int .i64 m, .string s, .slice s1 n1 c1, .slice s2 n2 c2] 47)); simpa using this) (one_node _ _ _ _ _ _ _ _ _ _) (by omega) (by unfold maxLen; omega) (by omega) (by simp; omega) (w.heap.size + 2) (by simp) ?_; intro g' cap' w7 hown' hgrow hat hlt7; obtain ⟨y3, z3, yl⟩ := (unhide H).grown (unhide HW _) hgrow; have HP7 := hide ((unhide H).put (unhide HW _) (unhide HX _ (unhide HW _)) (unhide HD) (unhide HND) hown' hgrow (by simpa using hat) (fun b hb => by have := unhide HNB b hb; simp; omega)); obtain ⟨_, b0, b1, b2, b3, b4, b5⟩ := keep7 w k n m s s1 s2 n1 c1 n2 c2 hgrow (unhide HNE) trivial; clear hown' hgrow hat))
  all_goals go_wp2_with fail
  all_goals go_ret
  all_goals exact ⟨by simp, _, unhide HP7⟩

set_option maxRecDepth 20000 in
set_option maxHeartbeats 4000000 in
theorem putI (Z : World) (p : Nat) (v0 v2 : Value) (w : World) (i : Nat) (nd : Value) (xs : List NodeC) (h : PS 88 Z p v0 v2 w i nd xs) (k n m : Int) (s : ByteArray) (nums kids : List Int) (s1 s2 : Option Addr) (n1 c1 n2 c2 : Nat) (hx : (⟨⟨k, n, m, s, nums, kids⟩, .slice s1 n1 c1, .slice s2 n2 c2⟩ : NodeC).Ok w Z.heap.size) (hd : ∀ b ∈ (⟨⟨k, n, m, s, nums, kids⟩, .slice s1 n1 c1, .slice s2 n2 c2⟩ : NodeC).blks, b ∉ blksC xs) (hnd : (⟨⟨k, n, m, s, nums, kids⟩, .slice s1 n1 c1, .slice s2 n2 c2⟩ : NodeC).blks.Nodup) (hlen : xs.length ≤ 1048576) :
    Calls Tryz.prog 104 #[.pointer (some ⟨p, 0, none⟩), .agg #[.int .i64 k, .int .i64 n, .int .i64 m, .string s, .slice s1 n1 c1, .slice s2 n2 c2]] w fun e w' => e = .returned (.int .i64 (xs.length : Nat)) ∧ ∃ nd', PS 88 Z p v0 v2 w' i nd' (xs ++ [⟨⟨k, n, m, s, nums, kids⟩, .slice s1 n1 c1, .slice s2 n2 c2⟩]) ∧ PBut p nd w w' ∧ (nd'.ownBlock = nd.ownBlock ∨ ∀ b, nd'.ownBlock = some b → w.heap.size ≤ b) := by
  obtain ⟨i0, hi, hz0, hz1, hz2⟩ := info_parts info_node
  obtain ⟨a0, c0, rfl⟩ := own_slice h.own
  obtain ⟨p0, p1, p2, p3, f0, f1, f2, f3, hpl⟩ := h.all
  have hpw : p ≠ w.heap.size := by omega
  have HW : Hid (∀ o : Obj, Below w.heap.size w ((w.alloc (.cells #[.int .i64 k, .int .i64 n, .int .i64 m, .string s, .slice s1 n1 c1, .slice s2 n2 c2] 47)).drew.alloc o)) := fun o => (((Below.refl _ _).alloc (Nat.le_refl _) _).drew).alloc (by simp) _
  have HX : Hid (∀ W, Below w.heap.size w W → (⟨⟨k, n, m, s, nums, kids⟩, .slice s1 n1 c1, .slice s2 n2 c2⟩ : NodeC).Ok W Z.heap.size) := fun W hW => ⟨own_keep hx.1 fun g hg => hW.block g ((ownBlk_of hx.1 hg).elim fun _ hc => lt_of_block hc.1), own_keep hx.2 fun g hg => hW.block g ((ownBlk_of hx.2 hg).elim fun _ hc => lt_of_block hc.1)⟩
  have HD := hide hd
  have HND := hide hnd
  have HNB : Hid (∀ b ∈ (⟨⟨k, n, m, s, nums, kids⟩, .slice s1 n1 c1, .slice s2 n2 c2⟩ : NodeC).blks, b < w.heap.size) := fun b hb => by
    unfold NodeC.blks at hb
    rcases List.mem_append.1 hb with h' | h'
    · exact (ownBlk_of hx.1 (by simpa [Option.mem_toList] using h')).elim fun _ hc => lt_of_block hc.1
    · exact (ownBlk_of hx.2 (by simpa [Option.mem_toList] using h')).elim fun _ hc => lt_of_block hc.1
  have H := hide h
  have HOWN : Hid (∀ W, Below w.heap.size w W → W.ownsRow Z.heap.size 47 6 (.slice a0 xs.length c0) xs.length (xs.flatMap NodeC.cells)) := fun W hW => (h.below hW).own
  have HNE : Hid (∀ g, (Value.slice a0 xs.length c0).ownBlock = some g → g < w.heap.size) := fun g hg => (ownBlk_of h.own hg).elim fun _ hc => lt_of_block hc.1
  have hzl : Z.heap.size ≤ w.heap.size := h.low.size
  have HNEW : Hid (∀ (V : World) (j : Nat) (u : Value), ([.int .i64 k, .int .i64 n, .int .i64 m, .string s, .slice s1 n1 c1, .slice s2 n2 c2] : List Value)[j]? = some u → (V.alloc (.cells #[.int .i64 k, .int .i64 n, .int .i64 m, .string s, .slice s1 n1 c1, .slice s2 n2 c2] 47)).cell? ((⟨V.heap.size, 0, none⟩ : Addr).add j) = some u) := fun V => World.news_of_block (cs := #[.int .i64 k, .int .i64 n, .int .i64 m, .string s, .slice s1 n1 c1, .slice s2 n2 c2]) (t := 47) (fr := (0, 0)) (by show (V.heap.push _)[V.heap.size]? = _; simp)
  clear h hx hd hnd
  go_enter Tryz.func104, Tryz.ntmps104
  go_wp2_with fail
  go_region_law (first | (refine step_append_lies _ (by rfl) _ _ _ (by rfl) Z.heap.size 47 i0 _ 6 88 Tryz.underlying27 hi hz0 hz1 hz2 rfl (by omega) (.slice a0 xs.length c0) xs.length (xs.flatMap NodeC.cells) (by rfl) (unhide HOWN _ (unhide HW _)) ⟨w.heap.size + 1, 0, none⟩ 1 1 [.int .i64 k, .int .i64 n, .int .i64 m, .string s, .slice s1 n1 c1, .slice s2 n2 c2] (by rfl) (by rfl) (by have := unhide HNEW (w.alloc (.cells #[.int .i64 k, .int .i64 n, .int .i64 m, .string s, .slice s1 n1 c1, .slice s2 n2 c2] 47)); simpa using this) (one_node _ _ _ _ _ _ _ _ _ _) (by omega) (by unfold maxLen; omega) (by omega) (by simp; omega) (w.heap.size + 2) (by simp) ?_; intro g' cap' w7 hown' hgrow hat hlt7; obtain ⟨y3, z3, yl⟩ := (unhide H).grown (unhide HW _) hgrow; have HP7 := hide ((unhide H).put (unhide HW _) (unhide HX _ (unhide HW _)) (unhide HD) (unhide HND) hown' hgrow (by simpa using hat) (fun b hb => by have := unhide HNB b hb; simp; omega)); obtain ⟨_, b0, b1, b2, b3, b4, b5⟩ := keep7 w k n m s s1 s2 n1 c1 n2 c2 hgrow (unhide HNE) trivial; clear hown' hgrow hat))
  all_goals go_wp2_with fail
  all_goals go_ret
  all_goals exact ⟨by simp, _, unhide HP7⟩

end Go.Proofs.YtmgjicgojlkpcaaGreatDoor
