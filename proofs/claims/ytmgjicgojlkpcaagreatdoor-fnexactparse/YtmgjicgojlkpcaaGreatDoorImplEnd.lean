import Derived.Test.YtmgjicgojlkpcaaGreatDoorImplKT
import Derived.Test.YtmgjicgojlkpcaaGreatDoorIntsB
namespace Go.Proofs.YtmgjicgojlkpcaaGreatDoor
open Go.RowKit

section
variable {Z w w0 w1 : World} {p i j : Nat} {nd nd0 nd1 v : Value} {zs : List Int} {xs ys : List NodeC} {bx : List Nat} {ls : List (List NodeD)} {ta : Option Addr} {tn tc bytes : Nat} {ts : List Tok}

theorem one_i (z : Int) : ∀ u ∈ ([.int .i64 z] : List Value), u.oneCell' = true := by
  intro u hu
  simp at hu
  subst hu
  rfl

theorem cells_i (w : World) (x : Int) : ∀ (j : Nat) u, ([.int .i64 x] : List Value)[j]? = some u → (w.alloc (.cells #[.int .i64 x] 3)).cell? ((⟨w.heap.size, 0, none⟩ : Addr).add j) = some u := by
  intro j u hj
  match j, hj with
  | 0, hj => simp at hj; subst hj; simp [Addr.add]
  | j + 1, hj => simp at hj

/-- A list that a call has just grown by one. -/
theorem KT.grew {W w7 : World} {g cap : Nat} {z : Int} {a : Option Addr} {c : Nat} (h : KT Z p ta tn tc bytes w0 nd0 xs bx ls i W nd (.slice a zs.length c) zs) (hown : w7.ownsRow Z.heap.size 3 1 (.slice (some ⟨g, 0, none⟩) (zs.length + 1) cap) (zs.length + 1) (zs.map (Value.int .i64) ++ [.int .i64 z])) (hg : W.grownBy w7 (Value.slice a zs.length c).ownBlock) {H : Nat} (hat : (Value.slice a zs.length c).ownBlock = some g ∨ g = H) (hH : H = W.heap.size) : KT Z p ta tn tc bytes w0 nd0 xs bx ls i w7 nd (.slice (some ⟨g, 0, none⟩) (zs.length + 1) cap) (zs ++ [z]) ∧ BoxSame bx W w7 := by
  refine h.grow ?_ hg (by rw [← hH]; exact hat)
  unfold OwnI
  rw [List.map_append, List.length_append]
  exact hown

theorem KT.ownR (h : KT Z p ta tn tc bytes w0 nd0 xs bx ls i w nd v zs) : w.ownsRow Z.heap.size 3 1 v zs.length (zs.map (Value.int .i64)) := by
  obtain ⟨_, _, _, ho, _⟩ := h
  exact ho

def nodeO (k n m : Int) (s : ByteArray) (v : Value) : Obj := .cells #[.int .i64 k, .int .i64 n, .int .i64 m, .string s, .slice none 0 0, v] 47

theorem box_cells {k n m : Int} {s : ByteArray} {b : Nat} (h : w.heap[b]? = some (nodeO k n m s v)) : w.cell? ⟨b, 0, none⟩ = some (.int .i64 k) ∧ w.cell? ⟨b, 1, none⟩ = some (.int .i64 n) ∧ w.cell? ⟨b, 2, none⟩ = some (.int .i64 m) ∧ w.cell? ⟨b, 3, none⟩ = some (.string s) ∧ w.cell? ⟨b, 4, none⟩ = some (.slice none 0 0) ∧ w.cell? ⟨b, 5, none⟩ = some v ∧ w.frozen? ⟨b, 5, none⟩ = false ∧ b < w.heap.size := by
  unfold nodeO at h
  refine ⟨?_, ?_, ?_, ?_, ?_, ?_, frozen_of_row w b 5 _ _ h, lt_of_block h⟩ <;> simp [World.cell?, h]

set_option maxRecDepth 20000 in
set_option maxHeartbeats 4000000 in
theorem end_ok {L : List Int} {s2 : Option Addr} {c2 : Nat} (hL : L = placesT xs.length ls) (h : KT Z p ta tn tc bytes w0 nd0 xs [] ls i w nd (.slice s2 L.length c2) L) (k n m : Int) (s : ByteArray) {q : Nat} {t : List NodeD} (hX : ReadI Z p ta tn tc ts bytes 166 #[.pointer (some ⟨p, 0, none⟩)] i (true, q, [t])) (hroom : xs.length + (rowT ls).length + 4 * (5000 - i) ≤ 100000) (hlen : xs.length + (rowT (ls ++ [t])).length ≤ 100000) (hLl : L.length ≤ 100000) :
    Calls Tryz.prog 161 #[.pointer (some ⟨p, 0, none⟩), .agg #[.int .i64 k, .int .i64 n, .int .i64 m, .string s, .slice none 0 0, .slice s2 L.length c2]] w (GaveI Z p ta tn tc ts bytes w0 nd0 xs (true, q, [treeN k n m s [] (ls ++ [t])])) := by
  obtain ⟨i0, hi, hz0, hz1, hz2⟩ := info_parts info_int
  have HK1 := hide (h.box (nodeO k n m s (.slice s2 L.length c2)))
  have HX := hide (KT.read hX (unhide HK1) hroom)
  have hzl : Z.heap.size ≤ w.heap.size := h.low.size
  have HLen : Hid (xs.length + (rowT (ls ++ [t])).length ≤ 1048576) := by show _ ≤ _; omega
  have HP : Hid (∀ z : Int, z = ((xs.length + (rowT (ls ++ [t])).length : Nat) : Int) - 1 → L ++ [z] = placesT xs.length (ls ++ [t])) := fun z hz => by
    rw [places_app, places_one, hL, hz, row_app, row_one]
    congr 2
    omega
  have HO : Hid ((w.alloc (nodeO k n m s (.slice s2 L.length c2))).heap[w.heap.size]? = some (nodeO k n m s (.slice s2 L.length c2))) := by
    show (w.heap.push _)[w.heap.size]? = _
    simp
  clear h hX hL hlen hroom
  go_enter Tryz.func161, Tryz.ntmps161
  go_wp2_with (first | (go_at_call 166; refine (unhide HX).mono ?_; rintro e w5 ⟨z, nd', rfl, hz, hk, hs⟩; obtain ⟨y0, y1, y2, y3, y4, y5, y6, hbl⟩ := box_cells ((hs _ (List.mem_singleton.2 rfl)).trans (unhide HO)); have HB5 := hide ((hs _ (List.mem_singleton.2 rfl)).trans (unhide HO)); have HK5 := hide (hk.below ((Below.refl _ _).alloc (Nat.le_refl _) (.cells #[.int .i64 z] 3))); have HPZ := hide (unhide HP z hz); have hzl5 := hk.low.size; clear hk hs hz HX HK1 HP) | (at_builtin; refine wpList_append_lies _ rfl _ _ 45 rfl Z.heap.size 3 i0 (.int .i64 0) 1 8 Tryz.underlying45 hi hz0 hz1 hz2 rfl (by decide) _ _ _ rfl (unhide HK5).ownR ⟨w5.heap.size, 0, none⟩ 1 1 [.int .i64 z] rfl rfl (cells_i _ _) (one_i _) (by omega) (by unfold maxLen; omega) (by omega) (by simp; omega) (w5.heap.size + 1) (by simp) ?_; intro g' cap' w7 hown' hgrow hat hlt7; obtain ⟨hk7, hs7⟩ := KT.grew (unhide HK5) hown' hgrow hat (by simp); obtain ⟨x0, x1, x2, x3, x4, x5, x6, hbl7⟩ := box_cells ((hs7 _ (List.mem_singleton.2 rfl)).trans ((Below.heap_alloc _ _ _ hbl).trans (unhide HB5))); have HK7 := hide hk7; clear hk7 hs7 hown' hgrow hat hlt7) | (go_at_call 104; have hk8 := (unhide HK7).setBox (k := w.heap.size) (q := 5) (u := .slice (some ⟨g', 0, none⟩) (L.length + 1) cap') (List.mem_singleton.2 rfl); rw [unhide HPZ] at hk8; refine (KT.put hk8 k n m s (unhide HLen)).mono ?_; clear hk8; rintro e w9 ⟨rfl, nd9, hk9⟩; have HK9 := hide hk9; clear hk9))
  go_ret2
  refine (unhide HK9).gave rfl ?_
  rw [row_one, tree_len]
  omega

set_option maxRecDepth 20000 in
set_option maxHeartbeats 4000000 in
theorem end_no {L : List Int} {s2 : Option Addr} {c2 : Nat} (h : KT Z p ta tn tc bytes w0 nd0 xs [] ls i w nd (.slice s2 L.length c2) L) (k n m : Int) (s : ByteArray) {q : Nat} {l : List (List NodeD)} (hX : ReadI Z p ta tn tc ts bytes 166 #[.pointer (some ⟨p, 0, none⟩)] i (false, q, l)) (hroom : xs.length + (rowT ls).length + 4 * (5000 - i) ≤ 100000) :
    Calls Tryz.prog 161 #[.pointer (some ⟨p, 0, none⟩), .agg #[.int .i64 k, .int .i64 n, .int .i64 m, .string s, .slice none 0 0, .slice s2 L.length c2]] w (GaveI Z p ta tn tc ts bytes w0 nd0 xs (false, q, [])) := by
  have HX := hide (KT.readNo hX (h.box (nodeO k n m s (.slice s2 L.length c2))) hroom)
  clear h hX hroom
  go_enter Tryz.func161, Tryz.ntmps161
  go_wp2_with (go_at_call 166; refine (unhide HX).mono ?_; rintro e w5 ⟨b, z, rfl, hf, hb⟩; have HF := hide (And.intro hf hb); clear hf hb; delta faultV)
  go_ret2
  exact gave_fault 0 rfl (unhide HF).1 (unhide HF).2

end
end Go.Proofs.YtmgjicgojlkpcaaGreatDoor
