import Derived.Test.YtcjhbeljhmocbaaDoorSpecDec
import Derived.Test.YtcjhbeljhmocbaaDoorSpecWidth
import Derived.Test.YtcjhbeljhmocbaaDoorMarksB
import Derived.Test.YtcjhbeljhmocbaaDoorRowMore
import Derived.Laws.IdiomStrings
namespace Go.Proofs.YtcjhbeljhmocbaaDoor
open Go.RowKit

/-- An own list of bytes that grew out of the one in block g of the world w. -/
structure GrowF (Q w : World) (g : Nat) (wr : World) (g1 cap j : Nat) (zs : List Int) : Prop where
  grow : GrowB Q wr g1 cap j zs
  but : But (fun x => x = g) w wr
  at_ : g1 = g ∨ w.heap.size ≤ g1

section
variable {Q w wr w1 : World} {g g1 cap j : Nat} {zs : List Int}

theorem GrowF.start (h : GrowB Q w g cap j zs) : GrowF Q w g w g cap j zs := ⟨h, But.refl _ _, .inl rfl⟩

theorem GrowF.below (h : GrowF Q w g wr g1 cap j zs) (hb : Below wr.heap.size wr w1) : GrowF Q w g w1 g1 cap j zs :=
  ⟨h.grow.below hb, (h.but.trans (T := fun _ => False) (But.of_below hb)).mono (fun _ hk => hk.elim id False.elim), h.at_⟩

theorem GrowF.push {m g' cap' : Nat} {xs : List Int} (h : GrowF Q w g wr g1 cap j zs)
    (hown : w1.ownsRow Q.heap.size 5 1 (.slice (some ⟨g', 0, none⟩) (j + m) cap') (j + m) (zs.map (Value.int .u8) ++ xs.map (Value.int .u8))) (hg : wr.grownBy w1 (Value.ownBlock (.slice (some ⟨g1, 0, none⟩) j cap))) (hat : Value.ownBlock (.slice (some ⟨g1, 0, none⟩) j cap) = some g' ∨ g' = wr.heap.size) :
    GrowF Q w g w1 g' cap' (j + m) (zs ++ xs) := by
  refine ⟨h.grow.push hown hg, ⟨hg.os.trans h.but.os, hg.tape.trans h.but.tape, hg.output.trans h.but.output, Nat.le_trans h.but.size hg.size, fun k hk hn => (hg.block k (by have := h.but.size; omega) (fun e => by
    have e' : k = g1 := Option.some.inj e
    rcases h.at_ with h1 | h1
    · exact hn (by rw [e', h1])
    · omega)).trans (h.but.block k hk hn)⟩, ?_⟩
  rcases hat with e | e
  · have e' : g1 = g' := Option.some.inj e
    rw [← e']
    exact h.at_
  · right
    have := h.but.size
    omega
end

/-- A row's elements may be written: characters, or numbers within the bounds. -/
def RowOk (c : Bool) (row : List Int) : Prop := ∀ k, k < row.length → if c = true then 0 ≤ row.getD k 0 ∧ row.getD k 0 ≤ 1114111 else -1000000000000000 ≤ row.getD k 0 ∧ row.getD k 0 ≤ 1000000000000000

theorem encZ_len {r : Int} : 1 ≤ (encZ r).length ∧ (encZ r).length ≤ 4 := by
  unfold encZ
  repeat' split
  all_goals simp

theorem numT_len {v : Int} (hv : -1000000000000000 ≤ v ∧ v ≤ 1000000000000000) : 1 ≤ (numT v).length ∧ (numT v).length ≤ 18 := by
  unfold numT
  have h1 := decZ_pos v.natAbs
  have h2 := decZ_le 15 v.natAbs (by omega)
  rw [List.length_append]
  split <;> simp <;> omega

/-- '[]byte(s)'. -/
theorem conv_bytes (w : World) (l : List Int) (hl : ∀ x ∈ l, 0 ≤ x ∧ x ≤ 255) : ∃ cap W1, (convert 9 26 (.string (bstr l))).run Tryd.prog w = .ok (.slice (some ⟨w.heap.size, 0, none⟩) l.length cap) W1 ∧ RowB W1 (some ⟨w.heap.size, 0, none⟩) l.length l ∧ Below w.heap.size w W1 := by
  have h := run_bytes_of_string (P := Tryd.prog) w 9 26 5 (bstr l) Tryd.underlying9 Tryd.underlying26 Tryd.underlying5
  rw [bstr_size] at h
  refine ⟨_, _, h, ?_, (Below.refl _ w).drew.alloc (by simp) _⟩
  refine ⟨rfl, .inr ⟨w.heap.size, 0, rfl, by simp, fun i hi => ?_⟩⟩
  obtain ⟨C, hC⟩ : ∃ C, bytesRow (bstr l) (grownCap w l.length 0 5) = C := ⟨_, rfl⟩
  have hCi : C[i]? = some (.int .u8 (l.getD i 0)) := by
    rw [← hC]
    unfold bytesRow
    have hsz : i < ((bstr l).data.map (fun b => Value.int .u8 b.toNat)).size := by simp [bstr, hi]
    rw [Array.getElem?_append_left hsz]
    have hx := hl (l.getD i 0) (by simp [hi])
    simp [bstr, hi]
    simp [hi] at hx
    omega
  rw [hC]
  have hh : (w.drew.alloc (.cells C 5 (C.size, C.size + 1))).heap[w.heap.size]? = some (.cells C 5 (C.size, C.size + 1)) := by
    show (w.heap.push _)[w.heap.size]? = _
    simp
  obtain ⟨W, hW⟩ : ∃ W, w.drew.alloc (.cells C 5 (C.size, C.size + 1)) = W := ⟨_, rfl⟩
  rw [hW] at hh ⊢
  simp [World.cell?, hh, hCi]

/-- What l3Row gives: the line behind what there was. -/
def GivesLine (Q w : World) (g : Nat) (zs : List Int) (e : Ending) (w' : World) : Prop := ∃ g' cap' j', e = .returned (.slice (some ⟨g', 0, none⟩) j' cap') ∧ GrowF Q w g w' g' cap' j' zs

theorem line_end {Q w W w7 : World} {g g' cap' j' : Nat} {zs : List Int} (hb : Below w.heap.size w W) (h : GrowF Q W g w7 g' cap' j' zs) : GrowF Q w g w7 g' cap' j' zs :=
  ⟨h.grow, ((But.of_below (S := fun x => x = g) hb).trans h.but).mono (by rintro x (h | h) <;> exact h), h.at_.imp (fun e => e) (fun e => Nat.le_trans hb.size e)⟩

set_option maxRecDepth 20000 in
set_option maxHeartbeats 8000000 in
theorem l3Row_char (Q w : World) (g cap j : Nat) (zs : List Int) (h : GrowB Q w g cap j zs) (hj : j ≤ 1000000000) (v1 v2 : Value) (ad : Addr) (n cn : Nat) (row : List Int) (hr : Row w (some ad) n row) (hn : n ≤ 10000) (hap : ∀ k, k = g → ¬ At (some ad) n k) (hok : RowOk true row) (wv : Value) (ws : List Int) :
    Calls Tryd.prog 15 #[.slice (some ⟨g, 0, none⟩) j cap, .agg #[.bool true, v1, v2], .slice (some ad) n cn, wv] w (GivesLine Q w g (zs ++ lineT true ws row)) := by
  obtain ⟨i0, hi, hz0, hz1, hz2⟩ := info_parts info_byte
  obtain ⟨W, hW⟩ : ∃ W, W = w.alloc (.cells #[.bool true, v1, v2] 28) := ⟨_, rfl⟩
  have HF0 : Hid (GrowF Q W g W g cap j (zs ++ rowN true ws row 0)) := by
    rw [rowN_zero, List.append_nil, hW]
    exact GrowF.start (h.below ((Below.refl _ _).alloc (Nat.le_refl _) _))
  have HBW : Hid (Below w.heap.size w W) := by rw [hW]; exact (Below.refl _ _).alloc (Nat.le_refl _) _
  have hc0 : W.cell? ⟨w.heap.size, 0, none⟩ = some (.bool true) := by
    have hh : W.heap[w.heap.size]? = some (.cells #[.bool true, v1, v2] 28 (0, 0)) := by
      rw [hW]
      show (w.heap.push _)[w.heap.size]? = _
      simp
    simp [World.cell?, hh]
  have hWs : w.heap.size < W.heap.size := by rw [hW]; simp
  have HHW := hide hW
  have HR := hide hr
  have hglt : g < w.heap.size := by
    have := h.row
    rcases h.own.2 with ⟨h', _⟩ | ⟨g', cap', cur, h', _, hg, _⟩
    · simp at h'
    · cases h'; exact lt_of_block hg
  have hlen := hr.len
  have HOK := hide hok
  have HAP := hide hap
  have HRW : Hid (Row W (some ad) n row) := (unhide HR).below (Nat.le_refl _) (unhide HBW)
  rw [hlen.symm] at hn
  have HLEN := hide hlen
  rw [hlen] at hn
  clear h hr hok hW hap hlen
  go_enter Tryd.func15, Tryd.ntmps15
  go_wp2_with fail
  rw [← unhide HHW]
  go_loopw [0, 9] (fun u v wr => ∃ (k g1 cap1 j1 : Nat), u = .slice (some ⟨g1, 0, none⟩) j1 cap1 ∧ v = .int .i64 k ∧ k ≤ n ∧ j1 ≤ j + 4 * k ∧ Hid (GrowF Q W g wr g1 cap1 j1 (zs ++ rowN true ws row k))) (fun _ v _ => n - (intOf v).toNat)
  case atStart => exact ⟨0, g, cap, j, rfl, rfl, Nat.zero_le _, by omega, HF0⟩
  case round =>
    obtain ⟨k, g1, cap1, j1, rfl, rfl, hk, hjk, HF⟩ := hrel
    clear HF0
    have hcb := ((unhide HF).but.block w.heap.size hWs (by omega))
    have cB : wr.cell? ⟨w.heap.size, 0, none⟩ = some (.bool true) := by
      rw [World.cell?_of_block (w := W) (a := ⟨w.heap.size, 0, none⟩) hcb]
      exact hc0
    have hqz := (unhide HF).grow.low.size
    by_cases hlt : k < n
    · have hlti : (k : Int) < (n : Int) := by omega
      obtain ⟨b, off, e, -, cD⟩ := ((unhide HF).but.row (unhide HRW) (unhide HAP)).get hlt
      cases e
      have hv := unhide HOK k (by rw [unhide HLEN]; exact hlt)
      rw [if_pos rfl] at hv
      obtain ⟨x, hx⟩ : ∃ x : Nat, row.getD k 0 = (x : Int) := ⟨(row.getD k 0).toNat, by omega⟩
      rw [hx] at cD hv
      have HX := hide hx
      have hx1 : x ≤ 1114111 := by omega
      have hel := encZ_len (r := (x : Int))
      clear hx hcb hv
      go_wp2_with fail
      refine (l1Bytes_any x hx1 wr).mono ?_
      rintro e w5 ⟨gb, rfl, hrb, hb5⟩
      have HF5 := hide ((unhide HF).below hb5)
      have HRB := hide hrb
      obtain ⟨m, hm⟩ : ∃ m, (encZ (x : Int)).length = m := ⟨_, rfl⟩
      rw [hm] at HRB hel ⊢
      have hqz5 := (unhide HF5).grow.low.size
      have HML := hide hm
      clear hrb hb5 hm
      go_wp2_with (at_builtin; refine wpList_append_lies _ rfl _ _ 26 rfl Q.heap.size 5 i0 (.int .u8 0) 1 1 Tryd.underlying26 hi hz0 hz1 hz2 rfl (by decide) _ _ _ rfl (unhide HF5).grow.own ⟨gb, 0, none⟩ m m ((encZ (x : Int)).map (Value.int .u8)) rfl (by rw [List.length_map, unhide HML]; simp) (unhide HRB).news (one_bytes _) (by omega) (by unfold maxLen; omega) (by omega) (by omega) w5.heap.size rfl ?_; intro g' cap' w7 hown' hgrow hat hlt7; have HF7 := hide ((unhide HF5).push hown' hgrow hat); clear hgrow hat hown' hlt7)
      go_roundw
      case rel =>
        refine ⟨k + 1, g', cap', j1 + m, rfl, by go_num, by omega, by omega, ?_⟩
        show GrowF _ _ _ _ _ _ _ _
        rw [rowN_succ, ← List.append_assoc]
        have e : cellT true ws row k = encZ (x : Int) := by unfold cellT; rw [if_pos rfl, unhide HX]
        rw [e]
        exact unhide HF7
      case measure => simp [intOf]; omega
    · have hlti : ¬ (k : Int) < (n : Int) := by omega
      obtain rfl : k = n := by omega
      clear hlt hcb
      go_wp2_with (at_builtin; refine wpList_append_lies _ rfl _ _ 26 rfl Q.heap.size 5 i0 (.int .u8 0) 1 1 Tryd.underlying26 hi hz0 hz1 hz2 rfl (by decide) _ _ _ rfl ((unhide HF).below ((Below.refl _ _).alloc (Nat.le_refl _) _)).grow.own ⟨wr.heap.size, 0, none⟩ 1 1 ([10].map (Value.int .u8)) rfl rfl (RowB.new wr [10]).news (one_bytes _) (by omega) (by unfold maxLen; omega) (by omega) (by simp; omega) (wr.heap.size + 1) (by simp) ?_; intro g' cap' w7 hown' hgrow hat hlt7; have HF7 := hide (((unhide HF).below ((Below.refl _ _).alloc (Nat.le_refl _) _)).push hown' hgrow (hat.imp (fun h => h) (fun h => by rw [h]; simp))); clear hgrow hat hown' hlt7)
      go_ret
      exact ⟨g', cap', j1 + 1, rfl, line_end (unhide HBW) (by unfold lineT; rw [unhide HLEN, ← List.append_assoc]; exact unhide HF7)⟩

end Go.Proofs.YtcjhbeljhmocbaaDoor
