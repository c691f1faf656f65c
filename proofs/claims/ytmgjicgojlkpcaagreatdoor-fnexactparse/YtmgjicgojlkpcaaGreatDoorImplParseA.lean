import Derived.Test.YtmgjicgojlkpcaaGreatDoorParseRes
import Derived.Test.YtmgjicgojlkpcaaGreatDoorNOwn
import Derived.Test.YtmgjicgojlkpcaaGreatDoorOwnTok
import Derived.Test.YtmgjicgojlkpcaaGreatDoorImplLex
namespace Go.Proofs.YtmgjicgojlkpcaaGreatDoor
open Go.RowKit

/-- Nodes of the run's own. -/
structure OwnN (w : World) (B : Nat) (nd : Value) (xs : List NodeC) : Prop where
  own : w.ownsRow B 47 6 nd xs.length (xs.flatMap NodeC.cells)
  lists : ∀ x ∈ xs, x.Ok w B
  apart : (blksC xs).Nodup

/-- What Parse gives: a tree of the call's own. -/
def GivesTree (B : Nat) (r : List NodeD × Int × Nat) (e : Ending) (w' : World) : Prop :=
  ∃ nd xs, e = .returned (.tuple #[.agg #[nd], .int .i64 r.2.1, .int .i64 (r.2.2 : Nat)]) ∧ xs.map NodeC.d = r.1 ∧ OwnN w' B nd xs

theorem OwnN.nil (w : World) (B : Nat) : OwnN w B (.slice none 0 0) [] := ⟨⟨rfl, .inl ⟨rfl, rfl⟩⟩, (fun x h => by cases h), by simp [blksC]⟩
theorem own_low {w : World} {B B' e size n : Nat} {v : Value} {l : List Value} (h : w.ownsRow B e size v n l) (hB : B' ≤ B) : w.ownsRow B' e size v n l := by
  refine ⟨h.1, ?_⟩
  rcases h.2 with h | ⟨g, cap, cur, h1, h2, h3⟩
  · exact .inl h
  · exact .inr ⟨g, cap, cur, h1, by omega, h3⟩
/-- Kept where a block below is written. -/
theorem OwnN.set {w : World} {B B' b i : Nat} {nd u : Value} {xs : List NodeC} (h : OwnN w B nd xs) (hb : b < B) (hB : B' ≤ B) : OwnN (w.setCell ⟨b, i, none⟩ u) B' nd xs := by
  have hk : ∀ k, B ≤ k → (w.setCell ⟨b, i, none⟩ u).heap[k]? = w.heap[k]? := fun k hk => heap_setCell_other w ⟨b, i, none⟩ k _ (by show k ≠ b; omega)
  exact ⟨own_low (own_keep h.own fun g hg => hk g ((ownBlk_of h.own hg).elim fun _ hc => hc.2)) hB, fun x hx => ⟨own_low (own_keep (h.lists x hx).1 fun g hg => hk g ((ownBlk_of (h.lists x hx).1 hg).elim fun _ hc => hc.2)) hB, own_low (own_keep (h.lists x hx).2 fun g hg => hk g ((ownBlk_of (h.lists x hx).2 hg).elim fun _ hc => hc.2)) hB⟩, h.apart⟩
theorem OwnN.below {w w' : World} {B : Nat} {nd : Value} {xs : List NodeC} (h : OwnN w B nd xs) (hb : Below w.heap.size w w') : OwnN w' B nd xs :=
  ⟨own_keep h.own fun g hg => hb.block g ((ownBlk_of h.own hg).elim fun _ hc => lt_of_block hc.1), fun x hx => ⟨own_keep (h.lists x hx).1 fun g hg => hb.block g ((ownBlk_of (h.lists x hx).1 hg).elim fun _ hc => lt_of_block hc.1), own_keep (h.lists x hx).2 fun g hg => hb.block g ((ownBlk_of (h.lists x hx).2 hg).elim fun _ hc => lt_of_block hc.1)⟩, h.apart⟩

theorem OwnI.rowS {w : World} {B : Nat} {v : Value} {zs : List Int} (h : OwnI w B v zs) (hz : zs.length ≤ 1048576) : ∃ a c, v = .slice a zs.length c ∧ Row w a zs.length zs ∧ zs.length ≤ c := by
  obtain ⟨a, c, e, hr, hc⟩ := h.row
  exact ⟨a, c, e, ⟨hr.len, by omega, hr.at_⟩, hc⟩

/-- Nodes of the run's own as a row. -/
theorem own_nrow {w : World} {B : Nat} {nd : Value} {xs : List NodeC} (hown : w.ownsRow B 47 6 nd xs.length (xs.flatMap NodeC.cells)) (hl : ∀ x ∈ xs, x.Ok w B) (hsm : SmallC xs) (hn : xs.length ≤ 1048576) : ∃ a c, nd = .slice a xs.length c ∧ NRowC w a xs.length (xs.map NodeC.d) := by
  rcases own_at hown with ⟨rfl, h0⟩ | ⟨g, cap, rfl, hlt, _, hc, hu⟩
  · rw [h0]
    exact ⟨none, 0, rfl, ⟨by rw [List.length_map]; exact h0, by omega, .inl rfl⟩, fun b off e => by cases e⟩
  have hk : ∀ j x, xs[j]? = some x → ∀ q u, q < 6 → x.cells[q]? = some u → w.cell? ⟨g, 0 + j * 6 + q, none⟩ = some u := fun j x hx q u hq hu' => by
    rw [Nat.zero_add]
    exact hu _ _ ((flatN_get xs j q x hx hq).trans hu')
  refine ⟨_, _, rfl, ⟨by rw [List.length_map], hn, .inr ⟨g, 0, rfl, hlt, fun j hj => ?_⟩⟩, fun b off e j hj s m c hcell => ?_⟩
  · obtain ⟨x, hx⟩ : ∃ x, xs[j]? = some x := ⟨_, List.getElem?_eq_getElem hj⟩
    obtain ⟨h4, h5⟩ := hl x (List.mem_of_getElem? hx)
    obtain ⟨k4, k5⟩ := hsm x (List.mem_of_getElem? hx)
    obtain ⟨a4, c4, e4, r4, _⟩ := h4.rowS k4
    obtain ⟨a5, c5, e5, r5, _⟩ := h5.rowS k5
    rw [node_map hx]
    refine ⟨a4, _, c4, a5, _, c5, ?_, ?_, ?_, ?_, ?_, ?_, r4, r5⟩
    · exact hk j x hx 0 _ (by omega) rfl
    · exact hk j x hx 1 _ (by omega) rfl
    · exact hk j x hx 2 _ (by omega) rfl
    · exact hk j x hx 3 _ (by omega) rfl
    · exact hk j x hx 4 _ (by omega) (by rw [← e4]; rfl)
    · exact hk j x hx 5 _ (by omega) (by rw [← e5]; rfl)
  · cases e
    obtain ⟨x, hx⟩ : ∃ x, xs[j]? = some x := ⟨_, List.getElem?_eq_getElem hj⟩
    obtain ⟨h4, h5⟩ := hl x (List.mem_of_getElem? hx)
    obtain ⟨k4, k5⟩ := hsm x (List.mem_of_getElem? hx)
    obtain ⟨a5, c5, e5, r5, hc5⟩ := h5.rowS k5
    have := hk j x hx 5 _ (by omega) (show x.cells[5]? = some (.slice a5 x.d.kids.length c5) by rw [← e5]; rfl)
    rw [hcell] at this
    cases this
    exact hc5

theorem smallC_of {xs : List NodeC} {ns : List NodeD} (e : xs.map NodeC.d = ns) (h : ∀ x ∈ ns, x.nums.length ≤ 1048576 ∧ x.kids.length ≤ 1048576) : SmallC xs := fun x hx => h x.d (by rw [← e]; exact List.mem_map.2 ⟨x, hx, rfl⟩)

/-- What lies ready for Parse. -/
structure GlP (w : World) : Prop where
  gl : GlTree w
  err : ∃ t a, w.cell? ⟨1, 0, none⟩ = some (.iface t (.pointer (some a)))
  han : w.cell? ⟨0, 0, none⟩ = some (.iface 169 (.agg #[.pointer (some ⟨10, 66, none⟩)]))
theorem GlP.below {w w' : World} (h : GlP w) (hb : Below w.heap.size w w') : GlP w' := by
  obtain ⟨t, a, he⟩ := h.err
  exact ⟨h.gl.below hb, ⟨t, a, (hb.cell (p := ⟨1, 0, none⟩) (World.block_lt_of_cell? _ _ he)).trans he⟩, (hb.cell (p := ⟨0, 0, none⟩) (World.block_lt_of_cell? _ _ h.han)).trans h.han⟩

section
variable {Z w : World} {p : Nat} {nd : Value} {xs : List NodeC} {ta : Option Addr} {tn tc bytes : Nat} {ts : List Tok}

theorem lineP_ok (E : IEnv Z ta tn ts bytes) (htl : ts.length ≤ 2000) (hs : ∀ y ∈ ts, y.t.size ≤ 2000) (h : IPS Z p ta tn tc bytes w 0 nd []) {q : Nat} {l : List (List NodeD)} (hr : lineR ts = (true, q, l)) (hq : ¬ q < ts.length) :
    Calls Tryz.prog 48 #[.pointer (some ⟨p, 0, none⟩)] w fun e w' => e = .returned .nilIface ∧ ∃ nd', KT Z p ta tn tc bytes w nd [] [] [lineN l] q w' nd' nilL [] := by
  have hln := E.row.len
  obtain ⟨h1, h2, h3, h4⟩ := line_knows htl hs hr
  by_cases h0 : ts = []
  · unfold lineR at hr
    rw [if_pos h0] at hr
    cases hr
    exact line_none h (by rw [← hln, h0]; rfl) (Nat.zero_le _)
  · have hp := line_prs h0
    rw [hr] at hp
    have hS := seriesStmt E (by omega) (levs (p := p) (tc := tc) E (by omega) (6 * ts.length + 9)) (Nat.le_refl _) (Nat.zero_le _) hp
    have hpos : 0 < ts.length := List.length_pos_iff.2 h0
    exact line_ok h (by show 0 + _ ≤ _; omega) (by omega) hS (by omega) (by show 0 + _ ≤ _; omega)

theorem lineP_bad (E : IEnv Z ta tn ts bytes) (htl : ts.length ≤ 2000) (h : IPS Z p ta tn tc bytes w 0 nd []) (hr : ¬ ((lineR ts).1 = true ∧ ¬ (lineR ts).2.1 < ts.length)) :
    Calls Tryz.prog 48 #[.pointer (some ⟨p, 0, none⟩)] w fun e w' => ∃ b, e = .returned (faultV b) ∧ IsFault w' b (tokA ts bytes (lineR ts).2.1).p ∧ Below Z.heap.size Z w' := by
  have hln := E.row.len
  by_cases h0 : ts = []
  · exact absurd ⟨by unfold lineR; rw [if_pos h0], by rw [h0]; exact Nat.not_lt_zero _⟩ hr
  · have hp := line_prs h0
    have hpos : 0 < ts.length := List.length_pos_iff.2 h0
    have hS := seriesStmt E (by omega) (levs (p := p) (tc := tc) E (by omega) (6 * ts.length + 9)) (Nat.le_refl _) (Nat.zero_le _) hp
    have hadv := prs_adv (seen_ends ts) (6 * ts.length + 9) 7 0 [] (Nat.zero_le _) (lineR ts).1 (lineR ts).2.1 (lineR ts).2.2 hp
    have hq : (lineR ts).2.1 ≤ ts.length := hadv.2.1
    clear hp hadv
    generalize lineR ts = R at hr hS hq ⊢
    obtain ⟨b, q, l⟩ := R
    cases b with
    | false => exact line_bad h (by show 0 + _ ≤ _; omega) (by omega) hS
    | true =>
      have hq' : q ≤ ts.length := hq
      have hlt : q < ts.length := Decidable.byContradiction fun hn => hr ⟨rfl, hn⟩
      exact line_more (q := q) E h (by show 0 + _ ≤ _; omega) (by omega) (by omega) hS (by omega)

/-- A parser made anew. -/
theorem ips_new : IPS Z Z.heap.size ta tn tc bytes (Z.alloc (.cells #[.slice ta tn tc, .int .i64 0, .int .i64 (bytes : Nat), .slice none 0 0] 88)) 0 (.slice none 0 0) [] := by
  refine ⟨?_, ⟨rfl, .inl ⟨rfl, rfl⟩⟩, (fun x h => by cases h), by simp [blksC], (Below.refl _ _).alloc (Nat.le_refl _) _, Nat.le_refl _, by decide, by decide⟩
  show (Z.heap.push _)[Z.heap.size]? = _
  simp

end
end Go.Proofs.YtmgjicgojlkpcaaGreatDoor
