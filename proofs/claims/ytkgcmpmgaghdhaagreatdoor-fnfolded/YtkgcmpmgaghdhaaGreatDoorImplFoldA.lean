import Derived.Test.YtkgcmpmgaghdhaaGreatDoorImplFoldG
import Derived.Test.YtkgcmpmgaghdhaaGreatDoorImplAxisZ
namespace Go.Proofs.YtkgcmpmgaghdhaaGreatDoor
open Go.RowKit Go.Shelf

theorem fold_one_eq {c : Bool} {op : Int} {dt others : List Int} {B A : Nat} (hp : B * 1 * A = dt.length) : gatherAns c others (fun k => foldR op (lineOf dt (k / A) 1 A (k % A))) (B * A) = ⟨c, others, dt, 0⟩ := by
  have hp' : B * A = dt.length := by rw [← hp, Nat.mul_one]
  have hf : ∀ k, k < B * A → foldR op (lineOf dt (k / A) 1 A (k % A)) = (dt.getD k 0, 0) := by
    intro k _
    have e : lineOf dt (k / A) 1 A (k % A) = [dt.getD k 0] := by
      have : (k / A * 1 + 0) * A + k % A = k := by rw [Nat.mul_one, Nat.add_zero, Nat.mul_comm]; exact Nat.div_add_mod k A
      simp only [lineOf, List.range_one, List.map_cons, List.map_nil, this]
    rw [e]; rfl
  have hz : firstCode (fun k => foldR op (lineOf dt (k / A) 1 A (k % A))) (B * A) = 0 := firstCode_zero.mpr fun k hk => by rw [hf k hk]
  rw [gather_good hz]
  have hv : vals (fun k => foldR op (lineOf dt (k / A) 1 A (k % A))) (B * A) = dt := by
    rw [hp']
    apply List.ext_getElem (by simp [vals])
    intro i hi hi'
    have := hf i (by rw [hp']; exact hi')
    simp only [vals, List.getElem_map, List.getElem_range]
    rw [this]
    simp [hi']
  rw [hv]

theorem implFold_any (op : Int) (c : Bool) (a1 a2 : Addr) (n1 n2 c1 c2 : Nat) (sh dt : List Int) (fl : Bool) (w : World) (h1 : Row w (some a1) n1 sh) (h2 : Row w (some a2) n2 dt) (hc1 : n1 ≤ c1) (ga gb : Addr) (hG : GlF w ga gb) :
    Calls Tryz.prog 34 #[.int .i64 op, .agg #[.bool c, .slice (some a1) n1 c1, .slice (some a2) n2 c2], .bool fl] w (GivesOwn w (fold op c sh dt fl)) := by
  cases hop : opIn op with
  | false =>
    have e : fold op c sh dt fl = noAns 3 := by unfold fold; rw [if_neg (by rw [hop]; simp)]
    rw [e]
    exact implFold_bad1 op c fl a1 a2 n1 n2 c1 c2 w hop
  | true =>
    cases hok : arrOk c sh dt with
    | false =>
      have e : fold op c sh dt fl = noAns 3 := by unfold fold; rw [if_neg (by rw [hok]; simp)]
      rw [e]
      exact implFold_bad2 op c fl a1 a2 n1 n2 c1 c2 sh dt w h1 h2 hop hok
    | true =>
      have l1 := h1.len
      have l2 := h2.len
      by_cases hne : sh = []
      · have e : fold op c sh dt fl = ⟨c, [], dt, 0⟩ := by unfold fold; rw [if_pos ⟨hok, hop⟩, if_pos hne]
        rw [e]
        have hn0 : n1 = 0 := by rw [← l1, hne]; rfl
        subst hn0
        exact implFold_one op c fl a1 a2 0 n2 c1 c2 sh dt w h1 h2 hop hok 1 1 1 [] (fun W _ => axisOf_zero fl a1 c1 W) rfl
      · obtain ⟨B, L, A, hx, hp, hB, hL, hA⟩ := axis_is fl hok hne
        obtain ⟨hin, _, h5⟩ := shapeIn_of hok
        obtain ⟨m, rfl⟩ : ∃ m, n1 = m + 1 := ⟨n1 - 1, by have := List.length_pos_iff.mpr hne; omega⟩
        have hax : ∀ W, Below w.heap.size w W → Calls Tryz.prog 94 #[.slice (some a1) (m + 1) c1, .bool fl] W (AxisOk W B L A (without sh fl)) := fun W hW => axisOf_any fl a1 m c1 B L A sh W (h1.below (Nat.le_refl _) hW) hc1 hin (by omega) hx
        obtain ⟨hw1, hw2⟩ := without_in fl hok B L A hx hne
        by_cases hcn : c = true ∧ axisN sh fl ≠ 1
        · have e : fold op c sh dt fl = noAns 3 := by unfold fold; rw [if_pos ⟨hok, hop⟩, if_neg hne, if_pos hcn]
          rw [e]
          exact implFold_bad3 op c fl a1 a2 (m + 1) n2 c1 c2 sh dt w h1 h2 hop hok B L A _ hax hcn.1 (by have := hcn.2; rw [hx.l] at this; omega)
        · have e : fold op c sh dt fl = gatherAns c (without sh fl) (fun k => foldR op (lineOf dt (k / A) L A (k % A))) (B * A) := by
            unfold fold
            rw [if_pos ⟨hok, hop⟩, if_neg hne, if_neg hcn, hx.b, hx.l, hx.a]
            simp only [Int.toNat_natCast]
          rw [e]
          by_cases hL1 : L = 1
          · subst hL1
            rw [fold_one_eq hp]
            exact implFold_one op c fl a1 a2 (m + 1) n2 c1 c2 sh dt w h1 h2 hop hok B 1 A _ hax rfl
          · have hcf : c = false := by
              cases c
              · rfl
              · exact absurd ⟨rfl, by rw [hx.l]; omega⟩ hcn
            have ef : (fun k => foldR op (lineOf dt (k / A) L A (k % A))) = foldAt op dt L A := by
              funext k; rw [line_strip]; rfl
            rw [ef]
            subst hcf
            by_cases hfc : firstCode (foldAt op dt L A) (B * A) = 0
            · exact implFold_good0 op false fl a1 a2 (m + 1) n2 c1 c2 sh dt w h1 h2 ga gb hG hop hok B L A _ hax rfl hL1 hB hL hA (by rw [hp, l2]) hw1 hw2 hfc
            · exact implFold_good1 op false fl a1 a2 (m + 1) n2 c1 c2 sh dt w h1 h2 ga gb hG hop hok B L A _ hax rfl hL1 hB hL hA (by rw [hp, l2]) hw1 hw2 _ rfl hfc

end Go.Proofs.YtkgcmpmgaghdhaaGreatDoor
