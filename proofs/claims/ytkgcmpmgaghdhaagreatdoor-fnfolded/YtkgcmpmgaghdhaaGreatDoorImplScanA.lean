import Derived.Test.YtkgcmpmgaghdhaaGreatDoorImplScanG
import Derived.Test.YtkgcmpmgaghdhaaGreatDoorImplAxisZ
namespace Go.Proofs.YtkgcmpmgaghdhaaGreatDoor
open Go.RowKit Go.Shelf

theorem scan_strip {dt : List Int} {L A k : Nat} (hL : 0 < L) : (lineOf dt (k / A / L) L A (k % A)).take (k / A % L + 1) = stripOf dt (k - k / A % L * A) A (k / A % L + 1) := by
  have hr : k / A % L < L := Nat.mod_lt _ hL
  apply List.ext_getElem
  · simp [lineOf, stripOf]; omega
  · intro i hi hi'
    simp only [List.length_take, line_len] at hi
    have hiL : i < k / A % L + 1 := by omega
    simp only [List.getElem_take, lineOf, stripOf, List.getElem_map, List.getElem_range]
    congr 1
    have e1 : k / A = k / A / L * L + k / A % L := by rw [Nat.mul_comm]; exact (Nat.div_add_mod (k / A) L).symm
    have e2 : k = k / A * A + k % A := by rw [Nat.mul_comm]; exact (Nat.div_add_mod k A).symm
    have e3 : k / A * A = k / A / L * L * A + k / A % L * A := by rw [← Nat.add_mul, ← e1]
    rw [Nat.add_mul]
    omega

theorem scan_one_eq {c : Bool} {op : Int} {sh dt : List Int} {B L A : Nat} (hL : L ≤ 1) (hp : B * L * A = dt.length) : gatherAns c sh (fun k => foldR op ((lineOf dt (k / A / L) L A (k % A)).take (k / A % L + 1))) (B * L * A) = ⟨c, sh, dt, 0⟩ := by
  have hf : ∀ k, k < B * L * A → foldR op ((lineOf dt (k / A / L) L A (k % A)).take (k / A % L + 1)) = (dt.getD k 0, 0) := by
    intro k hk
    have hL1 : L = 1 := by
      rcases Nat.eq_zero_or_pos L with h | h
      · subst h; simp at hk
      · omega
    subst hL1
    have e : lineOf dt (k / A / 1) 1 A (k % A) = [dt.getD k 0] := by
      have : (k / A * 1 + 0) * A + k % A = k := by rw [Nat.mul_one, Nat.add_zero, Nat.mul_comm]; exact Nat.div_add_mod k A
      simp only [Nat.div_one, lineOf, List.range_one, List.map_cons, List.map_nil, this]
    rw [e, Nat.mod_one]; rfl
  have hz : firstCode (fun k => foldR op ((lineOf dt (k / A / L) L A (k % A)).take (k / A % L + 1))) (B * L * A) = 0 := firstCode_zero.mpr fun k hk => by rw [hf k hk]
  rw [gather_good hz]
  have hv : vals (fun k => foldR op ((lineOf dt (k / A / L) L A (k % A)).take (k / A % L + 1))) (B * L * A) = dt := by
    rw [hp]
    apply List.ext_getElem (by simp [vals])
    intro i hi hi'
    have := hf i (by rw [hp]; exact hi')
    simp only [vals, List.getElem_map, List.getElem_range]
    rw [this]
    simp [hi']
  rw [hv]

theorem code_same {f g : Nat → Int × Int} {n : Nat} (h : ∀ k, k < n → f k = g k) : firstCode f n = firstCode g n := by
  induction n with
  | zero => rfl
  | succ n ih => simp only [firstCode, ih (fun k hk => h k (by omega)), h n (by omega)]

theorem valsS_same {f g : Nat → Int × Int} {n : Nat} (h : ∀ k, k < n → f k = g k) : vals f n = vals g n := by
  unfold vals
  apply List.map_congr_left
  intro k hk
  rw [h k (List.mem_range.mp hk)]

theorem implScan_any (op : Int) (c : Bool) (a1 a2 : Addr) (n1 n2 c1 c2 : Nat) (sh dt : List Int) (fl : Bool) (w : World) (h1 : Row w (some a1) n1 sh) (h2 : Row w (some a2) n2 dt) (hc1 : n1 ≤ c1) (ga gb : Addr) (hG : GlF w ga gb) :
    Calls Tryz.prog 37 #[.int .i64 op, .agg #[.bool c, .slice (some a1) n1 c1, .slice (some a2) n2 c2], .bool fl] w (GivesOwn w (scan op c sh dt fl)) := by
  cases hop : opIn op with
  | false =>
    have e : scan op c sh dt fl = noAns 3 := by unfold scan; rw [if_neg (by rw [hop]; simp)]
    rw [e]
    exact implScan_bad1 op c fl a1 a2 n1 n2 c1 c2 w hop
  | true =>
    cases hok : arrOk c sh dt with
    | false =>
      have e : scan op c sh dt fl = noAns 3 := by unfold scan; rw [if_neg (by rw [hok]; simp)]
      rw [e]
      exact implScan_bad2 op c fl a1 a2 n1 n2 c1 c2 sh dt w h1 h2 hop hok
    | true =>
      have l1 := h1.len
      have l2 := h2.len
      by_cases hne : sh = []
      · have e : scan op c sh dt fl = ⟨c, sh, dt, 0⟩ := by unfold scan; rw [if_pos ⟨hok, hop⟩, if_pos hne, hne]
        rw [e]
        have hn0 : n1 = 0 := by rw [← l1, hne]; rfl
        subst hn0
        exact implScan_one op c fl a1 a2 0 n2 c1 c2 sh dt w h1 h2 hop hok 1 1 1 [] (fun W _ => axisOf_zero fl a1 c1 W) (Nat.le_refl _)
      · obtain ⟨B, L, A, hx, hp, _, hL, hA⟩ := axis_is fl hok hne
        obtain ⟨hin, _, h5⟩ := shapeIn_of hok
        obtain ⟨m, rfl⟩ : ∃ m, n1 = m + 1 := ⟨n1 - 1, by have := List.length_pos_iff.mpr hne; omega⟩
        have hax : ∀ W, Below w.heap.size w W → Calls Tryz.prog 94 #[.slice (some a1) (m + 1) c1, .bool fl] W (AxisOk W B L A (without sh fl)) := fun W hW => axisOf_any fl a1 m c1 B L A sh W (h1.below (Nat.le_refl _) hW) hc1 hin (by omega) hx
        by_cases hcn : c = true ∧ 1 < axisN sh fl
        · have e : scan op c sh dt fl = noAns 3 := by unfold scan; rw [if_pos ⟨hok, hop⟩, if_neg hne, if_pos hcn]
          rw [e]
          exact implScan_bad3 op c fl a1 a2 (m + 1) n2 c1 c2 sh dt w h1 h2 hop hok B L A _ hax hcn.1 (by have := hcn.2; rw [hx.l] at this; omega)
        · have e : scan op c sh dt fl = gatherAns c sh (fun k => foldR op ((lineOf dt (k / A / L) L A (k % A)).take (k / A % L + 1))) (B * L * A) := by
            unfold scan
            rw [if_pos ⟨hok, hop⟩, if_neg hne, if_neg hcn, hx.b, hx.l, hx.a]
            simp only [Int.toNat_natCast]
          rw [e]
          by_cases hL1 : L ≤ 1
          · rw [scan_one_eq hL1 hp]
            exact implScan_one op c fl a1 a2 (m + 1) n2 c1 c2 sh dt w h1 h2 hop hok B L A _ hax hL1
          · have hcf : c = false := by
              cases c
              · rfl
              · exact absurd ⟨rfl, by rw [hx.l]; omega⟩ hcn
            have ef : ∀ k, k < B * L * A → (fun k => foldR op ((lineOf dt (k / A / L) L A (k % A)).take (k / A % L + 1))) k = scanAt op dt L A k := by
              intro k _
              show foldR op ((lineOf dt (k / A / L) L A (k % A)).take (k / A % L + 1)) = _
              rw [scan_strip (by omega)]; rfl
            have eg : gatherAns c sh (fun k => foldR op ((lineOf dt (k / A / L) L A (k % A)).take (k / A % L + 1))) (B * L * A) = gatherAns c sh (scanAt op dt L A) n2 := by
              have e1 : firstCode (fun k => foldR op ((lineOf dt (k / A / L) L A (k % A)).take (k / A % L + 1))) (B * L * A) = firstCode (scanAt op dt L A) (B * L * A) := code_same ef
              have e2 : vals (fun k => foldR op ((lineOf dt (k / A / L) L A (k % A)).take (k / A % L + 1))) (B * L * A) = vals (scanAt op dt L A) (B * L * A) := valsS_same ef
              unfold gatherAns
              rw [e1, e2, hp, l2]
            rw [eg]
            subst hcf
            by_cases hfc : firstCode (scanAt op dt L A) n2 = 0
            · exact implScan_good0 op false fl a1 a2 (m + 1) n2 c1 c2 sh dt w h1 h2 ga gb hG hop hok B L A _ hax rfl (by omega) hL hA (by rw [hp, l2]) hfc
            · exact implScan_good1 op false fl a1 a2 (m + 1) n2 c1 c2 sh dt w h1 h2 ga gb hG hop hok B L A _ hax rfl (by omega) hL hA (by rw [hp, l2]) _ rfl hfc

end Go.Proofs.YtkgcmpmgaghdhaaGreatDoor
