import Derived.Test.YtcjhbeljhmocbaaDoorImplWriter
import Derived.Test.YtcjhbeljhmocbaaDoorImplAppN
import Derived.Test.YtcjhbeljhmocbaaDoorImplOkW
namespace Go.Proofs.YtcjhbeljhmocbaaDoor
open Go.RowKit Go.Shelf

theorem show_parts {c : Bool} {sh dt : List Int} {n1 n2 : Nat} (h : arrOk c sh dt = true) (hl1 : sh.length = n1) (hl2 : dt.length = n2) :
    ∃ R : Nat, prodAll (sh.take (n1 - 1)) = (R : Int) ∧ n2 = R * axisE sh 1 ∧ R ≤ 10000 ∧ axisE sh 1 ≤ 10000 ∧ n2 ≤ 10000 ∧ axisE sh 2 ≤ 10000 ∧ (0 < R → 0 < axisE sh 2) := by
  have hp := arr_parts' h
  have hb := prodAll_bd sh hp.1 (n1 - 1)
  have hsh := (shapeIn_of h).1
  have hcnt := prodAll_count sh hp.1
  have hb0 := prodAll_bd sh hp.1 sh.length
  rw [List.take_length, hcnt, hp.2.1, hl2] at hb0
  refine ⟨(prodAll (sh.take (n1 - 1))).toNat, by omega, ?_, by omega, ?_, by omega, ?_, ?_⟩
  · by_cases h0 : n1 = 0
    · have : sh = [] := List.length_eq_zero_iff.1 (by omega)
      subst this
      have e1 : prodAll [] = 1 := rfl
      rw [hp.2.1, hl2, e1] at hcnt
      simp [axisE, e1]
      omega
    · have hc := count_last h (by omega)
      rw [hl1, hl2] at hc
      have hA : ((axisE sh 1 : Nat) : Int) = sh.getD (n1 - 1) 0 := by
        unfold axisE
        rw [if_neg (by omega), hl1]
        omega
      have : (n2 : Int) = ((prodAll (sh.take (n1 - 1))).toNat * axisE sh 1 : Nat) := by
        rw [Int.natCast_mul, hA, Int.toNat_of_nonneg hb.1]
        exact hc.2
      exact_mod_cast this
  · unfold axisE
    split
    · omega
    · have := hsh.cell (sh.length - 1); omega
  · unfold axisE
    split
    · omega
    · have := hsh.cell (sh.length - 2); omega
  · intro hR
    unfold axisE
    split
    · omega
    · rename_i h2
      have hs := prodAll_snoc sh (n1 - 2) (by omega)
      rw [show n1 - 2 + 1 = n1 - 1 by omega] at hs
      rw [hl1]
      have hc := hsh.cell (n1 - 2)
      rcases Nat.eq_zero_or_pos (sh.getD (n1 - 2) 0).toNat with hz | hz
      · have hz' : sh.getD (n1 - 2) 0 = 0 := by omega
        rw [hz', Int.mul_zero] at hs
        omega
      · exact hz

theorem charOk_of {sh dt : List Int} (h : arrOk true sh dt = true) (k : Nat) (hk : k < dt.length) : 0 ≤ dt.getD k 0 ∧ dt.getD k 0 ≤ 1114111 ∧ ¬ (55296 ≤ dt.getD k 0 ∧ dt.getD k 0 ≤ 57343) := by
  have h1 := List.all_eq_true.1 (arr_parts' h).2.2.2 (dt.getD k 0) (by simp [hk])
  simp [dataOk, runeOk] at h1
  simp
  omega

/-- A value by which a row of an array (of N columns, R rows) is written behind a text. -/
def WriterOk (f : Value) (c : Bool) (dt : List Int) (N R n2 : Nat) (w' : World) : Prop :=
  ∃ g lb, f = .func (.func g) #[] lb ∧ (∀ args w, (callFunc g args).run Tryd.prog w = .ok (.enter g args) w) ∧ ∀ (B n r : Nat) (v : Value) (zs : List Int) (a : Option Addr) (cap : Nat) (W : World),
    Below w'.heap.size w' W → w'.heap.size ≤ B → TextG B W W v n zs → Row W a N (rowAt dt N r) → (∀ k, At a N k → k < B) → r < R → n ≤ 1000000000 → (∀ wx, Below B W wx → GlS wx) →
    Calls Tryd.prog g (#[v, .slice a N cap] ++ lb) W (GivesT B W (n + 120 * N) (zs ++ rowN c (wsN dt N n2) (rowAt dt N r) N))

theorem writer1_any (B n g : Nat) (v : Value) (zs : List Int) (a : Option Addr) (m cap nw cw : Nat) (row ws : List Int) (aw : Option Addr) (w : World) (hbx : w.cell? ⟨g, 0, none⟩ = some (.slice aw nw cw)) (hT : TextG B w w v n zs) (hr : Row w a m row) (hwr : Row w aw nw ws) (hap : ∀ k, At a m k → k < B) (haw : ∀ k, At aw nw k → k < B) (hm : m ≤ 10000) (hmw : m ≤ nw) (hn : n ≤ 1000000000)
    (hok : ∀ i, i < m → -1000000000000000 ≤ row.getD i 0 ∧ row.getD i 0 ≤ 1000000000000000) (hws : ∀ i, i < m → (wid (row.getD i 0) : Int) ≤ ws.getD i 0 ∧ ws.getD i 0 ≤ 100) (hG : ∀ wx, Below B w wx → GlS wx) :
    Calls Tryd.prog 33 #[v, .slice a m cap, .pointer (some ⟨g, 0, none⟩)] w (GivesT B w (n + 120 * m) (zs ++ rowN false ws row m)) := by
  have HC := hide (appendNumbers_any B n v zs a aw m cap nw cw row ws w hT hr hwr hap haw hm hmw hn hok hws hG)
  clear hT hr hwr hap haw hok hws hG hm hmw hn
  go_enter Tryd.func33, Tryd.ntmps33
  go_wp2_with fail
  refine (unhide HC).mono ?_
  rintro e w1 ⟨v', n', rfl, hn', hT'⟩
  have HT := hide hT'
  have HN := hide hn'
  clear hn' hT' HC hbx
  go_wp2_with fail
  go_ret
  exact ⟨v', n', rfl, unhide HN, unhide HT⟩

theorem eg_ac : ∀ args w, (callFunc 31 args).run Tryd.prog w = .ok (.enter 31 args) w := enters_of Tryd.func31 (by kernel_rfl) rfl
theorem eg_w1 : ∀ args w, (callFunc 33 args).run Tryd.prog w = .ok (.enter 33 args) w := enters_of Tryd.func33 (by kernel_rfl) rfl

theorem rowWriter_any (c : Bool) (a1 a2 : Addr) (n1 n2 c1 c2 N R : Nat) (sh dt : List Int) (w : World) (hok : arrOk c sh dt = true) (hG : GlS w) (h1 : Row w (some a1) n1 sh) (h2 : Row w (some a2) n2 dt)
    (hc1 : n1 ≤ c1) (hc2 : n2 ≤ c2) (hN : axisE sh 1 = N) (hR : prodAll (sh.take (n1 - 1)) = (R : Int)) (hn : n2 = R * N) (hn2 : n2 ≤ 10000) (hRb : R ≤ 10000) (hNb : N ≤ 10000) :
    Calls Tryd.prog 19 #[.agg #[.bool c, .slice (some a1) n1 c1, .slice (some a2) n2 c2]] w fun e w' => ∃ f, e = .returned f ∧ WriterOk f c dt N R n2 w' ∧ Below w.heap.size w w' := by
  have hdl := h2.len
  have hin : ∀ r, r < R → ∀ i, i < N → r * N + i < n2 := fun r hr i hi => by
    have := Nat.mul_le_mul_right N (show r + 1 ≤ R from hr)
    rw [Nat.add_mul, Nat.one_mul] at this
    omega
  cases c with
  | true =>
    refine (rowWriter_char _ _ w).mono ?_
    rintro e w' ⟨rfl, hb⟩
    refine ⟨_, rfl, ⟨_, _, rfl, eg_ac, fun B n r v zs a cap W hW hB hT hr hap hrR hnn hGw => ?_⟩, hb⟩
    refine (appendCharacters_any B n v zs a N cap (rowAt dt N r) (wsN dt N n2) W hT hr hap hNb hnn (fun i hi => ?_)).mono ?_
    · rw [rowAt_get hi]
      exact charOk_of hok _ (by have := hin r hrR i hi; omega)
    · rintro e w1 ⟨v', n', rfl, hn', hT'⟩
      exact ⟨v', n', rfl, by omega, hT'⟩
  | false =>
    have hd : ∀ k, k < n2 → -1000000000000000 ≤ dt.getD k 0 ∧ dt.getD k 0 ≤ 1000000000000000 := fun k hk => by
      have := rowOk_of hok k (by omega)
      simpa using this
    refine (callsIn_wide.1 (rowWriter_num_in a1 a2 n1 n2 c1 c2 N R sh dt w GlS (fun x => bstr (numT x)) (fun x hx W hg => numberText_any x hx W hg) (fun x hx W => widthOf_num x hx W) (fun A hb => hG.below hb) h1 h2 hc1 hc2 (shapeIn_of hok).1 hN hR hn hn2 hRb hNb hd)).mono ?_
    rintro e w' ⟨g, rfl, hcell, hblk, hb⟩
    refine ⟨_, rfl, ⟨_, _, rfl, eg_w1, fun B n r v zs a cap W hW hB hT hr hap hrR hnn hGw => ?_⟩, hb⟩
    have hg1 : g + 1 < w'.heap.size := lt_of_block hcell
    have hcW := (hW.block (g + 1) hg1).trans hcell
    have hbW := hblk.below (Nat.le_refl _) hW
    refine writer1_any B n (g + 1) v zs a N cap N N (rowAt dt N r) (wsN dt N n2) (some ⟨g, 0, none⟩) W (by simp [World.cell?, hcW]) hT hr (hbW.row (wsN_len _ _ _) (by omega)) hap (fun k hk => by have := at_eq hk; omega) hNb (Nat.le_refl _) hnn (fun i hi => ?_) (fun i hi => ?_) hGw
    · rw [rowAt_get hi]
      exact hd _ (hin r hrR i hi)
    · rw [rowAt_get hi]
      have hNp : 0 < N := by omega
      have h3 := wsN_ge (dt := dt) hNp n2 (r * N + i) (hin r hrR i hi)
      rw [Nat.mul_comm r N, Nat.mul_add_mod, Nat.mod_eq_of_lt hi, Nat.mul_comm N r] at h3
      refine ⟨h3, ?_⟩
      exact (wsN_bd (fun k hk => by have := wid_le (hd k (by omega)); omega) n2 (by omega) i).2

end Go.Proofs.YtcjhbeljhmocbaaDoor
