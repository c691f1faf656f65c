import Derived.Test.YtinndpnilmmmjaaGreatDoorMFit0
import Derived.Test.YtinndpnilmmmjaaGreatDoorMFit0
import Derived.Test.YtinndpnilmmmjaaGreatDoorMFit0
import Derived.Test.YtinndpnilmmmjaaGreatDoorMFit0
import Derived.Deep.RegionWith
import Derived.Deep.OwnRows
namespace Go.Proofs.YtinndpnilmmmjaaGreatDoor
open Go.RowKit

/-- The places in front of the stretches of the first nodes, and how tall these are. -/
def frN (st : List (Nat × Nat)) (n : Nat) : List Int := st.map (fun p => ((p.1 : Nat) : Int) - 1) ++ List.replicate (n - st.length) 0
def spN (st : List (Nat × Nat)) (n : Nat) : List Int := st.map (fun p => ((p.2 : Nat) : Int)) ++ List.replicate (n - st.length) 0

theorem set_end {α : Type} (l : List α) (m : Nat) (z x : α) (h : 0 < m) : (l ++ List.replicate m z).set l.length x = (l ++ [x]) ++ List.replicate (m - 1) z := by
  obtain ⟨k, rfl⟩ : ∃ k, m = k + 1 := ⟨m - 1, by omega⟩
  rw [List.replicate_succ, List.set_append_right _ _ (Nat.le_refl _), Nat.sub_self, List.set_cons_zero, List.append_assoc]
  rfl

theorem frN_set {st : List (Nat × Nat)} {n : Nat} (h : st.length < n) (p : Nat × Nat) : (frN st n).set st.length (((p.1 : Nat) : Int) - 1) = frN (st ++ [p]) n := by
  unfold frN
  have := set_end (st.map (fun p : Nat × Nat => ((p.1 : Nat) : Int) - 1)) (n - st.length) 0 (((p.1 : Nat) : Int) - 1) (by omega)
  rw [List.length_map] at this
  rw [this, List.map_append, List.length_append, show n - st.length - 1 = n - (st.length + [p].length) by simp; omega]
  rfl
theorem spN_set {st : List (Nat × Nat)} {n : Nat} (h : st.length < n) (p : Nat × Nat) : (spN st n).set st.length ((p.2 : Nat) : Int) = spN (st ++ [p]) n := by
  unfold spN
  have := set_end (st.map (fun p : Nat × Nat => ((p.2 : Nat) : Int))) (n - st.length) 0 ((p.2 : Nat) : Int) (by omega)
  rw [List.length_map] at this
  rw [this, List.map_append, List.length_append, show n - st.length - 1 = n - (st.length + [p].length) by simp; omega]
  rfl
theorem spN_zero {st : List (Nat × Nat)} {n : Nat} (h : st.length < n) : (spN st n).set st.length 0 = spN st n := by
  apply List.ext_getElem?
  intro j
  rw [List.getElem?_set]
  by_cases e : st.length = j
  · subst e
    unfold spN
    rw [List.getElem?_append_right (by simp)]
    simp [show 0 < n - st.length by omega]
  · rw [if_neg e]
theorem frN_len {st : List (Nat × Nat)} {n : Nat} (h : st.length ≤ n) : (frN st n).length = n := by unfold frN; simp; omega
theorem spN_len {st : List (Nat × Nat)} {n : Nat} (h : st.length ≤ n) : (spN st n).length = n := by unfold spN; simp; omega
theorem frN_get {st : List (Nat × Nat)} {n y : Nat} (h : y < st.length) : (frN st n).getD y 0 = (((st.getD y (0, 0)).1 : Nat) : Int) - 1 := by
  unfold frN
  simp [List.getD_eq_getElem?_getD, List.getElem?_append_left, h]
theorem spN_get {st : List (Nat × Nat)} {n y : Nat} (h : y < st.length) (x : Int) : ((spN st n).set st.length x).getD y 0 = (((st.getD y (0, 0)).2 : Nat) : Int) := by
  unfold spN
  rw [List.getD_eq_getElem?_getD, List.getElem?_set, if_neg (by omega)]
  simp [List.getElem?_append_left, h]
theorem spN_at {st : List (Nat × Nat)} {n : Nat} (h : st.length < n) (x : Int) : ((spN st n).set st.length x).getD st.length 0 = x := by
  rw [List.getD_eq_getElem?_getD, List.getElem?_set, if_pos rfl, if_pos (by rw [spN_len (by omega)]; omega)]
  rfl

theorem But.drewT {S : Nat → Prop} {w w' : World} (h : But S w w') : But S w w'.drew := ⟨h.os, h.tape, h.output, h.size, h.block⟩

theorem order_none {ns : List NodeD} {i : Nat} (h : ordN ns (i + 1) = none) (hi : i < ns.length) : orderI ns = false := by
  have := ord_none h (ns.length - (i + 1))
  rw [show i + 1 + (ns.length - (i + 1)) = ns.length by omega] at this
  unfold orderI
  rw [this]

set_option maxRecDepth 20000 in
set_option maxHeartbeats 16000000 in
theorem isInOrder_any (a : Option Addr) (n cap : Nat) (ns : List NodeD) (w : World) (h : NRow w a n ns) (hsm : SmallD ns n) (hn : 1 ≤ n ∧ n ≤ 600) :
    Calls Tryz.prog 30 #[.agg #[.slice a n cap]] w fun e w' => e = .returned (.bool (orderI ns)) ∧ Below w.heap.size w w' := by
  have hlen := h.len
  obtain ⟨r, hr⟩ : ∃ r, orderI ns = r := ⟨_, rfl⟩
  rw [hr]
  have HR := hide hr
  obtain ⟨Q, hQ⟩ : ∃ Q, Q = w.alloc (.cells #[.slice a n cap] 29) := ⟨_, rfl⟩
  have HQ := hide hQ
  have HBQ : Hid (Below w.heap.size w Q) := by rw [hQ]; exact (Below.refl _ _).alloc (Nat.le_refl _) _
  have hQlt : w.heap.size < Q.heap.size := by rw [hQ]; simp
  have HQS : Hid (Q.heap.size = w.heap.size + 1) := by rw [hQ]; show (w.alloc _).heap.size = _; simp
  have HQC : Hid (Q.cell? ⟨w.heap.size, 0, none⟩ = some (.slice a n cap)) := by rw [hQ]; show (w.alloc _).cell? _ = _; simp
  have H := hide h
  have HSM := hide hsm
  obtain ⟨i0, hi, hz0, hz1, hz2⟩ := info_parts info_int
  clear h hsm hQ hr
  go_enter Tryz.func30, Tryz.ntmps30
  go_wp2_with (first | (have hz9 := HF1; clear hz9; at_make; refine wpList_make_full _ rfl _ _ 45 rfl w1.heap.size 3 i0 (.int .i64 0) 1 Tryz.underlying45 hi hz0 hz1 _ _ _ _ n rfl rfl rfl rfl (by rw [hz2]; omega) (by unfold maxLen; omega) (Nat.le_refl _) ?_; intro w2 hown2 hgrow2; have hb2 : Below w1.heap.size w1 w2 := (Below.refl _ _).grown hgrow2 (Nat.le_refl _) (by simp); have ct2 : w2.cell? ⟨w.heap.size, 0, none⟩ = some (.slice a n cap) := (hb2.cell (p := ⟨w.heap.size, 0, none⟩) hsz1).trans ct1; have HF2 := hide (And.intro hown2 hb2); clear hown2 hgrow2 hb2 ct1) | (at_make; refine wpList_make_full _ rfl _ _ 45 rfl (w.heap.size + 1) 3 i0 (.int .i64 0) 1 Tryz.underlying45 hi hz0 hz1 _ _ _ _ n rfl rfl rfl rfl (by rw [hz2]; omega) (by unfold maxLen; omega) (by simp) ?_; intro w1 hown1 hgrow1; have hb1 : Below (w.heap.size + 1) (w.alloc (.cells #[.slice a n cap] 29)) w1 := (Below.refl _ _).grown hgrow1 (by simp) (by simp); have ct1 : w1.cell? ⟨w.heap.size, 0, none⟩ = some (.slice a n cap) := (hb1.cell (p := ⟨w.heap.size, 0, none⟩) (by show w.heap.size < w.heap.size + 1; omega)).trans (by rw [← unhide HQ]; exact unhide HQC); have hsz1 : w.heap.size < w1.heap.size := (by have := hb1.size; simp at this; omega); have HF1 := hide (And.intro hown1 hb1); clear hown1 hgrow1 hb1))
  obtain ⟨hown1, hb1⟩ := unhide HF1
  obtain ⟨hown2, hb2⟩ := unhide HF2
  have hblk1 : Blk w1 (w.heap.size + 1) (List.replicate n 0) := Blk.of_owns (n := n) (base := w.heap.size + 1) (by simpa [toList_madeCells_one, Value.cells] using hown1)
  have hblk2 : Blk w2 w1.heap.size (List.replicate n 0) := Blk.of_owns (n := n) (base := w1.heap.size) (by simpa [toList_madeCells_one, Value.cells] using hown2)
  have hgf : w.heap.size + 1 < w1.heap.size := hblk1.lt
  have hgs : w1.heap.size < w2.heap.size := hblk2.lt
  have HBK1 : Hid (Blk w2 (w.heap.size + 1) (frN [] n)) := by show Blk _ _ _; unfold frN; exact hblk1.below (Nat.le_refl _) hb2
  have HBK2 : Hid (Blk w2 w1.heap.size (spN [] n)) := by show Blk _ _ _; unfold spN; exact hblk2
  have HW2 : Hid (Below w.heap.size w w2) := (((Below.refl _ _).alloc (Nat.le_refl _) _).trans (hb1.mono (by omega))).trans (hb2.mono (by omega))
  clear hown1 hown2 hb1 hb2 hblk1 hblk2 HF1 HF2 hi hz0 hz1 hz2
  obtain ⟨gs, hgsd⟩ : ∃ x, w1.heap.size = x := ⟨_, rfl⟩
  rw [hgsd] at hgf hgs HBK2 ⊢
  clear hgsd
  obtain ⟨gf, hgfd⟩ : ∃ x, w.heap.size + 1 = x := ⟨_, rfl⟩
  rw [hgfd] at hgf HBK1 ⊢
  have hgw : w.heap.size < gf := by omega
  clear hgfd
  go_loopw [21] (fun v wr => ∃ (i : Nat) (st : List (Nat × Nat)), i ≤ n ∧ v = .int .i64 i ∧ Hid (ordN ns i = some st) ∧ Hid (Blk wr gf (frN st n)) ∧ Hid (Blk wr gs (spN st n)) ∧ Hid (But (fun x => x = gf ∨ x = gs) w2 wr)) (fun v _ => n - (intOf v).toNat)
  case atStart => exact ⟨0, [], Nat.zero_le _, rfl, rfl, HBK1, HBK2, But.refl _ _⟩
  case round =>
    obtain ⟨i, st, hin, rfl, HO, HK1, HK2, HBU⟩ := hrel
    clear HBK1 HBK2
    have hsl := ord_len (unhide HO)
    have hbsz := (unhide HBU).size
    have ct : wr.cell? ⟨w.heap.size, 0, none⟩ = some (.slice a n cap) := (World.cell?_of_block ((unhide HBU).block w.heap.size (by omega) (by omega))).trans ct2
    have HBW : Hid (Below w.heap.size w wr) := (unhide HW2).trans ((unhide HBU).below (by omega) (fun k hk => by omega))
    by_cases hlt : i < n
    case neg =>
      have hin' : i = n := by omega
      subst hin'
      have hgi : ¬ (i : Int) < (i : Int) := by omega
      obtain ⟨y, hy⟩ : ∃ y, i = y + 1 := ⟨i - 1, by omega⟩
      have hc1 := (unhide HK1).cell (i := y) (by rw [frN_len (by omega)]; omega)
      have hc2 := (unhide HK2).cell (i := y) (by rw [spN_len (by omega)]; omega)
      rw [frN_get (by omega)] at hc1
      have hsg : (spN st i).getD y 0 = (((st.getD y (0, 0)).2 : Nat) : Int) := by
        unfold spN
        simp [List.getD_eq_getElem?_getD, List.getElem?_append_left, show y < st.length by omega]
      rw [hsg] at hc2
      have HE : Hid (decide ((st.getD y (0, 0)).1 = 0 ∧ (st.getD y (0, 0)).2 ≤ 40) = r) := by
        show _ = r
        rw [← unhide HR]
        unfold orderI
        rw [hlen, unhide HO, show i - 1 = y by omega]
      obtain ⟨x1, hx1⟩ : ∃ x, (st.getD y (0, 0)).1 = x := ⟨_, rfl⟩
      obtain ⟨x2, hx2⟩ : ∃ x, (st.getD y (0, 0)).2 = x := ⟨_, rfl⟩
      rw [hx1] at hc1 HE
      rw [hx2] at hc2 HE
      have hyi : (i : Int) - 1 = (y : Int) := by omega
      clear hsg HO HK1 HK2 hx1 hx2 HR hsl hy
      by_cases e1 : x1 = 0
      · subst e1
        have hm1 : (((0 : Nat) : Int) - 1) = -1 := by omega
        rw [hm1] at hc1
        have HE2 : Hid (decide (x2 ≤ 40) = r) := by show _ = r; rw [← unhide HE]; simp
        clear HE hm1
        go_wp2_with fail
        go_ret
        exact ⟨ret_bool (by rw [← unhide HE2]; exact decide_eq_decide.2 (by omega)), unhide HBW⟩
      · obtain ⟨x1i, hx1i⟩ : ∃ x : Int, (x1 : Int) - 1 = x := ⟨_, rfl⟩
        rw [hx1i] at hc1
        have hne := ne_false (show x1i ≠ -1 by omega)
        have HE2 : Hid (false = r) := by show _ = r; rw [← unhide HE, decide_eq_false (fun h => e1 h.1)]
        clear HE hx1i e1
        go_wp2_with fail
        go_ret
        exact ⟨ret_bool (unhide HE2), unhide HBW⟩
    have hNR := (unhide H).below (Nat.le_refl _) (unhide HBW)
    obtain ⟨b, off, rfl, hbl, s1, n1, c1, s2, n2, c2, e0, e1, e2, e3, e4, e5, r1, r2⟩ := hNR.get hlt
    have hbw : b < w.heap.size := by
      obtain ⟨b', off', e', hb', _⟩ := (unhide H).get hlt
      cases e'
      exact hb'
    have hsn := unhide HSM i hlt
    have hl2 := r2.len
    have HR2 := hide r2
    have HTN : Hid (ordN ns (i + 1) = none → false = r) := fun hh => by rw [← unhide HR, order_none hh (by omega)]
    have HOS := hide (ord_step (unhide HO))
    have hhi := ord_hi i (unhide HO)
    have hle := ord_le i (unhide HO)
    obtain ⟨kids, hkids⟩ : ∃ x, (node ns i).kids = x := ⟨_, rfl⟩
    rw [hkids] at HOS HR2 hl2
    have hn2 : n2 ≤ 1048576 := by have := hsn.2.2; rw [hkids] at this; omega
    obtain ⟨xk, hxk⟩ : ∃ x, (node ns i).k = x := ⟨_, rfl⟩
    obtain ⟨xn, hxn⟩ : ∃ x, (node ns i).n = x := ⟨_, rfl⟩
    obtain ⟨xm, hxm⟩ : ∃ x, (node ns i).m = x := ⟨_, rfl⟩
    obtain ⟨xs, hxs⟩ : ∃ x, (node ns i).s = x := ⟨_, rfl⟩
    rw [hxk] at e0
    rw [hxn] at e1
    rw [hxm] at e2
    rw [hxs] at e3
    have HR2W : Hid (Row w s2 n2 kids) := by
      obtain ⟨b', off', e', hb', s1', n1', c1', s2', n2', c2', g0, g1, g2, g3, g4, g5, q1, q2⟩ := (unhide H).get hlt
      cases e'
      have e5w := (unhide HBW).cell (p := ⟨b, off + i * 6 + 5, none⟩) hbw
      rw [g5] at e5w
      rw [e5w] at e5
      cases e5
      rw [← hkids]
      exact q2
    clear hxk hxn hxm hxs hkids r1 r2 hNR hsn
    have hlti : (i : Int) < (n : Int) := by omega
    go_wp2_with fail
    obtain ⟨wo, hwo⟩ : ∃ x, x = wr := ⟨_, rfl⟩
    subst hwo
    obtain ⟨W1, hW1⟩ : ∃ x, x = wo.alloc (.cells #[.int .i64 xk, .int .i64 xn, .int .i64 xm, .string xs, .slice s1 n1 c1, .slice s2 n2 c2] 47) := ⟨_, rfl⟩
    have HBOX : Hid (NBox W1 wo.heap.size (.int .i64 xk) (.int .i64 xn) (.int .i64 xm) (.string xs) (.slice s1 n1 c1) (.slice s2 n2 c2)) := by rw [hW1]; exact NBox.new wo _ _ _ _ _ _
    have HB1 : Hid (Below wo.heap.size wo W1) := by rw [hW1]; exact (Below.refl _ _).alloc (Nat.le_refl _) _
    have hsW : wo.heap.size < W1.heap.size := by rw [hW1]; simp
    rw [← hW1]
    clear hW1
    have HC1 : Hid (∀ b o, b < wo.heap.size → W1.cell? ⟨b, o, none⟩ = wo.cell? ⟨b, o, none⟩) := fun b o hb => (unhide HB1).cell (p := ⟨b, o, none⟩) hb
    have hgsl := (unhide HK2).lt
    have hgfl := (unhide HK1).lt
    have HK1a := hide ((unhide HK1).below (Nat.le_refl _) (unhide HB1))
    have HK2a : Hid (Blk W1 gs ((spN st n).set i ((0 : Nat) : Int))) := by
      have := (unhide HK2).below (Nat.le_refl _) (unhide HB1)
      rw [← spN_zero (st := st) (n := n) (by omega), hsl] at this
      exact this
    obtain ⟨tgt, htgt⟩ : ∃ t, goK st kids n2 i 0 = t := ⟨_, rfl⟩
    rw [hl2, htgt] at HOS
    have HG := hide htgt
    clear htgt e0 e1 e2 e3 e4 e5 HK1 HK2
    go_loopw [7, 8] (fun v7 v8 wz => ∃ (kk aa hh : Nat) (fi j : Int), kk ≤ n2 ∧ v7 = .int .i64 fi ∧ v8 = .int .i64 j ∧ Hid (fi = (aa : Int) - 1) ∧ Hid (j = (kk : Int) - 1) ∧ aa ≤ i ∧ hh ≤ i ∧ Hid (goK st kids kk aa hh = tgt) ∧ Hid (Blk wz gs ((spN st n).set i ((hh : Nat) : Int))) ∧ Hid (But (fun x => x = gs) W1 wz)) (fun _ v8 _ => (intOf v8 + 1).toNat)
    case atStart => exact ⟨n2, i, 0, _, _, Nat.le_refl _, rfl, rfl, rfl, rfl, Nat.le_refl _, Nat.zero_le _, HG, HK2a, But.refl _ _⟩
    case round =>
      obtain ⟨kk, aa, hh, fi, j, hkk, rfl, rfl, HFI, HJ, haa, hhh, HK, HBL, HBV⟩ := hrel
      clear HG HK2a
      have hbsz2 := (unhide HBV).size
      have HBOX2 := hide ((unhide HBOX).but (unhide HBV) (by omega))
      have HC2 : Hid (∀ b o, b < wo.heap.size → b ≠ gs → wr.cell? ⟨b, o, none⟩ = wo.cell? ⟨b, o, none⟩) := fun b o hb hne => (World.cell?_of_block ((unhide HBV).block b (by omega) hne)).trans (unhide HC1 b o hb)
      have ctz : wr.cell? ⟨w.heap.size, 0, none⟩ = some (.slice (some ⟨b, off, none⟩) n cap) := (unhide HC2 _ _ (by omega) (by omega)).trans ct
      have HBW3 : Hid (Below w.heap.size w wr) := (unhide HBW).trans (((unhide HB1).mono (unhide HBW).size).trans ((unhide HBV).below (by omega) (fun k hk => by omega)))
      have HKF : Hid (Blk wr gf (frN st n)) := ((unhide HBV).block gf (by omega) (by omega)).trans (unhide HK1a)
      by_cases hk0 : kk = 0
      · subst hk0
        have hjm : j = -1 := by have := unhide HJ; omega
        subst hjm
        have htg : tgt = some (aa, hh) := by rw [← unhide HK, goK]
        have HOS2 : Hid (ordN ns (i + 1) = some (st ++ [(aa, hh)])) := by show _ = _; rw [unhide HOS, htg]; rfl
        have hck := (unhide HKF).cell (i := i) (by rw [frN_len (by omega)]; omega)
        have hfk := (unhide HKF).free i
        obtain ⟨uu, huu⟩ : ∃ x, (frN st n).getD i 0 = x := ⟨_, rfl⟩
        rw [huu] at hck
        have HF2 : Hid (Blk (wr.setCell ⟨gf, i, none⟩ (.int .i64 fi)) gf (frN (st ++ [(aa, hh)]) n)) := by
          have := (unhide HKF).set i fi
          rw [unhide HFI] at this ⊢
          rw [← frN_set (st := st) (n := n) (by omega) (aa, hh), hsl]
          exact this
        have HS2 : Hid (Blk (wr.setCell ⟨gf, i, none⟩ (.int .i64 fi)) gs (spN (st ++ [(aa, hh)]) n)) := by
          have := (unhide HBL).other (p := ⟨gf, i, none⟩) (by simp; omega) (.int .i64 fi)
          rw [← spN_set (st := st) (n := n) (by omega) (aa, hh), hsl]
          exact this
        have HBU2 : Hid (But (fun x => x = gf ∨ x = gs) w2 (wr.setCell ⟨gf, i, none⟩ (.int .i64 fi))) := (((unhide HBU).trans ((But.of_below (S := fun x => x = gf ∨ x = gs) (unhide HB1)).trans (unhide HBV))).mono (fun k hk => by rcases hk with h | h | h; exact h; exact h; exact .inr h)).setCell (.inl rfl) _
        clear HK HBL HFI HJ htg HC1 HC2 HBOX HBOX2 HKF huu HOS HTN HBU HB1 HBV HK1a
        go_wp2_with fail
        go_roundw
        case rel => exact ⟨i + 1, st ++ [(aa, hh)], by omega, by go_num, HOS2, HF2, HS2, HBU2⟩
        case measure => simp [intOf]; omega
      obtain ⟨q, rfl⟩ : ∃ q, kk = q + 1 := ⟨kk - 1, by omega⟩
      have hjq : j = (q : Int) := by have := unhide HJ; omega
      subst hjq
      obtain ⟨-, -, -, -, -, c5⟩ := (unhide HBOX2).all
      by_cases hf0 : fi < 0
      · have HE : Hid (false = r) := unhide HTN (by rw [unhide HOS, ← unhide HK, goK_bad (by have := unhide HFI; omega)]; rfl)
        have hq0 : (0 : Int) ≤ (q : Int) := by omega
        clear HK HBL HFI HJ HC1 HC2 HBOX HBOX2 HKF
        go_wp2_with fail
        go_ret
        exact ⟨ret_bool (unhide HE), unhide HBW3⟩
      obtain ⟨b2, o2, rfl, hb2l, hcq⟩ := (unhide HR2).get (k := q) (by omega)
      have hb2g : b2 ≠ gs := fun e => by
        obtain ⟨b', off', e', hb', _⟩ := (unhide HR2W).get (k := q) (by omega)
        cases e'
        omega
      rw [← unhide HC2 _ _ hb2l hb2g] at hcq
      have hq0 : (0 : Int) ≤ (q : Int) := by omega
      have hqn : (q : Int) < (n2 : Int) := by omega
      obtain ⟨z, hz⟩ : ∃ z, kids.getD q 0 = z := ⟨_, rfl⟩
      rw [hz] at hcq
      by_cases hzn : z = fi
      case neg =>
        have hd : (z != fi) = true := by simpa using hzn
        have HE : Hid (false = r) := unhide HTN (by rw [unhide HOS, ← unhide HK, goK_bad (by have := unhide HFI; omega)]; rfl)
        clear HK HBL HFI HJ hz hzn HC1 HC2 HBOX HBOX2 HKF
        go_wp2_with fail
        go_ret
        exact ⟨ret_bool (unhide HE), unhide HBW3⟩
      obtain ⟨y, hy⟩ : ∃ y, aa = y + 1 := ⟨aa - 1, by have := unhide HFI; omega⟩
      have hfy : fi = (y : Int) := by have := unhide HFI; omega
      have hzy : z = (y : Int) := by omega
      subst hfy
      rw [hzy] at hcq hz
      have hd : ((y : Int) != (y : Int)) = false := by simp
      have HK2 : Hid (goK st kids q (st.getD y (0, 0)).1 (max hh ((st.getD y (0, 0)).2 + 1)) = tgt) := by
        have := unhide HK
        rw [hy, goK_ok hz] at this
        exact this
      have hyi : y < i := by omega
      have hyn : (y : Int) < (n : Int) := by omega
      have t1 := (unhide HKF).cell (i := y) (by rw [frN_len (by omega)]; omega)
      rw [frN_get (by omega)] at t1
      have hslen : ((spN st n).set i ((hh : Nat) : Int)).length = n := by rw [List.length_set]; exact spN_len (by omega)
      have t2 := (unhide HBL).cell (i := y) (by omega)
      have t3 := (unhide HBL).cell (i := i) (by omega)
      rw [← hsl, spN_get (by omega)] at t2
      have t3' : wr.cell? ⟨gs, i, none⟩ = some (.int .i64 ((hh : Nat) : Int)) := by
        rw [t3]
        have := spN_at (st := st) (n := n) (by omega) ((hh : Nat) : Int)
        rw [hsl] at this
        rw [this]
      have hfk := (unhide HBL).free i
      have hty := hhi y hyi
      have hbg := hle y hyi
      obtain ⟨ty, hty'⟩ : ∃ x, (st.getD y (0, 0)).2 = x := ⟨_, rfl⟩
      obtain ⟨bg, hbg'⟩ : ∃ x, (st.getD y (0, 0)).1 = x := ⟨_, rfl⟩
      rw [hty'] at t2 hty HK2
      rw [hbg'] at t1 hbg HK2
      have HBL2 : Hid (∀ x : Nat, Blk (wr.setCell ⟨gs, i, none⟩ (.int .i64 ((x : Nat) : Int))) gs ((spN st n).set i ((x : Nat) : Int))) := fun x => by
        have := (unhide HBL).set i ((x : Nat) : Int)
        rwa [List.set_set] at this
      have HBV2 : Hid (∀ x : Nat, But (fun x => x = gs) W1 (wr.setCell ⟨gs, i, none⟩ (.int .i64 ((x : Nat) : Int)))) := fun x => (unhide HBV).setCell rfl _
      have hgg : ¬ gf = gs := by omega
      obtain ⟨bgi, hbgi⟩ : ∃ x : Int, (bg : Int) - 1 = x := ⟨_, rfl⟩
      rw [hbgi] at t1
      have HBG := hide hbgi
      have hlti2 : (i : Int) < (n : Int) := by omega
      clear HK HBL HBV HFI HJ hz hzn hzy hy hty' hbg' HBW3 HC2 HBOX2 HC1 t3 hslen hbgi HKF
      by_cases hcm : hh < ty + 1
      · have hcmi : (hh : Int) < (ty : Int) + 1 := by omega
        have hmx : max hh (ty + 1) = ty + 1 := by omega
        have hmi : max (hh : Int) ((ty : Int) + 1) = (ty : Int) + 1 := by omega
        rw [hmx] at HK2
        go_wp2_with fail
        first | (go_region_with (fail)) | fail
        all_goals go_wp2_with fail
        all_goals (go_roundw; (case rel => exact ⟨q, bg, ty + 1, bgi, _, by omega, rfl, rfl, (unhide HBG).symm, rfl, by omega, by omega, HK2, by show Blk _ _ _; first | (simpa using (unhide HBL2 (ty + 1)).drew) | (rw [hmi]; simpa using (unhide HBL2 (ty + 1)).drew), by show But _ _ _; first | (simpa using (unhide HBV2 (ty + 1)).drewT) | (rw [hmi]; simpa using (unhide HBV2 (ty + 1)).drewT)⟩); (case measure => simp [intOf]))
      · have hcmi : ¬ (hh : Int) < (ty : Int) + 1 := by omega
        have hmx : max hh (ty + 1) = hh := by omega
        have hmi : max (hh : Int) ((ty : Int) + 1) = (hh : Int) := by omega
        rw [hmx] at HK2
        go_wp2_with fail
        first | (go_region_with (fail)) | fail
        all_goals go_wp2_with fail
        all_goals (go_roundw; (case rel => exact ⟨q, bg, hh, bgi, _, by omega, rfl, rfl, (unhide HBG).symm, rfl, by omega, by omega, HK2, by show Blk _ _ _; first | (simpa using (unhide HBL2 hh).drew) | (rw [hmi]; simpa using (unhide HBL2 hh).drew), by show But _ _ _; first | (simpa using (unhide HBV2 hh).drewT) | (rw [hmi]; simpa using (unhide HBV2 hh).drewT)⟩); (case measure => simp [intOf]))

end Go.Proofs.YtinndpnilmmmjaaGreatDoor
