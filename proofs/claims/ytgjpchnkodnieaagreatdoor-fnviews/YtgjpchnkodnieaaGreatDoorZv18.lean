import Derived.Test.YtgjpchnkodnieaaGreatDoorZv13
import Derived.Test.YtgjpchnkodnieaaGreatDoorZv15
import Derived.Test.YtgjpchnkodnieaaGreatDoorZv00
import Derived.Test.YtgjpchnkodnieaaGreatDoorChecked
import Derived.Laws.EntriesVeiled
import Derived.Deep.WholeRow
import Derived.Test.YtgjpchnkodnieaaGreatDoorZv17
import Derived.Test.YtgjpchnkodnieaaGreatDoorZv04
import Derived.Test.YtgjpchnkodnieaaGreatDoorZv05
import Derived.Test.YtgjpchnkodnieaaGreatDoorZv06
import Derived.Test.YtgjpchnkodnieaaGreatDoorZv14
import Derived.Test.YtgjpchnkodnieaaGreatDoorZv01
import Derived.Deep.AppendLies
namespace Go.Proofs.YtgjpchnkodnieaaGreatDoor
open Go.RowKit
def places (off : Int) (sh st : List Int) (cells : Int) : List Int := if viewOk off sh st cells = true then placesOf off sh st else []
theorem viewOk_formed {off cells : Int} {sh st : List Int} (h : viewOk off sh st cells = true) : formed off sh st = true := by
  cases e : formed off sh st with
  | true => rfl
  | false => rw [viewOk_no1 e] at h; cases h
set_option maxHeartbeats 2000000 in
theorem Places_any (off : Int) (a1 a2 : Option Addr) (n1 n2 c1 c2 : Nat) (sh st : List Int) (cells : Int) (w : World) (h1 : Row w a1 n1 sh) (h2 : Row w a2 n2 st) :
    Calls Tryz.prog 29 #[.agg #[.int .i64 off, .slice a1 n1 c1, .slice a2 n2 c2], .int .i64 cells] w fun e w' => ∃ b m d, e = .returned (.slice b m d) ∧ Row w' b m (places off sh st cells) ∧ Below w.heap.size w w' := by
  have hl1 := hide h1.len
  have hl2 := hide h2.len
  have H1 := hide h1
  have H2 := hide h2
  clear h1 h2
  have hW : ∀ o, Below w.heap.size w (w.alloc o) := fun o => (Below.refl _ _).alloc (Nat.le_refl _) _
  obtain ⟨r, hr⟩ : ∃ r, viewOk off sh st cells = r := ⟨_, rfl⟩
  have HR := hide hr
  clear hr
  have HCV := hide (ViewOk_eq off a1 a2 n1 n2 c1 c2 sh st cells (w.alloc (.cells #[.int .i64 off, .slice a1 n1 c1, .slice a2 n2 c2] 46)) ((unhide H1).alloc _) ((unhide H2).alloc _) r HR)
  cases r with
  | false =>
    have HE : Hid (places off sh st cells = []) := by show _ = _; unfold places; rw [if_neg (by rw [unhide HR]; simp)]
    go_enter Tryz.func29, Tryz.ntmps29
    go_wp2_with (go_at_call 25; refine (unhide HCV).mono ?_; rintro e w1 ⟨rfl, hb1⟩; have HB1 := hide hb1; clear hb1)
    go_ret
    refine ⟨_, _, _, rfl, ?_, ((hW _).trans ((unhide HB1).mono (by simp))).alloc (by have := (unhide HB1).size; simp at this; omega) _⟩
    rw [unhide HE]
    exact row_nil _ _
  | true =>
    have HFM := hide (viewOk_formed (unhide HR))
    obtain ⟨hsb, hl, _, _⟩ := formed_parts (unhide HFM)
    rw [unhide hl1, unhide hl2] at hl
    subst hl
    have hcb := shapeB_count hsb
    obtain ⟨N, hN⟩ : ∃ N : Nat, countOf sh = (N : Int) := ⟨(countOf sh).toNat, by omega⟩
    have HN := hide hN
    have HE : Hid (places off sh st cells = placesOf off sh st) := by show _ = _; unfold places; rw [if_pos (unhide HR)]
    clear hsb hcb hN
    go_enter Tryz.func29, Tryz.ntmps29
    go_wp2_with (first | (go_at_call 25; refine (unhide HCV).mono ?_; rintro e w1 ⟨rfl, hb1⟩; have HB1 := hide hb1; obtain ⟨x0, x1, x2, x3, x4, x5, x6⟩ := ((VBox.new w off (.slice a1 n2 c1) (.slice a2 n2 c2)).below (Nat.le_refl _) hb1).all; clear hb1) | (go_at_call 81; refine (l7Places_any off a1 a2 n2 c1 c2 sh st _ (by exact ((unhide H1).alloc _).below (Nat.le_refl _) (unhide HB1)) (by exact ((unhide H2).alloc _).below (Nat.le_refl _) (unhide HB1)) (unhide HFM) N (unhide HN)).mono ?_; rintro e w2 ⟨g, k, rfl, ho2, hb2⟩; have HO := hide ho2; have HB2 := hide hb2; clear ho2 hb2))
    go_ret
    refine ⟨_, _, _, rfl, by rw [unhide HE]; exact (unhide HO).row, ((hW _).trans ((unhide HB1).mono (by simp))).trans ((unhide HB2).mono (by have := (unhide HB1).size; simp at this; omega))⟩
end Go.Proofs.YtgjpchnkodnieaaGreatDoor
namespace Go.Proofs.YtgjpchnkodnieaaGreatDoor
open Go.RowKit
def ImplVOk : Prop := ∀ (c : Int) (a1 a2 : Option Addr) (n1 n2 c1 c2 : Nat) (sh dt : List Int) (cells : Int) (w : World) (_ : Row w a1 n1 sh) (_ : Row w a2 n2 dt),
    Calls Tryz.prog 26 #[.agg #[.int .i64 c, .slice a1 n1 c1, .slice a2 n2 c2], .int .i64 cells] w fun e w' => e = .returned (.bool (viewOk c sh dt cells)) ∧ Below w.heap.size w w'
end Go.Proofs.YtgjpchnkodnieaaGreatDoor
namespace Go.Proofs.YtgjpchnkodnieaaGreatDoor
open Go.RowKit Go.Shelf
def OpIs (ga gb : Addr) (f : Int → Int → Int × Int) (v : Value) (w : World) : Prop :=
  ∃ g lb, v = .func (.func g) #[] lb ∧ (∀ args w, (callFunc g args).run Tryz.prog w = .ok (.enter g args) w) ∧ ∀ (W : World) (a b : Int), Below w.heap.size w W → (-1000000000000000 ≤ a ∧ a ≤ 1000000000000000) → (-1000000000000000 ≤ b ∧ b ≤ 1000000000000000) → Calls Tryz.prog g (#[.int .i64 a, .int .i64 b] ++ lb) W (GivesEl ga gb (f a b) W)
theorem OpIs.below {ga gb : Addr} {f : Int → Int → Int × Int} {v : Value} {w w' : World} (h : OpIs ga gb f v w) (hb : Below w.heap.size w w') : OpIs ga gb f v w' := by
  obtain ⟨g, lb, hv, eg, hc⟩ := h
  exact ⟨g, lb, hv, eg, fun W a b hW ha hbb => hc W a b (hb.trans (hW.mono hb.size)) ha hbb⟩
theorem OpIs.alloc {ga gb : Addr} {f : Int → Int → Int × Int} {v : Value} {w : World} (h : OpIs ga gb f v w) (o : Obj) : OpIs ga gb f v (w.alloc o) := h.below ((Below.refl _ _).alloc (Nat.le_refl _) _)
end Go.Proofs.YtgjpchnkodnieaaGreatDoor
namespace Go.Proofs.YtgjpchnkodnieaaGreatDoor
theorem inside_ofV {sh ix : List Int} : ∀ n, (∀ k, k < n → 0 ≤ ix.getD k 0 ∧ ix.getD k 0 < sh.getD k 0) → insideN sh ix n = true := by
  intro n
  induction n with
  | zero => intro _; rfl
  | succ n ih =>
    intro h
    have := h n (by omega)
    simp only [insideN, Bool.and_eq_true, decide_eq_true_eq]
    exact ⟨ih (fun k hk => h k (by omega)), this⟩
theorem counted_same (sh : List Int) : countedSh sh.length sh = sh := by
  unfold countedSh
  split
  · rename_i h; subst h; rfl
  · rfl
theorem counted_zero {r : Nat} (h5 : r ≤ 5) : countedCode false 1 r r = 0 := by
  rw [counted_go (c := false) (n1 := 1) rfl]
  by_cases h : r = 0
  · subst h; rfl
  · rw [if_neg h, if_neg (by simp)]
theorem off_far (off : Int) (fr st dg : List Int) : ∀ n, (∀ i, i < n → i < dg.length) → offN off fr st n + farN dg st n = off + farN (addIx dg fr) st n := by
  intro n
  induction n with
  | zero => intro _; simp [offN, farN]
  | succ n ih =>
    intro h
    have e := ih (fun i hi => h i (by omega))
    simp only [offN, farN]
    rw [addIx_get _ _ _ (h n (by omega)), Int.add_mul]
    omega
structure CutIn (sh fr ns : List Int) : Prop where
  lf : fr.length = sh.length
  ln : ns.length = sh.length
  bd : ∀ i, i < sh.length → 0 ≤ fr.getD i 0 ∧ 0 ≤ ns.getD i 0 ∧ fr.getD i 0 + ns.getD i 0 ≤ sh.getD i 0
theorem cut_yes {sh fr ns : List Int} (h : CutIn sh fr ns) : cutB sh fr ns sh.length = true := by
  have : ∀ m, m ≤ sh.length → cutB sh fr ns m = true := by
    intro m
    induction m with
    | zero => intro _; rfl
    | succ m ih =>
      intro hm
      have hb := h.bd m (by omega)
      simp only [cutB, ih (by omega), Bool.true_and, cutOne, decide_eq_true_eq]
      omega
  exact this _ (Nat.le_refl _)
theorem cut_dropZ {sh fr ns : List Int} (h : CutIn sh fr ns) (k : Nat) (hk : k < sh.length) : (dropZ sh fr).getD k 0 = sh.getD k 0 - fr.getD k 0 := by
  have hb := h.bd k hk
  rw [dropZ_get _ _ _ (by rw [h.lf]; exact hk)]
  unfold absI
  rw [if_neg (by omega : ¬ fr.getD k 0 < 0), if_neg (by omega)]
theorem cut_dropSt {sh fr ns : List Int} (h : CutIn sh fr ns) : dropSt fr = fr := by
  apply List.ext_getElem
  · rw [dropSt_len]
  · intro i h1 h2
    have hi : i < sh.length := by rw [← h.lf]; exact h2
    have hb := h.bd i hi
    have e := dropSt_get fr i h2
    rw [getD_eq _ _ h1, getD_eq _ _ h2] at e
    rw [getD_eq _ _ h2] at hb
    rw [e]
    split <;> omega
theorem cut_takeZ {sh fr ns : List Int} (h : CutIn sh fr ns) : takeZ ns = ns := by
  apply List.ext_getElem
  · rw [takeZ_len]
  · intro i h1 h2
    have hi : i < sh.length := by rw [← h.ln]; exact h2
    have hb := h.bd i hi
    have e := takeZ_get ns i h2
    rw [getD_eq _ _ h1, getD_eq _ _ h2] at e
    rw [getD_eq _ _ h2] at hb
    rw [e]
    unfold absI
    rw [if_neg (by omega)]
theorem cut_takeSt {sh fr ns zs : List Int} (h : CutIn sh fr ns) (k : Nat) (hk : k < sh.length) : (takeSt zs ns).getD k 0 = 0 := by
  have hb := h.bd k hk
  rw [takeSt_get _ _ _ (by rw [h.ln]; exact hk), if_neg (by omega)]
theorem cut_places {off cells : Int} {sh st fr ns : List Int} (h : viewOk off sh st cells = true) (hc : CutIn sh fr ns) (hv1 : arrOk false [(sh.length : Int)] fr = true) (hv2 : arrOk false [(sh.length : Int)] ns = true) (hff : formed (offN off fr st sh.length) ns st = true) :
    ∃ Z Y, drop false false [(sh.length : Int)] fr sh (placesOf off sh st) = ⟨false, Z, Y, 0⟩ ∧ take false false [(sh.length : Int)] ns Z Y = ⟨false, ns, placesOf (offN off fr st sh.length) ns st, 0⟩ ∧ viewOk (offN off fr st sh.length) ns st cells = true := by
  obtain ⟨hf, hcl, hp⟩ := viewOk_parts h
  obtain ⟨hs, hst, _, _⟩ := formed_parts hf
  obtain ⟨hsn, _, _, _⟩ := formed_parts hff
  have hok := view_arr h
  obtain ⟨hin, h5⟩ := shapeB_in hs
  obtain ⟨Z, hZ⟩ : ∃ Z, dropZ sh fr = Z := ⟨_, rfl⟩
  have hZl : Z.length = sh.length := by rw [← hZ, dropZ_len]; exact hc.lf
  have hZg : ∀ k, k < sh.length → Z.getD k 0 = sh.getD k 0 - fr.getD k 0 := fun k hk => by rw [← hZ]; exact cut_dropZ hc k hk
  have hZin : ShapeIn Z := shape_less hin hZl (fun k hk => by have := hc.bd k hk; rw [hZg k hk]; omega)
  obtain ⟨mz, hmz⟩ := hZin.2
  have hZs : shapeB Z = true := shape_good hZl h5 mz hZin.1 hmz
  have hZb := shapeB_count hZs
  obtain ⟨NZ, hNZ⟩ : ∃ N : Nat, countOf Z = (N : Int) := ⟨(countOf Z).toNat, by omega⟩
  have hcc : countedCode false [(sh.length : Int)].length fr.length sh.length = 0 := by rw [hc.lf]; exact counted_zero h5
  have hsame : countedSh fr.length sh = sh := by rw [hc.lf]; exact counted_same sh
  have hdrop := window_go (lim := false) (Z := dropZ) (S := fun _ => dropSt) hv1 hok hcc (fun e => by cases e) NZ (by rw [hsame, hZ]; exact hNZ)
  rw [hsame, hZ, cut_dropSt hc] at hdrop
  have hoz : ∀ k, k < NZ → (windowAt false sh (placesOf off sh st) fr Z k).1 = off + farN (addIx (digits Z k) fr) st sh.length := by
    intro k hk
    have hfZ := full_count hZs (by omega)
    have hdz := digits_in hfZ (k : Int)
    have hdl := digits_len Z (k : Int)
    have hin2 : ∀ i, i < sh.length → 0 ≤ (addIx (digits Z k) fr).getD i 0 ∧ (addIx (digits Z k) fr).getD i 0 < sh.getD i 0 := by
      intro i hi
      have h1 := hdz i (by omega)
      have h2 := hc.bd i hi
      rw [hZg i hi] at h1
      rw [addIx_get _ _ _ (by omega)]
      omega
    have hfs : Full sh := fun i hi => by have := hin2 i hi; omega
    unfold windowAt
    rw [if_pos (inside_ofV _ hin2)]
    exact places_at hs hfs hin2
  have hYok : arrOk false Z (vals (windowAt false sh (placesOf off sh st) fr Z) NZ) = true := by
    unfold arrOk
    simp only [Bool.and_eq_true, decide_eq_true_eq, List.all_eq_true]
    refine ⟨by omega, by rw [vals_len]; exact hNZ, fun x hx => ?_⟩
    obtain ⟨k, hk, rfl⟩ := List.mem_map.1 hx
    have hk' := List.mem_range.1 hk
    have hfZ := full_count hZs (by omega)
    have hdz := digits_in hfZ (k : Int)
    have hdl := digits_len Z (k : Int)
    have hin2 : ∀ i, i < sh.length → 0 ≤ (addIx (digits Z k) fr).getD i 0 ∧ (addIx (digits Z k) fr).getD i 0 < sh.getD i 0 := by
      intro i hi
      have h1 := hdz i (by omega)
      have h2 := hc.bd i hi
      rw [hZg i hi] at h1
      rw [addIx_get _ _ _ (by omega)]
      omega
    have hbd := place_bd (sh := sh) hin2
    have hpc := prodAll_count sh hs
    unfold windowAt
    rw [if_pos (inside_ofV _ hin2)]
    refine data_okV hok ?_
    rw [places_len]
    omega
  have hcc2 : countedCode false [(sh.length : Int)].length ns.length Z.length = 0 := by rw [hc.ln, hZl]; exact counted_zero h5
  have hsame2 : countedSh ns.length Z = Z := by rw [hc.ln, ← hZl]; exact counted_same Z
  have hnb := shapeB_count hsn
  obtain ⟨NN, hNN⟩ : ∃ N : Nat, countOf ns = (N : Int) := ⟨(countOf ns).toNat, by omega⟩
  have htake := window_go (lim := true) (Z := fun _ => takeZ) (S := takeSt) hv2 hYok hcc2 (fun _ => by rw [cut_takeZ hc]; exact hsn) NN (by rw [cut_takeZ hc]; exact hNN)
  rw [hsame2, cut_takeZ hc] at htake
  have hval : ∀ k, k < NN → (windowAt false Z (vals (windowAt false sh (placesOf off sh st) fr Z) NZ) (takeSt Z ns) ns k).1 = placeOf (offN off fr st sh.length) ns st k ∧ placeOf (offN off fr st sh.length) ns st k ∈ placesOf off sh st := by
    intro k hk
    have hfn := full_count hsn (by omega)
    have hdn := digits_in hfn (k : Int)
    have hdl := digits_len ns (k : Int)
    have hln := hc.ln
    have ez : ∀ i, i < sh.length → (addIx (digits ns k) (takeSt Z ns)).getD i 0 = (digits ns k).getD i 0 := fun i hi => by rw [addIx_get _ _ _ (by omega), cut_takeSt hc i hi]; omega
    have hinZ : ∀ i, i < Z.length → 0 ≤ (addIx (digits ns k) (takeSt Z ns)).getD i 0 ∧ (addIx (digits ns k) (takeSt Z ns)).getD i 0 < Z.getD i 0 := by
      intro i hi
      have h1 := hdn i (by omega)
      have h2 := hc.bd i (by omega)
      rw [ez i (by omega), hZg i (by omega)]
      omega
    have hfZ : Full Z := fun i hi => by have := hinZ i hi; omega
    have hbZ := place_bd (sh := Z) hinZ
    have hpZ := prodAll_count Z hZs
    have hin2 : ∀ i, i < sh.length → 0 ≤ (addIx (digits ns k) fr).getD i 0 ∧ (addIx (digits ns k) fr).getD i 0 < sh.getD i 0 := by
      intro i hi
      have h1 := hdn i (by omega)
      have h2 := hc.bd i hi
      rw [addIx_get _ _ _ (by omega)]
      omega
    have hfs : Full sh := fun i hi => by have := hin2 i hi; omega
    have hat := places_at (off := off) (st := st) hs hfs hin2
    have ho := off_far off fr st (digits ns k) sh.length (fun i hi => by omega)
    have hpl : placeOf (offN off fr st sh.length) ns st k = off + farN (addIx (digits ns k) fr) st sh.length := by unfold placeOf; rw [hln]; exact ho
    refine ⟨?_, ?_⟩
    · unfold windowAt
      rw [if_pos (inside_ofV _ hinZ)]
      show (vals (windowAt false sh (placesOf off sh st) fr Z) NZ).getD (place Z (addIx (digits ns k) (takeSt Z ns))).toNat 0 = _
      have hlt : (place Z (addIx (digits ns k) (takeSt Z ns))).toNat < NZ := by omega
      rw [show (vals (windowAt false sh (placesOf off sh st) fr Z) NZ).getD (place Z (addIx (digits ns k) (takeSt Z ns))).toNat 0 = (windowAt false sh (placesOf off sh st) fr Z (place Z (addIx (digits ns k) (takeSt Z ns))).toNat).1 by simp [vals, hlt]]
      rw [hoz _ hlt, hpl, Int.toNat_of_nonneg hbZ.1]
      congr 1
      refine far_congr _ (fun i hi => ?_)
      have hdp := digits_place hfZ hinZ i (by omega)
      have hlz := digits_len Z (place Z (addIx (digits ns k) (takeSt Z ns)))
      rw [addIx_get _ _ _ (by omega), hdp, ez i hi, addIx_get _ _ _ (by omega)]
    · rw [hpl, ← hat]
      have hb2 := place_bd (sh := sh) hin2
      have hpc := prodAll_count sh hs
      rw [getD_eq _ _ (by rw [places_len]; omega)]
      exact List.getElem_mem _
  refine ⟨Z, _, hdrop, ?_, ?_⟩
  · show window true (fun _ => takeZ) takeSt false false [(sh.length : Int)] ns Z _ = _
    rw [htake]
    congr 1
    unfold vals placesOf
    rw [hNN, Int.toNat_natCast]
    apply List.map_congr_left
    intro k hk
    exact (hval k (List.mem_range.1 hk)).1
  · refine view_of hff hcl (fun p hp' => ?_)
    unfold placesOf at hp'
    obtain ⟨k, hk, rfl⟩ := List.mem_map.1 hp'
    have hk' := List.mem_range.1 hk
    exact hp _ (hval k (by omega)).2
end Go.Proofs.YtgjpchnkodnieaaGreatDoor
namespace Go.Proofs.YtgjpchnkodnieaaGreatDoor
theorem far_congr2 {ix st su : List Int} : ∀ n, (∀ i, i < n → st.getD i 0 = su.getD i 0) → farN ix st n = farN ix su n := by
  intro n
  induction n with
  | zero => intro _; rfl
  | succ n ih => intro h; simp only [farN]; rw [ih (fun i hi => h i (by omega)), h n (by omega)]
theorem getD_setV (l : List Int) (k j : Nat) (x : Int) (hk : k < l.length) : (l.set k x).getD j 0 = if j = k then x else l.getD j 0 := by
  by_cases h : j = k
  · subst h; rw [if_pos rfl]; simp [List.getD, hk]
  · rw [if_neg h]; simp [List.getD, Ne.symm h]
theorem flip_at {sh st : List Int} {off : Int} {m t : Nat} (hs : shapeB sh = true) (hl : sh.length = m + 1) (hf : Full sh) {n : Nat} (hn : sh.getD m 0 = (n : Int)) (ht : (t : Int) < countOf sh) :
    ∃ d : Nat, d < n ∧ (digits sh t).getD m 0 = (d : Int) ∧ (placesOf off sh st).getD (revFrom n 1 t) 0 = off + (farN (digits sh t) st m + ((n : Int) - 1 - d) * st.getD m 0) ∧ revFrom n 1 t < (countOf sh).toNat := by
  have hin := digits_in hf (t : Int)
  have hdl := digits_len sh (t : Int)
  have hm := hin m (by omega)
  rw [hn] at hm
  obtain ⟨d, hd⟩ : ∃ d : Nat, (digits sh t).getD m 0 = (d : Int) := ⟨((digits sh t).getD m 0).toNat, by omega⟩
  have hc := prodAll_count sh hs
  have hpd := place_digits hf (p := (t : Int)) (by omega) (by omega)
  have hpb := placeN_bd hin m (by omega)
  obtain ⟨p, hp⟩ : ∃ p : Nat, placeN sh (digits sh t) m = (p : Int) := ⟨(placeN sh (digits sh t) m).toNat, by omega⟩
  have ht2 : t = p * n + d := by
    unfold place at hpd
    rw [hl] at hpd
    simp only [placeN] at hpd
    rw [hp, hn, hd] at hpd
    have : ((p * n + d : Nat) : Int) = (t : Int) := by push_cast; exact hpd
    omega
  have hdn : d < n := by omega
  have hrev : revFrom n 1 t = p * n + (n - 1 - d) := by
    have := revFrom_at (n := n) (A := 1) (p := p) (i := d) (q := 0) hdn (by omega)
    simp only [Nat.mul_one, Nat.add_zero] at this
    rw [ht2]; exact this
  have hD : IxIn sh ((digits sh t).set m ((n : Int) - 1 - d)) := by
    intro i hi
    rw [getD_setV _ _ _ _ (by omega)]
    by_cases e : i = m
    · subst e; rw [if_pos rfl, hn]; omega
    · rw [if_neg e]; exact hin i hi
  have hpl : place sh ((digits sh t).set m ((n : Int) - 1 - d)) = ((p * n + (n - 1 - d) : Nat) : Int) := by
    unfold place
    rw [hl]
    simp only [placeN]
    have e1 : placeN sh ((digits sh t).set m ((n : Int) - 1 - d)) m = placeN sh (digits sh t) m := by
      have : ∀ j, j ≤ m → placeN sh ((digits sh t).set m ((n : Int) - 1 - d)) j = placeN sh (digits sh t) j := by
        intro j
        induction j with
        | zero => intro _; rfl
        | succ j ih => intro hj; simp only [placeN]; rw [ih (by omega), getD_setV _ _ _ _ (by omega), if_neg (by omega)]
      exact this m (Nat.le_refl _)
    rw [e1, hp, hn, getD_setV _ _ _ _ (by omega), if_pos rfl]
    push_cast
    omega
  have hat := places_at (off := off) (st := st) hs hf hD
  rw [hpl, Int.toNat_natCast, ← hrev] at hat
  refine ⟨d, hdn, hd, ?_, ?_⟩
  · rw [hat, hl]
    simp only [farN]
    rw [getD_setV _ _ _ _ (by omega), if_pos rfl]
    congr 2
    exact far_congr m (fun i hi => by rw [getD_setV _ _ _ _ (by omega), if_neg (by omega)])
  · have := place_bd hD
    rw [hpl, hc] at this
    omega
theorem flip_places {off cells : Int} {sh st : List Int} {m : Nat} (h : viewOk off sh st cells = true) (hl : sh.length = m + 1) {o2 : Int} {s2 : List Int}
    (hcase : (1 < sh.getD m 0 ∧ o2 = off + (sh.getD m 0 - 1) * st.getD m 0 ∧ s2 = st.set m (-st.getD m 0)) ∨ (¬ 1 < sh.getD m 0 ∧ o2 = off ∧ s2 = st)) (hff : formed o2 sh s2 = true) :
    revA false sh (placesOf off sh st) false = ⟨false, sh, placesOf o2 sh s2, 0⟩ ∧ viewOk o2 sh s2 cells = true := by
  obtain ⟨hf, hcl, hp⟩ := viewOk_parts h
  obtain ⟨hs, hst, _, _⟩ := formed_parts hf
  have hne : sh ≠ [] := by intro e; rw [e] at hl; simp at hl
  have hcb := shapeB_count hs
  by_cases h0 : countOf sh = 0
  · have e1 : placesOf off sh st = [] := by unfold placesOf; rw [h0]; rfl
    have e2 : placesOf o2 sh s2 = [] := by unfold placesOf; rw [h0]; rfl
    rw [e1, e2]
    exact ⟨revA_none (.inr rfl), view_of hff hcl (fun p hp' => by rw [e2] at hp'; cases hp')⟩
  have hfl := full_count hs (by omega)
  obtain ⟨hin, _⟩ := shapeB_in hs
  have hcell := hin.cell m
  obtain ⟨n, hn⟩ : ∃ n : Nat, sh.getD m 0 = (n : Int) := ⟨(sh.getD m 0).toNat, by omega⟩
  have hnp : 0 < n := by have := hfl m (by omega); omega
  have hPne : placesOf off sh st ≠ [] := by
    intro e
    have := places_len off sh st
    rw [e] at this
    simp at this
    omega
  have hax : axisN sh false = (n : Int) := by unfold axisN axisAt; simp only [Bool.false_eq_true, if_false]; rw [hl]; exact hn
  have hA : axisA sh false = ((1 : Nat) : Int) := by
    unfold axisA axisAt
    simp only [Bool.false_eq_true, if_false]
    rw [hl, List.drop_of_length_le (by omega)]
    rfl
  have key : ∀ t : Nat, t < (countOf sh).toNat → (placesOf off sh st).getD (revFrom n 1 t) 0 = placeOf o2 sh s2 t ∧ placeOf o2 sh s2 t ∈ placesOf off sh st := by
    intro t ht
    obtain ⟨d, hdn, hd, hat, hlt⟩ := flip_at (off := off) (st := st) hs hl hfl hn (t := t) (by omega)
    have e1 : placeOf o2 sh s2 t = off + (farN (digits sh t) st m + ((n : Int) - 1 - d) * st.getD m 0) := by
      unfold placeOf
      rw [hl]
      simp only [farN]
      rw [hd]
      rcases hcase with ⟨h1, rfl, rfl⟩ | ⟨h1, rfl, rfl⟩
      · rw [getD_setV _ _ _ _ (by omega), if_pos rfl, far_congr2 (su := st) m (fun i hi => by rw [getD_setV _ _ _ _ (by omega), if_neg (by omega)]), hn]
        have e2 : ((n : Int) - 1 - d) * st.getD m 0 = ((n : Int) - 1) * st.getD m 0 - (d : Int) * st.getD m 0 := by rw [Int.sub_mul]
        rw [e2, Int.mul_neg]
        omega
      · rw [hn] at h1
        have hn1 : n = 1 := by omega
        have hd0 : d = 0 := by omega
        subst hn1
        subst hd0
        simp
    rw [e1]
    refine ⟨hat, ?_⟩
    rw [← hat, getD_eq _ _ (by rw [places_len]; exact hlt)]
    exact List.getElem_mem _
  refine ⟨?_, ?_⟩
  · rw [revA_go hne hPne n 1 hax hA, places_len]
    congr 1
    unfold vals
    show _ = (List.range (countOf sh).toNat).map (placeOf o2 sh s2)
    apply List.map_congr_left
    intro t ht
    exact (key t (List.mem_range.1 ht)).1
  · refine view_of hff hcl (fun p hp' => ?_)
    unfold placesOf at hp'
    obtain ⟨t, ht, rfl⟩ := List.mem_map.1 hp'
    exact hp _ (key t (List.mem_range.1 ht)).2
end Go.Proofs.YtgjpchnkodnieaaGreatDoor
namespace Go.Proofs.YtgjpchnkodnieaaGreatDoor
open Go.RowKit
theorem modN (k m : Nat) (hm : 0 < m) : ∃ j : Nat, j < m ∧ (k : Int).tmod (m : Int) = (j : Int) ∧ (k : Int) % (m : Int) = (j : Int) := ⟨k % m, Nat.mod_lt _ hm, by rw [Int.tmod_eq_emod_of_nonneg (by omega)]; rfl, rfl⟩
theorem lits (w : World) (l : List Int) (j : Nat) (hj : j < l.length) : (w.alloc (.cells (l.map (Value.int .i64)).toArray 3)).cell? ⟨w.heap.size, j, none⟩ = some (.int .i64 (l.getD j 0)) :=
  Blk.cell (show Blk _ _ l from World.alloc_heap_new w _) hj
theorem rank_lit (j : Nat) (hj : j < 12) : ∃ rk : Nat, (rk : Int) = ([1, 1, 1, 0, 2, 2, 3, 0, 2, 4, 1, 5] : List Int).getD j 0 ∧ rk ≤ 5 := by
  have : j = 0 ∨ j = 1 ∨ j = 2 ∨ j = 3 ∨ j = 4 ∨ j = 5 ∨ j = 6 ∨ j = 7 ∨ j = 8 ∨ j = 9 ∨ j = 10 ∨ j = 11 := by omega
  rcases this with rfl | rfl | rfl | rfl | rfl | rfl | rfl | rfl | rfl | rfl | rfl | rfl <;>
    first | (refine ⟨0, ?_⟩; simp; done) | (refine ⟨1, ?_⟩; simp; done) | (refine ⟨2, ?_⟩; simp; done) | (refine ⟨3, ?_⟩; simp; done) | (refine ⟨4, ?_⟩; simp; done) | (refine ⟨5, ?_⟩; simp; done)
theorem owns_but {S : Nat → Prop} {w w' : World} {base n g cap : Nat} {xs : List Value} (h : w.ownsRow base 3 1 (.slice (some ⟨g, 0, none⟩) n cap) n xs) (hb : But S w w') (hs : ¬ S g) : w'.ownsRow base 3 1 (.slice (some ⟨g, 0, none⟩) n cap) n xs := by
  refine ⟨h.1, ?_⟩
  rcases h.2 with h0 | ⟨g', cap', cur, e, hge, hh, hr⟩
  · exact .inl h0
  · cases e
    exact .inr ⟨g, cap, cur, rfl, hge, (hb.block g (lt_of_block hh) hs).trans hh, hr⟩
theorem owns_ne {w : World} {base n g cap pr : Nat} {xs : List Value} {a : Option Addr} {l c p : Nat} (h : w.ownsRow base 3 1 (.slice (some ⟨g, 0, none⟩) n cap) n xs) (hp : w.heap[pr]? = some (.cells #[.slice a l c, .int .i64 (p : Nat)] 157 (0, 0))) : g ≠ pr := by
  rcases h.2 with ⟨e, _⟩ | ⟨g', cap', cur, e, hge, hh, hr⟩
  · cases e
  · cases e
    intro e
    subst e
    rw [hp] at hh
    have := congrArg (fun o => match o with | some (.cells _ t _) => t | _ => 0) hh
    simp at this
theorem but_grown {w w1 : World} {o : Obj} {g : Nat} (hg : (w.alloc o).grownBy w1 (some g)) : But (fun x => x = g) w w1 :=
  ⟨hg.os, hg.tape, hg.output, by have := hg.size; simp at this; omega, fun k hk hn => (hg.block k (by simp; omega) (fun e => hn (by simpa using e))).trans (Below.heap_alloc w o k hk)⟩
theorem owns_from {w : World} {base n g cap : Nat} {xs : List Value} (h : w.ownsRow base 3 1 (.slice (some ⟨g, 0, none⟩) n cap) n xs) : base ≤ g := by
  rcases h.2 with ⟨e, _⟩ | ⟨g', cap', cur, e, hge, hh, hr⟩
  · cases e
  · cases e; exact hge
theorem draw_grown {w w2 w3 : World} {o : Obj} {pr g : Nat} (hr : RdOk w2 pr) (hb : But (fun x => x = pr) w w2) (hp : pr < w.heap.size) (hge : w.heap.size ≤ g) (hg : (w2.alloc o).grownBy w3 (some g)) : RdOk w3 pr ∧ But (fun x => x = pr) w w3 := by
  have h := but_grown hg
  refine ⟨hr.but h (by rintro k rfl; omega), ?_⟩
  exact ⟨h.os.trans hb.os, h.tape.trans hb.tape, h.output.trans hb.output, by have := h.size; have := hb.size; omega, fun k hk hn => (h.block k (by have := hb.size; omega) (by rintro rfl; omega)).trans (hb.block k hk hn)⟩
set_option maxRecDepth 20000 in
set_option maxHeartbeats 4000000 in
theorem l3Shape_small (pr : Nat) (w : World) (h : RdOk w pr) :
    Calls Tryz.prog 134 #[.pointer (some ⟨pr, 0, none⟩)] w fun e w' => (∃ (g n cap : Nat) (zs : List Int), e = .returned (.slice (some ⟨g, 0, none⟩) n cap) ∧ n ≤ 5 ∧ w'.ownsRow w.heap.size 3 1 (.slice (some ⟨g, 0, none⟩) n cap) n (zs.map (Value.int .i64)) ∧ ∀ z ∈ zs, 0 ≤ z ∧ z ≤ 4) ∧ RdOk w' pr ∧ But (fun x => x = pr) w w' := by
  have hcall := next_any pr w h
  have hlw := h.lt
  clear h
  obtain ⟨i0, hi, hz0, hz1, hz2⟩ := info_parts info_int
  go_enter Tryz.func134, Tryz.ntmps134
  go_wp2_with fail
  refine hcall.mono ?_
  rintro e w1 ⟨⟨k, hk, rfl⟩, hr, hb⟩
  have HR := hide hr
  have HB := hide hb
  clear hr hb hcall
  obtain ⟨j, hj, q1, q2⟩ := modN k 12 (by omega)
  have q1' : (k : Int).tmod 12 = (j : Int) := q1
  have q2' : (k : Int) % 12 = (j : Int) := q2
  have hc := lits w1 [1, 1, 1, 0, 2, 2, 3, 0, 2, 4, 1, 5] j (by simpa using hj)
  obtain ⟨rk, hrk, hrk5⟩ := rank_lit j hj
  rw [← hrk] at hc
  simp only [List.map_cons, List.map_nil] at hc
  have hjz : (j : Int) < 12 := by omega
  have hw12 : IntKind.i64.wrap (j : Int) = (j : Int) := by rw [IntKind.wrap_i64]; omega
  clear hrk q1 q2
  go_wp2_with fail
  obtain ⟨W, hW⟩ : ∃ W, W = (w1.alloc (.cells #[.int .i64 1, .int .i64 1, .int .i64 1, .int .i64 0, .int .i64 2, .int .i64 2, .int .i64 3, .int .i64 0, .int .i64 2, .int .i64 4, .int .i64 1, .int .i64 5] 3)).alloc (.cells #[] 3) := ⟨_, rfl⟩
  have HRW : Hid (RdOk W pr) := by rw [hW]; exact ((unhide HR).below ((Below.refl _ _).alloc (Nat.le_refl _) _)).below ((Below.refl _ _).alloc (Nat.le_refl _) _)
  have HBW : Hid (But (fun x => x = pr) w W) := by rw [hW]; exact ((unhide HB).alloc _).alloc _
  have HOW : Hid (W.ownsRow w.heap.size 3 1 (.slice (some ⟨w1.heap.size + 1, 0, none⟩) 0 0) 0 (([] : List Int).map (Value.int .i64))) := by
    rw [hW]
    have := owns_empty (w1.alloc (.cells #[.int .i64 1, .int .i64 1, .int .i64 1, .int .i64 0, .int .i64 2, .int .i64 2, .int .i64 3, .int .i64 0, .int .i64 2, .int .i64 4, .int .i64 1, .int .i64 5] 3))
    rw [World.size_alloc] at this
    exact owns_mono this (by have := (unhide HB).size; omega)
  rw [← hW]
  clear hW hc HR HB q1' q2' hw12
  generalize w1.heap.size + 1 = g0 at *
  go_loopw [5, 6] (fun v i wr => ∃ (n g cap : Nat) (zs : List Int), n ≤ rk ∧ i = .int .i64 (n : Nat) ∧ v = .slice (some ⟨g, 0, none⟩) n cap ∧ Hid (wr.ownsRow w.heap.size 3 1 (.slice (some ⟨g, 0, none⟩) n cap) n (zs.map (Value.int .i64))) ∧ Hid (∀ z ∈ zs, 0 ≤ z ∧ z ≤ 4) ∧ Hid (RdOk wr pr) ∧ Hid (But (fun x => x = pr) w wr)) (fun _ i _ => rk - (intOf i).toNat)
  case atStart => exact ⟨0, g0, 0, [], Nat.zero_le _, rfl, rfl, HOW, hide (fun _ h => by cases h), HRW, HBW⟩
  case round =>
    clear HOW HRW HBW
    obtain ⟨n, g, cap, zs, hn, rfl, rfl, ho, hsm, hr, hb⟩ := hrel
    by_cases hlt : n < rk
    · have hnz : (n : Int) < (rk : Int) := by omega
      have hcall := next_any pr wr (unhide hr)
      have HNE : Hid (g ≠ pr) := by obtain ⟨_, _, _, _, hp, _⟩ := unhide hr; exact owns_ne (unhide ho) hp
      go_upto_if 25 with (go_at_call 45; refine hcall.mono ?_; rintro e w2 ⟨⟨v, hv, rfl⟩, hr2, hb2⟩; have HR2 := hide hr2; have HB2' := hide hb2; obtain ⟨j5, hj5, q5, q5'⟩ := modN v 5 (by omega); (have r5 : (v : Int).tmod 5 = (j5 : Int) := q5); (have r5' : (v : Int) % 5 = (j5 : Int) := q5'); clear hr2 hb2 q5 q5')
      have HB2 : Hid (But (fun x => x = pr) w w2) := ((unhide hb).trans (unhide HB2')).mono (by rintro x (h | h) <;> exact h)
      have HO2 : Hid (w2.ownsRow w.heap.size 3 1 (.slice (some ⟨g, 0, none⟩) n cap) n (zs.map (Value.int .i64))) := owns_but (unhide ho) (unhide HB2') (unhide HNE)
      clear r5 r5' ho hr hb HB2' hcall
      go_cut [7] (fun v wx => w2 = wx ∧ ∃ m : Nat, m ≤ 4 ∧ v = .int .i64 (m : Nat))
      case first => as_aux_lemma =>
        by_cases h3 : 3 < rk
        · have h3z : (3 : Int) < (rk : Int) := by omega
          obtain ⟨j2, hj2, q2, q2'⟩ := modN j5 2 (by omega)
          have r2 : (j5 : Int).tmod 2 = (j2 : Int) := q2
          have r2' : (j5 : Int) % 2 = (j2 : Int) := q2'
          clear q2 q2'
          go_wp2_with fail
          go_meet
          case rel => exact ⟨rfl, j2 + 1, by omega, by simp⟩
        · have h3z : ¬ (3 : Int) < (rk : Int) := by omega
          go_wp2_with fail
          go_meet
          case rel => exact ⟨rfl, j5, by omega, rfl⟩
      case rest =>
        obtain ⟨rfl, m, hm4, rfl⟩ := hcut
        go_upto_region 10 with fail
        go_cut [34] (fun v wx => w2 = wx ∧ ∃ b : Bool, v = .bool b)
        case first => as_aux_lemma =>
          by_cases hm0 : m = 0
          · have g0 : ((m : Int) == 0) = true := by simp [hm0]
            go_wp2_with fail
            go_meet
            case rel => exact ⟨rfl, _, rfl⟩
          · have g0 : ((m : Int) == 0) = false := by simp; omega
            go_wp2_with fail
            go_meet
            case rel => exact ⟨rfl, _, rfl⟩
        case rest =>
          obtain ⟨rfl, b, rfl⟩ := hcut
          go_upto_if 34 with fail
          go_cut [7] (fun v wx => w2 = wx ∧ ∃ m : Nat, m ≤ 4 ∧ v = .int .i64 (m : Nat))
          case first => as_aux_lemma =>
            cases b
            · go_wp2_with fail
              go_meet
              case rel => exact ⟨rfl, m, by omega, rfl⟩
            · go_wp2_with fail
              go_meet
              case rel => exact ⟨rfl, 2, by omega, rfl⟩
          case rest =>
            obtain ⟨rfl, m', hm4', rfl⟩ := hcut
            have hsz2 := (unhide HB2).size
            go_wp2_with (at_builtin; refine wpList_append_lies _ rfl _ _ 23 rfl w.heap.size 3 i0 (.int .i64 0) 1 8 Tryz.underlying23 hi hz0 hz1 hz2 rfl (by decide) _ _ _ rfl (owns_below (unhide HO2) (Nat.le_refl _) ((Below.refl _ _).alloc (Nat.le_refl _) _)) ⟨w2.heap.size, 0, none⟩ 1 1 [.int .i64 (m' : Nat)] rfl rfl (cells_new _ _) (one_one _) (by omega) (by unfold maxLen; omega) (by omega) (by simp; omega) (w2.heap.size + 1) (by simp) ?_; intro g' cap' w7 hown' hgrow hat hlt7; have HOW := hide hown'; have HD := hide (draw_grown (unhide HR2) (unhide HB2) hlw (owns_from (unhide HO2)) hgrow); clear hown' hgrow hat hlt7)
            go_roundw
            case rel => exact ⟨n + 1, g', cap', zs ++ [(m' : Int)], by omega, by go_num, rfl, by show World.ownsRow _ _ _ _ _ _ _; rw [List.map_append]; exact unhide HOW, hide (fun z hz => by rcases List.mem_append.1 hz with h | h; exact unhide hsm z h; (rw [List.mem_singleton.1 h]; omega)), hide (unhide HD).1, hide (unhide HD).2⟩
            case measure => simp [intOf]; omega
    · have e : n = rk := by omega
      subst e
      go_wp2_with fail
      go_ret
      exact ⟨⟨g, n, cap, zs, rfl, hrk5, unhide ho, unhide hsm⟩, unhide hr, unhide hb⟩
end Go.Proofs.YtgjpchnkodnieaaGreatDoor
