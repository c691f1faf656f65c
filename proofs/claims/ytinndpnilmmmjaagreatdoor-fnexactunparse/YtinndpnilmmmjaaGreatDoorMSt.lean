import Derived.Test.YtinndpnilmmmjaaGreatDoorMKa
import Derived.Test.YtinndpnilmmmjaaGreatDoorMKa
import Derived.Test.YtinndpnilmmmjaaGreatDoorMKb
import Derived.Test.YtinndpnilmmmjaaGreatDoorMKb
import Derived.Test.YtinndpnilmmmjaaGreatDoorMKb
import Derived.Test.YtinndpnilmmmjaaGreatDoorMNode
import Derived.Test.YtinndpnilmmmjaaGreatDoorMNode
import Derived.Test.YtinndpnilmmmjaaGreatDoorMSel
import Derived.Test.YtinndpnilmmmjaaGreatDoorMNm
import Derived.Deep.RegionWith
import Derived.Deep.RegionHeld
import Derived.Deep.DeepCutAuto
import Derived.Deep.OwnRows
namespace Go.Proofs.YtinndpnilmmmjaaGreatDoor
open Go.RowKit

theorem l2KidsOk_any (k : Int) (b off n : Nat) (ks : List Int) (w : World) (hk : 1 ≤ k ∧ k ≤ 25) (h : Row w (some ⟨b, off, none⟩) n ks) : Calls Tryz.prog 25 #[.int .i64 k, .slice (some ⟨b, off, none⟩) n n] w fun e w' => e = .returned (.bool (kidsB k ks)) ∧ Below w.heap.size w w' := by
  rcases kind_cases k with e | e | e | e | e | e | e | e | e | e | e | e | e | e | e | e | e | e | e | e | e | e | e | e | e | e | e
  · omega
  · omega
  · subst e; exact kidsOk_1 b off n n ks w h
  · subst e; exact kidsOk_2 b off n n ks w h
  · subst e; exact kidsOk_3 b off n n ks w h
  · subst e; exact kidsOk_4 b off n n ks w h
  · subst e; exact kidsOk_5 b off n n ks w h
  · subst e; exact kidsOk_6 b off n n ks w h
  · subst e; exact kidsOk_7 b off n ks w h
  · subst e; exact kidsOk_8 b off n n ks w h
  · subst e; exact kidsOk_9 b off n n ks w h
  · subst e; exact kidsOk_10 b off n n ks w h
  · subst e; exact kidsOk_11 b off n n ks w h
  · subst e; exact kidsOk_12 b off n n ks w h
  · subst e; exact kidsOk_13 b off n n ks w h
  · subst e; exact kidsOk_14 b off n n ks w h
  · subst e; exact kidsOk_15 b off n n ks w h
  · subst e; exact kidsOk_16 _ n n ks w h
  · subst e; exact kidsOk_17 b off n n ks w h
  · subst e; exact kidsOk_18 b off n n ks w h
  · subst e; exact kidsOk_19 b off n n ks w h
  · subst e; exact kidsOk_20 b off n n ks w h
  · subst e; exact kidsOk_21 b off n ks w h
  · subst e; exact kidsOk_22 b off n n ks w h
  · subst e; exact kidsOk_23 b off n n ks w h
  · subst e; exact kidsOk_24 b off n n ks w h
  · subst e; exact kidsOk_25 _ n n ks w h

end Go.Proofs.YtinndpnilmmmjaaGreatDoor
namespace Go.Proofs.YtinndpnilmmmjaaGreatDoor
open Go.RowKit

theorem sel_ok {T : ByteArray → Bool} {ns : List NodeD} {st : List (Nat × Nat)} {i z : Nat} (ho : ordN ns i = some st) (ha : ∀ j, j < i → nodeB T ns st j = true) (hz : z < i) : SelOk ns z := SelOk.of fun j hj => by
  have hk := ha j (by omega)
  unfold nodeB at hk
  simp only [Bool.and_eq_true] at hk
  have hf := kids_few hk.2.1
  rw [kinds_len] at hf
  exact ⟨ord_kids ho (by omega), hf⟩

theorem sortOk (k : Int) (s : Int) (h : sortK k = s) (W : World) : Calls Tryz.prog 24 #[.int .i64 k] W fun e w' => e = .returned (.int .i64 s) ∧ w' = W := by rw [← h]; exact l2Sort_any k W

/-- What l2FieldsOk gives. -/
def FieldsSaid : Prop := ∀ (k n m : Int) (s : ByteArray) (a1 a2 : Option Addr) (n1 c1 n2 c2 : Nat) (nums kids : List Int) (w : World) (_ : 1 ≤ k ∧ k ≤ 25) (_ : s.size ≤ 1048576) (_ : Row w a1 n1 nums),
    Calls Tryz.prog 26 #[.agg #[.int .i64 k, .int .i64 n, .int .i64 m, .string s, .slice a1 n1 c1, .slice a2 n2 c2]] w fun e w' => e = .returned (.bool (fieldsS txtB ⟨k, n, m, s, nums, kids⟩)) ∧ Below w.heap.size w w'

theorem fill_made (n : Nat) (ks : List Int) (h : ks.length = n) : fillK ks n = List.replicate n 0 := by rw [← h]; exact fillK_start ks

theorem kid_y {z : Int} {a : Nat} (h : z = (a : Int) - 1) (ha : 1 ≤ a) : ∃ y : Nat, a = y + 1 ∧ z = (y : Int) := ⟨a - 1, by omega, by omega⟩

theorem own_lt1 {w : World} {B n g cap : Nat} {xs : List Value} (h : w.ownsRow B 3 1 (.slice (some ⟨g, 0, none⟩) n cap) n xs) : g < w.heap.size := ownLt h (g := g) rfl

theorem sort_range {k : Int} (h : sortK k ≠ 0) : 1 ≤ k ∧ k ≤ 25 := by
  unfold sortK at h
  repeat' split at h
  all_goals omega

set_option maxRecDepth 20000 in
set_option maxHeartbeats 16000000 in
theorem specTree_of (hfs : FieldsSaid) (a : Option Addr) (n cap : Nat) (ns : List NodeD) (w : World) (h : NRow w a n ns) (hsm : SmallD ns n) :
    Calls Tryz.prog 8 #[.agg #[.slice a n cap]] w fun e w' => e = .returned (.bool (treeB txtB ns)) ∧ Below w.heap.size w w' := by
  have hlen := h.len
  have hn1 := h.small
  obtain ⟨r, hr⟩ : ∃ r, treeB txtB ns = r := ⟨_, rfl⟩
  rw [hr]
  have HR := hide hr
  have HFS := hide hfs
  clear hr hfs
  by_cases hs0 : n < 1
  · have hg : (n : Int) < 1 := by omega
    have HE : Hid (false = r) := by show _ = _; rw [← unhide HR, tree_size (by omega)]
    clear HR h
    go_enter Tryz.func8, Tryz.ntmps8
    go_wp2_with fail
    go_ret
    exact ⟨ret_bool (unhide HE), (Below.refl _ _).alloc (Nat.le_refl _) _⟩
  have hg0 : ¬ (n : Int) < 1 := by omega
  by_cases hs1 : 600 < n
  · have hg : (600 : Int) < (n : Int) := by omega
    have HE : Hid (false = r) := by show _ = _; rw [← unhide HR, tree_size (by omega)]
    clear HR h
    go_enter Tryz.func8, Tryz.ntmps8
    go_wp2_with fail
    go_ret
    exact ⟨ret_bool (unhide HE), (Below.refl _ _).alloc (Nat.le_refl _) _⟩
  have hg1 : ¬ (600 : Int) < (n : Int) := by omega
  obtain ⟨Q, hQ⟩ : ∃ Q, Q = w.alloc (.cells #[.slice a n cap] 29) := ⟨_, rfl⟩
  have HQ := hide hQ
  have HBQ : Hid (Below w.heap.size w Q) := by rw [hQ]; exact (Below.refl _ _).alloc (Nat.le_refl _) _
  have hQs : Q.heap.size = w.heap.size + 1 := by rw [hQ]; simp
  have HQC : Hid (Q.cell? ⟨w.heap.size, 0, none⟩ = some (.slice a n cap)) := by rw [hQ]; show (w.alloc _).cell? _ = _; simp
  have H := hide h
  have HSM := hide hsm
  have HST := hide (Two2.start Q)
  obtain ⟨i0, hi, hz0, hz1, hz2⟩ := info_parts info_int
  clear h hsm hQ
  go_enter Tryz.func8, Tryz.ntmps8
  go_wp2_with fail
  rw [← unhide HQ, ← hQs]
  have hQlt : w.heap.size < Q.heap.size := by omega
  clear hQs
  go_loopw [3, 4, 5] (fun v3 v4 v5 wr => ∃ (i g1 p1 g2 p2 : Nat) (st : List (Nat × Nat)), i ≤ n ∧ v5 = .int .i64 i ∧ v3 = .slice (some ⟨g1, 0, none⟩) i p1 ∧ v4 = .slice (some ⟨g2, 0, none⟩) i p2 ∧ Hid (ordN ns i = some st) ∧ Hid (∀ j, j < i → nodeB txtB ns st j = true) ∧ Hid (Two2 Q wr i (bgL st) i (tlL st) g1 p1 g2 p2)) (fun _ _ v5 _ => n - (intOf v5).toNat)
  case atStart => exact ⟨0, _, _, _, _, [], Nat.zero_le _, rfl, rfl, rfl, rfl, fun j hj => absurd hj (Nat.not_lt_zero _), HST⟩
  case round =>
    obtain ⟨i, g1, p1, g2, p2, st, hin, rfl, rfl, rfl, HO, HA, HT⟩ := hrel
    clear HST
    have hbQ := (unhide HT).low
    have hsz := hbQ.size
    have hsl := ord_len (unhide HO)
    have ct : wr.cell? ⟨w.heap.size, 0, none⟩ = some (.slice a n cap) := (hbQ.cell (p := ⟨w.heap.size, 0, none⟩) (by show w.heap.size < _; omega)).trans (unhide HQC)
    have hbW := (unhide HBQ).trans (hbQ.mono (by omega))
    by_cases hlt : i < n
    case neg =>
      have hin' : i = n := by omega
      subst hin'
      have hgi : ¬ (i : Int) < (i : Int) := by omega
      obtain ⟨y, hy⟩ : ∃ y, i = y + 1 := ⟨i - 1, by omega⟩
      have hc := (own_cell (unhide HT).o1 (i := y) (by omega)).1
      rw [bgL_get (by omega)] at hc
      have HE : Hid (decide ((st.getD y (0, 0)).1 = 0) = r) := by
        show _ = r
        rw [← unhide HR, tree_good (st := st) (by rw [hlen]; exact unhide HO) (by omega) (by rw [hlen]; exact unhide HA), hlen, show i - 1 = y by omega]
      obtain ⟨x, hx⟩ : ∃ x, (st.getD y (0, 0)).1 = x := ⟨_, rfl⟩
      rw [hx] at hc HE
      have hyi : (i : Int) - 1 = (y : Int) := by omega
      have HBW := hide hbW
      clear HO HA HT hx HR hbQ hbW hsl hy
      go_wp2_with fail
      go_ret
      refine ⟨ret_bool ?_, unhide HBW⟩
      rw [← unhide HE]
      by_cases hx0 : x = 0
      · subst hx0; rfl
      · rw [decide_eq_false hx0]; simp; omega
    have hNR := (unhide H).below (Nat.le_refl _) hbW
    obtain ⟨b, off, rfl, hbl, s1, n1, c1, s2, n2, c2, e0, e1, e2, e3, e4, e5, r1, r2⟩ := hNR.get hlt
    have hNA : NAt Row wr b (off + i * 6) (node ns i) := ⟨s1, n1, c1, s2, n2, c2, e0, e1, e2, e3, e4, e5, r1, r2⟩
    have hsn := unhide HSM i hlt
    have hl2 := r2.len
    have hl1 := r1.len
    have HNR := hide hNR
    have HR1 := hide r1
    have HR2 := hide r2
    have HBW := hide hbW
    have HTN : Hid (ordN ns (i + 1) = none → false = r) := fun hh => by rw [← unhide HR, tree_none hh (by omega)]
    have HTB : Hid (∀ st', ordN ns (i + 1) = some st' → nodeB txtB ns st' i = false → false = r) := fun st' h1 h2 => by rw [← unhide HR, tree_bad h1 (by omega) h2]
    have HOS := hide (ord_step (unhide HO))
    have hhi := ord_hi i (unhide HO)
    have hle := ord_le i (unhide HO)
    have hkd : (kinds ns (node ns i).kids).length = n2 := by rw [kinds_len]; exact hl2
    have HKD := hide (fun (q : Nat) (hq : q < n2) => kinds_get (ns := ns) (zs := (node ns i).kids) (k := q) (by omega))
    obtain ⟨kids, hkids⟩ : ∃ x, (node ns i).kids = x := ⟨_, rfl⟩
    obtain ⟨ks, hks⟩ : ∃ x, kinds ns (node ns i).kids = x := ⟨_, rfl⟩
    rw [hks] at hkd HKD
    have HKS := hide hks
    rw [hkids] at HOS HKD HR2 hl2
    have HKIDS := hide hkids
    obtain ⟨xk, hxk⟩ : ∃ x, (node ns i).k = x := ⟨_, rfl⟩
    obtain ⟨xn, hxn⟩ : ∃ x, (node ns i).n = x := ⟨_, rfl⟩
    obtain ⟨xm, hxm⟩ : ∃ x, (node ns i).m = x := ⟨_, rfl⟩
    obtain ⟨xs, hxs⟩ : ∃ x, (node ns i).s = x := ⟨_, rfl⟩
    rw [hxk] at e0
    rw [hxn] at e1
    rw [hxm] at e2
    rw [hxs] at e3
    have HX := hide (And.intro hxk (And.intro hxn (And.intro hxm hxs)))
    have hn2 : n2 ≤ 1048576 := by have := hsn.2.2; rw [hkids] at this; omega
    have hsmk : xs.size ≤ 1048576 ∧ True := ⟨by rw [← hxs]; exact hsn.1, trivial⟩
    clear hxk hxn hxm hxs hkids hks r1 r2 hNR hNA hsn hl1
    have hlti : (i : Int) < (n : Int) := by omega
    go_wp2_with (at_make; refine wpList_make_full _ rfl _ _ 45 rfl (wr.heap.size + 1) 3 i0 (.int .i64 0) 1 Tryz.underlying45 hi hz0 hz1 _ _ _ _ n2 rfl rfl rfl rfl (by rw [hz2]; omega) (by unfold maxLen; omega) (by simp) ?_; intro w1 hown hgrow; have hb1 : Below (wr.heap.size + 1) (wr.alloc (.cells #[.int .i64 xk, .int .i64 xn, .int .i64 xm, .string xs, .slice s1 n1 c1, .slice s2 n2 c2] 47)) w1 := (Below.refl _ _).grown hgrow (by simp) (by simp); obtain ⟨-, -, -, -, -, d5⟩ := ((NBox.new wr (.int .i64 xk) (.int .i64 xn) (.int .i64 xm) (.string xs) (.slice s1 n1 c1) (.slice s2 n2 c2)).below (by omega) hb1).all)
    clear d5
    have hblk : Blk w1 (wr.heap.size + 1) (fillK ks n2) := by
      rw [fill_made n2 ks hkd]
      exact Blk.of_owns (n := n2) (base := wr.heap.size + 1) (by simpa [toList_madeCells_one, Value.cells] using hown)
    have HBOX : Hid (NBox w1 wr.heap.size (.int .i64 xk) (.int .i64 xn) (.int .i64 xm) (.string xs) (.slice s1 n1 c1) (.slice s2 n2 c2)) := (NBox.new wr _ _ _ _ _ _).below (by omega) hb1
    have hb2 : Below wr.heap.size wr w1 := ((Below.refl _ _).alloc (Nat.le_refl _) _).trans (hb1.mono (by omega))
    have HB2 := hide hb2
    have hsz1 : wr.heap.size + 1 < w1.heap.size := hblk.lt
    have HBLK := hide hblk
    clear hown hgrow hb1 hblk hi hz0 hz1 hz2 e0 e1 e2 e3 e4 e5
    obtain ⟨wo, hwo⟩ : ∃ x, x = wr := ⟨_, rfl⟩
    subst hwo
    have HC1 : Hid (∀ b o, b < wo.heap.size → w1.cell? ⟨b, o, none⟩ = wo.cell? ⟨b, o, none⟩) := fun b o hb => (unhide HB2).cell (p := ⟨b, o, none⟩) hb
    obtain ⟨tgt, htgt⟩ : ∃ t, goK st kids n2 i 0 = t := ⟨_, rfl⟩
    rw [hl2, htgt] at HOS
    have HG := hide htgt
    have hg1 := (own_lt1 (unhide HT).o1)
    have hg2 := (own_lt1 (unhide HT).o2)
    clear htgt hb2
    go_loopw [7, 8, 10] (fun va vh vk wz => ∃ (kk aa hh : Nat) (ai j : Int), kk ≤ n2 ∧ va = .int .i64 ai ∧ vh = .int .i64 hh ∧ vk = .int .i64 j ∧ Hid (ai = (aa : Nat)) ∧ Hid (j = (kk : Int) - 1) ∧ aa ≤ i ∧ hh ≤ i ∧ Hid (goK st kids kk aa hh = tgt) ∧ Hid (Blk wz (wo.heap.size + 1) (fillK ks kk)) ∧ Hid (But (fun x => x = wo.heap.size + 1) w1 wz)) (fun _ _ vk _ => (intOf vk + 1).toNat)
    case atStart => exact ⟨n2, i, 0, _, _, Nat.le_refl _, rfl, rfl, rfl, rfl, rfl, Nat.le_refl _, Nat.zero_le _, HG, HBLK, But.refl _ _⟩
    case round =>
      obtain ⟨kk, aa, hh, ai, j, hkk, rfl, rfl, rfl, HAI, HJ, haa, hhh, HK, HBL, HBU⟩ := hrel
      clear HG HBLK
      have HBOX2 := hide ((unhide HBOX).but (unhide HBU) (by omega))
      have HC2 : Hid (∀ b o, b < wo.heap.size → wr.cell? ⟨b, o, none⟩ = wo.cell? ⟨b, o, none⟩) := fun b o hb => (World.cell?_of_block ((unhide HBU).block b (by omega) (by omega))).trans (unhide HC1 b o hb)
      have ct2 : wr.cell? ⟨w.heap.size, 0, none⟩ = some (.slice (some ⟨b, off, none⟩) n cap) := (unhide HC2 _ _ (by omega)).trans ct
      obtain ⟨c0, c1', c2', c3, c4, c5⟩ := (unhide HBOX2).all
      have hbszw := (unhide HBU).size
      by_cases hk0 : kk = 0
      · subst hk0
        have hjm : j = -1 := by have := unhide HJ; omega
        subst hjm
        have htg : tgt = some (aa, hh) := by rw [← unhide HK, goK]
        have HOS2 : Hid (ordN ns (i + 1) = some (st ++ [(aa, hh)])) := by show _ = _; rw [unhide HOS, htg]; rfl
        have HTB2 := hide (fun hb => unhide HTB _ (unhide HOS2) hb)
        have HAIX : Hid (ai = (aa : Int)) := HAI
        have HBK := hide (unhide HBL)
        rw [fillK_end] at HBK
        have HBW3 : Hid (Below w.heap.size w wr) := (unhide HBW).trans (((unhide HB2).mono (unhide HBW).size).trans ((unhide HBU).below (by omega) (fun k hk => by omega)))
        have HT3 := hide (((unhide HT).below (unhide HB2)).but (unhide HBU) (by omega) (by omega) (fun k hk => by omega))
        have HR13 : Hid (Row wr s1 n1 (node ns i).nums) := (unhide HBU).row ((unhide HR1).below (Nat.le_refl _) (unhide HB2)) (fun k hk hk' => by have := (unhide HR1).hi hk'; omega)
        have HR23 : Hid (Row wr s2 n2 kids) := (unhide HBU).row ((unhide HR2).below (Nat.le_refl _) (unhide HB2)) (fun k hk hk' => by have := (unhide HR2).hi hk'; omega)
        have HNR3 := hide ((unhide HNR).butN (unhide HB2) (unhide HBU) (fun k hk hk' => by omega))
        have HNB : Hid (nodeB txtB ns (st ++ [(aa, hh)]) i = (decide (sortK xk ≠ 0 ∧ (xk = 25 ↔ i + 1 = n)) && (kidsB xk ks && (fieldsS txtB ⟨xk, xn, xm, xs, (node ns i).nums, kids⟩ && (decide (hh ≤ 40) && (decide (xk ≠ 23) || selB ns (kidN (node ns i) 0))))))) := by
          show _ = _
          have hx := unhide HX
          have e : node ns i = ⟨xk, xn, xm, xs, (node ns i).nums, kids⟩ := by
            rw [← hx.1, ← hx.2.1, ← hx.2.2.1, ← hx.2.2.2, ← unhide HKIDS]
          unfold nodeB
          rw [hx.1, unhide HKS, hlen, show (st ++ [(aa, hh)]).getD i (0, 0) = (aa, hh) by rw [← hsl]; simp, ← e]
        rw [unhide HNB] at HTB2
        have hss := hsmk.1
        clear HK HOS HBL HTN HTB HAI HJ htg HC1 HC2 HBOX HR1 HT HBU HB2
        have HPOST : Hid (∀ v, Below wr.heap.size wr v → v.cell? ⟨wo.heap.size, 0, none⟩ = some (.int .i64 xk) ∧ v.cell? ⟨wo.heap.size, 1, none⟩ = some (.int .i64 xn) ∧ v.cell? ⟨wo.heap.size, 2, none⟩ = some (.int .i64 xm) ∧ v.cell? ⟨wo.heap.size, 3, none⟩ = some (.string xs) ∧ v.cell? ⟨wo.heap.size, 4, none⟩ = some (.slice s1 n1 c1) ∧ v.cell? ⟨wo.heap.size, 5, none⟩ = some (.slice s2 n2 c2) ∧ v.cell? ⟨w.heap.size, 0, none⟩ = some (.slice (some ⟨b, off, none⟩) n cap)) := fun v hv => by
          obtain ⟨f0, f1, f2, f3, f4, f5⟩ := ((unhide HBOX2).below (by omega) hv).all
          exact ⟨f0, f1, f2, f3, f4, f5, (hv.cell (p := ⟨w.heap.size, 0, none⟩) (by show w.heap.size < _; omega)).trans ct2⟩
        obtain ⟨s, hs⟩ : ∃ s, sortK xk = s := ⟨_, rfl⟩
        have HS := hide (fun W => sortOk xk s hs W)
        clear c1' c2' c3 c4
        by_cases hs0' : s = 0
        · subst hs0'
          have HE : Hid (false = r) := unhide HTB2 (by rw [decide_eq_false (by rw [hs]; simp)]; rfl)
          clear HTB2 HNB HPOST hs
          go_wp2_with (first | (go_at_call 24; refine (unhide HS _).mono ?_; rintro e w5 ⟨rfl, hw5⟩; obtain rfl := hw5.symm))
          go_ret
          exact ⟨ret_bool (unhide HE), unhide HBW3⟩
        have hsf := ne_false hs0'
        have hrg := sort_range (k := xk) (by rw [hs]; exact hs0')
        have hlb : ((i : Int) == (n : Int) - 1) = decide (i + 1 = n) := by
          by_cases e : i + 1 = n
          · rw [decide_eq_true e]; simp; omega
          · rw [decide_eq_false e]; simp; omega
        have hkb : (xk == 25) = decide (xk = 25) := by
          by_cases e : xk = 25
          · rw [decide_eq_true e]; simpa using e
          · rw [decide_eq_false e]; simpa using e
        by_cases hbi : (xk = 25 ↔ i + 1 = n)
        case neg =>
          have HE : Hid (false = r) := unhide HTB2 (by rw [decide_eq_false (fun hh => hbi hh.2)]; rfl)
          clear HTB2 HNB HPOST
          by_cases e1 : xk = 25
          · have e2 : ¬ i + 1 = n := fun e => hbi ⟨fun _ => e, fun _ => e1⟩
            rw [decide_eq_false e2] at hlb
            rw [decide_eq_true e1] at hkb
            clear hbi e1 e2 hs
            go_wp2_with (first | (go_at_call 24; refine (unhide HS _).mono ?_; rintro e w5 ⟨rfl, hw5⟩; obtain rfl := hw5.symm))
            go_ret
            exact ⟨ret_bool (unhide HE), unhide HBW3⟩
          · have e2 : i + 1 = n := Classical.byContradiction fun e => hbi ⟨fun h => absurd h e1, fun h => absurd h e⟩
            rw [decide_eq_true e2] at hlb
            rw [decide_eq_false e1] at hkb
            clear hbi e1 e2 hs
            go_wp2_with (first | (go_at_call 24; refine (unhide HS _).mono ?_; rintro e w5 ⟨rfl, hw5⟩; obtain rfl := hw5.symm))
            go_ret
            exact ⟨ret_bool (unhide HE), unhide HBW3⟩
        rw [decide_eq_true (show sortK xk ≠ 0 ∧ (xk = 25 ↔ i + 1 = n) from ⟨by rw [hs]; exact hs0', hbi⟩), Bool.true_and] at HNB HTB2
        obtain ⟨bb, hbb⟩ : ∃ bb, decide (xk = 25) = bb := ⟨_, rfl⟩
        have hbb2 : decide (i + 1 = n) = bb := by rw [← hbb]; exact decide_eq_decide.2 hbi.symm
        rw [hbb] at hkb
        rw [hbb2] at hlb
        clear hbb hbb2 hs
        have HKC0 := hide (l2KidsOk_any xk (wo.heap.size + 1) 0 n2 ks wr hrg ((unhide HBK).row hkd (by omega)))
        cases hkq : kidsB xk ks with
        | false =>
          rw [hkq] at HTB2 HKC0
          have HKC := HKC0
          have HE : Hid (false = r) := unhide HTB2 rfl
          clear HTB2 HNB hkq
          all_goals
            go_wp2_with (first | (go_at_call 24; refine (unhide HS _).mono ?_; rintro e w5 ⟨rfl, hw5⟩; obtain rfl := hw5.symm) | (go_at_call 25; refine (unhide HKC).mono ?_; rintro e w5 ⟨rfl, hb5⟩; have HB5 := hide hb5; obtain ⟨f0, f1, f2, f3, f4, f5, f6⟩ := unhide HPOST _ hb5; clear hb5))
            go_ret
            exact ⟨ret_bool (unhide HE), (unhide HBW3).trans ((unhide HB5).mono (unhide HBW3).size)⟩
        | true =>
          rw [hkq, Bool.true_and] at HTB2 HNB
          rw [hkq] at HKC0
          have HKC := HKC0
          have HFC0 : Hid (∀ W, Below wr.heap.size wr W → Calls Tryz.prog 26 #[.agg #[.int .i64 xk, .int .i64 xn, .int .i64 xm, .string xs, .slice s1 n1 c1, .slice s2 n2 c2]] W fun e w' => e = .returned (.bool (fieldsS txtB ⟨xk, xn, xm, xs, (node ns i).nums, kids⟩)) ∧ Below W.heap.size W w') := fun W hW => unhide HFS xk xn xm xs s1 s2 n1 c1 n2 c2 (node ns i).nums kids W hrg hss ((unhide HR13).below (Nat.le_refl _) hW)
          cases hfq : fieldsS txtB ⟨xk, xn, xm, xs, (node ns i).nums, kids⟩ with
          | false =>
            rw [hfq] at HTB2 HFC0
            have HFC := HFC0
            have HE : Hid (false = r) := unhide HTB2 rfl
            clear HTB2 HNB hfq
            all_goals
              go_wp2_with (first | (go_at_call 24; refine (unhide HS _).mono ?_; rintro e w5 ⟨rfl, hw5⟩; obtain rfl := hw5.symm) | (go_at_call 25; refine (unhide HKC).mono ?_; rintro e w5 ⟨rfl, hb5⟩; have HB5 := hide hb5; obtain ⟨f0, f1, f2, f3, f4, f5, f6⟩ := unhide HPOST _ hb5; clear hb5) | (go_at_call 26; refine (unhide HFC _ (unhide HB5)).mono ?_; rintro e w6 ⟨rfl, hb6⟩; have HB6 := hide ((unhide HB5).trans (hb6.mono (unhide HB5).size)); clear hb6 f0 f1 f2 f3 f4 f5 f6; obtain ⟨f0, f1, f2, f3, f4, f5, f6⟩ := unhide HPOST _ (unhide HB6)))
              go_ret
              exact ⟨ret_bool (unhide HE), (unhide HBW3).trans ((unhide HB6).mono (unhide HBW3).size)⟩
          | true =>
            rw [hfq, Bool.true_and] at HTB2 HNB
            rw [hfq] at HFC0
            have HFC := HFC0
            by_cases h40 : hh ≤ 40
            case neg =>
              have h40i : (40 : Int) < (hh : Int) := by omega
              have HE : Hid (false = r) := unhide HTB2 (by rw [decide_eq_false h40]; rfl)
              clear HTB2 HNB hfq
              all_goals
                go_wp2_with (first | (go_at_call 24; refine (unhide HS _).mono ?_; rintro e w5 ⟨rfl, hw5⟩; obtain rfl := hw5.symm) | (go_at_call 25; refine (unhide HKC).mono ?_; rintro e w5 ⟨rfl, hb5⟩; have HB5 := hide hb5; obtain ⟨f0, f1, f2, f3, f4, f5, f6⟩ := unhide HPOST _ hb5; clear hb5) | (go_at_call 26; refine (unhide HFC _ (unhide HB5)).mono ?_; rintro e w6 ⟨rfl, hb6⟩; have HB6 := hide ((unhide HB5).trans (hb6.mono (unhide HB5).size)); clear hb6 f0 f1 f2 f3 f4 f5 f6; obtain ⟨f0, f1, f2, f3, f4, f5, f6⟩ := unhide HPOST _ (unhide HB6)))
                go_ret
                exact ⟨ret_bool (unhide HE), (unhide HBW3).trans ((unhide HB6).mono (unhide HBW3).size)⟩
            have h40i : ¬ (40 : Int) < (hh : Int) := by omega
            rw [decide_eq_true h40, Bool.true_and] at HTB2 HNB
            clear hfq
            go_wp2_with (first | (go_at_call 24; refine (unhide HS _).mono ?_; rintro e w5 ⟨rfl, hw5⟩; obtain rfl := hw5.symm) | (go_at_call 25; refine (unhide HKC).mono ?_; rintro e w5 ⟨rfl, hb5⟩; have HB5 := hide hb5; obtain ⟨f0, f1, f2, f3, f4, f5, f6⟩ := unhide HPOST _ hb5; clear hb5) | (go_at_call 26; refine (unhide HFC _ (unhide HB5)).mono ?_; rintro e w6 ⟨rfl, hb6⟩; have HB6 := hide ((unhide HB5).trans (hb6.mono (unhide HB5).size)); clear hb6 f0 f1 f2 f3 f4 f5 f6; obtain ⟨f0, f1, f2, f3, f4, f5, f6⟩ := unhide HPOST _ (unhide HB6)))
            obtain ⟨bs, hbs⟩ : ∃ x, (decide (xk = 23) && !selB ns (kidN (node ns i) 0)) = x := ⟨_, rfl⟩
            have HBF : Hid (bs = true → false = r) := fun h => unhide HTB2 (by
              rw [← hbs, Bool.and_eq_true, decide_eq_true_eq] at h
              have h2 : selB ns (kidN (node ns i) 0) = false := by simpa using h.2
              rw [h2, h.1]
              rfl)
            have HBT : Hid (bs = false → nodeB txtB ns (st ++ [(aa, hh)]) i = true) := fun h => by
              rw [unhide HNB]
              rw [← hbs] at h
              by_cases e : xk = 23
              · rw [decide_eq_true e, Bool.true_and] at h
                have h2 : selB ns (kidN (node ns i) 0) = true := by simpa using h
                rw [h2, Bool.or_true]
              · rw [decide_eq_true (show xk ≠ 23 from e), Bool.true_or]
            have HBS := hide hbs
            clear HTB2 HNB f1 f2 f3 f4 HFC HFC0 HKC HKC0 HS HBK hbs
            go_cut [131] (fun v wx => v = .bool bs ∧ Hid (Below wr.heap.size wr wx))
            case first =>
              by_cases h23 : xk = 23
              · have hkl : n2 = 2 := by
                  rw [h23] at hkq
                  have h' : fits [101, 101] ks = true := hkq
                  rw [kfit2, Bool.and_eq_true, decide_eq_true_eq] at h'
                  omega
                subst h23
                have hkz := ord_kids (unhide HOS2) (i := i) (by omega) 0 (by rw [unhide HKIDS]; omega)
                have HSO := hide (sel_ok (unhide HO) (unhide HA) (z := kidN (node ns i) 0) (by unfold kidN; omega))
                have hkz2 : kids.getD 0 0 = ((kidN (node ns i) 0 : Nat) : Int) := by unfold kidN; rw [unhide HKIDS] at hkz ⊢; omega
                have hkz3 : kidN (node ns i) 0 < n := by unfold kidN; omega
                have hbs2 : (!selB ns (kidN (node ns i) 0)) = bs := by have := unhide HBS; simpa using this
                obtain ⟨b2, o2, rfl, hb2l, hcq⟩ := (unhide HR23).get (k := 0) (by omega)
                have hcq6 := ((unhide HB6).cell (p := ⟨b2, o2 + 0, none⟩) hb2l).trans hcq
                rw [Nat.add_zero, hkz2] at hcq6
                have HSC : Hid (∀ W, Below wr.heap.size wr W → Calls Tryz.prog 27 #[.slice (some ⟨b, off, none⟩) n cap, .int .i64 ((kidN (node ns i) 0 : Nat) : Int)] W fun e w' => e = .returned (.bool (!bs)) ∧ Below W.heap.size W w') := fun W hW => by
                  rw [← hbs2, Bool.not_not]
                  exact l2Selects_any _ n cap ns W ((unhide HNR3).below (Nat.le_refl _) hW).weak _ hkz3 (unhide HSO)
                obtain ⟨z0, hz0⟩ : ∃ z, kidN (node ns i) 0 = z := ⟨_, rfl⟩
                rw [hz0] at hcq6 HSC
                have hn20 : (0 : Int) < (n2 : Int) := by omega
                clear hkz hkz2 hkz3 hbs2 hz0 HSO hcq hkq hkl
                go_region_with (go_at_call 27; refine (unhide HSC _ (unhide HB6).drew).mono ?_; rintro e w7 ⟨rfl, hb7⟩; have HB7 := hide ((unhide HB6).drew.trans (hb7.mono (unhide HB6).size)); clear hb7)
                all_goals go_wp2_with fail
                all_goals (go_meet; case rel => exact ⟨by simp, unhide HB7⟩)
              · have h23f := ne_false h23
                have hbs2 : bs = false := by rw [← unhide HBS, decide_eq_false h23]; rfl
                subst hbs2
                clear h23 HBF HBT HBS HPOST
                go_quiet (fail)
                go_wp2_with fail
                go_meet
                case rel => exact ⟨rfl, Below.drewN (unhide HB6) _⟩
            case rest =>
              obtain ⟨rfl, HB7⟩ := hcut
              obtain ⟨WW, hWW⟩ : ∃ x, x = wc := ⟨_, rfl⟩
              subst hWW
              cases bs with
              | true =>
                have HE : Hid (false = r) := unhide HBF rfl
                clear HBF HBT HBS
                go_wp2_with fail
                go_ret
                exact ⟨ret_bool (unhide HE), (unhide HBW3).trans ((unhide HB7).mono (unhide HBW3).size)⟩
              | false =>
                have HN2 := hide (unhide HBT rfl)
                have HT6 := hide ((unhide HT3).below (unhide HB7))
                obtain ⟨i0, hi, hz0, hz1, hz2⟩ := info_parts info_int
                clear HBF HBT HBS HPOST
                go_wp2_with (first | (have hz9 := HT7; clear hz9; (at_builtin; refine wpList_append_lies _ rfl _ _ 45 rfl Q.heap.size 3 i0 (.int .i64 0) 1 8 Tryz.underlying45 hi hz0 hz1 hz2 rfl (by decide) _ _ _ rfl (ownsB_below (unhide HT7).o2 (Nat.le_refl _) ((Below.refl _ _).alloc (Nat.le_refl _) _)) ⟨w7.heap.size, 0, none⟩ 1 1 [.int .i64 (hh : Nat)] rfl rfl (newCells _ _) (oneOne _) (by omega) (by unfold maxLen; omega) (by omega) (by have := (unhide HT7).low.size; simp; omega) (w7.heap.size + 1) (by simp) ?_; intro g2' p2' w8 hown' hgrow hat hlt7; have HT8 := hide ((unhide HT7).push2 _ hown' hgrow hat); clear hown' hgrow hat hlt7)) | (at_builtin; refine wpList_append_lies _ rfl _ _ 45 rfl Q.heap.size 3 i0 (.int .i64 0) 1 8 Tryz.underlying45 hi hz0 hz1 hz2 rfl (by decide) _ _ _ rfl (ownsB_below (unhide HT6).o1 (Nat.le_refl _) ((Below.refl _ _).alloc (Nat.le_refl _) _)) ⟨WW.heap.size, 0, none⟩ 1 1 [.int .i64 ai] rfl rfl (newCells _ _) (oneOne _) (by omega) (by unfold maxLen; omega) (by omega) (by have := (unhide HT6).low.size; simp; omega) (WW.heap.size + 1) (by simp) ?_; intro g1' p1' w7 hown' hgrow hat hlt7; have HT7 := hide ((unhide HT6).push1 _ hown' hgrow hat); clear hown' hgrow hat hlt7))
                go_roundw
                case rel =>
                  have h8 := unhide HT8
                  rw [unhide HAIX, ← bgL_push st (aa, hh), ← tlL_push st (aa, hh)] at h8
                  exact ⟨i + 1, g1', p1', g2', p2', st ++ [(aa, hh)], by omega, by go_num, rfl, rfl, HOS2, nodes_push hsl (unhide HA) (unhide HN2), h8⟩
                case measure => simp [intOf]; omega
      obtain ⟨q, rfl⟩ : ∃ q, kk = q + 1 := ⟨kk - 1, by omega⟩
      have hjq : j = (q : Int) := by have := unhide HJ; omega
      subst hjq
      obtain ⟨b2, o2, rfl, hb2l, hcq⟩ := (unhide HR2).get (k := q) (by omega)
      rw [← unhide HC2 _ _ hb2l] at hcq
      have hq0 : (0 : Int) ≤ (q : Int) := by omega
      have hqn : (q : Int) < (n2 : Int) := by omega
      have HBW3 : Hid (Below w.heap.size w wr) := (unhide HBW).trans (((unhide HB2).mono (unhide HBW).size).trans ((unhide HBU).below (by omega) (fun k hk => by omega)))
      have haib : ai ≤ 1048576 := by have := unhide HAI; omega
      by_cases ha0 : ai < 1
      · have HE : Hid (false = r) := unhide HTN (by rw [unhide HOS, ← unhide HK, goK_bad (by have := unhide HAI; omega)]; rfl)
        clear HK HBL HAI HJ
        go_wp2_with fail
        go_ret
        exact ⟨ret_bool (unhide HE), unhide HBW3⟩
      obtain ⟨z, hz⟩ : ∃ z, kids.getD q 0 = z := ⟨_, rfl⟩
      rw [hz] at hcq
      by_cases hzn : z = ai - 1
      case neg =>
        have hd : (z != ai - 1) = true := by simpa using hzn
        have HE : Hid (false = r) := unhide HTN (by rw [unhide HOS, ← unhide HK, goK_bad (by have := unhide HAI; omega)]; rfl)
        clear HK HBL HAI HJ hz hzn
        go_wp2_with fail
        go_ret
        exact ⟨ret_bool (unhide HE), unhide HBW3⟩
      obtain ⟨y, hy⟩ : ∃ y, aa = y + 1 := ⟨aa - 1, by have := unhide HAI; omega⟩
      have hzy : z = (y : Int) := by have := unhide HAI; omega
      have hd : ((y : Int) != ai - 1) = false := by simp; omega
      rw [hzy] at hcq hz
      have HK2 : Hid (goK st kids q (st.getD y (0, 0)).1 (max hh ((st.getD y (0, 0)).2 + 1)) = tgt) := by
        have := unhide HK
        rw [hy, goK_ok hz] at this
        exact this
      have hyi : y < i := by omega
      have hyn : (y : Int) < (n : Int) := by omega
      have hyi' : (y : Int) < (i : Int) := by omega
      obtain ⟨b3, off3, e3', _, _, _, _, _, _, _, y0, _, _, _, _, _, _, _⟩ := (unhide HNR).get (k := y) (by omega)
      cases e3'
      rw [← unhide HC2 _ _ hbl] at y0
      have t1 := (own_cell (unhide HT).o1 (i := y) hyi).1
      have t2 := (own_cell (unhide HT).o2 (i := y) hyi).1
      rw [bgL_get (by omega), ← unhide HC2 _ _ hg1] at t1
      rw [tlL_get (by omega), ← unhide HC2 _ _ hg2] at t2
      have hty := hhi y hyi
      have hbg := hle y hyi
      have hkq : (node ns y).k = ks.getD q 0 := by rw [unhide HKD q (by omega), hz]; rfl
      rw [hkq] at y0
      obtain ⟨ty, hty'⟩ : ∃ x, (st.getD y (0, 0)).2 = x := ⟨_, rfl⟩
      obtain ⟨bg, hbg'⟩ : ∃ x, (st.getD y (0, 0)).1 = x := ⟨_, rfl⟩
      rw [hty'] at t2 hty HK2
      rw [hbg'] at t1 hbg HK2
      obtain ⟨v, hv⟩ : ∃ x, ks.getD q 0 = x := ⟨_, rfl⟩
      rw [hv] at y0
      have hck := (unhide HBL).cell (i := q) (by rw [fillK_len (by omega)]; omega)
      have hfk := (unhide HBL).free q
      have HBL2 : Hid (Blk (wr.setCell ⟨wo.heap.size + 1, q, none⟩ (.int .i64 v)) (wo.heap.size + 1) (fillK ks q)) := by
        have := (unhide HBL).set q v
        rw [← hv, fillK_set (by omega), hv] at this
        exact this
      have HBU2 : Hid (But (fun x => x = wo.heap.size + 1) w1 (wr.setCell ⟨wo.heap.size + 1, q, none⟩ (.int .i64 v))) := (unhide HBU).setCell rfl _
      obtain ⟨uu, huu⟩ : ∃ x, (fillK ks (q + 1)).getD q 0 = x := ⟨_, rfl⟩
      rw [huu] at hck
      have n1' : ¬ g1 = wo.heap.size + 1 := by omega
      have n2' : ¬ g2 = wo.heap.size + 1 := by omega
      have n3' : ¬ b = wo.heap.size + 1 := by omega
      clear HK HBL HBU HAI HJ hz hzn hzy hy hkq hv huu hty' hbg' HBW3 HC2 HBOX2
      by_cases hcm : hh < ty + 1
      · have hcmi : (hh : Int) < (ty : Int) + 1 := by omega
        have hmx : max hh (ty + 1) = ty + 1 := by omega
        rw [hmx] at HK2
        go_wp2_with fail
        go_roundw
        case rel => exact ⟨q, bg, ty + 1, _, _, by omega, rfl, by go_num, rfl, rfl, rfl, by omega, by omega, HK2, HBL2, HBU2⟩
        case measure => simp [intOf]
      · have hcmi : ¬ (hh : Int) < (ty : Int) + 1 := by omega
        have hmx : max hh (ty + 1) = hh := by omega
        rw [hmx] at HK2
        go_wp2_with fail
        go_roundw
        case rel => exact ⟨q, bg, hh, _, _, by omega, rfl, rfl, rfl, rfl, rfl, by omega, by omega, HK2, HBL2, HBU2⟩
        case measure => simp [intOf]

end Go.Proofs.YtinndpnilmmmjaaGreatDoor
