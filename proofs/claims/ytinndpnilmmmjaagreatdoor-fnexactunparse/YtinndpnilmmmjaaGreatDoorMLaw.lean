import Derived.Test.YtinndpnilmmmjaaGreatDoorMTk
import Derived.Test.YtinndpnilmmmjaaGreatDoorMTok
import Derived.Test.YtinndpnilmmmjaaGreatDoorMBase
import Derived.Test.YtinndpnilmmmjaaGreatDoorMNode
import Derived.Test.YtinndpnilmmmjaaGreatDoorMIn
import Derived.Test.YtinndpnilmmmjaaGreatDoorMIt
namespace Go.Proofs.YtinndpnilmmmjaaGreatDoor
open Go.RowKit

/-- A mark as a text. -/
def mt (m : Nat) : ByteArray := bstr (109 :: decZ m)
def decP (x : Nat) : List Int := if x = 0 then [] else decZ x

theorem decP_step {x : Nat} (h : x ≠ 0) : decP x = decP (x / 10) ++ [48 + ((x % 10 : Nat) : Int)] := by
  unfold decP
  rw [if_neg h]
  by_cases h10 : x < 10
  · rw [if_pos (by omega), decZ_small h10, show x % 10 = x by omega]; rfl
  · rw [if_neg (by omega), decZ_big h10]

set_option maxRecDepth 20000 in
set_option maxHeartbeats 2000000 in
theorem markText_any (m : Nat) (h1 : 1 ≤ m) (hm : m ≤ 1000000000000000) (w : World) : Calls Tryz.prog 86 #[.int .i64 (m : Nat)] w fun e w' => e = .returned (.string (mt m)) ∧ Below w.heap.size w w' := by
  have h0 : ¬ (m : Int) ≤ 0 := by omega
  have HP : Hid (decZ m = decP m) := by show _ = _; unfold decP; rw [if_neg (by omega)]
  go_enter Tryz.func86, Tryz.ntmps86
  go_wp2_with fail
  go_loopw [0, 3] (fun a b wr => ∃ (x : Nat) (l : List Int), a = .int .i64 x ∧ b = .string (bstr l) ∧ x ≤ 1000000000000000 ∧ Hid (decZ m = decP x ++ l) ∧ Hid (Below w.heap.size w wr)) (fun a _ _ => (intOf a).toNat)
  case atStart => exact ⟨m, [], rfl, rfl, hm, (by show _ = _; rw [List.append_nil]; exact unhide HP), Below.refl _ _⟩
  case round =>
    obtain ⟨x, l, rfl, rfl, hx, HK, HB⟩ := hrel
    have hln : l.length ≤ 16 := by
      have h1 := congrArg List.length (unhide HK)
      have h2 := decZ_le 15 m (by omega)
      rw [List.length_append] at h1
      omega
    by_cases hz : x = 0
    · subst hz
      have hno : ¬ 9223372036854775807 < (ByteArray.mk #[109]).size + (bstr l).size := by rw [bstr_size, show (ByteArray.mk #[109]).size = 1 from rfl]; omega
      have hap : (ByteArray.mk #[109]) ++ bstr l = bstr (109 :: l) := bstr_app [109] l
      have HR : Hid (bstr (109 :: l) = mt m) := by show _ = _; unfold mt; rw [unhide HK]; rfl
      go_wp2_with fail
      go_ret
      exact ⟨by rw [unhide HR]; rfl, unhide HB⟩
    · have hzi : 0 < (x : Int) := by omega
      obtain ⟨y, hy⟩ : ∃ y, x / 10 = y := ⟨_, rfl⟩
      obtain ⟨r, hr⟩ : ∃ r, x % 10 = r := ⟨_, rfl⟩
      have ey : (x : Int).tdiv 10 = (y : Int) := by rw [Int.tdiv_eq_ediv_of_nonneg (by omega)]; omega
      have ey2 : (x : Int) / 10 = (y : Int) := by omega
      have er : (x : Int).tmod 10 = (r : Int) := by rw [Int.tmod_eq_emod_of_nonneg (by omega)]; omega
      have er2 : (x : Int) % 10 = (r : Int) := by omega
      obtain ⟨A, hA⟩ : ∃ A, 48 + r = A := ⟨_, rfl⟩
      have eA : 48 + (r : Int) = (A : Int) := by omega
      have hA8 : A < 256 := by omega
      have wA : IntKind.u8.wrap (A : Int) = (A : Int) := byteN rfl hA8
      have hcv := conv_one wr A hA8
      have hno : ¬ 9223372036854775807 < (bstr [(A : Int)]).size + (bstr l).size := by rw [bstr_size, bstr_size]; simp; omega
      have hap : bstr [(A : Int)] ++ bstr l = bstr ((A : Int) :: l) := bstr_app _ _
      have HN : Hid (decZ m = decP y ++ ((A : Int) :: l)) := by show _ = _; rw [unhide HK, decP_step hz, hy, hr, eA]; simp
      have hsz := (unhide HB).size
      have hyx : y < x := by omega
      clear hA hy hr hz
      go_wp2_with fail
      go_roundw
      case rel => exact ⟨y, (A : Int) :: l, by go_num, rfl, by omega, HN, (unhide HB).alloc hsz _⟩
      case measure => simp [intOf]; omega

end Go.Proofs.YtinndpnilmmmjaaGreatDoor
namespace Go.Proofs.YtinndpnilmmmjaaGreatDoor
open Go.RowKit

set_option maxHeartbeats 400000 in
theorem markIntS_any (a : Option Addr) (n cap B : Nat) (zs : List Int) (k : Int) (w : World) (h : Own w B a n zs) (hk0 : 0 ≤ k) (hk : k ≤ 4611686018427387904) :
    Calls Tryz.prog 87 #[.slice a n cap, .int .i64 k] w fun e w' => e = .returned (.int .i64 (k + n)) ∧ Own w' B a n (marks k n) ∧ But (At a n) w w' := by
  obtain ⟨hlen, hsm, hat⟩ := h
  go_enter Tryz.func87, Tryz.ntmps87
  go_wp2
  go_loopw [1, 5] (fun c i wr => ∃ j : Nat, j ≤ n ∧ i = .int .i64 j ∧ c = .int .i64 (k + j) ∧ But (At a n) w wr ∧
    (n = 0 ∨ ∃ g off, a = some ⟨g, off, none⟩ ∧ B ≤ g ∧ g < wr.heap.size ∧ (∀ i, i < j → wr.cell? ⟨g, off + i, none⟩ = some (.int .i64 (k + i))) ∧ (∀ i, i < n → (wr.cell? ⟨g, off + i, none⟩).isSome = true) ∧ (∀ i, i < n → wr.frozen? ⟨g, off + i, none⟩ = false))) (fun _ i _ => n - (intOf i).toNat)
  case atStart =>
    refine ⟨0, Nat.zero_le _, rfl, by simp, But.refl _ _, ?_⟩
    rcases hat with h0 | ⟨g, off, rfl, hg, hlt, hc, hf⟩
    · exact .inl h0
    · exact .inr ⟨g, off, rfl, hg, hlt, fun i hi => absurd hi (Nat.not_lt_zero _), fun i hi => by rw [hc i hi]; rfl, hf⟩
  case round =>
    obtain ⟨j, hj, rfl, rfl, hbut, hst⟩ := hrel
    by_cases hlt : j < n
    · rcases hst with h0 | ⟨g, off, rfl, hg, hgl, hc, hs, hf⟩
      · omega
      · clear hat
        have hs1 := hs j hlt
        have hf1 := hf j hlt
        obtain ⟨u, hu⟩ := Option.isSome_iff_exists.mp hs1
        have HB := hide hbut
        have HS := hide hs
        have HF := hide hf
        have HC := hide hc
        clear hbut hs hf hc
        go_wp2
        go_roundw
        case rel =>
          refine ⟨j + 1, by omega, by go_num, by go_num, (unhide HB).setCell (at_self (by omega)) _, .inr ⟨g, off, rfl, hg, by simpa using hgl, fun i hi => ?_, fun i hi => ?_, fun i hi => ?_⟩⟩
          · by_cases hij : i = j
            · subst hij
              exact World.cell?_setCell_same _ _ _ hu
            · rw [World.cell?_setCell_other _ _ _ _ (by simp <;> omega)]
              exact unhide HC i (by omega)
          · by_cases hij : i = j
            · subst hij
              rw [World.cell?_setCell_same _ _ _ hu]; rfl
            · rw [World.cell?_setCell_other _ _ _ _ (by simp <;> omega)]
              exact unhide HS i hi
          · simpa using unhide HF i hi
        case measure => simp [intOf]; omega
    · have hjn : j = n := by omega
      subst hjn
      have HB := hide hbut
      have HT := hide hst
      clear hbut hst hat
      go_wp2
      go_ret
      refine ⟨rfl, ⟨marks_len _ _, hsm, ?_⟩, unhide HB⟩
      rcases unhide HT with h0 | ⟨g, off, rfl, hg, hgl, hc, hs, hf⟩
      · exact .inl h0
      · exact .inr ⟨g, off, rfl, hg, hgl, fun i hi => by rw [marks_get _ _ _ hi]; exact hc i hi, hf⟩

end Go.Proofs.YtinndpnilmmmjaaGreatDoor
namespace Go.Proofs.YtinndpnilmmmjaaGreatDoor
open Go.RowKit

/-- How the marking of nodes stands: j are marked. -/
structure MkN (w wr : World) (g n H j : Nat) (ns : List NodeD) (s1 s2 : Nat → Nat) : Prop where
  but : But (fun x => g ≤ x ∧ x < H) w wr
  row : ∃ f, wr.rowIs g 47 (n * 6) f ∧ ∀ i, j ≤ i → i < n → f (i * 6 + 4) = .slice (some ⟨s1 i, 0, none⟩) (node ns i).nums.length (node ns i).nums.length ∧ f (i * 6 + 5) = .slice (some ⟨s2 i, 0, none⟩) (node ns i).kids.length (node ns i).kids.length
  blk : ∀ i, j ≤ i → i < n → Blk wr (s1 i) (node ns i).nums ∧ Blk wr (s2 i) (node ns i).kids

/-- The node's four cells, and what they may hold. -/
theorem MkN.cells {w wr : World} {g n H j : Nat} {ns : List NodeD} {s1 s2 : Nat → Nat} (h : MkN w wr g n H j ns s1 s2) (hj : j < n) (v0 v1 v2 : Value) :
    (∃ u0 u1 u2, wr.cell? ⟨g, j * 6, none⟩ = some u0 ∧ wr.frozen? ⟨g, j * 6, none⟩ = false ∧ (wr.setCell ⟨g, j * 6, none⟩ v0).cell? ⟨g, j * 6 + 1, none⟩ = some u1 ∧ (wr.setCell ⟨g, j * 6, none⟩ v0).frozen? ⟨g, j * 6 + 1, none⟩ = false ∧ ((wr.setCell ⟨g, j * 6, none⟩ v0).setCell ⟨g, j * 6 + 1, none⟩ v1).cell? ⟨g, j * 6 + 2, none⟩ = some u2 ∧ ((wr.setCell ⟨g, j * 6, none⟩ v0).setCell ⟨g, j * 6 + 1, none⟩ v1).frozen? ⟨g, j * 6 + 2, none⟩ = false) ∧
    ∃ f, (((wr.setCell ⟨g, j * 6, none⟩ v0).setCell ⟨g, j * 6 + 1, none⟩ v1).setCell ⟨g, j * 6 + 2, none⟩ v2).rowIs g 47 (n * 6) f ∧ ∀ i, j ≤ i → i < n → f (i * 6 + 4) = .slice (some ⟨s1 i, 0, none⟩) (node ns i).nums.length (node ns i).nums.length ∧ f (i * 6 + 5) = .slice (some ⟨s2 i, 0, none⟩) (node ns i).kids.length (node ns i).kids.length := by
  obtain ⟨f, hr, hf⟩ := h.row
  have r1 := hr.set (j * 6) v0
  have r2 := r1.set (j * 6 + 1) v1
  have r3 := r2.set (j * 6 + 2) v2
  refine ⟨⟨_, _, _, hr.cell (by omega), hr.frozen _, r1.cell (by omega), r1.frozen _, r2.cell (by omega), r2.frozen _⟩, _, r3, fun i hi hin => ?_⟩
  have := hf i hi hin
  rw [if_neg (by omega), if_neg (by omega), if_neg (by omega), if_neg (by omega), if_neg (by omega), if_neg (by omega)]
  exact this

/-- The nodes' block while it is marked, the lists from j on still there. -/
def MkR (W : World) (g n j : Nat) (ns : List NodeD) (s1 s2 : Nat → Nat) : Prop := ∃ f, W.rowIs g 47 (n * 6) f ∧ ∀ i, j ≤ i → i < n → f (i * 6 + 4) = .slice (some ⟨s1 i, 0, none⟩) (node ns i).nums.length (node ns i).nums.length ∧ f (i * 6 + 5) = .slice (some ⟨s2 i, 0, none⟩) (node ns i).kids.length (node ns i).kids.length

theorem MkR.lt' {W : World} {g n j : Nat} {ns : List NodeD} {s1 s2 : Nat → Nat} (h : MkR W g n j ns s1 s2) : g < W.heap.size := by
  obtain ⟨f, hr, _⟩ := h
  exact hr.lt

theorem mkn_row {W : World} {g n j : Nat} {ns : List NodeD} {s1 s2 : Nat → Nat} {f : Nat → Value} (hr : W.rowIs g 47 (n * 6) f) (hf : ∀ i, j ≤ i → i < n → f (i * 6 + 4) = .slice (some ⟨s1 i, 0, none⟩) (node ns i).nums.length (node ns i).nums.length ∧ f (i * 6 + 5) = .slice (some ⟨s2 i, 0, none⟩) (node ns i).kids.length (node ns i).kids.length) (hj : j < n) (v : Value) :
    (W.setCell ⟨g, j * 6 + 3, none⟩ v).cell? ⟨g, j * 6 + 4, none⟩ = some (.slice (some ⟨s1 j, 0, none⟩) (node ns j).nums.length (node ns j).nums.length) ∧ Hid (MkR (W.setCell ⟨g, j * 6 + 3, none⟩ v) g n j ns s1 s2) := by
  have h1 := hr.set (j * 6 + 3) v
  refine ⟨?_, _, h1, fun i hi hin => ?_⟩
  · rw [h1.cell (by omega)]
    show some (if j * 6 + 4 = j * 6 + 3 then v else f (j * 6 + 4)) = _
    rw [if_neg (by omega), (hf j (Nat.le_refl _) hj).1]
  · have := hf i hi hin
    show (if i * 6 + 4 = j * 6 + 3 then v else f (i * 6 + 4)) = _ ∧ (if i * 6 + 5 = j * 6 + 3 then v else f (i * 6 + 5)) = _
    rw [if_neg (by omega), if_neg (by omega)]
    exact this

theorem mkn_cell {W W' : World} {g n j : Nat} {ns : List NodeD} {s1 s2 : Nat → Nat} (h : MkR W g n j ns s1 s2) (hb : W'.heap[g]? = W.heap[g]?) (hj : j < n) :
    ∃ f, W'.rowIs g 47 (n * 6) f ∧ W'.cell? ⟨g, j * 6 + 5, none⟩ = some (.slice (some ⟨s2 j, 0, none⟩) (node ns j).kids.length (node ns j).kids.length) ∧ Hid (∀ i, j ≤ i → i < n → f (i * 6 + 4) = .slice (some ⟨s1 i, 0, none⟩) (node ns i).nums.length (node ns i).nums.length ∧ f (i * 6 + 5) = .slice (some ⟨s2 i, 0, none⟩) (node ns i).kids.length (node ns i).kids.length) := by
  obtain ⟨f, hr, hf⟩ := h
  have h1 := hr.of_block hb
  exact ⟨f, h1, by rw [h1.cell (by omega), (hf j (Nat.le_refl _) hj).2], hf⟩

set_option maxRecDepth 20000 in
set_option maxHeartbeats 2000000 in
theorem markNodeS_any (g n cap H : Nat) (ns : List NodeD) (w : World) (h : NNew w g n H ns) :
    Calls Tryz.prog 41 #[.slice (some ⟨g, 0, none⟩) n cap, .int .i64 1] w fun e w' => (∃ r : Nat, e = .returned (.int .i64 (r : Nat))) ∧ But (fun x => g ≤ x ∧ x < H) w w' := by
  obtain ⟨hgH, hln, hn, hsm, f0, s1, s2, hM⟩ := h
  have HLOW := hide hM.low
  have HAP := hide hM.apart
  have HS0 : Hid (MkN w w g n H 0 ns s1 s2) := ⟨But.refl _ _, ⟨f0, hM.row, fun i _ hi => ⟨(hM.cells i hi).2.2.2.2.1, (hM.cells i hi).2.2.2.2.2⟩⟩, fun i _ hi => hM.blk i hi⟩
  have HSM := hide hsm
  clear hM hsm
  go_enter Tryz.func41, Tryz.ntmps41
  go_wp2_with fail
  go_loopw [1, 5] (fun c i wr => ∃ j x : Nat, j ≤ n ∧ i = .int .i64 (j : Nat) ∧ c = .int .i64 (x : Nat) ∧ x ≤ 1 + j * 2097160 ∧ 1 ≤ x ∧ Hid (MkN w wr g n H j ns s1 s2)) (fun _ i _ => n - (intOf i).toNat)
  case atStart => exact ⟨0, 1, Nat.zero_le _, rfl, rfl, by omega, by omega, HS0⟩
  case round =>
    obtain ⟨j, x, hj, rfl, rfl, hx, hx1, HS⟩ := hrel
    clear HS0
    by_cases hlt : j < n
    case neg =>
      have he : j = n := by omega
      subst he
      have hlti : ¬ (j : Int) < (j : Int) := by omega
      go_wp2_with fail
      go_ret
      exact ⟨⟨x, rfl⟩, (unhide HS).but⟩
    case pos =>
      have hlti : (j : Int) < (n : Int) := by omega
      have hxb : x ≤ 1 + 1048576 * 2097160 := Nat.le_trans hx (by have : j * 2097160 ≤ 1048576 * 2097160 := Nat.mul_le_mul_right _ (by omega); omega)
      obtain ⟨⟨u0, u1, u2, a0, z0, a1, z1, a2, z2⟩, f3, hr3, hf3⟩ := (unhide HS).cells hlt (.int .i64 (x : Nat)) (.int .i64 ((x : Int) + 1)) (.int .i64 ((x : Int) + 1 + 1))
      have HR3 := hide hr3
      have HF3 := hide hf3
      have HM : Hid (∀ W, Calls Tryz.prog 86 #[.int .i64 ((x : Int) + 1 + 1 + 1)] W fun e w' => e = .returned (.string (mt (x + 3))) ∧ Below W.heap.size W w') := hide fun W => by
        have := markText_any (x + 3) (by omega) (by omega) W
        exact this
      obtain ⟨T, hT⟩ : ∃ T, mt (x + 3) = T := ⟨_, rfl⟩
      rw [hT] at HM
      obtain ⟨lo1, lo2, lo3⟩ := unhide HLOW j hlt
      have hsj := unhide HSM j hlt
      obtain ⟨b1, b2⟩ := (unhide HS).blk j (Nat.le_refl _) hlt
      have HBUT := hide (unhide HS).but
      have HBLK := hide (unhide HS).blk
      obtain ⟨W3, hW3⟩ : ∃ W3, ((wr.setCell ⟨g, j * 6, none⟩ (.int .i64 (x : Nat))).setCell ⟨g, j * 6 + 1, none⟩ (.int .i64 ((x : Int) + 1))).setCell ⟨g, j * 6 + 2, none⟩ (.int .i64 ((x : Int) + 1 + 1)) = W3 := ⟨_, rfl⟩
      have HB3 : Hid (But (fun y => y = g) wr W3) := by
        rw [← hW3]
        show But (fun y => y = g) wr _
        exact (((But.refl (fun y => y = g) wr).setCell (p := ⟨g, j * 6, none⟩) rfl _).setCell (p := ⟨g, j * 6 + 1, none⟩) rfl _).setCell (p := ⟨g, j * 6 + 2, none⟩) rfl _
      rw [hW3] at HR3
      have HW3 := hide hW3
      clear hr3 hf3 hT hW3
      go_wp2_with (first | (go_at_call 86; rw [unhide HW3]; refine (unhide HM _).mono ?_; rintro e w5 ⟨rfl, hb5⟩; have hr5 := (unhide HR3).of_block (hb5.block g (unhide HR3).lt); have c53 := hr5.cell (i := j * 6 + 3) (by omega); have z53 := hr5.frozen (j * 6 + 3); obtain ⟨c64, HR6⟩ := mkn_row hr5 (unhide HF3) hlt (.string T); have HB6 : Hid (But (fun y => y = g) wr (w5.setCell ⟨g, j * 6 + 3, none⟩ (.string T))) := (((unhide HB3).trans (But.of_below (S := fun y => y = g) hb5)).mono (fun y hy => hy.elim id id)).setCell rfl _; have HK1 : Hid (Blk (w5.setCell ⟨g, j * 6 + 3, none⟩ (.string T)) (s1 j) (node ns j).nums) := ((unhide HB6).block (s1 j) b1.lt (by omega)).trans b1; have HK2 : Hid (Blk (w5.setCell ⟨g, j * 6 + 3, none⟩ (.string T)) (s2 j) (node ns j).kids) := ((unhide HB6).block (s2 j) b2.lt (by omega)).trans b2; clear hb5 hr5 HM))
      refine (markIntS_any (some ⟨s1 j, 0, none⟩) _ _ 0 _ _ _ ((unhide HK1).own rfl (by omega) (Nat.zero_le _)) (by omega) (by omega)).mono ?_
      rintro e w7 ⟨rfl, _, hb7⟩
      obtain ⟨f7, hr7, c75, HF7⟩ := mkn_cell (unhide HR6) (hb7.block g (unhide HR6).lt' (fun hh => absurd (at_eq hh) (by omega))) hlt
      have HK7 : Hid (Blk w7 (s2 j) (node ns j).kids) := (hb7.block (s2 j) (unhide HK2).lt (fun hh => absurd (at_eq hh) (by omega))).trans (unhide HK2)
      have HB7 := hide hb7
      have HR7 := hide hr7
      clear hb7 hr7 HK1 HK2
      go_wp2_with fail
      refine (markIntS_any (some ⟨s2 j, 0, none⟩) _ _ 0 _ _ _ ((unhide HK7).own rfl (by omega) (Nat.zero_le _)) (by omega) (by omega)).mono ?_
      rintro e w8 ⟨rfl, _, hb8⟩
      have HB8 := hide hb8
      clear hb8 HK7
      go_wp2_with fail
      go_roundw
      case rel =>
        refine ⟨j + 1, x + 4 + (node ns j).nums.length + (node ns j).kids.length, by omega, by go_num, by go_num, by omega, by omega, hide ?_⟩
        have hB1 : But (fun y => y = g ∨ At (some ⟨s1 j, 0, none⟩) (node ns j).nums.length y) wr w7 := (unhide HB6).trans (unhide HB7)
        have hB2 : But (fun y => (y = g ∨ At (some ⟨s1 j, 0, none⟩) (node ns j).nums.length y) ∨ At (some ⟨s2 j, 0, none⟩) (node ns j).kids.length y) wr w8 := hB1.trans (unhide HB8)
        have hin : ∀ y, ((y = g ∨ At (some ⟨s1 j, 0, none⟩) (node ns j).nums.length y) ∨ At (some ⟨s2 j, 0, none⟩) (node ns j).kids.length y) → y = g ∨ y = s1 j ∨ y = s2 j := fun y hy => by
          rcases hy with (h | h) | h
          · exact .inl h
          · exact .inr (.inl (at_eq h).symm)
          · exact .inr (.inr (at_eq h).symm)
        refine ⟨((unhide HBUT).trans (hB2.mono (T := fun y => g ≤ y ∧ y < H) (fun y hy => by have := hin y hy; omega))).mono (fun y hy => hy.elim id id), ?_, fun i hi hin' => ?_⟩
        · refine ⟨f7, (unhide HR7).of_block ((unhide HB8).block g (unhide HR7).lt (fun hh => absurd (at_eq hh) (by omega))), fun i hi hin' => unhide HF7 i (by omega) hin'⟩
        · obtain ⟨k1, k2⟩ := unhide HBLK i (by omega) hin'
          have ha := unhide HAP j i (by omega) hin'
          have hlo := unhide HLOW i hin'
          exact ⟨(hB2.block (s1 i) k1.lt (fun hh => by have := hin _ hh; omega)).trans k1, (hB2.block (s2 i) k2.lt (fun hh => by have := hin _ hh; omega)).trans k2⟩
      case measure => simp [intOf]; omega

end Go.Proofs.YtinndpnilmmmjaaGreatDoor
namespace Go.Proofs.YtinndpnilmmmjaaGreatDoor
open Go.RowKit

theorem take_stepB {xs ys : List Int} {n k : Nat} (hx : xs.length = n) (hy : ys.length = n) (hk : k < n) (h : xs.take k = ys.take k) (he : xs.getD k 0 = ys.getD k 0) : xs.take (k + 1) = ys.take (k + 1) := by
  have e1 : xs.getD k 0 = xs[k] := by simp [hx, hk]
  have e2 : ys.getD k 0 = ys[k] := by simp [hy, hk]
  rw [List.take_succ_eq_append_getElem (by omega), List.take_succ_eq_append_getElem (by omega), h, ← e1, ← e2, he]

theorem eqByteS_any (a b : Option Addr) (n m ca cb : Nat) (xs ys : List Int) (w : World) (hx : RowB w a n xs) (hy : RowB w b m ys) (hns : n ≤ 17592186044416) :
    Calls Tryz.prog 14 #[.slice a n ca, .slice b m cb] w fun e w' => e = .returned (.bool (decide (xs = ys))) ∧ ∃ q, w' = w.drewN q := by
  obtain ⟨hxl, hxa⟩ := hx
  obtain ⟨hyl, hya⟩ := hy
  by_cases hne : n = m
  · subst hne
    have hn : ((n : Int) != (n : Int)) = false := by simp
    go_enter Tryz.func14, Tryz.ntmps14
    go_wp2
    go_loopw [5] (fun i wr => ∃ k : Nat, k ≤ n ∧ i = .int .i64 k ∧ xs.take k = ys.take k ∧ ∃ q, wr = w.drewN q) (fun i _ => n - (intOf i).toNat)
    case atStart => exact ⟨0, Nat.zero_le _, rfl, rfl, 0, rfl⟩
    case round =>
      obtain ⟨k, hk, rfl, htk, q, rfl⟩ := hrel
      by_cases hlt : k < n
      · have ha : ∃ b off, a = some ⟨b, off, none⟩ ∧ w.cell? ⟨b, off + k, none⟩ = some (.int .u8 (xs.getD k 0)) := by
          rcases hxa with h0 | ⟨b, off, rfl, hlt', hc⟩
          · omega
          · exact ⟨b, off, rfl, hc k hlt⟩
        have hb : ∃ b' off, b = some ⟨b', off, none⟩ ∧ w.cell? ⟨b', off + k, none⟩ = some (.int .u8 (ys.getD k 0)) := by
          rcases hya with h0 | ⟨b, off, rfl, hlt', hc⟩
          · omega
          · exact ⟨b, off, rfl, hc k hlt⟩
        obtain ⟨b1, o1, rfl, hc1⟩ := ha
        obtain ⟨b2, o2, rfl, hc2⟩ := hb
        clear hxa hya
        obtain ⟨x, hx⟩ : ∃ x, x = xs.getD k 0 := ⟨_, rfl⟩
        obtain ⟨y, hy⟩ : ∃ y, y = ys.getD k 0 := ⟨_, rfl⟩
        rw [← hx] at hc1
        rw [← hy] at hc2
        have HX : Hid (x = xs.getD k 0) := hx
        have HY : Hid (y = ys.getD k 0) := hy
        have HT : Hid (xs.take k = ys.take k) := htk
        have HL : Hid (xs.length = n ∧ ys.length = n) := ⟨hxl, hyl⟩
        clear hx hy htk hxl hyl
        by_cases hxy : x = y
        · have hb : (x != y) = false := by simp [hxy]
          have HXY : Hid (x = y) := hxy
          clear hxy
          go_wp2
          go_quiet (fail)
          go_wp2
          go_roundw
          case rel => exact ⟨k + 1, by omega, by go_num, take_stepB HL.out.1 HL.out.2 hlt HT.out (HX.out.symm.trans (HXY.out.trans HY.out)), _, by first | rfl | exact World.drewN_drewN _ _ _⟩
          case measure => simp [intOf]; omega
        · have hb : (x != y) = true := by simp [hxy]
          have HN : Hid (¬ xs = ys) := fun e => hxy (by rw [HX.out, HY.out, e])
          clear hxy
          go_wp2
          go_quiet (fail)
          go_wp2
          go_ret
          exact ⟨ret_bool (decide_eq_false HN.out).symm, _, World.drewN_drewN _ _ _⟩
      · have hkn : k = n := by omega
        have HE : Hid (xs = ys) := by
          show xs = ys
          rwa [List.take_of_length_le (by omega), List.take_of_length_le (by omega)] at htk
        clear htk
        subst hkn
        go_wp2
        go_ret
        exact ⟨ret_bool (decide_eq_true HE.out).symm, _, rfl⟩
  · have hn : ((n : Int) != (m : Int)) = true := by simp; omega
    have HN : Hid (¬ xs = ys) := fun e => hne (by rw [← hxl, ← hyl, e])
    clear hne
    go_enter Tryz.func14, Tryz.ntmps14
    go_wp2
    go_ret
    exact ⟨ret_bool (decide_eq_false HN.out).symm, 0, rfl⟩

end Go.Proofs.YtinndpnilmmmjaaGreatDoor
namespace Go.Proofs.YtinndpnilmmmjaaGreatDoor
open Go.RowKit

theorem heldByteS_marks (a : Option Addr) (n cap : Nat) (k : Int) (w : World) (h : RowB w a n (marksB k n)) (hsm : n ≤ 17592186044416) (hk0 : 0 ≤ k) (hk : k ≤ 4611686018427387904) :
    Calls Tryz.prog 17 #[.slice a n cap, .int .i64 k] w fun e w' => e = .returned (.int .i64 (k + n)) ∧ w' = w := by
  obtain ⟨hlen, hat⟩ := h
  clear hlen
  go_enter Tryz.func17, Tryz.ntmps17
  go_wp2
  go_loop [1, 5] (fun c i => ∃ j : Nat, j ≤ n ∧ i = .int .i64 j ∧ c = .int .i64 (k + j)) (fun _ i => n - (intOf i).toNat)
  case atStart => exact ⟨0, Nat.zero_le _, rfl, by simp⟩
  case round =>
    obtain ⟨j, hj, rfl, rfl⟩ := hrel
    by_cases hlt : j < n
    · have ha : ∃ b off, a = some ⟨b, off, none⟩ ∧ w.cell? ⟨b, off + j, none⟩ = some (.int .u8 (IntKind.u8.wrap (k + j))) := by
        rcases hat with h0 | ⟨b, off, rfl, hlt', hc⟩
        · omega
        · exact ⟨b, off, rfl, by rw [← marksB_get k n j hlt]; exact hc j hlt⟩
      obtain ⟨b, off, rfl, hc⟩ := ha
      clear hat
      go_wp2
      go_round
      case rel => exact ⟨j + 1, by omega, by go_num, by go_num⟩
      case measure => simp [intOf]; omega
    · have hjn : j = n := by omega
      subst hjn
      clear hat
      go_wp2
      go_ret
      exact ⟨rfl, rfl⟩

end Go.Proofs.YtinndpnilmmmjaaGreatDoor
namespace Go.Proofs.YtinndpnilmmmjaaGreatDoor
open Go.RowKit

theorem eqByteS_same (a b : Option Addr) (n m ca cb : Nat) (xs : List Int) (w : World) (hx : RowB w a n xs) (hy : RowB w b m xs) (hn : n ≤ 17592186044416) :
    Calls Tryz.prog 14 #[.slice a n ca, .slice b m cb] w fun e w' => e = .returned (.bool true) ∧ Below w.heap.size w w' :=
  (eqByteS_any a b n m ca cb xs xs w hx hy hn).mono (by rintro e w' ⟨rfl, q, rfl⟩; exact ⟨by simp, Below.drewN (Below.refl _ _) _⟩)

theorem markTree_any (g n cap H : Nat) (ns : List NodeD) (w : World) (h : NNew w g n H ns) :
    Calls Tryz.prog 15 #[.agg #[.slice (some ⟨g, 0, none⟩) n cap], .int .i64 1] w fun e w' => (∃ r : Nat, e = .returned (.int .i64 (r : Nat))) ∧ But (fun x => g ≤ x ∧ x < H) w w' := by
  have HM := hide (markNodeS_any g n cap H ns _ (h.alloc (.cells #[.slice (some ⟨g, 0, none⟩) n cap] 29)))
  have HA : Hid (But (fun x => g ≤ x ∧ x < H) w (w.alloc (.cells #[.slice (some ⟨g, 0, none⟩) n cap] 29))) := But.of_below ((Below.refl _ _).alloc (Nat.le_refl _) _)
  clear h
  go_enter Tryz.func15, Tryz.ntmps15
  go_wp2_with (go_at_call 41; refine (unhide HM).mono ?_; rintro e w1 ⟨⟨r, rfl⟩, hb1⟩; have HB1 := hide (((unhide HA).trans hb1).mono (fun x hx => hx.elim id id)); clear hb1)
  go_ret
  exact ⟨⟨r, rfl⟩, unhide HB1⟩

namespace LawUnp

set_option maxRecDepth 20000 in
set_option maxHeartbeats 4000000 in
theorem law_any (a : Option Addr) (n cap : Nat) (ns : List NodeD) (w : World) (h : NRaw w a n ns) (hG : GlTree w) :
    Calls Tryz.prog 4 #[.agg #[.slice a n cap]] w fun e w' => e = .returned (.bool true) ∧ Below w.heap.size w w' := by
  obtain ⟨Q, hQ⟩ : ∃ Q, Q = w.alloc (.cells #[.slice a n cap] 24) := ⟨_, rfl⟩
  have HQ := hide hQ
  have HBQ : Hid (Below w.heap.size w Q) := by rw [hQ]; exact (Below.refl _ _).alloc (Nat.le_refl _) _
  have hQlt : w.heap.size < Q.heap.size := by rw [hQ]; simp
  have HQC : Hid (Q.cell? ⟨w.heap.size, 0, none⟩ = some (.slice a n cap)) := by rw [hQ]; show (w.alloc _).cell? _ = _; simp
  have HG : Hid (∀ v, Below w.heap.size w v → GlTree v) := fun v hv => hG.below hv
  have HSZ := hide (szTree_any a n cap ns 1048576 Q (h.below (Nat.le_refl _) (unhide HBQ)) (by omega) (by omega))
  have H := hide h
  have HPO : Hid (∀ v, Below Q.heap.size Q v → v.cell? ⟨w.heap.size, 0, none⟩ = some (.slice a n cap) ∧ Below w.heap.size w v) := fun v hv => ⟨(hv.cell (p := ⟨w.heap.size, 0, none⟩) hQlt).trans (unhide HQC), (unhide HBQ).trans (hv.mono (unhide HBQ).size)⟩
  clear hQ h hG
  go_enter Tryz.func4, Tryz.ntmps4
  go_wp2_with fail
  rw [← unhide HQ]
  refine (unhide HSZ).mono ?_
  rintro e w1 ⟨r, rfl, hr, hb1⟩
  have HB1 := hide hb1
  obtain ⟨ct1, hbw1⟩ := unhide HPO _ hb1
  have HW1 := hide hbw1
  clear hb1 hbw1 HSZ
  rcases hr with rfl | ⟨q0, q1, q2, q3⟩
  · go_wp2_with fail
    go_ret
    exact ⟨rfl, unhide HW1⟩
  have hr0 : ¬ r < 0 := by omega
  have HROW := hide ((unhide H).row q2 q3)
  have HSM := hide q3
  have hlnn : ns.length = n := (unhide HROW).len
  have hU : (unpT ns).length ≤ 60000000 * 600 := unp_len (by rw [hlnn]; exact q3)
  clear q0 q1 q3
  go_wp2_with fail
  refine (toTree_any a n cap ns w1 (by exact (unhide HROW).below (Nat.le_refl _) (unhide HW1)) (unhide HSM)).mono ?_
  rintro e w2 ⟨g2, rfl, hg2, hN2, hb2⟩
  have HB2 := hide ((unhide HB1).trans (hb2.mono (unhide HB1).size))
  clear hb2 ct1 HB1 HW1 hg2
  go_wp2_with fail
  refine (specUnparse_any (some ⟨g2, 0, none⟩) n n ns w2 hN2.row (unhide HSM) hN2.rowC.cap).mono ?_
  rintro e w3 ⟨b3, m3, d3, rfl, hR3, hb3⟩
  have HB3 := hide ((unhide HB2).trans (hb3.mono (unhide HB2).size))
  obtain ⟨ct3, hbw3⟩ := unhide HPO _ (unhide HB3)
  have HW3 := hide hbw3
  have HR3 := hide hR3
  clear hb3 HB2 hN2 hbw3 hR3 w2
  obtain ⟨S, hS⟩ : ∃ S, treeB txtB ns = S := ⟨_, rfl⟩
  rw [hS]
  have HS := hide hS
  obtain ⟨U, hUU⟩ : ∃ U, uz (unpT ns) = U := ⟨_, rfl⟩
  rw [hUU] at HR3
  have HU := hide hUU
  clear hS hUU
  go_wp2_with fail
  refine (toTree_any a n cap ns w3 (by exact (unhide HROW).below (Nat.le_refl _) (unhide HW3)) (unhide HSM)).mono ?_
  rintro e w4 ⟨g4, rfl, hg4, hN4, hb4⟩
  have HB4 := hide ((unhide HB3).trans (hb4.mono (unhide HB3).size))
  have hz3 := (unhide HB3).size
  have hz4 := hb4.size
  have hg4l : g4 < w4.heap.size := hN4.1
  have HT4 : Hid (RowB (w4.alloc (.cells #[.slice (some ⟨g4, 0, none⟩) n n] 29)) b3 m3 U) := ((unhide HR3).below (Nat.le_refl _) hb4).below (Nat.le_refl _) ((Below.refl _ _).alloc (Nat.le_refl _) _)
  have HL : Hid (∀ k, At b3 m3 k → k < g4) := fun k hk => by have := (unhide HR3).hi hk; omega
  have HN4 := hide (hN4.alloc (.cells #[.slice (some ⟨g4, 0, none⟩) n n] 29))
  have HB4a := hide ((unhide HB4).alloc (unhide HB4).size (.cells #[.slice (some ⟨g4, 0, none⟩) n n] 29))
  have hQg : Q.heap.size ≤ g4 := by omega
  clear hb4 ct3 HB3 HW3 hN4 HR3
  go_wp2_with fail
  refine (implUnparse_any (some ⟨g4, 0, none⟩) n n ns _ (by exact (unhide HN4).rowC) (unhide HSM) (by exact unhide HG _ (unhide HPO _ (unhide HB4a)).2)).mono ?_
  rintro e w5 ⟨b5, m5, d5, rfl, hO5, hb5⟩
  rw [unhide HS]
  rw [unhide HU] at hO5
  have HB5 := hide ((unhide HB4a).trans (hb5.mono (unhide HB4a).size))
  have HN5 := hide ((unhide HN4).below (Nat.le_refl _) hb5)
  have HT5 := hide ((unhide HT4).below (Nat.le_refl _) hb5)
  have hO5' : OwnB w5 (w4.heap.size + 1) b5 m5 U := by simpa using hO5
  have HO5 := hide hO5'
  have hm5 := hO5'.small
  have hm5' : m5 ≤ 60000000 * 600 := by
    have h1 := hO5'.len
    have h2 := congrArg List.length (unhide HU)
    rw [uz_len] at h2
    omega
  have cx5 : w5.cell? ⟨w4.heap.size, 0, none⟩ = some (.slice (some ⟨g4, 0, none⟩) n n) := (hb5.cell (p := ⟨w4.heap.size, 0, none⟩) (by simp)).trans (by simp)
  have hz5 : w4.heap.size < w5.heap.size := by have := hb5.size; simp at this; omega
  have hbS : (S != S) = false := by simp
  clear hb5 HN4 HB4 HB4a hO5 hO5' HT4
  generalize w4.heap.size = p4 at *
  clear w4
  go_wp2_with fail
  refine (eqByteS_same b5 b3 m5 m3 d5 d3 U w5 (by exact (unhide HO5).row) (by exact unhide HT5) hm5).mono ?_
  rintro e w6 ⟨rfl, hb6⟩
  have HB6 := hide ((unhide HB5).trans (hb6.mono (unhide HB5).size))
  have HN6 := hide ((unhide HN5).below (Nat.le_refl _) hb6)
  have HT6 := hide ((unhide HT5).below (Nat.le_refl _) hb6)
  have HO6 := hide ((unhide HO5).below (Nat.le_refl _) hb6)
  have cx6 := (hb6.cell (p := ⟨p4, 0, none⟩) hz5).trans cx5
  have hz6 : p4 < w6.heap.size := Nat.lt_of_lt_of_le hz5 hb6.size
  obtain ⟨ct6, hbw6⟩ := unhide HPO _ (unhide HB6)
  have HW6 := hide hbw6
  clear hb6 HN5 HT5 HO5 cx5 hz5 HB5 hbw6
  clear w5
  go_wp2_with fail
  go_cut [45] (fun rr wx => rr = .bool false ∧ Hid (Below w6.heap.size w6 wx))
  case first =>
    first | (go_region_with (first
      | (go_at_call 9; refine (toTree_any a n cap ns _ (by exact (unhide HROW).below (Nat.le_refl _) (unhide HW6).drew) (unhide HSM)).mono ?_; rintro e w7 ⟨g7, rfl, hg7, hN7, hb7⟩; have cx7 : w7.cell? ⟨p4, 0, none⟩ = some (.slice (some ⟨g4, 0, none⟩) n n) := (hb7.cell (p := ⟨p4, 0, none⟩) hz6).trans cx6; have HN7 := hide hN7.row; have HN67 := hide ((unhide HN6).row.drew.below (Nat.le_refl _) hb7); have HW7 := hide ((Below.refl _ _).drew.trans hb7); clear hb7 hN7)
      | (go_at_call 11; refine (eqTree_refl (some ⟨g4, 0, none⟩) (some ⟨g7, 0, none⟩) n n n ns _ (unhide HN67) (unhide HN7)).mono ?_; rintro e w8 ⟨rfl, hb8⟩; have HW8 := hide ((unhide HW7).trans (hb8.mono (unhide HW7).size)); clear hb8))) | fail
    all_goals go_wp2_with fail
    all_goals (go_meet; case rel => exact ⟨rfl, HW8⟩)
  case rest =>
    obtain ⟨rfl, HWC⟩ := hcut
    have HB9 := hide ((unhide HB6).trans ((unhide HWC).mono (unhide HB6).size))
    have HN9 := hide ((unhide HN6).below (Nat.le_refl _) (unhide HWC))
    have HT9 := hide ((unhide HT6).below (Nat.le_refl _) (unhide HWC))
    have HO9 := hide ((unhide HO6).below (Nat.le_refl _) (unhide HWC))
    have cx9 := ((unhide HWC).cell (p := ⟨p4, 0, none⟩) hz6).trans cx6
    have hz9 : p4 < wc.heap.size := Nat.lt_of_lt_of_le hz6 (unhide HWC).size
    clear HWC HN6 HT6 HO6 cx6 hz6 HB6 HW6 ct6
    clear w6
    go_wp2_with fail
    refine (markTree_any g4 n n p4 ns wc (by exact unhide HN9)).mono ?_
    rintro e w10 ⟨⟨kr, rfl⟩, hbut⟩
    have HB10 := hide ((unhide HB9).trans (hbut.below (unhide HB9).size (fun k hk => by omega)))
    have HT10 := hide (hbut.rowB (unhide HT9) (fun k hk hk' => by have := unhide HL k hk'; omega))
    have HO10 := hide (hbut.ownB (unhide HO9) (fun k hk hk' => by have := (unhide HO9).low hk'; omega))
    have hkr : ¬ (kr : Int) < 0 := by omega
    have hz10 : p4 < w10.heap.size := Nat.lt_of_lt_of_le hz9 hbut.size
    clear hbut HN9 HT9 HO9 cx9 hz9 HB9
    clear wc
    go_wp2_with fail
    refine (eqByteS_same b5 b3 m5 m3 d5 d3 U w10 (by exact (unhide HO10).row) (by exact unhide HT10) hm5).mono ?_
    rintro e w11 ⟨rfl, hb11⟩
    have HB11 := hide ((unhide HB10).trans (hb11.mono (unhide HB10).size))
    have HT11 := hide ((unhide HT10).below (Nat.le_refl _) hb11)
    have HO11 := hide ((unhide HO10).below (Nat.le_refl _) hb11)
    clear hb11 HB10 HT10 HO10 hz10
    clear w10
    go_wp2_with fail
    refine (markByteS_any b5 m5 d5 (p4 + 1) U 1 w11 (by exact unhide HO11) (by omega) (by omega)).mono ?_
    rintro e w12 ⟨rfl, hO12, hbut⟩
    have HB12 := hide ((unhide HB11).trans (hbut.below (unhide HB11).size (fun k hk => by have := (unhide HO11).low hk; omega)))
    have HT12 := hide (hbut.rowB (unhide HT11) (fun k hk hk' => by have := (unhide HO11).low hk; have := unhide HL k hk'; omega))
    have HO12 := hide hO12
    clear hbut hO12 HB11 HT11 HO11
    clear w11
    go_wp2_with fail
    refine (heldByteS_marks b5 m5 d5 1 w12 (by exact (unhide HO12).row) hm5 (by omega) (by omega)).mono ?_
    rintro e w13 ⟨rfl, rfl⟩
    have hh1 : ¬ (1 : Int) + (m5 : Int) < 0 := by omega
    obtain ⟨ct13, hbw13⟩ := unhide HPO _ (unhide HB12)
    have HW13 := hide hbw13
    clear hbw13
    go_wp2_with fail
    refine (toTree_any a n cap ns w13 (by exact (unhide HROW).below (Nat.le_refl _) (unhide HW13)) (unhide HSM)).mono ?_
    rintro e w14 ⟨g14, rfl, hg14, hN14, hb14⟩
    have HW14 := hide ((unhide HW13).trans (hb14.mono (unhide HW13).size))
    have HT14 := hide ((unhide HT12).below (Nat.le_refl _) hb14)
    clear hb14 HW13 HT12 HO12
    go_wp2_with fail
    refine (implUnparse_any (some ⟨g14, 0, none⟩) n n ns w14 (by exact hN14.rowC) (unhide HSM) (by exact unhide HG _ (unhide HW14))).mono ?_
    rintro e w15 ⟨b15, m15, d15, rfl, hO15, hb15⟩
    rw [unhide HS]
    rw [unhide HU] at hO15
    have HW15 := hide ((unhide HW14).trans (hb15.mono (unhide HW14).size))
    have HT15 := hide ((unhide HT14).below (Nat.le_refl _) hb15)
    have hm15 := hO15.small
    have HO15 := hide hO15
    clear hb15 HT14 HW14 hO15 hN14
    go_wp2_with fail
    refine (eqByteS_same b15 b3 m15 m3 d15 d3 U w15 (by exact (unhide HO15).row) (by exact unhide HT15) hm15).mono ?_
    rintro e w16 ⟨rfl, hb16⟩
    have HW16 := hide ((unhide HW15).trans (hb16.mono (unhide HW15).size))
    clear hb16
    go_wp2_with fail
    go_ret
    exact ⟨rfl, unhide HW16⟩

end LawUnp
end Go.Proofs.YtinndpnilmmmjaaGreatDoor
