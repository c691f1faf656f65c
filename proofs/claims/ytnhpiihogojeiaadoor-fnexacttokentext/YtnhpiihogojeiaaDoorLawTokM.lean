import Derived.Test.YtnhpiihogojeiaaDoorLawTok
import Derived.Test.YtnhpiihogojeiaaDoorMLs
namespace Go.Proofs.YtnhpiihogojeiaaDoor
open Go.RowKit

/-- A mark as a text. -/
def mt (m : Nat) : ByteArray := bstr (109 :: decZ m)
def decP (x : Nat) : List Int := if x = 0 then [] else decZ x

theorem decP_step {x : Nat} (h : x ≠ 0) : decP x = decP (x / 10) ++ [48 + ((x % 10 : Nat) : Int)] := by
  unfold decP
  rw [if_neg h]
  by_cases h10 : x < 10
  · rw [if_pos (by omega), decZ_small h10, show x % 10 = x by omega]; rfl
  · rw [if_neg (by omega), decZ_big h10]

set_option maxRecDepth 20000 in
set_option maxHeartbeats 2000000 in
theorem markText_any (m : Nat) (h1 : 1 ≤ m) (hm : m ≤ 1000000000000000) (w : World) : Calls Tryd.prog 22 #[.int .i64 (m : Nat)] w fun e w' => e = .returned (.string (mt m)) ∧ Below w.heap.size w w' := by
  have h0 : ¬ (m : Int) ≤ 0 := by omega
  have HP : Hid (decZ m = decP m) := by show _ = _; unfold decP; rw [if_neg (by omega)]
  go_enter Tryd.func22, Tryd.ntmps22
  go_wp2_with fail
  go_loopw [0, 3] (fun a b wr => ∃ (x : Nat) (l : List Int), a = .int .i64 x ∧ b = .string (bstr l) ∧ x ≤ 1000000000000000 ∧ Hid (decZ m = decP x ++ l) ∧ Hid (Below w.heap.size w wr)) (fun a _ _ => (intOf a).toNat)
  case atStart => exact ⟨m, [], rfl, rfl, hm, (by show _ = _; rw [List.append_nil]; exact unhide HP), Below.refl _ _⟩
  case round =>
    obtain ⟨x, l, rfl, rfl, hx, HK, HB⟩ := hrel
    have hln : l.length ≤ 16 := by
      have h1 := congrArg List.length (unhide HK)
      have h2 := decZ_le 15 m (by omega)
      rw [List.length_append] at h1
      omega
    by_cases hz : x = 0
    · subst hz
      have hno : ¬ 9223372036854775807 < (ByteArray.mk #[109]).size + (bstr l).size := by rw [bstr_size, show (ByteArray.mk #[109]).size = 1 from rfl]; omega
      have hap : (ByteArray.mk #[109]) ++ bstr l = bstr (109 :: l) := bstr_app [109] l
      have HR : Hid (bstr (109 :: l) = mt m) := by show _ = _; unfold mt; rw [unhide HK]; rfl
      go_wp2_with fail
      go_ret
      exact ⟨by rw [unhide HR]; rfl, unhide HB⟩
    · have hzi : 0 < (x : Int) := by omega
      obtain ⟨y, hy⟩ : ∃ y, x / 10 = y := ⟨_, rfl⟩
      obtain ⟨r, hr⟩ : ∃ r, x % 10 = r := ⟨_, rfl⟩
      have ey : (x : Int).tdiv 10 = (y : Int) := by rw [Int.tdiv_eq_ediv_of_nonneg (by omega)]; omega
      have ey2 : (x : Int) / 10 = (y : Int) := by omega
      have er : (x : Int).tmod 10 = (r : Int) := by rw [Int.tmod_eq_emod_of_nonneg (by omega)]; omega
      have er2 : (x : Int) % 10 = (r : Int) := by omega
      obtain ⟨A, hA⟩ : ∃ A, 48 + r = A := ⟨_, rfl⟩
      have eA : 48 + (r : Int) = (A : Int) := by omega
      have hA8 : A < 256 := by omega
      have wA : IntKind.u8.wrap (A : Int) = (A : Int) := byteN rfl hA8
      have hcv := conv_one wr A hA8
      have hno : ¬ 9223372036854775807 < (bstr [(A : Int)]).size + (bstr l).size := by rw [bstr_size, bstr_size]; simp; omega
      have hap : bstr [(A : Int)] ++ bstr l = bstr ((A : Int) :: l) := bstr_app _ _
      have HN : Hid (decZ m = decP y ++ ((A : Int) :: l)) := by show _ = _; rw [unhide HK, decP_step hz, hy, hr, eA]; simp
      have hsz := (unhide HB).size
      have hyx : y < x := by omega
      clear hA hy hr hz
      go_wp2_with fail
      go_roundw
      case rel => exact ⟨y, (A : Int) :: l, by go_num, rfl, by omega, HN, (unhide HB).alloc hsz _⟩
      case measure => simp [intOf]; omega

/-- The slice (a, n, _) reads as these tokens, lies in a block from B on, and may be written. -/
structure OwnT (w : World) (B : Nat) (a : Option Addr) (n : Nat) (ts : List Tok) : Prop where
  len : ts.length = n
  at_ : n = 0 ∨ ∃ g off, a = some ⟨g, off, none⟩ ∧ B ≤ g ∧ g < w.heap.size ∧ (∀ i, i < 4 * n → w.cell? ⟨g, off + i, none⟩ = (ts.flatMap tokCells)[i]?) ∧ (∀ i, i < 4 * n → w.frozen? ⟨g, off + i, none⟩ = false)

theorem OwnT.row {w : World} {B : Nat} {a : Option Addr} {n : Nat} {ts : List Tok} (h : OwnT w B a n ts) : RowT w a n ts := by
  refine ⟨h.len, ?_⟩
  rcases h.at_ with h0 | ⟨g, off, rfl, _, hlt, hc, _⟩
  · exact .inl h0
  · exact .inr ⟨g, off, rfl, hlt, hc⟩

theorem OwnT.low {w : World} {B : Nat} {a : Option Addr} {n : Nat} {ts : List Tok} (h : OwnT w B a n ts) {k : Nat} (hk : At a n k) : B ≤ k := by
  rcases h.at_ with h0 | ⟨g, off, rfl, hg, _⟩
  · exact absurd h0 hk.1
  · have := at_eq hk; omega

theorem OwnT.below {w w' : World} {a : Option Addr} {n : Nat} {ts : List Tok} {B C : Nat} (h : OwnT w C a n ts) (hB : w.heap.size ≤ B) (hb : Below B w w') : OwnT w' C a n ts := by
  refine ⟨h.len, ?_⟩
  rcases h.at_ with h0 | ⟨g, off, rfl, hg, hlt, hc, hf⟩
  · exact .inl h0
  · exact .inr ⟨g, off, rfl, hg, Nat.lt_of_lt_of_le hlt hb.size, fun i hi => (hb.cell (p := ⟨g, off + i, none⟩) (Nat.lt_of_lt_of_le hlt hB)).trans (hc i hi), fun i hi => (hb.frozen (p := ⟨g, off + i, none⟩) (Nat.lt_of_lt_of_le hlt hB)).trans (hf i hi)⟩

theorem But.ownT {S : Nat → Prop} {b : Option Addr} {m B : Nat} {w w' : World} {ts : List Tok} (h : But S w w') (ho : OwnT w B b m ts) (hap : ∀ k, S k → ¬ At b m k) : OwnT w' B b m ts := by
  refine ⟨ho.len, ?_⟩
  rcases ho.at_ with h0 | ⟨g, off, rfl, hg, hlt, hc, hf⟩
  · exact .inl h0
  · by_cases hm : m = 0
    · exact .inl hm
    have hb := h.block g hlt (fun e => hap g e ⟨hm, _, rfl, rfl⟩)
    exact .inr ⟨g, off, rfl, hg, Nat.lt_of_lt_of_le hlt h.size, fun i hi => (World.cell?_of_block (w := w) (a := ⟨g, off + i, none⟩) hb).trans (hc i hi), fun i hi => (World.frozen?_of_block (w := w) (a := ⟨g, off + i, none⟩) hb).trans (hf i hi)⟩

theorem But.rowT {S : Nat → Prop} {b : Option Addr} {m : Nat} {w w' : World} {ts : List Tok} (h : But S w w') (ho : RowT w b m ts) (hap : ∀ k, S k → ¬ At b m k) : RowT w' b m ts := by
  refine ⟨ho.len, ?_⟩
  rcases ho.at_ with h0 | ⟨g, off, rfl, hlt, hc⟩
  · exact .inl h0
  · by_cases hm : m = 0
    · exact .inl hm
    have hb := h.block g hlt (fun e => hap g e ⟨hm, _, rfl, rfl⟩)
    exact .inr ⟨g, off, rfl, Nat.lt_of_lt_of_le hlt h.size, fun i hi => (World.cell?_of_block (w := w) (a := ⟨g, off + i, none⟩) hb).trans (hc i hi)⟩

theorem RowT.hi {w : World} {a : Option Addr} {n : Nat} {ts : List Tok} (h : RowT w a n ts) {k : Nat} (hk : At a n k) : k < w.heap.size := by
  rcases h.at_ with h0 | ⟨g, off, rfl, hg, _⟩
  · exact absurd h0 hk.1
  · have := at_eq hk; omega

theorem ownT_of {w : World} {B n : Nat} {v : Value} {ts : List Tok} (h : w.ownsRow B 36 4 v n (ts.flatMap tokCells)) : ∃ a cap, v = .slice a n cap ∧ OwnT w B a n ts := by
  have hl : ts.length = n := by have := h.1; rw [cells_len] at this; omega
  rcases h.2 with ⟨h', h0⟩ | ⟨g, cap, cur, h', hb, hg, _, _, hcs, ht⟩
  · subst h0
    exact ⟨none, 0, h', hl, .inl rfl⟩
  · refine ⟨some ⟨g, 0, none⟩, cap, h', hl, .inr ⟨g, 0, rfl, hb, lt_of_block hg, fun i hi => ?_, fun i _ => ?_⟩⟩
    · rw [Nat.zero_add]
      have e : cur.toList[i]? = (ts.flatMap tokCells)[i]? := by rw [← ht, List.getElem?_take, if_pos (by omega)]
      simpa [World.cell?, hg] using e
    · exact frozen_of_row w g _ _ _ hg

/-- The marks that are put into n tokens from k on. -/
def marksT (k n : Nat) : List Tok := (List.range n).map fun i => ⟨((k + 4 * i : Nat) : Int), ((k + 4 * i + 1 : Nat) : Int), mt (k + 4 * i + 2), k + 4 * i + 3⟩

theorem marksT_len (k n : Nat) : (marksT k n).length = n := by simp [marksT]
theorem marksT_get (k n i : Nat) (h : i < n) : (marksT k n)[i]? = some ⟨((k + 4 * i : Nat) : Int), ((k + 4 * i + 1 : Nat) : Int), mt (k + 4 * i + 2), k + 4 * i + 3⟩ := by
  simp [marksT, h]

/-- How the marking stands. -/
structure MkS (w : World) (g off n k j : Nat) (wr : World) : Prop where
  but : But (fun x => x = g) w wr
  lt : g < wr.heap.size
  done : ∀ i, i < 4 * j → wr.cell? ⟨g, off + i, none⟩ = ((marksT k n).flatMap tokCells)[i]?
  has : ∀ i, i < 4 * n → (wr.cell? ⟨g, off + i, none⟩).isSome = true
  free : ∀ i, i < 4 * n → wr.frozen? ⟨g, off + i, none⟩ = false

theorem MkS.step {w wr w5 : World} {g off n k j : Nat} {v0 v1 v2 v3 : Value} (h : MkS w g off n k j wr) (hj : j < n)
    (hv : tokCells ⟨((k + 4 * j : Nat) : Int), ((k + 4 * j + 1 : Nat) : Int), mt (k + 4 * j + 2), k + 4 * j + 3⟩ = [v0, v1, v2, v3])
    (hb : Below wr.heap.size ((wr.setCell ⟨g, off + j * 4, none⟩ v0).setCell ⟨g, off + j * 4 + 1, none⟩ v1) w5) :
    MkS w g off n k (j + 1) ((w5.setCell ⟨g, off + j * 4 + 2, none⟩ v2).setCell ⟨g, off + j * 4 + 3, none⟩ v3) := by
  have hz : ((wr.setCell ⟨g, off + j * 4, none⟩ v0).setCell ⟨g, off + j * 4 + 1, none⟩ v1).heap.size = wr.heap.size := by simp
  have hlt2 : g < ((wr.setCell ⟨g, off + j * 4, none⟩ v0).setCell ⟨g, off + j * 4 + 1, none⟩ v1).heap.size := by rw [hz]; exact h.lt
  have c5 : ∀ i, w5.cell? ⟨g, off + i, none⟩ = ((wr.setCell ⟨g, off + j * 4, none⟩ v0).setCell ⟨g, off + j * 4 + 1, none⟩ v1).cell? ⟨g, off + i, none⟩ := fun i => hb.cell (p := ⟨g, off + i, none⟩) h.lt
  have f5 : ∀ i, w5.frozen? ⟨g, off + i, none⟩ = ((wr.setCell ⟨g, off + j * 4, none⟩ v0).setCell ⟨g, off + j * 4 + 1, none⟩ v1).frozen? ⟨g, off + i, none⟩ := fun i => hb.frozen (p := ⟨g, off + i, none⟩) h.lt
  -- what every cell holds behind the four stores
  have s0 := h.has (4 * j) (by omega)
  have s1 := h.has (4 * j + 1) (by omega)
  have s2 := h.has (4 * j + 2) (by omega)
  have s3 := h.has (4 * j + 3) (by omega)
  rw [show off + 4 * j = off + j * 4 by omega] at s0
  rw [show off + (4 * j + 1) = off + j * 4 + 1 by omega] at s1
  rw [show off + (4 * j + 2) = off + j * 4 + 2 by omega] at s2
  rw [show off + (4 * j + 3) = off + j * 4 + 3 by omega] at s3
  obtain ⟨u0, e0⟩ := Option.isSome_iff_exists.mp s0
  obtain ⟨u1, e1⟩ := Option.isSome_iff_exists.mp s1
  obtain ⟨u2, e2⟩ := Option.isSome_iff_exists.mp s2
  obtain ⟨u3, e3⟩ := Option.isSome_iff_exists.mp s3
  have other : ∀ {W : World} {x y : Nat} {v : Value}, x ≠ y → (W.setCell ⟨g, y, none⟩ v).cell? ⟨g, x, none⟩ = W.cell? ⟨g, x, none⟩ := fun {W x y v} hxy => World.cell?_setCell_other _ _ _ _ (fun e => hxy (congrArg Addr.off e).symm)
  have all : ∀ i, ((w5.setCell ⟨g, off + j * 4 + 2, none⟩ v2).setCell ⟨g, off + j * 4 + 3, none⟩ v3).cell? ⟨g, off + i, none⟩ = if i = 4 * j then some v0 else if i = 4 * j + 1 then some v1 else if i = 4 * j + 2 then some v2 else if i = 4 * j + 3 then some v3 else wr.cell? ⟨g, off + i, none⟩ := fun i => by
    by_cases i0 : i = 4 * j
    · rw [if_pos i0, other (by omega), other (by omega), c5, other (by omega), i0, show off + 4 * j = off + j * 4 by omega]
      exact World.cell?_setCell_same _ _ _ e0
    · rw [if_neg i0]
      by_cases i1 : i = 4 * j + 1
      · rw [if_pos i1, other (by omega), other (by omega), c5, i1, show off + (4 * j + 1) = off + j * 4 + 1 by omega]
        exact World.cell?_setCell_same _ _ _ ((other (by omega)).trans e1)
      · rw [if_neg i1]
        by_cases i2 : i = 4 * j + 2
        · rw [if_pos i2, other (by omega), i2, show off + (4 * j + 2) = off + j * 4 + 2 by omega]
          refine World.cell?_setCell_same _ _ _ (u := u2) ?_
          have := c5 (4 * j + 2)
          rw [show off + (4 * j + 2) = off + j * 4 + 2 by omega] at this
          rw [this, other (by omega), other (by omega)]
          exact e2
        · rw [if_neg i2]
          by_cases i3 : i = 4 * j + 3
          · rw [if_pos i3, i3, show off + (4 * j + 3) = off + j * 4 + 3 by omega]
            refine World.cell?_setCell_same _ _ _ (u := u3) ?_
            have := c5 (4 * j + 3)
            rw [show off + (4 * j + 3) = off + j * 4 + 3 by omega] at this
            rw [other (by omega), this, other (by omega), other (by omega)]
            exact e3
          · rw [if_neg i3, other (by omega), other (by omega), c5, other (by omega), other (by omega)]
  have hget : ∀ f, f < 4 → ((marksT k n).flatMap tokCells)[4 * j + f]? = [v0, v1, v2, v3][f]? := fun f hf => by
    have hl : j < (marksT k n).length := by rw [marksT_len]; exact hj
    rw [flat_get (marksT k n) j f hl hf, ← hv]
    have := marksT_get k n j hj
    rw [List.getElem?_eq_getElem hl] at this
    rw [Option.some.inj this]
  refine ⟨?_, ?_, fun i hi => ?_, fun i hi => ?_, fun i hi => ?_⟩
  · have b1 : But (fun x => x = g) w ((wr.setCell ⟨g, off + j * 4, none⟩ v0).setCell ⟨g, off + j * 4 + 1, none⟩ v1) := (h.but.setCell rfl _).setCell rfl _
    have b2 : But (fun x => x = g) w w5 := (b1.trans (But.of_below (S := fun x => x = g) (by rw [hz]; exact hb))).mono (fun x hx => hx.elim id id)
    exact (b2.setCell rfl _).setCell rfl _
  · have h1 := hb.size
    rw [hz] at h1
    have h2 : ((w5.setCell ⟨g, off + j * 4 + 2, none⟩ v2).setCell ⟨g, off + j * 4 + 3, none⟩ v3).heap.size = w5.heap.size := by simp
    rw [h2]
    exact Nat.lt_of_lt_of_le h.lt h1
  · rw [all i]
    by_cases hi2 : i < 4 * j
    · rw [if_neg (by omega), if_neg (by omega), if_neg (by omega), if_neg (by omega)]
      exact h.done i hi2
    · have : i = 4 * j ∨ i = 4 * j + 1 ∨ i = 4 * j + 2 ∨ i = 4 * j + 3 := by omega
      rcases this with rfl | rfl | rfl | rfl
      · rw [if_pos rfl]; exact (hget 0 (by omega)).symm
      · rw [if_neg (by omega), if_pos rfl]; exact (hget 1 (by omega)).symm
      · rw [if_neg (by omega), if_neg (by omega), if_pos rfl]; exact (hget 2 (by omega)).symm
      · rw [if_neg (by omega), if_neg (by omega), if_neg (by omega), if_pos rfl]; exact (hget 3 (by omega)).symm
  · rw [all i]
    split
    · rfl
    · split
      · rfl
      · split
        · rfl
        · split
          · rfl
          · exact h.has i hi
  · have := h.free i hi
    simp only [World.frozen?_setCell] at f5 ⊢
    rw [f5 i]
    exact this

end Go.Proofs.YtnhpiihogojeiaaDoor
