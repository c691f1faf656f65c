import Derived.Test.YtcjhbeljhmocbaaDoorImplAppC
import Derived.Test.YtcjhbeljhmocbaaDoorImplNumW
import Derived.Test.YtcjhbeljhmocbaaDoorShelfRepeat
import Derived.Lib.AppendStr
namespace Go.Proofs.YtcjhbeljhmocbaaDoor
open Go.RowKit

theorem TextG.keep {B n : Nat} {w wr wx : World} {v : Value} {zs : List Int} (h : TextG B w wr v n zs) (hb : Below wr.heap.size wr wx) : TextG B w wx v n zs :=
  ⟨ownsB_below h.own (Nat.le_refl _) hb, h.low.trans (hb.mono h.le), Nat.le_trans h.le hb.size⟩

theorem TextG.grow {B n n' : Nat} {w wr w' : World} {v v' : Value} {zs ys : List Int} (h : TextG B w wr v n zs) (hown : w'.ownsRow B 5 1 v' n' (zs.map (Value.int .u8) ++ ys.map (Value.int .u8))) (hg : wr.grownBy w' v.ownBlock) : TextG B w w' v' n' (zs ++ ys) := by
  have h1 : Below B wr w' := (Below.refl _ _).grown hg h.le (own_block h.own)
  refine ⟨by rw [List.map_append]; exact hown, h.low.grown hg h.le (own_block h.own), ?_⟩
  have := h1.size
  have := h.le
  omega

theorem strCells_bstr {l : List Int} (h : ∀ x ∈ l, 0 ≤ x ∧ x < 256) : Lib.strCells (bstr l) = l.map (Value.int .u8) := by
  unfold Lib.strCells bstr
  simp only [List.map_map]
  refine List.map_congr_left fun x hx => ?_
  have := h x hx
  show Value.int .u8 ((UInt8.ofNat x.toNat).toNat : Nat) = _
  rw [UInt8.toNat_ofNat_of_lt' (by simp [UInt8.size]; omega), Int.toNat_of_nonneg this.1]

theorem numT_byteI (n : Int) : ∀ x ∈ numT n, 0 ≤ x ∧ x < 256 := by
  intro x hx
  unfold numT at hx
  rcases List.mem_append.1 hx with hx | hx
  · split at hx
    · simp at hx; omega
    · simp at hx
  · have := decZ_byte _ x hx
    omega

theorem repeat_sp (k : Nat) : Lib.repeatL [32] k = zb (List.replicate k 32) := by
  induction k with
  | zero => rfl
  | succ k ih =>
    rw [Lib.repeatL, ih, List.replicate_succ]
    rfl

theorem extra_repeat : Builder.Extra Tryd.prog Tryd.repeatS_ren where
  sizeBuilder := by kernel_rfl
  liesBuilder := by kernel_rfl
  t5 := Tryd.underlying5
  a5 := Tryd.isAgg5
  z5 := Tryd.sizeOf5
  v5 := Tryd.zeroValue5
  infoByte := by kernel_rfl
  cellsByte := by kernel_rfl
  sizeByte := by kernel_rfl
  neB5 := by decide

theorem repeat_any (k : Nat) (hk : k ≤ 1000000) (w : World) :
    Calls Tryd.prog 44 #[.string ⟨#[32]⟩, .int .i64 (k : Nat)] w fun e w' => e = .returned (.string (bstr (List.replicate k 32))) ∧ Below w.heap.size w w' :=
  (Any.strings_Repeat Tryd.repeatS extra_repeat ⟨#[32]⟩ k w (by omega) (by simp [ByteArray.size]; omega)).mono (by
    rintro e w' ⟨rfl, hb⟩
    refine ⟨?_, hb⟩
    show Ending.returned (.string ⟨(Lib.repeatL [32] k).toArray⟩) = _
    rw [repeat_sp]
    rfl)

end Go.Proofs.YtcjhbeljhmocbaaDoor
