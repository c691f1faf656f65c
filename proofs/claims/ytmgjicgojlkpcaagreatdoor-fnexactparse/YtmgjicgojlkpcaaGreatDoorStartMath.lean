import Derived.Test.YtmgjicgojlkpcaaGreatDoorLexMath
namespace Go.Proofs.YtmgjicgojlkpcaaGreatDoor
open Go

/-- A text stands at a place. -/
def startsB (s : ByteArray) (i : Nat) (p : ByteArray) : Bool := decide (i + p.size ≤ s.size) && ((s.extract i (i + p.size)).toList == p.toList)

theorem bt_data {s : ByteArray} {i : Nat} (h : i < s.size) : bt s i = (s.data.toList.getD i 0).toNat := by
  have h' : i < s.data.size := h
  rw [bt_get h, ByteArray.getElem_eq_getElem_data, List.getD_eq_getElem?_getD, Array.getElem?_toList, Array.getElem?_eq_getElem h']
  rfl

theorem sub_list (s : ByteArray) (i e : Nat) : (s.extract i e).data.toList = (s.data.toList.drop i).take (e - i) := by
  rw [← Lib.toList_data, Lib.extract_toList]

theorem take_cons {l : List UInt8} {i m : Nat} (h : i < l.length) : (l.drop i).take (m + 1) = l.getD i 0 :: (l.drop (i + 1)).take m := by
  rw [List.drop_eq_getElem_cons h, List.take_succ_cons]
  simp [List.getD_eq_getElem?_getD, h]

theorem byte_eq (b : UInt8) {a : Nat} (ha : a < 256) : (b == UInt8.ofNat a) = decide (b.toNat = a) := by
  by_cases h : b.toNat = a
  · rw [decide_eq_true h]
    have : b = UInt8.ofNat a := by rw [← h]; simp
    rw [this]; simp
  · rw [decide_eq_false h]
    have : b ≠ UInt8.ofNat a := fun e => h (by rw [e]; exact UInt8.toNat_ofNat_of_lt' (by simpa [UInt8.size] using ha))
    simpa using this

theorem start_step {s : ByteArray} {i m a : Nat} {q : List UInt8} (h : i < s.size) (ha : a < 256) : ((s.data.toList.drop i).take (m + 1) == UInt8.ofNat a :: q) = (decide (bt s i = a) && ((s.data.toList.drop (i + 1)).take m == q)) := by
  have hl : i < s.data.toList.length := by rw [← Lib.size_eq]; exact h
  rw [take_cons hl, List.cons_beq_cons, byte_eq _ ha, bt_data h]

theorem starts_high (s : ByteArray) (i : Nat) : startsB s i ⟨#[194, 175]⟩ = high s i := by
  unfold startsB high
  rw [show (ByteArray.mk #[194, 175]).size = 2 from rfl, Lib.extract_toList, show (ByteArray.mk #[194, 175]).toList = [UInt8.ofNat 194, UInt8.ofNat 175] by rw [Lib.toList_data]; rfl, show i + 2 - i = 0 + 1 + 1 by omega]
  by_cases h : i + 2 ≤ s.size
  · rw [start_step (by omega) (by omega), start_step (by omega) (by omega)]
    simp [h]
  · rw [decide_eq_false h, decide_eq_false (fun hh => h hh.1)]; rfl

theorem starts_quotes (s : ByteArray) (i : Nat) : startsB s i ⟨#[39, 39]⟩ = quotes s i := by
  unfold startsB quotes
  rw [show (ByteArray.mk #[39, 39]).size = 2 from rfl, Lib.extract_toList, show (ByteArray.mk #[39, 39]).toList = [UInt8.ofNat 39, UInt8.ofNat 39] by rw [Lib.toList_data]; rfl, show i + 2 - i = 0 + 1 + 1 by omega]
  by_cases h : i + 2 ≤ s.size
  · rw [start_step (by omega) (by omega), start_step (by omega) (by omega)]
    simp [h]
  · rw [decide_eq_false h, decide_eq_false (fun hh => h hh.1)]; rfl

theorem starts_remark (s : ByteArray) (i : Nat) : startsB s i ⟨#[226, 141, 157]⟩ = remark s i := by
  unfold startsB remark
  rw [show (ByteArray.mk #[226, 141, 157]).size = 3 from rfl, Lib.extract_toList, show (ByteArray.mk #[226, 141, 157]).toList = [UInt8.ofNat 226, UInt8.ofNat 141, UInt8.ofNat 157] by rw [Lib.toList_data]; rfl, show i + 3 - i = 0 + 1 + 1 + 1 by omega]
  by_cases h : i + 3 ≤ s.size
  · rw [start_step (by omega) (by omega), start_step (by omega) (by omega), start_step (by omega) (by omega)]
    simp [h, Nat.add_assoc]
  · rw [decide_eq_false h, decide_eq_false (fun hh => h hh.1)]; rfl

end Go.Proofs.YtmgjicgojlkpcaaGreatDoor
