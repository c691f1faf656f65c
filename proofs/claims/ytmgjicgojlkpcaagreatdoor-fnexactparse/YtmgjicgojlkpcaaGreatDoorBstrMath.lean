import Derived.Test.YtmgjicgojlkpcaaGreatDoorSpecBytes
import Derived.Laws.IdiomStrings
namespace Go.Proofs.YtmgjicgojlkpcaaGreatDoor
open Go.RowKit

/-- Bytes as a string. -/
def bstr (l : List Int) : ByteArray := ⟨(l.map fun x => x.toNat.toUInt8).toArray⟩

theorem bstr_nil : bstr [] = ⟨#[]⟩ := rfl
theorem bstr_app (l m : List Int) : bstr l ++ bstr m = bstr (l ++ m) := by
  unfold bstr
  rw [List.map_append]
  apply ByteArray.ext
  simp

theorem bstr_size (l : List Int) : (bstr l).size = l.length := by simp [bstr, ByteArray.size]

/-- 'string([]byte{a})' of a byte laid anew. -/
theorem conv_one (w : World) (a : Nat) (ha : a < 256) : (convert 33 9 (.slice (some ⟨w.heap.size, 0, none⟩) 1 1)).run Tryz.prog (w.alloc (.cells #[.int .u8 (a : Nat)] 5)) = .ok (.string (bstr [(a : Int)])) (w.alloc (.cells #[.int .u8 (a : Nat)] 5)) := by
  have h := run_convert_bytes_back (P := Tryz.prog) (w.alloc (.cells #[.int .u8 (a : Nat)] 5)) 33 9 5 ⟨w.heap.size, 0, none⟩ 1 [a.toUInt8] Tryz.underlying33 Tryz.underlying5 Tryz.underlying9 (fun j hj => by
    have hj0 : j = 0 := by simp at hj; exact hj
    subst hj0
    have hr := RowB.new w [(a : Int)]
    rcases hr.at_ with h0 | ⟨b, off, e, _, hc⟩
    · simp at h0
    · cases e
      have h1 := hc 0 (by simp)
      have h2 : (⟨w.heap.size, 0, none⟩ : Addr).add 0 = ⟨w.heap.size, 0 + 0, none⟩ := by simp [Addr.add]
      rw [h2]
      refine Eq.trans h1 ?_
      simp [Nat.mod_eq_of_lt ha])
  exact h

end Go.Proofs.YtmgjicgojlkpcaaGreatDoor
