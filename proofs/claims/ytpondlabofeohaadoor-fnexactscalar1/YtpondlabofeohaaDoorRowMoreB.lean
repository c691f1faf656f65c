import Derived.Test.YtpondlabofeohaaDoorIntsB
namespace Go.Proofs.YtpondlabofeohaaDoor
open Go.RowKit

theorem Row.alloc {w : World} {a : Option Addr} {n : Nat} {zs : List Int} (h : Row w a n zs) (o : Obj) : Row (w.alloc o) a n zs := h.below (Nat.le_refl _) ((Below.refl _ _).alloc (Nat.le_refl _) _)
theorem Row.drewN {w : World} {a : Option Addr} {n : Nat} {zs : List Int} (h : Row w a n zs) (q : Nat) : Row (w.drewN q) a n zs := ⟨h.len, h.small, h.at_⟩
theorem Below.drewN {B : Nat} {a w : World} (h : Below B a w) (q : Nat) : Below B a (w.drewN q) := h.trans ⟨rfl, rfl, rfl, Nat.le_refl _, fun _ _ => rfl⟩

theorem Row.get {w : World} {a : Option Addr} {n : Nat} {zs : List Int} (h : Row w a n zs) {k : Nat} (hk : k < n) : ∃ b off, a = some ⟨b, off, none⟩ ∧ b < w.heap.size ∧ w.cell? ⟨b, off + k, none⟩ = some (.int .i64 (zs.getD k 0)) := by
  rcases h.at_ with h0 | ⟨b, off, rfl, hlt, hc⟩
  · omega
  · exact ⟨b, off, rfl, hlt, hc k hk⟩

end Go.Proofs.YtpondlabofeohaaDoor
