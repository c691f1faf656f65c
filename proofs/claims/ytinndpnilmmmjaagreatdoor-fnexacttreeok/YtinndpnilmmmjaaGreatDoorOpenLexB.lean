import Derived.Test.YtinndpnilmmmjaaGreatDoorMFit2
import Derived.Test.YtinndpnilmmmjaaGreatDoorRows
import Derived.ProofKit
import Derived.OpenShut
import Derived.ShutString
import Derived.ChangeOld
import Derived.Below
import Derived.Lib.SmallJoins
import Derived.LaidMore
import Derived.Lay
import Derived.LaidOnce
import Derived.Stop.Joined
import Derived.Lib.LaidTab
import Derived.Lib.LaidU8T
import Derived.SevenTiedAt
namespace Go.Proofs.YtinndpnilmmmjaaGreatDoor
open Go.ChangeShapes Go.WideShapes Go.ChangeAt Go.RowKit Go.Joins
namespace OpenLex

theorem own : ownKnob Tryz.prog.godebug = none := by kernel_rfl
theorem laidOut : laidOutB Tryz.prog = true := by kernel_rfl
theorem cellsByte : Tryz.prog.cellsOf 5 = 1 := by kernel_rfl

/-- An interface's cell holds an interface value. -/
theorem iface_of {W : World} {fuel : Nat} {cs : List Value} {x : DataW Unit × List MemPlace} {sp : Nat → Bool} {held : Bool} (h : DataW.trod (fun _ => ()) Tryz.prog W 0 sp held fuel 66 cs = some x) : cs = [.nilIface] ∨ ∃ u v, cs = [.iface u v] := by
  cases fuel with
  | zero => simp [DataW.trod] at h
  | succ fuel =>
    simp only [DataW.trod, Tryz.underlying66] at h
    split at h <;> simp_all

theorem gRange : Tryz.prog.globalNamed "strconv.ErrRange" = some (Tryz.atoiS_ren.g 16) := by kernel_rfl
theorem tRange : (Tryz.prog.globals[Tryz.atoiS_ren.g 16]?).map (·.type) = some 66 := by kernel_rfl

theorem dFirst : (Rows.laid_unicode_utf8_first : DataW Unit) = Lib.firstData := by kernel_rfl
theorem dAccept : (Rows.laid_unicode_utf8_acceptRanges : DataW Unit) = Lib.acceptData := by kernel_rfl

theorem u8x : U8Extra Tryz.prog Tryz.decodeS_ren := ⟨by kernel_rfl, by kernel_rfl, by kernel_rfl, by kernel_rfl, by kernel_rfl, by kernel_rfl, by kernel_rfl⟩

/-- What the condition gives the walks. -/
theorem gl_any {W : World} {l : List (String × DataW Unit)} (h : laidMet Tryz.prog l W) (m1 : ("strconv.ErrRange", Rows.laid_strconv_ErrRange) ∈ l) (m2 : ("unicode/utf8.first", Rows.laid_unicode_utf8_first) ∈ l) (m3 : ("unicode/utf8.acceptRanges", Rows.laid_unicode_utf8_acceptRanges) ∈ l) : RangeAt W ∧ TabsAt W := by
  constructor
  · obtain ⟨g, t, cs, fuel, p, hg, hty, hvar, hd⟩ := Lib.laidMet.reads h m1
    obtain rfl := Option.some.inj (gRange.symm.trans hg)
    obtain rfl := Option.some.inj (tRange.symm.trans hty)
    have hc := World.var?_cell hg hvar 0
    rcases iface_of hd with e | ⟨u, v, e⟩
    · exact ⟨.nilIface, by rw [hc, ← Array.getElem?_toList, e]; rfl, .inl rfl⟩
    · exact ⟨.iface u v, by rw [hc, ← Array.getElem?_toList, e]; rfl, .inr ⟨u, v, rfl⟩⟩
  · refine utf8Tabs_of_readsT (P := Tryz.prog) (ρ := Tryz.decodeS_ren) { Tryz.decodeS with } u8x ?_ ?_
    · rw [← dFirst]; exact Lib.laidMet.reads h m2
    · rw [← dAccept]; exact Lib.laidMet.reads h m3

end OpenLex
end Go.Proofs.YtinndpnilmmmjaaGreatDoor
