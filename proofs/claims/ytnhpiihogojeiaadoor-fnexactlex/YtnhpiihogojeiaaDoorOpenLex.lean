import Derived.Test.YtnhpiihogojeiaaDoorLawLex
import Derived.Test.YtnhpiihogojeiaaDoorRows
import Derived.ProofKit
import Derived.OpenShut
import Derived.ShutString
import Derived.ChangeOld
import Derived.Below
import Derived.Lib.SmallJoins
import Derived.LaidMore
import Derived.Lay
import Derived.LaidOnce
import Derived.Stop.Joined
import Derived.Lib.LaidTab
import Derived.Lib.LaidU8T
import Derived.SevenTiedAt
namespace Go.Proofs.YtnhpiihogojeiaaDoor
open Go.ChangeShapes Go.WideShapes Go.ChangeAt Go.RowKit Go.Joins
namespace OpenLex

theorem own : ownKnob Tryd.prog.godebug = none := by kernel_rfl
theorem laidOut : laidOutB Tryd.prog = true := by kernel_rfl
theorem cellsByte : Tryd.prog.cellsOf 5 = 1 := by kernel_rfl

/-- An interface's cell holds an interface value. -/
theorem iface_of {W : World} {fuel : Nat} {cs : List Value} {x : DataW Unit × List MemPlace} {sp : Nat → Bool} {held : Bool} (h : DataW.trod (fun _ => ()) Tryd.prog W 0 sp held fuel 67 cs = some x) : cs = [.nilIface] ∨ ∃ u v, cs = [.iface u v] := by
  cases fuel with
  | zero => simp [DataW.trod] at h
  | succ fuel =>
    simp only [DataW.trod, Tryd.underlying67] at h
    split at h <;> simp_all

theorem gRange : Tryd.prog.globalNamed "strconv.ErrRange" = some (Tryd.atoiS_ren.g 16) := by kernel_rfl
theorem tRange : (Tryd.prog.globals[Tryd.atoiS_ren.g 16]?).map (·.type) = some 67 := by kernel_rfl

theorem dFirst : (Rows.laid_unicode_utf8_first : DataW Unit) = Lib.firstData := by kernel_rfl
theorem dAccept : (Rows.laid_unicode_utf8_acceptRanges : DataW Unit) = Lib.acceptData := by kernel_rfl

theorem u8x : U8Extra Tryd.prog Tryd.decodeS_ren := ⟨by kernel_rfl, by kernel_rfl, by kernel_rfl, by kernel_rfl, by kernel_rfl, by kernel_rfl, by kernel_rfl⟩

/-- What the condition gives the walks. -/
theorem gl_of {W : World} (h : laidMet Tryd.prog Rows.fnExactLexRow.laid W) : RangeAt W ∧ TabsAt W := by
  constructor
  · obtain ⟨g, t, cs, fuel, p, hg, hty, hvar, hd⟩ := Lib.laidMet.reads h (n := "strconv.ErrRange") (d := Rows.laid_strconv_ErrRange) (by simp [Rows.fnExactLexRow])
    obtain rfl := Option.some.inj (gRange.symm.trans hg)
    obtain rfl := Option.some.inj (tRange.symm.trans hty)
    have hc := World.var?_cell hg hvar 0
    rcases iface_of hd with e | ⟨u, v, e⟩
    · exact ⟨.nilIface, by rw [hc, ← Array.getElem?_toList, e]; rfl, .inl rfl⟩
    · exact ⟨.iface u v, by rw [hc, ← Array.getElem?_toList, e]; rfl, .inr ⟨u, v, rfl⟩⟩
  · refine utf8Tabs_of_readsT (P := Tryd.prog) (ρ := Tryd.decodeS_ren) { Tryd.decodeS with } u8x ?_ ?_
    · rw [← dFirst]; exact Lib.laidMet.reads h (by simp [Rows.fnExactLexRow])
    · rw [← dAccept]; exact Lib.laidMet.reads h (by simp [Rows.fnExactLexRow])

theorem openBytes {H : Type} {enc : TypeId × Value → H} {W : World} {fuel : Nat} {v : Value} {x : DataW H × List MemPlace} (h : DataW.trod enc Tryd.prog W 0 (fun _ => true) true fuel 22 [v] = some x) :
    ∃ a n cap zs, v = .slice a n cap ∧ RowB W a n zs ∧ ∀ z ∈ zs, 0 ≤ z ∧ z < 256 := by
  rcases open_ints Tryd.underlying22 Tryd.underlying5 cellsByte h with ⟨hcs, _⟩ | ⟨a, len, cap, zs, hcs, _, hl, hm, hz, _, hcell, hwf⟩
  · simp at hcs
    exact ⟨none, 0, 0, [], hcs, ⟨rfl, .inl rfl⟩, fun z hz => by cases hz⟩
  · simp at hcs hz
    refine ⟨some a, len, cap, zs.take len, hcs, ⟨by rw [List.length_take]; omega, ?_⟩, fun z hzm => ?_⟩
    · by_cases h0 : len = 0
      · exact .inl h0
      · right
        obtain ⟨b, off, spot⟩ := a
        have hc0 := hcell 0 (by omega)
        have hspot : spot = none := by simpa [Addr.add] using World.cell?_spot hc0
        subst hspot
        refine ⟨b, off, rfl, World.block_lt_of_cell? W _ hc0, fun i hi => ?_⟩
        have hadd : (⟨b, off, none⟩ : Addr).add i = ⟨b, off + i, none⟩ := by by_cases h : i = 0 <;> simp [Addr.add, h]
        rw [← hadd, hcell i (by omega)]
        simp only [List.getD_eq_getElem?_getD, List.getElem?_take]
        rw [if_pos hi]
    · obtain ⟨i, hi⟩ := List.mem_iff_getElem?.1 (List.mem_of_mem_take hzm)
      have hb := range_u8 hwf i
      rw [hi] at hb
      simp at hb
      omega

/-- The text of some bytes. -/
theorem bz_bstr {zs : List Int} (h : ∀ z ∈ zs, 0 ≤ z ∧ z < 256) : bz (bstr zs) = zs := by
  rw [bz_uz]
  unfold uz bstr
  rw [List.map_map]
  refine (List.map_congr_left (g := id) fun z hz => ?_).trans (List.map_id zs)
  have := h z hz
  show ((z.toNat.toUInt8.toNat : Nat) : Int) = z
  rw [Nat.toUInt8, UInt8.toNat_ofNat']
  omega

theorem law_any (a : Option Addr) (n c : Nat) (zs : List Int) (w : World) (h : RowB w a n zs) (hz : ∀ z ∈ zs, 0 ≤ z ∧ z < 256) (hG : RangeAt w ∧ TabsAt w) :
    Calls Tryd.prog 3 #[.slice a n c] w fun e w' => e = .returned (.bool true) ∧ Below w.heap.size w w' := by
  by_cases hn : n ≤ 1048576
  · have hs : (bstr zs).size = n := by rw [bstr_size]; exact h.len
    have h' : RowB w a (bstr zs).size (bz (bstr zs)) := by rw [hs, bz_bstr hz]; exact h
    have := LawLex.law_small a c (bstr zs) w h' (by omega) hG.1 hG.2
    rw [hs] at this
    exact this
  · exact LawLex.law_big a n c w (by omega)

set_option maxRecDepth 100000 in
theorem lifted (os : Os) (started : os.Started) (H : Type) (enc : TypeId × Value → H) :
    ReturnsInHanded {} Tryd.checked os 3 .any (fun w args => (Rows.fnExactLexSpec.pre enc Tryd.prog Tryd.f3 [] false w args ∧ laidMetH Tryd.prog Rows.fnExactLexRow.laid w) ∧ sizedMet enc Tryd.prog Tryd.f3 (OpenSpec.ofChange Rows.fnExactLexSpec) false w args) (Rows.fnExactLexSpec.post enc Tryd.prog Tryd.f3 false true false false) := by
  refine returnsInHanded_of_change_and (C := Tryd.checked) (X := fun w _ => laidMetH Tryd.prog Rows.fnExactLexRow.laid w) (fun _ _ _ hh h => h.of_heap hh) own started (by kernel_rfl) Tryd.func3
    (ChangeSpec.witness_shaped (enc := enc) (C := Tryd.checked) (os := os) (X := fun w _ => laidMetH Tryd.prog Rows.fnExactLexRow.laid w) false (World.laidAll Tryd.prog os Rows.fnExactLexRow.laid) #[.slice none 0 0] 8 (World.laidAll_os _ _ _)
      (World.shaped_of_ZipB (by kernel_rfl) (by kernel_rfl)) (by kernel_rfl) (by kernel_rfl) (by kernel_rfl)
      (by rw [MakeChecks.laidMetH_plain _ _ _ (by kernel_rfl)]; exact laidMet_laidAll _ (by kernel_rfl) (by kernel_rfl))) ?_
  intro W base args ds gs before hval0 hW _ _ hL _
  have hval : ∀ (j : Nat) t v, Tryd.f3.params[j]? = some t → args[j]? = some v → Value.okWide Tryd.prog W .any base t v := hval0
  have hW' := hW
  obtain ⟨p, q, hA0, hV, rfl, hfz, hnd⟩ := hW
  have hA : DataW.TrodAll enc Tryd.prog W 0 (fun _ => true) true Tryd.f3.params.toList args.toList ds p := hA0
  rw [Tryd.params3] at hA hval
  obtain ⟨v0, vs0, d0, ds0, p0, q0, hargs, rfl, rfl, h0, r0⟩ := trodAll_cons hA
  obtain ⟨rfl, rfl, rfl⟩ := trodAll_nil r0
  obtain rfl : args = #[v0] := by cases args; simp_all
  obtain ⟨rfl, rfl⟩ := trodVars_none hV
  rw [MakeChecks.laidMetH_plain _ _ _ (by kernel_rfl)] at hL
  have hG := gl_of hL
  have k0 := h0
  have lt0 : ∀ x ∈ p0, x.block < W.heap.size := by obtain ⟨m, hm⟩ := k0; exact DataW.trod_lt m _ _ _ hm
  have hv0 := hval 0 22 v0 rfl rfl
  obtain ⟨a1, l1, c1, rfl⟩ := okWide_slice Tryd.underlying22 hv0
  obtain ⟨fuel, hf⟩ := h0
  obtain ⟨a, n, c, zs, hv, hby, hz⟩ := openBytes hf
  cases hv
  clear hA0 hval0
  refine (law_any _ _ _ zs W hby hz hG).mono fun e W' ⟨he, bel⟩ => ?_
  subst he
  exact ⟨_, rfl, _, _, _, [], _, [], hW', trodAll_mk1 (shut_bool Tryd.underlying4 _), (trodAll_cons_mk (Below.trod laidOut (by kernel_rfl) (of_decide_eq_true (by kernel_rfl)) k0 bel lt0) trodAll_mk0), rfl, bel.frame _, fun h => by cases h⟩

theorem over : Rows.FnExactLexSaid :=
  OpenClaim.holds_of_wide 3 Tryd.f3 rfl rfl rfl rfl rfl rfl rfl ⟨rfl, rfl, rfl, rfl, rfl⟩ rfl rfl rfl rfl rfl (by kernel_rfl) Tryd.func3 (by kernel_rfl)
    (of_decide_eq_true (by kernel_rfl)) (by unfold Func.isWrapper; first | (rw [if_pos (by decide +kernel)]; kernel_rfl) | (rw [if_neg (by decide +kernel)]; exact ⟨rfl, rfl⟩))
    (fun os started H enc _ => lifted os started H enc)

end OpenLex
end Go.Proofs.YtnhpiihogojeiaaDoor
