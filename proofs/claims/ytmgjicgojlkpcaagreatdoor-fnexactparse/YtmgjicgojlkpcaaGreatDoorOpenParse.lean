import Derived.Test.YtmgjicgojlkpcaaGreatDoorLawParse
import Derived.Test.YtmgjicgojlkpcaaGreatDoorOpenBytes
import Derived.Test.YtmgjicgojlkpcaaGreatDoorOpenTokB
import Derived.LaidHandle
import Derived.Stop.LaidErr
namespace Go.Proofs.YtmgjicgojlkpcaaGreatDoor
open Go.ChangeShapes Go.WideShapes Go.ChangeAt Go.RowKit Go.Joins
namespace OpenParse
open OpenLex (own laidOut gl_any openBytes bz_bstr)
open OpenTok (wrap glT_any)

theorem gE : Tryz.prog.globalNamed "loop.example/s02542/impl.errNoLine" = some 1 := by kernel_rfl
theorem tE : (Tryz.prog.globals[1]?).map (·.type) = some 66 := by kernel_rfl
theorem star : "*" ++ "errors.errorString" = "*errors.errorString" := by decide
theorem rowErr (u : TypeId) (h : Tryz.prog.typeName? 3 u = some "*errors.errorString") : u = 236 :=
  typeName_ptr_named (nm := "errors.errorString") (by rw [star]; kernel_rfl) (by kernel_rfl) (by decide) u (by rw [star]; exact h)
theorem cellsErr : Tryz.prog.cellsOf 238 = 1 := by kernel_rfl
theorem cellsStr : Tryz.prog.cellsOf 9 = 1 := by kernel_rfl
theorem et : Tryz.prog.globalNamed "errors.errorType" = some 0 := by kernel_rfl
theorem rt : (Tryz.prog.cutTypes.find? (·.1 == "internal/reflectlite.rtype")).map (·.2) = some 169 := by kernel_rfl
theorem oneRow : ((List.range 267).filter fun t => Tryz.prog.rowNamed t [101, 114, 114, 111, 114]) = [66] := by kernel_rfl
theorem size : Tryz.prog.types.size = 267 := by kernel_rfl

/-- The listed variables that are no handles. -/
def plainL : List (String × DataW Unit) := [("math/bits.deBruijn32tab", Rows.laid_math_bits_deBruijn32tab), ("math/bits.deBruijn64tab", Rows.laid_math_bits_deBruijn64tab), ("internal/strconv.uint64pow10", Rows.laid_internal_strconv_uint64pow10), ("unicode/utf8.acceptRanges", Rows.laid_unicode_utf8_acceptRanges), ("strconv.ErrRange", Rows.laid_strconv_ErrRange), ("strconv.ErrSyntax", Rows.laid_strconv_ErrSyntax), ("loop.example/s02542/impl.errNoLine", Rows.laid_loop_example_s02542_impl_errNoLine), ("unicode/utf8.first", Rows.laid_unicode_utf8_first)]
theorem plain_eq : (Rows.fnExactParseRow.laid.filter fun x => x.2.handleName?.isNone) = plainL := by kernel_rfl
theorem hand_eq : (Rows.fnExactParseRow.laid.filter fun x => x.2.handleName?.isSome) = [("errors.errorType", Rows.laid_errors_errorType)] := by kernel_rfl

theorem laid_parts {W : World} (h : laidMetH Tryz.prog Rows.fnExactParseRow.laid W) : laidMet Tryz.prog plainL W ∧ handlesMet Tryz.prog [("errors.errorType", Rows.laid_errors_errorType)] W := by
  unfold laidMetH at h
  rw [hand_eq, plain_eq] at h
  exact h

theorem handle_of {W : World} (h : handlesMet Tryz.prog [("errors.errorType", Rows.laid_errors_errorType)] W) : W.cell? ⟨0, 0, none⟩ = some (.iface 169 (.agg #[.pointer (some ⟨10, 66, none⟩)])) := by
  obtain ⟨name, u, ty, e1, e2, e3, e4, e5⟩ := h _ (List.mem_singleton.2 rfl)
  have en : name = [101, 114, 114, 111, 114] := (Option.some.inj e1).symm
  subst en
  obtain rfl := Option.some.inj (rt.symm.trans e2)
  have hm : ty ∈ (List.range 267).filter fun t => Tryz.prog.rowNamed t [101, 114, 114, 111, 114] := List.mem_filter.2 ⟨List.mem_range.2 (by rw [← size]; exact e3), e4⟩
  rw [oneRow] at hm
  obtain rfl := List.mem_singleton.1 hm
  have hh : typeHandle Tryz.prog 66 = .pointer (some ⟨10, 66, none⟩) := by kernel_rfl
  rw [hh] at e5
  simpa using World.var?_cell et e5 0

theorem err_of {W : World} (h : laidMet Tryz.prog plainL W) : ∃ a, W.var? Tryz.prog "loop.example/s02542/impl.errNoLine" = some #[.iface 236 (.pointer (some a))] := by
  obtain ⟨a, _, hv, _⟩ := laid_sentinel h.tail.tail.tail.tail.tail.tail gE tE Tryz.underlying66 rowErr Tryz.underlying236 Tryz.underlying238 rfl rfl Tryz.underlying9 cellsErr cellsStr
  exact ⟨a, hv⟩

theorem var_belowP {W W' : World} {n : String} {cs : Array Value} (h : W.var? Tryz.prog n = some cs) (hb : Below W.heap.size W W') : W'.var? Tryz.prog n = some cs := by
  unfold World.var? at h ⊢
  cases hg : Tryz.prog.globalNamed n with
  | none => simp [hg] at h
  | some g =>
    simp only [hg, Option.bind_some] at h ⊢
    have hlt : g < W.heap.size := by
      cases hh : W.heap[g]? with
      | none => rw [hh] at h; cases h
      | some o => exact (Array.getElem?_eq_some_iff.1 hh).1
    rw [hb.block g hlt]; exact h

/-- A world that meets the condition. -/
noncomputable def heldW (os : Os) : World :=
  let w0 := World.holding Tryz.prog os ⟨#[], #[], []⟩
  { w0 with heap := w0.heap.modify 0 fun
      | .cells _ t frozen => .cells #[.iface 169 (.agg #[.pointer (some ⟨10, 66, none⟩)])] t frozen
      | o => o }
noncomputable def laidW (os : Os) : World := (heldW os).layVars Tryz.prog plainL
theorem laidW_os (os : Os) : (laidW os).os = os := (World.layVars_os _ _ _).trans rfl
theorem laidW_plain (os : Os) (args : Array Value) (hf : (heldW os).layFits Tryz.prog plainL [] = true) (hi : (heldW os).layIfaces Tryz.prog plainL (laidW os) = true) : laidMet Tryz.prog plainL ((laidW os).forCall (fun _ _ => 0) ⟨#[], args, []⟩).memory := by
  have e1 : (plainL.filter fun x => (plainL.map (·.1)).contains x.1) = plainL := List.filter_eq_self.2 fun x hx => List.contains_iff_mem.2 (List.mem_map.2 ⟨x, hx, rfl⟩)
  have e2 : (plainL.filter fun x => !(plainL.map (·.1)).contains x.1) = [] := List.filter_eq_nil_iff.2 fun x hx => by rw [List.contains_iff_mem.2 (List.mem_map.2 ⟨x, hx, rfl⟩)]; simp
  have h : laidMet Tryz.prog plainL (laidW os) := laidMet_layVars (w0 := heldW os) (plainL.map (·.1)) [] (by rw [e1]; rfl) (by rw [e1]; exact hf) (by rw [e1]; exact hi) (by rw [e2]; exact LaidIn.none)
  exact h.of_heap (by simp [World.memory, World.forCall, Input.heap])
theorem laidW_met (os : Os) (args : Array Value) : laidMetH Tryz.prog Rows.fnExactParseRow.laid ((laidW os).forCall (fun _ _ => 0) ⟨#[], args, []⟩).memory :=
  laidMetH_of_parts (by rw [plain_eq]; exact laidW_plain os args (by kernel_rfl) (by kernel_rfl)) (by rw [hand_eq]; kernel_rfl)

theorem law_any (a : Option Addr) (n c : Nat) (zs : List Int) (w : World) (h : RowB w a n zs) (hz : ∀ z ∈ zs, 0 ≤ z ∧ z < 256) (hG : GlP w) :
    Calls Tryz.prog 5 #[.slice a n c] w fun e w' => e = .returned (.bool true) ∧ Below w.heap.size w w' := by
  by_cases hn : n ≤ 1048576
  · have hs : (bstr zs).size = n := by rw [bstr_size]; exact h.len
    have h' : RowB w a (bstr zs).size (bz (bstr zs)) := by rw [hs, bz_bstr hz]; exact h
    have := LawParse.law_small a c (bstr zs) w h' (by omega) hG
    rw [hs] at this
    exact this
  · exact LawParse.law_big a n c w (by omega)

set_option maxRecDepth 100000 in
theorem lifted (os : Os) (started : os.Started) (H : Type) (enc : TypeId × Value → H) :
    ReturnsInHanded {} Tryz.checked os 5 .any (fun w args => (Rows.fnExactParseSpec.pre enc Tryz.prog Tryz.f5 [] false w args ∧ laidMetH Tryz.prog Rows.fnExactParseRow.laid w) ∧ sizedMet enc Tryz.prog Tryz.f5 (OpenSpec.ofChange Rows.fnExactParseSpec) false w args) (Rows.fnExactParseSpec.post enc Tryz.prog Tryz.f5 false true false false) := by
  refine wrap (C := Tryz.checked) (X := fun w _ => laidMetH Tryz.prog Rows.fnExactParseRow.laid w) (fun _ _ _ hh h => h.of_heap hh) own started (by kernel_rfl) Tryz.func5
    (ChangeSpec.witness_shaped (enc := enc) (C := Tryz.checked) (os := os) (X := fun w _ => laidMetH Tryz.prog Rows.fnExactParseRow.laid w) false (laidW os) #[.slice none 0 0] 8 (laidW_os os)
      (World.shaped_of_ZipB (by kernel_rfl) (by kernel_rfl)) (by kernel_rfl) (by kernel_rfl) (by kernel_rfl) (laidW_met os _)) ?_
  intro W base args ds gs before hval0 hW hL hsh
  have hval : ∀ (j : Nat) t v, Tryz.f5.params[j]? = some t → args[j]? = some v → Value.okWide Tryz.prog W .any base t v := hval0
  have hW' := hW
  obtain ⟨p, q, hA0, hV0, rfl, hfz, hnd⟩ := hW
  have hA : DataW.TrodAll enc Tryz.prog W 0 (fun _ => true) true Tryz.f5.params.toList args.toList ds p := hA0
  have hV : DataW.TrodVars enc Tryz.prog W (fun _ => true) ["loop.example/s02542/impl.errNoLine"] gs q := hV0
  rw [Tryz.params5] at hA hval
  obtain ⟨v0, vs0, d0, ds0, p0, q0, hargs, rfl, rfl, h0, r0⟩ := trodAll_cons hA
  obtain ⟨rfl, rfl, rfl⟩ := trodAll_nil r0
  obtain rfl : args = #[v0] := by cases args; simp_all
  obtain ⟨hP, hH⟩ := laid_parts hL
  obtain ⟨ga, hv⟩ := err_of hP
  have vr : ∀ {X : World}, X.var? Tryz.prog "loop.example/s02542/impl.errNoLine" = some #[.iface 236 (.pointer (some ga))] → ∀ sp : Nat → Bool,
      DataW.TrodVars enc Tryz.prog X sp ["loop.example/s02542/impl.errNoLine"] [tok enc (.iface 236 (.pointer (some ga)))] [.cell 1 0] :=
    fun x sp => vars_read1 enc gE tE Tryz.underlying66 x trivial sp
  obtain ⟨rfl, rfl⟩ := hV.unique (vr hv _)
  have hG := glT_any hP (by simp [plainL]) hsh
  have hG2 := gl_any hP (by simp [plainL]) (by simp [plainL]) (by simp [plainL])
  have hGP : GlP W := ⟨⟨hG, hG2.1, hG2.2⟩, ⟨_, ga, by simpa using World.var?_cell gE hv 0⟩, handle_of hH⟩
  have k0 := h0
  have lt0 : ∀ x ∈ p0, x.block < W.heap.size := by obtain ⟨m, hm⟩ := k0; exact DataW.trod_lt m _ _ _ hm
  have hv0 := hval 0 33 v0 rfl rfl
  obtain ⟨a1, l1, c1, rfl⟩ := okWide_slice Tryz.underlying33 hv0
  obtain ⟨fuel, hf⟩ := h0
  obtain ⟨a, n, c, zs, hvv, hby, hz⟩ := openBytes hf
  cases hvv
  clear hA0 hval0 hV0 hV
  refine (law_any _ _ _ zs W hby hz hGP).mono fun e W' ⟨he, bel⟩ => ?_
  subst he
  exact ⟨_, rfl, _, _, _, [], _, _, hW', trodAll_mk1 (shut_bool Tryz.underlying4 _), (trodAll_cons_mk (Below.trod laidOut (by kernel_rfl) (of_decide_eq_true (by kernel_rfl)) k0 bel lt0) trodAll_mk0), vr (var_belowP hv bel) _, bel.frame _, fun h => by cases h⟩

theorem over : Rows.FnExactParseSaid :=
  OpenClaim.holds_of_wide 5 Tryz.f5 rfl rfl rfl rfl rfl rfl rfl ⟨rfl, rfl, rfl, rfl, rfl⟩ rfl rfl rfl rfl rfl (by kernel_rfl) Tryz.func5 (by kernel_rfl)
    (of_decide_eq_true (by kernel_rfl)) (by unfold Func.isWrapper; first | (rw [if_pos (by decide +kernel)]; kernel_rfl) | (rw [if_neg (by decide +kernel)]; exact ⟨rfl, rfl⟩))
    (fun os started H enc _ => lifted os started H enc)

end OpenParse
end Go.Proofs.YtmgjicgojlkpcaaGreatDoor
