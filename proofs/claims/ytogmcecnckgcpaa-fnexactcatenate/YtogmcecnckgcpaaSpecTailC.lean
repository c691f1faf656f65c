import Derived.Test.YtogmcecnckgcpaaTailLaw
import Derived.Laws.EntriesVeiled
namespace Go.Proofs.Ytogmcecnckgcpaa
open Go.RowKit

def opsTC : Array Oper :=
  #[{ dst := some 108, op := Op.fieldAddr 27 (Operand.tmp 2) 0, type := 0, pos := "l5_shape.go:89", after := #[], guard := none },
    { dst := some 109, op := Op.load 4 (Operand.tmp 108), type := 4, pos := "l5_shape.go:89", after := #[{ on := 0, ground := Ground.data }], guard := none },
    { dst := some 110, op := Op.fieldAddr 27 (Operand.tmp 2) 1, type := 0, pos := "l5_shape.go:89", after := #[], guard := none },
    { dst := some 111, op := Op.load 22 (Operand.tmp 110), type := 22, pos := "l5_shape.go:89", after := #[{ on := 2, ground := Ground.data }], guard := none },
    { dst := some 112, op := Op.call { callee := Callee.value (Operand.func 55), args := #[Operand.tmp 111, Operand.const (Value.bool false)], argTypes := #[22, 4] }, type := 22, pos := "l5_shape.go:89", after := #[{ on := 3, ground := Ground.data }], guard := none },
    { dst := some 113, op := Op.move (Operand.tmp 9), type := 3, pos := "l5_shape.go:89", after := #[], guard := none },
    { dst := some 114, op := Op.move (Operand.tmp 12), type := 3, pos := "l5_shape.go:89", after := #[], guard := none },
    { dst := some 115, op := Op.binOp BinOp.add 3 (Operand.tmp 113) (Operand.tmp 114) 3, type := 3, pos := "l5_shape.go:89", after := #[{ on := 5, ground := Ground.data }, { on := 6, ground := Ground.data }], guard := none },
    { dst := some 116, op := Op.buildSlice 22 1 #[(0, Operand.tmp 115)], type := 22, pos := "l5_shape.go:89", after := #[{ on := 7, ground := Ground.data }], guard := none },
    { dst := some 117, op := Op.call { callee := Callee.builtin Builtin.append, args := #[Operand.tmp 112, Operand.tmp 116], argTypes := #[22, 22] }, type := 22, pos := "l5_shape.go:89", after := #[{ on := 4, ground := Ground.data }, { on := 8, ground := Ground.data }, { on := 4, ground := Ground.chain }], guard := none },
    { dst := some 118, op := Op.buildSlice 22 0 #[], type := 22, pos := "l5_shape.go:89", after := #[], guard := none },
    { dst := some 119, op := Op.build 27 #[(0, Operand.tmp 109), (1, Operand.tmp 117), (2, Operand.tmp 118)], type := 27, pos := "l5_shape.go:89", after := #[{ on := 1, ground := Ground.data }, { on := 9, ground := Ground.data }, { on := 10, ground := Ground.data }], guard := none },
    { dst := some 14, op := Op.alloc 27, type := 0, pos := "l5_shape.go:89", after := #[], guard := none },
    { dst := none, op := Op.store 27 (Operand.tmp 14) (Operand.tmp 119), type := 0, pos := "l5_shape.go:89", after := #[{ on := 12, ground := Ground.data }, { on := 11, ground := Ground.data }, { on := 9, ground := Ground.chain }, { on := 0, ground := Ground.phase }, { on := 1, ground := Ground.phase }, { on := 2, ground := Ground.phase }, { on := 3, ground := Ground.phase }, { on := 4, ground := Ground.phase }, { on := 5, ground := Ground.phase }, { on := 6, ground := Ground.phase }, { on := 7, ground := Ground.phase }, { on := 8, ground := Ground.phase }, { on := 9, ground := Ground.phase }, { on := 10, ground := Ground.phase }, { on := 11, ground := Ground.phase }, { on := 12, ground := Ground.phase }], guard := none }]

/-- The frame: what is done. -/
def frTC (a : Act) (c : Bool) (nf : Nat) (dC dM dP dE dB dZ : Bool) (cv : Value) (m pg pc e z : Nat) : Act :=
  pt dZ 14 (.pointer (some ⟨z, 0, none⟩)) (pt dB 119 (.agg #[.bool c, .slice (some ⟨pg, 0, none⟩) (nf + 1) pc, .slice (some ⟨e, 0, none⟩) 0 0]) (pt dE 118 (.slice (some ⟨e, 0, none⟩) 0 0) (pt dP 117 (.slice (some ⟨pg, 0, none⟩) (nf + 1) pc) (pt dM 116 (.slice (some ⟨m, 0, none⟩) 1 1) (pt dC 112 cv a)))))

section
variable (a : Act) (c : Bool) (nf : Nat) (dC dM dP dE dB dZ : Bool) (cv : Value) (m pg pc e z : Nat)
theorem frTC_C (v : Value) : (frTC a c nf false dM false dE false dZ cv m pg pc e z).put (some 112) v = frTC a c nf true dM false dE false dZ v m pg pc e z := by
  unfold frTC
  repeat rw [pt_comm _ _ _ _ _ _ (by decide)]
  all_goals rfl

theorem frTC_M (m' : Nat) : (frTC a c nf dC false false dE false dZ cv m pg pc e z).put (some 116) (.slice (some ⟨m', 0, none⟩) 1 1) = frTC a c nf dC true false dE false dZ cv m' pg pc e z := by
  unfold frTC
  repeat rw [pt_comm _ _ _ _ _ _ (by decide)]
  all_goals rfl

theorem frTC_P (g k : Nat) : (frTC a c nf true true false dE false dZ cv m pg pc e z).put (some 117) (.slice (some ⟨g, 0, none⟩) (nf + 1) k) = frTC a c nf true true true dE false dZ cv m g k e z := by
  unfold frTC
  repeat rw [pt_comm _ _ _ _ _ _ (by decide)]
  all_goals rfl

theorem frTC_E (e' : Nat) : (frTC a c nf dC dM dP false false dZ cv m pg pc e z).put (some 118) (.slice (some ⟨e', 0, none⟩) 0 0) = frTC a c nf dC dM dP true false dZ cv m pg pc e' z := by
  unfold frTC
  repeat rw [pt_comm _ _ _ _ _ _ (by decide)]
  all_goals rfl

theorem frTC_B : (frTC a c nf dC dM true true false dZ cv m pg pc e z).put (some 119) (.agg #[.bool c, .slice (some ⟨pg, 0, none⟩) (nf + 1) pc, .slice (some ⟨e, 0, none⟩) 0 0]) = frTC a c nf dC dM true true true dZ cv m pg pc e z := by
  unfold frTC
  repeat rw [pt_comm _ _ _ _ _ _ (by decide)]
  all_goals rfl

theorem frTC_Z (z' : Nat) : (frTC a c nf dC dM dP dE dB false cv m pg pc e z).put (some 14) (.pointer (some ⟨z', 0, none⟩)) = frTC a c nf dC dM dP dE dB true cv m pg pc e z' := by
  unfold frTC
  repeat rw [pt_comm _ _ _ _ _ _ (by decide)]
  all_goals rfl

theorem frTC_e109 : (frTC a c nf dC dM dP dE dB dZ cv m pg pc e z).eval (.tmp 109) = a.eval (.tmp 109) := by
  unfold frTC
  repeat rw [pt_eval _ _ _ _ _ (by decide)]

theorem frTC_e111 : (frTC a c nf dC dM dP dE dB dZ cv m pg pc e z).eval (.tmp 111) = a.eval (.tmp 111) := by
  unfold frTC
  repeat rw [pt_eval _ _ _ _ _ (by decide)]

theorem frTC_e115 : (frTC a c nf dC dM dP dE dB dZ cv m pg pc e z).eval (.tmp 115) = a.eval (.tmp 115) := by
  unfold frTC
  repeat rw [pt_eval _ _ _ _ _ (by decide)]

theorem frTC_e112 (h : 120 ≤ a.tmps.size) : (frTC a c nf true dM dP dE dB dZ cv m pg pc e z).eval (.tmp 112) = cv := by
  unfold frTC
  repeat rw [pt_eval _ _ _ _ _ (by decide)]
  exact pt_same _ _ _ (by first | omega | (simp only [pt_size]; omega))

theorem frTC_e116 (h : 120 ≤ a.tmps.size) : (frTC a c nf dC true dP dE dB dZ cv m pg pc e z).eval (.tmp 116) = .slice (some ⟨m, 0, none⟩) 1 1 := by
  unfold frTC
  repeat rw [pt_eval _ _ _ _ _ (by decide)]
  exact pt_same _ _ _ (by first | omega | (simp only [pt_size]; omega))

theorem frTC_e117 (h : 120 ≤ a.tmps.size) : (frTC a c nf dC dM true dE dB dZ cv m pg pc e z).eval (.tmp 117) = .slice (some ⟨pg, 0, none⟩) (nf + 1) pc := by
  unfold frTC
  repeat rw [pt_eval _ _ _ _ _ (by decide)]
  exact pt_same _ _ _ (by first | omega | (simp only [pt_size]; omega))

theorem frTC_e118 (h : 120 ≤ a.tmps.size) : (frTC a c nf dC dM dP true dB dZ cv m pg pc e z).eval (.tmp 118) = .slice (some ⟨e, 0, none⟩) 0 0 := by
  unfold frTC
  repeat rw [pt_eval _ _ _ _ _ (by decide)]
  exact pt_same _ _ _ (by first | omega | (simp only [pt_size]; omega))

theorem frTC_e119 (h : 120 ≤ a.tmps.size) : (frTC a c nf dC dM dP dE true dZ cv m pg pc e z).eval (.tmp 119) = .agg #[.bool c, .slice (some ⟨pg, 0, none⟩) (nf + 1) pc, .slice (some ⟨e, 0, none⟩) 0 0] := by
  unfold frTC
  repeat rw [pt_eval _ _ _ _ _ (by decide)]
  exact pt_same _ _ _ (by first | omega | (simp only [pt_size]; omega))

theorem frTC_e14 (h : 120 ≤ a.tmps.size) : (frTC a c nf dC dM dP dE dB true cv m pg pc e z).eval (.tmp 14) = .pointer (some ⟨z, 0, none⟩) := by
  unfold frTC
  repeat rw [pt_eval _ _ _ _ _ (by decide)]
  exact pt_same _ _ _ (by first | omega | (simp only [pt_size]; omega))

end

def rsTC (dC dM dP dE dB dZ : Bool) : List Nat :=
  (if dC then [] else [4]) ++ (if dM then [] else [8]) ++ (if dC && dM && !dP then [9] else []) ++ (if dE then [] else [10]) ++ (if dP && dE && !dB then [11] else []) ++ (if dZ then [] else [12]) ++ (if dC && dM && dP && dE && dB && dZ then [13] else [])

theorem readyTC : ∀ dC dM dP dE dB dZ : Bool, Region.ready .any opsTC #[true, true, true, true, dC, true, true, true, dM, dP, dE, dB, dZ, false] = rsTC dC dM dP dE dB dZ := by
  intro dC dM dP dE dB dZ
  cases dC <;> cases dM <;> cases dP <;> cases dE <;> cases dB <;> cases dZ <;> kernel_rfl

theorem rsTC_in {dC dM dP dE dB dZ : Bool} {i : Nat} (h : i ∈ rsTC dC dM dP dE dB dZ) : (i = 4 ∧ dC = false) ∨ (i = 8 ∧ dM = false) ∨ (i = 9 ∧ dC = true ∧ dM = true ∧ dP = false) ∨ (i = 10 ∧ dE = false) ∨ (i = 11 ∧ dP = true ∧ dE = true ∧ dB = false) ∨ (i = 12 ∧ dZ = false) ∨ (i = 13 ∧ dC = true ∧ dM = true ∧ dP = true ∧ dE = true ∧ dB = true ∧ dZ = true) := by
  cases dC <;> cases dM <;> cases dP <;> cases dE <;> cases dB <;> cases dZ <;> simp [rsTC] at h ⊢ <;> first | exact h | omega

theorem rsTC_ne (dC dM dP dE dB dZ : Bool) (h1 : dP = true → dC = true ∧ dM = true) (h2 : dB = true → dP = true ∧ dE = true) : rsTC dC dM dP dE dB dZ ≠ [] := by
  cases dC <;> cases dM <;> cases dP <;> cases dE <;> cases dB <;> cases dZ <;> first | simp [rsTC] | simp at h1 h2

theorem drawTC {Q : Exit → Act → World → Prop} {S : World → Prop} (a : Act) (W : World) (hsz : 120 ≤ a.tmps.size) (c : Bool) (sv : Value) (hc : a.eval (.tmp 109) = .bool c) (hs : a.eval (.tmp 111) = sv) (x : Int) (hx : a.eval (.tmp 115) = .int .i64 x) (nf : Nat) (hnf : nf ≤ 10000) (fr : List Int)
    (HK : ∀ wx, Below W.heap.size W wx → S wx)
    (HC : ∀ wx, Below W.heap.size W wx → Calls Try.prog 55 #[sv, .bool false] wx fun e w' => ∃ a' cap', e = .returned (.slice a' nf cap') ∧ w'.ownsRow wx.heap.size 3 1 (.slice a' nf cap') nf (fr.map (Value.int .i64)) ∧ Below wx.heap.size wx w')
    (hend : ∀ z e pg pc m cv wx, Box wx z c (.slice (some ⟨pg, 0, none⟩) (nf + 1) pc) (.slice (some ⟨e, 0, none⟩) 0 0) → Blk wx e [] → wx.ownsRow W.heap.size 3 1 (.slice (some ⟨pg, 0, none⟩) (nf + 1) pc) (nf + 1) ((fr ++ [x]).map (Value.int .i64)) → Below W.heap.size W wx → W.heap.size ≤ z → W.heap.size ≤ e → pg ≠ e → pg ≠ z → Q .normal (frTC a c nf true true true true true true cv m pg pc e z) wx) :
    ∀ (fuel : Nat) (dC dM dP dE dB dZ : Bool) (cv : Value) (m pg pc e z : Nat) (w : World), (dP = true → dC = true ∧ dM = true) → (dB = true → dP = true ∧ dE = true) → n4 dC + n4 dM + n4 dP + n4 dE + n4 dB + n4 dZ + 1 ≤ fuel → InT W fr x nf dC dM dP dE dZ cv (.slice (some ⟨pg, 0, none⟩) (nf + 1) pc) m e z w →
      wpAnyH Try.prog .any opsTC Q S fuel #[true, true, true, true, dC, true, true, true, dM, dP, dE, dB, dZ, false] (frTC a c nf dC dM dP dE dB dZ cv m pg pc e z) w := by
  obtain ⟨i0, hi0, hz0, hz1, hz2⟩ := info_parts info_int
  intro fuel
  induction fuel with
  | zero => intro dC dM dP dE dB dZ cv m pg pc e z w _ _ h; omega
  | succ fuel ih =>
    intro dC dM dP dE dB dZ cv m pg pc e z w hv1 hv2 hn hI
    refine wpAnyH_all (readyTC dC dM dP dE dB dZ) (rsTC_ne dC dM dP dE dB dZ hv1 hv2) ?_
    intro i hi
    obtain ⟨rfl, rfl⟩ | ⟨rfl, rfl⟩ | ⟨rfl, rfl, rfl, rfl⟩ | ⟨rfl, rfl⟩ | ⟨rfl, rfl, rfl, rfl⟩ | ⟨rfl, rfl⟩ | ⟨rfl, rfl, rfl, rfl, rfl, rfl, rfl⟩ := rsTC_in hi
    · obtain rfl : dP = false := by cases dP with
        | false => rfl
        | true => exact absurd (hv1 rfl).1 (by decide)
      obtain rfl : dB = false := by cases dB with
        | false => rfl
        | true => exact absurd (hv2 rfl).1 (by decide)
      refine op_without (.tmp 111) sv (nf := nf) (fr := fr) rfl rfl rfl (by rw [frTC_e111, hs]) (HC _ hI.hb) ?_
      intro a' cap' w' ho hb
      have hI' := hI.C hb ho
      refine ⟨HK _ hI'.hb, ?_⟩
      have := ih true dM false dE false dZ (.slice a' nf cap') m pg pc e z w' (by simp) (by simp) (by simp [n4] at hn ⊢; omega) hI'
      exact (frTC_C a c nf dM dE dZ cv m pg pc e z (.slice a' nf cap')) ▸ this
    · obtain rfl : dP = false := by cases dP with
        | false => rfl
        | true => exact absurd (hv1 rfl).2 (by decide)
      obtain rfl : dB = false := by cases dB with
        | false => rfl
        | true => exact absurd (hv2 rfl).1 (by decide)
      refine op_one (.tmp 115) x rfl rfl rfl (by rw [frTC_e115, hx]) ?_
      have hI' := hI.M
      refine ⟨HK _ hI'.hb, ?_⟩
      have := ih dC true false dE false dZ cv w.heap.size pg pc e z _ (by simp) (by simp) (by simp [n4] at hn ⊢; omega) hI'
      exact (frTC_M a c nf dC dE dZ cv m pg pc e z w.heap.size) ▸ this
    · obtain rfl : dB = false := by cases dB with
        | false => rfl
        | true => exact absurd (hv2 rfl).1 (by decide)
      refine op_go rfl rfl ?_
      refine wp_append_lies _ (.tmp 112) (.tmp 116) 22 rfl W.heap.size 3 i0 _ 1 8 Try.underlying22 hi0 hz0 hz1 hz2 rfl (by omega) cv nf (fr.map (Value.int .i64)) (frTC_e112 a c nf true false dE false dZ cv m pg pc e z hsz) (hI.hC rfl rfl) ⟨m, 0, none⟩ 1 1 [.int .i64 x] (frTC_e116 a c nf true false dE false dZ cv m pg pc e z hsz) (by rfl) (blk_one_cells (hI.hM rfl rfl)) (one_one _) (by omega) (by unfold maxLen; omega) (by omega) hI.hb.size _ rfl ?_
      intro g cap w' ho hg hat _
      have hI' := hI.P ho hg hat
      refine ⟨HK _ hI'.hb, ?_⟩
      have := ih true true true dE false dZ cv m g cap e z w' (by simp) (by simp) (by simp [n4] at hn ⊢; omega) hI'
      exact (frTC_P a c nf dE dZ cv m pg pc e z g cap) ▸ this
    · obtain rfl : dB = false := by cases dB with
        | false => rfl
        | true => exact absurd (hv2 rfl).2 (by decide)
      refine op_none rfl rfl rfl ?_
      have hI' := hI.E
      refine ⟨HK _ hI'.hb, ?_⟩
      have := ih dC dM dP true false dZ cv m pg pc w.heap.size z _ hv1 (by simp) (by simp [n4] at hn ⊢; omega) hI'
      exact (frTC_E a c nf dC dM dP dZ cv m pg pc e z w.heap.size) ▸ this
    · refine op_structA (.tmp 109) (.tmp 117) (.tmp 118) c (some ⟨pg, 0, none⟩) (some ⟨e, 0, none⟩) (nf + 1) 0 pc 0 rfl rfl rfl (by rw [frTC_e109, hc]) (frTC_e117 a c nf dC dM true false dZ cv m pg pc e z hsz) (frTC_e118 a c nf dC dM true false dZ cv m pg pc e z hsz) ?_
      refine ⟨HK _ hI.hb, ?_⟩
      have := ih dC dM true true true dZ cv m pg pc e z _ hv1 (by simp) (by simp [n4] at hn ⊢; omega) hI
      exact (frTC_B a c nf dC dM dZ cv m pg pc e z) ▸ this
    · refine op_newA rfl rfl rfl ?_
      have hI' := hI.Z
      refine ⟨HK _ hI'.hb, ?_⟩
      have := ih dC dM dP dE dB true cv m pg pc e w.heap.size _ hv1 hv2 (by simp [n4] at hn ⊢; omega) hI'
      exact (frTC_Z a c nf dC dM dP dE dB cv m pg pc e z w.heap.size) ▸ this
    · obtain ⟨hz, hzl⟩ := hI.hZ rfl
      obtain ⟨he, hel⟩ := hI.hE rfl
      have hP := hI.hP rfl
      have hez := he.notBox hz
      refine op_storeA (.tmp 14) (.tmp 119) z c false (some ⟨pg, 0, none⟩) (some ⟨e, 0, none⟩) (nf + 1) 0 pc 0 _ _ rfl rfl rfl (frTC_e14 a c nf true true true true true cv m pg pc e z hsz) (frTC_e119 a c nf true true true true true cv m pg pc e z hsz) hz ?_
      have hb1 := ((hI.hb.setCell (p := ⟨z, 0, none⟩) hzl (.bool c)).setCell (p := ⟨z, 1, none⟩) hzl (.slice (some ⟨pg, 0, none⟩) (nf + 1) pc)).setCell (p := ⟨z, 2, none⟩) hzl (.slice (some ⟨e, 0, none⟩) 0 0)
      refine ⟨HK _ hb1, ?_⟩
      refine wpAnyH_done (by kernel_rfl) ?_ _
      refine hend z e pg pc m cv _ hz.sets (((he.other hez _).other hez _).other hez _) ?_ hb1 hzl hel (fun k => hI.hpe rfl rfl (by rw [k]; rfl)) (fun k => hI.hpz rfl rfl (by rw [k]; rfl))
      exact owns_other (owns_other (owns_other hP (hI.hpz rfl rfl) 0 _) (hI.hpz rfl rfl) 1 _) (hI.hpz rfl rfl) 2 _

/-- The frame behind the region. -/
def outTC (a : Act) (c : Bool) (o1 : Option Addr) (l1 c1 b2 b3 : Nat) (x1 x2 : Int) (nf : Nat) (cv : Value) (m pg pc e z : Nat) : Act :=
  frTC (((((((a.put (some 108) (.pointer (some ⟨b2, 0, none⟩))).put (some 109) (.bool c)).put (some 110) (.pointer (some ⟨b3, 1, none⟩))).put (some 111) (.slice o1 l1 c1)).put (some 113) (.int .i64 x1)).put (some 114) (.int .i64 x2)).put (some 115) (.int .i64 (x1 + x2))) c nf true true true true true true cv m pg pc e z

theorem regionTC {Q : Exit → Act → World → Prop} (a : Act) (W : World) (hsz : 120 ≤ a.tmps.size) (b2 b3 : Nat) (h2 : a.eval (.tmp 2) = .pointer (some ⟨b2, 0, none⟩)) (h3 : a.eval (.tmp 2) = .pointer (some ⟨b3, 0, none⟩)) (c : Bool) (o1 : Option Addr) (l1 c1 : Nat) (x1 x2 : Int) (hm1 : a.eval (.tmp 9) = .int .i64 x1) (hm2 : a.eval (.tmp 12) = .int .i64 x2) (hadd : IntKind.i64.wrap (x1 + x2) = x1 + x2) (nf : Nat) (hnf : nf ≤ 10000) (fr : List Int)
    (HK : ∀ wx, Below W.heap.size W wx → wx.cell? ⟨b2, 0, none⟩ = some (.bool c) ∧ wx.cell? ⟨b3, 1, none⟩ = some (.slice o1 l1 c1))
    (HC : ∀ wx, Below W.heap.size W wx → Calls Try.prog 55 #[.slice o1 l1 c1, .bool false] wx fun e w' => ∃ a' cap', e = .returned (.slice a' nf cap') ∧ w'.ownsRow wx.heap.size 3 1 (.slice a' nf cap') nf (fr.map (Value.int .i64)) ∧ Below wx.heap.size wx w')
    (hQ : ∀ c a (d : Nat) v w, Q (.panic c) (a.put (some d) v) w → Q (.panic c) a w)
    (hend : ∀ z e pg pc m cv wx, LaidT W c (nf + 1) (fr ++ [(x1 + x2)]) (.pointer (some ⟨z, 0, none⟩)) wx → Q .normal (outTC a c o1 l1 c1 b2 b3 x1 x2 nf cv m pg pc e z) wx) :
    (Code.region 24 opsTC true).wp Try.prog Q a W := by
  have hb0 : Below W.heap.size W { W with drawn := W.drawn + 1 } := (Below.refl _ _).drew
  have hS := HK _ hb0
  refine wp_region_held (S := fun wx => wx.cell? ⟨b2, 0, none⟩ = some (.bool c) ∧ wx.cell? ⟨b3, 1, none⟩ = some (.slice o1 l1 c1)) (by kernel_rfl) ?_
  show wpAnyH _ _ _ _ _ (13 + 1) _ _ _
  refine wpAnyH_take (i := 0) (v := (.pointer (some ⟨b2, 0, none⟩))) rfl (by kernel_rfl) (by kernel_rfl) (by kernel_rfl) (fun c a w h => hQ c a _ _ w h) (Or.inl ⟨rfl, ?_⟩) hS ?_
  · intro w hSw
    obtain ⟨e1, e2⟩ := hSw
    have q : a.eval (.tmp 2) = .pointer (some ⟨b2, 0, none⟩) := by
      repeat rw [eval_putT (by decide)]
      exact h2
    exact run_fieldT (.tmp 2) b2 0 rfl q (by decide) w
  refine wpAnyH_take (i := 1) (v := (.bool c)) rfl (by kernel_rfl) (by kernel_rfl) (by kernel_rfl) (fun c a w h => hQ c a _ _ w h) (Or.inl ⟨rfl, ?_⟩) hS ?_
  · intro w hSw
    obtain ⟨e1, e2⟩ := hSw
    have q : (a.put (some 108) (.pointer (some ⟨b2, 0, none⟩))).eval (.tmp 108) = .pointer (some ⟨b2, 0, none⟩) := put_sameT _ _ _ (by first | omega | (simp [Act.put]; omega))
    exact run_loadB (.tmp 108) ⟨b2, 0, none⟩ c rfl q w e1
  refine wpAnyH_take (i := 2) (v := (.pointer (some ⟨b3, 1, none⟩))) rfl (by kernel_rfl) (by kernel_rfl) (by kernel_rfl) (fun c a w h => hQ c a _ _ w h) (Or.inl ⟨rfl, ?_⟩) hS ?_
  · intro w hSw
    obtain ⟨e1, e2⟩ := hSw
    have q : ((a.put (some 108) (.pointer (some ⟨b2, 0, none⟩))).put (some 109) (.bool c)).eval (.tmp 2) = .pointer (some ⟨b3, 0, none⟩) := by
      repeat rw [eval_putT (by decide)]
      exact h3
    exact run_fieldT (.tmp 2) b3 1 rfl q (by decide) w
  refine wpAnyH_take (i := 3) (v := (.slice o1 l1 c1)) rfl (by kernel_rfl) (by kernel_rfl) (by kernel_rfl) (fun c a w h => hQ c a _ _ w h) (Or.inl ⟨rfl, ?_⟩) hS ?_
  · intro w hSw
    obtain ⟨e1, e2⟩ := hSw
    have q : (((a.put (some 108) (.pointer (some ⟨b2, 0, none⟩))).put (some 109) (.bool c)).put (some 110) (.pointer (some ⟨b3, 1, none⟩))).eval (.tmp 110) = .pointer (some ⟨b3, 1, none⟩) := put_sameT _ _ _ (by first | omega | (simp [Act.put]; omega))
    exact run_loadS (.tmp 110) ⟨b3, 1, none⟩ o1 l1 c1 rfl q w e2
  refine wpAnyH_take (i := 5) (v := (.int .i64 x1)) rfl (by kernel_rfl) (by kernel_rfl) (by kernel_rfl) (fun c a w h => hQ c a _ _ w h) (Or.inl ⟨rfl, ?_⟩) hS ?_
  · intro w hSw
    obtain ⟨e1, e2⟩ := hSw
    have q : ((((a.put (some 108) (.pointer (some ⟨b2, 0, none⟩))).put (some 109) (.bool c)).put (some 110) (.pointer (some ⟨b3, 1, none⟩))).put (some 111) (.slice o1 l1 c1)).eval (.tmp 9) = .int .i64 x1 := by
      repeat rw [eval_putT (by decide)]
      exact hm1
    exact run_moveT (.tmp 9) _ rfl q w
  refine wpAnyH_take (i := 6) (v := (.int .i64 x2)) rfl (by kernel_rfl) (by kernel_rfl) (by kernel_rfl) (fun c a w h => hQ c a _ _ w h) (Or.inl ⟨rfl, ?_⟩) hS ?_
  · intro w hSw
    obtain ⟨e1, e2⟩ := hSw
    have q : (((((a.put (some 108) (.pointer (some ⟨b2, 0, none⟩))).put (some 109) (.bool c)).put (some 110) (.pointer (some ⟨b3, 1, none⟩))).put (some 111) (.slice o1 l1 c1)).put (some 113) (.int .i64 x1)).eval (.tmp 12) = .int .i64 x2 := by
      repeat rw [eval_putT (by decide)]
      exact hm2
    exact run_moveT (.tmp 12) _ rfl q w
  refine wpAnyH_take (i := 7) (v := (.int .i64 (x1 + x2))) rfl (by kernel_rfl) (by kernel_rfl) (by kernel_rfl) (fun c a w h => hQ c a _ _ w h) (Or.inl ⟨rfl, ?_⟩) hS ?_
  · intro w hSw
    obtain ⟨e1, e2⟩ := hSw
    have q1 : ((((((a.put (some 108) (.pointer (some ⟨b2, 0, none⟩))).put (some 109) (.bool c)).put (some 110) (.pointer (some ⟨b3, 1, none⟩))).put (some 111) (.slice o1 l1 c1)).put (some 113) (.int .i64 x1)).put (some 114) (.int .i64 x2)).eval (.tmp 113) = .int .i64 x1 := by
      repeat rw [eval_putT (by decide)]
      exact put_sameT _ _ _ (by first | omega | (simp [Act.put]; omega))
    have q2 : ((((((a.put (some 108) (.pointer (some ⟨b2, 0, none⟩))).put (some 109) (.bool c)).put (some 110) (.pointer (some ⟨b3, 1, none⟩))).put (some 111) (.slice o1 l1 c1)).put (some 113) (.int .i64 x1)).put (some 114) (.int .i64 x2)).eval (.tmp 114) = .int .i64 x2 := put_sameT _ _ _ (by first | omega | (simp [Act.put]; omega))
    exact run_addT (.tmp 113) (.tmp 114) x1 x2 rfl q1 q2 hadd w
  refine drawTC (((((((a.put (some 108) (.pointer (some ⟨b2, 0, none⟩))).put (some 109) (.bool c)).put (some 110) (.pointer (some ⟨b3, 1, none⟩))).put (some 111) (.slice o1 l1 c1)).put (some 113) (.int .i64 x1)).put (some 114) (.int .i64 x2)).put (some 115) (.int .i64 (x1 + x2))) W (by first | omega | (simp [Act.put]; omega)) c (.slice o1 l1 c1) (by (repeat rw [eval_putT (by decide)]); exact put_sameT _ _ _ (by first | omega | (simp [Act.put]; omega))) (by (repeat rw [eval_putT (by decide)]); exact put_sameT _ _ _ (by first | omega | (simp [Act.put]; omega))) (x1 + x2) (put_sameT _ _ _ (by first | omega | (simp [Act.put]; omega))) nf hnf fr HK HC ?_ 7 false false false false false false undef 0 0 0 0 0 _ (by simp) (by simp) (by simp [n4]) ⟨hb0, by simp, by simp, by simp, by simp, by simp, by simp, by simp, by simp, by simp⟩
  intro z e pg pc m cv wx h1 h2' h3' h4 h5 h6 h7 _
  refine hend z e pg pc m cv wx ?_
  obtain ⟨a', cap', hv, ho⟩ := Own.of_owns h3' (by omega)
  cases hv
  refine ⟨z, e, _, _, rfl, h1, h2', ho, h4, h5, h6, ?_, owns_cap h3'⟩
  intro y hy
  obtain ⟨_, hy'⟩ := hy
  simp at hy'
  omega

end Go.Proofs.Ytogmcecnckgcpaa
