import Derived.Test.YtmgjicgojlkpcaaGreatDoorParseMath5
import Derived.Test.YtmgjicgojlkpcaaGreatDoorSpecSelects
namespace Go.Proofs.YtmgjicgojlkpcaaGreatDoor
open Go

def cntOk (k : Int) (n : Nat) : Prop := (k = 7 → 1 ≤ n) ∧ (k = 9 → 2 ≤ n) ∧ (k = 10 → 3 ≤ n)

/-- A tree by itself. -/
inductive WF : List NodeD → Prop
  | mk (k n m : Int) (s : ByteArray) (nums : List Int) (ls : List (List NodeD)) : (∀ l ∈ ls, WF l) → cntOk k ls.length → WF (treeN k n m s nums ls)

abbrev castL (es : List Nat) : List Int := es.map fun (a : Nat) => (a : Int)

/-- Under place e of the nodes hangs the tree t. -/
inductive TreeAt (ns : List NodeD) : Nat → List NodeD → Prop
  | mk (e : Nat) (k n m : Int) (s : ByteArray) (nums : List Int) (es : List Nat) (ls : List (List NodeD)) : ns[e]? = some ⟨k, n, m, s, nums, castL es⟩ → es.length = ls.length → (∀ a ∈ es, a < e) → cntOk k ls.length → (∀ (j : Nat) (a : Nat) (l : List NodeD), es[j]? = some a → ls[j]? = some l → TreeAt ns a l) → TreeAt ns e (treeN k n m s nums ls)

def TreesAt (ns : List NodeD) (es : List Nat) (ls : List (List NodeD)) : Prop := es.length = ls.length ∧ ∀ (j : Nat) (a : Nat) (l : List NodeD), es[j]? = some a → ls[j]? = some l → TreeAt ns a l

theorem shift_inj {b : Nat} {l l' : List NodeD} (h : shiftN b l = shiftN b l') : l = l' := by
  unfold shiftN at h
  refine (List.map_inj_right ?_).1 h
  rintro ⟨k, n, m, s, nums, kids⟩ ⟨k', n', m', s', nums', kids'⟩ e
  simp only [NodeD.mk.injEq] at e ⊢
  obtain ⟨e1, e2, e3, e4, e5, e6⟩ := e
  exact ⟨e1, e2, e3, e4, e5, (List.map_inj_right (fun x y h => by omega)).1 e6⟩

theorem row_inj : ∀ (ls ls' : List (List NodeD)), rootsT ls = rootsT ls' → rowT ls = rowT ls' → ls = ls'
  | [], [], _, _ => rfl
  | [], _ :: _, h, _ => by simp [rootsT] at h
  | _ :: _, [], h, _ => by simp [rootsT] at h
  | l :: ls, l' :: ls', h, h2 => by
    rw [rootsT, rootsT, List.cons.injEq] at h
    have hl : l.length = l'.length := by omega
    rw [rowT, rowT] at h2
    obtain ⟨e1, e2⟩ := List.append_inj h2 hl
    rw [hl] at e2 h
    rw [e1, row_inj ls ls' ((List.map_inj_right (fun x y h => by omega)).1 h.2) (shift_inj e2)]

theorem treeN_inj {k n m k' n' m' : Int} {s s' : ByteArray} {nums nums' : List Int} {ls ls' : List (List NodeD)} (h : treeN k n m s nums ls = treeN k' n' m' s' nums' ls') : k = k' ∧ n = n' ∧ m = m' ∧ s = s' ∧ nums = nums' ∧ ls = ls' := by
  unfold treeN at h
  obtain ⟨e1, e2⟩ := List.append_inj' h rfl
  simp only [List.cons.injEq, NodeD.mk.injEq, and_true] at e2
  exact ⟨e2.1, e2.2.1, e2.2.2.1, e2.2.2.2.1, e2.2.2.2.2.1, row_inj _ _ e2.2.2.2.2.2 e1⟩

section
variable {ns ms : List NodeD} {e e' : Nat} {t : List NodeD} {es : List Nat} {ls : List (List NodeD)}

theorem TreeAt.inv {k n m : Int} {s : ByteArray} {nums : List Int} (h : TreeAt ns e (treeN k n m s nums ls)) : ∃ es, ns[e]? = some ⟨k, n, m, s, nums, castL es⟩ ∧ TreesAt ns es ls ∧ (∀ a ∈ es, a < e) ∧ cntOk k ls.length := by
  generalize ht : treeN k n m s nums ls = t at h
  cases h with
  | mk _ k' n' m' s' nums' es ls' h1 h2 h3 h4 h5 =>
    obtain ⟨rfl, rfl, rfl, rfl, rfl, rfl⟩ := treeN_inj ht
    exact ⟨es, h1, ⟨h2, h5⟩, h3, h4⟩

theorem TreeAt.lt (h : TreeAt ns e t) : e < ns.length := by
  cases h with
  | mk _ k n m s nums es ls h1 => exact (List.getElem?_eq_some_iff.1 h1).1

theorem TreeAt.mono (h : TreeAt ns e t) : TreeAt (ns ++ ms) e t := by
  induction h with
  | mk e k n m s nums es ls h1 h2 h3 h4 h5 ih => exact .mk e k n m s nums es ls (by rw [List.getElem?_append_left (List.getElem?_eq_some_iff.1 h1).1]; exact h1) h2 h3 h4 ih

theorem TreeAt.wf (h : TreeAt ns e t) : WF t := by
  induction h with
  | mk e k n m s nums es ls h1 h2 h3 h4 h5 ih =>
    refine .mk k n m s nums ls (fun l hl => ?_) h4
    obtain ⟨j, hj, rfl⟩ := List.mem_iff_getElem.1 hl
    exact ih j es[j] ls[j] (List.getElem?_eq_getElem _) (List.getElem?_eq_getElem _)

theorem TreeAt.up {pre : List NodeD} (h : TreeAt ns e t) : TreeAt (pre ++ shiftN pre.length ns) (pre.length + e) t := by
  induction h with
  | mk e k n m s nums es ls h1 h2 h3 h4 h5 ih =>
    refine .mk (pre.length + e) k n m s nums (es.map (pre.length + ·)) ls ?_ (by rw [List.length_map]; exact h2) (fun a ha => ?_) h4 fun j a l ha hl => ?_
    · rw [List.getElem?_append_right (by omega), show pre.length + e - pre.length = e by omega]
      unfold shiftN
      rw [List.getElem?_map, h1]
      simp only [Option.map_some, Option.some.injEq, NodeD.mk.injEq, true_and, castL, List.map_map]
      refine List.map_congr_left fun z _ => ?_
      simp only [Function.comp]
      omega
    · obtain ⟨b, hb, rfl⟩ := List.mem_map.1 ha
      have := h3 b hb
      omega
    · rw [List.getElem?_map] at ha
      cases hb : es[j]? with
      | none => rw [hb] at ha; cases ha
      | some b => rw [hb] at ha; cases ha; exact ih j b l hb hl

theorem TreesAt.mono (h : TreesAt ns es ls) : TreesAt (ns ++ ms) es ls := ⟨h.1, fun j a l h1 h2 => (h.2 j a l h1 h2).mono⟩
theorem TreesAt.nil : TreesAt ns [] [] := ⟨rfl, fun j a l h1 _ => by simp at h1⟩
theorem TreesAt.cons (h0 : TreeAt ns e t) (h : TreesAt ns es ls) : TreesAt ns (e :: es) (t :: ls) := by
  refine ⟨by rw [List.length_cons, List.length_cons, h.1], fun j a l h1 h2 => ?_⟩
  cases j with
  | zero => cases h1; cases h2; exact h0
  | succ j => exact h.2 j a l h1 h2
theorem TreesAt.app {es' : List Nat} {ls' : List (List NodeD)} (h : TreesAt ns es ls) (h' : TreesAt ns es' ls') : TreesAt ns (es ++ es') (ls ++ ls') := by
  refine ⟨by rw [List.length_append, List.length_append, h.1, h'.1], fun j a l h1 h2 => ?_⟩
  by_cases hj : j < es.length
  · rw [List.getElem?_append_left hj] at h1
    rw [List.getElem?_append_left (by rw [← h.1]; exact hj)] at h2
    exact h.2 j a l h1 h2
  · rw [List.getElem?_append_right (by omega)] at h1
    rw [List.getElem?_append_right (by rw [← h.1]; omega), ← h.1] at h2
    exact h'.2 _ a l h1 h2
theorem TreesAt.one (h : TreeAt ns e t) : TreesAt ns [e] [t] := TreesAt.cons h TreesAt.nil
theorem TreesAt.lt (h : TreesAt ns es ls) {a : Nat} (ha : a ∈ es) : a < ns.length := by
  obtain ⟨j, hj, rfl⟩ := List.mem_iff_getElem.1 ha
  exact (h.2 j es[j] (ls[j]'(by rw [← h.1]; exact hj)) (List.getElem?_eq_getElem _) (List.getElem?_eq_getElem _)).lt

/-- A node put over trees. -/
theorem TreesAt.put (h : TreesAt ns es ls) (k n m : Int) (s : ByteArray) (nums : List Int) (hc : cntOk k ls.length) : TreeAt (ns ++ [⟨k, n, m, s, nums, castL es⟩]) ns.length (treeN k n m s nums ls) :=
  .mk ns.length k n m s nums es ls (by rw [List.getElem?_append_right (Nat.le_refl _), Nat.sub_self]; rfl) h.1 (fun a ha => h.lt ha) hc fun j a l h1 h2 => (h.2 j a l h1 h2).mono

def posN : List (List NodeD) → List Nat
  | [] => []
  | l :: ls => (l.length - 1) :: (posN ls).map (l.length + ·)

theorem row_at : ∀ (ls : List (List NodeD)), (∀ l ∈ ls, TreeAt l (l.length - 1) l) → TreesAt (rowT ls) (posN ls) ls ∧ rootsT ls = castL (posN ls)
  | [], _ => ⟨TreesAt.nil, rfl⟩
  | l :: ls, h => by
    obtain ⟨h1, h2⟩ := row_at ls fun x hx => h x (List.mem_cons_of_mem _ hx)
    have h0 := h l List.mem_cons_self
    have hlt := h0.lt
    refine ⟨TreesAt.cons h0.mono ⟨by rw [List.length_map]; exact h1.1, fun j a x ha hx => ?_⟩, ?_⟩
    · rw [List.getElem?_map] at ha
      cases hb : (posN ls)[j]? with
      | none => rw [hb] at ha; cases ha
      | some b => rw [hb] at ha; cases ha; exact (h1.2 j b x hb hx).up
    · rw [rootsT, posN, h2]
      simp only [castL, List.map_cons, List.map_map, List.cons.injEq]
      refine ⟨by omega, List.map_congr_left fun z _ => ?_⟩
      simp only [Function.comp]
      omega

theorem WF.self (h : WF t) : TreeAt t (t.length - 1) t := by
  induction h with
  | mk k n m s nums ls _ hc ih =>
    obtain ⟨h1, h2⟩ := row_at ls ih
    have := h1.put k n m s nums hc
    unfold treeN
    rw [h2]
    rw [show (rowT ls ++ [(⟨k, n, m, s, nums, castL (posN ls)⟩ : NodeD)]).length - 1 = (rowT ls).length by rw [List.length_append]; rfl]
    unfold treeN at this
    rw [h2] at this
    exact this

/-- What stands at the root. -/
def rootD (t : List NodeD) : NodeD := t.getLast?.getD nodeZ

theorem TreeAt.root (h : TreeAt ns e t) : (node ns e).k = (rootD t).k ∧ (node ns e).n = (rootD t).n := by
  cases h with
  | mk _ k n m s nums es ls h1 =>
    have e1 : node ns e = ⟨k, n, m, s, nums, castL es⟩ := by unfold node; rw [List.getD_eq_getElem?_getD, h1]; rfl
    have e2 : rootD (treeN k n m s nums ls) = ⟨k, n, m, s, nums, rootsT ls⟩ := by unfold rootD treeN; rw [List.getLast?_concat]; rfl
    rw [e1, e2]
    exact ⟨rfl, rfl⟩

theorem TreeAt.selOk (h : TreeAt ns e t) : SelOk ns e := by
  refine ⟨fun j => ∃ t, TreeAt ns j t, ⟨t, h⟩, fun j hj => ?_⟩
  obtain ⟨t, ht⟩ := hj
  cases ht with
  | mk _ k n m s nums es ls h1 h2 h3 h4 h5 =>
    have e1 : node ns j = ⟨k, n, m, s, nums, castL es⟩ := by unfold node; rw [List.getD_eq_getElem?_getD, h1]; rfl
    have e2 : ∀ q, q < es.length → ∃ a, es[q]? = some a ∧ (castL es).getD q 0 = (a : Int) := fun q hq => ⟨es[q], List.getElem?_eq_getElem _, by rw [List.getD_eq_getElem?_getD, castL, List.getElem?_map, List.getElem?_eq_getElem hq]; rfl⟩
    have e3 : (castL es).length = es.length := by rw [castL, List.length_map]
    unfold SelAt kidN
    rw [e1]
    refine ⟨⟨fun q hq => ?_, fun hk => ?_, fun hk => ?_, fun hk => ?_⟩, fun q hq => ?_⟩
    · obtain ⟨a, ha, hv⟩ := e2 q (by rw [← e3]; exact hq)
      have := h3 a (List.mem_of_getElem? ha)
      show 0 ≤ (castL es).getD q 0 ∧ (castL es).getD q 0 < j
      rw [hv]
      omega
    · show 1 ≤ (castL es).length; rw [e3, h2]; exact h4.1 hk
    · show 2 ≤ (castL es).length; rw [e3, h2]; exact h4.2.1 hk
    · show 3 ≤ (castL es).length; rw [e3, h2]; exact h4.2.2 hk
    · obtain ⟨a, ha, hv⟩ := e2 q (by rw [← e3]; exact hq)
      show ∃ t, TreeAt ns ((castL es).getD q 0).toNat t
      rw [hv]
      exact ⟨_, h5 q a (ls[q]'(by rw [← h2]; rw [← e3]; exact hq)) ha (List.getElem?_eq_getElem _)⟩

theorem TreesAt.get (h : TreesAt ns es ls) {j : Nat} (hj : j < ls.length) : ∃ a, es[j]? = some a ∧ (castL es).getD j 0 = (a : Int) ∧ TreeAt ns a (ls[j]) := by
  have hl : j < es.length := by rw [h.1]; exact hj
  exact ⟨es[j], List.getElem?_eq_getElem _, by rw [List.getD_eq_getElem?_getD, castL, List.getElem?_map, List.getElem?_eq_getElem hl]; rfl, h.2 j es[j] ls[j] (List.getElem?_eq_getElem _) (List.getElem?_eq_getElem _)⟩

theorem prim_same {a a' : Nat} {l : List NodeD} (h : TreeAt ns a l) (h' : TreeAt ms a' l) (lo hi : Int) : primB (node ns a) lo hi = primB (node ms a') lo hi := by
  unfold primB
  rw [h.root.1, h.root.2, h'.root.1, h'.root.2]

theorem sel_same (h : TreeAt ns e t) : ∀ (ms : List NodeD) (e' : Nat), TreeAt ms e' t → ∀ f f', e < f → e' < f' → selF ns f e = selF ms f' e' := by
  induction h with
  | mk e k n m s nums es ls h1 h2 h3 h4 h5 ih =>
    intro ms e' h' f f' hf hf'
    obtain ⟨es', k1, k2, k3, k4⟩ := h'.inv
    have e1 : node ns e = ⟨k, n, m, s, nums, castL es⟩ := by unfold node; rw [List.getD_eq_getElem?_getD, h1]; rfl
    have e2 : node ms e' = ⟨k, n, m, s, nums, castL es'⟩ := by unfold node; rw [List.getD_eq_getElem?_getD, k1]; rfl
    obtain ⟨g, rfl⟩ : ∃ g, f = g + 1 := ⟨f - 1, by omega⟩
    obtain ⟨g', rfl⟩ : ∃ g, f' = g + 1 := ⟨f' - 1, by omega⟩
    have kid : ∀ j, j < ls.length → ∃ a a', kidN (node ns e) j = a ∧ kidN (node ms e') j = a' ∧ a < e ∧ a' < e' ∧ es[j]? = some a ∧ TreeAt ns a ls[j]! ∧ TreeAt ms a' ls[j]! ∧ ls[j]? = some ls[j]! := fun j hj => by
      obtain ⟨a, ha, hv, ht⟩ := TreesAt.get ⟨h2, h5⟩ hj
      obtain ⟨a', ha', hv', ht'⟩ := k2.get hj
      have el : ls[j]! = ls[j] := getElem!_pos ls j hj
      refine ⟨a, a', ?_, ?_, h3 a (List.mem_of_getElem? ha), k3 a' (List.mem_of_getElem? ha'), ha, by rw [el]; exact ht, by rw [el]; exact ht', by rw [el]; exact List.getElem?_eq_getElem _⟩
      · rw [e1]; show ((castL es).getD j 0).toNat = a; rw [hv]; rfl
      · rw [e2]; show ((castL es').getD j 0).toNat = a'; rw [hv']; rfl
    have kk : (node ns e).k = k := by rw [e1]
    have kk' : (node ms e').k = k := by rw [e2]
    by_cases c3 : k = 3
    · rw [selF_name (by rw [kk]; exact c3), selF_name (by rw [kk']; exact c3)]
    by_cases c7 : k = 7
    · obtain ⟨a, a', x1, x2, x3, x4, x5, x6, x7, x8⟩ := kid 0 (h4.1 c7)
      rw [selF_next (by rw [kk]; exact c3) (next7 (by rw [kk]; exact c7)), selF_next (by rw [kk']; exact c3) (next7 (by rw [kk']; exact c7)), x1, x2]
      exact ih 0 a _ x5 x8 ms a' x7 g g' (by omega) (by omega)
    by_cases c9 : k = 9
    · have := h4.2.1 c9
      obtain ⟨a, a', x1, x2, x3, x4, x5, x6, x7, x8⟩ := kid 0 (by omega)
      obtain ⟨b, b', y1, y2, y3, y4, y5, y6, y7, y8⟩ := kid 1 (by omega)
      have hp := prim_same x6 x7 20 23
      cases hv : primB (node ns a) 20 23 with
      | true =>
        rw [selF_next (by rw [kk]; exact c3) (next9 (by rw [kk]; exact c9) (by rw [x1]; exact hv)), selF_next (by rw [kk']; exact c3) (next9 (by rw [kk']; exact c9) (by rw [x2, ← hp]; exact hv)), y1, y2]
        exact ih 1 b _ y5 y8 ms b' y7 g g' (by omega) (by omega)
      | false => rw [selF_none (by rw [kk]; exact c3) (next9n (by rw [kk]; exact c9) (by rw [x1]; exact hv)), selF_none (by rw [kk']; exact c3) (next9n (by rw [kk']; exact c9) (by rw [x2, ← hp]; exact hv))]
    by_cases c10 : k = 10
    · have := h4.2.2 c10
      obtain ⟨a, a', x1, x2, x3, x4, x5, x6, x7, x8⟩ := kid 1 (by omega)
      obtain ⟨b, b', y1, y2, y3, y4, y5, y6, y7, y8⟩ := kid 2 (by omega)
      have hp := prim_same x6 x7 21 25
      cases hv : primB (node ns a) 21 25 with
      | true =>
        rw [selF_next (by rw [kk]; exact c3) (next10 (by rw [kk]; exact c10) (by rw [x1]; exact hv)), selF_next (by rw [kk']; exact c3) (next10 (by rw [kk']; exact c10) (by rw [x2, ← hp]; exact hv)), y1, y2]
        exact ih 2 b _ y5 y8 ms b' y7 g g' (by omega) (by omega)
      | false => rw [selF_none (by rw [kk]; exact c3) (next10n (by rw [kk]; exact c10) (by rw [x1]; exact hv)), selF_none (by rw [kk']; exact c3) (next10n (by rw [kk']; exact c10) (by rw [x2, ← hp]; exact hv))]
    rw [selF_none (by rw [kk]; exact c3) (nextn (by rw [kk]; exact c7) (by rw [kk]; exact c9) (by rw [kk]; exact c10)), selF_none (by rw [kk']; exact c3) (nextn (by rw [kk']; exact c7) (by rw [kk']; exact c9) (by rw [kk']; exact c10))]

/-- A selection is one wherever its tree hangs. -/
theorem TreeAt.sel (h : TreeAt ns e t) : selB ns e = selT t := by
  have hs := h.wf.self
  unfold selT selB
  rw [h.root.1, hs.root.1, sel_same h t _ hs (e + 1) (t.length - 1 + 1) (by omega) (by omega)]

end

def WfR (x : Option Res) : Prop := ∀ q l, x = some (true, q, l) → l ≠ [] ∧ ∀ t ∈ l, WF t

theorem WfR.ok {q : Nat} {l : List (List NodeD)} (h0 : l ≠ []) (h : ∀ t ∈ l, WF t) : WfR (okR q l) := fun q' l' e => by cases e; exact ⟨h0, h⟩
theorem WfR.one {q : Nat} {t : List NodeD} (h : WF t) : WfR (okR q [t]) := WfR.ok (by simp) fun x hx => by rw [List.mem_singleton] at hx; subst hx; exact h
theorem WfR.bad {q : Nat} : WfR (badR q) := fun q' l' e => by cases e
theorem WfR.bind {x : Option Res} {k : Nat → List (List NodeD) → Option Res} (h : WfR x) (hk : ∀ q l, l ≠ [] → (∀ t ∈ l, WF t) → WfR (k q l)) : WfR (bindR x k) := by
  cases x with
  | none => intro q l e; cases e
  | some r =>
    obtain ⟨b, q, l⟩ := r
    cases b with
    | false => exact WfR.bad
    | true => exact hk q l (h q l rfl).1 (h q l rfl).2
theorem WfR.ite {p : Prop} [Decidable p] {x y : Option Res} (h1 : p → WfR x) (h2 : ¬ p → WfR y) : WfR (if p then x else y) := by
  split
  · exact h1 ‹_›
  · exact h2 ‹_›

theorem cnt0 {k : Int} (h7 : k ≠ 7) (h9 : k ≠ 9) (h10 : k ≠ 10) (n : Nat) : cntOk k n := ⟨fun h => absurd h h7, fun h => absurd h h9, fun h => absurd h h10⟩
theorem wf_leaf (k n m : Int) (s : ByteArray) (nums : List Int) (h7 : k ≠ 7) (h9 : k ≠ 9) (h10 : k ≠ 10) : WF (treeN k n m s nums []) := .mk k n m s nums [] (fun l h => by cases h) (cnt0 h7 h9 h10 _)
theorem wf_over {k : Int} (n m : Int) (s : ByteArray) (nums : List Int) {ls : List (List NodeD)} (h : ∀ t ∈ ls, WF t) (hc : cntOk k ls.length) : WF (treeN k n m s nums ls) := .mk k n m s nums ls h hc
theorem pos_len {ls : List (List NodeD)} (h : ls ≠ []) : 1 ≤ ls.length := by cases ls with
  | nil => exact absurd rfl h
  | cons a l => simp
theorem head_wf {ls : List (List NodeD)} (h0 : ls ≠ []) (h : ∀ t ∈ ls, WF t) : WF (ls.headD []) := by cases ls with
  | nil => exact absurd rfl h0
  | cons a l => exact h a List.mem_cons_self
theorem app_wf {ls ms : List (List NodeD)} (h : ∀ t ∈ ls, WF t) (h' : ∀ t ∈ ms, WF t) : ∀ t ∈ ls ++ ms, WF t := fun t ht => (List.mem_append.1 ht).elim (h t) (h' t)
theorem cons_wf {a : List NodeD} {ls : List (List NodeD)} (h : WF a) (h' : ∀ t ∈ ls, WF t) : ∀ t ∈ a :: ls, WF t := fun t ht => (List.mem_cons.1 ht).elim (fun e => e ▸ h) (h' t)

section
variable {X : Seen} {R : Nat → Nat → List NodeD → Option Res}

theorem rest_wf (hR : ∀ m i a, (m = 1 → WF a) → WfR (R m i a)) (q : Nat) {a : List NodeD} (ha : WF a) : WfR (restS X R q a) :=
  WfR.ite (fun _ => WfR.bind (hR 3 q [] (fun e => by cases e)) fun q2 g g0 hg => WfR.bind (hR 0 q2 [] (fun e => by cases e)) fun q3 b b0 hb => WfR.one (wf_over _ _ _ _ (cons_wf ha (app_wf hg hb)) ⟨fun e => by simp at e, fun e => by simp at e, fun _ => by have := pos_len g0; have := pos_len b0; rw [List.length_cons, List.length_append]; omega⟩)) fun _ => WfR.one ha
theorem from_wf (hR : ∀ m i a, (m = 1 → WF a) → WfR (R m i a)) (q : Nat) {a : List NodeD} (ha : WF a) : WfR (fromS X R q a) := WfR.bind (hR 1 q a (fun _ => ha)) fun q2 _ l0 hl => rest_wf hR q2 (head_wf l0 hl)
theorem atom_wf (hR : ∀ m i a, (m = 1 → WF a) → WfR (R m i a)) (i : Nat) : WfR (atomS X R i) :=
  WfR.ite (fun _ => WfR.one (wf_leaf _ _ _ _ _ (by decide) (by decide) (by decide))) fun _ => WfR.ite (fun _ => WfR.bind (hR 0 (i + 1) [] (fun e => by cases e)) fun q l l0 hl => WfR.ite (fun _ => WfR.ok l0 hl) fun _ => WfR.bad) fun _ => WfR.ite (fun _ => WfR.one (wf_leaf _ _ _ _ _ (by decide) (by decide) (by decide))) fun _ => WfR.ite (fun _ => WfR.one (wf_leaf _ _ _ _ _ (by decide) (by decide) (by decide))) fun _ => WfR.ite (fun _ => WfR.one (wf_leaf _ _ _ _ _ (by decide) (by decide) (by decide))) fun _ => WfR.ite (fun _ => WfR.one (wf_leaf _ _ _ _ _ (by decide) (by decide) (by decide))) fun _ => WfR.ite (fun _ => WfR.one (wf_leaf _ _ _ _ _ (by decide) (by decide) (by decide))) fun _ => WfR.bad
theorem expr_wf (hR : ∀ m i a, (m = 1 → WF a) → WfR (R m i a)) (i : Nat) : WfR (exprS X R i) :=
  WfR.ite (fun _ => WfR.bind (hR 3 i [] (fun e => by cases e)) fun q g g0 hg => WfR.bind (hR 0 q [] (fun e => by cases e)) fun q2 b b0 hb => WfR.one (wf_over _ _ _ _ (app_wf hg hb) ⟨fun e => by simp at e, fun _ => by have := pos_len g0; have := pos_len b0; rw [List.length_append]; omega, fun e => by simp at e⟩)) fun _ => WfR.bind (atom_wf hR i) fun q l l0 hl => from_wf hR q (head_wf l0 hl)
theorem idx_wf (hR : ∀ m i a, (m = 1 → WF a) → WfR (R m i a)) (i : Nat) {a : List NodeD} (ha : WF a) : WfR (idxS X R i a) :=
  WfR.ite (fun _ => WfR.bind (hR 2 (i + 1) [] (fun e => by cases e)) fun q l l0 hl => WfR.ite (fun _ => hR 1 (q + 1) _ fun _ => wf_over _ _ _ _ (cons_wf ha hl) ⟨fun _ => by simp, fun e => by simp at e, fun e => by simp at e⟩) fun _ => WfR.bad) fun _ => WfR.one ha
theorem parts_wf (hR : ∀ m i a, (m = 1 → WF a) → WfR (R m i a)) (i : Nat) : WfR (partsS X R i) :=
  WfR.bind (WfR.ite (fun _ => WfR.one (wf_leaf _ _ _ _ _ (by decide) (by decide) (by decide))) fun _ => hR 0 i [] (fun e => by cases e)) fun q l l0 hl => WfR.ite (fun _ => WfR.bind (hR 2 (q + 1) [] (fun e => by cases e)) fun q2 l2 _ hl2 => WfR.ok (by simp [l0]) (app_wf hl hl2)) fun _ => WfR.ok l0 hl
theorem scal_wf (i n : Nat) : WfR (scalS X i n) := by
  have one : ∀ (k m : Int) (q : Nat), k ≠ 7 → k ≠ 9 → k ≠ 10 → WfR (okR q [leafN k (n : Nat) m]) := fun k m q h1 h2 h3 => WfR.one (wf_leaf _ _ _ _ _ h1 h2 h3)
  exact WfR.ite (fun _ => one _ _ _ (by decide) (by decide) (by decide)) fun _ => WfR.ite (fun _ => one _ _ _ (by decide) (by decide) (by decide)) fun _ => WfR.ite (fun _ => one _ _ _ (by decide) (by decide) (by decide)) fun _ => WfR.ite (fun _ => one _ _ _ (by decide) (by decide) (by decide)) fun _ => WfR.ite (fun _ => WfR.ite (fun _ => one _ _ _ (by decide) (by decide) (by decide)) fun _ => WfR.bad) fun _ => one _ _ _ (by decide) (by decide) (by decide)
theorem braces_wf (hR : ∀ m i a, (m = 1 → WF a) → WfR (R m i a)) (i : Nat) : WfR (bracesS X R i) :=
  WfR.ite (fun _ => WfR.one (wf_leaf _ _ _ _ _ (by decide) (by decide) (by decide))) fun _ => WfR.bind (hR 4 (i + 1) [] (fun e => by cases e)) fun q l l0 hl => WfR.ite (fun _ => WfR.one (wf_over _ _ _ _ hl (cnt0 (by decide) (by decide) (by decide) _))) fun _ => WfR.bad
theorem fn_wf (hR : ∀ m i a, (m = 1 → WF a) → WfR (R m i a)) (i : Nat) : WfR (fnS X R i) :=
  WfR.ite (fun _ => scal_wf _ _) fun _ => WfR.ite (fun _ => WfR.ite (fun _ => WfR.ite (fun _ => WfR.one (wf_leaf _ _ _ _ _ (by decide) (by decide) (by decide))) fun _ => WfR.bad) fun _ => WfR.bad) fun _ => WfR.ite (fun _ => braces_wf hR i) fun _ => WfR.ite (fun _ => WfR.one (wf_leaf _ _ _ _ _ (by decide) (by decide) (by decide))) fun _ => WfR.ite (fun _ => WfR.one (wf_leaf _ _ _ _ _ (by decide) (by decide) (by decide))) fun _ => WfR.ite (fun _ => WfR.one (wf_leaf _ _ _ _ _ (by decide) (by decide) (by decide))) fun _ => WfR.bad
theorem ser_wf (hR : ∀ m i a, (m = 1 → WF a) → WfR (R m i a)) (m m' i : Nat) (h1 : m ≠ 1) (h2 : m' ≠ 1) : WfR (bindR (R m i []) fun q l => if X.cl q = 8900 then bindR (R m' (q + 1) []) fun q2 l2 => okR q2 (l ++ l2) else okR q l) :=
  WfR.bind (hR m i [] (fun e => absurd e h1)) fun q l l0 hl => WfR.ite (fun _ => WfR.bind (hR m' (q + 1) [] (fun e => absurd e h2)) fun q2 l2 _ hl2 => WfR.ok (by simp [l0]) (app_wf hl hl2)) fun _ => WfR.ok l0 hl
theorem end_wf (hR : ∀ m i a, (m = 1 → WF a) → WfR (R m i a)) {k : Int} (h7 : k ≠ 7) (h9 : k ≠ 9) (h10 : k ≠ 10) (n : Int) (s : ByteArray) {ls : List (List NodeD)} (hl : ∀ t ∈ ls, WF t) (i : Nat) : WfR (endS R k n s ls i) := WfR.bind (hR 0 i [] (fun e => by cases e)) fun q b _ hb => WfR.one (wf_over _ _ _ _ (app_wf hl hb) (cnt0 h7 h9 h10 _))
theorem item_wf (hR : ∀ m i a, (m = 1 → WF a) → WfR (R m i a)) (i : Nat) : WfR (itemS X R i) :=
  WfR.bind (hR 5 i [] (fun e => by cases e)) fun q l l0 hl => WfR.ite (fun _ => WfR.bind (hR 0 (q + 1) [] (fun e => by cases e)) fun q2 b _ hb => WfR.one (wf_over _ _ _ _ (app_wf hl hb) (cnt0 (by decide) (by decide) (by decide) _))) fun _ => WfR.ok l0 hl
theorem stmt_wf (hR : ∀ m i a, (m = 1 → WF a) → WfR (R m i a)) (i : Nat) : WfR (stmtS X R i) := by
  have nil : ∀ t ∈ ([] : List (List NodeD)), WF t := fun t h => by cases h
  refine WfR.ite (fun _ => WfR.ite (fun _ => WfR.bind (braces_wf hR _) fun q l _ hl => WfR.one (wf_over _ _ _ _ hl (cnt0 (by decide) (by decide) (by decide) _))) fun _ => WfR.bad) fun _ => WfR.ite (fun _ => end_wf hR (by decide) (by decide) (by decide) _ _ nil _) fun _ => WfR.ite (fun _ => end_wf hR (by decide) (by decide) (by decide) _ _ nil _) fun _ => WfR.ite (fun _ => ?_) fun _ => WfR.ite (fun _ => ?_) fun _ => hR 0 i [] (fun e => by cases e)
  · exact WfR.bind (hR 2 (i + 2) [] (fun e => by cases e)) fun q l _ hl => WfR.ite (fun _ => WfR.ite (fun _ => end_wf hR (by decide) (by decide) (by decide) _ _ hl _) fun _ => WfR.bad) fun _ => WfR.bad
  · exact WfR.bind (hR 0 (i + 1) [] (fun e => by cases e)) fun q l l0 hl => WfR.ite (fun _ => WfR.ite (fun _ => WfR.ite (fun _ => end_wf hR (by decide) (by decide) (by decide) _ _ hl _) fun _ => WfR.bad) fun _ => from_wf hR _ (head_wf l0 hl)) fun _ => WfR.bad

end

theorem prs_wf (X : Seen) : ∀ (f m i : Nat) (a : List NodeD), (m = 1 → WF a) → WfR (prs X f m i a)
  | 0, _, _, _, _ => fun q l e => by cases e
  | f + 1, m, i, a, ha => by
    have h := prs_wf X f
    rw [prs]
    exact WfR.ite (fun _ => expr_wf h i) fun _ => WfR.ite (fun e => idx_wf h i (ha e)) fun _ => WfR.ite (fun _ => parts_wf h i) fun _ => WfR.ite (fun _ => fn_wf h i) fun _ => WfR.ite (fun _ => ser_wf h 6 4 i (by decide) (by decide)) fun _ => WfR.ite (fun _ => stmt_wf h i) fun _ => WfR.ite (fun _ => item_wf h i) fun _ => ser_wf h 5 7 i (by decide) (by decide)

/-- A tree put behind nodes. -/
theorem WF.behind {t : List NodeD} (h : WF t) (pre : List NodeD) : TreeAt (pre ++ shiftN pre.length t) (pre.length + (t.length - 1)) t := h.self.up

end Go.Proofs.YtmgjicgojlkpcaaGreatDoor
