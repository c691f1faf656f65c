import Derived.Test.YtmgjicgojlkpcaaGreatDoorSmMath
import Derived.Test.YtmgjicgojlkpcaaGreatDoorLexOk
import Derived.Test.YtmgjicgojlkpcaaGreatDoorImplRec
namespace Go.Proofs.YtmgjicgojlkpcaaGreatDoor
open Go

/-- The stmts of a line. -/
def lineR (ts : List Tok) : Res := if ts = [] then (true, 0, []) else (prs (seenT ts) (6 * ts.length + 9) 7 0 []).getD (false, 0, [])
def lineN (l : List (List NodeD)) : List NodeD := treeN 25 0 0 ⟨#[]⟩ [] l
/-- What Parse means. -/
def parseT (s : ByteArray) : List NodeD × Int × Nat :=
  if (lexT s).2.1 ≠ 0 then ([], (lexT s).2.1, (lexT s).2.2)
  else if (lineR (lexT s).1).1 = true ∧ ¬ (lineR (lexT s).1).2.1 < (lexT s).1.length then
    (if treeB txtB (lineN (lineR (lexT s).1).2.2) = true then (lineN (lineR (lexT s).1).2.2, 0, 0) else ([], 7, 0))
  else ([], 1, (tokA (lexT s).1 s.size (lineR (lexT s).1).2.1).p)

theorem line_prs {ts : List Tok} (h : ts ≠ []) : prs (seenT ts) (6 * ts.length + 9) 7 0 [] = some (lineR ts) := by
  obtain ⟨r, hr⟩ := prs_has (seen_ends ts) (6 * ts.length + 9) 7 0 [] (Nat.zero_le _) (by show 6 * (ts.length - 0) + 3 < _; omega)
  unfold lineR
  rw [if_neg h, hr]
  rfl

theorem sv_le {ts : List Tok} (h : ∀ y ∈ ts, y.t.size ≤ 2000) (i : Nat) : ((seenT ts).sv i).size ≤ 5000 := by
  show (tokA ts 0 i).t.size ≤ 5000
  unfold tokA
  rw [List.getD_eq_getElem?_getD]
  cases he : ts[i]? with
  | none => exact Nat.zero_le _
  | some y => exact Nat.le_trans (h y (List.mem_of_getElem? he)) (by omega)

/-- The trees of a line that was read. -/
theorem line_knows {ts : List Tok} (hl : ts.length ≤ 2000) (hs : ∀ y ∈ ts, y.t.size ≤ 2000) {q : Nat} {l : List (List NodeD)} (h1 : lineR ts = (true, q, l)) : (∀ t ∈ l, WF t) ∧ SmL 5000 l ∧ (rowT l).length ≤ 8002 ∧ q ≤ ts.length := by
  by_cases h0 : ts = []
  · unfold lineR at h1
    rw [if_pos h0] at h1
    cases h1
    exact ⟨(fun t h => by cases h), SmL.nil, Nat.zero_le _, Nat.zero_le _⟩
  · have h := line_prs h0
    rw [h1] at h
    refine ⟨(prs_wf (seenT ts) _ 7 0 [] (fun e => by cases e) q l h).2, prs_sm (A := 5000) (sv_le hs) (by show ts.length + 1 ≤ _; omega) _ 7 0 [] SmL.nil.row q l h, ?_⟩
    obtain ⟨k1, k2, k3, _⟩ := (prs_knows (seen_ends ts) (6 * ts.length + 9)).fair 7 0 [] (Nat.zero_le _) (fun e => by cases e) q l h
    have k2' : q ≤ ts.length := k2
    have k3' : (rowT l).length + 1 ≤ 4 * (q - 0) + 0 := k3
    exact ⟨by omega, k2'⟩

/-- The line's tree is small. -/
theorem line_small {l : List (List NodeD)} (h1 : ∀ t ∈ l, WF t) (h2 : SmL 5000 l) (h3 : (rowT l).length ≤ 8002) : (lineN l).length ≤ 8003 ∧ ∀ x ∈ lineN l, x.s.size ≤ 5000 ∧ x.nums.length ≤ 5000 ∧ x.kids.length ≤ 8003 := by
  have hlen : (lineN l).length = (rowT l).length + 1 := tree_len 25 0 0 ⟨#[]⟩ [] l
  have hw : WF (lineN l) := .mk 25 0 0 ⟨#[]⟩ [] l h1 (cnt0 (by decide) (by decide) (by decide) _)
  refine ⟨by omega, fun x hx => ?_⟩
  have hs : Sm 5000 (lineN l) := sm_tree 25 0 0 (Nat.zero_le _) (Nat.zero_le _) h2
  exact ⟨(hs x hx).1, (hs x hx).2, Nat.le_trans (wf_kids hw x hx) (by omega)⟩
theorem line_smallD {l : List (List NodeD)} (h1 : ∀ t ∈ l, WF t) (h2 : SmL 5000 l) (h3 : (rowT l).length ≤ 8002) : SmallD (lineN l) (lineN l).length := fun i hi => by
  obtain ⟨_, h⟩ := line_small h1 h2 h3
  have hm : node (lineN l) i ∈ lineN l := by
    unfold node
    rw [List.getD_eq_getElem?_getD, List.getElem?_eq_getElem hi]
    exact List.getElem_mem hi
  obtain ⟨a, b, c⟩ := h _ hm
  exact ⟨by omega, by omega, by omega⟩

theorem lex_short {s : ByteArray} (h : (lexT s).2.1 = 0) : s.size ≤ 2000 := by
  refine Decidable.byContradiction fun hn => ?_
  unfold lexT at h
  rw [if_pos (by omega)] at h
  revert h
  decide

end Go.Proofs.YtmgjicgojlkpcaaGreatDoor
