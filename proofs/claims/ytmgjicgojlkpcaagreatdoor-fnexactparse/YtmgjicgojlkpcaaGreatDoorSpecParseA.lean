import Derived.Test.YtmgjicgojlkpcaaGreatDoorSpecOrdW
import Derived.Test.YtmgjicgojlkpcaaGreatDoorImplParseA
namespace Go.Proofs.YtmgjicgojlkpcaaGreatDoor
open Go.RowKit

section
variable {Z w w0 w1 : World} {p i j q : Nat} {nd nd0 nd1 v : Value} {zs : List Int} {xs ys : List NodeC} {ns : List NodeD} {ta : Option Addr} {tn tc : Nat} {ts : List Tok} {b : Bool}

/-- What of the stmts is still to be read behind one that ended at j. -/
def leftL (X : Seen) (F f j : Nat) (ls : List (List NodeD)) : Option Res := if X.cl j = 8900 then bindR (serS X 8900 (fun j => prs X F 5 j []) f (j + 1)) (fun q l => okR q (ls ++ l)) else okR j ls

theorem leftL_one {X : Seen} {F f j q : Nat} {t : List NodeD} {ls : List (List NodeD)} (hx : prs X F 5 j [] = some (true, q, [t])) : bindR (serS X 8900 (fun j => prs X F 5 j []) (f + 1) j) (fun q l => okR q (ls ++ l)) = leftL X F f q (ls ++ [t]) := by
  rw [serS]
  rw [hx]
  unfold leftL
  show bindR (if X.cl q = 8900 then _ else okR q [t]) _ = _
  by_cases h : X.cl q = 8900
  · rw [if_pos h, if_pos h]
    cases serS X 8900 (fun j => prs X F 5 j []) f (q + 1) with
    | none => rfl
    | some y =>
      obtain ⟨b, q2, l⟩ := y
      cases b with
      | false => rfl
      | true => show okR q2 (ls ++ ([t] ++ l)) = okR q2 (ls ++ [t] ++ l); rw [List.append_assoc]
  · rw [if_neg h, if_neg h]
    rfl
theorem leftL_bad {X : Seen} {F f j q : Nat} {l : List (List NodeD)} {ls : List (List NodeD)} (hx : prs X F 5 j [] = some (false, q, l)) : bindR (serS X 8900 (fun j => prs X F 5 j []) (f + 1) j) (fun q l => okR q (ls ++ l)) = badR q := by
  rw [serS]
  rw [hx]
  rfl

/-- The state between stmts: all is well and more may come, or not. -/
def PrS (Z : World) (p : Nat) (ta : Option Addr) (tn tc : Nat) (ts : List Tok) (F : Nat) (r : Res) (w0 : World) (nd0 u : Value) (wr : World) : Prop :=
  ∃ (j : Nat) (ns : List NodeD) (n : Value) (zs : List Int) (bb : Bool), j ≤ ts.length ∧ ns.length ≤ 4 * j ∧ zs.length ≤ j + 1 ∧ KS Z p ta tn tc w0 nd0 [] [] ns j bb wr n u zs ∧ ((bb = false ∧ ∃ (es : List Nat) (ls : List (List NodeD)) (f : Nat), zs = castL es ∧ TreesAt ns es ls ∧ leftL (seenT ts) F f j ls = some r) ∨ (bb = true ∧ r.2.1 = j ∧ (r.1 = false ∨ j < ts.length)))

/-- What comes of one more stmt, ahead of which all is well. -/
theorem pr_next {G : Bool} {F f j q : Nat} {t' : List (List NodeD)} {r : Res} {ls : List (List NodeD)} {es : List Nat} {ds : List NodeD} {n u : Value} {z : Int} {wr : World} (hv : prs (seenT ts) F 5 j [] = some (b, q, t')) (hG : GI (seenT ts) (b, q, t') G) (hj : j ≤ ts.length) (hr : bindR (serS (seenT ts) 8900 (fun j => prs (seenT ts) F 5 j []) (f + 1) j) (fun q l => okR q (ls ++ l)) = some r) (hn : ns.length ≤ 4 * j) (hes : es.length ≤ j) (hT : TreesAt ns es ls)
    (hk : KS Z p ta tn tc w0 nd0 [] [] (ns ++ ds) q (!G) wr n u (castL es ++ [z])) (hjq : j ≤ q) (hl : ds.length ≤ 4 * (q - j)) (ht : G = true → ds.length + 1 ≤ 4 * (q - j) ∧ ∃ e' : Nat, z = e' ∧ TreeAt (ns ++ ds) e' (t'.headD [])) : PrS Z p ta tn tc ts F r w0 nd0 u wr := by
  have hadv := prs_adv (seen_ends ts) F 5 j [] hj _ _ _ hv
  have hq : q ≤ ts.length := hadv.2.1
  have hlz : (castL es ++ [z]).length ≤ q + 1 := by rw [List.length_append, castL, List.length_map]; show _ + 1 ≤ _; omega
  refine ⟨q, ns ++ ds, n, castL es ++ [z], !G, hq, by rw [List.length_append]; omega, hlz, hk, ?_⟩
  cases b with
  | false =>
    rw [leftL_bad hv] at hr
    cases hr
    cases G with
    | true => exact absurd (hG.1 rfl) Bool.false_ne_true
    | false => exact .inr ⟨rfl, rfl, .inl rfl⟩
  | true =>
    obtain ⟨t1, rfl, _⟩ := prs_one (by rfl) (by decide) (by decide) hj hv
    rw [leftL_one hv] at hr
    cases G with
    | true =>
      obtain ⟨_, e', rfl, h2⟩ := ht rfl
      exact .inl ⟨rfl, es ++ [e'], ls ++ [t1], f, by rw [← castL_snoc], hT.mono.app (TreesAt.one h2), hr⟩
    | false =>
      obtain ⟨h1, _, _, h4⟩ := hG.2 rfl rfl
      refine .inr ⟨rfl, ?_⟩
      unfold leftL at hr
      rw [if_neg h1] at hr
      cases hr
      exact ⟨rfl, .inr (seen_ends ts q h4)⟩

/-- A parser made anew. -/
theorem sps_new : SPS Z Z.heap.size ta tn tc false (Z.alloc (.cells #[.slice ta tn tc, .int .i64 0, .bool false, .slice none 0 0] 81)) 0 (.slice none 0 0) [] := by
  refine ⟨?_, ⟨rfl, .inl ⟨rfl, rfl⟩⟩, (fun x h => by cases h), by simp [blksC], (Below.refl _ _).alloc (Nat.le_refl _) _, Nat.le_refl _, by decide, by decide⟩
  show (Z.heap.push _)[Z.heap.size]? = _
  simp

/-- The nodes of the specification's parser, ready to be put in order. -/
theorem KS.outN {bx : List Nat} {i : Nat} (h : KS Z p ta tn tc w0 nd0 [] bx ns i b w nd v zs) : ∃ xs, xs.map NodeC.d = ns ∧ OutN Z (w.alloc (.cells #[] 47)) nd xs (.slice (some ⟨w.heap.size, 0, none⟩) 0 0) [] := by
  obtain ⟨XS, hX, hd⟩ := h.ps
  have hz := hX.low.size
  have hb : Below w.heap.size w (w.alloc (.cells #[] 47)) := (Below.refl _ _).alloc (Nat.le_refl _) _
  have hX' := hX.below hb
  have hblk : (w.alloc (.cells #[] 47)).heap[w.heap.size]? = some (.cells #[] 47 (0, 0)) := by
    show (w.heap.push _)[w.heap.size]? = _
    simp
  refine ⟨XS, hd, hX'.own, hX'.lists, ⟨rfl, .inr ⟨w.heap.size, 0, _, rfl, hz, hblk, Nat.le_refl _, by unfold maxLen; omega, by simp, by simp⟩⟩, (fun y hy => by cases hy), fun b hb' e => ?_, hX'.low⟩
  have e' : w.heap.size = b := Option.some.inj e
  have := (ownBlk_of hX.own hb').elim fun _ hc => lt_of_block hc.1
  omega

/-- What is out can be read, also where a cell of old is written. -/
theorem OutN.read {r : Nat} (h : OutN Z w nd xs v ys) (hsm : SmallC ys) (hn : ys.length ≤ 1048576) (hr : r < Z.heap.size) : ∃ a c, v = .slice a ys.length c ∧ ∀ w', Below w.heap.size w w' → NRow w' a ys.length (ys.map NodeC.d) ∧ ∀ u, NRow (w'.setCell ⟨r, 0, none⟩ u) a ys.length (ys.map NodeC.d) := by
  obtain ⟨a, c, e, _⟩ := own_nrow h.own h.outs hsm hn
  refine ⟨a, c, e, fun w' hb => ?_⟩
  have h1 := h.below hb
  have get : ∀ W : World, W.ownsRow Z.heap.size 47 6 v ys.length (ys.flatMap NodeC.cells) → (∀ y ∈ ys, y.Ok W Z.heap.size) → NRow W a ys.length (ys.map NodeC.d) := fun W g1 g2 => by
    obtain ⟨a', c', e', hC⟩ := own_nrow g1 g2 hsm hn
    rw [e] at e'
    cases e'
    exact hC.row
  refine ⟨get w' h1.own h1.outs, fun u => ?_⟩
  have hk : ∀ k, Z.heap.size ≤ k → (w'.setCell ⟨r, 0, none⟩ u).heap[k]? = w'.heap[k]? := fun k hk => heap_setCell_other w' ⟨r, 0, none⟩ k _ (by show k ≠ r; omega)
  exact get _ (own_keep h1.own fun g hg => hk g ((ownBlk_of h1.own hg).elim fun _ hc => hc.2)) fun y hy => ⟨own_keep (h1.outs y hy).1 fun g hg => hk g ((ownBlk_of (h1.outs y hy).1 hg).elim fun _ hc => hc.2), own_keep (h1.outs y hy).2 fun g hg => hk g ((ownBlk_of (h1.outs y hy).2 hg).elim fun _ hc => hc.2)⟩

/-- The line's tree put and in order. -/
theorem KS.order {bx : List Nat} {i : Nat} {es : List Nat} {ls : List (List NodeD)} (h : KS Z p ta tn tc w0 nd0 [] bx (ns ++ [⟨25, 0, 0, ⟨#[]⟩, [], castL es⟩]) i b w nd v zs) (ht : TreesAt ns es ls) (hn : ns.length ≤ 20000) (hl : (lineN ls).length ≤ 8003) :
    Calls Tryz.prog 46 #[nd, .int .i64 (ns.length : Nat), .slice (some ⟨w.heap.size, 0, none⟩) 0 0] (w.alloc (.cells #[] 47)) fun e w' => ∃ v' xs ys, e = .returned v' ∧ OutN Z w' nd xs v' ys ∧ ys.map NodeC.d = lineN ls := by
  obtain ⟨xs, hd, hO⟩ := h.outN
  have hT : TreeAt (xs.map NodeC.d) ns.length (lineN ls) := by
    rw [hd]
    exact ht.put 25 0 0 ⟨#[]⟩ [] (cnt0 (by decide) (by decide) (by decide) _)
  have hx : xs.length = ns.length + 1 := by
    have := congrArg List.length hd
    rwa [List.length_map, List.length_append] at this
  refine (ordP Z nd xs (by omega) (ns.length + 1) ns.length (lineN ls) (Nat.lt_succ_self _) hT _ _ _ hO (by show 0 + _ ≤ _; omega)).mono ?_
  rintro e w' ⟨v', ys', rfl, h1, h2, _⟩
  refine ⟨v', xs, ys', rfl, h1, ?_⟩
  rw [h2]
  exact shift_zero _

end
end Go.Proofs.YtmgjicgojlkpcaaGreatDoor
