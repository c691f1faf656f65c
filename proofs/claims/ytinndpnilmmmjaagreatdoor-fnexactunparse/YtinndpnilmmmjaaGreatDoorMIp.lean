import Derived.Test.YtinndpnilmmmjaaGreatDoorMNm
import Derived.Test.YtinndpnilmmmjaaGreatDoorMRel
import Derived.Test.YtinndpnilmmmjaaGreatDoorMFun
import Derived.Shelf.Strings.BuilderK
import Derived.Test.YtinndpnilmmmjaaGreatDoorMShelf
import Derived.Test.YtinndpnilmmmjaaGreatDoorMTn
import Derived.Test.YtinndpnilmmmjaaGreatDoorMTb
import Derived.Test.YtinndpnilmmmjaaGreatDoorMNode
namespace Go.Proofs.YtinndpnilmmmjaaGreatDoor
open Go.RowKit

theorem tok_some {k n : Int} {t : ByteArray} (h : (tokText k n t).size ≠ 0) : tokText k n t = spellT k n t := by
  unfold tokText at h ⊢
  split
  · rfl
  · rename_i hn
    rw [if_neg hn] at h
    exact absurd rfl h

theorem tok_named {s : ByteArray} {hi : Bool} (h : nameB s hi = true) : tokText 3 0 s = s := by
  rw [name_ok, Bool.and_eq_true, decide_eq_true_eq] at h
  rw [tok_some h.1]
  rfl

theorem tok_text {s : ByteArray} (h : txtB s = true) : (tokText 2 0 s).data.toList = looksD.txt s := by
  unfold txtB at h
  rw [decide_eq_true_eq] at h
  rw [tok_some h]
  rfl

theorem tok_num {z : Int} (h : isNum z = true) : (tokText 1 z ⟨#[]⟩).data.toList = looksD.num z := by
  unfold isNum at h
  rw [decide_eq_true_eq] at h
  have e : spellT 1 z ⟨#[]⟩ = bstr (numT z) := rfl
  have hsz : (spellT 1 z ⟨#[]⟩).size ≤ 2000 := by
    rw [e, bstr_size]
    have := (numT_parts z (by omega)).1
    omega
  rw [text_of_again (by rw [e]; exact again_num z (by omega)) hsz, e]
  show _ = if -1000000000000000 ≤ z ∧ z ≤ 1000000000000000 then (bstr (numT z)).data.toList else []
  rw [if_pos h]

theorem sign_all : (signCs.all fun c => decide (Utf8.decode (bstr (encZ (c : Nat))) 0 = (c, (bstr (encZ (c : Nat))).size)) && (decide (Utf8.decode (bstr (encZ (c : Nat))) 0 ≠ (65533, 1)) && decide (0 < (bstr (encZ (c : Nat))).size))) = true := by kernel_rfl

theorem again_of {x : ByteArray} {c : Nat} (h1 : Utf8.decode x 0 = (c, x.size)) (h2 : Utf8.decode x 0 ≠ (65533, 1)) (h3 : 0 < x.size) (hc : c ∈ signCs) : Again 4 0 x x := by
  have h4 := again_sign h3 h2 (by rw [h1]; exact hc)
  have e2 : 0 + (Utf8.decode x 0).2 = x.size := by rw [h1]; simp
  rw [e2] at h4
  have e : x.extract 0 x.size = x := by simp
  rwa [e] at h4

theorem sign_text {x : ByteArray} (h : Again 4 0 x x) (hs : x.size ≤ 4) : tokText 4 0 x = x := by
  have e : spellT 4 0 x = x := by unfold spellT; simp
  have := text_of_again (k := 4) (n := 0) (t := x) (by rw [e]; exact h) (by rw [e]; omega)
  rw [this, e]

theorem tok_sign {c : Nat} (h : c ∈ signCs) : tokText 4 0 (bstr (encZ (c : Nat))) = bstr (encZ (c : Nat)) := by
  have ha := List.all_eq_true.mp sign_all c h
  simp only [Bool.and_eq_true, decide_eq_true_eq] at ha
  obtain ⟨h1, h2, h3⟩ := ha
  exact sign_text (again_of h1 h2 h3 h) (by rw [bstr_size]; exact enc_len _)

end Go.Proofs.YtinndpnilmmmjaaGreatDoor
namespace Go.Proofs
open Go.Shelf

/-- The numbers of WriteByte's closure: Replace's, and WriteByte's own. -/
def Tryz.wbyteS_ren : Go.Shelf.Ren := ⟨fun | 167 => 36 | n => Tryz.replaceS_ren.f n, Tryz.replaceS_ren.t, Tryz.replaceS_ren.g⟩

theorem Tryz.wbyteS : Go.Proofs.Lays.n167 Tryz.prog Tryz.wbyteS_ren := {
  mixed := by kernel_rfl
  f167 := Tryz.func36.trans (congrArg some (by kernel_rfl))
  f240 := Tryz.replaceS.f240.trans (congrArg some (by kernel_rfl))
  f276 := Tryz.replaceS.f276.trans (congrArg some (by kernel_rfl))
  t0 := Tryz.replaceS.t0
  a0 := Tryz.replaceS.a0
  z0 := Tryz.replaceS.z0
  v0 := Tryz.replaceS.v0
  t4 := Tryz.replaceS.t4
  a4 := Tryz.replaceS.a4
  z4 := Tryz.replaceS.z4
  v4 := Tryz.replaceS.v4
  t5 := Tryz.replaceS.t5
  a5 := Tryz.replaceS.a5
  z5 := Tryz.replaceS.z5
  v5 := Tryz.replaceS.v5
  t9 := Tryz.replaceS.t9
  a9 := Tryz.replaceS.a9
  z9 := Tryz.replaceS.z9
  v9 := Tryz.replaceS.v9
  t20 := Tryz.replaceS.t20
  a20 := Tryz.replaceS.a20
  z20 := Tryz.replaceS.z20
  v20 := Tryz.replaceS.v20
  t37 := Tryz.replaceS.t37
  a37 := Tryz.replaceS.a37
  z37 := Tryz.replaceS.z37
  v37 := Tryz.replaceS.v37
  t70 := Tryz.replaceS.t70
  a70 := Tryz.replaceS.a70
  z70 := Tryz.replaceS.z70
  v70 := Tryz.replaceS.v70
  t72 := Tryz.replaceS.t72
  a72 := Tryz.replaceS.a72
  z72 := Tryz.replaceS.z72
  v72 := Tryz.replaceS.v72
  t75 := Tryz.replaceS.t75
  a75 := Tryz.replaceS.a75
  z75 := Tryz.replaceS.z75
  v75 := Tryz.replaceS.v75
  t164 := Tryz.replaceS.t164
  a164 := Tryz.replaceS.a164
  z164 := Tryz.replaceS.z164
  v164 := Tryz.replaceS.v164 }

end Go.Proofs
namespace Go.Proofs.YtinndpnilmmmjaaGreatDoor
open Go.RowKit

/-- A block that is no row of bytes. -/
def NoB (o : Obj) : Prop := ∀ c fz, o ≠ .cells c 5 fz

/-- The developers' writer in a run that began in the world Z: the text in block tb, the flag in block fb. -/
structure IX (Z : World) (tb fb : Nat) (w : World) (st : List UInt8 × Bool) : Prop where
  isb : IsB w Z.heap.size tb st.1
  flag : w.heap[fb]? = some (.cells #[.bool st.2] 4 (0, 0))
  low : Below Z.heap.size Z w
  hf : Z.heap.size ≤ fb

/-- What stands in a run: all but the two and the rows of bytes. -/
def Kept (tb fb : Nat) (w w' : World) : Prop := (∀ k o, w.heap[k]? = some o → k ≠ tb → k ≠ fb → NoB o → w'.heap[k]? = some o) ∧ w.heap.size ≤ w'.heap.size

theorem Kept.refl (tb fb : Nat) (w : World) : Kept tb fb w w := ⟨fun _ _ h _ _ _ => h, Nat.le_refl _⟩
theorem Kept.trans {tb fb : Nat} {a b c : World} (h : Kept tb fb a b) (k : Kept tb fb b c) : Kept tb fb a c := ⟨fun i o hi h1 h2 h3 => k.1 i o (h.1 i o hi h1 h2 h3) h1 h2 h3, Nat.le_trans h.2 k.2⟩
theorem lt_of_heap {w : World} {k : Nat} {o : Obj} (h : w.heap[k]? = some o) : k < w.heap.size := (Array.getElem?_eq_some_iff.1 h).1
theorem Kept.of_below {tb fb : Nat} {w w' : World} (hb : Below w.heap.size w w') : Kept tb fb w w' := ⟨fun k _ h _ _ _ => (hb.block k (lt_of_heap h)).trans h, hb.size⟩
theorem Kept.of_others {tb fb : Nat} {w w' : World} (h : Lib.OthersKept 5 (some tb) w w') (hs : w.heap.size ≤ w'.heap.size) : Kept tb fb w w' := ⟨fun k o hk h1 _ h3 => h k o hk (fun e => h1 (by simpa using e)) h3, hs⟩

/-- A call that writes. -/
def SaysI (Z : World) (tb fb : Nat) (f : Nat) (args : Array Value) (F : List UInt8 × Bool → List UInt8 × Bool) : Prop :=
  ∀ w st, IX Z tb fb w st → lenP (F st) ≤ mostP → Calls Tryz.prog f args w fun e w' => (∃ v, e = .returned v) ∧ IX Z tb fb w' (F st) ∧ Kept tb fb w w'

theorem saysI_congr {Z : World} {tb fb f : Nat} {args : Array Value} {F F' : List UInt8 × Bool → List UInt8 × Bool} (h : SaysI Z tb fb f args F) (e : ∀ st, F' st = F st) : SaysI Z tb fb f args F' := by
  have : F' = F := funext e
  rw [this]
  exact h

theorem IX.lt {Z w : World} {tb fb : Nat} {st : List UInt8 × Bool} (h : IX Z tb fb w st) : tb < w.heap.size ∧ fb < w.heap.size ∧ Z.heap.size ≤ tb := by
  refine ⟨?_, lt_of_heap h.flag, ?_⟩
  · rcases h.isb with ⟨_, v, hb, _⟩ | ⟨_, v, hb, _⟩ <;> exact lt_of_heap hb
  · rcases h.isb with ⟨hB, _⟩ | ⟨hB, _⟩ <;> exact hB

theorem IX.ne {Z w : World} {tb fb : Nat} {st : List UInt8 × Bool} (h : IX Z tb fb w st) : fb ≠ tb := by
  intro e
  have hf := h.flag
  rcases h.isb with ⟨_, v, hb, _⟩ | ⟨_, v, hb, _⟩ <;>
  · rw [e, hb] at hf
    have := Option.some.inj hf
    simp at this

theorem IX.below {Z w w' : World} {tb fb : Nat} {st : List UInt8 × Bool} (h : IX Z tb fb w st) (hb : Below w.heap.size w w') : IX Z tb fb w' st :=
  ⟨h.isb.below hb, (hb.block fb h.lt.2.1).trans h.flag, h.low.trans (hb.mono h.low.size), h.hf⟩

/-- The writer, and boxes of the call's own, in a run that came from w0. -/
structure IB (Z : World) (tb fb : Nat) (w0 : World) (bs : List (Nat × Obj)) (w : World) (st : List UInt8 × Bool) : Prop where
  ix : IX Z tb fb w st
  bx : ∀ x ∈ bs, w.heap[x.1]? = some x.2 ∧ x.1 ≠ tb ∧ x.1 ≠ fb ∧ NoB x.2
  kept : Kept tb fb w0 w

section
variable {Z w w0 w' : World} {tb fb : Nat} {bs : List (Nat × Obj)} {st : List UInt8 × Bool}

theorem IB.start (h : IX Z tb fb w st) : IB Z tb fb w [] w st := ⟨h, fun _ hx => absurd hx List.not_mem_nil, Kept.refl _ _ _⟩

theorem IB.below (h : IB Z tb fb w0 bs w st) (hb : Below w.heap.size w w') : IB Z tb fb w0 bs w' st :=
  ⟨h.ix.below hb, fun x hx => by
    obtain ⟨h1, h2⟩ := h.bx x hx
    exact ⟨(hb.block x.1 (lt_of_heap h1)).trans h1, h2⟩, h.kept.trans (Kept.of_below hb)⟩

theorem IB.push (h : IB Z tb fb w0 bs w st) (o : Obj) (hN : NoB o) : IB Z tb fb w0 ((w.heap.size, o) :: bs) (w.alloc o) st := by
  have hb : Below w.heap.size w (w.alloc o) := (Below.refl _ _).alloc (Nat.le_refl _) _
  have hl := h.ix.lt
  refine ⟨h.ix.below hb, fun x hx => ?_, h.kept.trans (Kept.of_below hb)⟩
  rcases List.mem_cons.1 hx with rfl | hx
  · refine ⟨?_, by show w.heap.size ≠ tb; omega, by show w.heap.size ≠ fb; omega, hN⟩
    show (w.heap.push o)[w.heap.size]? = _
    simp
  · exact (h.below hb).bx x hx

theorem IB.step (h : IB Z tb fb w0 bs w st) {st' : List UInt8 × Bool} (hi : IX Z tb fb w' st') (hk : Kept tb fb w w') : IB Z tb fb w0 bs w' st' :=
  ⟨hi, fun x hx => by
    obtain ⟨h1, h2, h3, h4⟩ := h.bx x hx
    exact ⟨hk.1 _ _ h1 h2 h3 h4, h2, h3, h4⟩, h.kept.trans hk⟩

theorem IB.call (h : IB Z tb fb w0 bs w st) {f : Nat} {args : Array Value} {F : List UInt8 × Bool → List UInt8 × Bool} (hs : SaysI Z tb fb f args F) (hl : lenP (F st) ≤ mostP) :
    Calls Tryz.prog f args w fun e w' => (∃ v, e = .returned v) ∧ IB Z tb fb w0 bs w' (F st) := by
  refine (hs w st h.ix hl).mono ?_
  rintro e w' ⟨hv, hi, hk⟩
  exact ⟨hv, h.step hi hk⟩

theorem IB.at0 {x : Nat × Obj} (h : IB Z tb fb w0 (x :: bs) w st) : w.heap[x.1]? = some x.2 := (h.bx x (by simp)).1
theorem IB.at1 {x y : Nat × Obj} (h : IB Z tb fb w0 (x :: y :: bs) w st) : w.heap[y.1]? = some y.2 := (h.bx y (by simp)).1

end

theorem cells1 {w : World} {q : Nat} {v0 : Value} {T : TypeId} (h : w.heap[q]? = some (.cells #[v0] T (0, 0))) : w.cell? ⟨q, 0, none⟩ = some v0 := by simp [World.cell?, h]
theorem cells2 {w : World} {q : Nat} {v0 v1 : Value} {T : TypeId} (h : w.heap[q]? = some (.cells #[v0, v1] T (0, 0))) : w.cell? ⟨q, 0, none⟩ = some v0 ∧ w.cell? ⟨q, 1, none⟩ = some v1 := by
  refine ⟨?_, ?_⟩ <;> simp [World.cell?, h]
theorem cells4 {w : World} {q : Nat} {v0 v1 v2 v3 : Value} {T : TypeId} (h : w.heap[q]? = some (.cells #[v0, v1, v2, v3] T (0, 0))) : w.cell? ⟨q, 0, none⟩ = some v0 ∧ w.cell? ⟨q, 1, none⟩ = some v1 ∧ w.cell? ⟨q, 2, none⟩ = some v2 ∧ w.cell? ⟨q, 3, none⟩ = some v3 := by
  refine ⟨?_, ?_, ?_, ?_⟩ <;> simp [World.cell?, h]
theorem cells6 {w : World} {q : Nat} {v0 v1 v2 v3 v4 v5 : Value} {T : TypeId} (h : w.heap[q]? = some (.cells #[v0, v1, v2, v3, v4, v5] T (0, 0))) : w.cell? ⟨q, 0, none⟩ = some v0 ∧ w.cell? ⟨q, 1, none⟩ = some v1 ∧ w.cell? ⟨q, 2, none⟩ = some v2 ∧ w.cell? ⟨q, 3, none⟩ = some v3 ∧ w.cell? ⟨q, 4, none⟩ = some v4 ∧ w.cell? ⟨q, 5, none⟩ = some v5 := by
  refine ⟨?_, ?_, ?_, ?_, ?_, ?_⟩ <;> simp [World.cell?, h]

theorem noB_of {cs : Array Value} {T : TypeId} {fz : Nat × Nat} (h : T ≠ 5) : NoB (.cells cs T fz) := by
  intro c fz' e
  cases e
  exact h rfl

end Go.Proofs.YtinndpnilmmmjaaGreatDoor
namespace Go.Proofs.YtinndpnilmmmjaaGreatDoor
open Go.RowKit

theorem eg_write : ∀ args w, (callFunc 35 args).run Tryz.prog w = .ok (.enter 35 args) w := enters_of Tryz.func35 (by kernel_rfl) rfl

theorem extra_wbyte : Builder.Extra Tryz.prog Tryz.wbyteS_ren where
  sizeBuilder := by kernel_rfl
  liesBuilder := by kernel_rfl
  t5 := Tryz.underlying5
  a5 := Tryz.isAgg5
  z5 := Tryz.sizeOf5
  v5 := Tryz.zeroValue5
  infoByte := by kernel_rfl
  cellsByte := by kernel_rfl
  sizeByte := by kernel_rfl
  neB5 := by decide

theorem IX.grown {Z w w' : World} {tb fb : Nat} {st : List UInt8 × Bool} {l : List UInt8} (h : IX Z tb fb w st) (hi : IsB w' Z.heap.size tb l) (hb : Below Z.heap.size w w') (ho : Lib.OthersKept 5 (some tb) w w') : IX Z tb fb w' (l, st.2) ∧ Kept tb fb w w' := by
  have hs : w.heap.size ≤ w'.heap.size := hb.size
  exact ⟨⟨hi, ho fb _ h.flag (fun e => h.ne (by simpa using e)) (noB_of (by decide)), h.low.trans hb, h.hf⟩, Kept.of_others ho hs⟩

theorem bwriteK (Z : World) (tb fb : Nat) (w : World) (st : List UInt8 × Bool) (s : ByteArray) (h : IX Z tb fb w st) (hlen : lenP st + s.size ≤ 17592186044416) :
    Calls Tryz.prog 37 #[.pointer (some ⟨tb, 0, none⟩), .string s] w fun e w' => (∃ v, e = .returned v) ∧ IX Z tb fb w' (st.1 ++ s.data.toList, st.2) ∧ Kept tb fb w w' := by
  have hl : st.1.length + s.size ≤ 17592186044416 := hlen
  refine (Any.Builder_WriteString_k { Tryz.replaceS with } extra_builder Z.heap.size tb (Lib.byteCells st.1) s w h.isb (by simp [Lib.byteCells]; omega) h.low.size).mono ?_
  rintro e w' ⟨rfl, h1, h2, h3⟩
  have e : Lib.byteCells st.1 ++ Lib.strCells s = Lib.byteCells (st.1 ++ s.data.toList) := by simp [Lib.byteCells, Lib.strCells]
  rw [e] at h1
  exact ⟨⟨_, rfl⟩, h.grown (Or.inr h1) h2 h3⟩

theorem bbyteK (Z : World) (tb fb : Nat) (w : World) (st : List UInt8 × Bool) (h : IX Z tb fb w st) (hlen : lenP st + 1 ≤ 17592186044416) :
    Calls Tryz.prog 36 #[.pointer (some ⟨tb, 0, none⟩), .int .u8 32] w fun e w' => (∃ v, e = .returned v) ∧ IX Z tb fb w' (st.1 ++ [32], st.2) ∧ Kept tb fb w w' := by
  have hl : st.1.length + 1 ≤ 17592186044416 := hlen
  refine (Any.Builder_WriteByte_k { Tryz.wbyteS with } extra_wbyte Z.heap.size tb (Lib.byteCells st.1) 32 w h.isb (by simp [Lib.byteCells]; omega) h.low.size).mono ?_
  rintro e w' ⟨rfl, h1, h2, h3⟩
  have e : Lib.byteCells st.1 ++ [Value.int .u8 32] = Lib.byteCells (st.1 ++ [32]) := by simp [Lib.byteCells]
  rw [e] at h1
  exact ⟨⟨_, rfl⟩, h.grown (Or.inr h1) h2 h3⟩

/-- The flag set. -/
theorem IX.setFlag {Z w : World} {tb fb : Nat} {st : List UInt8 × Bool} (h : IX Z tb fb w st) (b : Bool) : IX Z tb fb (w.setCell ⟨fb, 0, none⟩ (.bool b)) (st.1, b) ∧ Kept tb fb w (w.setCell ⟨fb, 0, none⟩ (.bool b)) := by
  have hne := h.ne
  have hoth : ∀ k, k ≠ fb → (w.setCell ⟨fb, 0, none⟩ (.bool b)).heap[k]? = w.heap[k]? := fun k hk => heap_setCell_other w ⟨fb, 0, none⟩ k _ (fun e => hk e)
  have hnb : ∀ g c fz, w.heap[g]? = some (.cells c 5 fz) → g ≠ fb := by
    intro g c fz hg e
    rw [e, h.flag] at hg
    exact noB_of (T := 4) (by decide) _ _ (Option.some.inj hg)
  refine ⟨⟨?_, ?_, ⟨h.low.os, h.low.tape, h.low.output, by simpa using h.low.size, fun k hk => ?_⟩, h.hf⟩, fun k o hk _ h2 _ => (hoth k h2).trans hk, by simp⟩
  · have key : ∀ p, Lib.BuilderAtF (Tryz.replaceS_ren.t 72) (Tryz.replaceS_ren.t 5) Z.heap.size tb p (Lib.byteCells st.1) w → Lib.BuilderAtF (Tryz.replaceS_ren.t 72) (Tryz.replaceS_ren.t 5) Z.heap.size tb p (Lib.byteCells st.1) (w.setCell ⟨fb, 0, none⟩ (.bool b)) := by
      rintro p ⟨hB, v, hbk, hown, hne'⟩
      refine ⟨hB, v, (hoth tb (fun e => hne e.symm)).trans hbk, ⟨hown.1, ?_⟩, hne'⟩
      rcases hown.2 with hn | ⟨g, cap, cur, fz, hv, hbg, hg, rest⟩
      · exact .inl hn
      · exact .inr ⟨g, cap, cur, fz, hv, hbg, (hoth g (hnb g _ _ hg)).trans hg, rest⟩
    exact h.isb.elim (fun x => .inl (key _ x)) (fun x => .inr (key _ x))
  · rw [heap_setCell_same w fb 0 _ _ _ h.flag]
    simp
  · have := h.hf
    exact (hoth k (by omega)).trans (h.low.block k hk)

end Go.Proofs.YtinndpnilmmmjaaGreatDoor
namespace Go.Proofs.YtinndpnilmmmjaaGreatDoor
open Go.RowKit

/-- What the closure is called with. -/
def tokArgs (tb fb : Nat) (k n : Int) (t : ByteArray) : Array Value := #[.agg #[.int .i64 k, .int .i64 n, .string t, .int .i64 0], .pointer (some ⟨fb, 0, none⟩), .pointer (some ⟨tb, 0, none⟩)]

theorem IB.tok {Z w w0 : World} {tb fb : Nat} {bs : List (Nat × Obj)} {st : List UInt8 × Bool} (h : IB Z tb fb w0 bs w st) (hG : GlTree Z) (k n : Int) (t : ByteArray) (hn : -9223372036854775808 ≤ n ∧ n ≤ 9223372036854775807) (ht : t.size ≤ 1048576) :
    Calls Tryz.prog 38 #[.agg #[.int .i64 k, .int .i64 n, .string t, .int .i64 0]] w fun e w' => e = .returned (.string (tokText k n t)) ∧ IB Z tb fb w0 bs w' st := by
  have hg := hG.below h.ix.low
  refine (implTok_any k n 0 t w hn ht hg.1 hg.2.1 hg.2.2).mono ?_
  rintro e w' ⟨rfl, hb⟩
  exact ⟨rfl, h.below hb⟩

theorem IB.wstr {Z w w0 : World} {tb fb : Nat} {bs : List (Nat × Obj)} {st : List UInt8 × Bool} (h : IB Z tb fb w0 bs w st) (s : ByteArray) (hl : lenP st + s.size ≤ 17592186044416) :
    Calls Tryz.prog 37 #[.pointer (some ⟨tb, 0, none⟩), .string s] w fun e w' => (∃ v, e = .returned v) ∧ IB Z tb fb w0 bs w' (st.1 ++ s.data.toList, st.2) := by
  refine (bwriteK Z tb fb w st s h.ix hl).mono ?_
  rintro e w' ⟨hv, hi, hk⟩
  exact ⟨hv, h.step hi hk⟩

theorem IB.wbyte {Z w w0 : World} {tb fb : Nat} {bs : List (Nat × Obj)} {st : List UInt8 × Bool} (h : IB Z tb fb w0 bs w st) (hl : lenP st + 1 ≤ 17592186044416) :
    Calls Tryz.prog 36 #[.pointer (some ⟨tb, 0, none⟩), .int .u8 32] w fun e w' => (∃ v, e = .returned v) ∧ IB Z tb fb w0 bs w' (st.1 ++ [32], st.2) := by
  refine (bbyteK Z tb fb w st h.ix hl).mono ?_
  rintro e w' ⟨hv, hi, hk⟩
  exact ⟨hv, h.step hi hk⟩

theorem IB.setF {Z w w0 : World} {tb fb : Nat} {bs : List (Nat × Obj)} {st : List UInt8 × Bool} (h : IB Z tb fb w0 bs w st) (b : Bool) : IB Z tb fb w0 bs (w.setCell ⟨fb, 0, none⟩ (.bool b)) (st.1, b) := by
  obtain ⟨hi, hk⟩ := h.ix.setFlag b
  exact h.step hi hk

/-- The flag's cell. -/
theorem IB.flag {Z w w0 : World} {tb fb : Nat} {bs : List (Nat × Obj)} {st : List UInt8 × Bool} (h : IB Z tb fb w0 bs w st) : w.cell? ⟨fb, 0, none⟩ = some (.bool st.2) ∧ w.frozen? ⟨fb, 0, none⟩ = false := ⟨cells1 h.ix.flag, frozen_of_row w fb 0 _ _ h.ix.flag⟩

set_option maxRecDepth 20000 in
set_option maxHeartbeats 8000000 in
theorem write_sign (Z : World) (tb fb : Nat) (hG : GlTree Z) (k n : Int) (t : ByteArray) (hk : k = 2 ∨ k = 4) (hn : -9223372036854775808 ≤ n ∧ n ≤ 9223372036854775807) (ht : t.size ≤ 1048576) (s : ByteArray) (hs : tokText k n t = s) :
    SaysI Z tb fb 35 (tokArgs tb fb k n t) (fun st => sayP st s.data.toList false) := by
  intro w st h hq
  have hq1 : lenP (sayP st s.data.toList false) ≤ mostP := hq
  have hln : lenP st + 0 + s.size ≤ 17592186044416 := by
    unfold sayP lenP at hq1
    unfold mostP at hq1
    simp only [List.length_append, dl_size] at hq1
    unfold lenP
    omega
  have HG := hide hG
  have HB0 := hide ((IB.start h).push (.cells #[.int .i64 k, .int .i64 n, .string t, .int .i64 0] 64) (noB_of (by decide)))
  obtain ⟨a0, a1, a2, a3⟩ := cells4 (unhide HB0).at0
  have alt := (unhide HB0).ix.lt
  obtain ⟨fl, fz⟩ := (unhide HB0).flag
  have HS := hide hs
  have hbq : w.heap.size ≠ fb := by have := h.lt; omega
  obtain ⟨l, b2⟩ := st
  have hln' : l.length + 0 + s.size ≤ 17592186044416 := hln
  clear h hq hq1 hG hs hln
  unfold tokArgs
  rcases hk with rfl | rfl <;>
  · go_enter Tryz.func35, Tryz.ntmps35
    go_wp2_with (first | (go_at_call 38; refine ((unhide (hide ((unhide HB0).setF false))).tok (unhide HG) _ n t hn ht).mono ?_; rintro e w5 ⟨rfl, hb5⟩; rw [unhide HS]; have HB5 := hide hb5; clear hb5) | (go_at_call 37; refine ((unhide HB5).wstr s (by show l.length + s.size ≤ 17592186044416; omega)).mono ?_; rintro e w6 ⟨⟨v6, rfl⟩, hb6⟩; have HB6 := hide hb6; clear hb6))
    go_end0
    refine ⟨⟨_, rfl⟩, ?_⟩
    have hd := unhide HB6
    exact ⟨(by have := hd.ix; simpa [sayP] using this), hd.kept⟩

set_option maxRecDepth 20000 in
set_option maxHeartbeats 8000000 in
theorem write_word (Z : World) (tb fb : Nat) (hG : GlTree Z) (k n : Int) (t : ByteArray) (hk : k = 1 ∨ k = 3) (hn : -9223372036854775808 ≤ n ∧ n ≤ 9223372036854775807) (ht : t.size ≤ 1048576) (s : ByteArray) (hs : tokText k n t = s) :
    SaysI Z tb fb 35 (tokArgs tb fb k n t) (fun st => sayP st s.data.toList true) := by
  intro w st h hq
  have hq1 : lenP (sayP st s.data.toList true) ≤ mostP := hq
  have hln : lenP st + (if st.2 = true then 1 else 0) + s.size ≤ 17592186044416 := by
    unfold sayP lenP at hq1
    unfold mostP at hq1
    simp only [List.length_append, dl_size] at hq1
    unfold lenP
    cases hb : st.2 <;> simp_all <;> omega
  have HG := hide hG
  have HB0 := hide ((IB.start h).push (.cells #[.int .i64 k, .int .i64 n, .string t, .int .i64 0] 64) (noB_of (by decide)))
  obtain ⟨a0, a1, a2, a3⟩ := cells4 (unhide HB0).at0
  have alt := (unhide HB0).ix.lt
  obtain ⟨fl, fz⟩ := (unhide HB0).flag
  have HS := hide hs
  have hbq : w.heap.size ≠ fb := by have := h.lt; omega
  obtain ⟨l, b2⟩ := st
  have hln' : l.length + (if b2 = true then 1 else 0) + s.size ≤ 17592186044416 := hln
  clear h hq hq1 hG hs hln
  unfold tokArgs
  cases b2 with
  | false =>
    rw [if_neg (by decide)] at hln'
    rcases hk with rfl | rfl <;>
    · go_enter Tryz.func35, Tryz.ntmps35
      go_wp2_with (first | (go_at_call 38; refine ((unhide (hide ((unhide HB0).setF true))).tok (unhide HG) _ n t hn ht).mono ?_; rintro e w5 ⟨rfl, hb5⟩; rw [unhide HS]; have HB5 := hide hb5; clear hb5) | (go_at_call 37; refine ((unhide HB5).wstr s (by show l.length + s.size ≤ 17592186044416; omega)).mono ?_; rintro e w6 ⟨⟨v6, rfl⟩, hb6⟩; have HB6 := hide hb6; clear hb6))
      go_end0
      refine ⟨⟨_, rfl⟩, ?_⟩
      have hd := unhide HB6
      exact ⟨(by have := hd.ix; simpa [sayP] using this), hd.kept⟩
  | true =>
    rw [if_pos rfl] at hln'
    rcases hk with rfl | rfl <;>
    · go_enter Tryz.func35, Tryz.ntmps35
      go_wp2_with (first | (go_at_call 36; refine ((unhide HB0).wbyte (by unfold lenP; show l.length + 1 ≤ _; omega)).mono ?_; rintro e w4 ⟨⟨v4, rfl⟩, hb4⟩; have HB4 := hide hb4; obtain ⟨a0, a1, a2, a3⟩ := cells4 hb4.at0; obtain ⟨fl4, fz4⟩ := hb4.flag; have alt4 := hb4.ix.lt; clear hb4 HB0) | (go_at_call 38; refine ((unhide (hide ((unhide HB4).setF true))).tok (unhide HG) _ n t hn ht).mono ?_; rintro e w5 ⟨rfl, hb5⟩; rw [unhide HS]; have HB5 := hide hb5; clear hb5) | (go_at_call 37; refine ((unhide HB5).wstr s (by show (l ++ [32]).length + s.size ≤ 17592186044416; rw [List.length_append]; show l.length + 1 + s.size ≤ 17592186044416; omega)).mono ?_; rintro e w6 ⟨⟨v6, rfl⟩, hb6⟩; have HB6 := hide hb6; clear hb6))
      go_end0
      refine ⟨⟨_, rfl⟩, ?_⟩
      have hd := unhide HB6
      exact ⟨(by have := hd.ix; simpa [sayP] using this), hd.kept⟩

end Go.Proofs.YtinndpnilmmmjaaGreatDoor
namespace Go.Proofs.YtinndpnilmmmjaaGreatDoor
open Go.RowKit

/-- The closure as a value, the printer's cells, and the printer. -/
def wrV (tb fb : Nat) : Value := .func (.func 35) #[] #[.pointer (some ⟨fb, 0, none⟩), .pointer (some ⟨tb, 0, none⟩)]
abbrev prC (a : Option Addr) (n cap tb fb : Nat) : Array Value := #[.slice a n cap, .func (.func 35) #[] #[.pointer (some ⟨fb, 0, none⟩), .pointer (some ⟨tb, 0, none⟩)]]
abbrev prV (a : Option Addr) (n cap tb fb : Nat) : Value := .agg (prC a n cap tb fb)
abbrev prO (a : Option Addr) (n cap tb fb : Nat) : Obj := .cells (prC a n cap tb fb) 73 (0, 0)

section
variable {Z w w0 : World} {tb fb : Nat} {bs : List (Nat × Obj)} {st : List UInt8 × Bool}

theorem IB.one (h : IX Z tb fb w st) (a : Option Addr) (n cap : Nat) : IB Z tb fb w [(w.heap.size, prO a n cap tb fb)] (w.alloc (prO a n cap tb fb)) st := (IB.start h).push _ (noB_of (by decide))

theorem IB.two (h : IX Z tb fb w st) (a : Option Addr) (n cap : Nat) (v0 v1 v2 v3 v4 v5 : Value) : IB Z tb fb w [(w.heap.size + 1, .cells #[v0, v1, v2, v3, v4, v5] 47 (0, 0)), (w.heap.size, prO a n cap tb fb)] ((w.alloc (prO a n cap tb fb)).alloc (.cells #[v0, v1, v2, v3, v4, v5] 47)) st := by
  have h1 := (IB.one h a n cap).push (.cells #[v0, v1, v2, v3, v4, v5] 47) (noB_of (by decide))
  have e : (w.alloc (prO a n cap tb fb)).heap.size = w.heap.size + 1 := by simp
  rw [e] at h1
  exact h1

end

set_option maxRecDepth 20000 in
set_option maxHeartbeats 800000 in
theorem saysI_sign (Z : World) (tb fb : Nat) (hG : GlTree Z) (a : Option Addr) (n cap : Nat) (s : ByteArray) (c : Nat) (hc : c ∈ signCs) (hs : s = bstr (encZ ((c : Nat) : Int))) :
    SaysI Z tb fb 128 #[prV a n cap tb fb, .string s] (fun st => sayS looksD st c) := by
  have hsz : s.size ≤ 4 := by rw [hs, bstr_size]; exact enc_len _
  have e1 : tokText 4 0 s = s := by
    have h1 := tok_sign hc
    rwa [← hs] at h1
  have e2 : looksD.sg c = s.data.toList := by
    have h1 := looks_sg c
    rwa [← hs] at h1
  clear hs hc
  have hW := saysI_congr (write_sign Z tb fb hG 4 0 s (.inr rfl) (by omega) (by omega) s e1) (F' := fun st => sayS looksD st c) (fun st => by unfold sayS; rw [e2])
  clear e1 e2
  unfold tokArgs at hW
  have HW := hide hW
  have eg := eg_write
  clear hW
  intro w st h hq
  have HQ := hide hq
  have HB0 := hide (IB.one h a n cap)
  clear h hq
  go_enter Tryz.func128, Tryz.ntmps128
  go_wp2_with fail
  refine ((unhide HB0).call (unhide HW) (unhide HQ)).mono ?_
  rintro e w1 ⟨⟨v1, rfl⟩, hb1⟩
  have HB1 := hide hb1
  clear hb1
  go_wp2_with fail
  go_end0
  exact ⟨⟨_, rfl⟩, (unhide HB1).ix, (unhide HB1).kept⟩

set_option maxRecDepth 20000 in
set_option maxHeartbeats 800000 in
theorem saysI_name (Z : World) (tb fb : Nat) (hG : GlTree Z) (a : Option Addr) (n cap : Nat) (s : ByteArray) (hi : Bool) (hs : nameB s hi = true) (hz : s.size ≤ 1048576) :
    SaysI Z tb fb 127 #[prV a n cap tb fb, .string s] (fun st => sayP st s.data.toList true) := by
  have hW := write_word Z tb fb hG 3 0 s (.inr rfl) (by omega) hz s (tok_named hs)
  unfold tokArgs at hW
  have HW := hide hW
  have eg := eg_write
  clear hW
  intro w st h hq
  have HQ := hide hq
  have HB0 := hide (IB.one h a n cap)
  clear h hq
  go_enter Tryz.func127, Tryz.ntmps127
  go_wp2_with fail
  refine ((unhide HB0).call (unhide HW) (unhide HQ)).mono ?_
  rintro e w1 ⟨⟨v1, rfl⟩, hb1⟩
  have HB1 := hide hb1
  clear hb1
  go_wp2_with fail
  go_end0
  exact ⟨⟨_, rfl⟩, (unhide HB1).ix, (unhide HB1).kept⟩

end Go.Proofs.YtinndpnilmmmjaaGreatDoor
