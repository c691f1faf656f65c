import Derived.Test.YtgjpchnkodnieaaGreatDoorZv01
import Derived.Test.YtgjpchnkodnieaaGreatDoorZv02
import Derived.Test.YtgjpchnkodnieaaGreatDoorZv17
import Derived.Test.YtgjpchnkodnieaaGreatDoorZv13
import Derived.Deep.AppendLies
import Derived.Test.YtgjpchnkodnieaaGreatDoorZv07
import Derived.Test.YtgjpchnkodnieaaGreatDoorZv14
import Derived.Test.YtgjpchnkodnieaaGreatDoorZv12
import Derived.Deep.RegionHeld3
import Derived.Deep.DeepCutAuto
import Derived.Test.YtgjpchnkodnieaaGreatDoorZv18
namespace Go.Proofs.YtgjpchnkodnieaaGreatDoor
open Go.RowKit
section
variable {P : Program} (w : World)
theorem run_append_some (t ty : TypeId) (base : Nat) (e : TypeId) (i : TypeInfo) (z : Value) (size bytes : Nat) (ht : P.underlying t = some (.slice e)) (hi : P.info? e = some i) (hz : i.zero = some z)
    (hsize : i.size = size) (hby : i.bytes = bytes) (hzs : z.cells.size = size) (hsz : 0 < size)
    (g0 n cap0 : Nat) (xs : List Value) (hown : w.ownsRow base e size (.slice (some ⟨g0, 0, none⟩) n cap0) n xs)
    (ad : Addr) (m c : Nat) (news : List Value) (hl : news.length = m * size) (hnews : ∀ j u, news[j]? = some u → w.cell? (ad.add j) = some u) (h1 : ∀ u ∈ news, u.oneCell' = true)
    (h63 : n + m ≤ maxLen) (hbytes : (n + m) * bytes ≤ 140737488355328) (hbase : base ≤ w.heap.size) :
    ∃ g cap w', (Builtin.append_ #[t, t] ty #[.slice (some ⟨g0, 0, none⟩) n cap0, .slice (some ad) m c]).run P w = .ok (.slice (some ⟨g, 0, none⟩) (n + m) cap) w' ∧
      w'.ownsRow base e size (.slice (some ⟨g, 0, none⟩) (n + m) cap) (n + m) (xs ++ news) ∧ w.grownBy w' (some g0) ∧ (g = g0 ∨ g = w.heap.size) := by
  obtain ⟨v', w', hr, h2, h3, h4, h5⟩ := run_append_own_at (P := P) w base t ty e i z size bytes ht hi hz hsize hby hzs hsz _ n xs hown ad m c news hl hnews h1 h63 hbytes hbase
  have hf : ∃ g cap, v' = .slice (some ⟨g, 0, none⟩) (n + m) cap := by
    rcases h2.2 with ⟨e0, e1⟩ | ⟨g, cap, cur, hv, _⟩
    · exact absurd (h4.1 e0).1 (by simp)
    · exact ⟨g, cap, hv⟩
  obtain ⟨g, cap, rfl⟩ := hf
  refine ⟨g, cap, w', hr, h2, h3, ?_⟩
  rcases h5 with h5 | h5
  · left; simpa [Value.ownBlock] using h5
  · right; simpa [Value.ownBlock] using h5
theorem wp_append_some {o : Oper} {a : Act} {K : Act → World → Prop} {Q : Exit → Act → World → Prop} (s x : Operand) (t : TypeId)
    (ho : o.op = .call { callee := .builtin .append, args := #[s, x], argTypes := #[t, t] })
    (base : Nat) (e : TypeId) (i : TypeInfo) (z : Value) (size bytes : Nat) (ht : P.underlying t = some (.slice e)) (hi : P.info? e = some i) (hz : i.zero = some z)
    (hsize : i.size = size) (hby : i.bytes = bytes) (hzs : z.cells.size = size) (hsz : 0 < size)
    (g0 n cap0 : Nat) (xs : List Value) (hs : a.eval s = .slice (some ⟨g0, 0, none⟩) n cap0) (hown : w.ownsRow base e size (.slice (some ⟨g0, 0, none⟩) n cap0) n xs)
    (ad : Addr) (m c : Nat) (news : List Value) (hx : a.eval x = .slice (some ad) m c) (hl : news.length = m * size) (hnews : ∀ j u, news[j]? = some u → w.cell? (ad.add j) = some u) (h1 : ∀ u ∈ news, u.oneCell' = true)
    (h63 : n + m ≤ maxLen) (hbytes : (n + m) * bytes ≤ 140737488355328) (hbase : base ≤ w.heap.size)
    (h : ∀ g cap w', w'.ownsRow base e size (.slice (some ⟨g, 0, none⟩) (n + m) cap) (n + m) (xs ++ news) → w.grownBy w' (some g0) → (g = g0 ∨ g = w.heap.size) → K (a.put o.dst (.slice (some ⟨g, 0, none⟩) (n + m) cap)) w') : o.wp P a w K Q := by
  obtain ⟨g, cap, w', hr, h2, h3, h4⟩ := run_append_some (P := P) w t o.type base e i z size bytes ht hi hz hsize hby hzs hsz g0 n cap0 xs hown ad m c news hl hnews h1 h63 hbytes hbase
  unfold Oper.wp execOp
  simp only [ho, resolve, invoke, builtin, Sem.run_bind, Sem.run_pure, Result.andThen_ok, List.map_toArray, List.map_cons, List.map_nil, hs, hx, hr]
  exact h g cap w' h2 h3 h4
end
theorem Box.grown0 {w w1 : World} {p base n g cap : Nat} {c : Bool} {v1 v2 : Value} {xs : List Value} (h : Box w p c v1 v2) (hown : w.ownsRow base 3 1 (.slice (some ⟨g, 0, none⟩) n cap) n xs) (hg : w.grownBy w1 (some g)) : Box w1 p c v1 v2 := by
  refine (hg.block p h.lt ?_).trans h
  rcases hown.2 with ⟨e, _⟩ | ⟨g', cap', cur, e, _, hh, _⟩
  · cases e
  · cases e
    intro e
    cases e
    unfold Box at h
    rw [h] at hh
    have := congrArg (fun o => match o with | some (.cells _ t _) => t | _ => 0) hh
    simp at this
theorem Own.grown0 {w w1 : World} {B g n : Nat} {a : Option Addr} {zs : List Int} (h : Own w B a n zs) (hg : w.grownBy w1 (some g)) (hne : ∀ x, At a n x → x ≠ g) : Own w1 B a n zs := by
  refine ⟨h.len, h.small, ?_⟩
  rcases h.at_ with h0 | ⟨b, off, rfl, hb, hlt, hc, hf⟩
  · exact .inl h0
  · by_cases hn : n = 0
    · exact .inl hn
    have hk : w1.heap[b]? = w.heap[b]? := hg.block b hlt (fun e => hne b (at_self hn) (by simpa using e))
    refine .inr ⟨b, off, rfl, hb, Nat.lt_of_lt_of_le hlt hg.size, fun i hi => ?_, fun i hi => ?_⟩
    · exact (World.cell?_of_block hk).trans (hc i hi)
    · exact (World.frozen?_of_block hk).trans (hf i hi)
structure Gat (w2 : World) (p : Nat) (c : Bool) (ash : Option Addr) (m csh : Nat) (zs l : List Int) (n : Nat) (wr : World) (g cap : Nat) : Prop where
  box : Box wr p c (.slice ash m csh) (.slice (some ⟨g, 0, none⟩) n cap)
  owns : wr.ownsRow w2.heap.size 3 1 (.slice (some ⟨g, 0, none⟩) n cap) n (l.map (Value.int .i64))
  own : Own wr w2.heap.size ash m zs
  ne : ∀ x, At ash m x → x ≠ g
  low : Below w2.heap.size w2 wr
  place : w2.heap.size ≤ p
theorem Gat.len {w2 wr : World} {p g cap n : Nat} {c : Bool} {ash : Option Addr} {m csh : Nat} {zs l : List Int} (h : Gat w2 p c ash m csh zs l n wr g cap) : l.length = n := by
  have := h.owns.1
  simpa using this
theorem Gat.drew {w2 wr : World} {p g cap n : Nat} {c : Bool} {ash : Option Addr} {m csh : Nat} {zs l : List Int} (h : Gat w2 p c ash m csh zs l n wr g cap) : Gat w2 p c ash m csh zs l n wr.drew g cap :=
  have hb : Below wr.heap.size wr wr.drew := (Below.refl _ _).drew
  ⟨h.box.below (Nat.le_refl _) hb, owns_below h.owns (Nat.le_refl _) hb, h.own.below (Nat.le_refl _) hb, h.ne, h.low.trans (hb.mono h.low.size), h.place⟩
theorem Gat.push {w2 w5 w6 : World} {p g g' cap cap' n k : Nat} {c : Bool} {ash : Option Addr} {m csh : Nat} {zs l r : List Int} (h : Gat w2 p c ash m csh zs l n w5 g cap)
    (hown : w6.ownsRow w2.heap.size 3 1 (.slice (some ⟨g', 0, none⟩) (n + k) cap') (n + k) (l.map (Value.int .i64) ++ r.map (Value.int .i64))) (hg : w5.grownBy w6 (some g)) (hat : g' = g ∨ g' = w5.heap.size) :
    (Box w6 p c (.slice ash m csh) (.slice (some ⟨g, 0, none⟩) n cap) ∧ Below w2.heap.size w2 w6) ∧ Gat w2 p c ash m csh zs (l ++ r) (n + k) (w6.setCell ⟨p, 2, none⟩ (.slice (some ⟨g', 0, none⟩) (n + k) cap')) g' cap' := by
  have hb6 := h.box.grown0 h.owns hg
  have ho6 := h.own.grown0 hg h.ne
  have hge : w2.heap.size ≤ g := by
    rcases h.owns.2 with ⟨e, _⟩ | ⟨g1, _, _, e, hb, _⟩
    · cases e
    · cases e; exact hb
  have hlow : Below w2.heap.size w2 w6 := h.low.grown hg h.low.size (by intro k hk; cases hk; exact hge)
  have hne' : ∀ x, At ash m x → x ≠ g' := by
    intro x hx
    rcases hat with e | e
    · rw [e]; exact h.ne x hx
    · have := h.own.row.hi hx; omega
  refine ⟨⟨hb6, hlow⟩, hb6.set2 _, ?_, ho6.other (fun x hx => ho6.row.notBox hb6 hx) _, hne', hlow.setCell h.place _, h.place⟩
  rw [List.map_append]
  exact owns_box_set hown hb6 _ _
end Go.Proofs.YtgjpchnkodnieaaGreatDoor
namespace Go.Proofs.YtgjpchnkodnieaaGreatDoor
open Go.RowKit
def GivesVO (w : World) (r : VAns) (e : Ending) (w' : World) : Prop :=
  ∃ b1 m1 d1 b2 m2 d2, e = .returned (.tuple #[.agg #[.int .i64 r.c, .slice b1 m1 d1, .slice b2 m2 d2], .bool r.code]) ∧ Own w' w.heap.size b1 m1 r.sh ∧ Own w' w.heap.size b2 m2 r.dt ∧ Apart b1 m1 b2 m2 ∧ Below w.heap.size w w'
theorem own_nil (w : World) (B : Nat) (a : Option Addr) : Own w B a 0 [] := ⟨rfl, by omega, .inl rfl⟩
theorem givesV_none {w w' : World} (h : Below w.heap.size w w') : GivesVO w noView (.returned (.tuple #[.agg #[.int .i64 0, .slice none 0 0, .slice none 0 0], .bool false])) w' :=
  ⟨none, 0, 0, none, 0, 0, rfl, own_nil _ _ _, own_nil _ _ _, fun _ h => absurd rfl h.1, h⟩
def GotL (W : World) (c : Int) (sh st : List Int) (n : Nat) (v : Value) (wx : World) : Prop :=
  ∃ pb b1 d1 b2 d2, v = .pointer (some ⟨pb, 0, none⟩) ∧ W.heap.size ≤ pb ∧ VBox wx pb c (.slice b1 n d1) (.slice b2 n d2) ∧ Own wx W.heap.size b1 n sh ∧ Own wx W.heap.size b2 n st ∧ Apart b1 n b2 n ∧ ¬ At b1 n pb ∧ ¬ At b2 n pb ∧ Below W.heap.size W wx
theorem GotL.new {W wB : World} {c : Int} {sh st : List Int} {n d1 d2 : Nat} {b1 b2 : Option Addr} (h1 : Own wB W.heap.size b1 n sh) (h2 : Own wB W.heap.size b2 n st) (ha : Apart b1 n b2 n) (hb : Below W.heap.size W wB) :
    GotL W c sh st n (.pointer (some ⟨wB.heap.size, 0, none⟩)) (wB.alloc (.cells #[.int .i64 c, .slice b1 n d1, .slice b2 n d2] 46)) :=
  ⟨wB.heap.size, b1, d1, b2, d2, rfl, hb.size, VBox.new wB c _ _, h1.alloc _, h2.alloc _, ha, fun h => by have := h1.row.hi h; omega, fun h => by have := h2.row.hi h; omega, hb.alloc hb.size _⟩
theorem GotL.sets {W wB : World} {c : Int} {sh st : List Int} {n d1 d2 pb : Nat} {b1 b2 : Option Addr} {z : Int} {z1 z2 : Value} (hp : W.heap.size ≤ pb) (hv : VBox wB pb z z1 z2) (h1 : Own wB W.heap.size b1 n sh) (h2 : Own wB W.heap.size b2 n st) (ha : Apart b1 n b2 n) (n1 : ∀ x, At b1 n x → x ≠ pb) (n2 : ∀ x, At b2 n x → x ≠ pb) (hb : Below W.heap.size W wB) :
    GotL W c sh st n (.pointer (some ⟨pb, 0, none⟩)) (((wB.setCell ⟨pb, 0, none⟩ (.int .i64 c)).setCell ⟨pb, 1, none⟩ (.slice b1 n d1)).setCell ⟨pb, 2, none⟩ (.slice b2 n d2)) :=
  ⟨pb, b1, d1, b2, d2, rfl, hp, hv.sets, ((h1.other (q := ⟨pb, 0, none⟩) n1 _).other (q := ⟨pb, 1, none⟩) n1 _).other (q := ⟨pb, 2, none⟩) n1 _, ((h2.other (q := ⟨pb, 0, none⟩) n2 _).other (q := ⟨pb, 1, none⟩) n2 _).other (q := ⟨pb, 2, none⟩) n2 _, ha, fun h => n1 _ h rfl, fun h => n2 _ h rfl, ((hb.setCell (p := ⟨pb, 0, none⟩) hp _).setCell (p := ⟨pb, 1, none⟩) hp _).setCell (p := ⟨pb, 2, none⟩) hp _⟩
theorem vl_boxA (w : World) {wC : World} (h : Below (w.drew.alloc (boxV (.slice none 0 0) (.slice none 0 0))).heap.size (w.drew.alloc (boxV (.slice none 0 0) (.slice none 0 0))) wC) : VBox wC w.heap.size 0 (.slice none 0 0) (.slice none 0 0) := (VBox.new w.drew 0 _ _).below (Nat.le_refl _) h
theorem vl_boxB (w : World) {wC : World} (h : Below (w.alloc (boxV (.slice none 0 0) (.slice none 0 0))).heap.size (w.alloc (boxV (.slice none 0 0) (.slice none 0 0))) wC) : VBox wC w.heap.size 0 (.slice none 0 0) (.slice none 0 0) := (VBox.new w 0 _ _).below (Nat.le_refl _) h
theorem apart_of {wA wB : World} {B n : Nat} {b1 b2 : Option Addr} {sh st : List Int} (h1 : Own wA B b1 n sh) (h2 : Own wB wA.heap.size b2 n st) : Apart b1 n b2 n := fun k k1 k2 => by
  have := h1.row.hi k1
  have := h2.low k2
  omega
set_option maxHeartbeats 2000000 in
theorem lshape_any (f : Nat → Int) (c : Int) (n : Nat) (sh : List Int) (w : World) (hn : sh.length = n) (h5 : n ≤ 5) (h0 : f 0 = c) (h1 : f 1 = (n : Int)) (hq : ∀ i, i < n → f (2 + i) = sh.getD i 0) :
    Calls Tryz.prog 162 #[.agg #[.int .i64 c, .int .i64 (n : Int), .int .i64 (f 2), .int .i64 (f 3), .int .i64 (f 4), .int .i64 (f 5), .int .i64 (f 6), .int .i64 (f 7), .int .i64 (f 8), .int .i64 (f 9), .int .i64 (f 10), .int .i64 (f 11)]] w fun e w' => ∃ b d, e = .returned (.slice b n d) ∧ Own w' w.heap.size b n sh ∧ Below w.heap.size w w' := by
  have HL : Hid (LBox (w.alloc (.cells #[.int .i64 c, .int .i64 (n : Int), .int .i64 (f 2), .int .i64 (f 3), .int .i64 (f 4), .int .i64 (f 5), .int .i64 (f 6), .int .i64 (f 7), .int .i64 (f 8), .int .i64 (f 9), .int .i64 (f 10), .int .i64 (f 11)] 101)) w.heap.size f) := by
    have h := LBox.new w f
    rw [h0, h1] at h
    exact h
  have HQ := hide hq
  have HN := hide hn
  have h5i : (n : Int) ≤ 5 := by omega
  have h0i : (0 : Int) ≤ n := by omega
  clear h0 h1 hq hn
  go_enter Tryz.func162, Tryz.ntmps162
  go_wp2_with fail
  refine (Clone_any ⟨w.heap.size, 2, none⟩ n 5 sh _ ((unhide HL).row sh (unhide HN) 2 (by omega) (unhide HQ))).mono ?_
  rintro e wA ⟨b1, d1, rfl, _, hOA, hbA⟩
  have HO := hide (hOA.mono (B' := w.heap.size) (by simp))
  have HB := hide (((Below.refl w.heap.size w).alloc (Nat.le_refl _) (.cells #[.int .i64 c, .int .i64 (n : Int), .int .i64 (f 2), .int .i64 (f 3), .int .i64 (f 4), .int .i64 (f 5), .int .i64 (f 6), .int .i64 (f 7), .int .i64 (f 8), .int .i64 (f 9), .int .i64 (f 10), .int .i64 (f 11)] 101)).trans (hbA.mono (by simp)))
  clear hOA hbA
  go_wp2_with fail
  go_ret
  exact ⟨_, _, rfl, unhide HO, unhide HB⟩
set_option maxRecDepth 20000 in
set_option maxHeartbeats 4000000 in
theorem view_any (c : Int) (sh st : List Int) (w : World) (h5 : sh.length ≤ 5) (hls : st.length = sh.length) :
    Calls Tryz.prog 87 #[lay (fl c sh st)] w (GivesVO w (answerOf c sh st)) := by
  obtain ⟨n, hn⟩ : ∃ n, sh.length = n := ⟨_, rfl⟩
  rw [hn] at h5 hls
  have HN := hide hn
  have HS := hide hls
  have H0 : Hid (fl c sh st 0 = c) := rfl
  have H1 : Hid (fl c sh st 1 = (n : Int)) := by show _ = _; rw [fl_1, hn]
  have HQ1 : Hid (∀ i, i < n → fl c sh st (2 + i) = sh.getD i 0) := fun i hi => fl_len c sh st (by omega)
  have HQ2 : Hid (∀ i, i < n → fl c sh st (7 + i) = st.getD i 0) := fun i hi => fl_str c sh st i
  clear hn hls
  generalize fl c sh st = f at *
  obtain ⟨W, hW⟩ : ∃ W, ((w.alloc (.cells #[.int .i64 (f 0), .int .i64 (f 1), .int .i64 (f 2), .int .i64 (f 3), .int .i64 (f 4), .int .i64 (f 5), .int .i64 (f 6), .int .i64 (f 7), .int .i64 (f 8), .int .i64 (f 9), .int .i64 (f 10), .int .i64 (f 11)] 101)).alloc (.cells #[.int .i64 0, .slice none 0 0, .slice none 0 0] 46)) = W := ⟨_, rfl⟩
  have hsz : W.heap.size = w.heap.size + 2 := by rw [← hW]; simp
  have HL : Hid (LBox W w.heap.size f) := by rw [← hW]; exact (LBox.new w f).alloc _
  have HV : Hid (VBox W (w.heap.size + 1) 0 (.slice none 0 0) (.slice none 0 0)) := by
    rw [← hW]
    have := VBox.new (w.alloc (.cells #[.int .i64 (f 0), .int .i64 (f 1), .int .i64 (f 2), .int .i64 (f 3), .int .i64 (f 4), .int .i64 (f 5), .int .i64 (f 6), .int .i64 (f 7), .int .i64 (f 8), .int .i64 (f 9), .int .i64 (f 10), .int .i64 (f 11)] 101)) 0 (.slice none 0 0) (.slice none 0 0)
    rwa [World.size_alloc] at this
  have HB : Hid (Below w.heap.size w W) := by rw [← hW]; exact ((Below.refl _ _).alloc (Nat.le_refl _) _).alloc (by simp) _
  have HR1 : Hid (∀ wx, Below W.heap.size W wx → Row wx (some ⟨w.heap.size, 2, none⟩) n sh) := fun wx h => ((unhide HL).below (Nat.le_refl _) h).row sh (unhide HN) 2 (by omega) (unhide HQ1)
  have HR2 : Hid (∀ wx, Below W.heap.size W wx → Row wx (some ⟨w.heap.size, 7, none⟩) n st) := fun wx h => ((unhide HL).below (Nat.le_refl _) h).row st (unhide HS) 7 (by omega) (unhide HQ2)
  have HKEEP : ∀ wx, Below W.heap.size W wx → Below W.heap.size W wx ∧ wx.cell? ⟨w.heap.size, 0, none⟩ = some (.int .i64 c) ∧ wx.cell? ⟨w.heap.size, 1, none⟩ = some (.int .i64 n) ∧ wx.cell? ⟨w.heap.size, 2, none⟩ = some (.int .i64 (f 2)) ∧ wx.cell? ⟨w.heap.size, 3, none⟩ = some (.int .i64 (f 3)) ∧ wx.cell? ⟨w.heap.size, 4, none⟩ = some (.int .i64 (f 4)) ∧ wx.cell? ⟨w.heap.size, 5, none⟩ = some (.int .i64 (f 5)) ∧ wx.cell? ⟨w.heap.size, 6, none⟩ = some (.int .i64 (f 6)) ∧ wx.cell? ⟨w.heap.size, 7, none⟩ = some (.int .i64 (f 7)) ∧ wx.cell? ⟨w.heap.size, 8, none⟩ = some (.int .i64 (f 8)) ∧ wx.cell? ⟨w.heap.size, 9, none⟩ = some (.int .i64 (f 9)) ∧ wx.cell? ⟨w.heap.size, 10, none⟩ = some (.int .i64 (f 10)) ∧ wx.cell? ⟨w.heap.size, 11, none⟩ = some (.int .i64 (f 11)) := fun wx h => ⟨h, (by have := ((unhide HL).below (Nat.le_refl _) h).at (i := 0) (by omega); rwa [unhide H0] at this), (by have := ((unhide HL).below (Nat.le_refl _) h).at (i := 1) (by omega); rwa [unhide H1] at this), ((unhide HL).below (Nat.le_refl _) h).at (i := 2) (by omega), ((unhide HL).below (Nat.le_refl _) h).at (i := 3) (by omega), ((unhide HL).below (Nat.le_refl _) h).at (i := 4) (by omega), ((unhide HL).below (Nat.le_refl _) h).at (i := 5) (by omega), ((unhide HL).below (Nat.le_refl _) h).at (i := 6) (by omega), ((unhide HL).below (Nat.le_refl _) h).at (i := 7) (by omega), ((unhide HL).below (Nat.le_refl _) h).at (i := 8) (by omega), ((unhide HL).below (Nat.le_refl _) h).at (i := 9) (by omega), ((unhide HL).below (Nat.le_refl _) h).at (i := 10) (by omega), ((unhide HL).below (Nat.le_refl _) h).at (i := 11) (by omega)⟩
  have h5i : (n : Int) ≤ 5 := by omega
  have h0i : (0 : Int) ≤ n := by omega
  go_enter Tryz.func87, Tryz.ntmps87
  go_upto_region 1 with fail
  try rw [hW]
  clear hW
  have hz0 : w.heap.size < W.heap.size := by omega
  have hz1 : w.heap.size + 1 < W.heap.size := by omega
  clear hsz
  go_cut [4] (fun v wx => GotL W c sh st n v wx)
  case first =>
    go_region_held3 (fun wx => Below W.heap.size W wx ∧ wx.cell? ⟨w.heap.size, 0, none⟩ = some (.int .i64 c) ∧ wx.cell? ⟨w.heap.size, 1, none⟩ = some (.int .i64 n) ∧ wx.cell? ⟨w.heap.size, 2, none⟩ = some (.int .i64 (f 2)) ∧ wx.cell? ⟨w.heap.size, 3, none⟩ = some (.int .i64 (f 3)) ∧ wx.cell? ⟨w.heap.size, 4, none⟩ = some (.int .i64 (f 4)) ∧ wx.cell? ⟨w.heap.size, 5, none⟩ = some (.int .i64 (f 5)) ∧ wx.cell? ⟨w.heap.size, 6, none⟩ = some (.int .i64 (f 6)) ∧ wx.cell? ⟨w.heap.size, 7, none⟩ = some (.int .i64 (f 7)) ∧ wx.cell? ⟨w.heap.size, 8, none⟩ = some (.int .i64 (f 8)) ∧ wx.cell? ⟨w.heap.size, 9, none⟩ = some (.int .i64 (f 9)) ∧ wx.cell? ⟨w.heap.size, 10, none⟩ = some (.int .i64 (f 10)) ∧ wx.cell? ⟨w.heap.size, 11, none⟩ = some (.int .i64 (f 11)))
      (first | exact HKEEP _ hKB | exact HKEEP _ (hKB.alloc hKB.size _) | exact HKEEP _ hKA | exact HKEEP _ (hKA.alloc hKA.size _) | exact HKEEP _ (Below.refl _ _).drew | exact HKEEP _ ((Below.refl _ _).drew.alloc (by simp) _) | exact HKEEP _ (((hKB.setCell (by first | exact Nat.le_refl _ | exact hKA.size) _).setCell (by first | exact Nat.le_refl _ | exact hKA.size) _).setCell (by first | exact Nat.le_refl _ | exact hKA.size) _))
      (first
      | (go_at_call 162; go_loud (refine (lshape_any f c n sh _ (unhide HN) h5 (unhide H0) (unhide H1) (unhide HQ1)).mono ?_); rintro e wA ⟨b1, d1, rfl, hOA, hbA⟩; have hKA : Below W.heap.size W wA := (by refine Below.trans ?_ (hbA.mono (by first | exact Nat.le_refl _ | (simp <;> omega))); first | exact (Below.refl _ _).drew | exact ((Below.refl _ _).drew.alloc (by simp) _)); have HOA0 := hide hOA; have HOA : Hid (Own wA W.heap.size b1 n sh) := hOA.mono (by first | exact Nat.le_refl _ | (simp <;> omega)); (first | (have PA := hide (vl_boxA W hbA)) | skip); clear hOA hbA)
      | (go_at_call 63; go_loud (refine (Clone_any ⟨w.heap.size, 7, none⟩ n 5 st _ (by first | exact unhide HR2 _ hKA | exact unhide HR2 _ (hKA.alloc hKA.size _))).mono ?_); rintro e wB ⟨b2, d2, rfl, _, hOB, hbB⟩; have hKB : Below W.heap.size W wB := (by refine Below.trans ?_ (hbB.mono (by first | exact hKA.size | (have := hKA.size; simp <;> omega))); first | exact hKA | exact (hKA.alloc hKA.size _)); have HOB0 := hide hOB; have HOB : Hid (Own wB wA.heap.size b2 n st) := hOB.mono (by first | exact Nat.le_refl _ | (simp <;> omega)); have HOA' : Hid (Own wB W.heap.size b1 n sh) := (by first | exact (unhide HOA).below (Nat.le_refl _) hbB | exact ((unhide HOA).alloc _).below (Nat.le_refl _) hbB); (first | (have PB := hide ((unhide PA).below (Nat.le_refl _) hbB)) | (have PC := hide (vl_boxB wA hbB)) | skip); (first | (obtain ⟨r0, r1, r2, r3, r4, r5, r6⟩ := (unhide PB).all) | (obtain ⟨r0, r1, r2, r3, r4, r5, r6⟩ := (unhide PC).all) | skip); clear hOB hbB))
    all_goals go_wp2_with fail
    all_goals go_meet
    · exact GotL.new (unhide HOA') ((unhide HOB).mono hKA.size) (apart_of (unhide HOA) (unhide HOB)) hKB
    · exact GotL.sets hKA.size (unhide PC) (unhide HOA') ((unhide HOB).mono hKA.size) (apart_of (unhide HOA) (unhide HOB)) (fun x hx => by have := (unhide HOA).row.hi hx; omega) (fun x hx => by have := (unhide HOB0).low hx; simp at this; omega) hKB
    · exact GotL.sets (Nat.le_refl _) (unhide PB) (unhide HOA') ((unhide HOB).mono hKA.size) (apart_of (unhide HOA) (unhide HOB)) (fun x hx => by have := (unhide HOA0).low hx; simp at this; omega) (fun x hx => by have := (unhide HOB).low hx; have := (unhide PA).lt; omega) hKB
  case rest =>
    obtain ⟨w3, hw3⟩ : ∃ x, x = wc := ⟨_, rfl⟩
    subst hw3
    obtain ⟨pb, b1, d1, b2, d2, rfl, hpb, hv, ho1, ho2, hap, hn1, hn2, hb3⟩ := hcut
    obtain ⟨r, hr⟩ : ∃ r, formed c sh st = r := ⟨_, rfl⟩
    have HR := hide hr
    have hcf := isFormed_eq c b1 b2 n n d1 d2 sh st w3 ho1.row ho2.row r HR
    have HV3 := hide hv
    have HO1 := hide ho1
    have HO2 := hide ho2
    have HAP := hide hap
    have HZ3 := hide ((unhide HV).below (Nat.le_refl _) hb3)
    have HB3 := hide ((unhide HB).trans (hb3.mono (unhide HB).size))
    obtain ⟨x0, x1, x2, x3, x4, x5, x6⟩ := hv.all
    have hwl := (unhide HB).size
    clear hr hv ho1 ho2 hap hb3 HV HB HL HR1 HR2 HKEEP HQ1 HQ2 H0 H1 hn1 hn2
    go_wp2_with fail
    refine hcf.mono ?_
    rintro e w5 ⟨rfl, hb5⟩
    have HO1' := hide ((unhide HO1).below (Nat.le_refl _) hb5)
    have HO2' := hide ((unhide HO2).below (Nat.le_refl _) hb5)
    have HB5 := hide ((unhide HB3).trans (hb5.mono (unhide HB3).size))
    obtain ⟨y0, y1, y2, y3, y4, y5, y6⟩ := ((unhide HV3).below (Nat.le_refl _) hb5).all
    obtain ⟨z0, z1, z2, z3, z4, z5, z6⟩ := ((unhide HZ3).below (Nat.le_refl _) hb5).all
    clear x0 x1 x2 x3 x4 x5 x6 hcf HV3 HZ3 HO1 HO2 HB3 hb5 w3
    cases r with
    | false =>
      have HS : Hid (answerOf c sh st = noView) := by show _ = _; unfold answerOf; rw [if_neg (by rw [unhide HR]; simp)]
      go_wp2
      refine bodyPost_ret (v := .tuple #[.agg #[.int .i64 0, .slice none 0 0, .slice none 0 0], .bool false]) (by simp [results, Tryz.results87, go_sem, z0, z1, z2]) rfl ?_
      rw [unhide HS]
      exact givesV_none ((((unhide HB5).setCell (by simp <;> omega) _).setCell (by simp <;> omega) _).setCell (by simp <;> omega) _)
    | true =>
      have HS : Hid (answerOf c sh st = ⟨c, sh, st, true⟩) := by show _ = _; unfold answerOf; rw [if_pos (unhide HR)]
      go_wp2
      refine bodyPost_ret (v := .tuple #[.agg #[.int .i64 c, .slice b1 n d1, .slice b2 n d2], .bool true]) (by simp [results, Tryz.results87, go_sem, z0, z1, z2]) rfl ?_
      rw [unhide HS]
      have k1 : ∀ x, At b1 n x → x ≠ w.heap.size + 1 := fun x hx => by have := (unhide HO1').low hx; omega
      have k2 : ∀ x, At b2 n x → x ≠ w.heap.size + 1 := fun x hx => by have := (unhide HO2').low hx; omega
      exact ⟨b1, n, d1, b2, n, d2, rfl, ((((unhide HO1').mono (by omega)).other k1 _).other k1 _).other k1 _, ((((unhide HO2').mono (by omega)).other k2 _).other k2 _).other k2 _, unhide HAP, (((unhide HB5).setCell (by simp <;> omega) _).setCell (by simp <;> omega) _).setCell (by simp <;> omega) _⟩
end Go.Proofs.YtgjpchnkodnieaaGreatDoor
namespace Go.Proofs.YtgjpchnkodnieaaGreatDoor
theorem place_zero {off : Int} {sh st : List Int} (hs : shapeB sh = true) (h : 0 < countOf sh) : placeOf off sh st 0 = off := by
  have hfl := full_count hs h
  have hz : ∀ i, i < sh.length → (digits sh ((0 : Nat) : Int)).getD i 0 = 0 := by
    intro i hi
    rw [digits_get _ _ _ hi]
    unfold digit
    have hr := restN_nn hfl (p := 0) (by omega) (sh.length - 1 - i) (by omega)
    have : restN sh ((0 : Nat) : Int) (sh.length - 1 - i) = 0 := by
      have e : ((0 : Nat) : Int) = 0 := rfl
      rw [e]
      omega
    rw [this]
    exact Int.zero_emod _
  have hf : ∀ n, n ≤ sh.length → farN (digits sh ((0 : Nat) : Int)) st n = 0 := by
    intro n
    induction n with
    | zero => intro _; rfl
    | succ n ih => intro hn; simp only [farN]; rw [ih (by omega), hz n (by omega)]; simp
  unfold placeOf
  rw [hf _ (Nat.le_refl _)]
  omega
theorem far_scaled (dg st : List Int) (d : Int) : ∀ n, n ≤ st.length → farN dg (st.map fun x => x * d) n = d * farN dg st n := by
  intro n
  induction n with
  | zero => intro _; simp [farN]
  | succ n ih =>
    intro hn
    have e : (st.map fun x => x * d).getD n 0 = st.getD n 0 * d := by simp [List.getD, show n < st.length by omega]
    simp only [farN]
    have hcm := Int.mul_comm (dg.getD n 0 * st.getD n 0) d
    rw [ih (by omega), e, Int.mul_add, ← Int.mul_assoc, hcm]
theorem wholeSt_lenV (sh : List Int) : (wholeSt sh).length = sh.length := by simp [wholeSt]
theorem line_is {ps : List Int} {d : Int} (h : lineL ps = (d, true)) (h2 : 2 ≤ ps.length) : ∀ k, k < ps.length → ps.getD k 0 = ps.getD 0 0 + d * k := by
  unfold lineL at h
  rw [if_neg (by omega)] at h
  split at h
  · rename_i hb
    have hd : ps.getD 1 0 - ps.getD 0 0 = d := by injection h
    unfold lineB at hb
    rw [List.all_eq_true] at hb
    intro k
    induction k with
    | zero => intro _; simp
    | succ k ih =>
      intro hk
      have h1 := hb (k + 1) (List.mem_range.2 hk)
      simp only [decide_eq_true_eq] at h1
      have h3 := ih (by omega)
      rcases h1 with h1 | h1
      · omega
      · rw [show k + 1 - 1 = k from rfl] at h1
        push_cast
        rw [Int.mul_add, Int.mul_one]
        omega
  · injection h with _ h4
    cases h4
theorem reshape_vals {sh dt sh' dt' : List Int} (h1 : arrOk false sh dt = true) (h2 : arrOk false sh' dt' = true) (h : listCode false sh.length = 0) (h3 : dt.all nonNeg = true) (h4 : shapeB dt = true) :
    reshape false false sh dt sh' dt' = ⟨false, dt, vals (reshapeAt false dt' dt'.length) (countOf dt).toNat, 0⟩ := by
  have hb := shapeB_count h4
  obtain ⟨N, hN⟩ : ∃ N : Nat, countOf dt = (N : Int) := ⟨(countOf dt).toNat, by omega⟩
  rw [reshape_go h1 h2 h h3 h4 dt'.length N rfl hN, hN, Int.toNat_natCast]
  refine gather_good ?_
  have : ∀ n, firstCode (reshapeAt false dt' dt'.length) n = 0 := by
    intro n
    induction n with
    | zero => rfl
    | succ n ih => exact code_step ih rfl
  exact this N
structure FoldOk (off : Int) (sh st zs : List Int) (s2 : List Int) : Prop where
  shp : shapeB zs = true
  how : (countOf sh = 1 ∧ s2 = List.replicate zs.length 0) ∨ (¬ countOf sh = 1 ∧ ∃ d, lineL (placesOf off sh st) = (d, true) ∧ countOf zs ≤ countOf sh ∧ s2 = (wholeSt zs).map fun x => x * d)
  fmd : formed off zs s2 = true
theorem fold_places {off cells : Int} {sh st zs s2 : List Int} (h : viewOk off sh st cells = true) (hk : FoldOk off sh st zs s2) (hv : arrOk false [(zs.length : Int)] zs = true) :
    reshape false false [(zs.length : Int)] zs sh (placesOf off sh st) = ⟨false, zs, placesOf off zs s2, 0⟩ ∧ viewOk off zs s2 cells = true := by
  obtain ⟨hf, hcl, hp⟩ := viewOk_parts h
  obtain ⟨hs, hst, _, _⟩ := formed_parts hf
  have hok := view_arr h
  have hcb := shapeB_count hs
  have hzb := shapeB_count hk.shp
  obtain ⟨hzin, _⟩ := shapeB_in hk.shp
  have hnn : zs.all nonNeg = true := by
    rw [List.all_eq_true]
    intro x hx
    have := List.all_eq_true.1 hzin.1 x hx
    simp [inCells] at this
    simp [nonNeg, this.1]
  have hpl := places_len off sh st
  have key : ∀ k : Nat, k < (countOf zs).toNat → 0 < countOf sh ∧ (reshapeAt false (placesOf off sh st) (placesOf off sh st).length k).1 = placeOf off zs s2 k ∧ placeOf off zs s2 k ∈ placesOf off sh st := by
    intro k hkz
    have hzf := full_count hk.shp (by omega)
    rcases hk.how with ⟨h1, rfl⟩ | ⟨h1, d, hd, hle, rfl⟩
    · have e0 := place_zero (off := off) (st := st) hs (by omega)
      have eP : (placesOf off sh st).getD 0 0 = off := by rw [places_get (by omega)]; exact e0
      have ez : placeOf off zs (List.replicate zs.length 0) k = off := by
        unfold placeOf
        have : ∀ n, n ≤ zs.length → farN (digits zs k) (List.replicate zs.length 0) n = 0 := by
          intro n
          induction n with
          | zero => intro _; rfl
          | succ n ih =>
            intro hn
            have : (List.replicate zs.length (0 : Int)).getD n 0 = 0 := by simp [List.getD, show n < zs.length by omega]
            simp only [farN]; rw [ih (by omega), this]; simp
        rw [this _ (Nat.le_refl _)]; omega
      have hl1 : (placesOf off sh st).length = 1 := by omega
      refine ⟨by omega, ?_, ?_⟩
      · unfold reshapeAt
        rw [if_neg (by omega), hl1, Nat.mod_one, eP, ez]
      · have hm : (placesOf off sh st).getD 0 0 ∈ placesOf off sh st := by rw [getD_eq _ _ (by omega)]; exact List.getElem_mem _
        rw [eP] at hm
        rw [ez]; exact hm
    · have h2 : 2 ≤ countOf sh := by omega
      have e0 := place_zero (off := off) (st := st) hs (by omega)
      have eP : (placesOf off sh st).getD 0 0 = off := by rw [places_get (by omega)]; exact e0
      have hk2 : k < (placesOf off sh st).length := by omega
      have hline := line_is hd (by omega) k hk2
      have ez : placeOf off zs ((wholeSt zs).map fun x => x * d) k = off + d * k := by
        unfold placeOf
        rw [far_scaled _ _ _ _ (by rw [wholeSt_lenV]; omega), place_far hzf, place_digits hzf (by omega) (by rw [prodAll_count zs hk.shp]; omega)]
      refine ⟨by omega, ?_, ?_⟩
      · unfold reshapeAt
        rw [if_neg (by omega), Nat.mod_eq_of_lt hk2, hline, eP, ez]
      · have hm : (placesOf off sh st).getD k 0 ∈ placesOf off sh st := by rw [getD_eq _ _ hk2]; exact List.getElem_mem _
        rw [hline, eP] at hm
        rw [ez]; exact hm
  refine ⟨?_, ?_⟩
  · rw [reshape_vals hv hok rfl hnn hk.shp]
    congr 1
    unfold vals
    show _ = (List.range (countOf zs).toNat).map (placeOf off zs s2)
    apply List.map_congr_left
    intro k hkz
    exact (key k (List.mem_range.1 hkz)).2.1
  · refine view_of hk.fmd hcl (fun p hp' => ?_)
    unfold placesOf at hp'
    obtain ⟨k, hkz, rfl⟩ := List.mem_map.1 hp'
    exact hp _ (key k (List.mem_range.1 hkz)).2.2
end Go.Proofs.YtgjpchnkodnieaaGreatDoor
