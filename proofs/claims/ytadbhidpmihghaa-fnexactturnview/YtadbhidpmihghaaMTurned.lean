import Derived.Test.YtadbhidpmihghaaImplLays
import Derived.Test.YtadbhidpmihghaaTurnZMath
import Derived.Test.YtadbhidpmihghaaMadeRow
import Derived.Laws.CopyOwn
import Derived.Deep.RegionHeld3
import Derived.Deep.DeepCutAuto
namespace Go.Proofs.Ytadbhidpmihghaa
open Go.RowKit

set_option maxRecDepth 20000 in
set_option maxHeartbeats 4000000 in
theorem inOrder_any (a b : Option Addr) (n c1 c2 : Nat) (l ps : List Int) (w : World) (h1 : Row w a n l) (h2 : Row w b n ps) (hn : n ≤ 5) (hord : orderOk ps n n = true) :
    Calls Try.prog 63 #[.slice a n c1, .slice b n c2] w fun e w' => ∃ g, e = .returned (.slice (some ⟨g, 0, none⟩) n n) ∧ w.heap.size ≤ g ∧ Blk w' g (turnN ps l n n) ∧ Below w.heap.size w w' := by
  have hl1 := hide h1.len
  have hl2 := hide h2.len
  have hmk := run_make_row' (P := Try.prog) 22 3 (.int .i64 0) 8 Try.underlying22 info_int rfl .i64 .i64 n (by omega) (by omega)
  obtain ⟨W, hW⟩ : ∃ W, w.alloc (.cells (madeCells #[.int .i64 0] n) 3) = W := ⟨_, rfl⟩
  obtain ⟨g, hg⟩ : ∃ g, w.heap.size = g := ⟨_, rfl⟩
  have HB : Hid (Below g w W) := by rw [← hW, ← hg]; exact (Below.refl _ _).alloc (Nat.le_refl _) _
  have HK0 : Hid (Blk W g (turnN ps l n 0)) := by rw [← hW]; exact Blk.made w n g hg.symm
  have HA : Hid (Row W a n l) := by rw [← hW]; exact h1.alloc _
  have HP : Hid (Row W b n ps) := by rw [← hW]; exact h2.alloc _
  have HA1 : Hid (∀ k, At a n k → k ≠ g) := fun k hk => by rw [← hg]; have := h1.hi hk; omega
  have HP1 : Hid (∀ k, At b n k → k ≠ g) := fun k hk => by rw [← hg]; have := h2.hi hk; omega
  have HWE := hide hW
  have HGE := hide hg
  have HO := hide hord
  clear h1 h2 hW hg hord
  go_enter Try.func63, Try.ntmps63
  go_upto_region 2 with fail
  rw [unhide HWE, unhide HGE]
  clear HWE hmk
  go_wp2_with fail
  go_loopw [13] (fun i wr => ∃ k : Nat, k ≤ n ∧ i = .int .i64 k ∧ Hid (Blk wr g (turnN ps l n k)) ∧ Hid (But (fun x => x = g) W wr)) (fun i _ => n - (intOf i).toNat)
  case atStart => exact ⟨0, Nat.zero_le _, rfl, HK0, hide (But.refl _ _)⟩
  case round =>
    obtain ⟨k, hk, rfl, hb, hbut⟩ := hrel
    by_cases hlt : k < n
    · obtain ⟨b1, o1, rfl, hb1, hc1⟩ := ((unhide hbut).row (unhide HA) (by rintro x rfl h; exact unhide HA1 _ h rfl)).get hlt
      obtain ⟨b2, o2, rfl, hb2, hc2⟩ := ((unhide hbut).row (unhide HP) (by rintro x rfl h; exact unhide HP1 _ h rfl)).get hlt
      have hso := order_step (unhide HO) hlt
      have hax := stepOk_lt hso
      have hrg := order_range (unhide HO) k hlt
      obtain ⟨x, hx⟩ : ∃ x, l.getD k 0 = x := ⟨_, rfl⟩
      obtain ⟨y, hy⟩ : ∃ y, ps.getD k 0 = y := ⟨_, rfl⟩
      obtain ⟨j, hj⟩ : ∃ j, axNo ps k = j := ⟨_, rfl⟩
      have hyj : y = (j : Int) + 1 := by rw [← hj]; unfold axNo; rw [hy]; rw [hy] at hrg; omega
      rw [hj] at hax
      rw [hx] at hc1
      rw [hy, hyj] at hc2
      have HN := hide ((unhide hb).set j x)
      have HE : Hid ((turnN ps l n k).set j x = turnN ps l n (k + 1)) := by show _ = (turnN ps l n k).set (axNo ps k) (l.getD k 0); rw [hj, hx]
      rw [unhide HE] at HN
      have hcj := (unhide hb).cell (i := j) (by rw [turnN_len]; exact hax)
      have hfj := (unhide hb).free j
      have hgl := (unhide hb).lt
      have hw1 : IntKind.i64.wrap ((j : Int) + 1 - 1) = (j : Int) := by rw [IntKind.wrap_i64]; omega
      have hji : (j : Int) < n := by omega
      have hj0 : (0 : Int) ≤ j := by omega
      have hjn : ((j : Int) + 1 - 1) = (j : Int) := by omega
      clear hx hy hj hyj hso hrg hax HE
      go_wp2_with fail
      go_roundw
      case rel => exact ⟨k + 1, by omega, by go_num, HN, hide ((unhide hbut).setCell (p := ⟨g, j, none⟩) rfl _)⟩
      case measure => (simp [intOf] <;> omega)
    · obtain rfl : k = n := by omega
      have KB := hide ((unhide HB).trans ((unhide hbut).below (B := g) (by have := (unhide HK0).lt; omega) (fun k hk => by omega)))
      go_wp2_with fail
      go_ret
      exact ⟨g, rfl, by rw [unhide HGE]; exact Nat.le_refl _, unhide hb, by rw [unhide HGE]; exact unhide KB⟩

end Go.Proofs.Ytadbhidpmihghaa
namespace Go.Proofs.Ytadbhidpmihghaa
open Go.RowKit

/-- copy within a region that draws its order: nothing but the row itself has changed. -/
theorem step_copy_but {ops : Array Oper} {o : Oper} {a : Act} {w : World} {K : Act → World → Prop} {Q : Exit → Act → World → Prop} {E : Prop} (hgd : o.guard = none) (d s : Operand)
    (ho : o.op = .call { callee := .builtin .copy, args := #[d, s], argTypes := #[22, 22] }) (hsz : (Try.prog.info? 3).map (·.size) = some 1)
    (dp sp : Option Addr) (dLen dCap sLen sCap : Nat) (hd : a.eval d = .slice dp dLen dCap) (hs : a.eval s = .slice sp sLen sCap)
    (g off : Nat) (cur : List Value) (t : TypeId) (hg : w.heap[g]? = some (.cells cur.toArray t (0, 0))) (cs : List Value) (hn : cs.length = Nat.min sLen dLen)
    (hpos : 0 < cs.length → dp = some ⟨g, off, none⟩ ∧ ∃ ad, sp = some ad ∧ ∀ j v, cs[j]? = some v → w.cell? (ad.add j) = some v)
    (hfit : off + cs.length ≤ cur.length) (h1 : ∀ v ∈ cs, v.oneCell' = true)
    (h : ∀ w', Hid (w'.heap[g]? = some (.cells (splice cur off cs).toArray t (0, 0))) → But (fun k => k = g) w w' → K (a.put o.dst (goInt cs.length)) w') :
    if Region.wanted o (yielded ops a.tmps) = true then Oper.wp Try.prog o a w K Q else E := by
  have hw : Region.wanted o (yielded ops a.tmps) = true := by simp [Region.wanted, hgd]
  rw [if_pos hw]
  by_cases h0 : cs.length = 0
  · obtain rfl : cs = [] := List.eq_nil_of_length_eq_zero h0
    have hrun := run_copy_none (P := Try.prog) w 22 22 o.type 3 dp sp dLen dCap sLen sCap Try.underlying22 hsz (by simpa using hn.symm)
    unfold Oper.wp
    simp [execOp, ho, resolve, invoke, builtin, hd, hs, hrun, Result.andThen]
    exact h w (show _ = _ by simpa [splice] using hg) (But.refl _ _)
  · obtain ⟨rfl, ad, rfl, hsrc⟩ := hpos (by omega)
    have hrun := run_copy_row (P := Try.prog) w 22 22 o.type 3 g off dLen dCap ad sLen sCap cur.toArray t cs Try.underlying22 hsz hg hn hsrc (by simpa using hfit) h1
    unfold Oper.wp
    simp [execOp, ho, resolve, invoke, builtin, hd, hs, hrun, Result.andThen]
    exact h _ (show _ = _ by simpa [splice] using setRow_heap w g _ _ t _ hg) ⟨rfl, rfl, rfl, by simp [World.setRow], fun k _ hk => setRow_other w g k _ hk⟩

/-- The same as a statement of a walk. -/
theorem wpList_copy_but {ops : Array Oper} {rest : List Oper} {o : Oper} {a : Act} {w : World} {Q : Exit → Act → World → Prop} (hgd : o.guard = none) (d s : Operand)
    (ho : o.op = .call { callee := .builtin .copy, args := #[d, s], argTypes := #[22, 22] }) (hsz : (Try.prog.info? 3).map (·.size) = some 1)
    (dp sp : Option Addr) (dLen dCap sLen sCap : Nat) (hd : a.eval d = .slice dp dLen dCap) (hs : a.eval s = .slice sp sLen sCap)
    (g off : Nat) (cur : List Value) (t : TypeId) (hg : w.heap[g]? = some (.cells cur.toArray t (0, 0))) (cs : List Value) (hn : cs.length = Nat.min sLen dLen)
    (hpos : 0 < cs.length → dp = some ⟨g, off, none⟩ ∧ ∃ ad, sp = some ad ∧ ∀ j v, cs[j]? = some v → w.cell? (ad.add j) = some v)
    (hfit : off + cs.length ≤ cur.length) (h1 : ∀ v ∈ cs, v.oneCell' = true)
    (h : ∀ w', Hid (w'.heap[g]? = some (.cells (splice cur off cs).toArray t (0, 0))) → But (fun k => k = g) w w' → wpList Try.prog ops Q rest (a.put o.dst (goInt cs.length)) w') :
    wpList Try.prog ops Q (o :: rest) a w := by
  by_cases h0 : cs.length = 0
  · obtain rfl : cs = [] := List.eq_nil_of_length_eq_zero h0
    refine wpList_copy_nothing hgd d s 22 22 ho 3 Try.underlying22 hsz dp sp dLen dCap sLen sCap hd hs (by simpa using hn.symm) ?_
    exact h w (show _ = _ by simpa [splice] using hg) (But.refl _ _)
  · obtain ⟨rfl, ad, rfl, hsrc⟩ := hpos (by omega)
    refine wpList_copy_own hgd d s 22 22 ho 3 Try.underlying22 hsz g off dLen dCap ad sLen sCap hd hs cur.toArray t hg cs hn hsrc (by simpa using hfit) h1 ?_
    exact h _ (show _ = _ by simpa [splice] using setRow_heap w g _ _ t _ hg) ⟨rfl, rfl, rfl, by simp [World.setRow], fun k _ hk => setRow_other w g k _ hk⟩

end Go.Proofs.Ytadbhidpmihghaa
namespace Go.Proofs.Ytadbhidpmihghaa
open Go.RowKit

set_option maxRecDepth 20000 in
set_option maxHeartbeats 4000000 in
theorem turned_any (c : Int) (sh st ps : List Int) (t : Option Addr) (n e1 : Nat) (hn : sh.length = n) (hs : st.length = n) (h5 : n ≤ 5) (hord : orderOk ps n n = true) (f : Nat → Int) (hf : Hid (fl c sh st = f)) (w : World) (hp : Row w t n ps) :
    Calls Try.prog 46 #[lay f, .slice t n e1] w fun e w' => e = .returned (lay (fl c (turnN ps sh n n) (turnN ps st n n))) ∧ Below w.heap.size w w' := by
  obtain ⟨p, hpp⟩ : ∃ p, w.heap.size = p := ⟨_, rfl⟩
  obtain ⟨B0, B1, hB⟩ := lays2 w f
  obtain ⟨W, hW⟩ : ∃ W, ((w.alloc (objL f)).alloc objZ) = W := ⟨_, rfl⟩
  rw [hW, hpp] at B0 B1 hB
  obtain ⟨S1, hS1⟩ : ∃ s, turnN ps sh n n = s := ⟨_, rfl⟩
  obtain ⟨S2, hS2⟩ : ∃ s, turnN ps st n n = s := ⟨_, rfl⟩
  have hl1 : S1.length = n := by rw [← hS1, turnN_len]
  have hl2 : S2.length = n := by rw [← hS2, turnN_len]
  have HL : Hid (LBox W p (fl c sh st)) := by rw [unhide hf]; exact B0
  have HZ := hide B1
  have HB := hide hB
  have HO := hide hord
  have HPR : Hid (∀ wx, Below p w wx → Row wx t n ps) := fun wx h => hp.below (by rw [hpp]; exact Nat.le_refl _) h
  have HN := hide hn
  have HS := hide hs
  have HL1 := hide hl1
  have HL2 := hide hl2
  have HWE := hide hW
  have HPE := hide hpp
  have hpz := B1.lt
  have hsz : (Try.prog.info? 3).map (·.size) = some 1 := by kernel_rfl
  have h5i : (n : Int) ≤ 5 := by omega
  have h0i : (0 : Int) ≤ n := by omega
  have HQ1 : Hid (∀ (a : Option Addr) (c1 : Nat) (w0 : World), Row w0 a n sh → Row w0 t n ps → Calls Try.prog 63 #[.slice a n c1, .slice t n e1] w0 fun e w' => ∃ g, e = .returned (.slice (some ⟨g, 0, none⟩) n n) ∧ w0.heap.size ≤ g ∧ Blk w' g S1 ∧ Below w0.heap.size w0 w') := fun a c1 w0 k1 k2 => by
    have := inOrder_any a t n c1 e1 sh ps w0 k1 k2 h5 hord
    rwa [hS1] at this
  have HQ2 : Hid (∀ (a : Option Addr) (c1 : Nat) (w0 : World), Row w0 a n st → Row w0 t n ps → Calls Try.prog 63 #[.slice a n c1, .slice t n e1] w0 fun e w' => ∃ g, e = .returned (.slice (some ⟨g, 0, none⟩) n n) ∧ w0.heap.size ≤ g ∧ Blk w' g S2 ∧ Below w0.heap.size w0 w') := fun a c1 w0 k1 k2 => by
    have := inOrder_any a t n c1 e1 st ps w0 k1 k2 h5 hord
    rwa [hS2] at this
  rw [hS1, hS2]
  clear hn hs hord hp hpp hW B0 B1 hB hl1 hl2 hS1 hS2
  go_enter Try.func46, Try.ntmps46
  go_upto_region 1 with fail
  rw [unhide HWE, unhide HPE]
  clear HWE
  have HRK : Hid (∀ wx, Below W.heap.size W wx → wx.cell? ⟨p, 1, none⟩ = some (.int .i64 n)) := fun wx h => by rw [((unhide HL).below (Nat.le_refl _) h).at (by omega), fl_1, unhide HN]
  have HRW : Hid (∀ wx, Below W.heap.size W wx → Row wx (some ⟨p, 2, none⟩) n sh) := fun wx h => ((unhide HL).below (Nat.le_refl _) h).row sh (unhide HN) 2 (by omega) (fun i hi => fl_len c sh st (by omega))
  have HRP : Hid (∀ wx, Below W.heap.size W wx → Row wx t n ps) := fun wx h => unhide HPR wx ((unhide HB).trans (h.mono (by omega)))
  have HMN : Hid ((S1.map (Value.int .i64)).length = Nat.min n 5) := by show _ = _; rw [List.length_map, unhide HL1]; exact (Nat.min_eq_left h5).symm
  have HMF : Hid (2 + (S1.map (Value.int .i64)).length ≤ 12) := by show _ ≤ _; rw [List.length_map, unhide HL1]; omega
  go_cut [] (fun wx => LBox wx p (fl c S1 st) ∧ LBox wx (p + 1) (fun _ => 0) ∧ Below p w wx)
  case first =>
    go_region_held3 (fun wx => wx.cell? ⟨p, 1, none⟩ = some (.int .i64 n))
      (first | exact unhide HK4 | exact unhide HRK _ hKA | exact unhide HRK _ (Below.refl _ _).drew)
      (first
      | (go_at_call 63; refine (unhide HQ1 _ _ _ (unhide HRW _ (Below.refl _ _).drew) (unhide HRP _ (Below.refl _ _).drew)).mono ?_; rintro e wA ⟨g, rfl, hg, hbk, hbA⟩; have hKA : Below W.heap.size W wA := (Below.refl _ _).drew.trans hbA; have HC : Hid (0 < (S1.map (Value.int .i64)).length → ∃ ad, (some ⟨g, 0, none⟩ : Option Addr) = some ad ∧ ∀ j v, (S1.map (Value.int .i64))[j]? = some v → wA.cell? (ad.add j) = some v) := row_src (hbk.row (unhide HL1) (by omega)); clear hbA hbk)
      | (refine step_copy_but rfl (.tmp 6) (.tmp 12) rfl hsz _ _ _ _ _ _ rfl rfl p 2 _ 47 ((unhide HL).below (Nat.le_refl _) hKA) (S1.map (Value.int .i64)) (unhide HMN) (fun h => ⟨rfl, unhide HC h⟩) (unhide HMF) (one_ints S1) ?_; intro w4 hg4 hb4; have HG4 : Hid (LBox w4 p (fl c S1 st)) := (LBox.splice2 hg4.out (by rw [unhide HL1]; omega)).congr (fun i _ => fl_copyl c sh st S1 (by rw [unhide HL1, unhide HN]) (by rw [unhide HL1]; omega) i); have HK4 : Hid (w4.cell? ⟨p, 1, none⟩ = some (.int .i64 n)) := (by show _ = _; rw [(unhide HG4).at (by omega), fl_1, unhide HL1]); have HB4 := hide hb4; clear hg4 hb4))
    all_goals go_wp2_with fail
    all_goals go_meet
    all_goals case rel => exact ⟨unhide HG4, ((unhide HZ).below (Nat.le_refl _) hKA).but (unhide HB4) (by show ¬ (p + 1 = p); omega), ((unhide HB).trans (hKA.mono (by omega))).trans ((unhide HB4).below (B := p) (by have := hKA.size; omega) (fun k hk => by omega))⟩
  case rest =>
    obtain ⟨w3, hw3⟩ : ∃ x, x = wc := ⟨_, rfl⟩
    subst hw3
    obtain ⟨hq1, hq2, hq3⟩ := hcut
    have JL := hide hq1
    have JZ := hide hq2
    have JB := hide hq3
    have hpz3 := hq2.lt
    clear hq1 hq2 hq3 HL HZ HB HRK HRW HRP HMN HMF hpz W
    have HRK : Hid (∀ wx, Below w3.heap.size w3 wx → wx.cell? ⟨p, 1, none⟩ = some (.int .i64 n)) := fun wx h => by rw [((unhide JL).below (Nat.le_refl _) h).at (by omega), fl_1, unhide HL1]
    have HRW : Hid (∀ wx, Below w3.heap.size w3 wx → Row wx (some ⟨p, 7, none⟩) n st) := fun wx h => ((unhide JL).below (Nat.le_refl _) h).row st (unhide HS) 7 (by omega) (fun i hi => fl_str c S1 st i)
    have HRP : Hid (∀ wx, Below w3.heap.size w3 wx → Row wx t n ps) := fun wx h => unhide HPR wx ((unhide JB).trans (h.mono (by omega)))
    have HMN : Hid ((S2.map (Value.int .i64)).length = Nat.min n 5) := by show _ = _; rw [List.length_map, unhide HL2]; exact (Nat.min_eq_left h5).symm
    have HMF : Hid (7 + (S2.map (Value.int .i64)).length ≤ 12) := by show _ ≤ _; rw [List.length_map, unhide HL2]; omega
    go_upto_region 2 with fail
    go_cut [] (fun wx => LBox wx p (fl c S1 S2) ∧ LBox wx (p + 1) (fun _ => 0) ∧ Below p w wx)
    case first =>
      go_region_held3 (fun wx => wx.cell? ⟨p, 1, none⟩ = some (.int .i64 n))
        (first | exact unhide HK4 | exact unhide HRK _ hKA | exact unhide HRK _ (Below.refl _ _).drew)
        (first
        | (go_at_call 63; refine (unhide HQ2 _ _ _ (unhide HRW _ (Below.refl _ _).drew) (unhide HRP _ (Below.refl _ _).drew)).mono ?_; rintro e wA ⟨g, rfl, hg, hbk, hbA⟩; have hKA : Below w3.heap.size w3 wA := (Below.refl _ _).drew.trans hbA; have HC : Hid (0 < (S2.map (Value.int .i64)).length → ∃ ad, (some ⟨g, 0, none⟩ : Option Addr) = some ad ∧ ∀ j v, (S2.map (Value.int .i64))[j]? = some v → wA.cell? (ad.add j) = some v) := row_src (hbk.row (unhide HL2) (by omega)); clear hbA hbk)
        | (refine step_copy_but rfl (.tmp 15) (.tmp 21) rfl hsz _ _ _ _ _ _ rfl rfl p 7 _ 47 ((unhide JL).below (Nat.le_refl _) hKA) (S2.map (Value.int .i64)) (unhide HMN) (fun h => ⟨rfl, unhide HC h⟩) (unhide HMF) (one_ints S2) ?_; intro w4 hg4 hb4; have HG4 : Hid (LBox w4 p (fl c S1 S2)) := (LBox.splice7 hg4.out (by rw [unhide HL2]; omega)).congr (fun i _ => fl_copys c S1 st S2 (by rw [unhide HL2, unhide HS]; exact Nat.le_refl _) i); have HK4 : Hid (w4.cell? ⟨p, 1, none⟩ = some (.int .i64 n)) := (by show _ = _; rw [(unhide HG4).at (by omega), fl_1, unhide HL1]); have HB4 := hide hb4; clear hg4 hb4))
      all_goals go_wp2_with fail
      all_goals go_meet
      all_goals case rel => exact ⟨unhide HG4, ((unhide JZ).below (Nat.le_refl _) hKA).but (unhide HB4) (by show ¬ (p + 1 = p); omega), ((unhide JB).trans (hKA.mono (by omega))).trans ((unhide HB4).below (B := p) (by have := hKA.size; omega) (fun k hk => by omega))⟩
    case rest =>
      obtain ⟨w5, hw5⟩ : ∃ x, x = wc := ⟨_, rfl⟩
      subst hw5
      obtain ⟨hq1, hq2, hq3⟩ := hcut
      have HB5 := hide hq3
      generalize hff : fl c S1 S2 = g at *
      have HFF := hide hff
      obtain ⟨x0, x1, x2, x3, x4, x5, x6, x7, x8, x9, x10, x11, y0, y1, y2, y3, y4, y5, y6, y7, y8, y9, y10, y11, xl⟩ := hq1.all
      obtain ⟨z0, z1, z2, z3, z4, z5, z6, z7, z8, z9, z10, z11, f0, f1, f2, f3, f4, f5, f6, f7, f8, f9, f10, f11, zl⟩ := hq2.all
      clear hff hq1 hq2 hq3 JL JZ JB HRK HRW HRP HMN HMF
      go_wp2_with fail
      refine bodyPost_ret (v := lay g) (by simp [results, Try.results46, go_sem, z0, z1, z2, z3, z4, z5, z6, z7, z8, z9, z10, z11]) rfl ?_
      exact ⟨by rw [← unhide HFF], by rw [unhide HPE]; exact Below.sets12 (unhide HB5) (by omega) g⟩

end Go.Proofs.Ytadbhidpmihghaa
