import Derived.Test.YtgjpchnkodnieaaGreatDoorZv05
import Derived.Test.YtgjpchnkodnieaaGreatDoorZv14
import Derived.BigQuiet
import Derived.Test.YtgjpchnkodnieaaGreatDoorZv08
import Derived.Test.YtgjpchnkodnieaaGreatDoorZv15
import Derived.Test.YtgjpchnkodnieaaGreatDoorZv13
import Derived.Test.YtgjpchnkodnieaaGreatDoorZv11
import Derived.Test.YtgjpchnkodnieaaGreatDoorZv07
import Derived.Test.YtgjpchnkodnieaaGreatDoorZv02
import Derived.Deep.DeepCutAuto
import Derived.Test.YtgjpchnkodnieaaGreatDoorZv20
import Derived.Test.YtgjpchnkodnieaaGreatDoorZv04
import Derived.Deep.RegionHeld3
import Derived.RangeFuncRecord
namespace Go.Proofs.YtgjpchnkodnieaaGreatDoor
open Go.RowKit Go.Shelf
theorem eg_cutdropping : ∀ args w, (callFunc 164 args).run Tryz.prog w = .ok (.enter 164 args) w := enters_of Tryz.func164 (by kernel_rfl) rfl
set_option maxHeartbeats 2000000 in
theorem cutClodropping (pf n cf : Nat) (gf : Option Addr) (st zs : List Int) (w : World) (hc : w.cell? ⟨pf, 0, none⟩ = some (.slice gf n cf)) (hr : Row w gf n st) (hb : ∀ k, k < n → -1000000000010000 ≤ st.getD k 0 ∧ st.getD k 0 ≤ 1000000000010000) (hz : zs.length = n) (hs : ∀ k, zs.getD k 0 ≤ 10000) :
    NumOk 164 #[.pointer (some ⟨pf, 0, none⟩)] (cutF st) zs n w := by
  intro D hD hDl k hk ib W hW hB
  have hd := hD k (by omega)
  have hsk := hs k
  have hbk := hb k hk
  have hc1 := (hW.cell (p := ⟨pf, 0, none⟩) (World.block_lt_of_cell? _ _ hc)).trans hc
  obtain ⟨bf, of, rfl, _, cf1⟩ := (hr.below (Nat.le_refl _) hW).get hk
  have cd := hB.cell (i := k) (by omega)
  obtain ⟨x, hx⟩ : ∃ x, D.getD k 0 = x := ⟨_, rfl⟩
  obtain ⟨y, hy⟩ : ∃ y, st.getD k 0 = y := ⟨_, rfl⟩
  rw [hx] at cd hd
  rw [hy] at cf1 hbk
  have HF : Hid (cutF st D k = y + x) := by show _ = _; unfold cutF; rw [hx, hy]
  have w1 : IntKind.i64.wrap (y + x) = y + x := by rw [IntKind.wrap_i64]; omega
  rw [hz]
  clear hW hB hD hDl hc hr hx hy hz hs hb
  go_enter Tryz.func164, Tryz.ntmps164
  go_wp2_with fail
  go_quiet (fail)
  go_wp2_with fail
  go_ret
  exact ⟨ret_int HF.out.symm, Below.drewN (Below.refl _ _) _⟩
end Go.Proofs.YtgjpchnkodnieaaGreatDoor
namespace Go.Proofs.YtgjpchnkodnieaaGreatDoor
open Go.RowKit Go.Shelf
theorem eg_cuttaking : ∀ args w, (callFunc 166 args).run Tryz.prog w = .ok (.enter 166 args) w := enters_of Tryz.func166 (by kernel_rfl) rfl
set_option maxHeartbeats 2000000 in
theorem cutClotaking (pf n cf : Nat) (gf : Option Addr) (st zs : List Int) (w : World) (hc : w.cell? ⟨pf, 0, none⟩ = some (.slice gf n cf)) (hr : Row w gf n st) (hb : ∀ k, k < n → -1000000000010000 ≤ st.getD k 0 ∧ st.getD k 0 ≤ 1000000000010000) (hz : zs.length = n) (hs : ∀ k, zs.getD k 0 ≤ 10000) :
    NumOk 166 #[.pointer (some ⟨pf, 0, none⟩)] (cutF st) zs n w := by
  intro D hD hDl k hk ib W hW hB
  have hd := hD k (by omega)
  have hsk := hs k
  have hbk := hb k hk
  have hc1 := (hW.cell (p := ⟨pf, 0, none⟩) (World.block_lt_of_cell? _ _ hc)).trans hc
  obtain ⟨bf, of, rfl, _, cf1⟩ := (hr.below (Nat.le_refl _) hW).get hk
  have cd := hB.cell (i := k) (by omega)
  obtain ⟨x, hx⟩ : ∃ x, D.getD k 0 = x := ⟨_, rfl⟩
  obtain ⟨y, hy⟩ : ∃ y, st.getD k 0 = y := ⟨_, rfl⟩
  rw [hx] at cd hd
  rw [hy] at cf1 hbk
  have HF : Hid (cutF st D k = y + x) := by show _ = _; unfold cutF; rw [hx, hy]
  have w1 : IntKind.i64.wrap (y + x) = y + x := by rw [IntKind.wrap_i64]; omega
  rw [hz]
  clear hW hB hD hDl hc hr hx hy hz hs hb
  go_enter Tryz.func166, Tryz.ntmps166
  go_wp2_with fail
  go_quiet (fail)
  go_wp2_with fail
  go_ret
  exact ⟨ret_int HF.out.symm, Below.drewN (Below.refl _ _) _⟩
end Go.Proofs.YtgjpchnkodnieaaGreatDoor
namespace Go.Proofs.YtgjpchnkodnieaaGreatDoor
open Go.RowKit Go.Shelf
theorem eg_onAxis : ∀ args w, (callFunc 152 args).run Tryz.prog w = .ok (.enter 152 args) w := enters_of Tryz.func152 (by kernel_rfl) rfl
def axisF (a : Nat) (h : Int → Int) (D : List Int) (k : Nat) : Int := if k = a then h (D.getD k 0) else D.getD k 0
set_option maxHeartbeats 2000000 in
theorem axisClo (zs : List Int) (r pa pf a g : Nat) (lb : Array Value) (eg : ∀ args w, (callFunc g args).run Tryz.prog w = .ok (.enter g args) w) (h : Int → Int) (w : World) (hr : r ≤ zs.length) (ha : a < zs.length)
    (h1 : w.cell? ⟨pa, 0, none⟩ = some (.int .i64 (a : Nat))) (h2 : w.cell? ⟨pf, 0, none⟩ = some (.func (.func g) #[] lb))
    (hm : ∀ v, 0 ≤ v → v < zs.getD a 0 → ∀ W, Below w.heap.size w W → Calls Tryz.prog g (#[.int .i64 v] ++ lb) W fun e w' => e = .returned (.int .i64 (h v)) ∧ ∃ q, w' = W.drewN q) :
    NumOk 152 #[.pointer (some ⟨pa, 0, none⟩), .pointer (some ⟨pf, 0, none⟩)] (axisF a h) zs r w := by
  intro D hD hDl k hk ib W hW hB
  have cd := hB.cell (i := k) (by omega)
  have hDk := hD k (by omega)
  have c1 := (hW.cell (p := ⟨pa, 0, none⟩) (World.block_lt_of_cell? _ _ h1)).trans h1
  have c2 := (hW.cell (p := ⟨pf, 0, none⟩) (World.block_lt_of_cell? _ _ h2)).trans h2
  obtain ⟨n, hn⟩ : ∃ n, zs.length = n := ⟨_, rfl⟩
  obtain ⟨v, hv⟩ : ∃ v, D.getD k 0 = v := ⟨_, rfl⟩
  have HF : Hid (axisF a h D k = if k = a then h v else v) := by show _ = _; unfold axisF; rw [hv]
  rw [hn] at hr ⊢
  rw [hv] at cd hDk
  have hkn : (k : Int) < (n : Int) := by omega
  by_cases hka : k = a
  · subst hka
    rw [if_pos rfl] at HF
    have hcall : ∀ q, Calls Tryz.prog g (#[.int .i64 v] ++ lb) (W.drewN q) fun e w' => e = .returned (.int .i64 (h v)) ∧ ∃ m, w' = (W.drewN q).drewN m := fun q => hm v hDk.1 hDk.2 _ (hW.trans (Below.drewN (Below.refl _ _) _))
    clear hD hDl hW hB hn hv h1 h2 hDk hm
    go_enter Tryz.func152, Tryz.ntmps152
    go_wp2_with fail
    go_quiet ((go_at_fn g; exact Calls.quiet_of (hcall _)))
    go_wp2_with fail
    go_ret
    exact ⟨ret_int HF.out.symm, Below.drewN (Below.refl _ _) _⟩
  · rw [if_neg hka] at HF
    have q : ((k : Int) == (a : Int)) = false := by simp; omega
    clear hka hD hDl hW hB hn hv h1 h2 hDk hm
    go_enter Tryz.func152, Tryz.ntmps152
    go_wp2_with fail
    go_ret
    exact ⟨ret_int HF.out.symm, Below.refl _ _⟩
end Go.Proofs.YtgjpchnkodnieaaGreatDoor
namespace Go.Proofs.YtgjpchnkodnieaaGreatDoor
open Go.RowKit Go.Shelf
abbrev S1taking := takeS1
abbrev Z1taking := takeZ1
abbrev S1dropping := dropS1
abbrev Z1dropping := dropZ1
theorem S1taking_bd {k len : Int} (hk : -1000000000000000 ≤ k ∧ k ≤ 1000000000000000) (hl : 0 ≤ len ∧ len ≤ 10000) : -1000000000010000 ≤ S1taking k len ∧ S1taking k len ≤ 1000000000010000 := by
  show -1000000000010000 ≤ takeS1 k len ∧ takeS1 k len ≤ 1000000000010000
  unfold takeS1; split <;> omega
theorem S1dropping_bd {k len : Int} (hk : -1000000000000000 ≤ k ∧ k ≤ 1000000000000000) (_hl : 0 ≤ len ∧ len ≤ 10000) : -1000000000010000 ≤ S1dropping k len ∧ S1dropping k len ≤ 1000000000010000 := by
  show -1000000000010000 ≤ dropS1 k len ∧ dropS1 k len ≤ 1000000000010000
  unfold dropS1; split <;> omega
set_option maxHeartbeats 1000000 in
theorem span_taking (k len : Int) (w : World) (hk : -1000000000000000 ≤ k ∧ k ≤ 1000000000000000) (hl : 0 ≤ len ∧ len ≤ 10000) : Calls Tryz.prog 354 #[.agg #[], .int .i64 k, .int .i64 len] w fun e w' => e = .returned (.tuple #[.int .i64 (takeS1 k len), .int .i64 (takeZ1 k len)]) ∧ Below w.heap.size w w' := by
  by_cases h : k < 0
  · have HS : Hid (takeS1 k len = len + k) := if_pos h
    have HZ : Hid (takeZ1 k len = -k) := if_pos h
    have w1 : IntKind.i64.wrap (len + k) = len + k := by rw [IntKind.wrap_i64]; omega
    have w2 : IntKind.i64.wrap (-k) = -k := by rw [IntKind.wrap_i64]; omega
    go_enter Tryz.func354, Tryz.ntmps354
    go_wp2
    go_ret2
    exact ⟨ret_two HS.out.symm HZ.out.symm, by first | exact Below.refl _ _ | exact (Below.refl _ w).alloc (Nat.le_refl _) _⟩
  · have HS : Hid (takeS1 k len = 0) := if_neg h
    have HZ : Hid (takeZ1 k len = k) := if_neg h
    go_enter Tryz.func354, Tryz.ntmps354
    go_wp2
    go_ret2
    exact ⟨ret_two HS.out.symm HZ.out.symm, by first | exact Below.refl _ _ | exact (Below.refl _ w).alloc (Nat.le_refl _) _⟩
set_option maxHeartbeats 1000000 in
theorem magnitudeS_any (k : Int) (w : World) (hk : -1000000000000000 ≤ k ∧ k ≤ 1000000000000000) : Calls Tryz.prog 281 #[.int .i64 k] w fun e w' => e = .returned (.int .i64 (absI k)) ∧ w' = w := by
  have w2 : IntKind.i64.wrap (-k) = -k := by rw [IntKind.wrap_i64]; omega
  go_enter Tryz.func281, Tryz.ntmps281
  go_wp2
  all_goals go_ret
  all_goals (refine ⟨ret_int ?_, rfl⟩; unfold absI; split <;> omega)
set_option maxHeartbeats 1000000 in
theorem span_dropping (k len : Int) (w : World) (hk : -1000000000000000 ≤ k ∧ k ≤ 1000000000000000) (hl : 0 ≤ len ∧ len ≤ 10000) : Calls Tryz.prog 353 #[.agg #[], .int .i64 k, .int .i64 len] w fun e w' => e = .returned (.tuple #[.int .i64 (dropS1 k len), .int .i64 (dropZ1 k len)]) ∧ Below w.heap.size w w' := by
  have hab : 0 ≤ absI k ∧ absI k ≤ 1000000000000000 := by unfold absI; split <;> omega
  have w2 : IntKind.i64.wrap (len - absI k) = len - absI k := by rw [IntKind.wrap_i64]; omega
  obtain ⟨m, hm⟩ : ∃ m, absI k = m := ⟨_, rfl⟩
  have HM := hide hm
  rw [hm] at w2 hab
  clear hm
  go_enter Tryz.func353, Tryz.ntmps353
  go_wp2_with (go_at_call 281; refine (magnitudeS_any _ _ hk).mono ?_; rintro e w1 ⟨rfl, hw1⟩; obtain rfl := hw1.symm; rw [HM.out])
  all_goals go_ret2
  all_goals (refine ⟨ret_two ?_ ?_, by first | exact Below.refl _ _ | exact (Below.refl _ w).alloc (Nat.le_refl _) _⟩)
  all_goals first | (unfold dropS1; split <;> omega) | (unfold dropZ1; rw [HM.out]; split <;> omega)
end Go.Proofs.YtgjpchnkodnieaaGreatDoor
namespace Go.Proofs.YtgjpchnkodnieaaGreatDoor
open Go.RowKit Go.Shelf
theorem eg_mod : ∀ args w, (callFunc 171 args).run Tryz.prog w = .ok (.enter 171 args) w := enters_of Tryz.func171 (by kernel_rfl) rfl
set_option maxHeartbeats 1000000 in
theorem modClo (pc cnt N : Nat) (w : World) (hc : w.cell? ⟨pc, 0, none⟩ = some (.int .i64 (cnt : Nat))) (h0 : 0 < cnt) (hcb : cnt ≤ 10000) (n1 : Nat) (hn1 : n1 ≤ 1) : NumOk 171 #[.pointer (some ⟨pc, 0, none⟩)] (modF cnt) [(N : Int)] n1 w := by
  intro D hD hDl k hk ib W hW hB
  have hk0 : k = 0 := by omega
  subst hk0
  have hd := hD 0 (by simp)
  have hc1 := (hW.cell (p := ⟨pc, 0, none⟩) (World.block_lt_of_cell? _ _ hc)).trans hc
  have cd := hB.cell (i := 0) (by rw [hDl]; simp)
  have e1 : ([(N : Int)] : List Int).getD 0 0 = N := rfl
  rw [e1] at hd
  obtain ⟨x, hx⟩ : ∃ x : Nat, D.getD 0 0 = x := ⟨(D.getD 0 0).toNat, by omega⟩
  rw [hx] at cd hd
  have HF : Hid (modF cnt D 0 = ((x % cnt : Nat) : Int)) := by show _ = _; unfold modF; rw [hx]; simp
  have hmod : (x : Int).tmod (cnt : Int) = ((x % cnt : Nat) : Int) := by rw [Int.tmod_eq_emod_of_nonneg (by omega)]; simp
  have hlt : x % cnt < cnt := Nat.mod_lt _ h0
  obtain ⟨r, hr⟩ : ∃ r : Nat, r = x % cnt := ⟨_, rfl⟩
  rw [← hr] at HF hmod hlt
  have q0 : ¬ (cnt : Int) = 0 := by omega
  have hl1 : ([(N : Int)] : List Int).length = 1 := rfl
  rw [hl1]
  clear hW hB hD hDl hc e1 hx hr hl1
  go_enter Tryz.func171, Tryz.ntmps171
  go_wp2_with fail
  go_quiet (fail)
  go_wp2_with fail
  go_ret
  exact ⟨ret_int HF.out.symm, Below.drewN (Below.refl _ _) _⟩
end Go.Proofs.YtgjpchnkodnieaaGreatDoor
namespace Go.Proofs.YtgjpchnkodnieaaGreatDoor
open Go.RowKit
theorem info_part : (Tryz.prog.info? 119).map (fun i => (i.zero, i.size, i.bytes)) = some (some (.agg #[.bool false, .bool false, .slice none 0 0, .slice none 0 0]), 4, 64) := by kernel_rfl
structure PItem (B : Nat) (w : World) (g : Nat) (s1 : Option Addr) (n1 c1 : Nat) (s2 : Option Addr) (n2 c2 : Nat) (p : PartD) : Prop where
  r1 : Src w s1 n1 c1 p.sh
  r2 : Src w s2 n2 c2 p.dt
  ne1 : ¬ At s1 n1 g
  ne2 : ¬ At s2 n2 g
  low1 : ∀ x, At s1 n1 x → B ≤ x
  low2 : ∀ x, At s2 n2 x → B ≤ x
  m1 : n1 ≤ 20000
  m2 : n2 ≤ 20000
  nn : p.all = false → ∃ ad, s1 = some ad
structure PGrow (B : Nat) (w : World) (g cap k : Nat) (xs : List Value) (ps : List PartD) : Prop where
  own : w.ownsRow B 119 4 (.slice (some ⟨g, 0, none⟩) k cap) k xs
  len : ps.length = k
  items : ∀ i, i < k → ∃ s1 n1 c1 s2 n2 c2, xs[i * 4]? = some (.bool (part ps i).all) ∧ xs[i * 4 + 1]? = some (.bool (part ps i).c) ∧ xs[i * 4 + 2]? = some (.slice s1 n1 c1) ∧ xs[i * 4 + 3]? = some (.slice s2 n2 c2) ∧ PItem B w g s1 n1 c1 s2 n2 c2 (part ps i)
section
variable {B : Nat} {w w' : World} {g cap k : Nat} {xs : List Value} {ps : List PartD}
theorem Src.but {S : Nat → Prop} {s : Option Addr} {n c : Nat} {zs : List Int} (h : Src w s n c zs) (hb : But S w w') (hs : ∀ x, S x → ¬ At s n x) : Src w' s n c zs := ⟨hb.row h.1 hs, h.2⟩
theorem PItem.but {S : Nat → Prop} {s1 s2 : Option Addr} {n1 c1 n2 c2 g' : Nat} {p : PartD} (h : PItem B w g s1 n1 c1 s2 n2 c2 p) (hb : But S w w') (hs1 : ∀ x, S x → ¬ At s1 n1 x) (hs2 : ∀ x, S x → ¬ At s2 n2 x) (e1 : ¬ At s1 n1 g') (e2 : ¬ At s2 n2 g') : PItem B w' g' s1 n1 c1 s2 n2 c2 p :=
  ⟨h.r1.but hb hs1, h.r2.but hb hs2, e1, e2, h.low1, h.low2, h.m1, h.m2, h.nn⟩
theorem PGrow.ge (h : PGrow B w g cap k xs ps) : B ≤ g := by
  rcases h.own.2 with ⟨h', _⟩ | ⟨g', cap', cur, h', hb, _⟩
  · simp at h'
  · cases h'; exact hb
theorem PGrow.lt (h : PGrow B w g cap k xs ps) : g < w.heap.size := by
  rcases h.own.2 with ⟨h', _⟩ | ⟨g', cap', cur, h', hb, hg, _⟩
  · simp at h'
  · cases h'; exact lt_of_block hg
theorem PGrow.but {S : Nat → Prop} (h : PGrow B w g cap k xs ps) (hb : But S w w') (hs : ∀ x, S x → x < B) : PGrow B w' g cap k xs ps := by
  refine ⟨?_, h.len, fun i hi => ?_⟩
  · have hge := h.ge
    obtain ⟨o1, o2⟩ := h.own
    refine ⟨o1, ?_⟩
    rcases o2 with o2 | ⟨g', cap', cur, hv, hg', hh, r⟩
    · exact Or.inl o2
    · exact Or.inr ⟨g', cap', cur, hv, hg', (hb.block g' (lt_of_block hh) (fun e => by have := hs _ e; omega)).trans hh, r⟩
  · obtain ⟨s1, n1, c1, s2, n2, c2, e0, e1, e2, e3, it⟩ := h.items i hi
    exact ⟨s1, n1, c1, s2, n2, c2, e0, e1, e2, e3, it.but hb (fun x hx hh => by have := it.low1 x hh; have := hs x hx; omega) (fun x hx hh => by have := it.low2 x hh; have := hs x hx; omega) it.ne1 it.ne2⟩
theorem PGrow.below (h : PGrow B w g cap k xs ps) (hb : Below w.heap.size w w') : PGrow B w' g cap k xs ps := h.but (S := fun _ => False) (But.of_below hb) (fun _ h => h.elim)
theorem PGrow.start (w : World) (hB : B ≤ w.heap.size) : PGrow B (w.alloc (.cells #[] 119)) w.heap.size 0 0 [] [] := by
  refine ⟨World.ownsRow_lit w #[] 0 hB (by unfold maxLen; omega) rfl, rfl, fun i hi => by omega⟩
theorem PGrow.cell (h : PGrow B w g cap k xs ps) {j : Nat} (hj : j < k * 4) : w.cell? ⟨g, j, none⟩ = xs[j]? := by
  rcases h.own.2 with ⟨h', _⟩ | ⟨g', cap', cur, h', hb, hg, hr, hm, hs, ht⟩
  · simp at h'
  · cases h'
    have h1 : (cur.toList.take (k * 4))[j]? = cur.toList[j]? := by rw [List.getElem?_take, if_pos hj]
    rw [← ht, h1]
    simp [World.cell?, hg]
theorem PGrow.get (h : PGrow B w g cap k xs ps) {i : Nat} (hi : i < k) : ∃ s1 n1 c1 s2 n2 c2, w.cell? ⟨g, i * 4, none⟩ = some (.bool (part ps i).all) ∧ w.cell? ⟨g, i * 4 + 1, none⟩ = some (.bool (part ps i).c) ∧ w.cell? ⟨g, i * 4 + 2, none⟩ = some (.slice s1 n1 c1) ∧ w.cell? ⟨g, i * 4 + 3, none⟩ = some (.slice s2 n2 c2) ∧ PItem B w g s1 n1 c1 s2 n2 c2 (part ps i) := by
  obtain ⟨s1, n1, c1, s2, n2, c2, e0, e1, e2, e3, it⟩ := h.items i hi
  exact ⟨s1, n1, c1, s2, n2, c2, (h.cell (by omega)).trans e0, (h.cell (by omega)).trans e1, (h.cell (by omega)).trans e2, (h.cell (by omega)).trans e3, it⟩
theorem PGrow.rowN (h : PGrow B w g cap k xs ps) (hk : k ≤ 1000) : PRowN w (some ⟨g, 0, none⟩) k ps := by
  refine ⟨⟨h.len, by omega, .inr ⟨g, 0, rfl, h.lt, fun i hi => ?_⟩⟩, fun b off e hlt i hi hall => ?_⟩
  · obtain ⟨s1, n1, c1, s2, n2, c2, e0, e1, e2, e3, it⟩ := h.get hi
    rw [Nat.zero_add]
    exact ⟨s1, n1, c1, s2, n2, c2, e0, e1, e2, e3, it.r1.1, it.r2.1⟩
  · cases e
    obtain ⟨s1, n1, c1, s2, n2, c2, e0, e1, e2, e3, it⟩ := h.get hi
    obtain ⟨ad, rfl⟩ := it.nn hall
    rw [Nat.zero_add]
    exact ⟨ad, n1, c1, e2⟩
theorem part_snoc {p : PartD} {i : Nat} (hi : i < ps.length) : part (ps ++ [p]) i = part ps i := by
  unfold part List.getD; rw [List.getElem?_append_left hi]
theorem part_last {p : PartD} : part (ps ++ [p]) ps.length = p := by
  unfold part; simp [List.getD]
theorem PGrow.push {w1 : World} {g' cap' n1 c1 n2 c2 : Nat} {s1 s2 : Option Addr} {p : PartD} (o : Obj) (h : PGrow B w g cap k xs ps) (it : PItem B w g s1 n1 c1 s2 n2 c2 p)
    (hown : w1.ownsRow B 119 4 (.slice (some ⟨g', 0, none⟩) (k + 1) cap') (k + 1) (xs ++ [.bool p.all, .bool p.c, .slice s1 n1 c1, .slice s2 n2 c2])) (hg : (w.alloc o).grownBy w1 (some g)) (hat : g' = g ∨ g' = w.heap.size + 1) :
    PGrow B w1 g' cap' (k + 1) (xs ++ [.bool p.all, .bool p.c, .slice s1 n1 c1, .slice s2 n2 c2]) (ps ++ [p]) ∧ But (fun x => x = g) w w1 := by
  have hb : But (fun x => x = g) w w1 :=
    ⟨hg.os, hg.tape, hg.output, by have := hg.size; simp at this; omega, fun x hx hn => (hg.block x (by simp; omega) (fun e => hn (Option.some.inj e))).trans (Below.heap_alloc w o x hx)⟩
  have hl : xs.length = k * 4 := by have := h.own.1; omega
  have hne : ∀ (s : Option Addr) (m : Nat) (c : Nat) (zs : List Int), Src w s m c zs → ¬ At s m g → ¬ At s m g' := fun s m c zs hr hn hh => by
    rcases hat with e | e
    · rw [e] at hh; exact hn hh
    · have := hr.1.hi hh; omega
  have hit : ∀ (t1 : Option Addr) (m1 d1 : Nat) (t2 : Option Addr) (m2 d2 : Nat) (q : PartD), PItem B w g t1 m1 d1 t2 m2 d2 q → PItem B w1 g' t1 m1 d1 t2 m2 d2 q := fun t1 m1 d1 t2 m2 d2 q ih =>
    ih.but hb (fun x hx hh => ih.ne1 (by rw [← hx]; exact hh)) (fun x hx hh => ih.ne2 (by rw [← hx]; exact hh)) (hne _ _ _ _ ih.r1 ih.ne1) (hne _ _ _ _ ih.r2 ih.ne2)
  refine ⟨⟨hown, by simp [h.len], fun i hi => ?_⟩, hb⟩
  by_cases e : i = k
  · subst e
    have hp : part (ps ++ [p]) i = p := by rw [← h.len]; exact part_last
    rw [hp]
    refine ⟨s1, n1, c1, s2, n2, c2, ?_, ?_, ?_, ?_, hit _ _ _ _ _ _ _ it⟩
    all_goals (rw [List.getElem?_append_right (by omega), hl]; simp)
  · obtain ⟨t1, m1, d1, t2, m2, d2, e0, e1, e2, e3, ih⟩ := h.items i (by omega)
    rw [part_snoc (by rw [h.len]; omega)]
    exact ⟨t1, m1, d1, t2, m2, d2, by rw [List.getElem?_append_left (by omega)]; exact e0, by rw [List.getElem?_append_left (by omega)]; exact e1, by rw [List.getElem?_append_left (by omega)]; exact e2, by rw [List.getElem?_append_left (by omega)]; exact e3, hit _ _ _ _ _ _ _ ih⟩
end
end Go.Proofs.YtgjpchnkodnieaaGreatDoor
namespace Go.Proofs.YtgjpchnkodnieaaGreatDoor
open Go.RowKit Go.Shelf
namespace Spansdropping
theorem meth : ∀ w, (method 414 113 (.agg #[]) "loop.example/s02542/impl.span").run Tryz.prog w = .ok (353, .agg #[]) w := by intro w; kernel_rfl
theorem blk_made {W : World} {g L : Nat} (h : W.heap[g]? = some (.cells (madeCells #[.int .i64 0] L) 3 (0, 0))) : Blk W g (List.replicate L 0) := by
  rw [madeList] at h
  unfold Blk
  rw [h]
  simp
def TwoNew (W : World) (L : Nat) (v8 v9 : Value) (wx : World) : Prop :=
  ∃ gf gs, v8 = .slice (some ⟨gf, 0, none⟩) L L ∧ v9 = .slice (some ⟨gs, 0, none⟩) L L ∧ Blk wx gf (List.replicate L 0) ∧ Blk wx gs (List.replicate L 0) ∧ W.heap.size ≤ gf ∧ W.heap.size ≤ gs ∧ gf ≠ gs ∧ Below W.heap.size W wx
theorem a2_0 (w : World) (o0 o1 : Obj) : ((w.alloc o0).alloc o1).drew.heap[w.heap.size]? = some o0 := (Below.heap_alloc _ _ _ (by simp)).trans (World.alloc_heap_new w o0)
theorem a2_1 (w : World) (o0 o1 : Obj) : ((w.alloc o0).alloc o1).drew.heap[w.heap.size + 1]? = some o1 := by have := World.alloc_heap_new (w.alloc o0) o1; rwa [World.size_alloc] at this
theorem a2_b (w : World) (o0 o1 : Obj) : Below w.heap.size w ((w.alloc o0).alloc o1).drew := (((Below.refl _ w).alloc (Nat.le_refl _) _).alloc (by simp) _).drew
theorem two_new {W wx : World} {L gf gs : Nat} (h2 : wx.heap[gf]? = some (.cells (madeCells #[.int .i64 0] L) 3 (0, 0))) (h3 : wx.heap[gs]? = some (.cells (madeCells #[.int .i64 0] L) 3 (0, 0))) (b1 : W.heap.size ≤ gf) (b2 : W.heap.size ≤ gs) (b3 : gf ≠ gs) (hb : Below W.heap.size W wx) :
    TwoNew W L (.slice (some ⟨gf, 0, none⟩) L L) (.slice (some ⟨gs, 0, none⟩) L L) wx := ⟨gf, gs, rfl, rfl, blk_made h2, blk_made h3, b1, b2, b3, hb⟩
set_option maxRecDepth 20000 in
set_option maxHeartbeats 4000000 in
theorem any (a2 sa : Option Addr) (L c2 ca : Nat) (dt bs : List Int) (w : World) (h2 : Row w a2 L dt) (hr : Row w sa L bs) (hL : L ≤ 10000) (hdb : ∀ k, k < L → -1000000000000000 ≤ dt.getD k 0 ∧ dt.getD k 0 ≤ 1000000000000000) (hsb : ∀ k, 0 ≤ bs.getD k 0 ∧ bs.getD k 0 ≤ 10000) :
    Calls Tryz.prog 163 #[.agg #[], .slice a2 L c2, .slice sa L ca] w fun e w' => ∃ gf gs, e = .returned (.tuple #[.slice (some ⟨gf, 0, none⟩) L L, .slice (some ⟨gs, 0, none⟩) L L]) ∧ Blk w' gf (made S1dropping dt bs L) ∧ Blk w' gs (made Z1dropping dt bs L) ∧ w.heap.size ≤ gf ∧ w.heap.size ≤ gs ∧ gf ≠ gs ∧ Below w.heap.size w w' := by
  obtain ⟨W, hW⟩ : ∃ W, W = w.alloc (.cells #[] 113) := ⟨_, rfl⟩
  have HXH : Hid (W.heap[w.heap.size]? = some (.cells #[] 113 (0, 0))) := by rw [hW]; exact World.alloc_heap_new w _
  have HB0 : Hid (Below w.heap.size w W) := by rw [hW]; exact (Below.refl _ w).alloc (Nat.le_refl _) _
  have hWz : W.heap.size = w.heap.size + 1 := by rw [hW]; simp
  have HWZ := hide hWz
  have H2 := hide (h2.below (Nat.le_refl _) (unhide HB0))
  have HR := hide (hr.below (Nat.le_refl _) (unhide HB0))
  have HDB := hide hdb
  have HSB := hide hsb
  have hmk := run_make_row' (P := Tryz.prog) 23 3 (.int .i64 0) 8 Tryz.underlying23 info_int rfl .i64 .i64 L (by omega) (by omega)
  clear h2 hr hdb hsb hWz
  go_enter Tryz.func163, Tryz.ntmps163
  go_upto_region 1 with fail
  rw [← hW]
  clear hW
  go_cut [8, 9] (fun v8 v9 wx => TwoNew W L v8 v9 wx)
  case first => as_aux_lemma =>
    go_region
    all_goals go_wp2_with fail
    all_goals (go_meet; case rel => first | exact two_new (a2_0 _ _ _) (a2_1 _ _ _) (by omega) (by omega) (by omega) (a2_b _ _ _) | exact two_new (a2_1 _ _ _) (a2_0 _ _ _) (by omega) (by omega) (by omega) (a2_b _ _ _))
  case rest =>
    obtain ⟨w3, hw3⟩ : ∃ x, x = wc := ⟨_, rfl⟩
    subst hw3
    obtain ⟨gf, gs, rfl, rfl, hgf, hgs, bgf, bgs, nfs, hbl⟩ := hcut
    have HGF : Hid (Blk w3 gf (partly S1dropping dt bs L 0)) := by show Blk _ _ _; rw [partly_zero]; exact hgf
    have HGS : Hid (Blk w3 gs (partly Z1dropping dt bs L 0)) := by show Blk _ _ _; rw [partly_zero]; exact hgs
    have HBL := hide hbl
    clear hgf hgs hbl hmk
    go_wp2_with fail
    go_loopw [20] (fun i wr => ∃ k : Nat, k ≤ L ∧ i = .int .i64 (k : Nat) ∧ Hid (Blk wr gf (partly S1dropping dt bs L k)) ∧ Hid (Blk wr gs (partly Z1dropping dt bs L k)) ∧ Hid (But (fun x => x = gf ∨ x = gs) w3 wr)) (fun i _ => L - (intOf i).toNat)
    case atStart => exact ⟨0, Nat.zero_le _, rfl, HGF, HGS, hide (But.refl _ _)⟩
    case round =>
      obtain ⟨k, hk, rfl, hf, hs, hbut⟩ := hrel
      by_cases hlt : k < L
      · have hzr := hbut.out.size
        have hz3 := HBL.out.size
        obtain ⟨bb, ob, hbb, hbl1, cs⟩ := (hbut.out.row (HR.out.below (Nat.le_refl _) HBL.out) (by rintro x (rfl | rfl) h <;> have := HR.out.hi h <;> omega)).get hlt
        obtain ⟨ba, oa, hba, hbl2, ck⟩ := (hbut.out.row (H2.out.below (Nat.le_refl _) HBL.out) (by rintro x (rfl | rfl) h <;> have := H2.out.hi h <;> omega)).get hlt
        have hbaw : ba < W.heap.size := H2.out.hi ⟨by omega, _, hba, rfl⟩
        cases hbb
        cases hba
        obtain ⟨s, hss⟩ : ∃ s, bs.getD k 0 = s := ⟨_, rfl⟩
        obtain ⟨kk, hkk⟩ : ∃ kk, dt.getD k 0 = kk := ⟨_, rfl⟩
        rw [hss] at cs
        rw [hkk] at ck
        have hkb : -1000000000000000 ≤ kk ∧ kk ≤ 1000000000000000 := by rw [← hkk]; exact HDB.out k hlt
        have hsb : 0 ≤ s ∧ s ≤ 10000 := by rw [← hss]; exact HSB.out k
        obtain ⟨S1, hS1⟩ : ∃ S1, S1dropping kk s = S1 := ⟨_, rfl⟩
        obtain ⟨Z1, hZ1⟩ : ∃ Z1, Z1dropping kk s = Z1 := ⟨_, rfl⟩
        have HS1 : Hid (S1dropping (dt.getD k 0) (bs.getD k 0) = S1) := by rw [hkk, hss]; exact hS1
        have HZ1 : Hid (Z1dropping (dt.getD k 0) (bs.getD k 0) = Z1) := by rw [hkk, hss]; exact hZ1
        have HSP : Hid (∀ W, Calls Tryz.prog 353 #[.agg #[], .int .i64 kk, .int .i64 s] W fun e w' => e = .returned (.tuple #[.int .i64 S1, .int .i64 Z1]) ∧ Below W.heap.size W w') := fun W => by rw [← hS1, ← hZ1]; exact span_dropping kk s W hkb hsb
        have hWz := unhide HWZ
        have HHR : Hid (wr.heap[w.heap.size]? = some (.cells #[] 113 (0, 0))) := (hbut.out.block _ (by omega) (by omega)).trans ((HBL.out.block _ (by omega)).trans HXH.out)
        clear hss hkk hS1 hZ1 hkb hsb hWz
        go_upto_region 5 with fail
        have HKEEP : ∀ wx, But (fun x => x = gf ∨ x = gs) wr wx → wx.cell? ⟨ba, oa + k, none⟩ = some (.int .i64 kk) := fun wx hwx => (hwx.cellAt (by omega) (by omega)).trans ck
        have z2 := HKEEP _ (But.refl _ _)
        have hhr := HHR.out
        have hmeth := meth
        go_region_held3 (fun wx => wx.cell? ⟨ba, oa + k, none⟩ = some (.int .i64 kk)) (first | exact HKEEP _ (But.refl _ _).drew | exact HKEEP _ (But.of_below HKS.out) | exact HKEEP _ ((But.of_below (S := fun x => x = gf ∨ x = gs) HKS.out).setCell (p := ⟨gf, k, none⟩) (.inl rfl) _) | exact HKEEP _ (((But.of_below (S := fun x => x = gf ∨ x = gs) HKS.out).setCell (p := ⟨gf, k, none⟩) (.inl rfl) _).setCell (p := ⟨gs, k, none⟩) (.inr rfl) _))
          (first
          | (go_at_call 353; go_loud (refine (HSP.out _).mono ?_); rintro e wS ⟨rfl, hbS⟩; have HKS : Hid (Below wr.heap.size wr wS) := (Below.refl _ wr).drew.trans hbS; clear hbS z2 hhr; have z2 := HKEEP _ (But.of_below HKS.out); have cf1 := (hf.out.below (Nat.le_refl _) HKS.out).cell (i := k) (by rw [partly_len]; exact hlt); have cf2 := (hf.out.below (Nat.le_refl _) HKS.out).free k; have cs1 := (hs.out.below (Nat.le_refl _) HKS.out).cell (i := k) (by rw [partly_len]; exact hlt); have cs2 := (hs.out.below (Nat.le_refl _) HKS.out).free k))
        all_goals go_wp2_with fail
        all_goals go_roundw
        case rel =>
          have e1 := ((hf.out.below (Nat.le_refl _) HKS.out).set k S1).other (p := ⟨gs, k, none⟩) (by show gf ≠ gs; omega) (.int .i64 Z1)
          have e2 := ((hs.out.below (Nat.le_refl _) HKS.out).other (p := ⟨gf, k, none⟩) (by show gs ≠ gf; omega) (.int .i64 S1)).set k Z1
          rw [partly_set _ _ _ _ _ _ HS1.out] at e1
          rw [partly_set _ _ _ _ _ _ HZ1.out] at e2
          exact ⟨k + 1, by omega, by go_num, e1, e2, (hbut.out.trans (((But.of_below (S := fun x => x = gf ∨ x = gs) HKS.out).setCell (p := ⟨gf, k, none⟩) (.inl rfl) _).setCell (p := ⟨gs, k, none⟩) (.inr rfl) _)).mono (by rintro x (h | h) <;> exact h)⟩
        case measure => simp [intOf]; omega
      · have e : k = L := by omega
        subst k
        have hWz := unhide HWZ
        have HBW : Hid (Below w.heap.size w wr) := HB0.out.trans ((HBL.out.trans (hbut.out.below (by have := HBL.out.size; omega) (by rintro x (rfl | rfl) <;> omega))).mono HB0.out.size)
        have HF : Hid (Blk wr gf (made S1dropping dt bs L)) := by have h := hf.out; rw [partly_all] at h; exact h
        have HG : Hid (Blk wr gs (made Z1dropping dt bs L)) := by have h := hs.out; rw [partly_all] at h; exact h
        clear hlt hk
        go_wp2_with fail
        go_ret2
        exact ⟨gf, gs, rfl, HF.out, HG.out, by omega, by omega, nfs, HBW.out⟩
end Spansdropping
end Go.Proofs.YtgjpchnkodnieaaGreatDoor
