import Derived.Test.YtngbmcljhcckmaaSpecPicks
import Derived.Test.YtngbmcljhcckmaaMMath
import Derived.Test.YtngbmcljhcckmaaCatStage
import Derived.Test.YtngbmcljhcckmaaSpecPlace
import Derived.Test.YtngbmcljhcckmaaSpecShapeOk
import Derived.Laws.AppendOwnNone
import Derived.Deep.RegionHeld3
import Derived.Deep.DeepCutAuto
namespace Go.Proofs.Ytngbmcljhcckmaa
open Go.RowKit

theorem wpList_append_some {P : Program} {w : World} {ops : Array Oper} {rest : List Oper} {o : Oper} {a : Act} {Q : Exit → Act → World → Prop} (hgd : o.guard = none) (s x : Operand) (t : TypeId)
    (ho : o.op = .call { callee := .builtin .append, args := #[s, x], argTypes := #[t, t] })
    (base : Nat) (e : TypeId) (i : TypeInfo) (z : Value) (size bytes : Nat) (ht : P.underlying t = some (.slice e)) (hi : P.info? e = some i) (hz : i.zero = some z)
    (hsize : i.size = size) (hby : i.bytes = bytes) (hzs : z.cells.size = size) (hsz : 0 < size)
    (g0 n cap0 : Nat) (xs : List Value) (hs : a.eval s = .slice (some ⟨g0, 0, none⟩) n cap0) (hown : w.ownsRow base e size (.slice (some ⟨g0, 0, none⟩) n cap0) n xs)
    (ad : Addr) (m c : Nat) (news : List Value) (hx : a.eval x = .slice (some ad) m c) (hl : news.length = m * size) (hnews : ∀ j u, news[j]? = some u → w.cell? (ad.add j) = some u) (h1 : ∀ u ∈ news, u.oneCell' = true)
    (h63 : n + m ≤ maxLen) (hbytes : (n + m) * bytes ≤ 140737488355328) (hbase : base ≤ w.heap.size)
    (h : ∀ g cap w', w'.ownsRow base e size (.slice (some ⟨g, 0, none⟩) (n + m) cap) (n + m) (xs ++ news) → w.grownBy w' (some g0) → (g = g0 ∨ g = w.heap.size) → wpList P ops Q rest (a.put o.dst (.slice (some ⟨g, 0, none⟩) (n + m) cap)) w') : wpList P ops Q (o :: rest) a w :=
  wpList_plain hgd fun _ hK => wp_append_some w s x t ho base e i z size bytes ht hi hz hsize hby hzs hsz g0 n cap0 xs hs hown ad m c news hx hl hnews h1 h63 hbytes hbase fun g cap w' h2 h3 h4 => hK _ _ (h g cap w' h2 h3 h4)

/-- Two lists of the call's own that grow side by side, made in the world Q. -/
structure Grow2 (Q w : World) (g1 c1 j1 : Nat) (z1 : List Int) (g2 c2 j2 : Nat) (z2 : List Int) : Prop where
  o1 : w.ownsRow Q.heap.size 3 1 (.slice (some ⟨g1, 0, none⟩) j1 c1) j1 (z1.map (Value.int .i64))
  o2 : w.ownsRow Q.heap.size 3 1 (.slice (some ⟨g2, 0, none⟩) j2 c2) j2 (z2.map (Value.int .i64))
  ne : g1 ≠ g2
  low : Below Q.heap.size Q w

theorem owns_ge {w : World} {base e size g n cap : Nat} {xs : List Value} (h : w.ownsRow base e size (.slice (some ⟨g, 0, none⟩) n cap) n xs) : base ≤ g := by
  rcases h.2 with ⟨h', _⟩ | ⟨g', cap', cur, h', hb, _⟩
  · simp at h'
  · cases h'; exact hb

theorem owns_keep {w w1 : World} {base e size g n cap g0 : Nat} {xs : List Value} (h : w.ownsRow base e size (.slice (some ⟨g, 0, none⟩) n cap) n xs) (hg : w.grownBy w1 (some g0)) (hne : g ≠ g0) : w1.ownsRow base e size (.slice (some ⟨g, 0, none⟩) n cap) n xs := by
  obtain ⟨h1, h2⟩ := h
  refine ⟨h1, ?_⟩
  rcases h2 with ⟨h2, _⟩ | ⟨g', cap', cur, hv, hg', hh, r⟩
  · simp at h2
  · cases hv
    exact Or.inr ⟨g, cap, cur, rfl, hg', (hg.block g (lt_of_block hh) (fun e => hne (by simpa using e))).trans hh, r⟩

theorem Grow2.alloc {Q w : World} {g1 c1 j1 g2 c2 j2 : Nat} {z1 z2 : List Int} (h : Grow2 Q w g1 c1 j1 z1 g2 c2 j2 z2) (o : Obj) : Grow2 Q (w.alloc o) g1 c1 j1 z1 g2 c2 j2 z2 :=
  ⟨owns_below h.o1 (Nat.le_refl _) ((Below.refl _ _).alloc (Nat.le_refl _) _), owns_below h.o2 (Nat.le_refl _) ((Below.refl _ _).alloc (Nat.le_refl _) _), h.ne, h.low.alloc h.low.size _⟩

theorem Grow2.start (Q : World) : Grow2 Q ((Q.alloc (.cells #[] 3)).alloc (.cells #[] 3)) Q.heap.size 0 0 [] (Q.heap.size + 1) 0 0 [] := by
  have h1 := owns_empty Q
  have h2 := owns_empty (Q.alloc (.cells #[] 3))
  refine ⟨owns_below h1 (Nat.le_refl _) ((Below.refl _ _).alloc (Nat.le_refl _) _), owns_mono (by simpa using h2) (Nat.le_succ _), by omega, ((Below.refl _ _).alloc (Nat.le_refl _) _).alloc (by simp) _⟩

theorem Grow2.push1 {Q w w1 : World} {g1 c1 j1 g2 c2 j2 g' c' m : Nat} {z1 z2 r : List Int} (h : Grow2 Q w g1 c1 j1 z1 g2 c2 j2 z2)
    (hown : w1.ownsRow Q.heap.size 3 1 (.slice (some ⟨g', 0, none⟩) (j1 + m) c') (j1 + m) (z1.map (Value.int .i64) ++ r.map (Value.int .i64))) (hg : w.grownBy w1 (some g1)) (hat : g' = g1 ∨ g' = w.heap.size) : Grow2 Q w1 g' c' (j1 + m) (z1 ++ r) g2 c2 j2 z2 := by
  have hl := owns_lt h.o2 (g := g2) rfl
  refine ⟨by rw [List.map_append]; exact hown, owns_keep h.o2 hg (fun e => h.ne e.symm), ?_, h.low.grown hg h.low.size (by intro k hk; cases hk; exact owns_ge h.o1)⟩
  rcases hat with e | e
  · rw [e]; exact h.ne
  · omega

theorem Grow2.push2 {Q w w1 : World} {g1 c1 j1 g2 c2 j2 g' c' m : Nat} {z1 z2 r : List Int} (h : Grow2 Q w g1 c1 j1 z1 g2 c2 j2 z2)
    (hown : w1.ownsRow Q.heap.size 3 1 (.slice (some ⟨g', 0, none⟩) (j2 + m) c') (j2 + m) (z2.map (Value.int .i64) ++ r.map (Value.int .i64))) (hg : w.grownBy w1 (some g2)) (hat : g' = g2 ∨ g' = w.heap.size) : Grow2 Q w1 g1 c1 j1 z1 g' c' (j2 + m) (z2 ++ r) := by
  have hl := owns_lt h.o1 (g := g1) rfl
  refine ⟨owns_keep h.o1 hg h.ne, by rw [List.map_append]; exact hown, ?_, h.low.grown hg h.low.size (by intro k hk; cases hk; exact owns_ge h.o2)⟩
  rcases hat with e | e
  · rw [e]; exact h.ne
  · omega

theorem Grow2.rows {Q w : World} {g1 c1 j1 g2 c2 j2 : Nat} {z1 z2 : List Int} (h : Grow2 Q w g1 c1 j1 z1 g2 c2 j2 z2) (h1 : j1 ≤ 10000) (h2 : j2 ≤ 10000) : Row w (some ⟨g1, 0, none⟩) j1 z1 ∧ Row w (some ⟨g2, 0, none⟩) j2 z2 := by
  obtain ⟨a, c, e, ho⟩ := Own.of_owns h.o1 (by omega)
  cases e
  obtain ⟨a, c, e, ho'⟩ := Own.of_owns h.o2 (by omega)
  cases e
  exact ⟨ho.row, ho'.row⟩

/-- What l5Where gives: the places and the shape. -/
def Placed (w' : World) (v u : Value) (N : Nat) (wh zs : List Int) : Prop := ∃ ga ca gb nb cb, v = .slice (some ⟨ga, 0, none⟩) N ca ∧ u = .slice (some ⟨gb, 0, none⟩) nb cb ∧ N ≤ ca ∧ nb ≤ cb ∧ Row w' (some ⟨ga, 0, none⟩) N wh ∧ Row w' (some ⟨gb, 0, none⟩) nb zs

theorem owns_cap {w : World} {base e size g n cap : Nat} {xs : List Value} (h : w.ownsRow base e size (.slice (some ⟨g, 0, none⟩) n cap) n xs) : n ≤ cap := by
  rcases h.2 with ⟨h', _⟩ | ⟨g', cap', cur, h', _, _, hn, _⟩
  · simp at h'
  · cases h'; exact hn

theorem len_pk {sh : List Int} {ps : List PartD} {w : World} {s : Option Addr} {m k : Nat} (h : Row w s m (pk sh ps k)) : (pDt sh ps k).length = m := by
  have := h.len
  simpa [pk] using this

set_option maxRecDepth 20000 in
set_option maxHeartbeats 8000000 in
theorem l5Where_any (c : Bool) (a1 : Option Addr) (n1 c1 : Nat) (a2 : Option Addr) (n2 c2 : Nat) (ap : Option Addr) (np cp : Nat) (sh : List Int) (ps : List PartD) (w : World) (h1 : Row w a1 n1 sh) (hp : PRowN w ap np ps) (hs : ShapeIn sh) (h5 : n1 ≤ 5) (code : Int) (hcode : Hid (partsCode sh ps = code)) (N : Nat) (hN : code = 0 → prodAll (pSh sh ps) = (N : Int)) :
    Calls Try.prog 78 #[.agg #[.bool c, .slice a1 n1 c1, .slice a2 n2 c2], .slice ap np cp] w fun e w' => ∃ v u, e = .returned (.tuple #[v, u, .int .i64 code]) ∧ Below w.heap.size w w' ∧ (code = 0 → Placed w' v u N (whereL sh ps N) (pSh sh ps)) := by
  obtain ⟨pcode, hpc⟩ : ∃ x, picksCode sh ps = x := ⟨_, rfl⟩
  have HPC := hide hpc
  have HNN := hide hN
  have H1 := hide h1
  have HP := hide hp
  have HSH := hide hs
  have hlp := hp.row.len
  clear hpc hN h1 hp hs
  obtain ⟨i0, hi, hz0, hz1, hz2⟩ := info_parts info_int
  go_enter Try.func78, Try.ntmps78
  go_wp2_with fail
  refine (l5Picks_any _ _ _ _ _ _ _ _ _ _ sh ps _ (by exact (unhide H1).alloc _) (by exact ((unhide HP).alloc _).row) (unhide HSH) h5 pcode HPC).mono ?_
  rintro e Q ⟨v, rfl, hbQ, hpk⟩
  have HQW : Hid (Below w.heap.size w Q) := ((Below.refl _ _).alloc (Nat.le_refl _) _).trans (hbQ.mono (by simp))
  obtain ⟨p, hpw⟩ : ∃ x, x = w.heap.size := ⟨_, rfl⟩
  have HQX : Hid (Box Q p c (.slice a1 n1 c1) (.slice a2 n2 c2)) := by rw [hpw]; exact (Box.new w _ _ _).below (Nat.le_refl _) hbQ
  have HQ1 : Hid (Row Q a1 n1 sh) := (unhide H1).below (Nat.le_refl _) (unhide HQW)
  have HQP : Hid (PRowN Q ap np ps) := (unhide HP).below (Nat.le_refl _) (unhide HQW)
  have HPK := hide hpk
  have hpq : p < Q.heap.size := (unhide HQX).lt
  rw [← hpw]
  have hpw' := hide hpw
  clear hbQ hpk hpw H1 HP
  by_cases hp0 : pcode = 0
  case neg =>
    obtain rfl : code = pcode := by rw [← unhide hcode]; exact parts_code (unhide HPC) hp0
    have hb : (code != 0) = true := by simp [hp0]
    have HNE := hide hp0
    clear hp0 HPK
    go_wp2_with fail
    refine bodyPost_ret (v := .tuple #[.slice (some ⟨Q.heap.size + 1, 0, none⟩) 0 0, .slice (some ⟨Q.heap.size, 0, none⟩) 0 0, .int .i64 code]) (by simp [results, Try.results78, go_sem]) rfl ⟨_, _, rfl, ((unhide HQW).alloc (unhide HQW).size _).alloc (by have := (unhide HQW).size; simp; omega) _, fun h => absurd h (unhide HNE)⟩
  subst hp0
  obtain ⟨g, cap, xs, rfl, hli⟩ := unhide HPK rfl
  have hpo := picks_ok (unhide HPC)
  have hnp : np = n1 := by rw [← hlp, hpo.len, (unhide HQ1).len]
  subst hnp
  have HLI := hide hli
  have HPO := hide hpo
  clear HPK hli hpo
  have HST := hide (Grow2.start Q)
  go_wp2_with fail
  go_loopw [9, 10, 11] (fun v9 v10 i wr => ∃ (k g1 e1 j1 g2 e2 : Nat), k ≤ np ∧ i = .int .i64 k ∧ v9 = .slice (some ⟨g1, 0, none⟩) j1 e1 ∧ v10 = .slice (some ⟨g2, 0, none⟩) k e2 ∧ j1 ≤ 5 * k ∧ Hid (Grow2 Q wr g1 e1 j1 (pShN sh ps k) g2 e2 k (pCnN sh ps k))) (fun _ _ i _ => np - (intOf i).toNat)
  case atStart => exact ⟨0, _, _, _, _, _, Nat.zero_le _, rfl, rfl, rfl, Nat.zero_le _, unhide HST⟩
  case round =>
    obtain ⟨k, g1, e1, j1, g2, e2, hk, rfl, rfl, rfl, hj1, HG⟩ := hrel
    clear HST
    by_cases hlt : k < np
    case pos =>
      obtain ⟨b, off, rfl, hbs, s1, m1, d1, s2, m2, d2, x1, x2, x3, x4, x5, x6⟩ := (((unhide HQP).below (Nat.le_refl _) (unhide HG).low)).row.get hlt
      obtain ⟨sl, ml, cl, xl, xr, _⟩ := ((unhide HLI).below (Nat.le_refl _) (unhide HG).low).get hlt
      have hml : (pDt sh ps k).length = ml := len_pk xr
      have HC2 : Hid (pCnN sh ps (k + 1) = pCnN sh ps k ++ [(ml : Int)]) := by show _ = _; rw [pCnN_succ, hml]
      have X5 := hide x5
      have hm1 := x5.len
      have hcodek := (unhide HPO).code k (by rw [hlp]; exact hlt)
      have hgz := (unhide HG).low.size
      clear x2 x4 x5 x6 xr hml
      go_upto_region 10 with (at_builtin; refine wpList_append_some rfl _ _ 22 rfl Q.heap.size 3 i0 (.int .i64 0) 1 8 Try.underlying22 hi hz0 hz1 hz2 rfl (by decide) g2 k e2 ((pCnN sh ps k).map (Value.int .i64)) rfl ((unhide HG).alloc _).o2 ⟨wr.heap.size, 0, none⟩ 1 1 [.int .i64 ml] rfl rfl (cells_new _ _) (one_one _) (by unfold maxLen; omega) (by omega) (by simp; omega) ?_; intro g2' e2' w7 hown' hgrow hat; have HG7 := hide (((unhide HG).alloc _).push2 (r := [(ml : Int)]) hown' hgrow hat); clear hgrow hat hown')
      rw [← unhide HC2] at HG7
      have hz7 := (unhide HG7).low.size
      clear HG HC2 x1 x3 xl hbs hgz
      obtain ⟨b', off', hbo, hbs, s1', m1', d1', s2', m2', d2', x1, x2, x3, x4, x5, x6⟩ := (((unhide HQP).below (Nat.le_refl _) (unhide HG7).low)).row.get hlt
      cases hbo
      have hnn := ((unhide HQP).below (Nat.le_refl _) (unhide HG7).low).nn b off rfl hbs k hlt
      clear X5 hm1
      have hm1 := x5.len
      have X5 := hide x5
      clear x2 x4 x5 x6
      obtain ⟨pa, hpa⟩ : ∃ x, x = (part ps k).all := ⟨_, rfl⟩
      rw [← hpa] at x1 hnn
      cases pa with
      | true =>
        clear hnn X5
        have hnil : pShN sh ps (k + 1) = pShN sh ps k ++ [sh.getD k 0] := by rw [pShN_succ, pickSh_all hpa.symm]
        obtain ⟨b1, o1, rfl, hb1, hcl⟩ := ((unhide HQ1).below (Nat.le_refl _) (unhide HG7).low).get hlt
        obtain ⟨y0, y1, y2, y3, y4, y5, y6⟩ := ((unhide HQX).below (Nat.le_refl _) (unhide HG7).low).free'
        obtain ⟨L, hL⟩ : ∃ L, L = sh.getD k 0 := ⟨_, rfl⟩
        rw [← hL] at hcl hnil
        have HNIL := hide hnil
        clear hnil hL hpa hm1 hcodek
        go_wp2_with (at_builtin; refine wpList_append_some rfl _ _ 22 rfl Q.heap.size 3 i0 (.int .i64 0) 1 8 Try.underlying22 hi hz0 hz1 hz2 rfl (by decide) g1 j1 e1 ((pShN sh ps k).map (Value.int .i64)) rfl ((unhide HG7).alloc _).o1 ⟨w7.heap.size, 0, none⟩ 1 1 [.int .i64 L] rfl rfl (cells_new _ _) (one_one _) (by unfold maxLen; omega) (by omega) (by simp; omega) ?_; intro g1' e1' w8 hown' hgrow hat; have HG8 := hide (((unhide HG7).alloc _).push1 (r := [L]) hown' hgrow hat); clear hgrow hat hown')
        rw [← unhide HNIL] at HG8
        go_roundw
        case rel => exact ⟨k + 1, g1', e1', j1 + 1, g2', e2', by omega, by go_num, rfl, rfl, by omega, unhide HG8⟩
        case measure => simp [intOf]; omega
      | false =>
        obtain ⟨ad, mm, cc, hcc⟩ := hnn rfl
        rw [x3] at hcc
        simp only [Option.some.injEq, Value.slice.injEq] at hcc
        obtain ⟨rfl, rfl, rfl⟩ := hcc
        have h5k : (part ps k).sh.length ≤ 5 := by have := pick_five hcodek; rwa [pickSh_not hpa.symm] at this
        rw [hm1] at h5k
        have HNIL : Hid (pShN sh ps (k + 1) = pShN sh ps k ++ (part ps k).sh) := by show _ = _; rw [pShN_succ, pickSh_not hpa.symm]
        have HML := hide hm1
        clear hpa hm1 hcodek
        go_wp2_with (at_builtin; refine wpList_append_some rfl _ _ 22 rfl Q.heap.size 3 i0 (.int .i64 0) 1 8 Try.underlying22 hi hz0 hz1 hz2 rfl (by decide) g1 j1 e1 ((pShN sh ps k).map (Value.int .i64)) rfl (unhide HG7).o1 ad m1' d1' ((part ps k).sh.map (Value.int .i64)) rfl (by simpa using unhide HML) (cells_ints (unhide X5)) (one_ints _) (by unfold maxLen; omega) (by omega) (by omega) ?_; intro g1' e1' w8 hown' hgrow hat; have HG8 := hide ((unhide HG7).push1 hown' hgrow hat); clear hgrow hat hown')
        rw [← unhide HNIL] at HG8
        go_roundw
        case rel => exact ⟨k + 1, g1', e1', j1 + m1', g2', e2', by omega, by go_num, rfl, rfl, by omega, unhide HG8⟩
        case measure => simp [intOf]; omega
    have hkn : k = np := by omega
    subst hkn
    have hpsn : ps.length = k := hlp
    have HG2 : Hid (Grow2 Q wr g1 e1 j1 (pSh sh ps) g2 e2 k (pCn sh ps)) := by show Grow2 _ _ _ _ _ _ _ _ _ _; unfold pSh pCn; rw [hpsn]; exact unhide HG
    obtain ⟨hr1, hr2⟩ := (unhide HG2).rows (by omega) (by omega)
    have HR1 := hide hr1
    have HR2 := hide hr2
    clear HG hr1 hr2 hlt hpsn
    obtain ⟨ok, hok⟩ : ∃ x, shapeB (pSh sh ps) = x := ⟨_, rfl⟩
    have HOK := hide hok
    clear hok
    have HB4 : Hid (Below w.heap.size w wr) := (unhide HQW).trans ((unhide HG2).low.mono (unhide HQW).size)
    go_wp2_with fail
    refine (l3ShapeOk_eq _ _ _ (pSh sh ps) _ (by exact unhide HR1) ok HOK).mono ?_
    rintro e wq ⟨rfl, hwq⟩
    obtain rfl := hwq.symm
    cases ok with
    | false =>
      obtain rfl : code = 7 := by rw [← unhide hcode]; exact parts_seven (unhide HPC) (unhide HOK)
      go_wp2_with fail
      refine bodyPost_ret (v := .tuple #[.slice (some ⟨g2, 0, none⟩) k e2, .slice (some ⟨g1, 0, none⟩) j1 e1, .int .i64 7]) (by simp [results, Try.results78, go_sem]) rfl ⟨_, _, rfl, unhide HB4, fun h => by omega⟩
    | true =>
      obtain rfl : code = 0 := by rw [← unhide hcode]; exact parts_zero (unhide HPC) (unhide HOK)
      have hNv := unhide HNN rfl
      have HCI := hide (counts_in (unhide HPO) (unhide HSH) (unhide HOK))
      have hNb : N ≤ 10000 := by have := (unhide HCI).2.2; omega
      have HCN : Hid (countOf (pSh sh ps) = (N : Int)) := by show _ = _; rw [← prodAll_count _ (unhide HOK)]; exact hNv
      have HNV := hide hNv
      clear hNv HNN hcode
      have HWX : Hid (Box wr p c (.slice a1 k c1) (.slice a2 n2 c2)) := (unhide HQX).below (Nat.le_refl _) (unhide HG2).low
      have HW1 : Hid (Row wr a1 k sh) := (unhide HQ1).below (Nat.le_refl _) (unhide HG2).low
      have HWL : Hid (Lists (w.alloc (.cells #[.bool c, .slice a1 k c1, .slice a2 n2 c2] 26)) wr g cap k xs (pk sh ps)) := (unhide HLI).below (Nat.le_refl _) (unhide HG2).low
      have hj1c := owns_cap (unhide HG2).o1
      have HGR := hide (Grows.start wr)
      clear HQX HQ1 HQP HLI HG2 HQW hpw' hpq
      obtain ⟨Y, hY⟩ : ∃ x, x = wr := ⟨_, rfl⟩
      subst hY
      go_wp2_with fail
      refine (l3Count_eq _ _ _ (pSh sh ps) _ (by exact (unhide HR1).alloc _) N HCN).mono ?_
      rintro e wq ⟨rfl, hwq⟩
      obtain rfl := hwq.symm
      clear HCN
      go_wp2_with fail
      go_loopw [12, 14] (fun v12 i wr => ∃ (t g3 e3 : Nat), t ≤ N ∧ i = .int .i64 t ∧ v12 = .slice (some ⟨g3, 0, none⟩) t e3 ∧ Hid (Grows Y wr g3 e3 t (whereL sh ps t))) (fun _ i _ => N - (intOf i).toNat)
      case atStart => exact ⟨0, _, _, Nat.zero_le _, rfl, rfl, unhide HGR⟩
      case round =>
        obtain ⟨t, g3, e3, ht, rfl, rfl, HGW⟩ := hrel
        clear HGR
        by_cases htl : t < N
        case neg =>
          have htn : t = N := by omega
          subst htn
          go_wp2_with fail
          refine bodyPost_ret (v := .tuple #[.slice (some ⟨g3, 0, none⟩) t e3, .slice (some ⟨g1, 0, none⟩) j1 e1, .int .i64 0]) (by simp [results, Try.results78, go_sem]) rfl ⟨_, _, rfl, (unhide HB4).trans ((unhide HGW).low.mono (unhide HB4).size), ⟨_, _, _, _, _, rfl, rfl, owns_cap (unhide HGW).own, hj1c, (unhide HGW).row (by omega), (unhide HR1).below (Nat.le_refl _) (unhide HGW).low⟩⟩
        obtain ⟨hIn, hw0, hw1⟩ := where_bd (unhide HPO) (unhide HSH) (unhide HOK) (t := t) (by rw [unhide HNV]; omega)
        have HIN := hide hIn
        have hfull : Full (pCn sh ps) := full_of (unhide HCI).1 (by rw [(unhide HCI).2.1, unhide HNV]; omega)
        have HFU := hide hfull
        obtain ⟨wv, hwv⟩ : ∃ x, x = whereAt sh ps t := ⟨_, rfl⟩
        have HWV := hide hwv
        clear hIn hw0 hw1 hfull hwv
        obtain ⟨Z, hZ⟩ : ∃ x, x = wr := ⟨_, rfl⟩
        subst hZ
        go_wp2_with fail
        refine (l5Index_any _ _ _ (pCn sh ps) _ _ (by exact (unhide HR2).below (Nat.le_refl _) (unhide HGW).low) (by omega) (fun x => ((unhide HCI).1.cell x).2) (unhide HFU) (by omega) (by omega)).mono ?_
        rintro e w5 ⟨rfl, hbk, hb5⟩
        obtain ⟨ib, hib⟩ : ∃ x, x = Z.heap.size := ⟨_, rfl⟩
        rw [← hib] at hbk ⊢
        obtain ⟨D, hD⟩ : ∃ x, x = digits (pCn sh ps) t := ⟨_, rfl⟩
        have HMZ : Hid (mixN (pNum sh ps) D k 0 = D) := by
          have hln : (pCn sh ps).length = k := by rw [pCn_len]; exact hlp
          rw [hD, ← hln]; exact mixN_zero _ _ _
        rw [← hD] at hbk
        rw [← hD] at HIN
        have HDD := hide hD
        have HBK := hide hbk
        have HG5 : Hid (Grows Y w5 g3 e3 t (whereL sh ps t)) := ⟨owns_below (unhide HGW).own (Nat.le_refl _) hb5, (unhide HGW).low.trans (hb5.mono (unhide HGW).low.size)⟩
        have hyi : Y.heap.size ≤ ib := by rw [hib]; exact (unhide HGW).low.size
        have hg3 : g3 < ib := by rw [hib]; exact owns_lt (unhide HGW).own rfl
        have HYZ : Hid (Y.heap.size ≤ Z.heap.size) := (unhide HGW).low.size
        clear hbk hb5 hib hD HGW HYZ
        clear Z
        go_wp2_with fail
        go_loopw [16] (fun i wr => ∃ (q : Nat), q ≤ k ∧ i = .int .i64 q ∧ Hid (Blk wr ib (mixN (pNum sh ps) D k q) ∧ But (fun x => x = ib) w5 wr)) (fun i _ => k - (intOf i).toNat)
        case atStart => exact ⟨0, Nat.zero_le _, rfl, by rw [unhide HMZ]; exact unhide HBK, But.refl _ _⟩
        case round =>
          obtain ⟨q, hq, rfl, HX⟩ := hrel
          have hbut := (unhide HX).2
          have HB := hide (unhide HX).1
          have HBT := hide hbut
          have HG6 : Hid (Grows Y wr g3 e3 t (whereL sh ps t)) := by
            refine ⟨?_, (unhide HG5).low.trans (hbut.below (unhide HG5).low.size (fun x hx => by rw [hx]; exact hyi))⟩
            obtain ⟨o1, o2⟩ := (unhide HG5).own
            refine ⟨o1, ?_⟩
            rcases o2 with o2 | ⟨g', cap', cur, hv, hg', hh, r⟩
            · exact Or.inl o2
            · exact Or.inr ⟨g', cap', cur, hv, hg', (hbut.block g' (lt_of_block hh) (fun e => by cases hv; omega)).trans hh, r⟩
          have hlb := (unhide HB).lt
          clear HX hbut
          by_cases hql : q < k
          · obtain ⟨sl, ml, cl, xl, xr, _⟩ := ((unhide HWL).below (Nat.le_refl _) (unhide HG6).low).get hql
            obtain ⟨hd0, hd1, _, _⟩ := num_in (unhide HPO) (unhide HIN) (i := q) (by rw [(unhide HW1).len]; exact hql)
            obtain ⟨dn, hdn⟩ : ∃ x : Nat, D.getD q 0 = x := ⟨(D.getD q 0).toNat, by omega⟩
            rw [hdn] at hd1
            have hdm : dn < ml := by rw [← len_pk xr]; simpa using hd1
            obtain ⟨b7, o7, rfl, hb7, hc7⟩ := xr.get hdm
            have hval : (pk sh ps q).getD dn 0 = pNum sh ps D q := by
              have hd1' : dn < (pDt sh ps q).length := by simpa using hd1
              unfold pk pNum
              rw [hdn]
              simp [hd1']
            rw [hval] at hc7
            obtain ⟨u, hu⟩ : ∃ x, x = pNum sh ps D q := ⟨_, rfl⟩
            rw [← hu] at hc7
            have hci := (unhide HB).cell (i := q) (by rw [mixN_len]; exact hql)
            rw [mixN_get _ _ hql, hdn] at hci
            have hfi := (unhide HB).free q
            have HSTEP : Hid (Blk (wr.setCell ⟨ib, q, none⟩ (.int .i64 u)) ib (mixN (pNum sh ps) D k (q + 1))) := by
              have := (unhide HB).set q u
              rw [hu, mixN_step, ← hu] at this
              exact this
            have hml := xr.small
            clear xr hd0 hd1 hdn hval hu hb7
            go_wp2_with fail
            go_region
            all_goals go_wp2_with fail
            all_goals (go_roundw; (case rel => exact ⟨q + 1, by omega, by go_num, unhide HSTEP, ((unhide HBT).setCell (p := ⟨ib, q, none⟩) rfl _).drew⟩); (case measure => simp [intOf]; omega))
          · have hqn : q = k := by omega
            subst hqn
            have HMX : Hid (mixN (pNum sh ps) D q q = meant sh (pNum sh ps) D) := mixN_all _ _ _ (unhide HW1).len
            have HMR : Hid (Row wr (some ⟨ib, 0, none⟩) q (meant sh (pNum sh ps) D)) := by rw [← unhide HMX]; exact (unhide HB).row (mixN_len _ _ _ _) (by omega)
            have HPL : Hid (place sh (meant sh (pNum sh ps) D) = wv) := by rw [unhide HWV, unhide HDD]; rfl
            have HMI : Hid (IxIn sh (meant sh (pNum sh ps) D)) := meant_in (unhide HPO) (unhide HIN)
            obtain ⟨y0, y1, y2, y3, y4, y5, y6⟩ := ((unhide HWX).below (Nat.le_refl _) (unhide HG6).low).free'
            clear HMX HB HBT HG5 HMZ HBK hql
            obtain ⟨V, hV⟩ : ∃ x, x = wr := ⟨_, rfl⟩
            subst hV
            go_wp2_with fail
            refine (l5At_any _ _ _ _ _ _ sh _ _ (by exact (unhide HW1).below (Nat.le_refl _) (unhide HG6).low) (by exact unhide HMR) (Nat.le_refl _) (unhide HSH) (unhide HMI)).mono ?_
            rintro e w6 ⟨rfl, hb6⟩
            rw [unhide HPL]
            have HG8 : Hid (Grows Y w6 g3 e3 t (whereL sh ps t)) := ⟨owns_below (unhide HG6).own (Nat.le_refl _) hb6, (unhide HG6).low.trans (hb6.mono (unhide HG6).low.size)⟩
            have HWS : Hid (whereL sh ps (t + 1) = whereL sh ps t ++ [wv]) := by rw [unhide HWV]; exact whereL_succ _ _ _
            clear hb6 HG6 HMR HPL HMI y0 y1 y2 y3 y4 y5 y6 hlb
            clear V
            have hgz := (unhide HG8).low.size
            go_wp2_with (at_builtin; refine wpList_append_lies _ rfl _ _ 22 rfl Y.heap.size 3 i0 (.int .i64 0) 1 8 Try.underlying22 hi hz0 hz1 hz2 rfl (by decide) _ _ _ rfl (owns_below (unhide HG8).own (Nat.le_refl _) ((Below.refl _ _).alloc (Nat.le_refl _) _)) ⟨w6.heap.size, 0, none⟩ 1 1 [.int .i64 wv] rfl rfl (cells_new _ _) (one_one _) (by omega) (by unfold maxLen; omega) (by omega) (by simp; omega) (w6.heap.size + 1) (by simp) ?_; intro g' cap' w7 hown' hgrow hat hlt7; have HG9 := hide ((unhide HG8).push _ (unhide HWS) hown' hgrow); clear hgrow hat hown' hlt7)
            go_roundw
            case rel => exact ⟨t + 1, g', cap', by omega, by go_num, rfl, unhide HG9⟩
            case measure => simp [intOf]; omega

end Go.Proofs.Ytngbmcljhcckmaa
