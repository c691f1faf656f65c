import Derived.Test.YtngbmcljhcckmaaPRows
import Derived.Test.YtngbmcljhcckmaaMBase
import Derived.Test.YtngbmcljhcckmaaMBase
import Derived.Test.YtngbmcljhcckmaaMBase
import Derived.Test.YtngbmcljhcckmaaMBase
import Derived.Test.YtngbmcljhcckmaaGives
import Derived.Deep.AppendLies
import Derived.BigQuiet
namespace Go.Proofs.Ytngbmcljhcckmaa
open Go.RowKit

theorem info_ints : (Try.prog.info? 22).map (fun i => (i.zero, i.size, i.bytes)) = some (some (.slice none 0 0), 1, 24) := by kernel_rfl

/-- The places that part i picks, from 0 on. -/
def pk (sh : List Int) (ps : List PartD) (i : Nat) : List Int := (pDt sh ps i).map fun x => x - 1

/-- k lists lie in a slice of the call's own in block g. -/
structure Lists (W w : World) (g cap k : Nat) (xs : List Value) (L : Nat → List Int) : Prop where
  own : w.ownsRow W.heap.size 22 1 (.slice (some ⟨g, 0, none⟩) k cap) k xs
  rows : ∀ i, i < k → ∃ s m c, xs[i]? = some (.slice s m c) ∧ Row w s m (L i) ∧ ¬ At s m g
  low : Below W.heap.size W w

theorem owns_cell {w : World} {base e g n cap i : Nat} {xs : List Value} (h : w.ownsRow base e 1 (.slice (some ⟨g, 0, none⟩) n cap) n xs) (hi : i < n) : w.cell? ⟨g, i, none⟩ = xs[i]? := by
  rcases h.2 with ⟨h', _⟩ | ⟨g', cap', cur, h', _, hg, _, _, hs, ht⟩
  · simp at h'
  · simp only [Value.slice.injEq, Option.some.injEq, Addr.mk.injEq, and_true, true_and] at h'
    obtain ⟨rfl, rfl⟩ := h'
    rw [← ht, List.getElem?_take, if_pos (by omega)]
    simp [World.cell?, hg]

theorem Lists.get {W w : World} {g cap k i : Nat} {xs : List Value} {L : Nat → List Int} (h : Lists W w g cap k xs L) (hi : i < k) : ∃ s m c, w.cell? ⟨g, i, none⟩ = some (.slice s m c) ∧ Row w s m (L i) ∧ ¬ At s m g := by
  obtain ⟨s, m, c, hx, hr, hn⟩ := h.rows i hi
  exact ⟨s, m, c, (owns_cell h.own hi).trans hx, hr, hn⟩

theorem Lists.lt {W w : World} {g cap k : Nat} {xs : List Value} {L : Nat → List Int} (h : Lists W w g cap k xs L) : g < w.heap.size := owns_lt h.own rfl

theorem Lists.ge {W w : World} {g cap k : Nat} {xs : List Value} {L : Nat → List Int} (h : Lists W w g cap k xs L) : W.heap.size ≤ g := by
  rcases h.own.2 with ⟨h', _⟩ | ⟨g', cap', cur, h', hb, _⟩
  · simp at h'
  · cases h'; exact hb

theorem Lists.below {W w w' : World} {g cap k B : Nat} {xs : List Value} {L : Nat → List Int} (h : Lists W w g cap k xs L) (hB : w.heap.size ≤ B) (hb : Below B w w') : Lists W w' g cap k xs L :=
  ⟨owns_below h.own hB hb, fun i hi => by
    obtain ⟨s, m, c, hx, hr, hn⟩ := h.rows i hi
    exact ⟨s, m, c, hx, hr.below hB hb, hn⟩, h.low.trans (hb.mono (Nat.le_trans h.low.size hB))⟩

theorem But.of_grown {w w1 : World} {g : Nat} (o : Obj) (h : (w.alloc o).grownBy w1 (some g)) : But (fun x => x = g) w w1 :=
  ⟨h.os, h.tape, h.output, Nat.le_trans (by simp) h.size, fun k hk hn => (h.block k (by simp; omega) (fun e => hn (by simpa using e))).trans (Below.heap_alloc w o k hk)⟩

theorem Lists.push {W w w1 : World} {g cap k g' cap' m c : Nat} {s : Option Addr} {xs : List Value} {L : Nat → List Int} {zs : List Int} (o : Obj) (h : Lists W w g cap k xs L) (hr : Row w s m zs) (hz : L k = zs) (hn : ¬ At s m g)
    (hown : w1.ownsRow W.heap.size 22 1 (.slice (some ⟨g', 0, none⟩) (k + 1) cap') (k + 1) (xs ++ [.slice s m c])) (hg : (w.alloc o).grownBy w1 (Value.ownBlock (.slice (some ⟨g, 0, none⟩) k cap))) (hat : Value.ownBlock (.slice (some ⟨g, 0, none⟩) k cap) = some g' ∨ g' = w.heap.size + 1) :
    Lists W w1 g' cap' (k + 1) (xs ++ [.slice s m c]) L := by
  have hg1 : (w.alloc o).grownBy w1 (some g) := hg
  have hb := But.of_grown o hg1
  have hl : xs.length = k := by simpa using h.own.1
  have hne : ∀ (s' : Option Addr) (m' : Nat) (zs' : List Int), Row w s' m' zs' → ¬ At s' m' g → ¬ At s' m' g' := fun s' m' zs' hr' hn' hh => by
    rcases hat with e | e
    · have e' : g = g' := by simpa [Value.ownBlock] using e
      rw [← e'] at hh; exact hn' hh
    · have := hr'.hi hh; omega
  refine ⟨hown, fun i hi => ?_, h.low.trans (hb.below h.low.size (fun k hk => by rw [hk]; exact h.ge))⟩
  by_cases e : i = k
  · subst e
    exact ⟨s, m, c, by simp [hl], by rw [hz]; exact hb.row hr (fun x hx hh => hn (by rw [← hx]; exact hh)), hne _ _ _ hr hn⟩
  · obtain ⟨s', m', c', hx, hr', hn'⟩ := h.rows i (by omega)
    exact ⟨s', m', c', by rw [List.getElem?_append_left (by omega)]; exact hx, hb.row hr' (fun x hx hh => hn' (by rw [← hx]; exact hh)), hne _ _ _ hr' hn'⟩

/-- The slice v holds n lists. -/
def Picked (W w : World) (v : Value) (n : Nat) (L : Nat → List Int) : Prop := ∃ g cap xs, v = .slice (some ⟨g, 0, none⟩) n cap ∧ Lists W w g cap n xs L

theorem owns_emptyT (w : World) : (w.alloc (.cells #[] 22)).ownsRow w.heap.size 22 1 (.slice (some ⟨w.heap.size, 0, none⟩) 0 0) 0 [] := by
  refine ⟨by simp, .inr ⟨w.heap.size, 0, #[], rfl, Nat.le_refl _, ?_, by simp, by unfold maxLen; omega, by simp, by simp⟩⟩
  show (w.heap.push _)[w.heap.size]? = _
  simp

theorem one_slice (s : Option Addr) (m c : Nat) : ∀ u ∈ ([.slice s m c] : List Value), u.oneCell' = true := by intro u hu; simp at hu; subst hu; rfl
theorem cells_slice (w : World) (s : Option Addr) (m c : Nat) : ∀ (j : Nat) u, ([.slice s m c] : List Value)[j]? = some u → (w.alloc (.cells #[.slice s m c] 22)).cell? ((⟨w.heap.size, 0, none⟩ : Addr).add j) = some u := by
  intro j u hj
  match j, hj with
  | 0, hj => simp at hj; subst hj; simp [Addr.add]

/-- An own list of numbers that grows, made in the world Q. -/
structure Grows (Q w : World) (g cap j : Nat) (zs : List Int) : Prop where
  own : w.ownsRow Q.heap.size 3 1 (.slice (some ⟨g, 0, none⟩) j cap) j (zs.map (Value.int .i64))
  low : Below Q.heap.size Q w

theorem Grows.start (Q : World) : Grows Q (Q.alloc (.cells #[] 3)) Q.heap.size 0 0 [] := ⟨owns_empty Q, (Below.refl _ _).alloc (Nat.le_refl _) _⟩

theorem Grows.ge {Q w : World} {g cap j : Nat} {zs : List Int} (h : Grows Q w g cap j zs) : Q.heap.size ≤ g := by
  rcases h.own.2 with ⟨h', _⟩ | ⟨g', cap', cur, h', hb, _⟩
  · simp at h'
  · cases h'; exact hb

theorem Grows.row {Q w : World} {g cap j : Nat} {zs : List Int} (h : Grows Q w g cap j zs) (hj : j ≤ 17592186044416) : Row w (some ⟨g, 0, none⟩) j zs := by
  obtain ⟨a, c, e, ho⟩ := Own.of_owns h.own hj
  cases e
  exact ho.row

theorem Grows.push {Q w w1 : World} {g cap j g' cap' : Nat} {zs zs' : List Int} {x : Int} (o : Obj) (h : Grows Q w g cap j zs) (hz : zs' = zs ++ [x])
    (hown : w1.ownsRow Q.heap.size 3 1 (.slice (some ⟨g', 0, none⟩) (j + 1) cap') (j + 1) (zs.map (Value.int .i64) ++ [.int .i64 x])) (hg : (w.alloc o).grownBy w1 (Value.ownBlock (.slice (some ⟨g, 0, none⟩) j cap))) :
    Grows Q w1 g' cap' (j + 1) zs' := by
  refine ⟨by rw [hz]; simpa using hown, h.low.trans (below_append o h.own h.low.size hg)⟩

theorem picks_found {sh : List Int} {ps : List PartD} {k : Nat} {r : Int} (hl : ps.length = sh.length) (h : firstCode (pcAt sh ps) k = 0) (hk : k < ps.length) (hr : pickCode (part ps k) (sh.getD k 0) = r) (h0 : r ≠ 0) : picksCode sh ps = r := by
  unfold picksCode
  rw [if_pos hl, code_found h hk (by show pickCode _ _ ≠ 0; rw [hr]; exact h0)]
  exact hr

theorem arr_elem {c : Bool} {sh dt : List Int} (h : arrOk c sh dt = true) {k : Nat} (hk : k < dt.length) : -1000000000000000 ≤ dt.getD k 0 ∧ dt.getD k 0 ≤ 1000000000000000 := by
  unfold arrOk at h
  simp only [Bool.and_eq_true, decide_eq_true_eq] at h
  have h3 := List.all_eq_true.1 h.2.2 (dt.getD k 0) (by simp [hk])
  unfold dataOk at h3
  simp only [Bool.and_eq_true, decide_eq_true_eq] at h3
  exact h3.2

theorem take_pred (zs : List Int) (j : Nat) (h : j < zs.length) : (zs.take (j + 1)).map (fun x => x - 1) = (zs.take j).map (fun x => x - 1) ++ [zs.getD j 0 - 1] := by
  rw [take_snoc zs j h]; simp

def upZ (j : Nat) : List Int := (List.range j).map fun (i : Nat) => (i : Int)
theorem upZ_succ (j : Nat) : upZ (j + 1) = upZ j ++ [(j : Int)] := by simp [upZ, List.range_succ]
theorem upZ_up (L : Nat) : (upTo L).map (fun x => x - 1) = upZ L := by
  unfold upTo upZ
  rw [List.map_map]
  exact map_range_eq fun i _ => by simp

set_option maxRecDepth 20000 in
set_option maxHeartbeats 8000000 in
theorem l5Picks_any (c : Bool) (a1 : Option Addr) (n1 c1 : Nat) (a2 : Option Addr) (n2 c2 : Nat) (ap : Option Addr) (np cp : Nat) (sh : List Int) (ps : List PartD) (w : World) (h1 : Row w a1 n1 sh) (hp : PRow w ap np ps) (hs : ShapeIn sh) (h5 : n1 ≤ 5) (code : Int) (hcode : Hid (picksCode sh ps = code)) :
    Calls Try.prog 108 #[.agg #[.bool c, .slice a1 n1 c1, .slice a2 n2 c2], .slice ap np cp] w fun e w' => ∃ v, e = .returned (.tuple #[v, .int .i64 code]) ∧ Below w.heap.size w w' ∧ (code = 0 → Picked w w' v np (pk sh ps)) := by
  have hl1 := h1.len
  have hlp := hp.len
  by_cases hne : np = n1
  case neg =>
    have hnn : ((np : Int) != (n1 : Int)) = true := by simp; omega
    obtain rfl : code = 4 := by rw [← unhide hcode]; unfold picksCode; rw [if_neg (by omega)]
    clear h1 hp hl1 hlp hne hcode
    go_enter Try.func108, Try.ntmps108
    go_wp2_with fail
    go_ret2
    exact ⟨_, rfl, ((Below.refl _ _).alloc (Nat.le_refl _) _).alloc (by simp) _, fun h => by omega⟩
  subst hne
  have hnn : ((np : Int) != (np : Int)) = false := by simp
  have HL : Hid (ps.length = sh.length) := hlp.trans hl1.symm
  have HLP := hide hlp
  have H1 := hide h1
  have HP := hide hp
  have HSH := hide hs
  clear h1 hp hs hl1 hlp
  obtain ⟨i0, hi, hz0, hz1, hz2⟩ := info_parts info_int
  obtain ⟨j0, ji, jz0, jz1, jz2⟩ := info_parts info_ints
  go_enter Try.func108, Try.ntmps108
  go_upto_region 4 with fail
  obtain ⟨W, hW⟩ : ∃ x, x = w.alloc (.cells #[.bool c, .slice a1 np c1, .slice a2 n2 c2] 26) := ⟨_, rfl⟩
  rw [← hW]
  obtain ⟨p, hpw⟩ : ∃ x, x = w.heap.size := ⟨_, rfl⟩
  have HBX : Hid (Box W p c (.slice a1 np c1) (.slice a2 n2 c2)) := by rw [hW, hpw]; exact Box.new w _ _ _
  have HWB : Hid (Below w.heap.size w W) := by rw [hW]; exact (Below.refl _ _).alloc (Nat.le_refl _) _
  have HPW := hide hpw
  have HST : Hid (Lists W (W.alloc (.cells #[] 22)) W.heap.size 0 0 [] (pk sh ps)) := ⟨owns_emptyT W, fun i hi => by omega, (Below.refl _ _).alloc (Nat.le_refl _) _⟩
  have hsz : w.heap.size + 1 = W.heap.size := by rw [hW]; simp
  rw [hsz]
  clear hsz
  rw [← hpw]
  clear hW hpw
  go_wp2_with fail
  go_loopw [6, 7] (fun v i wr => ∃ (k g cap : Nat) (xs : List Value), k ≤ np ∧ i = .int .i64 k ∧ v = .slice (some ⟨g, 0, none⟩) k cap ∧ Hid (Lists W wr g cap k xs (pk sh ps) ∧ firstCode (pcAt sh ps) k = 0)) (fun _ i _ => np - (intOf i).toNat)
  case atStart => exact ⟨0, _, _, _, Nat.zero_le _, rfl, rfl, unhide HST, rfl⟩
  case round =>
    obtain ⟨k, g, cap, xs, hk, rfl, rfl, HX⟩ := hrel
    clear HST
    by_cases hlt : k < np
    case neg =>
      have hkn : k = np := by omega
      subst hkn
      obtain rfl : code = 0 := by rw [← unhide hcode]; unfold picksCode; rw [if_pos (unhide HL), unhide HLP]; exact (unhide HX).2
      go_wp2_with fail
      go_ret2
      have hli := (unhide HX).1
      have hpi : Picked w wr (.slice (some ⟨g, 0, none⟩) k cap) k (pk sh ps) := ⟨g, cap, xs, rfl, ⟨owns_mono hli.own (unhide HWB).size, hli.rows, (unhide HWB).trans (hli.low.mono (unhide HWB).size)⟩⟩
      first | exact ⟨_, rfl, (unhide HWB).trans (hli.low.mono (unhide HWB).size), fun _ => hpi⟩ | exact ⟨_, rfl, (unhide HWB).trans (hli.low.mono (unhide HWB).size), hpi⟩ | exact ⟨_, rfl, hpi.choose_spec.choose_spec.choose_spec.2.low, hpi⟩
    obtain ⟨hli, hfc⟩ := unhide HX
    have HLI := hide hli
    have HFC := hide hfc
    have HWR := hide hli.low
    obtain ⟨b, off, rfl, hbs, s1, m1, d1, s2, m2, d2, e1, e2, e3, e4, e5, e6⟩ := (((unhide HP).below (Nat.le_refl _) (unhide HWB)).below (Nat.le_refl _) hli.low).get hlt
    have HE5 := hide e5
    have HE6 := hide e6
    have hm1 := e5.small
    have hm2 := e6.small
    clear HX hli hfc e5 e6
    obtain ⟨pa, hpa⟩ : ∃ x, x = (part ps k).all := ⟨_, rfl⟩
    obtain ⟨pc, hpc⟩ : ∃ x, x = (part ps k).c := ⟨_, rfl⟩
    rw [← hpa] at e1
    rw [← hpc] at e2
    have HPA := hide hpa
    have HPC := hide hpc
    clear hpa hpc
    have HB4 : Hid (Below w.heap.size w wr) := (unhide HWB).trans ((unhide HWR).mono (unhide HWB).size)
    cases pa with
    | true =>
      by_cases hno : nothing (part ps k)
      case neg =>
        obtain rfl : code = 3 := by rw [← unhide hcode]; exact picks_found (unhide HL) (unhide HFC) (by rw [unhide HLP]; exact hlt) (pick_all3 (unhide HPA).symm hno) (by omega)
        have hthree : pc = true ∨ (pc = false ∧ 0 < m1) ∨ (pc = false ∧ m1 = 0 ∧ 0 < m2) := by
          cases hpc : pc with
          | true => exact .inl rfl
          | false =>
            by_cases q1 : 0 < m1
            · exact .inr (.inl ⟨rfl, q1⟩)
            · by_cases q2 : 0 < m2
              · exact .inr (.inr ⟨rfl, by omega, q2⟩)
              · refine absurd ⟨?_, ?_, ?_⟩ hno
                · rw [← unhide HPC, hpc]
                · exact List.eq_nil_of_length_eq_zero (by rw [(unhide HE5).len]; omega)
                · exact List.eq_nil_of_length_eq_zero (by rw [(unhide HE6).len]; omega)
        have HBE := hide (fun (x y : Obj) => ((unhide HB4).alloc (unhide HB4).size x).alloc (by have := (unhide HB4).size; simp; omega) y)
        clear hno
        rcases hthree with rfl | ⟨rfl, hq⟩ | ⟨rfl, rfl, hq⟩
        · go_wp2_with fail
          go_ret2
          exact ⟨_, rfl, unhide HBE _ _, fun h => by omega⟩
        · go_wp2_with fail
          go_ret2
          exact ⟨_, rfl, unhide HBE _ _, fun h => by omega⟩
        · go_wp2_with fail
          go_ret2
          exact ⟨_, rfl, unhide HBE _ _, fun h => by omega⟩
      have HP0 : Hid ((pcAt sh ps k).2 = 0) := pick_all0 (unhide HPA).symm hno
      obtain rfl : pc = false := by rw [unhide HPC]; exact hno.1
      obtain rfl : m1 = 0 := by rw [← (unhide HE5).len, hno.2.1]; rfl
      obtain rfl : m2 = 0 := by rw [← (unhide HE6).len, hno.2.2]; rfl
      clear hno hm1 hm2
      obtain ⟨L, hL⟩ : ∃ L : Nat, sh.getD k 0 = L := ⟨(sh.getD k 0).toNat, by have := (unhide HSH).cell k; omega⟩
      have hL2 : L ≤ 10000 := by have := (unhide HSH).cell k; omega
      have HPK : Hid (pk sh ps k = upZ L) := by
        show (pickDt (part ps k) (sh.getD k 0)).map _ = _
        rw [pickDt_all (unhide HPA).symm, hL]
        exact upZ_up L
      have HLV := hide hL
      clear hL
      go_upto_region 12 with fail
      obtain ⟨Q, hQ⟩ : ∃ x, x = wr.alloc (.cells #[.bool true, .bool false, .slice s1 0 d1, .slice s2 0 d2] 96) := ⟨_, rfl⟩
      rw [← hQ]
      obtain ⟨q, hq⟩ : ∃ x, x = wr.heap.size := ⟨_, rfl⟩
      rw [← hq]
      have hqs : q + 1 = Q.heap.size := by rw [hQ, hq]; simp
      rw [hqs]
      have HQP : Hid (Q.heap[q]? = some (.cells #[.bool true, .bool false, .slice s1 0 d1, .slice s2 0 d2] 96 (0, 0))) := by rw [hQ, hq]; show (wr.heap.push _)[wr.heap.size]? = _; simp
      have HQB : Hid (Below wr.heap.size wr Q) := by rw [hQ]; exact (Below.refl _ _).alloc (Nat.le_refl _) _
      have HQLI : Hid (Lists W Q g cap k xs (pk sh ps)) := (unhide HLI).below (Nat.le_refl _) (unhide HQB)
      have HQE5 : Hid (Row Q s1 0 (part ps k).sh) := (unhide HE5).below (Nat.le_refl _) (unhide HQB)
      have HQE6 : Hid (Row Q s2 0 (part ps k).dt) := (unhide HE6).below (Nat.le_refl _) (unhide HQB)
      have HQW : Hid (Below w.heap.size w Q) := (unhide HB4).trans ((unhide HQB).mono (unhide HB4).size)
      have HQ1 : Hid (Row Q a1 np sh) := (unhide H1).below (Nat.le_refl _) (unhide HQW)
      have HQX : Hid (Box Q p c (.slice a1 np c1) (.slice a2 n2 c2)) := ((unhide HBX).below (Nat.le_refl _) (unhide HWR)).below (Nat.le_refl _) (unhide HQB)
      have hqQ : q < Q.heap.size := by omega
      have HGR : Hid (Grows Q (Q.alloc (.cells #[] 3)) Q.heap.size 0 0 []) := Grows.start Q
      have hcapw : w.heap.size ≤ Q.heap.size := (unhide HQW).size
      clear hQ hq hqs e1 e2 e3 e4 hbs HLI HWR HE5 HE6 HB4 HQB
      clear wr
      go_wp2_with fail
      go_loopw [9, 10] (fun v i wx => ∃ (j g1 cap1 : Nat), j ≤ L ∧ i = .int .i64 j ∧ v = .slice (some ⟨g1, 0, none⟩) j cap1 ∧ Hid (Grows Q wx g1 cap1 j (upZ j))) (fun _ i _ => L - (intOf i).toNat)
      case atStart => exact ⟨0, _, _, Nat.zero_le _, rfl, rfl, unhide HGR⟩
      case round =>
        obtain ⟨j, g1, cap1, hj, rfl, rfl, HGX⟩ := hrel
        clear HGR
        obtain ⟨wz, hwz⟩ : ∃ x, x = wr := ⟨_, rfl⟩
        subst hwz
        obtain ⟨b1, o1, rfl, hb1, hcl⟩ := ((unhide HQ1).below (Nat.le_refl _) (unhide HGX).low).get hlt
        rw [unhide HLV] at hcl
        obtain ⟨y0, y1, y2, y3, y4, y5, y6⟩ := ((unhide HQX).below (Nat.le_refl _) (unhide HGX).low).free'
        by_cases hjl : j < L
        · have hgz := (unhide HGX).low.size
          go_wp2_with (at_builtin; refine wpList_append_lies _ rfl _ _ 22 rfl Q.heap.size 3 i0 (.int .i64 0) 1 8 Try.underlying22 hi hz0 hz1 hz2 rfl (by decide) _ _ _ rfl (owns_below (unhide HGX).own (Nat.le_refl _) ((Below.refl _ _).alloc (Nat.le_refl _) _)) ⟨wz.heap.size, 0, none⟩ 1 1 [.int .i64 j] rfl rfl (cells_new _ _) (one_one _) (by omega) (by unfold maxLen; omega) (by omega) (by simp; omega) (wz.heap.size + 1) (by simp) ?_; intro g' cap' w7 hown' hgrow hat hlt7; have HG7 := hide ((unhide HGX).push _ (upZ_succ j) hown' hgrow); clear hgrow hat hown' hlt7)
          go_roundw
          case rel => exact ⟨j + 1, g', cap', by omega, by go_num, rfl, unhide HG7⟩
          case measure => simp [intOf]; omega
        · have hjn : j = L := by omega
          subst hjn
          have HZS := HPK
          clear hjl
          have hgq : g < Q.heap.size := (unhide HQLI).lt
          have HLZ : Hid (Lists W wz g cap k xs (pk sh ps)) := (unhide HQLI).below (Nat.le_refl _) (unhide HGX).low
          have HRZ : Hid (Row wz (some ⟨g1, 0, none⟩) j (pk sh ps k)) := by rw [unhide HZS]; exact (unhide HGX).row (by omega)
          have hge := (unhide HGX).ge
          have HFK : Hid (firstCode (pcAt sh ps) (k + 1) = 0) := code_step (unhide HFC) (unhide HP0)
          clear HGX HQE5 HQE6 HQ1 HQX HQLI HFC HP0 HZS
          have hWz := (unhide HLZ).low.size
          go_wp2_with (at_builtin; refine wpList_append_lies _ rfl _ _ 128 rfl W.heap.size 22 j0 (.slice none 0 0) 1 24 Try.underlying128 ji jz0 jz1 jz2 rfl (by decide) _ _ _ rfl (owns_below (unhide HLZ).own (Nat.le_refl _) ((Below.refl _ _).alloc (Nat.le_refl _) _)) ⟨wz.heap.size, 0, none⟩ 1 1 [.slice (some ⟨g1, 0, none⟩) j cap1] rfl rfl (cells_slice _ _ _ _) (one_slice _ _ _) (by omega) (by unfold maxLen; omega) (by omega) (by simp; omega) (wz.heap.size + 1) (by simp) ?_; intro g' cap' w7 hown' hgrow hat hlt7; have HL7 := hide ((unhide HLZ).push _ (unhide HRZ) rfl (fun hh => by have := at_eq hh; omega) hown' hgrow hat); clear hgrow hat hown' hlt7)
          go_roundw
          case rel => exact ⟨k + 1, g', cap', _, by omega, by go_num, rfl, unhide HL7, unhide HFK⟩
          case measure => simp [intOf]; omega
    | false =>
      have HCL : Hid (∀ r, pickCode (part ps k) (sh.getD k 0) = r → r ≠ 0 → code = r) := fun r h h0 => by rw [← unhide hcode]; exact picks_found (unhide HL) (unhide HFC) (by rw [unhide HLP]; exact hlt) h h0
      obtain ⟨L, hL⟩ : ∃ L : Nat, sh.getD k 0 = L := ⟨(sh.getD k 0).toNat, by have := (unhide HSH).cell k; omega⟩
      have hL2 : L ≤ 10000 := by have := (unhide HSH).cell k; omega
      rw [hL] at HCL
      have HLV := hide hL
      clear hL
      obtain ⟨ok, hok⟩ : ∃ x, arrOk pc (part ps k).sh (part ps k).dt = x := ⟨_, rfl⟩
      have HOK := hide hok
      clear hok
      go_upto_region 16 with fail
      obtain ⟨Q, hQ⟩ : ∃ x, x = wr.alloc (.cells #[.bool false, .bool pc, .slice s1 m1 d1, .slice s2 m2 d2] 96) := ⟨_, rfl⟩
      rw [← hQ]
      obtain ⟨q, hq⟩ : ∃ x, x = wr.heap.size := ⟨_, rfl⟩
      rw [← hq]
      have hqs : q + 1 = Q.heap.size := by rw [hQ, hq]; simp
      rw [hqs]
      have HQP : Hid (Q.heap[q]? = some (.cells #[.bool false, .bool pc, .slice s1 m1 d1, .slice s2 m2 d2] 96 (0, 0))) := by rw [hQ, hq]; show (wr.heap.push _)[wr.heap.size]? = _; simp
      have HQB : Hid (Below wr.heap.size wr Q) := by rw [hQ]; exact (Below.refl _ _).alloc (Nat.le_refl _) _
      have HQLI : Hid (Lists W Q g cap k xs (pk sh ps)) := (unhide HLI).below (Nat.le_refl _) (unhide HQB)
      have HQE5 : Hid (Row Q s1 m1 (part ps k).sh) := (unhide HE5).below (Nat.le_refl _) (unhide HQB)
      have HQE6 : Hid (Row Q s2 m2 (part ps k).dt) := (unhide HE6).below (Nat.le_refl _) (unhide HQB)
      have HQW : Hid (Below w.heap.size w Q) := (unhide HB4).trans ((unhide HQB).mono (unhide HB4).size)
      have HQ1 : Hid (Row Q a1 np sh) := (unhide H1).below (Nat.le_refl _) (unhide HQW)
      have HQX : Hid (Box Q p c (.slice a1 np c1) (.slice a2 n2 c2)) := ((unhide HBX).below (Nat.le_refl _) (unhide HWR)).below (Nat.le_refl _) (unhide HQB)
      have hqQ : q < Q.heap.size := by omega
      have HGR : Hid (Grows Q (Q.alloc (.cells #[] 3)) Q.heap.size 0 0 []) := Grows.start Q
      have hcapw : w.heap.size ≤ Q.heap.size := (unhide HQW).size
      have HE6L : Hid ((part ps k).dt.length = m2) := (unhide HE6).len
      clear hQ hq hqs e1 e2 e3 e4 hbs HLI HWR HE5 HE6 HB4 HQB
      clear wr
      obtain ⟨u0, u1, u2, u3⟩ : (Q.alloc (.cells #[] 3)).cell? ⟨q, 0, none⟩ = some (.bool false) ∧ (Q.alloc (.cells #[] 3)).cell? ⟨q, 1, none⟩ = some (.bool pc) ∧ (Q.alloc (.cells #[] 3)).cell? ⟨q, 2, none⟩ = some (.slice s1 m1 d1) ∧ (Q.alloc (.cells #[] 3)).cell? ⟨q, 3, none⟩ = some (.slice s2 m2 d2) := by
        have hh : (Q.alloc (.cells #[] 3)).heap[q]? = _ := (Below.heap_alloc Q _ q hqQ).trans (unhide HQP)
        simp [World.cell?, hh]
      go_upto_region 16 with fail
      obtain ⟨Q2, hQ2⟩ : ∃ x, x = Q.alloc (.cells #[] 3) := ⟨_, rfl⟩
      rw [← hQ2] at u0 u1 u2 u3 ⊢
      have HGR2 : Hid (Grows Q Q2 Q.heap.size 0 0 []) := by rw [hQ2]; exact unhide HGR
      clear HGR hQ2
      go_wp2_with fail
      refine (ArrayOk_eq _ _ _ _ _ _ _ (part ps k).sh (part ps k).dt _ (by exact (unhide HQE5).below (Nat.le_refl _) (unhide HGR2).low) (by exact (unhide HQE6).below (Nat.le_refl _) (unhide HGR2).low) ok HOK).mono ?_
      rintro e wy ⟨rfl, hby⟩
      have HGR : Hid (Grows Q wy Q.heap.size 0 0 []) := ⟨owns_below (unhide HGR2).own (Nat.le_refl _) hby, (unhide HGR2).low.trans (hby.mono (unhide HGR2).low.size)⟩
      clear hby HGR2 u0 u1 u2 u3
      clear Q2
      have HPB : Hid (∀ wx, Below Q.heap.size Q wx → wx.cell? ⟨q, 0, none⟩ = some (.bool false) ∧ wx.cell? ⟨q, 1, none⟩ = some (.bool pc) ∧ wx.cell? ⟨q, 2, none⟩ = some (.slice s1 m1 d1) ∧ wx.cell? ⟨q, 3, none⟩ = some (.slice s2 m2 d2)) := fun wx hwx => by
        have hh : wx.heap[q]? = _ := (hwx.block q hqQ).trans (unhide HQP)
        simp [World.cell?, hh]
      obtain ⟨u0, u1, u2, u3⟩ := unhide HPB _ (unhide HGR).low
      by_cases hgood : ok = true ∧ pc = false
      case neg =>
        obtain rfl : code = 3 := unhide HCL 3 (pick_bad (unhide HPA).symm (by rw [← unhide HPC, unhide HOK]; exact hgood)) (by omega)
        have HBE : Hid (Below w.heap.size w wy) := (unhide HQW).trans ((unhide HGR).low.mono (unhide HQW).size)
        have htwo : ok = false ∨ (ok = true ∧ pc = true) := by cases ok <;> cases pc <;> simp at hgood ⊢
        clear hgood
        rcases htwo with rfl | ⟨rfl, rfl⟩
        · go_wp2_with fail
          go_ret2
          exact ⟨_, rfl, unhide HBE, fun h => by omega⟩
        · go_wp2_with fail
          go_ret2
          exact ⟨_, rfl, unhide HBE, fun h => by omega⟩
      obtain ⟨rfl, rfl⟩ := hgood
      obtain ⟨D, hD⟩ : ∃ x, x = (part ps k).dt := ⟨_, rfl⟩
      have HDL : Hid (D.length = m2) := by rw [hD]; exact (unhide HE6L)
      have HDA : Hid (D.all (within L) = false → code = 6) := fun h => unhide HCL 6 (pick_out (unhide HPA).symm (by rw [← unhide HPC]; exact unhide HOK) (unhide HPC).symm (by rw [← hD]; exact h)) (by omega)
      have HDP : Hid (D.all (within L) = true → (pcAt sh ps k).2 = 0) := fun h => by
        show pickCode (part ps k) (sh.getD k 0) = 0
        rw [unhide HLV]
        exact pick_in (unhide HPA).symm (by rw [← unhide HPC]; exact unhide HOK) (unhide HPC).symm (by rw [← hD]; exact h)
      have HPK : Hid (pk sh ps k = D.map fun x => x - 1) := by
        show (pickDt (part ps k) (sh.getD k 0)).map _ = _
        rw [pickDt_not (unhide HPA).symm, hD]
      have HQD : Hid (Row Q s2 m2 D) := by rw [hD]; exact unhide HQE6
      have HDB : Hid (∀ i, i < m2 → -1000000000000000 ≤ D.getD i 0 ∧ D.getD i 0 ≤ 1000000000000000) := by
        have ho : arrOk (part ps k).c (part ps k).sh (part ps k).dt = true := by rw [← unhide HPC]; exact unhide HOK
        intro i hi
        rw [hD]
        exact arr_elem ho (by rw [← hD, unhide HDL]; exact hi)
      clear hD HCL HOK HPA HPC
      go_wp2_with fail
      go_loopw [9, 11] (fun v i wx => ∃ (j g1 cap1 : Nat), j ≤ m2 ∧ i = .int .i64 j ∧ v = .slice (some ⟨g1, 0, none⟩) j cap1 ∧ Hid (Grows Q wx g1 cap1 j ((D.take j).map fun x => x - 1) ∧ (D.take j).all (within L) = true)) (fun _ i _ => m2 - (intOf i).toNat)
      case atStart => exact ⟨0, _, _, Nat.zero_le _, rfl, rfl, unhide HGR, rfl⟩
      case round =>
        obtain ⟨j, g1, cap1, hj, rfl, rfl, HGY⟩ := hrel
        clear HGR u0 u1 u2 u3
        obtain ⟨wz, hwz⟩ : ∃ x, x = wr := ⟨_, rfl⟩
        subst hwz
        have HGX := hide (unhide HGY).1
        have HTA := hide (unhide HGY).2
        clear HGY wy
        obtain ⟨u0, u1, u2, u3⟩ := unhide HPB _ (unhide HGX).low
        by_cases hjl : j < m2
        · obtain ⟨b1, o1, rfl, hb1, hcl⟩ := ((unhide HQ1).below (Nat.le_refl _) (unhide HGX).low).get hlt
          rw [unhide HLV] at hcl
          obtain ⟨b2, o2, rfl, hb2, hcd⟩ := ((unhide HQD).below (Nat.le_refl _) (unhide HGX).low).get hjl
          obtain ⟨y0, y1, y2, y3, y4, y5, y6⟩ := ((unhide HQX).below (Nat.le_refl _) (unhide HGX).low).free'
          obtain ⟨x, hx⟩ : ∃ x, D.getD j 0 = x := ⟨_, rfl⟩
          have hxb := unhide HDB j hjl
          rw [hx] at hcd hxb
          have hgz := (unhide HGX).low.size
          have HX := hide hx
          clear hx
          by_cases hx1 : x < 1
          · have hd1 : decide (x < 1) = true := decide_eq_true hx1
            have HBE : Hid (Below w.heap.size w wz) := (unhide HQW).trans ((unhide HGX).low.mono (unhide HQW).size)
            obtain rfl : code = 6 := unhide HDA (all_not D _ j (by rw [unhide HDL]; exact hjl) (by rw [unhide HX]; unfold within; exact decide_eq_false (by omega)))
            go_wp2_with fail
            go_quiet (fail)
            go_wp2_with fail
            go_ret2
            exact ⟨_, rfl, Below.drewN (unhide HBE) _, fun h => by omega⟩
          have hd1 : decide (x < 1) = false := decide_eq_false hx1
          by_cases hx2 : (L : Int) < x
          · have hd2 : decide ((L : Int) < x) = true := decide_eq_true hx2
            have HBE : Hid (Below w.heap.size w wz) := (unhide HQW).trans ((unhide HGX).low.mono (unhide HQW).size)
            obtain rfl : code = 6 := unhide HDA (all_not D _ j (by rw [unhide HDL]; exact hjl) (by rw [unhide HX]; unfold within; exact decide_eq_false (by omega)))
            go_wp2_with fail
            go_quiet (fail)
            go_wp2_with fail
            go_ret2
            exact ⟨_, rfl, Below.drewN (unhide HBE) _, fun h => by omega⟩
          have hd2 : decide ((L : Int) < x) = false := decide_eq_false hx2
          have HTA2 : Hid ((D.take (j + 1)).all (within L) = true) := all_step D _ j (by rw [unhide HDL]; exact hjl) (unhide HTA) (by rw [unhide HX]; unfold within; exact decide_eq_true ⟨by omega, by omega⟩)
          have HTP : Hid ((D.take (j + 1)).map (fun x => x - 1) = (D.take j).map (fun x => x - 1) ++ [x - 1]) := by rw [← unhide HX]; exact take_pred D j (by rw [unhide HDL]; exact hjl)
          have hwr : IntKind.i64.wrap (x - 1) = x - 1 := by rw [IntKind.wrap_i64]; omega
          go_wp2_with fail
          go_quiet (fail)
          obtain ⟨wv, hwv⟩ : ∃ x, x = World.drewN wz nq := ⟨_, rfl⟩
          rw [← hwv]
          have HGV : Hid (Grows Q wv g1 cap1 j ((D.take j).map fun x => x - 1)) := by rw [hwv]; exact ⟨owns_below (unhide HGX).own (Nat.le_refl _) (Below.drewN (Below.refl _ _) _), Below.drewN (unhide HGX).low _⟩
          clear hwv HGX u0 u1 u2 u3 hcl hcd hb1 hb2 y0 y1 y2 y3 y4 y5 y6 hgz
          clear wz
          obtain ⟨u0, u1, u2, u3⟩ := unhide HPB _ (unhide HGV).low
          obtain ⟨b3, o3, hbo, hb3, hcd⟩ := ((unhide HQD).below (Nat.le_refl _) (unhide HGV).low).get hjl
          cases hbo
          rw [unhide HX] at hcd
          have hgz := (unhide HGV).low.size
          go_wp2_with (at_builtin; refine wpList_append_lies _ rfl _ _ 22 rfl Q.heap.size 3 i0 (.int .i64 0) 1 8 Try.underlying22 hi hz0 hz1 hz2 rfl (by decide) _ _ _ rfl (owns_below (unhide HGV).own (Nat.le_refl _) ((Below.refl _ _).alloc (Nat.le_refl _) _)) ⟨wv.heap.size, 0, none⟩ 1 1 [.int .i64 (x - 1)] rfl rfl (cells_new _ _) (one_one _) (by omega) (by unfold maxLen; omega) (by omega) (by simp; omega) (wv.heap.size + 1) (by simp) ?_; intro g' cap' w7 hown' hgrow hat hlt7; have HG7 := hide ((unhide HGV).push _ (unhide HTP) hown' hgrow); clear hgrow hat hown' hlt7)
          go_roundw
          case rel => exact ⟨j + 1, g', cap', by omega, by go_num, rfl, unhide HG7, unhide HTA2⟩
          case measure => simp [intOf]; omega
        · have hjn : j = m2 := by omega
          subst hjn
          have htk : D.take j = D := List.take_of_length_le (by rw [unhide HDL]; exact Nat.le_refl _)
          have HZS : Hid (pk sh ps k = (D.take j).map fun x => x - 1) := by rw [htk]; exact unhide HPK
          have HP0 : Hid ((pcAt sh ps k).2 = 0) := unhide HDP (by rw [← htk]; exact unhide HTA)
          clear htk hjl HDP HDA HDL HQD HTA HPK
          have hgq : g < Q.heap.size := (unhide HQLI).lt
          have HLZ : Hid (Lists W wz g cap k xs (pk sh ps)) := (unhide HQLI).below (Nat.le_refl _) (unhide HGX).low
          have HRZ : Hid (Row wz (some ⟨g1, 0, none⟩) j (pk sh ps k)) := by rw [unhide HZS]; exact (unhide HGX).row (by omega)
          have hge := (unhide HGX).ge
          have HFK : Hid (firstCode (pcAt sh ps) (k + 1) = 0) := code_step (unhide HFC) (unhide HP0)
          clear HGX HQE5 HQE6 HQ1 HQX HQLI HFC HP0 HZS
          have hWz := (unhide HLZ).low.size
          go_wp2_with (at_builtin; refine wpList_append_lies _ rfl _ _ 128 rfl W.heap.size 22 j0 (.slice none 0 0) 1 24 Try.underlying128 ji jz0 jz1 jz2 rfl (by decide) _ _ _ rfl (owns_below (unhide HLZ).own (Nat.le_refl _) ((Below.refl _ _).alloc (Nat.le_refl _) _)) ⟨wz.heap.size, 0, none⟩ 1 1 [.slice (some ⟨g1, 0, none⟩) j cap1] rfl rfl (cells_slice _ _ _ _) (one_slice _ _ _) (by omega) (by unfold maxLen; omega) (by omega) (by simp; omega) (wz.heap.size + 1) (by simp) ?_; intro g' cap' w7 hown' hgrow hat hlt7; have HL7 := hide ((unhide HLZ).push _ (unhide HRZ) rfl (fun hh => by have := at_eq hh; omega) hown' hgrow hat); clear hgrow hat hown' hlt7)
          go_roundw
          case rel => exact ⟨k + 1, g', cap', _, by omega, by go_num, rfl, unhide HL7, unhide HFK⟩
          case measure => simp [intOf]; omega

end Go.Proofs.Ytngbmcljhcckmaa
