import Derived.Test.YtinndpnilmmmjaaGreatDoorMFn
import Derived.Test.YtinndpnilmmmjaaGreatDoorMFn
import Derived.Test.YtinndpnilmmmjaaGreatDoorMBase
import Derived.Test.YtinndpnilmmmjaaGreatDoorMBase
import Derived.Test.YtinndpnilmmmjaaGreatDoorMNd
namespace Go.Proofs.YtinndpnilmmmjaaGreatDoor
open Go.RowKit

set_option maxRecDepth 20000 in
set_option maxHeartbeats 2000000 in
theorem saysI_nodeE (Z : World) (tb fb b off n cap i : Nat) (hi : i < n) (k xn xm : Int) (xs : ByteArray) (s1 : Option Addr) (n1 c1 : Nat) (s2 : Option Addr) (n2 c2 : Nat) (hx : NodeIs Z b (off + i * 6) k xn xm xs (.slice s1 n1 c1) (.slice s2 n2 c2)) (hE : isE k = true) (F : List UInt8 × Bool → List UInt8 × Bool) (hS : SaysI Z tb fb 83 #[prV (some ⟨b, off, none⟩) n cap tb fb, .agg #[.int .i64 k, .int .i64 xn, .int .i64 xm, .string xs, .slice s1 n1 c1, .slice s2 n2 c2]] F) :
    SaysI Z tb fb 39 #[prV (some ⟨b, off, none⟩) n cap tb fb, .int .i64 (i : Nat)] F := by
  intro w st h hq
  obtain ⟨hbl, x0, x1, x2, x3, x4, x5⟩ := hx
  have c0' := (h.low.cell (p := ⟨b, off + i * 6, none⟩) hbl).trans x0
  have c1' := (h.low.cell (p := ⟨b, off + i * 6 + 1, none⟩) hbl).trans x1
  have c2' := (h.low.cell (p := ⟨b, off + i * 6 + 2, none⟩) hbl).trans x2
  have c3' := (h.low.cell (p := ⟨b, off + i * 6 + 3, none⟩) hbl).trans x3
  have c4' := (h.low.cell (p := ⟨b, off + i * 6 + 4, none⟩) hbl).trans x4
  have c5' := (h.low.cell (p := ⟨b, off + i * 6 + 5, none⟩) hbl).trans x5
  have hii : (i : Int) < (n : Int) := by omega
  have hbw : b < w.heap.size := Nat.lt_of_lt_of_le hbl h.low.size
  have hbq : b ≠ w.heap.size := by omega
  have HQ := hide hq
  have HS := hide hS
  have HB0 := hide (IB.two h (some ⟨b, off, none⟩) n cap (.int .i64 k) (.int .i64 xn) (.int .i64 xm) (.string xs) (.slice s1 n1 c1) (.slice s2 n2 c2))
  obtain ⟨e0, e1, e2, e3, e4, e5⟩ := cells6 (unhide HB0).at0
  obtain ⟨p0, p1⟩ := cells2 (unhide HB0).at1
  have HE := hide (fun W => isExpr_any k (.int .i64 xn) (.int .i64 xm) (.string xs) (.slice s1 n1 c1) (.slice s2 n2 c2) W)
  rw [hE] at HE
  clear h hq hS x0 x1 x2 x3 x4 x5 hE
  go_enter Tryz.func39, Tryz.ntmps39
  go_wp2_with (first | (go_at_call 64; refine (unhide HE _).mono ?_; rintro e w1 ⟨rfl, hw1⟩; have hb1 := (unhide HB0).below hw1; obtain ⟨e0, e1, e2, e3, e4, e5⟩ := cells6 hb1.at0; obtain ⟨p0, p1⟩ := cells2 hb1.at1; have HB1 := hide hb1; clear hb1 hw1) | (go_at_call 83; refine ((unhide HB1).call (unhide HS) (unhide HQ)).mono ?_; rintro e w3 ⟨⟨v3, rfl⟩, hb3⟩; have HB3 := hide hb3; clear hb3))
  go_end0
  exact ⟨⟨_, rfl⟩, (unhide HB3).ix, (unhide HB3).kept⟩

set_option maxRecDepth 20000 in
set_option maxHeartbeats 2000000 in
theorem saysI_nodeF (Z : World) (tb fb b off n cap i : Nat) (hi : i < n) (k xn xm : Int) (xs : ByteArray) (s1 : Option Addr) (n1 c1 : Nat) (s2 : Option Addr) (n2 c2 : Nat) (hx : NodeIs Z b (off + i * 6) k xn xm xs (.slice s1 n1 c1) (.slice s2 n2 c2)) (hE : isE k = false) (hF : isF k = true) (F : List UInt8 × Bool → List UInt8 × Bool) (hS : SaysI Z tb fb 84 #[prV (some ⟨b, off, none⟩) n cap tb fb, .agg #[.int .i64 k, .int .i64 xn, .int .i64 xm, .string xs, .slice s1 n1 c1, .slice s2 n2 c2]] F) :
    SaysI Z tb fb 39 #[prV (some ⟨b, off, none⟩) n cap tb fb, .int .i64 (i : Nat)] F := by
  intro w st h hq
  obtain ⟨hbl, x0, x1, x2, x3, x4, x5⟩ := hx
  have c0' := (h.low.cell (p := ⟨b, off + i * 6, none⟩) hbl).trans x0
  have c1' := (h.low.cell (p := ⟨b, off + i * 6 + 1, none⟩) hbl).trans x1
  have c2' := (h.low.cell (p := ⟨b, off + i * 6 + 2, none⟩) hbl).trans x2
  have c3' := (h.low.cell (p := ⟨b, off + i * 6 + 3, none⟩) hbl).trans x3
  have c4' := (h.low.cell (p := ⟨b, off + i * 6 + 4, none⟩) hbl).trans x4
  have c5' := (h.low.cell (p := ⟨b, off + i * 6 + 5, none⟩) hbl).trans x5
  have hii : (i : Int) < (n : Int) := by omega
  have hbw : b < w.heap.size := Nat.lt_of_lt_of_le hbl h.low.size
  have hbq : b ≠ w.heap.size := by omega
  have HQ := hide hq
  have HS := hide hS
  have HB0 := hide (IB.two h (some ⟨b, off, none⟩) n cap (.int .i64 k) (.int .i64 xn) (.int .i64 xm) (.string xs) (.slice s1 n1 c1) (.slice s2 n2 c2))
  obtain ⟨e0, e1, e2, e3, e4, e5⟩ := cells6 (unhide HB0).at0
  obtain ⟨p0, p1⟩ := cells2 (unhide HB0).at1
  have HE := hide (fun W => isExpr_any k (.int .i64 xn) (.int .i64 xm) (.string xs) (.slice s1 n1 c1) (.slice s2 n2 c2) W)
  rw [hE] at HE
  have HF := hide (fun W => isFunction_any k (.int .i64 xn) (.int .i64 xm) (.string xs) (.slice s1 n1 c1) (.slice s2 n2 c2) W)
  rw [hF] at HF
  clear h hq hS x0 x1 x2 x3 x4 x5 hE hF
  go_enter Tryz.func39, Tryz.ntmps39
  go_wp2_with (first | (go_at_call 64; refine (unhide HE _).mono ?_; rintro e w1 ⟨rfl, hw1⟩; have hb1 := (unhide HB0).below hw1; obtain ⟨e0, e1, e2, e3, e4, e5⟩ := cells6 hb1.at0; obtain ⟨p0, p1⟩ := cells2 hb1.at1; have HB1 := hide hb1; clear hb1 hw1) | (go_at_call 66; refine (unhide HF _).mono ?_; rintro e w2 ⟨rfl, hw2⟩; have hb2 := (unhide HB1).below hw2; obtain ⟨e0, e1, e2, e3, e4, e5⟩ := cells6 hb2.at0; obtain ⟨p0, p1⟩ := cells2 hb2.at1; have HB2 := hide hb2; clear hb2 hw2) | (go_at_call 84; refine ((unhide HB2).call (unhide HS) (unhide HQ)).mono ?_; rintro e w3 ⟨⟨v3, rfl⟩, hb3⟩; have HB3 := hide hb3; clear hb3))
  go_end0
  exact ⟨⟨_, rfl⟩, (unhide HB3).ix, (unhide HB3).kept⟩

set_option maxRecDepth 20000 in
set_option maxHeartbeats 2000000 in
theorem saysI_nodeS (Z : World) (tb fb b off n cap i : Nat) (hi : i < n) (k xn xm : Int) (xs : ByteArray) (s1 : Option Addr) (n1 c1 : Nat) (s2 : Option Addr) (n2 c2 : Nat) (hx : NodeIs Z b (off + i * 6) k xn xm xs (.slice s1 n1 c1) (.slice s2 n2 c2)) (hE : isE k = false) (hF : isF k = false) (F : List UInt8 × Bool → List UInt8 × Bool) (hS : SaysI Z tb fb 85 #[prV (some ⟨b, off, none⟩) n cap tb fb, .agg #[.int .i64 k, .int .i64 xn, .int .i64 xm, .string xs, .slice s1 n1 c1, .slice s2 n2 c2]] F) :
    SaysI Z tb fb 39 #[prV (some ⟨b, off, none⟩) n cap tb fb, .int .i64 (i : Nat)] F := by
  intro w st h hq
  obtain ⟨hbl, x0, x1, x2, x3, x4, x5⟩ := hx
  have c0' := (h.low.cell (p := ⟨b, off + i * 6, none⟩) hbl).trans x0
  have c1' := (h.low.cell (p := ⟨b, off + i * 6 + 1, none⟩) hbl).trans x1
  have c2' := (h.low.cell (p := ⟨b, off + i * 6 + 2, none⟩) hbl).trans x2
  have c3' := (h.low.cell (p := ⟨b, off + i * 6 + 3, none⟩) hbl).trans x3
  have c4' := (h.low.cell (p := ⟨b, off + i * 6 + 4, none⟩) hbl).trans x4
  have c5' := (h.low.cell (p := ⟨b, off + i * 6 + 5, none⟩) hbl).trans x5
  have hii : (i : Int) < (n : Int) := by omega
  have hbw : b < w.heap.size := Nat.lt_of_lt_of_le hbl h.low.size
  have hbq : b ≠ w.heap.size := by omega
  have HQ := hide hq
  have HS := hide hS
  have HB0 := hide (IB.two h (some ⟨b, off, none⟩) n cap (.int .i64 k) (.int .i64 xn) (.int .i64 xm) (.string xs) (.slice s1 n1 c1) (.slice s2 n2 c2))
  obtain ⟨e0, e1, e2, e3, e4, e5⟩ := cells6 (unhide HB0).at0
  obtain ⟨p0, p1⟩ := cells2 (unhide HB0).at1
  have HE := hide (fun W => isExpr_any k (.int .i64 xn) (.int .i64 xm) (.string xs) (.slice s1 n1 c1) (.slice s2 n2 c2) W)
  rw [hE] at HE
  have HF := hide (fun W => isFunction_any k (.int .i64 xn) (.int .i64 xm) (.string xs) (.slice s1 n1 c1) (.slice s2 n2 c2) W)
  rw [hF] at HF
  clear h hq hS x0 x1 x2 x3 x4 x5 hE hF
  go_enter Tryz.func39, Tryz.ntmps39
  go_wp2_with (first | (go_at_call 64; refine (unhide HE _).mono ?_; rintro e w1 ⟨rfl, hw1⟩; have hb1 := (unhide HB0).below hw1; obtain ⟨e0, e1, e2, e3, e4, e5⟩ := cells6 hb1.at0; obtain ⟨p0, p1⟩ := cells2 hb1.at1; have HB1 := hide hb1; clear hb1 hw1) | (go_at_call 66; refine (unhide HF _).mono ?_; rintro e w2 ⟨rfl, hw2⟩; have hb2 := (unhide HB1).below hw2; obtain ⟨e0, e1, e2, e3, e4, e5⟩ := cells6 hb2.at0; obtain ⟨p0, p1⟩ := cells2 hb2.at1; have HB2 := hide hb2; clear hb2 hw2) | (go_at_call 85; refine ((unhide HB2).call (unhide HS) (unhide HQ)).mono ?_; rintro e w3 ⟨⟨v3, rfl⟩, hb3⟩; have HB3 := hide hb3; clear hb3))
  go_end0
  exact ⟨⟨_, rfl⟩, (unhide HB3).ix, (unhide HB3).kept⟩

end Go.Proofs.YtinndpnilmmmjaaGreatDoor
namespace Go.Proofs.YtinndpnilmmmjaaGreatDoor
open Go.RowKit

/-- The kids of a node, in the developers' run. -/
structure KidsQ (Z : World) (tb fb : Nat) (a : Option Addr) (n cap : Nat) (G : Nat → List UInt8 × Bool → List UInt8 × Bool) (x : NodeD) (s2 : Option Addr) (n2 c2 : Nat) : Prop where
  row : Row Z s2 n2 x.kids
  room : n2 ≤ c2
  pos : ∀ q, q < n2 → x.kids.getD q 0 = ((kidN x q : Nat) : Int)
  says : ∀ q, q < n2 → SaysI Z tb fb 39 #[prV a n cap tb fb, .int .i64 (kidN x q : Nat)] (G (kidN x q))
  mono : ∀ q, q < n2 → ∀ st, lenP st ≤ lenP (G (kidN x q) st)

section
variable {Z : World} {tb fb : Nat} {a : Option Addr} {n cap : Nat} {G : Nat → List UInt8 × Bool → List UInt8 × Bool} {x : NodeD}

theorem KidsQ.list {s2 : Option Addr} {n2 c2 : Nat} (h : KidsQ Z tb fb a n cap G x s2 n2 c2) (hG : GlTree Z) (c : Nat) (sg : ByteArray) (hc : c ∈ signCs) (hsg : sg.data.toList = looksD.sg c) :
    SaysI Z tb fb 134 #[prV a n cap tb fb, .string sg, .slice s2 n2 c2] (listP looksD G c x.kids x.kids.length) ∧ (∀ st, lenP st ≤ lenP (listP looksD G c x.kids x.kids.length st)) := by
  have hl := h.row.len
  rw [hl]
  exact ⟨saysI_series Z tb fb a n cap G c sg s2 n2 c2 (saysI_sgn Z tb fb hG a n cap sg c hc hsg) x.kids h.row (fun q hq => h.pos q hq) (fun q hq => h.says q hq) (fun q hq => h.mono q hq), list_mono0 (fun q hq => h.mono q hq)⟩

theorem KidsQ.listTo {kb ko n2 c2 : Nat} (h : KidsQ Z tb fb a n cap G x (some ⟨kb, ko, none⟩) n2 c2) (hG : GlTree Z) (m : Nat) (hm : m ≤ n2) (d : Nat) :
    SaysI Z tb fb 134 #[prV a n cap tb fb, .string ⟨#[59]⟩, .slice (some ⟨kb, ko, none⟩) m d] (listP looksD G 59 (x.kids.take m) m) ∧ (∀ st, lenP st ≤ lenP (listP looksD G 59 (x.kids.take m) m st)) := by
  have hm2 : ∀ q, q < m → ∀ st, lenP st ≤ lenP (G ((x.kids.take m).getD q 0).toNat st) := fun q hq => by rw [take_getD hq]; exact h.mono q (by omega)
  refine ⟨saysI_series Z tb fb a n cap G 59 ⟨#[59]⟩ (some ⟨kb, ko, none⟩) m d (saysI_sgn Z tb fb hG a n cap _ 59 (by decide) sg_59) (x.kids.take m) (h.row.cutTo hm) (fun q hq => ?_) (fun q hq => ?_) hm2, list_mono0 hm2⟩
  · rw [take_getD hq]; exact h.pos q (by omega)
  · rw [take_getD hq]; exact h.says q (by omega)

theorem KidsQ.listFrom {kb ko m c2 : Nat} (h : KidsQ Z tb fb a n cap G x (some ⟨kb, ko, none⟩) (m + 1) c2) (hG : GlTree Z) (d : Nat) :
    SaysI Z tb fb 134 #[prV a n cap tb fb, .string ⟨#[59]⟩, .slice (some ⟨kb, ko + 1, none⟩) m d] (listP looksD G 59 (x.kids.drop 1) m) ∧ (∀ st, lenP st ≤ lenP (listP looksD G 59 (x.kids.drop 1) m st)) := by
  have hm2 : ∀ q, q < m → ∀ st, lenP st ≤ lenP (G ((x.kids.drop 1).getD q 0).toNat st) := fun q hq => by rw [drop_getD]; exact h.mono (q + 1) (by omega)
  refine ⟨saysI_series Z tb fb a n cap G 59 ⟨#[59]⟩ (some ⟨kb, ko + 1, none⟩) m d (saysI_sgn Z tb fb hG a n cap _ 59 (by decide) sg_59) (x.kids.drop 1) h.row.cut1 (fun q hq => ?_) (fun q hq => ?_) hm2, list_mono0 hm2⟩
  · rw [drop_getD]; exact h.pos (q + 1) (by omega)
  · rw [drop_getD]; exact h.says (q + 1) (by omega)

theorem parts_mono {zs : List Int} {m : Nat} (hm : ∀ st, lenP st ≤ lenP (listP looksD G 59 zs m st)) (st : List UInt8 × Bool) : lenP st ≤ lenP (sayS looksD (listP looksD G 59 zs m (sayS looksD st 91)) 93) := Nat.le_trans (Nat.le_trans (say_len _ _ _).1 (hm _)) (say_len _ _ _).1

/-- The last kid, assigned. -/
theorem KidsQ.assigned {kb ko m c2 : Nat} (h : KidsQ Z tb fb a n cap G x (some ⟨kb, ko, none⟩) (m + 1) c2) (hG : GlTree Z) :
    SaysI Z tb fb 135 #[prV a n cap tb fb, .int .i64 (kidN x m : Nat)] (fun st => G (kidN x m) (sayS looksD st 8592)) ∧ (∀ st, lenP st ≤ lenP (G (kidN x m) (sayS looksD st 8592))) ∧ Z.cell? ⟨kb, ko + m, none⟩ = some (.int .i64 (kidN x m : Nat)) ∧ kb < Z.heap.size := by
  have hm := h.mono m (by omega)
  refine ⟨saysI_assigned Z tb fb hG a n cap G (kidN x m) (h.says m (by omega)) hm, fun st => Nat.le_trans (say_len _ _ _).1 (hm _), ?_⟩
  rcases h.row.at_ with h0 | ⟨b', o', e', hlt, hcc⟩
  · omega
  · cases e'
    exact ⟨by rw [hcc m (by omega), h.pos m (by omega)], hlt⟩

theorem okS_name {T : ByteArray → Bool} {x : NodeD} (h : okS T x = true) (hk : x.k = 3 ∨ x.k = 17 ∨ (19 ≤ x.k ∧ x.k ≤ 22)) : ∃ hi, nameB x.s hi = true := by
  unfold okS at h
  by_cases e2 : x.k = 2
  · omega
  rw [if_neg e2] at h
  split at h
  · exact ⟨_, h⟩
  · split at h
    · exact ⟨_, h⟩
    · omega

theorem stmtI_any (ns : List NodeD) (T : ByteArray → Bool) (hG : GlTree Z) (hk : 19 ≤ x.k ∧ x.k ≤ 25 ∨ x.k = 8) (hf : fieldsS T x = true) (hkb : kidsB x.k (kinds ns x.kids) = true) (hs : x.s.size ≤ 1048576) (s1 s2 : Option Addr) (n1 c1 n2 c2 : Nat) (h : KidsQ Z tb fb a n cap G x s2 n2 c2) (hn2 : n2 ≤ 1048576) :
    SaysI Z tb fb 85 #[prV a n cap tb fb, .agg #[.int .i64 x.k, .int .i64 x.n, .int .i64 x.m, .string x.s, .slice s1 n1 c1, .slice s2 n2 c2]] (nodeP looksD ns G x) := by
  obtain ⟨⟨hN, -⟩, hS, -⟩ := fields_at hf
  have hl := h.row.len
  have hcn := kids_cnt hkb
  rw [kinds_len, hl] at hcn
  by_cases e8 : x.k = 8
  · refine saysI_congr (stI_8 Z tb fb a n cap x.k x.n x.m e8 x.s s1 n1 c1 s2 n2 c2 hn2) (fun st => ?_)
    unfold nodeP
    simp [e8]
  by_cases e25 : x.k = 25
  · refine saysI_congr (stI_25 Z tb fb a n cap x.k x.n x.m e25 x.s s1 n1 c1 s2 n2 c2 _ (h.list hG 8900 ⟨#[226, 139, 132]⟩ (by decide) sg_8900).1 hn2) (fun st => ?_)
    unfold nodeP
    simp [e25]
  by_cases e24 : x.k = 24
  · refine saysI_congr (stI_24 Z tb fb a n cap x.k x.n x.m e24 x.s s1 n1 c1 s2 n2 c2 _ (h.list hG 58 ⟨#[58]⟩ (by decide) sg_58).1 hn2) (fun st => ?_)
    unfold nodeP
    simp [e24]
  have hpos : 0 < n2 := by omega
  obtain ⟨kb, ko, rfl, _, _⟩ := h.row.get hpos
  obtain ⟨m, rfl⟩ : ∃ m, n2 = m + 1 := ⟨n2 - 1, by omega⟩
  have hm1 : x.kids.length - 1 = m := by omega
  have hc := h.room
  obtain ⟨hE, hEm, hz, hkl⟩ := h.assigned hG
  by_cases e23 : x.k = 23
  · have hk0 := h.pos 0 (by omega)
    have hz0 : Z.cell? ⟨kb, ko, none⟩ = some (.int .i64 (kidN x 0 : Nat)) := by
      rcases h.row.at_ with h0 | ⟨b', o', e', hlt, hcc⟩
      · omega
      · cases e'
        have := hcc 0 (by omega)
        rw [hk0, Nat.add_zero] at this
        exact this
    refine saysI_congr (stI_23 Z tb fb a n cap x.k x.n x.m e23 x.s s1 n1 c1 kb ko c2 m (kidN x m) hkl hz hc (by omega) _ hE hEm (kidN x 0) hz0 _ (saysI_brT Z tb fb hG a n cap G (kidN x 0) (h.says 0 (by omega)) (h.mono 0 (by omega)))) (fun st => ?_)
    unfold nodeP
    simp [e23, hm1]
  obtain ⟨hi, hnm⟩ := okS_name hS (by omega)
  have hNm := saysI_name Z tb fb hG a n cap x.s hi hnm hs
  by_cases e19 : x.k = 19 ∨ x.k = 20
  · refine saysI_congr (stI_19 Z tb fb a n cap x.k x.n x.m e19 x.s s1 n1 c1 kb ko c2 m (kidN x m) hkl hz hc (by omega) _ hE hEm hNm) (fun st => ?_)
    unfold nodeP
    rcases e19 with e | e <;> simp [e, hm1]
  by_cases e21 : x.k = 21
  · obtain ⟨hL, hLm⟩ := h.listTo hG m (by omega) c2
    refine saysI_congr (stI_21 Z tb fb a n cap x.k x.n x.m e21 x.s s1 n1 c1 kb ko c2 m (kidN x m) hkl hz hc (by omega) _ hE hEm hNm _ (saysI_parts Z tb fb hG a n cap G (some ⟨kb, ko, none⟩) m c2 (x.kids.take m) hL hLm) (parts_mono hLm)) (fun st => ?_)
    unfold nodeP
    simp [e21, hm1]
  have e22 : x.k = 22 := by omega
  have h1 : 1 ≤ x.n ∧ x.n ≤ 16 := by simpa [okN, isSc, e22] using hN
  obtain ⟨N, hNe⟩ : ∃ N : Nat, x.n = ((N : Nat) : Int) := ⟨x.n.toNat, by omega⟩
  have hst := stI_22 Z tb fb hG a n cap x.k x.m e22 x.s s1 n1 c1 kb ko c2 m (kidN x m) hkl hz hc (by omega) _ hE hEm hNm N (by omega)
  rw [← hNe] at hst
  refine saysI_congr hst (fun st => ?_)
  unfold nodeP
  simp [e22, hm1]

theorem fnI_any (ns : List NodeD) (T : ByteArray → Bool) (hG : GlTree Z) (hk : 11 ≤ x.k ∧ x.k ≤ 18) (hf : fieldsS T x = true) (hs : x.s.size ≤ 1048576) (s1 s2 : Option Addr) (n1 c1 n2 c2 : Nat) (h : KidsQ Z tb fb a n cap G x s2 n2 c2) :
    SaysI Z tb fb 84 #[prV a n cap tb fb, .agg #[.int .i64 x.k, .int .i64 x.n, .int .i64 x.m, .string x.s, .slice s1 n1 c1, .slice s2 n2 c2]] (nodeP looksD ns G x) := by
  obtain ⟨⟨hN, hM⟩, hS, -⟩ := fields_at hf
  by_cases e16 : x.k = 16
  · obtain ⟨hL, hLm⟩ := h.list hG 8900 ⟨#[226, 139, 132]⟩ (by decide) sg_8900
    refine saysI_congr (fnI_16 Z tb fb hG a n cap x.k x.n x.m e16 x.s s1 n1 c1 s2 n2 c2 _ hL hLm) (fun st => ?_)
    unfold nodeP
    simp [e16]
  by_cases e17 : x.k = 17
  · obtain ⟨hi, hnm⟩ := okS_name hS (by omega)
    refine saysI_congr (fnI_17 Z tb fb a n cap x.k x.n x.m e17 x.s s1 n1 c1 s2 n2 c2 (saysI_name Z tb fb hG a n cap x.s hi hnm hs)) (fun st => ?_)
    unfold nodeP
    simp [e17]
  by_cases e18 : x.k = 18
  · refine saysI_congr (fnI_18 Z tb fb hG a n cap x.k x.n x.m e18 x.s s1 n1 c1 s2 n2 c2) (fun st => ?_)
    unfold nodeP
    simp [e18]
  have h1 : 1 ≤ x.n ∧ x.n ≤ 33 := by
    unfold okN at hN
    split at hN
    · unfold isSc at hN; rw [decide_eq_true_eq] at hN; omega
    · rw [if_pos (by omega), decide_eq_true_eq] at hN; exact hN
  obtain ⟨N, hNe⟩ : ∃ N : Nat, x.n = ((N : Nat) : Int) := ⟨x.n.toNat, by omega⟩
  have hNb : 1 ≤ N ∧ N ≤ 33 := by omega
  by_cases e11 : x.k = 11
  · have hst := fnI_11 Z tb fb hG a n cap x.k x.m e11 x.s s1 n1 c1 s2 n2 c2 N hNb
    rw [← hNe] at hst
    refine saysI_congr hst (fun st => ?_)
    unfold nodeP
    simp [e11]
  by_cases e12 : x.k = 12
  · have h2 : 0 ≤ x.m ∧ x.m ≤ 1 := by simpa [okM, e12] using hM
    have hst := fnI_12 Z tb fb hG a n cap x.k x.m e12 x.s s1 n1 c1 s2 n2 c2 N hNb h2 _ rfl
    rw [← hNe] at hst
    refine saysI_congr hst (fun st => ?_)
    unfold nodeP
    simp [e12]
  by_cases e13 : x.k = 13
  · have h2 : 0 ≤ x.m ∧ x.m ≤ 1 := by simpa [okM, e13] using hM
    have hst := fnI_13 Z tb fb hG a n cap x.k x.m e13 x.s s1 n1 c1 s2 n2 c2 N hNb h2 _ rfl
    rw [← hNe] at hst
    refine saysI_congr hst (fun st => ?_)
    unfold nodeP
    simp [e13]
  by_cases e14 : x.k = 14
  · have hst := fnI_14 Z tb fb hG a n cap x.k x.m e14 x.s s1 n1 c1 s2 n2 c2 N hNb
    rw [← hNe] at hst
    refine saysI_congr hst (fun st => ?_)
    unfold nodeP
    simp [e14]
  have e15 : x.k = 15 := by omega
  have h2 : 1 ≤ x.m ∧ x.m ≤ 16 := by simpa [okM, isSc, e15] using hM
  obtain ⟨M, hMe⟩ : ∃ M : Nat, x.m = ((M : Nat) : Int) := ⟨x.m.toNat, by omega⟩
  have hst := fnI_15 Z tb fb hG a n cap x.k e15 x.s s1 n1 c1 s2 n2 c2 N hNb M (by omega)
  rw [← hNe, ← hMe] at hst
  refine saysI_congr hst (fun st => ?_)
  unfold nodeP
  simp [e15]

end

theorem saysI_node_any (Z : World) (tb fb : Nat) (hG : GlTree Z) (a : Option Addr) (n cap : Nat) (ns : List NodeD) (st0 : List (Nat × Nat)) (hT : GoodT txtB ns st0) (hs : SmallD ns n) (hr : NRow Z a n ns)
    (hcap : ∀ b off, a = some ⟨b, off, none⟩ → ∀ i, i < n → ∀ s m c, Z.cell? ⟨b, off + i * 6 + 5, none⟩ = some (.slice s m c) → m ≤ c) :
    ∀ f i, i < f → i < n → SaysI Z tb fb 39 #[prV a n cap tb fb, .int .i64 (i : Nat)] (prP looksD ns f i)
  | 0, i, h, _ => absurd h (Nat.not_lt_zero _)
  | f + 1, i, hif, hi => by
    have hln : ns.length = n := hr.len
    have hs' : SmallD ns ns.length := by rw [hln]; exact hs
    have hil : i < ns.length := by omega
    have IH : ∀ z, z < f → z < n → SaysI Z tb fb 39 #[prV a n cap tb fb, .int .i64 (z : Nat)] (prP looksD ns f z) := fun z hz hzn => saysI_node_any Z tb fb hG a n cap ns st0 hT hs hr hcap f z hz hzn
    have hki := hT.kidIn hil
    have hkb := hT.kids i hil
    have hfd := hT.fields i hil
    have hkd := hT.kind i hil
    have hcn := kids_cnt hkb
    rw [kinds_len] at hcn
    obtain ⟨b, off, rfl, hbl, s1, n1, c1, s2, n2, c2, x0, x1, x2, x3, x4, x5, r1, r2⟩ := hr.get hi
    have hroom := hcap b off rfl i hi s2 n2 c2 x5
    have hl2 := r2.len
    have HK : KidsQ Z tb fb (some ⟨b, off, none⟩) n cap (prP looksD ns f) (node ns i) s2 n2 c2 := ⟨r2, hroom, fun q hq => (hki q (by omega)).1, fun q hq => IH _ (by have := hki q (by omega); omega) (by have := hki q (by omega); omega), fun q hq st => hT.mono hs' f _ (by have := hki q (by omega); omega) (by have := hki q (by omega); omega) st⟩
    have hx : NodeIs Z b (off + i * 6) (node ns i).k (node ns i).n (node ns i).m (node ns i).s (.slice s1 n1 c1) (.slice s2 n2 c2) := ⟨hbl, x0, x1, x2, x3, x4, x5⟩
    have hsi := hs i hi
    have BF : ∀ z, z < f → z < n → SaysI Z tb fb 136 #[prV (some ⟨b, off, none⟩) n cap tb fb, .int .i64 (z : Nat), .bool false] (prP looksD ns f z) := fun z hz hzn => saysI_brF Z tb fb (some ⟨b, off, none⟩) n cap (prP looksD ns f) z (IH z hz hzn)
    have BT : ∀ z, z < f → z < n → SaysI Z tb fb 136 #[prV (some ⟨b, off, none⟩) n cap tb fb, .int .i64 (z : Nat), .bool true] (fun st => sayS looksD (prP looksD ns f z (sayS looksD st 40)) 41) := fun z hz hzn => saysI_brT Z tb fb hG (some ⟨b, off, none⟩) n cap (prP looksD ns f) z (IH z hz hzn) (fun st => hT.mono hs' f z hz (by omega) st)
    have OP : ∀ z, z < f → z < n → SaysI Z tb fb 129 #[prV (some ⟨b, off, none⟩) n cap tb fb, .int .i64 (z : Nat)] (operP looksD ns (prP looksD ns f) z) := fun z hz hzn => saysI_operand Z tb fb (some ⟨b, off, none⟩) n cap ns hr (prP looksD ns f) z hzn (BF z hz hzn) (BT z hz hzn)
    have AP : ∀ y z, y < f → z < f → y < n → z < n → SaysI Z tb fb 131 #[prV (some ⟨b, off, none⟩) n cap tb fb, .int .i64 (y : Nat), .int .i64 (z : Nat)] (applP looksD ns (prP looksD ns f) y z) := fun y z hy hz hyn hzn => by
      refine saysI_applied Z tb fb (some ⟨b, off, none⟩) n cap ns hr (prP looksD ns f) y z hyn hzn (fun e => ?_) (IH y hy hyn) (fun st => hT.mono hs' f z hz (by omega) st) (BF z hz hzn) (BT z hz hzn)
      have hc9 := (kids_cnt (hT.kids z (by omega))).2.1 e
      rw [kinds_len] at hc9
      have hk0 := hT.kidIn (i := z) (by omega) 0 (by omega)
      exact ⟨by omega, hk0.1, by omega⟩
    rw [show prP looksD ns (f + 1) i = nodeP looksD ns (prP looksD ns f) (node ns i) from rfl]
    obtain ⟨x, hxe⟩ : ∃ x, node ns i = x := ⟨_, rfl⟩
    rw [hxe] at hki hkb hfd hkd hcn hl2 HK hx hsi r1 r2 ⊢
    obtain ⟨⟨hN, hM⟩, hS, hU⟩ := fields_at hfd
    by_cases eF : 11 ≤ x.k ∧ x.k ≤ 18
    · refine saysI_nodeF Z tb fb b off n cap i hi x.k x.n x.m x.s s1 n1 c1 s2 n2 c2 hx ?_ ?_ _ (fnI_any ns txtB hG eF hfd hsi.1 s1 s2 n1 c1 n2 c2 HK)
      · unfold isE sortK; rw [if_neg (by omega), if_neg (by omega), if_pos eF]; rfl
      · unfold isF sortK; rw [if_neg (by omega), if_neg (by omega), if_pos eF]; rfl
    by_cases eS : 19 ≤ x.k ∧ x.k ≤ 25 ∨ x.k = 8
    · refine saysI_nodeS Z tb fb b off n cap i hi x.k x.n x.m x.s s1 n1 c1 s2 n2 c2 hx ?_ ?_ _ (stmtI_any ns txtB hG eS hfd hkb hsi.1 s1 s2 n1 c1 n2 c2 HK (by omega))
      · unfold isE sortK; split <;> (try split) <;> (try split) <;> (try split) <;> (try split) <;> (try split) <;> first | rfl | omega
      · unfold isF sortK; split <;> (try split) <;> (try split) <;> (try split) <;> (try split) <;> (try split) <;> first | rfl | omega
    have hEk : isE x.k = true := by unfold isE sortK; rw [if_pos (by omega)]; rfl
    refine saysI_nodeE Z tb fb b off n cap i hi x.k x.n x.m x.s s1 n1 c1 s2 n2 c2 hx hEk _ ?_
    by_cases e1 : x.k = 1
    · refine saysI_congr (exI_1 Z tb fb hG (some ⟨b, off, none⟩) n cap x.k x.n x.m e1 x.s s1 n1 c1 s2 n2 c2 x.nums r1 ?_) (fun st => ?_)
      · unfold okNums at hU
        rw [if_pos e1, Bool.and_eq_true] at hU
        exact hU.1
      · unfold nodeP
        rw [if_pos e1]
    by_cases e2 : x.k = 2
    · refine saysI_congr (exI_2 Z tb fb hG (some ⟨b, off, none⟩) n cap x.k x.n x.m e2 x.s hsi.1 ?_ s1 n1 c1 s2 n2 c2) (fun st => ?_)
      · unfold okS at hS
        rw [if_pos e2] at hS
        exact hS
      · unfold nodeP
        simp [e2]
    by_cases e3 : x.k = 3
    · obtain ⟨hi', hnm⟩ := okS_name hS (.inl e3)
      refine saysI_congr (exI_3 Z tb fb (some ⟨b, off, none⟩) n cap x.k x.n x.m e3 x.s s1 n1 c1 s2 n2 c2 (saysI_name Z tb fb hG (some ⟨b, off, none⟩) n cap x.s hi' hnm hsi.1)) (fun st => ?_)
      unfold nodeP
      simp [e3]
    by_cases e4 : x.k = 4
    · refine saysI_congr (exI_4 Z tb fb hG (some ⟨b, off, none⟩) n cap x.k x.n x.m e4 x.s s1 n1 c1 s2 n2 c2) (fun st => ?_)
      unfold nodeP
      simp [e4]
    by_cases e5 : x.k = 5
    · refine saysI_congr (exI_5 Z tb fb hG (some ⟨b, off, none⟩) n cap x.k x.n x.m e5 x.s s1 n1 c1 s2 n2 c2) (fun st => ?_)
      unfold nodeP
      simp [e5]
    by_cases e6 : x.k = 6
    · refine saysI_congr (exI_6 Z tb fb hG (some ⟨b, off, none⟩) n cap x.k x.n x.m e6 x.s s1 n1 c1 s2 n2 c2) (fun st => ?_)
      unfold nodeP
      simp [e6]
    have hpos : 0 < n2 := by omega
    have hk0 := hki 0 (by omega)
    obtain ⟨kb, ko, rfl, hkl, hk0c⟩ := r2.get hpos
    have hcellK : ∀ q, q < n2 → Z.cell? ⟨kb, ko + q, none⟩ = some (.int .i64 (kidN x q : Nat)) := fun q hq => by
      rcases r2.at_ with h0 | ⟨b', o', e', _, hcc⟩
      · omega
      · cases e'
        rw [hcc q hq, (hki q (by omega)).1]
    by_cases e7 : x.k = 7
    · obtain ⟨m, rfl⟩ : ∃ m, n2 = m + 1 := ⟨n2 - 1, by omega⟩
      obtain ⟨hL, hLm⟩ := HK.listFrom hG (c2 - 1)
      refine saysI_congr (exI_7 Z tb fb (some ⟨b, off, none⟩) n cap x.k x.n x.m e7 x.s s1 n1 c1 kb ko c2 m (by omega) (by omega) hroom hkl (kidN x 0) (hcellK 0 (by omega)) _ _ (OP (kidN x 0) (by omega) (by omega)) (saysI_parts Z tb fb hG (some ⟨b, off, none⟩) n cap (prP looksD ns f) (some ⟨kb, ko + 1, none⟩) m (c2 - 1) (x.kids.drop 1) hL hLm) (parts_mono hLm)) (fun st => ?_)
      unfold nodeP
      simp [e7, show x.kids.length - 1 = m by omega]
    by_cases e9 : x.k = 9
    · have h2 : n2 = 2 := by omega
      subst h2
      have hk1 := hki 1 (by omega)
      refine saysI_congr (exI_9 Z tb fb (some ⟨b, off, none⟩) n cap x.k x.n x.m e9 x.s s1 n1 c1 kb ko c2 hkl (kidN x 0) (kidN x 1) (hcellK 0 (by omega)) (hcellK 1 (by omega)) _ (AP (kidN x 0) (kidN x 1) (by omega) (by omega) (by omega) (by omega))) (fun st => ?_)
      unfold nodeP
      simp [e9]
    have e10 : x.k = 10 := by omega
    have h3 : n2 = 3 := by omega
    subst h3
    have hk1 := hki 1 (by omega)
    have hk2 := hki 2 (by omega)
    refine saysI_congr (exI_10 Z tb fb (some ⟨b, off, none⟩) n cap x.k x.n x.m e10 x.s s1 n1 c1 kb ko c2 hkl (kidN x 0) (kidN x 1) (kidN x 2) (hcellK 0 (by omega)) (hcellK 1 (by omega)) (hcellK 2 (by omega)) _ _ (OP (kidN x 0) (by omega) (by omega)) (AP (kidN x 1) (kidN x 2) (by omega) (by omega) (by omega) (by omega)) (fun st => ?_)) (fun st => ?_)
    · exact (appl_len (looks_short hs') (prP looksD ns f) (kidN x 1) (kidN x 2) _ _ (fun st => pr_len (looks_short hs') hT.ord hT.kids f (kidN x 1) (by omega) (by omega) st) (fun st => pr_len (looks_short hs') hT.ord hT.kids f (kidN x 2) (by omega) (by omega) st) st).1
    · unfold nodeP
      simp [e10]

end Go.Proofs.YtinndpnilmmmjaaGreatDoor
namespace Go.Proofs.YtinndpnilmmmjaaGreatDoor
open Go.RowKit

/-- The slice (a, n, _) reads as the bytes zs, lies in a block from B on, and may be written. -/
structure OwnB (w : World) (B : Nat) (a : Option Addr) (n : Nat) (zs : List Int) : Prop where
  len : zs.length = n
  small : n ≤ 17592186044416
  at_ : n = 0 ∨ ∃ g off, a = some ⟨g, off, none⟩ ∧ B ≤ g ∧ g < w.heap.size ∧ (∀ i, i < n → w.cell? ⟨g, off + i, none⟩ = some (.int .u8 (zs.getD i 0))) ∧ (∀ i, i < n → w.frozen? ⟨g, off + i, none⟩ = false)

theorem OwnB.row {w : World} {B : Nat} {a : Option Addr} {n : Nat} {zs : List Int} (h : OwnB w B a n zs) : RowB w a n zs := by
  refine ⟨h.len, ?_⟩
  rcases h.at_ with h0 | ⟨g, off, rfl, _, hlt, hc, _⟩
  · exact .inl h0
  · exact .inr ⟨g, off, rfl, hlt, hc⟩

theorem OwnB.low {w : World} {B : Nat} {a : Option Addr} {n : Nat} {zs : List Int} (h : OwnB w B a n zs) {k : Nat} (hk : At a n k) : B ≤ k := by
  rcases h.at_ with h0 | ⟨g, off, rfl, hg, _⟩
  · exact absurd h0 hk.1
  · have := at_eq hk; omega

theorem OwnB.below {w w' : World} {a : Option Addr} {n : Nat} {zs : List Int} {B C : Nat} (h : OwnB w C a n zs) (hB : w.heap.size ≤ B) (hb : Below B w w') : OwnB w' C a n zs := by
  refine ⟨h.len, h.small, ?_⟩
  rcases h.at_ with h0 | ⟨g, off, rfl, hg, hlt, hc, hf⟩
  · exact .inl h0
  · exact .inr ⟨g, off, rfl, hg, Nat.lt_of_lt_of_le hlt hb.size, fun i hi => (hb.cell (p := ⟨g, off + i, none⟩) (Nat.lt_of_lt_of_le hlt hB)).trans (hc i hi), fun i hi => (hb.frozen (p := ⟨g, off + i, none⟩) (Nat.lt_of_lt_of_le hlt hB)).trans (hf i hi)⟩

theorem But.ownB {S : Nat → Prop} {b : Option Addr} {m B : Nat} {w w' : World} {ys : List Int} (h : But S w w') (ho : OwnB w B b m ys) (hap : ∀ k, S k → ¬ At b m k) : OwnB w' B b m ys := by
  refine ⟨ho.len, ho.small, ?_⟩
  rcases ho.at_ with h0 | ⟨g, off, rfl, hg, hlt, hc, hf⟩
  · exact .inl h0
  · by_cases hm : m = 0
    · exact .inl hm
    have hb := h.block g hlt (fun e => hap g e ⟨hm, _, rfl, rfl⟩)
    exact .inr ⟨g, off, rfl, hg, Nat.lt_of_lt_of_le hlt h.size, fun i hi => (World.cell?_of_block (w := w) (a := ⟨g, off + i, none⟩) hb).trans (hc i hi), fun i hi => (World.frozen?_of_block (w := w) (a := ⟨g, off + i, none⟩) hb).trans (hf i hi)⟩

theorem But.rowB {S : Nat → Prop} {b : Option Addr} {m : Nat} {w w' : World} {ys : List Int} (h : But S w w') (ho : RowB w b m ys) (hap : ∀ k, S k → ¬ At b m k) : RowB w' b m ys := by
  refine ⟨ho.len, ?_⟩
  rcases ho.at_ with h0 | ⟨g, off, rfl, hlt, hc⟩
  · exact .inl h0
  · by_cases hm : m = 0
    · exact .inl hm
    have hb := h.block g hlt (fun e => hap g e ⟨hm, _, rfl, rfl⟩)
    exact .inr ⟨g, off, rfl, Nat.lt_of_lt_of_le hlt h.size, fun i hi => (World.cell?_of_block (w := w) (a := ⟨g, off + i, none⟩) hb).trans (hc i hi)⟩

theorem RowB.hi {w : World} {a : Option Addr} {n : Nat} {zs : List Int} (h : RowB w a n zs) {k : Nat} (hk : At a n k) : k < w.heap.size := by
  rcases h.at_ with h0 | ⟨g, off, rfl, hg, _⟩
  · exact absurd h0 hk.1
  · have := at_eq hk; omega

/-- n marks from k on, as bytes. -/
def marksB (k : Int) (n : Nat) : List Int := (List.range n).map fun (i : Nat) => IntKind.u8.wrap (k + (i : Int))

theorem marksB_len (k : Int) (n : Nat) : (marksB k n).length = n := by simp [marksB]
theorem marksB_get (k : Int) (n i : Nat) (h : i < n) : (marksB k n).getD i 0 = IntKind.u8.wrap (k + i) := by simp [marksB, h]

theorem markByteS_any (a : Option Addr) (n cap B : Nat) (zs : List Int) (k : Int) (w : World) (h : OwnB w B a n zs) (hk0 : 0 ≤ k) (hk : k ≤ 4611686018427387904) :
    Calls Tryz.prog 16 #[.slice a n cap, .int .i64 k] w fun e w' => e = .returned (.int .i64 (k + n)) ∧ OwnB w' B a n (marksB k n) ∧ But (At a n) w w' := by
  obtain ⟨hlen, hsm, hat⟩ := h
  go_enter Tryz.func16, Tryz.ntmps16
  go_wp2
  go_loopw [1, 5] (fun c i wr => ∃ j : Nat, j ≤ n ∧ i = .int .i64 j ∧ c = .int .i64 (k + j) ∧ But (At a n) w wr ∧
    (n = 0 ∨ ∃ g off, a = some ⟨g, off, none⟩ ∧ B ≤ g ∧ g < wr.heap.size ∧ (∀ i, i < j → wr.cell? ⟨g, off + i, none⟩ = some (.int .u8 (IntKind.u8.wrap (k + i)))) ∧ (∀ i, i < n → (wr.cell? ⟨g, off + i, none⟩).isSome = true) ∧ (∀ i, i < n → wr.frozen? ⟨g, off + i, none⟩ = false))) (fun _ i _ => n - (intOf i).toNat)
  case atStart =>
    refine ⟨0, Nat.zero_le _, rfl, by simp, But.refl _ _, ?_⟩
    rcases hat with h0 | ⟨g, off, rfl, hg, hlt, hc, hf⟩
    · exact .inl h0
    · exact .inr ⟨g, off, rfl, hg, hlt, fun i hi => absurd hi (Nat.not_lt_zero _), fun i hi => by rw [hc i hi]; rfl, hf⟩
  case round =>
    obtain ⟨j, hj, rfl, rfl, hbut, hst⟩ := hrel
    by_cases hlt : j < n
    · rcases hst with h0 | ⟨g, off, rfl, hg, hgl, hc, hs, hf⟩
      · omega
      · clear hat
        have hs1 := hs j hlt
        have hf1 := hf j hlt
        obtain ⟨u, hu⟩ := Option.isSome_iff_exists.mp hs1
        have HB := hide hbut
        have HS := hide hs
        have HF := hide hf
        have HC := hide hc
        clear hbut hs hf hc
        go_wp2
        go_roundw
        case rel =>
          refine ⟨j + 1, by omega, by go_num, by go_num, (unhide HB).setCell (at_self (by omega)) _, .inr ⟨g, off, rfl, hg, by simpa using hgl, fun i hi => ?_, fun i hi => ?_, fun i hi => ?_⟩⟩
          · by_cases hij : i = j
            · subst hij
              exact World.cell?_setCell_same _ _ _ hu
            · rw [World.cell?_setCell_other _ _ _ _ (by simp <;> omega)]
              exact unhide HC i (by omega)
          · by_cases hij : i = j
            · subst hij
              rw [World.cell?_setCell_same _ _ _ hu]; rfl
            · rw [World.cell?_setCell_other _ _ _ _ (by simp <;> omega)]
              exact unhide HS i hi
          · simpa using unhide HF i hi
        case measure => simp [intOf]; omega
    · have hjn : j = n := by omega
      subst hjn
      have HB := hide hbut
      have HT := hide hst
      clear hbut hst hat
      go_wp2
      go_ret
      refine ⟨rfl, ⟨marksB_len _ _, hsm, ?_⟩, unhide HB⟩
      rcases unhide HT with h0 | ⟨g, off, rfl, hg, hgl, hc, hs, hf⟩
      · exact .inl h0
      · exact .inr ⟨g, off, rfl, hg, hgl, fun i hi => by rw [marksB_get _ _ _ hi]; exact hc i hi, hf⟩

end Go.Proofs.YtinndpnilmmmjaaGreatDoor
namespace Go.Proofs.YtinndpnilmmmjaaGreatDoor
open Go.RowKit

/-- '[]byte(s)', a list of the call's own. -/
theorem conv_own (w : World) (s : ByteArray) (hs : s.size ≤ 17592186044416) : ∃ cap W1, (convert 9 33 (.string s)).run Tryz.prog w = .ok (.slice (some ⟨w.heap.size, 0, none⟩) s.size cap) W1 ∧ OwnB W1 w.heap.size (some ⟨w.heap.size, 0, none⟩) s.size (bz s) ∧ Below w.heap.size w W1 := by
  have h := run_bytes_of_string (P := Tryz.prog) w 9 33 5 s Tryz.underlying9 Tryz.underlying33 Tryz.underlying5
  obtain ⟨cap1, W1, h1, hc, hrow, hb, hz⟩ := conv_str w s
  rw [h] at h1
  have e1 := Result.ok.inj h1
  have eW := e1.2
  refine ⟨cap1, W1, by rw [h]; exact h1, ⟨hrow.len, hs, ?_⟩, hb⟩
  rcases hrow.at_ with h0 | ⟨b, off, e, hlt, hcell⟩
  · exact .inl h0
  · cases e
    refine .inr ⟨w.heap.size, 0, rfl, Nat.le_refl _, hlt, hcell, fun i hi => ?_⟩
    subst eW
    obtain ⟨C, hC⟩ : ∃ C, bytesRow s (grownCap w s.size 0 5) = C := ⟨_, rfl⟩
    have hCs : s.size ≤ C.size := by
      rw [← hC]
      unfold bytesRow
      rw [Array.size_append, Array.size_map]
      exact Nat.le_add_right _ _
    rw [hC]
    have hblk : (w.drew.alloc (.cells C 5 (C.size, C.size + 1))).heap[w.heap.size]? = some (.cells C 5 (C.size, C.size + 1)) := by
      show (w.heap.push _)[w.heap.size]? = _
      simp
    show World.frozen? (w.drew.alloc (.cells C 5 (C.size, C.size + 1))) ⟨w.heap.size, 0 + i, none⟩ = false
    unfold World.frozen?
    show (match (w.drew.alloc (.cells C 5 (C.size, C.size + 1))).heap[w.heap.size]? with | some (Obj.cells _ _ (lo, hi)) => (decide (lo ≤ 0 + i) && decide (0 + i < hi)) | _ => false) = false
    rw [hblk]
    simp
    omega

/-- The developers' writer as it is made. -/
theorem IX.start (Z : World) : IX Z Z.heap.size (Z.heap.size + 1) ((Z.alloc (.cells #[.pointer none, .slice none 0 0] 62)).alloc (.cells #[.bool false] 4)) ([], false) := by
  have hs : (Z.alloc (.cells #[.pointer none, .slice none 0 0] 62)).heap.size = Z.heap.size + 1 := by simp
  have hi : IsB (Z.alloc (.cells #[.pointer none, .slice none 0 0] 62)) Z.heap.size Z.heap.size [] := Lib.IsBuilderF.of (Lib.fresh_isBuilder (Tryz.replaceS_ren.t 72) (Tryz.replaceS_ren.t 5) Z)
  refine ⟨hi.below ((Below.refl _ _).alloc (Nat.le_refl _) _), ?_, ((Below.refl _ _).alloc (Nat.le_refl _) _).alloc (by rw [hs]; omega) _, by omega⟩
  rw [← hs]
  generalize Z.alloc (.cells #[.pointer none, .slice none 0 0] 62) = W
  show (W.heap.push _)[W.heap.size]? = _
  simp

/-- A closure put into the printer as it is made. -/
theorem store_clo (Z : World) (a : Option Addr) (n cap : Nat) (v : Value) (hv : v.oneCell' = true) : (store ⟨Z.heap.size + 1 + 1, 1, none⟩ v).run Tryz.prog (((Z.alloc (.cells #[.pointer none, .slice none 0 0] 62)).alloc (.cells #[.bool false] 4)).alloc (.cells #[.slice a n cap, .nilFunc] 73)) = .ok () (((Z.alloc (.cells #[.pointer none, .slice none 0 0] 62)).alloc (.cells #[.bool false] 4)).alloc (.cells #[.slice a n cap, v] 73)) := by
  rw [run_store _ _ _ _ _ hv]
  go_simp

theorem cell_three (Z : World) (o1 o2 o3 : Obj) (q : Nat) (v : Value) (hq : q < Z.heap.size) (hv : Z.cell? ⟨q, 0, none⟩ = some v) : (((Z.alloc o1).alloc o2).alloc o3).cell? ⟨q, 0, none⟩ = some v := by
  have hb : Below Z.heap.size Z (((Z.alloc o1).alloc o2).alloc o3) := (((Below.refl _ _).alloc (Nat.le_refl _) _).alloc (by simp) _).alloc (by simp; omega) _
  exact (hb.cell (p := ⟨q, 0, none⟩) hq).trans hv

theorem uz_arr (l : List UInt8) : bz ⟨l.toArray⟩ = uz l := rfl

set_option maxRecDepth 20000 in
set_option maxHeartbeats 2000000 in
theorem implUnparse_any (a : Option Addr) (n cap : Nat) (ns : List NodeD) (w : World) (h : NRowC w a n ns) (hsm : SmallD ns n) (hG : GlTree w) :
    Calls Tryz.prog 13 #[.agg #[.slice a n cap]] w fun e w' => ∃ b m d, e = .returned (.tuple #[.slice b m d, .bool (treeB txtB ns)]) ∧ OwnB w' w.heap.size b m (uz (unpT ns)) ∧ Below w.heap.size w w' := by
  have hln : ns.length = n := h.row.len
  have hn1 := h.row.small
  obtain ⟨Q, hQ⟩ : ∃ Q, Q = w.alloc (.cells #[.slice a n cap] 29) := ⟨_, rfl⟩
  have HQ := hide hQ
  have HBQ : Hid (Below w.heap.size w Q) := by rw [hQ]; exact (Below.refl _ _).alloc (Nat.le_refl _) _
  have hQlt : w.heap.size < Q.heap.size := by rw [hQ]; simp
  have HQC : Hid (Q.cell? ⟨w.heap.size, 0, none⟩ = some (.slice a n cap)) := by rw [hQ]; show (w.alloc _).cell? _ = _; simp
  have HTC := hide (implTree_any a n cap ns Q (h.below (Nat.le_refl _) (unhide HBQ)) hsm (hG.below (unhide HBQ)))
  have HH := hide h
  have HSM := hide hsm
  have HG := hide hG
  obtain ⟨r, hr⟩ : ∃ r, treeB txtB ns = r := ⟨_, rfl⟩
  rw [hr] at HTC
  rw [hr]
  clear hQ h hsm hG
  cases r with
  | false =>
    have HU : Hid (unpT ns = []) := by show _ = _; unfold unpT; rw [hr]; rfl
    clear hr HH HSM HG
    go_enter Tryz.func13, Tryz.ntmps13
    go_wp2_with (go_at_call 10; rw [← unhide HQ]; refine (unhide HTC).mono ?_; rintro e w1 ⟨rfl, hb1⟩; have HB1 := hide ((unhide HBQ).trans (hb1.mono (unhide HBQ).size)); clear hb1)
    go_ret2
    refine ⟨none, 0, 0, rfl, ?_, unhide HB1⟩
    rw [unhide HU]
    exact ⟨rfl, by omega, .inl rfl⟩
  | true =>
    obtain ⟨st0, hT⟩ := tree_known hr
    have h1 := hT.some_
    obtain ⟨m, rfl⟩ : ∃ m, n = m + 1 := ⟨n - 1, by omega⟩
    have HT := hide hT
    obtain ⟨l, hl⟩ : ∃ l, (prP looksD ns (m + 1) m ([], false)).1 = l := ⟨_, rfl⟩
    have hlen : lenP (prP looksD ns (m + 1) m ([], false)) ≤ mostP := by
      have hs' : SmallD ns ns.length := by rw [hln]; exact unhide HSM
      have h2 := unp_len hs'
      unfold unpT at h2
      rw [if_pos hr, hln] at h2
      show (prP looksD ns (m + 1) (m + 1 - 1) ([], false)).1.length ≤ mostP
      unfold mostP
      omega
    have hll : l.length ≤ 17592186044416 := by
      rw [← hl]
      unfold lenP mostP at hlen
      omega
    have HLEN := hide hlen
    have HU : Hid (unpT ns = l) := by show _ = _; unfold unpT; rw [if_pos hr, hln, ← hl]; rfl
    have HL := hide hl
    have hsub : ((m + 1 : Nat) : Int) - 1 = (m : Nat) := by omega
    have hsub' : (m : Int) + 1 - 1 = (m : Nat) := by omega
    clear hr hT h1 hlen hl
    go_enter Tryz.func13, Tryz.ntmps13
    go_wp2_with (first | (go_at_call 10; rw [← unhide HQ]; refine (unhide HTC).mono ?_; rintro e w1 ⟨rfl, hb1⟩; have HB1 := hide ((unhide HBQ).trans (hb1.mono (unhide HBQ).size)); have hc1 := (hb1.cell (p := ⟨w.heap.size, 0, none⟩) hQlt).trans (unhide HQC); have hl1 : w.heap.size < w1.heap.size := Nat.lt_of_lt_of_le hQlt hb1.size; have HX0 := hide (IX.start w1); have hst := store_clo w1 a (m + 1) cap (.func (.func 35) #[] #[.pointer (some ⟨w1.heap.size + 1, 0, none⟩), .pointer (some ⟨w1.heap.size, 0, none⟩)]) rfl; have hc3 := cell_three w1 (.cells #[.pointer none, .slice none 0 0] 62) (.cells #[.bool false] 4) (.cells #[.slice a (m + 1) cap, .func (.func 35) #[] #[.pointer (some ⟨w1.heap.size + 1, 0, none⟩), .pointer (some ⟨w1.heap.size, 0, none⟩)]] 73) w.heap.size _ hl1 hc1; clear hb1 HTC) | (go_at_call 39; refine ((saysI_node_any w1 w1.heap.size (w1.heap.size + 1) ((unhide HG).below (unhide HB1)) a (m + 1) cap ns st0 (unhide HT) (unhide HSM) ((unhide HH).below (Nat.le_refl _) (unhide HB1)).row ((unhide HH).below (Nat.le_refl _) (unhide HB1)).cap (m + 1) m (by omega) (by omega)) _ _ ((unhide HX0).below ((Below.refl _ _).alloc (Nat.le_refl _) _)) (unhide HLEN)).mono ?_; rintro e w2 ⟨⟨v2, rfl⟩, hx2, hk2⟩; have HX2 := hide hx2; clear hx2 hk2 HX0) | (go_at_call 40; refine (bstring_any _ _ _ _ (unhide HX2).isb (unhide HX2).low.size).mono ?_; rintro e w3 ⟨rfl, hi3, hb3⟩; rw [unhide HL]; have HB3 := hide ((unhide HX2).low.trans hb3); obtain ⟨cap4, W4, hcv, ho4, hb4⟩ := conv_own w3 ⟨l.toArray⟩ (by show l.toArray.size ≤ _; simpa using hll); have HO4 := hide ho4; have HB4 := hide hb4; clear hi3 hb3 ho4 hb4))
    go_ret2
    have hz := (unhide HB1).size
    have hz3 := (unhide HB3).size
    refine ⟨_, _, cap4, rfl, ?_, ((unhide HB1).trans ((unhide HB3).mono hz)).trans ((unhide HB4).mono (by omega))⟩
    rw [unhide HU]
    have ho := unhide HO4
    refine ⟨ho.len, ho.small, ?_⟩
    rcases ho.at_ with h0 | ⟨g, off, e, hB, r⟩
    · exact .inl h0
    · exact .inr ⟨g, off, e, by omega, r⟩

end Go.Proofs.YtinndpnilmmmjaaGreatDoor
