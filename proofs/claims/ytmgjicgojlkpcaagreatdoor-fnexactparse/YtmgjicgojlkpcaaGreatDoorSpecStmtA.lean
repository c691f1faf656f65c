import Derived.Test.YtmgjicgojlkpcaaGreatDoorSpecStmt22
import Derived.Test.YtmgjicgojlkpcaaGreatDoorKidMath
namespace Go.Proofs.YtmgjicgojlkpcaaGreatDoor
open Go.RowKit

section
variable {Z : World} {p : Nat} {a : Option Addr} {n cap : Nat}

/-- The kids of a node, in a run: their row, and that each is written. -/
structure KidsP (Z : World) (p : Nat) (a : Option Addr) (n cap : Nat) (G : Nat → List UInt8 × Bool → List UInt8 × Bool) (x : NodeD) (s2 : Option Addr) (n2 c2 : Nat) : Prop where
  row : Row Z s2 n2 x.kids
  room : n2 ≤ c2
  pos : ∀ q, q < n2 → x.kids.getD q 0 = ((kidN x q : Nat) : Int)
  says : ∀ q, q < n2 → SaysP Z p a n cap 34 #[.pointer (some ⟨p, 0, none⟩), .int .i64 (kidN x q : Nat)] (G (kidN x q))
  mono : ∀ q, q < n2 → ∀ st, lenP st ≤ lenP (G (kidN x q) st)

theorem KidsP.list {G : Nat → List UInt8 × Bool → List UInt8 × Bool} {x : NodeD} {s2 : Option Addr} {n2 c2 : Nat} (h : KidsP Z p a n cap G x s2 n2 c2) (c : Nat) (sg : ByteArray) (hsg : sg.data.toList = looksD.sg c) :
    SaysP Z p a n cap 79 #[.pointer (some ⟨p, 0, none⟩), .slice s2 n2 c2, .string sg] (listP looksD G c x.kids x.kids.length) := by
  have hl := h.row.len
  rw [hl]
  exact says_list Z p a n cap looksD G c sg s2 n2 c2 (fun _ => hsg) x.kids h.row (fun q hq => h.pos q hq) (fun q hq => h.says q hq) (fun q hq => h.mono q hq)

theorem list_mono0 {G : Nat → List UInt8 × Bool → List UInt8 × Bool} {c : Nat} {zs : List Int} {m : Nat} (hm : ∀ q, q < m → ∀ st, lenP st ≤ lenP (G (zs.getD q 0).toNat st)) (st : List UInt8 × Bool) : lenP st ≤ lenP (listP looksD G c zs m st) := by
  have := list_mono looksD G c zs st hm m 0 (by omega)
  exact this

theorem KidsP.listTo {G : Nat → List UInt8 × Bool → List UInt8 × Bool} {x : NodeD} {kb ko n2 c2 : Nat} (h : KidsP Z p a n cap G x (some ⟨kb, ko, none⟩) n2 c2) (m : Nat) (hm : m ≤ n2) (c : Nat) (sg : ByteArray) (hsg : 1 < m → sg.data.toList = looksD.sg c) (d : Nat) :
    SaysP Z p a n cap 79 #[.pointer (some ⟨p, 0, none⟩), .slice (some ⟨kb, ko, none⟩) m d, .string sg] (listP looksD G c (x.kids.take m) m) ∧ (∀ st, lenP st ≤ lenP (listP looksD G c (x.kids.take m) m st)) := by
  have hm2 : ∀ q, q < m → ∀ st, lenP st ≤ lenP (G ((x.kids.take m).getD q 0).toNat st) := fun q hq => by rw [take_getD hq]; exact h.mono q (by omega)
  refine ⟨says_list Z p a n cap looksD G c sg (some ⟨kb, ko, none⟩) m d hsg (x.kids.take m) (h.row.cutTo hm) (fun q hq => ?_) (fun q hq => ?_) hm2, list_mono0 hm2⟩
  · rw [take_getD hq]; exact h.pos q (by omega)
  · rw [take_getD hq]; exact h.says q (by omega)

theorem KidsP.listFrom {G : Nat → List UInt8 × Bool → List UInt8 × Bool} {x : NodeD} {kb ko m c2 : Nat} (h : KidsP Z p a n cap G x (some ⟨kb, ko, none⟩) (m + 1) c2) (c : Nat) (sg : ByteArray) (hsg : sg.data.toList = looksD.sg c) (d : Nat) :
    SaysP Z p a n cap 79 #[.pointer (some ⟨p, 0, none⟩), .slice (some ⟨kb, ko + 1, none⟩) m d, .string sg] (listP looksD G c (x.kids.drop 1) m) ∧ (∀ st, lenP st ≤ lenP (listP looksD G c (x.kids.drop 1) m st)) := by
  have hm2 : ∀ q, q < m → ∀ st, lenP st ≤ lenP (G ((x.kids.drop 1).getD q 0).toNat st) := fun q hq => by rw [drop_getD]; exact h.mono (q + 1) (by omega)
  refine ⟨says_list Z p a n cap looksD G c sg (some ⟨kb, ko + 1, none⟩) m d (fun _ => hsg) (x.kids.drop 1) h.row.cut1 (fun q hq => ?_) (fun q hq => ?_) hm2, list_mono0 hm2⟩
  · rw [drop_getD]; exact h.pos (q + 1) (by omega)
  · rw [drop_getD]; exact h.says (q + 1) (by omega)

theorem sg_40 : (⟨#[40]⟩ : ByteArray).data.toList = looksD.sg 40 := by kernel_rfl
theorem sg_41 : (⟨#[41]⟩ : ByteArray).data.toList = looksD.sg 41 := by kernel_rfl
theorem sg_91 : (⟨#[91]⟩ : ByteArray).data.toList = looksD.sg 91 := by kernel_rfl
theorem sg_93 : (⟨#[93]⟩ : ByteArray).data.toList = looksD.sg 93 := by kernel_rfl
theorem sg_59 : (⟨#[59]⟩ : ByteArray).data.toList = looksD.sg 59 := by kernel_rfl
theorem sg_58 : (⟨#[58]⟩ : ByteArray).data.toList = looksD.sg 58 := by kernel_rfl
theorem sg_123 : (⟨#[123]⟩ : ByteArray).data.toList = looksD.sg 123 := by kernel_rfl
theorem sg_125 : (⟨#[125]⟩ : ByteArray).data.toList = looksD.sg 125 := by kernel_rfl
theorem sg_8900 : (⟨#[226, 139, 132]⟩ : ByteArray).data.toList = looksD.sg 8900 := by kernel_rfl

theorem says_stmt (ns : List NodeD) (G : Nat → List UInt8 × Bool → List UInt8 × Bool) (T : ByteArray → Bool) (x : NodeD) (hk : 19 ≤ x.k ∧ x.k ≤ 24) (hf : fieldsS T x = true) (hkb : kidsB x.k (kinds ns x.kids) = true) (s1 s2 : Option Addr) (n1 c1 n2 c2 : Nat) (h : KidsP Z p a n cap G x s2 n2 c2) :
    SaysP Z p a n cap 80 #[.pointer (some ⟨p, 0, none⟩), .agg #[.int .i64 x.k, .int .i64 x.n, .int .i64 x.m, .string x.s, .slice s1 n1 c1, .slice s2 n2 c2]] (nodeP looksD ns G x) := by
  obtain ⟨⟨hN, hM⟩, -, -⟩ := fields_at hf
  clear hf hM
  have hl := h.row.len
  have hcn := kids_cnt hkb
  rw [kinds_len, hl] at hcn
  have hpos : 0 < n2 := by omega
  obtain ⟨kb, ko, rfl, _, _⟩ := h.row.get hpos
  obtain ⟨m, rfl⟩ : ∃ m, n2 = m + 1 := ⟨n2 - 1, by omega⟩
  have hlast := h.pos m (by omega)
  have hm1 : x.kids.length - 1 = m := by omega
  have hsn := h.says m (by omega)
  have hmn := h.mono m (by omega)
  have hcases : x.k = 19 ∨ x.k = 20 ∨ x.k = 21 ∨ x.k = 22 ∨ x.k = 23 ∨ x.k = 24 := by omega
  have hr := h.row
  have hc := h.room
  have e19 : x.k = 19 ∨ x.k = 20 → ∀ st, nodeP looksD ns G x st = G (kidN x m) (sayS looksD (sayP st x.s.data.toList true) 8592) := fun e st => by
    unfold nodeP
    rcases e with e | e <;> simp [e, hm1]
  rcases hcases with e | e | e | e | e | e
  · exact says_congr (says_stmt19 Z p a n cap x.k x.n x.m (.inl e) x.s s1 n1 c1 kb ko m c2 x.kids hr hc (kidN x m) hlast G hsn hmn) (e19 (.inl e))
  · exact says_congr (says_stmt19 Z p a n cap x.k x.n x.m (.inr e) x.s s1 n1 c1 kb ko m c2 x.kids hr hc (kidN x m) hlast G hsn hmn) (e19 (.inr e))
  · obtain ⟨hL, hLm⟩ := h.listTo m (by omega) 59 ⟨#[59]⟩ (fun _ => sg_59) c2
    have hR := says_round Z p a n cap looksD G 59 91 93 ⟨#[59]⟩ ⟨#[91]⟩ ⟨#[93]⟩ sg_91 sg_93 (some ⟨kb, ko, none⟩) m c2 (x.kids.take m) hL hLm
    refine says_congr (says_stmt21 Z p a n cap x.k x.n x.m e x.s s1 n1 c1 kb ko m c2 x.kids hr hc (kidN x m) hlast G hsn hmn _ hR (fun st => ?_)) (fun st => ?_)
    · exact Nat.le_trans (Nat.le_trans (say_len _ _ _).1 (hLm _)) (say_len _ _ _).1
    · unfold nodeP
      simp [e, hm1]
  · have h1 : 1 ≤ x.n ∧ x.n ≤ 16 := by simpa [okN, isSc, e] using hN
    obtain ⟨r, hr1, hr2⟩ := prim_at h1.1
    refine says_congr (says_stmt22 Z p a n cap x.k x.n x.m e x.s s1 n1 c1 kb ko m c2 x.kids hr hc (kidN x m) hlast G hsn hmn r (by omega) hr1) (fun st => ?_)
    unfold nodeP
    simp [e, hm1, looks_prim, hr2]
  · obtain ⟨hL, hLm⟩ := h.listTo 1 (by omega) 0 ⟨#[]⟩ (fun hh => absurd hh (by omega)) c2
    have hR := says_round Z p a n cap looksD G 0 40 41 ⟨#[]⟩ ⟨#[40]⟩ ⟨#[41]⟩ sg_40 sg_41 (some ⟨kb, ko, none⟩) 1 c2 (x.kids.take 1) hL hLm
    refine says_congr (says_stmt23 Z p a n cap x.k x.n x.m e x.s s1 n1 c1 kb ko m c2 x.kids hr hc (kidN x m) hlast G hsn hmn _ hR) (fun st => ?_)
    have e0 : ∀ s, listP looksD G 0 (x.kids.take 1) 1 s = G (kidN x 0) s := fun s => by
      rw [listP, listP, if_neg (by omega), take_getD (by omega)]
      rfl
    show _ = G (kidN x m) (sayS looksD (sayS looksD (listP looksD G 0 (x.kids.take 1) 1 (sayS looksD st 40)) 41) 8592)
    rw [e0]
    unfold nodeP
    simp [e, hm1]
  · refine says_congr (says_stmt24 Z p a n cap x.k x.n x.m e x.s s1 n1 c1 kb ko m c2 x.kids hr hc (kidN x m) hlast _ (h.list 58 ⟨#[58]⟩ sg_58)) (fun st => ?_)
    unfold nodeP
    simp [e]

end
end Go.Proofs.YtmgjicgojlkpcaaGreatDoor
