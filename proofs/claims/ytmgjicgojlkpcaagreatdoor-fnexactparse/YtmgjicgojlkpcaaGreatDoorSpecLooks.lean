import Derived.Test.YtmgjicgojlkpcaaGreatDoorSpecFunC
import Derived.Test.YtmgjicgojlkpcaaGreatDoorSpecQuote
import Derived.Test.YtmgjicgojlkpcaaGreatDoorSpecDec
namespace Go.Proofs.YtmgjicgojlkpcaaGreatDoor
open Go.RowKit

def sgL (c : Nat) : List UInt8 := (bstr (encZ ((c : Nat) : Int))).data.toList

set_option maxRecDepth 100000 in
theorem sgL_eq (c : Nat) : sgL c = (bstr (encZ ((c : Nat) : Int))).data.toList := by delta sgL; exact rfl

/-- How the pieces look. -/
def looksD : Looks where
  sg := sgL
  prim n := (primT (n - 1).toNat).data.toList
  num z := if -1000000000000000 ≤ z ∧ z ≤ 1000000000000000 then (bstr (numT z)).data.toList else []
  txt s := quoteL s.data.toList

theorem enc_len (c : Int) : (encZ c).length ≤ 4 := by
  unfold encZ
  split
  · simp
  split
  · simp
  split <;> simp

theorem dl_size (s : ByteArray) : s.data.toList.length = s.size := by rw [← Lib.size_eq]

theorem looks_sg (c : Nat) : looksD.sg c = (bstr (encZ ((c : Nat) : Int))).data.toList := by
  have e : looksD.sg c = sgL c := by simp only [looksD]
  rw [e]
  exact sgL_eq c
theorem looks_prim (n : Int) : looksD.prim n = (primT (n - 1).toNat).data.toList := rfl
theorem looks_num (z : Int) : looksD.num z = if -1000000000000000 ≤ z ∧ z ≤ 1000000000000000 then (bstr (numT z)).data.toList else [] := rfl
theorem looks_txt (s : ByteArray) : looksD.txt s = quoteL s.data.toList := rfl

theorem looks_short {ns : List NodeD} (h : SmallD ns ns.length) : Short looksD ns where
  sg c := by
    rw [looks_sg, dl_size, bstr_size]
    exact enc_len _
  prim n := by
    rw [looks_prim, dl_size]
    exact primT_size _
  num z := by
    rw [looks_num]
    split
    · next hz =>
      rw [dl_size, bstr_size]
      have := wid_le hz
      unfold wid at this
      unfold numT
      rw [List.length_append]
      split at this <;> split <;> simp_all <;> omega
    · simp
  txt i hi := by
    rw [looks_txt]
    have h1 := (h i hi).1
    have h2 := (qd_len (node ns i).s.data.toList).1
    rw [dl_size] at h2
    have e : quoteL (node ns i).s.data.toList = 39 :: (qd (node ns i).s.data.toList ++ [39]) := by unfold quoteL qd; simp
    rw [e]
    simp only [List.length_cons, List.length_append, List.length_nil]
    omega
  s i hi := (h i hi).1
  nums i hi := (h i hi).2.1
  kids i hi := (h i hi).2.2

theorem say_say (st : List UInt8 × Bool) (a b : List UInt8) : sayP (sayP st a false) b false = sayP st (a ++ b) false := by simp [sayP, List.append_assoc]

theorem ba_app (a b : ByteArray) : (a ++ b).data.toList = a.data.toList ++ b.data.toList := by simp

theorem prim_at {n : Int} (h : 1 ≤ n) : ∃ q : Nat, n = (q : Int) + 1 ∧ (n - 1).toNat = q := ⟨(n - 1).toNat, by omega, rfl⟩

theorem says_congr {Z : World} {p : Nat} {a : Option Addr} {n cap f : Nat} {args : Array Value} {F F' : List UInt8 × Bool → List UInt8 × Bool} (h : SaysP Z p a n cap f args F) (e : ∀ st, F' st = F st) : SaysP Z p a n cap f args F' := by
  have : F' = F := funext e
  rw [this]
  exact h

theorem fields_at {T : ByteArray → Bool} {x : NodeD} (h : fieldsS T x = true) : (okN x = true ∧ okM x = true) ∧ okS T x = true ∧ okNums x = true := by
  rw [← fields_eq] at h
  unfold fieldsI at h
  simp only [Bool.and_eq_true] at h
  exact ⟨⟨h.1, h.2.1⟩, h.2.2.1, h.2.2.2⟩

theorem says_function (Z : World) (p : Nat) (a : Option Addr) (n cap : Nat) (ns : List NodeD) (G : Nat → List UInt8 × Bool → List UInt8 × Bool) (T : ByteArray → Bool) (x : NodeD) (hk : 11 ≤ x.k ∧ x.k ≤ 18) (hf : fieldsS T x = true) (s1 s2 : Option Addr) (n1 c1 n2 c2 : Nat)
    (hR : x.k = 16 → SaysP Z p a n cap 76 #[.pointer (some ⟨p, 0, none⟩), .slice s2 n2 c2, .string ⟨#[123]⟩, .string ⟨#[226, 139, 132]⟩, .string ⟨#[125]⟩] (fun st => sayS looksD (listP looksD G 8900 x.kids x.kids.length (sayS looksD st 123)) 125)) :
    SaysP Z p a n cap 78 #[.pointer (some ⟨p, 0, none⟩), .agg #[.int .i64 x.k, .int .i64 x.n, .int .i64 x.m, .string x.s, .slice s1 n1 c1, .slice s2 n2 c2]] (nodeP looksD ns G x) := by
  obtain ⟨⟨hN, hM⟩, -, -⟩ := fields_at hf
  clear hf
  obtain ⟨k, xn, xm, xs, nums, kids⟩ := x
  have hk1 : 11 ≤ k ∧ k ≤ 18 := hk
  clear hk
  have hcases : k = 11 ∨ k = 12 ∨ k = 13 ∨ k = 14 ∨ k = 15 ∨ k = 16 ∨ k = 17 ∨ k = 18 := by omega
  rcases hcases with rfl | rfl | rfl | rfl | rfl | rfl | rfl | rfl
  · have h1 : 1 ≤ xn ∧ xn ≤ 33 := by simpa [okN] using hN
    obtain ⟨q, rfl, hq⟩ := prim_at h1.1
    refine says_congr (says_fun11 Z p a n cap 11 xm q (by omega) xs s1 s2 n1 c1 n2 c2 rfl) (fun st => ?_)
    simp [nodeP, looks_prim]
  · have h1 : 1 ≤ xn ∧ xn ≤ 16 := by simpa [okN, isSc] using hN
    have h2 : 0 ≤ xm ∧ xm ≤ 1 := by simpa [okM] using hM
    obtain ⟨q, rfl, hq⟩ := prim_at h1.1
    have h3 : xm = 0 ∨ xm = 1 := by omega
    rcases h3 with rfl | rfl
    · refine says_congr (says_fun12_0 Z p a n cap q (by omega) xs s1 s2 n1 c1 n2 c2) (fun st => ?_)
      rw [ba_app, ← say_say]
      simp [nodeP, looks_sg, looks_prim, sayS, bstr, encZ]
    · refine says_congr (says_fun12_1 Z p a n cap q (by omega) xs s1 s2 n1 c1 n2 c2) (fun st => ?_)
      rw [ba_app, ← say_say]
      simp [nodeP, looks_sg, looks_prim, sayS, bstr, encZ]
  · have h1 : 1 ≤ xn ∧ xn ≤ 16 := by simpa [okN, isSc] using hN
    have h2 : 0 ≤ xm ∧ xm ≤ 1 := by simpa [okM] using hM
    obtain ⟨q, rfl, hq⟩ := prim_at h1.1
    have h3 : xm = 0 ∨ xm = 1 := by omega
    rcases h3 with rfl | rfl
    · refine says_congr (says_fun13_0 Z p a n cap q (by omega) xs s1 s2 n1 c1 n2 c2) (fun st => ?_)
      rw [ba_app, ← say_say]
      simp [nodeP, looks_sg, looks_prim, sayS, bstr, encZ]
    · refine says_congr (says_fun13_1 Z p a n cap q (by omega) xs s1 s2 n1 c1 n2 c2) (fun st => ?_)
      rw [ba_app, ← say_say]
      simp [nodeP, looks_sg, looks_prim, sayS, bstr, encZ]
  · have h1 : 1 ≤ xn ∧ xn ≤ 16 := by simpa [okN, isSc] using hN
    obtain ⟨q, rfl, hq⟩ := prim_at h1.1
    refine says_congr (says_fun14 Z p a n cap xm q (by omega) xs s1 s2 n1 c1 n2 c2) (fun st => ?_)
    have e : (⟨#[226, 136, 152, 46]⟩ : ByteArray).data.toList = [226, 136, 152] ++ [46] := rfl
    rw [ba_app, ← say_say, e, ← say_say]
    simp [nodeP, looks_sg, looks_prim, sayS, bstr, encZ]
  · have h1 : 1 ≤ xn ∧ xn ≤ 16 := by simpa [okN, isSc] using hN
    have h2 : 1 ≤ xm ∧ xm ≤ 16 := by simpa [okM, isSc] using hM
    obtain ⟨q, rfl, hq⟩ := prim_at h1.1
    obtain ⟨r, rfl, hr⟩ := prim_at h2.1
    refine says_congr (says_fun15 Z p a n cap q r (by omega) (by omega) xs s1 s2 n1 c1 n2 c2) (fun st => ?_)
    rw [ba_app, ← say_say, ba_app, ← say_say]
    simp [nodeP, looks_sg, looks_prim, sayS, bstr, encZ]
  · refine says_fun16 Z p a n cap xn xm xs s1 s2 n1 c1 n2 c2 _ (says_congr (hR rfl) (fun st => ?_))
    simp [nodeP]
  · refine says_congr (says_fun17 Z p a n cap 17 xn xm xs s1 s2 n1 c1 n2 c2 rfl) (fun st => ?_)
    simp [nodeP]
  · refine says_congr (says_fun18 Z p a n cap 18 xn xm xs s1 s2 n1 c1 n2 c2 rfl) (fun st => ?_)
    simp [nodeP, looks_sg, sayS, bstr, encZ]

end Go.Proofs.YtmgjicgojlkpcaaGreatDoor
