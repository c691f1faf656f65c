import Derived.Test.YtinndpnilmmmjaaGreatDoorMFit1
import Derived.Test.YtinndpnilmmmjaaGreatDoorMFit1
import Derived.Shelf.Small.Wraps
import Derived.Ground.NamesProg
import Derived.Test.YtinndpnilmmmjaaGreatDoorProg
import Derived.Shelf.Unicode.DecodeAny
import Derived.Shelf.Unicode.ValidAny
import Derived.Lib.ValidLaws
import Derived.Lib.IndexLaws
import Derived.Lib.IndexBytes
import Derived.Shelf.Strings.Runes
import Derived.Deep.DeepCutAuto
import Derived.Shelf.Abstract
import Derived.BigQuiet
import Derived.WalkMore
import Derived.ScopeJumps
import Derived.Test.YtinndpnilmmmjaaGreatDoorMFit0
import Derived.Shelf.Strings.Replace
import Derived.Shelf.Strings.BuilderF
namespace Go.Proofs.YtinndpnilmmmjaaGreatDoor
open Go.RowKit

/-- A character within a text. -/
def isIn (v : Nat) : Bool := !(decide (v = 39)) && !(decide (v = 10))

theorem enc_list (v : Nat) (x b : ByteArray) (hx : Utf8.encode (v : Int) = x) (c : Nat) (he : Utf8.encode (v : Int) = b ↔ v = c) : x.toList = b.toList ↔ v = c := by
  rw [← hx, ← he, Lib.toList_data, Lib.toList_data]
  exact ⟨fun e => ByteArray.ext (Array.toList_inj.1 e), fun e => by rw [e]⟩

set_option maxRecDepth 20000 in
theorem enc39 (v : Nat) (x : ByteArray) (hx : Utf8.encode (v : Int) = x) : x.toList = [39] ↔ v = 39 := by
  have e := enc_list v x ⟨#[39]⟩ hx 39 (enc_one v 39 (by omega))
  simp only [Lib.toList_data] at e ⊢
  exact e

set_option maxRecDepth 20000 in
theorem enc175 (v : Nat) (x : ByteArray) (hx : Utf8.encode (v : Int) = x) : x.toList = [194, 175] ↔ v = 175 := by
  have e := enc_list v x ⟨#[194, 175]⟩ hx 175 (enc_high v)
  simp only [Lib.toList_data] at e ⊢
  exact e

theorem conv_any (v : Nat) (x : ByteArray) (hx : Utf8.encode (v : Int) = x) (w : World) : (convert 21 9 (.int .i32 (v : Int))).run Tryz.prog w = .ok (.string x) w := by
  rw [← hx]
  exact run_convert_int_string w _ _ .i32 _ (by kernel_rfl) (by kernel_rfl)

set_option maxRecDepth 20000 in
theorem implWithin_any (v : Nat) (w : World) : Calls Tryz.prog 186 #[.int .i32 (v : Nat)] w fun e w' => e = .returned (.bool (isIn v)) ∧ w' = w := by
  obtain ⟨r, hr⟩ : ∃ r, isIn v = r := ⟨_, rfl⟩
  rw [hr]
  have HR := hide hr
  clear hr
  obtain ⟨x, hx⟩ : ∃ x, Utf8.encode (v : Int) = x := ⟨_, rfl⟩
  have he := enc39 v x hx
  have hcv := conv_any v x hx
  clear hx
  by_cases h1 : v = 39
  · have hq := he.2 h1
    have HX := hide h1
    clear h1 he
    go_enter Tryz.func186, Tryz.ntmps186
    go_wp2
    go_ret
    exact ⟨ret_bool (by rw [← unhide HR, isIn, decide_eq_true (unhide HX)]; rfl), rfl⟩
  · have hq : ¬ x.toList = [39] := fun h => h1 (he.1 h)
    have HX := hide h1
    clear h1 he
    go_enter Tryz.func186, Tryz.ntmps186
    go_wp2
    go_ret
    refine ⟨ret_bool ?_, rfl⟩
    rw [← unhide HR, isIn, decide_eq_false (unhide HX)]
    by_cases h2 : v = 10
    · subst h2; simp
    · have h2i : ¬ (v : Int) = 10 := by omega
      rw [decide_eq_false h2]; simp [h2i, hq]

theorem eg_in : ∀ args w, (callFunc 186 args).run Tryz.prog w = .ok (.enter 186 args) w := enters_of Tryz.func186 (by kernel_rfl) rfl

/-- Which reader reads. -/
def readerN (v : Nat) : Nat := if isD v = true ∨ v = 175 then 152 else if v = 39 then 153 else if isL v = true then 155 else 156

set_option maxRecDepth 20000 in
set_option maxHeartbeats 2000000 in
theorem readerOf_any (v : Nat) (w : World) : Calls Tryz.prog 100 #[.int .i32 (v : Nat)] w fun e w' => e = .returned (.func (.func (readerN v)) #[] #[]) ∧ w' = w := by
  have HD := hide (implDigit_any v w)
  have HL := hide (implLetter_any v w)
  obtain ⟨x, hx⟩ : ∃ x, Utf8.encode (v : Int) = x := ⟨_, rfl⟩
  have he39 := enc39 v x hx
  have he175 := enc175 v x hx
  have hcv := conv_any v x hx
  clear hx
  cases hd : isD v with
  | true =>
    have HE : Hid (readerN v = 152) := hide (by unfold readerN; rw [if_pos (Or.inl hd)])
    rw [hd] at HD
    clear HL he39 he175
    go_enter Tryz.func100, Tryz.ntmps100
    go_wp2_with (go_at_call 151; refine (unhide HD).mono ?_; rintro e w1 ⟨rfl, hw⟩; obtain rfl := hw.symm)
    go_ret
    exact ⟨by rw [unhide HE]; rfl, rfl⟩
  | false =>
    rw [hd] at HD
    by_cases h1 : v = 175
    · have HE : Hid (readerN v = 152) := hide (by unfold readerN; rw [if_pos (Or.inr h1)])
      have he := he175.2 h1
      clear HL h1 hd he39 he175
      go_enter Tryz.func100, Tryz.ntmps100
      go_wp2_with (go_at_call 151; refine (unhide HD).mono ?_; rintro e w1 ⟨rfl, hw⟩; obtain rfl := hw.symm)
      go_ret
      exact ⟨by rw [unhide HE]; rfl, rfl⟩
    · have he : ¬ x.toList = [194, 175] := fun h => h1 (he175.1 h)
      have heb : (x.toList == [194, 175]) = false := beq_eq_false_iff_ne.2 he
      have hno : ¬ (isD v = true ∨ v = 175) := by rw [hd]; simp [h1]
      clear h1 hd he175
      by_cases h2 : v = 39
      · have HE : Hid (readerN v = 153) := hide (by unfold readerN; rw [if_neg hno, if_pos h2])
        have he2 := he39.2 h2
        clear HL h2 hno he39 he heb
        go_enter Tryz.func100, Tryz.ntmps100
        go_wp2_with (go_at_call 151; refine (unhide HD).mono ?_; rintro e w1 ⟨rfl, hw⟩; obtain rfl := hw.symm)
        go_ret
        exact ⟨by rw [unhide HE]; rfl, rfl⟩
      · have he2 : ¬ x.toList = [39] := fun h => h2 (he39.1 h)
        have heb2 : (x.toList == [39]) = false := beq_eq_false_iff_ne.2 he2
        cases hl : isL v with
        | true =>
          have HE : Hid (readerN v = 155) := hide (by unfold readerN; rw [if_neg hno, if_neg h2, if_pos hl])
          rw [hl] at HL
          clear h2 hno hl he39
          go_enter Tryz.func100, Tryz.ntmps100
          go_wp2_with (first | (go_at_call 151; refine (unhide HD).mono ?_; rintro e w1 ⟨rfl, hw⟩; obtain rfl := hw.symm) | (go_at_call 154; refine (unhide HL).mono ?_; rintro e w1 ⟨rfl, hw⟩; obtain rfl := hw.symm))
          go_ret
          exact ⟨by rw [unhide HE]; rfl, rfl⟩
        | false =>
          have HE : Hid (readerN v = 156) := hide (by unfold readerN; rw [if_neg hno, if_neg h2, if_neg (by rw [hl]; decide)])
          rw [hl] at HL
          clear h2 hno hl he39
          go_enter Tryz.func100, Tryz.ntmps100
          go_wp2_with (first | (go_at_call 151; refine (unhide HD).mono ?_; rintro e w1 ⟨rfl, hw⟩; obtain rfl := hw.symm) | (go_at_call 154; refine (unhide HL).mono ?_; rintro e w1 ⟨rfl, hw⟩; obtain rfl := hw.symm))
          go_ret
          exact ⟨by rw [unhide HE]; rfl, rfl⟩

end Go.Proofs.YtinndpnilmmmjaaGreatDoor
namespace Go.Proofs.YtinndpnilmmmjaaGreatDoor
open Go

theorem tail_list (s : ByteArray) (i : Nat) : (s.extract i s.size).data.toList = s.data.toList.drop i := by
  rw [sub_list, List.take_of_length_le]
  rw [List.length_drop, ← Lib.size_eq]
  exact Nat.le_refl _

theorem tail_tail (s : ByteArray) (i j : Nat) : (s.extract i s.size).extract j (s.extract i s.size).size = s.extract (i + j) s.size := by
  refine ByteArray.ext (Array.toList_inj.1 ?_)
  rw [tail_list, tail_list, tail_list, List.drop_drop]

/-- A quote stands at a place. -/
def quote1 (s : ByteArray) (i : Nat) : Bool := decide (i + 1 ≤ s.size ∧ bt s i = 39)

/-- Where the characters from a place on that stand within a text end. -/
def inEnd (s : ByteArray) (p : Nat) : Nat := p + stretchN isIn (s.extract p s.size)

/-- How a text is read from a place on: where it ends, and its bytes; none: it does not end. -/
def textR (s : ByteArray) : Nat → Nat → List UInt8 → Option (Nat × List UInt8)
  | 0, _, _ => none
  | f + 1, p, out =>
    if quote1 s (inEnd s p) = true then
      (if quote1 s (inEnd s p + 1) = true then textR s f (inEnd s p + 2) (out ++ (s.extract p (inEnd s p)).data.toList ++ [39]) else some (inEnd s p + 1, out ++ (s.extract p (inEnd s p)).data.toList))
    else none

end Go.Proofs.YtinndpnilmmmjaaGreatDoor
namespace Go.Proofs.YtinndpnilmmmjaaGreatDoor
open Go.RowKit

/-- What a reader gives, of what stands at a place. -/
def readG (g : Got) (i : Nat) : Value := readV g.k g.n g.t (g.e - i) g.c

theorem readNumber_any (s : ByteArray) (i : Nat) (w : World) (hi : i < s.size) (hs : s.size ≤ 17592186044416) (hR : RangeAt w) :
    Calls Tryz.prog 152 #[.string (s.extract i s.size)] w fun e w' => e = .returned (readG (numTok s i) i) ∧ Below w.heap.size w w' := by
  have hts : (s.extract i s.size).size = s.size - i := tail_size s i
  obtain ⟨H, hH⟩ : ∃ H, high s i = H := ⟨_, rfl⟩
  have hHt : high (s.extract i s.size) 0 = H := by rw [tail_high (by omega)]; exact hH
  obtain ⟨f, hf⟩ : ∃ f, (if high s i = true then i + 2 else i) = f := ⟨_, rfl⟩
  have hfi : i ≤ f := by rw [← hf]; split <;> omega
  have hfs : f ≤ s.size := by
    rw [← hf]
    split
    · rename_i h
      have := of_decide_eq_true h
      omega
    · omega
  have hd : (if H = true then (s.extract i s.size).extract 2 (s.extract i s.size).size else s.extract i s.size) = s.extract f s.size := by
    rw [← hf, hH]
    by_cases h : H = true
    · rw [if_pos h, if_pos h, tail_tail]
    · rw [if_neg h, if_neg h]
  obtain ⟨e, he⟩ : ∃ e, endOf isD s f = e := ⟨_, rfl⟩
  have hfe : f ≤ e := by rw [← he]; exact endOf_ge _ _ _
  have hes : e ≤ s.size := by rw [← he]; exact endOf_le _ _ _ hfs
  have hc : stretchN isD (s.extract f s.size) = e - f := by
    have := stretch_tail (p := isD) isD_small (s := s) (i := f) hfs
    omega
  have hr : (s.extract f s.size).extract (e - f) (s.extract f s.size).size = s.extract e s.size := by
    rw [tail_tail, show f + (e - f) = e by omega]
  obtain ⟨l, hl⟩ : ∃ l, stretchN isL (s.extract e s.size) = l := ⟨_, rfl⟩
  have hl2 : l + e = endOf isL s e := by rw [← hl]; exact stretch_tail isL_small hes
  have hlp : 0 < l ↔ e < s.size ∧ isL (bt s e) = true := by
    by_cases h : e < s.size ∧ isL (bt s e) = true
    · rw [endOf_go h.1 h.2] at hl2
      have := endOf_ge isL s (e + 1)
      exact ⟨fun _ => h, fun _ => by omega⟩
    · rw [endOf_stop h] at hl2
      exact ⟨fun h1 => by omega, fun h1 => absurd h1 h⟩
  have hhr : high (s.extract e s.size) 0 = high s e := tail_high hes
  have hrs : (s.extract e s.size).size = s.size - e := tail_size s e
  have hsz : (s.extract i s.size).size ≤ 17592186044416 := by omega
  by_cases hb : e = f ∨ (e < s.size ∧ isL (bt s e) = true) ∨ high s e = true
  · rw [numTok_bad hf he hb]
    show Calls _ _ _ _ fun e w' => e = .returned (readV 0 0 ⟨#[]⟩ (0 - i) 1) ∧ _
    rw [Nat.zero_sub]
    by_cases h0 : e = f
    · exact readNumber_zero _ _ _ _ H _ l w hHt hd hc hr rfl hl hsz (by omega)
    · by_cases h1 : 0 < l
      · exact readNumber_letter _ _ _ _ H _ l w hHt hd hc hr rfl hl hsz (by omega) h1
      · refine readNumber_mark _ _ _ _ H _ l w hHt hd hc hr rfl hl hsz (by omega) (by omega) ?_
        rw [hhr]
        rcases hb with hb | hb | hb
        · exact absurd hb h0
        · exact absurd (hlp.2 hb) h1
        · exact hb
  · have h0 : e ≠ f := fun h => hb (Or.inl h)
    have h1 : l = 0 := by
      by_cases h : 0 < l
      · exact absurd (Or.inr (Or.inl (hlp.1 h))) hb
      · omega
    have h2 : high (s.extract e s.size) 0 = false := by
      rw [hhr]
      cases h : high s e with
      | true => exact absurd (Or.inr (Or.inr h)) hb
      | false => rfl
    have hcd : e - f ≤ (s.extract f s.size).size := by rw [tail_size]; omega
    have hxl : ((s.extract f s.size).extract 0 (e - f)).data.toList = (s.extract f s.size).data.toList.take (e - f) := take_data _ _
    have hdv : dv 0 ((s.extract f s.size).extract 0 (e - f)).data.toList = decV s f (e - f) := by
      rw [hxl, dv_take _ _ hcd, tail_decV _ (by omega), Nat.add_zero]
    have hne : ((s.extract f s.size).extract 0 (e - f)).data.toList ≠ [] := by
      intro h
      have h3 := congrArg List.length h
      rw [hxl, List.length_take, ← Lib.size_eq, tail_size] at h3
      simp only [List.length_nil] at h3
      omega
    have hdg : ∀ c ∈ ((s.extract f s.size).extract 0 (e - f)).data.toList, isD c.toNat = true := by
      intro c hcm
      rw [hxl] at hcm
      obtain ⟨j, hj, rfl⟩ := List.mem_iff_getElem.1 hcm
      rw [List.length_take, ← Lib.size_eq, tail_size] at hj
      have hj2 : j < (s.extract f s.size).size := by rw [tail_size]; omega
      have hb2 : bt (s.extract f s.size) j = ((s.extract f s.size).data.toList[j]'(by rw [← Lib.size_eq]; exact hj2)).toNat := by
        rw [bt_data hj2, List.getD_eq_getElem?_getD, List.getElem?_eq_getElem (by rw [← Lib.size_eq]; exact hj2)]
        rfl
      rw [List.getElem_take, ← hb2, tail_bt (by omega)]
      exact (endOf_in (p := isD) (s := s) (i := f) (by omega) (by rw [he]; omega)).2
    have hA := atoi_digits _ hne hdg
    rw [hdv] at hA
    by_cases hv : 1000000000000000 < decV s f (e - f)
    · rw [numTok_big hf he hb hv]
      show Calls _ _ _ _ fun e w' => e = .returned (readV 0 0 ⟨#[]⟩ (0 - i) 7) ∧ _
      rw [Nat.zero_sub]
      rcases hA with hA | ⟨hA, -⟩
      · exact readNumber_big _ _ _ _ H _ l _ w hHt hd hc hr rfl hl hsz (by omega) h1 h2 hA hv
      · exact readNumber_range _ _ _ _ H _ l w hHt hd hc hr rfl hl hsz (by omega) h1 h2 hA hR
    · rw [numTok_ok hf he hb hv]
      have hA' : Lib.atoiAll ((s.extract f s.size).extract 0 (e - f)).data.toList = .ok ((decV s f (e - f) : Nat) : Int) := by
        rcases hA with hA | ⟨-, hA⟩
        · exact hA
        · omega
      have hwd : e - i = (s.extract i s.size).size - (s.extract e s.size).size := by rw [hts, hrs]; omega
      cases hh : H with
      | true =>
        rw [hH, hh, if_pos rfl]
        show Calls _ _ _ _ fun q w' => q = .returned (readV 1 (-(decV s f (e - f) : Int)) ⟨#[]⟩ (e - i) 0) ∧ _
        rw [hwd]
        exact readNumber_neg _ _ _ _ H _ l _ w hHt hd hc hr rfl hl hsz (by omega) h1 h2 hA' (by omega) hh
      | false =>
        rw [hH, hh, if_neg (by decide)]
        show Calls _ _ _ _ fun q w' => q = .returned (readV 1 (decV s f (e - f) : Int) ⟨#[]⟩ (e - i) 0) ∧ _
        rw [hwd]
        exact readNumber_ok _ _ _ _ H _ l _ w hHt hd hc hr rfl hl hsz (by omega) h1 h2 hA' (by omega) hh

/-- A name, at a place. -/
theorem readName_at (s : ByteArray) (i : Nat) (w : World) (hi : i < s.size) (hs : s.size ≤ 17592186044416) :
    Calls Tryz.prog 155 #[.string (s.extract i s.size)] w fun e w' => e = .returned (readG (if 20 < endOf isLD s i - i then bad 1 else ⟨3, 0, s.extract i (endOf isLD s i), endOf isLD s i, 0⟩) i) ∧ Below w.heap.size w w' := by
  have h := readName_any (s.extract i s.size) w (by rw [tail_size]; omega)
  have hst := stretch_tail (p := isLD) isLD_small (s := s) (i := i) (by omega)
  have hc : stretchN isLD (s.extract i s.size) = endOf isLD s i - i := by omega
  have hle := endOf_le isLD s i (by omega)
  rw [hc] at h
  have hx : (s.extract i s.size).extract 0 (endOf isLD s i - i) = s.extract i (endOf isLD s i) := by
    refine ByteArray.ext (Array.toList_inj.1 ?_)
    rw [take_data, tail_list, sub_list]
  rw [hx] at h
  by_cases h20 : 20 < endOf isLD s i - i
  · rw [if_pos h20] at h ⊢
    show Calls _ _ _ _ fun e w' => e = .returned (readV 0 0 ⟨#[]⟩ (0 - i) 1) ∧ _
    rw [Nat.zero_sub]
    exact h
  · rw [if_neg h20] at h ⊢
    exact h

end Go.Proofs.YtinndpnilmmmjaaGreatDoor
namespace Go.Proofs
open Go.Shelf
def Tryz.cutPreS_ren : Go.Shelf.Ren := ⟨fun | 103 => 187 | 210 => 212 | 206 => 209 | n => n, fun | 9 => 9 | 4 => 4 | 24 => 193 | 3 => 3 | n => n, fun | n => n⟩
theorem Tryz.cutPreS : Go.Proofs.Lays.n103 Tryz.prog Tryz.cutPreS_ren := {
  mixed := by kernel_rfl
  f103 := Tryz.func187.trans (congrArg some (by kernel_rfl))
  f206 := Tryz.func209.trans (congrArg some (by kernel_rfl))
  f210 := Tryz.func212.trans (congrArg some (by kernel_rfl))
  t3 := Tryz.underlying3
  a3 := Tryz.isAgg3
  z3 := Tryz.sizeOf3
  v3 := Tryz.zeroValue3
  t4 := Tryz.underlying4
  a4 := Tryz.isAgg4
  z4 := Tryz.sizeOf4
  v4 := Tryz.zeroValue4
  t9 := Tryz.underlying9
  a9 := Tryz.isAgg9
  z9 := Tryz.sizeOf9
  v9 := Tryz.zeroValue9
  t24 := Tryz.underlying193
  a24 := Tryz.isAgg193
  z24 := Tryz.sizeOf193
  v24 := Tryz.zeroValue193 }
end Go.Proofs
namespace Go.Proofs
open Go.Shelf
def Tryz.decodeS_ren : Go.Shelf.Ren := ⟨fun | 197 => 175 | 260 => 206 | n => n, fun | 9 => 9 | 21 => 21 | 3 => 3 | 4 => 4 | 5 => 5 | 105 => 186 | 119 => 203 | 0 => 0 | 46 => 207 | 139 => 206 | 138 => 205 | n => n, fun | 3 => 2 | 4 => 3 | n => n⟩
theorem Tryz.decodeS : Go.Proofs.Lays.n197 Tryz.prog Tryz.decodeS_ren := {
  mixed := by kernel_rfl
  f197 := Tryz.func175.trans (congrArg some (by kernel_rfl))
  f260 := Tryz.func206.trans (congrArg some (by kernel_rfl))
  t0 := Tryz.underlying0
  a0 := Tryz.isAgg0
  z0 := Tryz.sizeOf0
  v0 := Tryz.zeroValue0
  t3 := Tryz.underlying3
  a3 := Tryz.isAgg3
  z3 := Tryz.sizeOf3
  v3 := Tryz.zeroValue3
  t4 := Tryz.underlying4
  a4 := Tryz.isAgg4
  z4 := Tryz.sizeOf4
  v4 := Tryz.zeroValue4
  t5 := Tryz.underlying5
  a5 := Tryz.isAgg5
  z5 := Tryz.sizeOf5
  v5 := Tryz.zeroValue5
  t9 := Tryz.underlying9
  a9 := Tryz.isAgg9
  z9 := Tryz.sizeOf9
  v9 := Tryz.zeroValue9
  t21 := Tryz.underlying21
  a21 := Tryz.isAgg21
  z21 := Tryz.sizeOf21
  v21 := Tryz.zeroValue21
  t46 := Tryz.underlying207
  a46 := Tryz.isAgg207
  z46 := Tryz.sizeOf207
  v46 := Tryz.zeroValue207
  t105 := Tryz.underlying186
  a105 := Tryz.isAgg186
  z105 := Tryz.sizeOf186
  v105 := Tryz.zeroValue186
  t119 := Tryz.underlying203
  a119 := Tryz.isAgg203
  z119 := Tryz.sizeOf203
  t138 := Tryz.underlying205
  a138 := Tryz.isAgg205
  z138 := Tryz.sizeOf205
  v138 := Tryz.zeroValue205
  t139 := Tryz.underlying206
  a139 := Tryz.isAgg206
  z139 := Tryz.sizeOf206
  v139 := Tryz.zeroValue206
  g3 := by kernel_rfl
  g4 := by kernel_rfl }
end Go.Proofs
namespace Go.Proofs
open Go.Shelf
def Tryz.validS_ren : Go.Shelf.Ren := ⟨fun | 196 => 188 | 259 => 213 | n => n, fun | 9 => 9 | 4 => 4 | 3 => 3 | 5 => 5 | 12 => 12 | 119 => 203 | 0 => 0 | 46 => 207 | 139 => 206 | 138 => 205 | 53 => 212 | n => n, fun | 3 => 2 | 4 => 3 | n => n⟩
theorem Tryz.validS : Go.Proofs.Lays.n196 Tryz.prog Tryz.validS_ren := {
  mixed := by kernel_rfl
  f196 := Tryz.func188.trans (congrArg some (by kernel_rfl))
  f259 := Tryz.func213.trans (congrArg some (by kernel_rfl))
  t0 := Tryz.underlying0
  a0 := Tryz.isAgg0
  z0 := Tryz.sizeOf0
  v0 := Tryz.zeroValue0
  t3 := Tryz.underlying3
  a3 := Tryz.isAgg3
  z3 := Tryz.sizeOf3
  v3 := Tryz.zeroValue3
  t4 := Tryz.underlying4
  a4 := Tryz.isAgg4
  z4 := Tryz.sizeOf4
  v4 := Tryz.zeroValue4
  t5 := Tryz.underlying5
  a5 := Tryz.isAgg5
  z5 := Tryz.sizeOf5
  v5 := Tryz.zeroValue5
  t9 := Tryz.underlying9
  a9 := Tryz.isAgg9
  z9 := Tryz.sizeOf9
  v9 := Tryz.zeroValue9
  t12 := Tryz.underlying12
  a12 := Tryz.isAgg12
  z12 := Tryz.sizeOf12
  v12 := Tryz.zeroValue12
  t46 := Tryz.underlying207
  a46 := Tryz.isAgg207
  z46 := Tryz.sizeOf207
  v46 := Tryz.zeroValue207
  t53 := Tryz.underlying212
  a53 := Tryz.isAgg212
  z53 := Tryz.sizeOf212
  v53 := Tryz.zeroValue212
  t119 := Tryz.underlying203
  a119 := Tryz.isAgg203
  z119 := Tryz.sizeOf203
  t138 := Tryz.underlying205
  a138 := Tryz.isAgg205
  z138 := Tryz.sizeOf205
  v138 := Tryz.zeroValue205
  t139 := Tryz.underlying206
  a139 := Tryz.isAgg206
  z139 := Tryz.sizeOf206
  v139 := Tryz.zeroValue206
  g3 := by kernel_rfl
  g4 := by kernel_rfl }
end Go.Proofs
namespace Go.Proofs.YtinndpnilmmmjaaGreatDoor
open Go.RowKit

theorem starts_quote1 (s : ByteArray) (i : Nat) : startsB s i ⟨#[39]⟩ = quote1 s i := by
  unfold startsB quote1
  rw [show (ByteArray.mk #[39]).size = 1 from rfl, Lib.extract_toList, show (ByteArray.mk #[39]).toList = [UInt8.ofNat 39] by rw [Lib.toList_data]; rfl, show i + 1 - i = 0 + 1 by omega]
  by_cases h : i + 1 ≤ s.size
  · rw [start_step (by omega) (by omega)]
    simp [h]
  · rw [decide_eq_false h, decide_eq_false (fun hh => h hh.1)]; rfl

theorem tail_quote1 {s : ByteArray} {i : Nat} (h : i ≤ s.size) : quote1 (s.extract i s.size) 0 = quote1 s i := by
  unfold quote1
  rw [tail_size]
  by_cases h2 : i + 1 ≤ s.size
  · rw [tail_bt (by omega), Nat.add_zero]
    exact decide_eq_decide.2 ⟨fun ⟨_, b⟩ => ⟨h2, b⟩, fun ⟨_, b⟩ => ⟨by omega, b⟩⟩
  · rw [decide_eq_false (fun hh => h2 (by omega)), decide_eq_false (fun hh => h2 hh.1)]

theorem cutPre_any (t : ByteArray) (w : World) : Calls Tryz.prog 187 #[.string t, .string ⟨#[39]⟩] w fun e w' => e = .returned (.tuple #[.string (if quote1 t 0 = true then t.extract 1 t.size else t), .bool (quote1 t 0)]) ∧ w' = w := by
  have h := Any.strings_CutPrefix Tryz.cutPreS t ⟨#[39]⟩ w
  rw [trim_starts, pre_starts, starts_quote1] at h
  exact h

/-- The same, of the rest of a text. -/
theorem cutPre_at (s : ByteArray) (i : Nat) (hi : i ≤ s.size) (w : World) : Calls Tryz.prog 187 #[.string (s.extract i s.size), .string ⟨#[39]⟩] w fun e w' => e = .returned (.tuple #[.string (s.extract (if quote1 s i = true then i + 1 else i) s.size), .bool (quote1 s i)]) ∧ w' = w := by
  have h := cutPre_any (s.extract i s.size) w
  rw [tail_quote1 hi] at h
  have e : (if quote1 s i = true then (s.extract i s.size).extract 1 (s.extract i s.size).size else s.extract i s.size) = s.extract (if quote1 s i = true then i + 1 else i) s.size := by
    by_cases hq : quote1 s i = true
    · rw [if_pos hq, if_pos hq, tail_tail]
    · rw [if_neg hq, if_neg hq]
  rw [e] at h
  exact h

/-- utf8's two tables lie as laid. -/
def TabsAt (w : World) : Prop := Lib.Utf8Tabs (Tryz.decodeS_ren.g 3) (Tryz.decodeS_ren.g 4) w

theorem TabsAt.below {w w' : World} (h : TabsAt w) (hb : Below w.heap.size w w') : TabsAt w' := Utf8Tabs_below h hb

theorem decode_any (t : ByteArray) (h0 : 0 < t.size) (w : World) (hT : TabsAt w) : Calls Tryz.prog 175 #[.string t] w fun e w' => e = .returned (.tuple #[.int .i32 ((Utf8.decode t 0).1 : Nat), .int .i64 ((Utf8.decode t 0).2 : Nat)]) ∧ Below w.heap.size w w' := by
  have h := Any.utf8_DecodeRuneInString Tryz.decodeS t w hT
  have e : Lib.decodeGo t = Utf8.decode t 0 := by unfold Lib.decodeGo; rw [if_neg (by omega)]
  rw [e] at h
  exact h

theorem valid_any (t : ByteArray) (hs : t.size ≤ 17592186044416) (w : World) (hT : TabsAt w) : Calls Tryz.prog 188 #[.string t] w fun e w' => e = .returned (.bool (Lib.validD t.data.toList)) ∧ Below w.heap.size w w' :=
  Any.utf8_ValidString Tryz.validS t w (by omega) hT

end Go.Proofs.YtinndpnilmmmjaaGreatDoor
namespace Go.Proofs.YtinndpnilmmmjaaGreatDoor
open Go

theorem decode_width_le {s : ByteArray} {i : Nat} (h : i < s.size) : i + (Utf8.decode s i).2 ≤ s.size := by
  rw [decode_is]
  split
  · exact h
  · split
    · rename_i c
      have := (tl_bd c.2).1
      split <;> simp <;> omega
    · split
      · rename_i c
        have := (tl_bd c.2.2).1
        split <;> simp <;> omega
      · split
        · rename_i c
          have := (tl_bd c.2.2.2).1
          split <;> simp <;> omega
        · simp; omega

/-- A stretch at the rest of a text. -/
theorem strTo_tail {q : Nat → Bool} {s : ByteArray} {i : Nat} (hi : i ≤ s.size) : ∀ (F j : Nat), i + j ≤ s.size → strTo q (s.extract i s.size) F j + i = strTo q s F (i + j)
  | 0, j, _ => by rw [strTo, strTo, tail_size]; omega
  | F + 1, j, hj => by
    rw [strTo, strTo, tail_size]
    by_cases h : i + j < s.size
    · rw [if_pos h, if_pos (by omega), tail_decode h]
      by_cases hq : q (Utf8.decode s (i + j)).1 = true
      · rw [if_pos hq, if_pos hq]
        have := decode_width_le h
        rw [strTo_tail hi F _ (by omega), Nat.add_assoc]
      · rw [if_neg hq, if_neg hq]; omega
    · rw [if_neg h, if_neg (by omega)]; omega

theorem strTo_fuel {q : Nat → Bool} {s : ByteArray} : ∀ (F G i : Nat), s.size - i < F → s.size - i < G → strTo q s F i = strTo q s G i
  | 0, _, _, h, _ => by omega
  | _ + 1, 0, _, _, h => by omega
  | F + 1, G + 1, i, h1, h2 => by
    rw [strTo, strTo]
    by_cases h : i < s.size
    · rw [if_pos h, if_pos h]
      have := Lib.decode_width_pos s i h
      rw [strTo_fuel F G (i + (Utf8.decode s i).2) (by omega) (by omega)]
    · rw [if_neg h, if_neg h]

theorem inEnd_is {s : ByteArray} {p : Nat} (h : p ≤ s.size) : inEnd s p = strTo isIn s (s.size + 1) p := by
  unfold inEnd stretchN
  have := strTo_tail (q := isIn) h ((s.extract p s.size).size + 1) 0 (by omega)
  rw [Nat.add_zero] at this
  rw [Nat.add_comm, this]
  exact strTo_fuel _ _ _ (by rw [tail_size]; omega) (by omega)

theorem inEnd_go {s : ByteArray} {p : Nat} (h : p < s.size) (hq : isIn (Utf8.decode s p).1 = true) : inEnd s p = inEnd s (p + (Utf8.decode s p).2) := by
  have h1 := decode_width_le h
  have h2 := Lib.decode_width_pos s p h
  rw [inEnd_is (by omega), inEnd_is h1, strTo, if_pos h, if_pos hq]
  exact strTo_fuel _ _ _ (by omega) (by omega)

theorem inEnd_stop {s : ByteArray} {p : Nat} (h : p < s.size) (hq : ¬ isIn (Utf8.decode s p).1 = true) : inEnd s p = p := by
  rw [inEnd_is (by omega), strTo, if_pos h, if_neg hq]

theorem inEnd_end {s : ByteArray} : inEnd s s.size = s.size := by
  rw [inEnd_is (Nat.le_refl _), strTo, if_neg (by omega)]

/-- How a text is read, character by character. -/
def devT (s : ByteArray) : Nat → Nat → List UInt8 → Option (Nat × List UInt8)
  | 0, _, _ => none
  | f + 1, p, out =>
    if p < s.size then
      if isIn (Utf8.decode s p).1 = true then devT s f (p + (Utf8.decode s p).2) (out ++ (s.extract p (p + (Utf8.decode s p).2)).data.toList)
      else if quote1 s p = true then (if quote1 s (p + 1) = true then devT s f (p + 2) (out ++ [39]) else some (p + 1, out))
      else none
    else none

theorem inEnd_upTo {s : ByteArray} : ∀ (d p : Nat), s.size - p ≤ d → p ≤ s.size → p ≤ inEnd s p ∧ inEnd s p ≤ s.size
  | 0, p, hd, hp => by
    have : p = s.size := by omega
    subst this
    rw [inEnd_end]; omega
  | d + 1, p, hd, hp => by
    by_cases h : p < s.size
    · by_cases hq : isIn (Utf8.decode s p).1 = true
      · have h1 := decode_width_le h
        have h2 := Lib.decode_width_pos s p h
        rw [inEnd_go h hq]
        have := inEnd_upTo d (p + (Utf8.decode s p).2) (by omega) h1
        omega
      · rw [inEnd_stop h hq]; omega
    · have : p = s.size := by omega
      subst this
      rw [inEnd_end]; omega

theorem textR_go {s : ByteArray} {F p : Nat} {out : List UInt8} (h : p < s.size) (hq : isIn (Utf8.decode s p).1 = true) :
    textR s (F + 1) p out = textR s (F + 1) (p + (Utf8.decode s p).2) (out ++ (s.extract p (p + (Utf8.decode s p).2)).data.toList) := by
  have h1 := decode_width_le h
  have h3 := (inEnd_upTo _ (p + (Utf8.decode s p).2) (Nat.le_refl _) h1)
  have e := inEnd_go h hq
  rw [textR, textR, ← e]
  rw [← e] at h3
  have hx : (s.extract p (inEnd s p)).data.toList = (s.extract p (p + (Utf8.decode s p).2)).data.toList ++ (s.extract (p + (Utf8.decode s p).2) (inEnd s p)).data.toList := by
    rw [sub_list, sub_list, sub_list, ← List.drop_drop, show inEnd s p - p = (Utf8.decode s p).2 + (inEnd s p - (p + (Utf8.decode s p).2)) by omega, List.take_add, show p + (Utf8.decode s p).2 - p = (Utf8.decode s p).2 by omega]
  rw [hx]
  simp only [List.append_assoc]

theorem textR_dev {s : ByteArray} : ∀ (f F p : Nat) (out : List UInt8), s.size - p < F → s.size - p < f → p ≤ s.size → textR s F p out = devT s f p out
  | 0, _, _, _, _, h, _ => by omega
  | _ + 1, 0, _, _, h, _, _ => by omega
  | f + 1, F + 1, p, out, h1, h2, hp => by
    by_cases h : p < s.size
    · by_cases hq : isIn (Utf8.decode s p).1 = true
      · have a := decode_width_le h
        have b := Lib.decode_width_pos s p h
        rw [textR_go h hq, devT, if_pos h, if_pos hq]
        exact textR_dev f (F + 1) _ _ (by omega) (by omega) a
      · have hx : (s.extract p p).data.toList = [] := by rw [sub_list, Nat.sub_self]; rfl
        rw [textR, devT, if_pos h, if_neg hq, inEnd_stop h hq, hx, List.append_nil]
        by_cases c : quote1 s p = true
        · rw [if_pos c, if_pos c]
          by_cases c2 : quote1 s (p + 1) = true
          · rw [if_pos c2, if_pos c2]
            have : p + 2 ≤ s.size := by unfold quote1 at c2; have := of_decide_eq_true c2; omega
            exact textR_dev f F _ _ (by omega) (by omega) this
          · rw [if_neg c2, if_neg c2]
        · rw [if_neg c, if_neg c]
    · have : p = s.size := by omega
      subst this
      rw [textR, devT, if_neg h, inEnd_end, if_neg (fun c => by unfold quote1 at c; have := of_decide_eq_true c; omega)]

end Go.Proofs.YtinndpnilmmmjaaGreatDoor
namespace Go.Proofs.YtinndpnilmmmjaaGreatDoor
open Go

def hiB (b : UInt8) : Bool := decide (128 ≤ b.toNat)

theorem tw_at : ∀ (l : List UInt8) (k : Nat), k ≤ (l.takeWhile hiB).length → ((k < l.length ∧ hiB (l.getD k 0) = true) ↔ k < (l.takeWhile hiB).length) ∧ (k < (l.takeWhile hiB).length → l.getD k 0 = (l.takeWhile hiB).getD k 0)
  | [], k, h => by simp at h ⊢
  | a :: t, 0, _ => by
    by_cases ha : hiB a = true
    · rw [List.takeWhile_cons_of_pos ha]; simp [ha]
    · rw [List.takeWhile_cons_of_neg ha]; simp [ha]
  | a :: t, k + 1, h => by
    by_cases ha : hiB a = true
    · rw [List.takeWhile_cons_of_pos ha] at h ⊢
      have := tw_at t k (by simpa using h)
      simpa using this
    · rw [List.takeWhile_cons_of_neg ha] at h
      simp at h

theorem lbt {l : List UInt8} {k : Nat} (h : k < l.length) : bt ⟨l.toArray⟩ k = (l.getD k 0).toNat := by
  rw [bt_data (by simpa [ByteArray.size] using h)]

theorem tw_tl (l : List UInt8) (k : Nat) (h : k ≤ (l.takeWhile hiB).length) : tl ⟨l.toArray⟩ k = decide (k < (l.takeWhile hiB).length ∧ ((l.takeWhile hiB).getD k 0).toNat < 192) ∧ (tl ⟨l.toArray⟩ k = true → bt ⟨l.toArray⟩ k = ((l.takeWhile hiB).getD k 0).toNat ∧ k + 1 ≤ (l.takeWhile hiB).length) := by
  obtain ⟨h1, h2⟩ := tw_at l k h
  have key : tl ⟨l.toArray⟩ k = decide (k < (l.takeWhile hiB).length ∧ ((l.takeWhile hiB).getD k 0).toNat < 192) := by
    unfold tl
    refine decide_eq_decide.2 ?_
    have hz : (ByteArray.mk l.toArray).size = l.length := by simp [ByteArray.size]
    rw [hz]
    constructor
    · rintro ⟨a, b, c⟩
      rw [lbt a] at b c
      have := h1.1 ⟨a, by unfold hiB; exact decide_eq_true b⟩
      exact ⟨this, by rw [← h2 this]; exact c⟩
    · rintro ⟨a, b⟩
      obtain ⟨c, d⟩ := h1.2 a
      rw [← h2 a] at b
      rw [lbt c]
      exact ⟨c, by unfold hiB at d; exact of_decide_eq_true d, b⟩
  refine ⟨key, fun ht => ?_⟩
  rw [key] at ht
  obtain ⟨a, b⟩ := of_decide_eq_true ht
  rw [lbt (h1.2 a).1, h2 a]
  exact ⟨rfl, a⟩

theorem decode_agree {x y : ByteArray} {i j : Nat} (h0 : bt x i = bt y j) (h1 : tl x (i + 1) = tl y (j + 1))
    (h2 : tl y (j + 1) = true → bt x (i + 1) = bt y (j + 1) ∧ tl x (i + 2) = tl y (j + 2) ∧ (tl y (j + 2) = true → bt x (i + 2) = bt y (j + 2) ∧ tl x (i + 3) = tl y (j + 3) ∧ (tl y (j + 3) = true → bt x (i + 3) = bt y (j + 3)))) : Utf8.decode x i = Utf8.decode y j := by
  rw [decode_is, decode_is, h0, h1]
  by_cases c0 : bt y j < 128
  · rw [if_pos c0, if_pos c0]
  · rw [if_neg c0, if_neg c0]
    by_cases t1 : tl y (j + 1) = true
    · obtain ⟨b1, e2, h3⟩ := h2 t1
      have w2 : v2 x i = v2 y j := by unfold v2; rw [h0, b1]
      rw [e2, w2]
      by_cases t2 : tl y (j + 2) = true
      · obtain ⟨b2, e3, h4⟩ := h3 t2
        have w3 : v3 x i = v3 y j := by unfold v3; rw [h0, b1, b2]
        rw [e3, w3]
        by_cases t3 : tl y (j + 3) = true
        · have w4 : v4 x i = v4 y j := by unfold v4; rw [h0, b1, b2, h4 t3]
          rw [w4]
        · simp [t3]
      · simp [t2]
    · simp [t1]

/-- From a byte of 128 or more on a character is read by the bytes of 128 and more that follow one another. -/
theorem decodeL_high (l m : List UInt8) (h : l.takeWhile hiB = m.takeWhile hiB) (hne : l.takeWhile hiB ≠ []) : Lib.decodeL l = Lib.decodeL m := by
  have hl : 0 < (l.takeWhile hiB).length := List.length_pos_iff.2 hne
  obtain ⟨a1, a2⟩ := tw_at l 0 (by omega)
  obtain ⟨b1, b2⟩ := tw_at m 0 (by rw [← h]; omega)
  unfold Lib.decodeL
  have z0 : bt ⟨l.toArray⟩ 0 = bt ⟨m.toArray⟩ 0 := by
    rw [lbt (a1.2 hl).1, lbt (b1.2 (by rw [← h]; exact hl)).1, a2 hl, b2 (by rw [← h]; exact hl), h]
  have step : ∀ k, k ≤ (l.takeWhile hiB).length → tl ⟨l.toArray⟩ k = tl ⟨m.toArray⟩ k ∧ (tl ⟨m.toArray⟩ k = true → bt ⟨l.toArray⟩ k = bt ⟨m.toArray⟩ k ∧ k + 1 ≤ (l.takeWhile hiB).length) := fun k hk => by
    obtain ⟨p1, p2⟩ := tw_tl l k hk
    obtain ⟨q1, q2⟩ := tw_tl m k (by rw [← h]; exact hk)
    have e : tl ⟨l.toArray⟩ k = tl ⟨m.toArray⟩ k := by rw [p1, q1, h]
    exact ⟨e, fun ht => ⟨by rw [(p2 (e ▸ ht)).1, (q2 ht).1, h], (p2 (e ▸ ht)).2⟩⟩
  obtain ⟨s1, s1'⟩ := step 1 (by omega)
  refine decode_agree z0 s1 fun t1 => ⟨(s1' t1).1, ?_⟩
  obtain ⟨s2, s2'⟩ := step 2 (s1' t1).2
  refine ⟨s2, fun t2 => ⟨(s2' t2).1, ?_⟩⟩
  obtain ⟨s3, s3'⟩ := step 3 (s2' t2).2
  exact ⟨s3, fun t3 => (s3' t3).1⟩

theorem tw_append {a b c : List UInt8} (h : b.takeWhile hiB = c.takeWhile hiB) : (a ++ b).takeWhile hiB = (a ++ c).takeWhile hiB := by
  induction a with
  | nil => exact h
  | cons x t ih =>
    rw [List.cons_append, List.cons_append]
    by_cases hx : hiB x = true
    · rw [List.takeWhile_cons_of_pos hx, List.takeWhile_cons_of_pos hx, ih]
    · rw [List.takeWhile_cons_of_neg hx, List.takeWhile_cons_of_neg hx]

/-- A character that is read where a text ends is read where the text goes on. -/
theorem decode_longer {x y : ByteArray} {i j : Nat} (hi : i < x.size) (hb : ∀ k, i + k < x.size → j + k < y.size ∧ bt y (j + k) = bt x (i + k)) (hg : Utf8.decode x i ≠ (65533, 1)) : Utf8.decode y j = Utf8.decode x i := by
  have e0 : bt y j = bt x i := (hb 0 hi).2
  have ht : ∀ k, tl x (i + k) = true → tl y (j + k) = true ∧ bt y (j + k) = bt x (i + k) := fun k h => by
    obtain ⟨p, q, r⟩ := tl_bd h
    obtain ⟨a, b⟩ := hb k p
    refine ⟨?_, b⟩
    unfold tl
    rw [b]
    exact decide_eq_true ⟨a, q, r⟩
  rw [decode_is] at hg
  rw [decode_is, decode_is x i, e0]
  by_cases c0 : bt x i < 128
  · rw [if_pos c0, if_pos c0]
  · rw [if_neg c0] at hg ⊢
    rw [if_neg c0]
    by_cases c1 : bt x i / 32 = 6 ∧ tl x (i + 1) = true
    · have w : v2 y j = v2 x i := by unfold v2; rw [e0, (ht 1 c1.2).2]
      rw [if_pos c1, if_pos ⟨c1.1, (ht 1 c1.2).1⟩, w]
    · rw [if_neg c1] at hg ⊢
      by_cases c2 : bt x i / 16 = 14 ∧ tl x (i + 1) = true ∧ tl x (i + 2) = true
      · have w : v3 y j = v3 x i := by unfold v3; rw [e0, (ht 1 c2.2.1).2, (ht 2 c2.2.2).2]
        rw [if_pos c2, if_neg (by omega), if_pos ⟨c2.1, (ht 1 c2.2.1).1, (ht 2 c2.2.2).1⟩, w]
      · rw [if_neg c2] at hg ⊢
        by_cases c3 : bt x i / 8 = 30 ∧ tl x (i + 1) = true ∧ tl x (i + 2) = true ∧ tl x (i + 3) = true
        · have w : v4 y j = v4 x i := by unfold v4; rw [e0, (ht 1 c3.2.1).2, (ht 2 c3.2.2.1).2, (ht 3 c3.2.2.2).2]
          rw [if_pos c3, if_neg (by omega), if_neg (by omega), if_pos ⟨c3.1, (ht 1 c3.2.1).1, (ht 2 c3.2.2.1).1, (ht 3 c3.2.2.2).1⟩, w]
        · rw [if_neg c3] at hg
          exact absurd rfl hg

theorem decodeL_append {a b : List UInt8} (ha : a ≠ []) (hg : Lib.decodeL a ≠ (65533, 1)) : Lib.decodeL (a ++ b) = Lib.decodeL a := by
  have hl : 0 < a.length := List.length_pos_iff.2 ha
  unfold Lib.decodeL at hg ⊢
  have hz : (ByteArray.mk a.toArray).size = a.length := by simp [ByteArray.size]
  refine decode_longer (by omega) (fun k hk => ?_) hg
  have h1 : 0 + k < a.length := by omega
  have h2 : 0 + k < (a ++ b).length := by rw [List.length_append]; omega
  refine ⟨by simpa [ByteArray.size] using h2, ?_⟩
  rw [lbt h1, lbt h2]
  congr 1
  simp only [List.getD_eq_getElem?_getD]
  rw [List.getElem?_append_left h1]

/-- Behind what is valid. -/
theorem validD_append : ∀ (n : Nat) (a b : List UInt8), a.length ≤ n → Lib.validD a = true → Lib.validD (a ++ b) = Lib.validD b
  | 0, a, b, hn, _ => by
    have : a = [] := List.eq_nil_of_length_eq_zero (by omega)
    subst this
    rfl
  | n + 1, a, b, hn, hv => by
    by_cases ha : a = []
    · subst ha; rfl
    · have hl : 0 < a.length := List.length_pos_iff.2 ha
      rw [Lib.validD_step a ha] at hv
      by_cases hg : (Lib.decodeL a).1 = 65533 ∧ (Lib.decodeL a).2 = 1
      · rw [if_pos hg] at hv; cases hv
      · rw [if_neg hg] at hv
        have hg' : Lib.decodeL a ≠ (65533, 1) := fun e => hg ⟨by rw [e], by rw [e]⟩
        have hw := Lib.decodeL_width a
        have hle : (Lib.decodeL a).2 ≤ a.length := by
          have := decode_width_le (s := ⟨a.toArray⟩) (i := 0) (by simpa [ByteArray.size] using hl)
          simpa [ByteArray.size, Lib.decodeL] using this
        rw [Lib.validD_step (a ++ b) (by simp [ha]), decodeL_append ha hg', if_neg hg, List.drop_append_of_le_length hle]
        exact validD_append n _ b (by rw [List.length_drop]; omega) hv

theorem decode_cut {s x : ByteArray} {p n : Nat} (hn : (Utf8.decode s p).2 = n) (hp : 1 ≤ n) (hxs : x.size = n) (hb : ∀ k, k < n → p + k < s.size ∧ bt x k = bt s (p + k)) (hg : Utf8.decode s p ≠ (65533, 1)) : Utf8.decode x 0 = Utf8.decode s p := by
  have ht : ∀ k, k < n → tl x (0 + k) = tl s (p + k) := fun k hk => by
    unfold tl
    rw [Nat.zero_add, (hb k hk).2, hxs]
    exact decide_eq_decide.2 ⟨fun ⟨_, b⟩ => ⟨(hb k hk).1, b⟩, fun ⟨_, b⟩ => ⟨hk, b⟩⟩
  have e0 : bt x 0 = bt s p := by rw [(hb 0 (by omega)).2, Nat.add_zero]
  have hd := decode_is s p
  rw [decode_is x 0, hd, e0]
  rw [hd] at hn
  by_cases c0 : bt s p < 128
  · rw [if_pos c0, if_pos c0]
  · rw [if_neg c0] at hd hn ⊢
    rw [if_neg c0]
    by_cases c1 : bt s p / 32 = 6 ∧ tl s (p + 1) = true
    · rw [if_pos c1] at hd hn
      have hn : n = 2 := by
        by_cases c : 128 ≤ v2 s p
        · rw [if_pos c] at hn; exact hn.symm
        · rw [if_neg c] at hd; exact absurd hd hg
      have w : v2 x 0 = v2 s p := by unfold v2; rw [e0, (hb 1 (by omega)).2]
      rw [if_pos c1, if_pos ⟨c1.1, by rw [ht 1 (by omega)]; exact c1.2⟩, w]
    · rw [if_neg c1] at hd hn ⊢
      by_cases c2 : bt s p / 16 = 14 ∧ tl s (p + 1) = true ∧ tl s (p + 2) = true
      · rw [if_pos c2] at hd hn
        have hn : n = 3 := by
          by_cases c : 2048 ≤ v3 s p ∧ Utf8.valid (v3 s p : Nat) = true
          · rw [if_pos c] at hn; exact hn.symm
          · rw [if_neg c] at hd; exact absurd hd hg
        have w : v3 x 0 = v3 s p := by unfold v3; rw [e0, (hb 1 (by omega)).2, (hb 2 (by omega)).2]
        rw [if_pos c2, if_neg (by omega), if_pos ⟨c2.1, by rw [ht 1 (by omega)]; exact c2.2.1, by rw [ht 2 (by omega)]; exact c2.2.2⟩, w]
      · rw [if_neg c2] at hd hn ⊢
        by_cases c3 : bt s p / 8 = 30 ∧ tl s (p + 1) = true ∧ tl s (p + 2) = true ∧ tl s (p + 3) = true
        · rw [if_pos c3] at hd hn
          have hn : n = 4 := by
            by_cases c : 65536 ≤ v4 s p ∧ Utf8.valid (v4 s p : Nat) = true
            · rw [if_pos c] at hn; exact hn.symm
            · rw [if_neg c] at hd; exact absurd hd hg
          have w : v4 x 0 = v4 s p := by unfold v4; rw [e0, (hb 1 (by omega)).2, (hb 2 (by omega)).2, (hb 3 (by omega)).2]
          rw [if_pos c3, if_neg (by omega), if_neg (by omega), if_pos ⟨c3.1, by rw [ht 1 (by omega)]; exact c3.2.1, by rw [ht 2 (by omega)]; exact c3.2.2.1, by rw [ht 3 (by omega)]; exact c3.2.2.2⟩, w]
        · rw [if_neg c3] at hd
          exact absurd hd hg

/-- The bytes of a character are valid. -/
theorem valid_char {s : ByteArray} {p : Nat} (h : p < s.size) (hg : Utf8.decode s p ≠ (65533, 1)) : Lib.validD (s.extract p (p + (Utf8.decode s p).2)).data.toList = true := by
  have h1 := decode_width_le h
  have h2 := Lib.decode_width_pos s p h
  obtain ⟨n, hn⟩ : ∃ n, (Utf8.decode s p).2 = n := ⟨_, rfl⟩
  rw [hn] at h1 h2 ⊢
  have hlen : (s.extract p (p + n)).data.toList.length = n := by
    rw [sub_list, List.length_take, List.length_drop, ← Lib.size_eq]; omega
  have hdec : Lib.decodeL (s.extract p (p + n)).data.toList = Utf8.decode s p := by
    unfold Lib.decodeL
    refine decode_cut hn h2 hlen (fun k hk => ⟨by omega, ?_⟩) hg
    rw [lbt (by rw [hlen]; exact hk), bt_data (by omega), sub_list]
    simp only [List.getD_eq_getElem?_getD, List.getElem?_take, List.getElem?_drop]
    rw [if_pos (by omega)]
  have hne : (s.extract p (p + n)).data.toList ≠ [] := List.ne_nil_of_length_pos (by omega)
  rw [Lib.validD_step _ hne, hdec, if_neg (fun h => hg (Prod.ext h.1 h.2)), hn, List.drop_of_length_le (by omega)]
  rfl

/-- What a text's reading adds goes on as the text does, up to the first byte below 128. -/
theorem dev_fol {s : ByteArray} : ∀ (f p : Nat) (out : List UInt8) (e : Nat) (o : List UInt8), devT s f p out = some (e, o) → p ≤ s.size → ∃ r, o = out ++ r ∧ r.takeWhile hiB = (s.data.toList.drop p).takeWhile hiB
  | 0, _, _, _, _, h, _ => by rw [devT] at h; cases h
  | f + 1, p, out, e, o, h, hp => by
    rw [devT] at h
    by_cases hlt : p < s.size
    · rw [if_pos hlt] at h
      have hl : p < s.data.toList.length := by rw [← Lib.size_eq]; exact hlt
      by_cases hq : isIn (Utf8.decode s p).1 = true
      · rw [if_pos hq] at h
        have h1 := decode_width_le hlt
        obtain ⟨r, hr, ht⟩ := dev_fol f _ _ e o h h1
        refine ⟨(s.extract p (p + (Utf8.decode s p).2)).data.toList ++ r, by rw [hr, List.append_assoc], ?_⟩
        rw [tw_append ht, sub_list, Nat.add_sub_cancel_left, ← List.drop_drop, List.take_append_drop]
      · rw [if_neg hq] at h
        by_cases c : quote1 s p = true
        · have hb : hiB (s.data.toList[p]) = false := by
            unfold quote1 at c
            have c2 := (of_decide_eq_true c).2
            rw [bt_data hlt, List.getD_eq_getElem?_getD, List.getElem?_eq_getElem hl] at c2
            rw [Option.getD_some] at c2
            unfold hiB
            exact decide_eq_false (by omega)
          have hz : (s.data.toList.drop p).takeWhile hiB = [] := by
            rw [List.drop_eq_getElem_cons hl, List.takeWhile_cons_of_neg (by rw [hb]; simp)]
          rw [if_pos c] at h
          by_cases c2 : quote1 s (p + 1) = true
          · rw [if_pos c2] at h
            have h2 : p + 2 ≤ s.size := by unfold quote1 at c2; have := of_decide_eq_true c2; omega
            obtain ⟨r, hr, ht⟩ := dev_fol f _ _ e o h h2
            refine ⟨39 :: r, by rw [hr, List.append_assoc]; rfl, ?_⟩
            rw [hz, List.takeWhile_cons_of_neg (by decide)]
          · rw [if_neg c2] at h
            obtain ⟨rfl, rfl⟩ : p + 1 = e ∧ out = o := by simpa using h
            exact ⟨[], by simp, by rw [hz]; rfl⟩
        · rw [if_neg c] at h; cases h
    · rw [if_neg hlt] at h; cases h

theorem not_in {s : ByteArray} {p : Nat} (hq : ¬ isIn (Utf8.decode s p).1 = true) : bt s p = 39 ∨ bt s p = 10 := by
  have hv : (Utf8.decode s p).1 = 39 ∨ (Utf8.decode s p).1 = 10 := by
    unfold isIn at hq
    by_cases a : (Utf8.decode s p).1 = 39
    · exact Or.inl a
    · by_cases b : (Utf8.decode s p).1 = 10
      · exact Or.inr b
      · simp [a, b] at hq
  have hb : bt s p < 128 := by
    by_cases h : bt s p < 128
    · exact h
    · have := decode_ge h; omega
  rw [decode_is, if_pos hb] at hv
  exact hv

theorem is_in {s : ByteArray} {p : Nat} (hq : isIn (Utf8.decode s p).1 = true) : bt s p ≠ 39 ∧ bt s p ≠ 10 := by
  constructor
  · intro e
    rw [decode_is, if_pos (by omega), e] at hq
    exact absurd hq (by decide)
  · intro e
    rw [decode_is, if_pos (by omega), e] at hq
    exact absurd hq (by decide)

/-- What a text's reading gives, whole and then looked at, is what is read character by character. -/
theorem dev_tok {s : ByteArray} : ∀ (f p : Nat) (out : List UInt8), p ≤ s.size → Lib.validD out = true → textTok s f p out = match devT s f p out with
    | none => bad 1
    | some (e, o) => if Lib.validD o = true then ⟨2, 0, ⟨o.toArray⟩, e, 0⟩ else bad 1
  | 0, _, _, _, _ => by rw [textTok, devT]
  | f + 1, p, out, hp, hv => by
    rw [textTok, devT]
    by_cases hlt : p < s.size
    · rw [if_pos hlt, if_pos hlt]
      by_cases hq : isIn (Utf8.decode s p).1 = true
      · obtain ⟨n39, n10⟩ := is_in hq
        rw [if_neg n39, if_pos hq]
        by_cases hg : Utf8.decode s p = (65533, 1)
        · have hr : runeAt s p = (0, 0) := rune_none hg
          rw [if_pos (Or.inl (by rw [hr]))]
          cases hd : devT s f (p + (Utf8.decode s p).2) (out ++ (s.extract p (p + (Utf8.decode s p).2)).data.toList) with
          | none => rfl
          | some x =>
            obtain ⟨e, o⟩ := x
            have hd2 : devT s (f + 1) p out = some (e, o) := by rw [devT, if_pos hlt, if_pos hq]; exact hd
            obtain ⟨r, hr, ht⟩ := dev_fol (f + 1) p out e o hd2 hp
            have hl : p < s.data.toList.length := by rw [← Lib.size_eq]; exact hlt
            have hhi : hiB (s.data.toList[p]) = true := by
              have hb : ¬ bt s p < 128 := fun h => by rw [decode_is, if_pos h] at hg; have := congrArg Prod.fst hg; simp at this; omega
              rw [bt_data hlt, List.getD_eq_getElem?_getD, List.getElem?_eq_getElem hl] at hb
              unfold hiB
              exact decide_eq_true (by simpa using hb)
            have hne : (s.data.toList.drop p).takeWhile hiB ≠ [] := by
              rw [List.drop_eq_getElem_cons hl, List.takeWhile_cons_of_pos hhi]
              exact List.cons_ne_nil _ _
            have hdl : Lib.decodeL r = (65533, 1) := by
              rw [decodeL_high r (s.data.toList.drop p) ht (by rw [ht]; exact hne), ← hg, ← tail_list]
              exact (tail_decode (i := p) (j := 0) hlt)
            have hrn : r ≠ [] := fun e => by rw [e] at ht; exact hne ht.symm
            have hvf : Lib.validD o = false := by
              rw [hr, validD_append _ out r (Nat.le_refl _) hv, Lib.validD_step r hrn, hdl]
              rfl
            show bad 1 = if Lib.validD o = true then _ else bad 1
            rw [hvf, if_neg (by decide)]
        · have hr : runeAt s p = Utf8.decode s p := by unfold runeAt; rw [if_neg hg]
          have h1 := decode_width_le hlt
          have h2 := Lib.decode_width_pos s p hlt
          rw [hr, if_neg (fun h => by rcases h with h | h <;> omega)]
          exact dev_tok f _ _ h1 (by rw [validD_append _ out _ (Nat.le_refl _) hv]; exact valid_char hlt hg)
      · rw [if_neg hq]
        rcases not_in hq with h39 | h10
        · have c : quote1 s p = true := by unfold quote1; exact decide_eq_true ⟨hlt, h39⟩
          have hqq : quotes s p = quote1 s (p + 1) := by
            unfold quotes quote1
            exact decide_eq_decide.2 ⟨fun ⟨a, _, b⟩ => ⟨a, b⟩, fun ⟨a, b⟩ => ⟨a, h39, b⟩⟩
          rw [if_pos h39, if_pos c, hqq]
          by_cases c2 : quote1 s (p + 1) = true
          · rw [if_pos c2, if_pos c2]
            have h2 : p + 2 ≤ s.size := by unfold quote1 at c2; have := of_decide_eq_true c2; omega
            exact dev_tok f _ _ h2 (by rw [validD_append _ out _ (Nat.le_refl _) hv]; decide)
          · rw [if_neg c2, if_neg c2]
            show _ = if Lib.validD out = true then _ else bad 1
            rw [if_pos hv]
        · rw [if_neg (by omega), if_pos (Or.inr h10), if_neg (fun c => by unfold quote1 at c; have := of_decide_eq_true c; omega)]
    · rw [if_neg hlt, if_neg hlt]

theorem tail_quotes {s : ByteArray} {i j : Nat} : quotes (s.extract i s.size) j = quotes s (i + j) := by
  unfold quotes
  by_cases h : i + j + 2 ≤ s.size
  · rw [tail_bt (by omega), tail_bt (by omega), tail_size]
    exact decide_eq_decide.2 ⟨fun ⟨_, b⟩ => ⟨h, b⟩, fun ⟨_, b⟩ => ⟨by omega, b⟩⟩
  · rw [decide_eq_false (fun hh => h (by have := hh.1; rw [tail_size] at this; omega)), decide_eq_false (fun hh => h hh.1)]

/-- What is read in the rest of a line from place i on, in the line's places. -/
def shiftG (i : Nat) (g : Got) : Got := if g.c = 0 then ⟨g.k, g.n, g.t, g.e + i, g.c⟩ else bad 1

theorem shift_bad (i : Nat) : shiftG i (bad 1) = bad 1 := by unfold shiftG; rw [if_neg (by simp [bad])]

/-- A text is read in the rest of a line as in the line. -/
theorem tok_tail {s : ByteArray} {i : Nat} : ∀ (f p : Nat) (out : List UInt8), textTok s f (i + p) out = shiftG i (textTok (s.extract i s.size) f p out)
  | 0, p, out => by rw [textTok, textTok, shift_bad]
  | f + 1, p, out => by
    rw [textTok, textTok]
    by_cases h : i + p < s.size
    · have hd : runeAt (s.extract i s.size) p = runeAt s (i + p) := by unfold runeAt; rw [tail_decode h]
      have h2 : p < (s.extract i s.size).size := by rw [tail_size]; omega
      rw [if_pos h, if_pos h2, tail_bt h, tail_quotes, hd]
      by_cases c1 : bt s (i + p) = 39
      · rw [if_pos c1, if_pos c1]
        by_cases c2 : quotes s (i + p) = true
        · rw [if_pos c2, if_pos c2]
          exact tok_tail f (p + 2) _
        · rw [if_neg c2, if_neg c2]
          unfold shiftG
          rw [if_pos rfl]
          simp only [Got.mk.injEq, true_and, and_true]
          omega
      · rw [if_neg c1, if_neg c1]
        by_cases c2 : (runeAt s (i + p)).2 = 0 ∨ bt s (i + p) = 10
        · rw [if_pos c2, if_pos c2, shift_bad]
        · rw [if_neg c2, if_neg c2]
          have hw : i + p + (runeAt s (i + p)).2 ≤ s.size := by
            by_cases hg : Utf8.decode s (i + p) = (65533, 1)
            · exact absurd (Or.inl (by rw [rune_none hg])) c2
            · have hr : runeAt s (i + p) = Utf8.decode s (i + p) := by unfold runeAt; rw [if_neg hg]
              rw [hr]
              exact decode_width_le h
          have hx : (s.extract i s.size).extract p (p + (runeAt s (i + p)).2) = s.extract (i + p) (i + p + (runeAt s (i + p)).2) := by
            refine ByteArray.ext (Array.toList_inj.1 ?_)
            rw [sub_list, tail_list, sub_list, List.drop_drop, Nat.add_sub_cancel_left, Nat.add_sub_cancel_left]
          rw [hx, Nat.add_assoc]
          exact tok_tail f _ _
    · have h2 : ¬ p < (s.extract i s.size).size := by rw [tail_size]; omega
      rw [if_neg h, if_neg h2, shift_bad]

end Go.Proofs.YtinndpnilmmmjaaGreatDoor
namespace Go.Proofs.YtinndpnilmmmjaaGreatDoor
open Go

/-- The text rs stands in s, its last byte at place k. -/
def Mt (s rs : ByteArray) (L k : Nat) : Prop := L ≤ k ∧ k < s.size ∧ ∀ j, j ≤ L → bt s (k - j) = bt rs (L - j)

/-- How often a byte stands ahead of a place. -/
def cnt (s : ByteArray) (c : Nat) : Nat → Nat
  | 0 => 0
  | k + 1 => cnt s c k + (if bt s k = c then 1 else 0)

theorem cnt_mono (s : ByteArray) (c k : Nat) : ∀ d, cnt s c k ≤ cnt s c (k + d)
  | 0 => Nat.le_refl _
  | d + 1 => by
    have := cnt_mono s c k d
    rw [← Nat.add_assoc, cnt]
    omega

theorem cnt_hit {s : ByteArray} {c k m : Nat} (h : k ≤ m) (hm : bt s m = c) {f : Nat} (hf : f ≤ cnt s c k) : f + 1 ≤ cnt s c (m + 1) := by
  have := cnt_mono s c k (m - k)
  rw [show k + (m - k) = m by omega] at this
  rw [cnt, if_pos hm]
  omega

theorem tail_at {s : ByteArray} {k j : Nat} (h : k + j < s.size) : (s.extract k s.size).data.toList[j]? = some (UInt8.ofNat (bt s (k + j))) := by
  rw [tail_list, List.getElem?_drop]
  have hl : k + j < s.data.toList.length := by rw [← Lib.size_eq]; exact h
  rw [List.getElem?_eq_getElem hl, bt_data h, List.getD_eq_getElem?_getD, List.getElem?_eq_getElem hl, Option.getD_some]
  simp

theorem idx_none {s : ByteArray} {k c : Nat} (h : Lib.indexByte (s.extract (k + 1) s.size).data.toList (((c : Nat) : Int).toNat.toUInt8) = -1) (m : Nat) (h1 : k < m) (h2 : m < s.size) : bt s m ≠ c := by
  intro e
  have := Lib.indexByte_none h (m - (k + 1))
  rw [tail_at (by omega), show k + 1 + (m - (k + 1)) = m by omega, e] at this
  exact this (by simp)

theorem idx_some {s : ByteArray} {k c o : Nat} (hc : c < 256) (ho : k + 1 + o < s.size) (h : Lib.indexByte (s.extract (k + 1) s.size).data.toList (((c : Nat) : Int).toNat.toUInt8) = o) : bt s (k + 1 + o) = c ∧ ∀ m, k < m → m < k + 1 + o → bt s m ≠ c := by
  obtain ⟨h1, h2⟩ := Lib.indexByte_some h
  constructor
  · rw [tail_at ho] at h1
    have h3 := congrArg UInt8.toNat (Option.some.inj h1)
    have := bt_lt s (k + 1 + o)
    rw [UInt8.toNat_ofNat', Int.toNat_natCast] at h3
    simp at h3
    omega
  · intro m m1 m2 e
    have := h2 (m - (k + 1)) (by omega)
    rw [tail_at (by omega), show k + 1 + (m - (k + 1)) = m by omega, e] at this
    exact this (by simp)

end Go.Proofs.YtinndpnilmmmjaaGreatDoor
namespace Go.Proofs.YtinndpnilmmmjaaGreatDoor
open Go

/-- The signs, one behind the other. -/
def sgs : ByteArray := ⟨(signCs.flatMap fun c => (encZ (c : Nat)).map fun x => x.toNat.toUInt8).toArray⟩

end Go.Proofs.YtinndpnilmmmjaaGreatDoor
namespace Go.Proofs.YtinndpnilmmmjaaGreatDoor
open Go

/-- What the bytes of a character of two to four bytes are. -/
structure Wide (v L : Nat) : Prop where
  size : (Utf8.encode (v : Int)).size = L + 1
  lo : 1 ≤ L
  hi : L ≤ 3
  last : 128 ≤ bt (Utf8.encode (v : Int)) L ∧ bt (Utf8.encode (v : Int)) L < 192
  reads : ∀ s i, i + L < s.size → (∀ t, t ≤ L → bt s (i + t) = bt (Utf8.encode (v : Int)) t) → Utf8.decode s i = (v, L + 1)
  len : (encZ (v : Int)).length = L + 1
  same : ∀ t, t ≤ L → bt (Utf8.encode (v : Int)) t = ((encZ (v : Int)).getD t 0).toNat

theorem u8n {x : Nat} (h : x < 256) : (UInt8.ofNat x).toNat = x := by rw [UInt8.toNat_ofNat']; omega

theorem wide_of {v : Nat} (hv : Utf8.valid (v : Int) = true) (h : 128 ≤ v) : ∃ L, Wide v L := by
  have hlt : v < 2097152 := by
    have := valid_ok v
    rw [hv] at this
    unfold runeOk at this
    have := of_decide_eq_true this.symm
    omega
  have n0 : ¬ v < 128 := by omega
  have z0 : ¬ (v : Int) < 128 := by omega
  by_cases h2 : v < 2048
  · have e : Utf8.encode (v : Int) = ⟨#[UInt8.ofNat (192 + v / 64), UInt8.ofNat (128 + v % 64)]⟩ := by
      unfold Utf8.encode
      simp only [hv, if_true, Int.toNat_natCast, if_neg n0, if_pos h2]
    have b0 : bt (Utf8.encode (v : Int)) 0 = 192 + v / 64 := by rw [e]; exact u8n (by omega)
    have b1 : bt (Utf8.encode (v : Int)) 1 = 128 + v % 64 := by rw [e]; exact u8n (by omega)
    have ez : encZ (v : Int) = [192 + (v : Int) / 64, 128 + (v : Int) % 64] := by unfold encZ; rw [if_neg z0, if_pos (by omega)]
    refine ⟨1, by rw [e]; rfl, by omega, by omega, by rw [b1]; omega, fun s i hi hb => ?_, by rw [ez]; rfl, fun t ht => ?_⟩
    · have c0 := hb 0 (by omega)
      have c1 := hb 1 (by omega)
      rw [b0, Nat.add_zero] at c0
      rw [b1] at c1
      have t1 : tl s (i + 1) = true := by unfold tl; exact decide_eq_true ⟨hi, by omega, by omega⟩
      have w : v2 s i = v := by unfold v2; rw [c0, c1]; omega
      rw [decode_is, if_neg (by omega), if_pos ⟨by omega, t1⟩, if_pos (by omega), w]
    · rw [ez]
      rcases (by omega : t = 0 ∨ t = 1) with rfl | rfl
      · rw [b0]; show _ = (192 + (v : Int) / 64).toNat; omega
      · rw [b1]; show _ = (128 + (v : Int) % 64).toNat; omega
  by_cases h3 : v < 65536
  · have e : Utf8.encode (v : Int) = ⟨#[UInt8.ofNat (224 + v / 4096), UInt8.ofNat (128 + v / 64 % 64), UInt8.ofNat (128 + v % 64)]⟩ := by
      unfold Utf8.encode
      simp only [hv, if_true, Int.toNat_natCast, if_neg n0, if_neg h2, if_pos h3]
    have b0 : bt (Utf8.encode (v : Int)) 0 = 224 + v / 4096 := by rw [e]; exact u8n (by omega)
    have b1 : bt (Utf8.encode (v : Int)) 1 = 128 + v / 64 % 64 := by rw [e]; exact u8n (by omega)
    have b2 : bt (Utf8.encode (v : Int)) 2 = 128 + v % 64 := by rw [e]; exact u8n (by omega)
    have ez : encZ (v : Int) = [224 + (v : Int) / 4096, 128 + (v : Int) / 64 % 64, 128 + (v : Int) % 64] := by unfold encZ; rw [if_neg z0, if_neg (by omega), if_pos (by omega)]
    refine ⟨2, by rw [e]; rfl, by omega, by omega, by rw [b2]; omega, fun s i hi hb => ?_, by rw [ez]; rfl, fun t ht => ?_⟩
    · have c0 := hb 0 (by omega)
      have c1 := hb 1 (by omega)
      have c2 := hb 2 (by omega)
      rw [b0, Nat.add_zero] at c0
      rw [b1] at c1
      rw [b2] at c2
      have t1 : tl s (i + 1) = true := by unfold tl; exact decide_eq_true ⟨by omega, by omega, by omega⟩
      have t2 : tl s (i + 2) = true := by unfold tl; exact decide_eq_true ⟨hi, by omega, by omega⟩
      have w : v3 s i = v := by unfold v3; rw [c0, c1, c2]; omega
      rw [decode_is, if_neg (by omega), if_neg (by omega), if_pos ⟨by omega, t1, t2⟩, w, if_pos ⟨by omega, hv⟩]
    · rw [ez]
      rcases (by omega : t = 0 ∨ t = 1 ∨ t = 2) with rfl | rfl | rfl
      · rw [b0]; show _ = (224 + (v : Int) / 4096).toNat; omega
      · rw [b1]; show _ = (128 + (v : Int) / 64 % 64).toNat; omega
      · rw [b2]; show _ = (128 + (v : Int) % 64).toNat; omega
  · have e : Utf8.encode (v : Int) = ⟨#[UInt8.ofNat (240 + v / 262144), UInt8.ofNat (128 + v / 4096 % 64), UInt8.ofNat (128 + v / 64 % 64), UInt8.ofNat (128 + v % 64)]⟩ := by
      unfold Utf8.encode
      simp only [hv, if_true, Int.toNat_natCast, if_neg n0, if_neg h2, if_neg h3]
    have b0 : bt (Utf8.encode (v : Int)) 0 = 240 + v / 262144 := by rw [e]; exact u8n (by omega)
    have b1 : bt (Utf8.encode (v : Int)) 1 = 128 + v / 4096 % 64 := by rw [e]; exact u8n (by omega)
    have b2 : bt (Utf8.encode (v : Int)) 2 = 128 + v / 64 % 64 := by rw [e]; exact u8n (by omega)
    have b3 : bt (Utf8.encode (v : Int)) 3 = 128 + v % 64 := by rw [e]; exact u8n (by omega)
    have ez : encZ (v : Int) = [240 + (v : Int) / 262144, 128 + (v : Int) / 4096 % 64, 128 + (v : Int) / 64 % 64, 128 + (v : Int) % 64] := by unfold encZ; rw [if_neg z0, if_neg (by omega), if_neg (by omega)]
    refine ⟨3, by rw [e]; rfl, by omega, by omega, by rw [b3]; omega, fun s i hi hb => ?_, by rw [ez]; rfl, fun t ht => ?_⟩
    · have c0 := hb 0 (by omega)
      have c1 := hb 1 (by omega)
      have c2 := hb 2 (by omega)
      have c3 := hb 3 (by omega)
      rw [b0, Nat.add_zero] at c0
      rw [b1] at c1
      rw [b2] at c2
      rw [b3] at c3
      have t1 : tl s (i + 1) = true := by unfold tl; exact decide_eq_true ⟨by omega, by omega, by omega⟩
      have t2 : tl s (i + 2) = true := by unfold tl; exact decide_eq_true ⟨by omega, by omega, by omega⟩
      have t3 : tl s (i + 3) = true := by unfold tl; exact decide_eq_true ⟨hi, by omega, by omega⟩
      have w : v4 s i = v := by unfold v4; rw [c0, c1, c2, c3]; omega
      rw [decode_is, if_neg (by omega), if_neg (by omega), if_neg (by omega), if_pos ⟨by omega, t1, t2, t3⟩, w, if_pos ⟨by omega, hv⟩]
    · rw [ez]
      rcases (by omega : t = 0 ∨ t = 1 ∨ t = 2 ∨ t = 3) with rfl | rfl | rfl | rfl
      · rw [b0]; show _ = (240 + (v : Int) / 262144).toNat; omega
      · rw [b1]; show _ = (128 + (v : Int) / 4096 % 64).toNat; omega
      · rw [b2]; show _ = (128 + (v : Int) / 64 % 64).toNat; omega
      · rw [b3]; show _ = (128 + (v : Int) % 64).toNat; omega

/-- What is read is a character. -/
theorem decode_valid (s : ByteArray) (i : Nat) : Utf8.valid ((Utf8.decode s i).1 : Int) = true := by
  have small : ∀ {v : Nat}, v < 2048 → Utf8.valid (v : Int) = true := fun {v} h => by
    rw [valid_ok]
    unfold runeOk
    exact decide_eq_true (by omega)
  have hbad : Utf8.valid ((65533 : Nat) : Int) = true := by decide
  rw [decode_is]
  by_cases c0 : bt s i < 128
  · rw [if_pos c0]; exact small (by show bt s i < 2048; omega)
  · rw [if_neg c0]
    by_cases c1 : bt s i / 32 = 6 ∧ tl s (i + 1) = true
    · rw [if_pos c1]
      by_cases c : 128 ≤ v2 s i
      · rw [if_pos c]; exact small (by show v2 s i < 2048; unfold v2; omega)
      · rw [if_neg c]; exact hbad
    · rw [if_neg c1]
      by_cases c2 : bt s i / 16 = 14 ∧ tl s (i + 1) = true ∧ tl s (i + 2) = true
      · rw [if_pos c2]
        by_cases c : 2048 ≤ v3 s i ∧ Utf8.valid (v3 s i : Nat) = true
        · rw [if_pos c]; exact c.2
        · rw [if_neg c]; exact hbad
      · rw [if_neg c2]
        by_cases c3 : bt s i / 8 = 30 ∧ tl s (i + 1) = true ∧ tl s (i + 2) = true ∧ tl s (i + 3) = true
        · rw [if_pos c3]
          by_cases c : 65536 ≤ v4 s i ∧ Utf8.valid (v4 s i : Nat) = true
          · rw [if_pos c]; exact c.2
          · rw [if_neg c]; exact hbad
        · rw [if_neg c3]; exact hbad

/-- The count of a byte, place by place. -/
def passes (c : Nat) : List UInt8 → Nat → Nat → Bool
  | [], _, _ => true
  | b :: t, i, n => decide (n ≤ (i + 16) / 8) && passes c t (i + 1) (n + if b.toNat = c then 1 else 0)

theorem passes_cnt {s : ByteArray} {c : Nat} : ∀ (d i : Nat), s.size - i = d → passes c (s.data.toList.drop i) i (cnt s c i) = true → ∀ j, i ≤ j → j < s.size → cnt s c j ≤ (j + 16) / 8
  | 0, i, hd, _, j, h1, h2 => by omega
  | d + 1, i, hd, hp, j, h1, h2 => by
    have hl : i < s.data.toList.length := by rw [← Lib.size_eq]; omega
    rw [List.drop_eq_getElem_cons hl, passes, Bool.and_eq_true] at hp
    by_cases e : j = i
    · rw [e]; exact of_decide_eq_true hp.1
    · refine passes_cnt d (i + 1) (by omega) ?_ j (by omega) h2
      have hb : (s.data.toList[i]).toNat = bt s i := by rw [bt_data (by omega), List.getD_eq_getElem?_getD, List.getElem?_eq_getElem hl, Option.getD_some]
      rw [cnt, ← hb]
      exact hp.2

set_option maxRecDepth 100000 in
theorem sgs_passes : (List.range 64).all (fun d => passes (128 + d) sgs.data.toList 0 0) = true := by kernel_rfl

theorem sgs_cnt {c : Nat} (h1 : 128 ≤ c) (h2 : c < 192) (j : Nat) (hj : j < sgs.size) : cnt sgs c j ≤ (j + 16) / 8 := by
  have h := List.all_eq_true.1 sgs_passes (c - 128) (List.mem_range.2 (by omega))
  rw [show 128 + (c - 128) = c by omega] at h
  exact passes_cnt (sgs.size - 0) 0 rfl h j (Nat.zero_le _) hj

set_option maxRecDepth 100000 in
theorem sgs_reads : (List.range sgs.size).all (fun i => decide ((Utf8.decode sgs i).1 ∈ signCs) || decide ((Utf8.decode sgs i).1 = 65533)) = true := by kernel_rfl

theorem sgs_list : sgs.data.toList = signCs.flatMap fun c => (encZ (c : Nat)).map fun x => x.toNat.toUInt8 := rfl

/-- A character of two bytes or more stands in the signs where it is one of them. -/
theorem sgs_has {v L : Nat} (hW : Wide v L) (hne : v ≠ 65533) : (∃ k, Mt sgs (Utf8.encode (v : Int)) L k) ↔ v ∈ signCs := by
  constructor
  · rintro ⟨k, h1, h2, h3⟩
    have hd : Utf8.decode sgs (k - L) = (v, L + 1) := hW.reads sgs (k - L) (by omega) fun t ht => by
      have := h3 (L - t) (by omega)
      rw [show k - (L - t) = k - L + t by omega, show L - (L - t) = t by omega] at this
      exact this
    have := List.all_eq_true.1 sgs_reads (k - L) (List.mem_range.2 (by omega))
    rw [hd] at this
    rcases Bool.or_eq_true _ _ ▸ this with h | h
    · exact of_decide_eq_true h
    · exact absurd (of_decide_eq_true h) hne
  · intro hm
    obtain ⟨l1, l2, hl⟩ := List.append_of_mem hm
    have hs : sgs.data.toList = (l1.flatMap fun c => (encZ (c : Nat)).map fun x => x.toNat.toUInt8) ++ ((encZ (v : Int)).map fun x => x.toNat.toUInt8) ++ (l2.flatMap fun c => (encZ (c : Nat)).map fun x => x.toNat.toUInt8) := by
      rw [sgs_list, hl, List.flatMap_append, List.flatMap_cons, List.append_assoc]
    generalize (l1.flatMap fun c => (encZ (c : Nat)).map fun x => x.toNat.toUInt8) = A at hs
    generalize (l2.flatMap fun c => (encZ (c : Nat)).map fun x => x.toNat.toUInt8) = B at hs
    have hsz : sgs.size = A.length + (L + 1) + B.length := by
      rw [Lib.size_eq, hs, List.length_append, List.length_append, List.length_map, hW.len]
    refine ⟨A.length + L, by omega, by omega, fun j hj => ?_⟩
    have hv : v ≤ 2097151 := by
      have : v ∈ signCs := hm
      have h : ∀ x ∈ signCs, x ≤ 2097151 := by decide
      exact h v this
    have hb := encZ_byte hv
    have hx : L - j < (encZ (v : Int)).length := by rw [hW.len]; omega
    rw [bt_data (by omega), hs, hW.same (L - j) (by omega), List.getD_eq_getElem?_getD, List.getElem?_append_left (by rw [List.length_append, List.length_map, hW.len]; omega), List.getElem?_append_right (by omega), show A.length + L - j - A.length = L - j by omega, List.getElem?_map, List.getD_eq_getElem?_getD, List.getElem?_eq_getElem hx]
    have h2 := hb _ (List.getElem_mem hx)
    simp only [Option.map_some, Option.getD_some]
    generalize (encZ (v : Int))[L - j] = y at h2
    have : y.toNat < 256 := by omega
    simp only [Nat.toUInt8]
    exact u8n this

end Go.Proofs.YtinndpnilmmmjaaGreatDoor
namespace Go.Proofs.YtinndpnilmmmjaaGreatDoor
open Go.RowKit

/-- What strings.ContainsRune says of the signs. -/
def SignsSaid (P : Nat → Bool) : Prop := ∀ (sg : ByteArray) (v : Nat) (W : World), sg = sgs → Utf8.valid (v : Int) = true → Calls Tryz.prog 190 #[.string sg, .int .i32 (v : Int)] W fun e w' => e = .returned (.bool (P v)) ∧ Below W.heap.size W w'

set_option maxRecDepth 100000 in
set_option maxHeartbeats 2000000 in
theorem readSign_of (P : Nat → Bool) (hP : SignsSaid P) (t : ByteArray) (w : World) (h0 : 0 < t.size) (hw : (Utf8.decode t 0).2 ≤ t.size) (hT : TabsAt w) :
    Calls Tryz.prog 156 #[.string t] w fun e w' => e = .returned (if P (Utf8.decode t 0).1 = true then readV 4 0 (t.extract 0 (Utf8.decode t 0).2) (Utf8.decode t 0).2 0 else readV 0 0 ⟨#[]⟩ 0 1) ∧ Below w.heap.size w w' := by
  obtain ⟨Q, hQ⟩ : ∃ Q, Q = w.alloc (.cells #[.int .i64 0, .int .i64 0, .string ⟨#[]⟩, .int .i64 0] 64) := ⟨_, rfl⟩
  have HQ := hide hQ
  have HBX : Hid (TBox Q w.heap.size (.int .i64 0) (.int .i64 0) (.string ⟨#[]⟩) (.int .i64 0)) := by rw [hQ]; exact TBox.new w _ _ _ _
  have HBQ : Hid (Below w.heap.size w Q) := by rw [hQ]; exact (Below.refl _ _).alloc (Nat.le_refl _) _
  clear hQ
  have HD := hide (decode_any t h0 Q (hT.below (unhide HBQ)))
  have hsl := fun W => run_sub0 (s := t) (q := (Utf8.decode t 0).2) hw W
  have hva := decode_valid t 0
  obtain ⟨v, hv⟩ : ∃ v, (Utf8.decode t 0).1 = v := ⟨_, rfl⟩
  rw [hv] at hva
  obtain ⟨c, hc⟩ : ∃ c, (Utf8.decode t 0).2 = c := ⟨_, rfl⟩
  rw [hv, hc] at HD ⊢
  rw [hc] at hsl
  obtain ⟨x, hx⟩ : ∃ x, t.extract 0 c = x := ⟨_, rfl⟩
  rw [hx] at hsl ⊢
  have HP : Hid (∀ (sg : ByteArray) (W : World), sg = sgs → Calls Tryz.prog 190 #[.string sg, .int .i32 (v : Int)] W fun e w' => e = .returned (.bool (P v)) ∧ Below W.heap.size W w') := hide fun sg W h => hP sg v W h hva
  clear hva hv hc hx hw hT h0 hP
  cases hp : P v with
  | true =>
    rw [hp] at HP
    rw [if_pos rfl]
    go_enter Tryz.func156, Tryz.ntmps156
    go_wp2_with (first | (go_at_call 175; rw [← unhide HQ]; refine (unhide HD).mono ?_; rintro e w5 ⟨rfl, hb5⟩; have HB5 := hide ((unhide HBQ).trans (hb5.mono (unhide HBQ).size)); have HX5 := hide ((unhide HBX).below (Nat.le_refl _) hb5); clear hb5) | (go_at_call 190; refine (unhide HP _ _ (by kernel_rfl)).mono ?_; rintro e w6 ⟨rfl, hb6⟩; have HB6 := hide ((unhide HB5).trans (hb6.mono (unhide HB5).size)); obtain ⟨q0, q1, q2, q3, f0, f1, f2, f3⟩ := ((unhide HX5).below (Nat.le_refl _) hb6).all; clear hb6))
    refine bodyPost_ret (v := readV 4 0 x c 0) (by simp [results, Tryz.results156, go_sem, q0, q1, q2, q3, readV]) rfl ?_
    exact ⟨rfl, (((((unhide HB6).setCell (Nat.le_refl _) _).setCell (Nat.le_refl _) _).setCell (Nat.le_refl _) _).setCell (Nat.le_refl _) _)⟩
  | false =>
    rw [hp] at HP
    rw [if_neg (by decide)]
    go_enter Tryz.func156, Tryz.ntmps156
    go_wp2_with (first | (go_at_call 175; rw [← unhide HQ]; refine (unhide HD).mono ?_; rintro e w5 ⟨rfl, hb5⟩; have HB5 := hide ((unhide HBQ).trans (hb5.mono (unhide HBQ).size)); have HX5 := hide ((unhide HBX).below (Nat.le_refl _) hb5); clear hb5) | (go_at_call 190; refine (unhide HP _ _ (by kernel_rfl)).mono ?_; rintro e w6 ⟨rfl, hb6⟩; have HB6 := hide ((unhide HB5).trans (hb6.mono (unhide HB5).size)); obtain ⟨q0, q1, q2, q3, f0, f1, f2, f3⟩ := ((unhide HX5).below (Nat.le_refl _) hb6).all; clear hb6))
    refine bodyPost_ret (v := readV 0 0 ⟨#[]⟩ 0 1) (by simp [results, Tryz.results156, go_sem, q0, q1, q2, q3, readV]) rfl ?_
    exact ⟨rfl, (((((unhide HB6).setCell (Nat.le_refl _) _).setCell (Nat.le_refl _) _).setCell (Nat.le_refl _) _).setCell (Nat.le_refl _) _)⟩

end Go.Proofs.YtinndpnilmmmjaaGreatDoor
namespace Go.Proofs.YtinndpnilmmmjaaGreatDoor
open Go.RowKit

theorem contains_of (s : ByteArray) (v : Nat) (n : Int) (W : World) (h : Calls Tryz.prog 214 #[.string s, .int .i32 (v : Int)] W fun e w' => e = .returned (.int .i64 n) ∧ Below W.heap.size W w') :
    Calls Tryz.prog 190 #[.string s, .int .i32 (v : Int)] W fun e w' => e = .returned (.bool (decide (0 ≤ n))) ∧ Below W.heap.size W w' := by
  have H := hide h
  clear h
  go_enter Tryz.func190, Tryz.ntmps190
  go_wp2_with (go_at_call 214; refine (unhide H).mono ?_; rintro e w5 ⟨rfl, hb5⟩; have HB5 := hide hb5; clear hb5)
  go_ret
  exact ⟨ret_bool rfl, unhide HB5⟩

/-- No U+FFFD is read from a place on. -/
def noBad (s : ByteArray) : Nat → Nat → Bool
  | 0, _ => true
  | f + 1, i => if i < s.size then !(decide ((Utf8.decode s i).1 = 65533)) && noBad s f (i + (Utf8.decode s i).2) else true

set_option maxRecDepth 100000 in
theorem sgs_noBad : noBad sgs (sgs.size + 1) 0 = true := by kernel_rfl

set_option maxRecDepth 20000 in
set_option maxHeartbeats 2000000 in
/-- U+FFFD: the text is gone through; where no such character is read there is none. -/
theorem indexRune_bad (s : ByteArray) (w : World) (hno : noBad s (s.size + 1) 0 = true) :
    Calls Tryz.prog 214 #[.string s, .int .i32 65533] w fun e w' => e = .returned (.int .i64 (-1)) ∧ Below w.heap.size w w' := by
  have HN := hide hno
  clear hno
  go_enter Tryz.func214, Tryz.ntmps214
  go_wp2_with fail
  go_loopw [5] (fun _ w' => ∃ pos F : Nat, w' = w.iter s pos ∧ s.size - pos < F ∧ Hid (noBad s F pos = true)) (fun _ w' => s.size - w'.iterPos w.heap.size)
  case atStart => exact ⟨0, s.size + 1, rfl, by omega, HN⟩
  case round =>
    obtain ⟨pos, F, rfl, hF, HK⟩ := hrel
    obtain ⟨F', rfl⟩ : ∃ f, F = f + 1 := ⟨F - 1, by omega⟩
    by_cases hlt : pos < s.size
    · have hnx : ∀ ty, (Instr.next (.pointer (some ⟨w.heap.size, 0, none⟩)) true ty).run Tryz.prog (w.iter s pos) = _ := fun ty => run_next_any w s pos ty hlt
      have hwd := Lib.decode_width_pos s pos hlt
      obtain ⟨hne0, hk⟩ : ¬ (Utf8.decode s pos).1 = 65533 ∧ noBad s F' (pos + (Utf8.decode s pos).2) = true := by
        have := unhide HK
        rw [noBad, if_pos hlt, Bool.and_eq_true] at this
        exact ⟨by simpa using this.1, this.2⟩
      have hne : ¬ (((Utf8.decode s pos).1 : Nat) : Int) = 65533 := by omega
      clear hne0
      have HK2 := hide hk
      clear hk HK
      obtain ⟨v, hv⟩ : ∃ v, (Utf8.decode s pos).1 = v := ⟨_, rfl⟩
      obtain ⟨wd, hw⟩ : ∃ n, (Utf8.decode s pos).2 = n := ⟨_, rfl⟩
      rw [hv, hw] at hnx
      rw [hw] at hwd HK2
      rw [hv] at hne
      clear hv hw
      go_wp2_with fail
      go_roundw
      case rel => exact ⟨pos + wd, F', rfl, by omega, HK2⟩
      case measure => simp; omega
    · have hnx : ∀ ty, (Instr.next (.pointer (some ⟨w.heap.size, 0, none⟩)) true ty).run Tryz.prog (w.iter s pos) = _ := fun ty => run_next_end w s pos ty hlt
      go_wp2_with fail
      go_ret
      exact ⟨rfl, (Below.refl _ _).alloc (Nat.le_refl _) _⟩

end Go.Proofs.YtinndpnilmmmjaaGreatDoor
namespace Go.Proofs
open Go.Shelf
def Tryz.containsS_ren : Go.Shelf.Ren := ⟨fun | 151 => 190 | 152 => 214 | 137 => 238 | 119 => 239 | 224 => 227 | 225 => 226 | 217 => 225 | 266 => 243 | n => n, fun | 9 => 9 | 21 => 21 | 4 => 4 | 3 => 3 | 5 => 5 | 0 => 0 | 46 => 207 | n => n, fun | n => n⟩
theorem Tryz.containsS : Go.Proofs.Lays.n151 Tryz.prog Tryz.containsS_ren := {
  mixed := by kernel_rfl
  f119 := Tryz.func239.trans (congrArg some (by kernel_rfl))
  f137 := Tryz.func238.trans (congrArg some (by kernel_rfl))
  f151 := Tryz.func190.trans (congrArg some (by kernel_rfl))
  f152 := Tryz.func214.trans (congrArg some (by kernel_rfl))
  f217 := Tryz.func225.trans (congrArg some (by kernel_rfl))
  f224 := Tryz.func227.trans (congrArg some (by kernel_rfl))
  f225 := Tryz.func226.trans (congrArg some (by kernel_rfl))
  f266 := Tryz.func243.trans (congrArg some (by kernel_rfl))
  t0 := Tryz.underlying0
  a0 := Tryz.isAgg0
  z0 := Tryz.sizeOf0
  v0 := Tryz.zeroValue0
  t3 := Tryz.underlying3
  a3 := Tryz.isAgg3
  z3 := Tryz.sizeOf3
  v3 := Tryz.zeroValue3
  t4 := Tryz.underlying4
  a4 := Tryz.isAgg4
  z4 := Tryz.sizeOf4
  v4 := Tryz.zeroValue4
  t5 := Tryz.underlying5
  a5 := Tryz.isAgg5
  z5 := Tryz.sizeOf5
  v5 := Tryz.zeroValue5
  t9 := Tryz.underlying9
  a9 := Tryz.isAgg9
  z9 := Tryz.sizeOf9
  v9 := Tryz.zeroValue9
  t21 := Tryz.underlying21
  a21 := Tryz.isAgg21
  z21 := Tryz.sizeOf21
  v21 := Tryz.zeroValue21
  t46 := Tryz.underlying207
  a46 := Tryz.isAgg207
  z46 := Tryz.sizeOf207
  v46 := Tryz.zeroValue207 }
end Go.Proofs
namespace Go.Proofs.YtinndpnilmmmjaaGreatDoor
open Go.RowKit

set_option maxRecDepth 100000 in
theorem sgs_ascii : (List.range 128).all (fun v => decide (0 ≤ Lib.indexByte sgs.data.toList v.toUInt8) == decide (v ∈ signCs)) = true := by kernel_rfl

/-- What ContainsRune says of a character of one byte. -/
theorem contains_small (v : Nat) (hv : v < 128) (W : World) : Calls Tryz.prog 190 #[.string sgs, .int .i32 (v : Int)] W fun e w' => e = .returned (.bool (decide (v ∈ signCs))) ∧ Below W.heap.size W w' := by
  have hq : decide (0 ≤ Lib.indexByte sgs.data.toList v.toUInt8) = decide (v ∈ signCs) := by simpa using List.all_eq_true.1 sgs_ascii v (List.mem_range.2 hv)
  refine (Any.strings_ContainsRune_ascii Tryz.containsS sgs (v : Int) W (by omega) (by omega)).mono ?_
  rintro e w' ⟨rfl, rfl⟩
  rw [Int.toNat_natCast, hq]
  exact ⟨rfl, Below.refl _ _⟩

/-- .. and of U+FFFD. -/
theorem contains_bad (W : World) : Calls Tryz.prog 190 #[.string sgs, .int .i32 ((65533 : Nat) : Int)] W fun e w' => e = .returned (.bool (decide ((65533 : Nat) ∈ signCs))) ∧ Below W.heap.size W w' := by
  have h := contains_of sgs 65533 (-1) W (indexRune_bad sgs W sgs_noBad)
  have e : decide ((0 : Int) ≤ -1) = decide ((65533 : Nat) ∈ signCs) := by decide
  rw [e] at h
  exact h

end Go.Proofs.YtinndpnilmmmjaaGreatDoor
namespace Go.Proofs.YtinndpnilmmmjaaGreatDoor
open Go.RowKit

theorem validRune_any (z : Int) (hv : Lib.validRune z = true) (w : World) : Calls Tryz.prog 239 #[.int .i32 z] w fun e w' => e = .returned (.bool true) ∧ w' = w := by
  have h : (0 ≤ z ∧ z < 55296) ∨ (57343 < z ∧ z ≤ 1114111) := by unfold Lib.validRune at hv; exact of_decide_eq_true hv
  clear hv
  go_enter Tryz.func239, Tryz.ntmps239
  go_wp2
  all_goals first | (exfalso; omega) | (go_ret; exact ⟨rfl, rfl⟩)

theorem run_subT {s : ByteArray} {q : Nat} (h2 : q ≤ s.size) (W : World) : (Instr.slice 9 (.string s) (some (.int .i64 (q : Nat))) none none).run Tryz.prog W = .ok (.string (s.extract q s.size)) W := by
  have h3 : (q : Int) ≤ (s.size : Int) := by omega
  go_simp

theorem idxByte_any (s : ByteArray) (c : Int) (w : World) : Calls Tryz.prog 238 #[.string s, .int .u8 c] w fun e w' => e = .returned (.int .i64 (Lib.indexByte s.data.toList c.toNat.toUInt8)) ∧ w' = w :=
  Any.strings_IndexByte (P := Tryz.prog) (ρ := Tryz.containsS_ren) { Tryz.containsS with } s c w

theorem cutover_any (k : Int) (h0 : 0 ≤ k) (hk : k ≤ 1000000) (w : World) : Calls Tryz.prog 227 #[.int .i64 k] w fun e w' => e = .returned (.int .i64 ((k + 16) / 8)) ∧ w' = w :=
  Any.bytealg_Cutover (P := Tryz.prog) (ρ := Tryz.containsS_ren) { Tryz.containsS with } k h0 (by omega) w

/-- A scope with jumps ahead to one label. -/
theorem wp_scope_ahead {P : Program} {Q : Exit → Act → World → Prop} {a : Act} {w : World} {c rest : Code} (l : Nat) (hf : findLabel c l = some rest) (first : c.wp P (Exit.jump l (fun a w => rest.wp P (Exit.noGoto Q) a w) Q) a w) : (Code.scope c).wp P Q a w :=
  wp_scope_jumps l (fun a w => rest.wp P (Exit.noGoto Q) a w) (fun _ _ => 0) hf first fun _ _ h => Code.wp_mono (fun e _ _ hq => by cases e <;> first | exact hq | exact hq.elim) h

section
variable {J : Act → World → Prop} {Q : Exit → Act → World → Prop} {a : Act} {w : World} {l : Nat}
theorem jump_normal : Exit.jump l J Q .normal a w = Q .normal a w := rfl
theorem jump_exit (id : Nat) : Exit.jump l J Q (.exit id) a w = Q (.exit id) a w := rfl
theorem jump_ret : Exit.jump l J Q .ret a w = Q .ret a w := rfl
theorem inBlock_normal (id : Nat) : Exit.inBlock id Q .normal a w = Q .normal a w := rfl
theorem inBlock_ret (id : Nat) : Exit.inBlock id Q .ret a w = Q .ret a w := rfl
theorem then_ret {K : Act → World → Prop} : Exit.then K Q .ret a w = Q .ret a w := rfl
theorem jump_goto (h : J a w) : Exit.jump l J Q (.goto l) a w := ⟨rfl, h⟩
end
attribute [local go_sem] jump_normal jump_exit jump_ret

set_option maxRecDepth 100000 in
set_option maxHeartbeats 4000000 in
theorem indexRune_wide (s rs : ByteArray) (L c : Nat) (z : Int) (w : World) (hv : 128 ≤ z) (hv2 : z ≠ 65533) (hval : Lib.validRune z = true) (hrs : Utf8.encode z = rs) (hL : rs.size = L + 1) (hL1 : 1 ≤ L) (hL3 : L ≤ 3)
    (hc : bt rs L = c) (hs : s.size ≤ 100000) (hcut : ∀ i, i < s.size → cnt s c i ≤ (i + 16) / 8) :
    Calls Tryz.prog 214 #[.string s, .int .i32 z] w fun e w' => ∃ n : Int, e = .returned (.int .i64 n) ∧ (0 ≤ n ↔ ∃ k, Mt s rs L k) ∧ Below w.heap.size w w' := by
  have HL := hide hL
  have HRS := hide hrs
  have HC := hide hc
  have HCUT := hide hcut
  have HV := hide (validRune_any z hval)
  have a0 : 0 ≤ z := by omega
  have a1 : ¬ z < 128 := by omega
  have a2 : ¬ z = 65533 := by omega
  clear hL hrs hc hcut hval hv hv2
  go_enter Tryz.func214, Tryz.ntmps214
  go_wp2_with (go_at_call 239; refine (unhide HV _).mono ?_; rintro e w5 ⟨rfl, hw5⟩; rw [hw5]; clear hw5)
  go_step3
  go_wp2_with fail
  rw [unhide HRS]
  have hl8 : wrap64 (((rs.size : Nat) : Int) - 1) = (L : Nat) := by
    have := unhide HL
    unfold wrap64
    omega
  rw [hl8]
  clear hl8
  go_loopw [9, 10] (fun i f wr => ∃ (k fl q : Nat), i = .int .i64 (k : Nat) ∧ f = .int .i64 (fl : Nat) ∧ wr = w.drewN q ∧ L ≤ k ∧ k ≤ s.size + 4 ∧ fl ≤ k ∧ Hid (fl ≤ cnt s c k ∧ ∀ m, m < k → ¬ Mt s rs L m)) (fun i _ _ => (s.size + 4 - (intOf i)).toNat)
  case atStart =>
    exact ⟨L, 0, 0, rfl, rfl, rfl, Nat.le_refl _, by omega, by omega, hide ⟨Nat.zero_le _, fun m hm h => by have := h.1; omega⟩⟩
  case round =>
    obtain ⟨k, fl, q, rfl, rfl, rfl, hLk, hkz, hfk, HI⟩ := hrel
    by_cases hk : k < s.size
    case neg =>
      have hki : ¬ (k : Int) < (s.size : Int) := by omega
      go_wp2_with fail
      go_ret
      exact ⟨-1, rfl, ⟨fun h => absurd h (by decide), fun ⟨m, hm⟩ => absurd hm ((unhide HI).2 m (by have := hm.2.1; omega))⟩, Below.drewN (Below.refl _ _) _⟩
    have hki : (k : Int) < (s.size : Int) := by omega
    have hi2 : ∀ W, (Instr.index 9 (.string rs) (.int .i64 (L : Nat))).run Tryz.prog W = .ok (.int .u8 (c : Nat)) W := fun W => (unhide HC) ▸ run_idx (by have := unhide HL; omega) W
    have hc8 : c < 256 := by rw [← unhide HC]; exact bt_lt _ _
    by_cases hbc : bt s k = c
    case pos =>
      have hi1 : ∀ W, (Instr.index 9 (.string s) (.int .i64 (k : Nat))).run Tryz.prog W = .ok (.int .u8 (c : Nat)) W := fun W => hbc ▸ run_idx hk W
      have HBC := hide hbc
      clear hbc
      go_wp2_with fail
      refine wp_scope_ahead 0 rfl ?_
      go_wp2_with fail
      go_quiet (fail)
      go_wp2_with fail
      clear hi1 hi2
      obtain ⟨K, hK⟩ : ∃ K, K = k := ⟨_, rfl⟩
      have HIK : Hid (fl ≤ cnt s c K ∧ bt s K = c ∧ ∀ m, m < K → ¬ Mt s rs L m) := by rw [hK]; exact hide ⟨(unhide HI).1, unhide HBC, (unhide HI).2⟩
      have hol : K < s.size := by rw [hK]; exact hk
      have hKL : L ≤ K := by rw [hK]; exact hLk
      have hfK : fl ≤ K := by rw [hK]; exact hfk
      have hkK : k ≤ K := by omega
      rw [← hK]
      clear hK
      go_loopw [12] (fun u wr => ∃ (j : Nat), u = .int .i64 (j : Nat) ∧ (∃ q1, wr = w.drewN q1) ∧ 1 ≤ j ∧ j ≤ L + 1 ∧ Hid (∀ t, t < j → bt s (K - t) = bt rs (L - t))) (fun u _ => (L + 1 - (intOf u)).toNat)
      case atStart =>
        refine ⟨1, rfl, ?_, Nat.le_refl _, by omega, hide fun t ht => ?_⟩
        · first | exact ⟨_, rfl⟩ | (simp only [World.drewN_drewN]; exact ⟨_, rfl⟩)
        · obtain rfl : t = 0 := by omega
          rw [Nat.sub_zero, Nat.sub_zero, unhide HC]
          exact (unhide HIK).2.1
      case round =>
        obtain ⟨j, rfl, ⟨q1, rfl⟩, hj1, hjL, HJ⟩ := hrel
        by_cases hj : j < L + 1
        case neg =>
          have hji : ¬ (j : Int) < (rs.size : Int) := by have := unhide HL; omega
          go_wp2_with fail
          rw [Exit.noGoto_ret]
          go_ret
          refine ⟨(K : Int) - L, by go_num, ⟨fun _ => ⟨K, hKL, hol, fun t ht => unhide HJ t (by omega)⟩, fun _ => by omega⟩, Below.drewN (Below.refl _ _) _⟩
        have hji : (j : Int) < (rs.size : Int) := by have := unhide HL; omega
        obtain ⟨x, hx⟩ : ∃ x, K - j = x := ⟨_, rfl⟩
        obtain ⟨y, hy⟩ : ∃ y, L - j = y := ⟨_, rfl⟩
        have ex : (K : Int) - (j : Int) = (x : Int) := by omega
        have ey : (L : Int) - (j : Int) = (y : Int) := by omega
        have hwx : IntKind.i64.wrap (x : Int) = (x : Int) := by rw [IntKind.wrap_i64]; omega
        have hwy : IntKind.i64.wrap (y : Int) = (y : Int) := by rw [IntKind.wrap_i64]; omega
        have HX := hide hx
        have HY := hide hy
        have hiy : ∀ W, (Instr.index 9 (.string rs) (.int .i64 (y : Nat))).run Tryz.prog W = .ok (.int .u8 (bt rs y : Nat)) W := fun W => run_idx (by have := unhide HL; omega) W
        have hix : ∀ W, (Instr.index 9 (.string s) (.int .i64 (x : Nat))).run Tryz.prog W = .ok (.int .u8 (bt s x : Nat)) W := fun W => run_idx (by omega) W
        clear hx hy
        by_cases hxy : bt s x = bt rs y
        case pos =>
          have HXY := hide hxy
          rw [hxy] at hix
          clear hxy
          obtain ⟨b, hb⟩ : ∃ b, bt rs y = b := ⟨_, rfl⟩
          simp only [hb] at hix hiy
          clear hb
          go_wp2_with fail
          go_quiet (fail)
          go_wp2_with fail
          clear ex ey hwx hwy hix hiy
          go_roundw
          case rel =>
            refine ⟨j + 1, by go_num, ?_, by omega, by omega, hide fun t ht => ?_⟩
            · first | exact ⟨_, rfl⟩ | (simp only [World.drewN_drewN]; exact ⟨_, rfl⟩)
            · by_cases e : t = j
              · rw [e, unhide HX, unhide HY]; exact unhide HXY
              · exact unhide HJ t (by omega)
          case measure => simp [intOf]; omega
        have hxyi : ¬ ((bt s x : Nat) : Int) = ((bt rs y : Nat) : Int) := by omega
        obtain ⟨b, hb⟩ : ∃ b, bt rs y = b := ⟨_, rfl⟩
        obtain ⟨b2, hb2⟩ : ∃ b, bt s x = b := ⟨_, rfl⟩
        have HNO : Hid (¬ Mt s rs L K) := hide fun h => hxy (by rw [← unhide HX, ← unhide HY]; exact h.2.2 j (by omega))
        rw [hb, hb2] at hxyi
        simp only [hb, hb2] at hix hiy
        clear hb hb2 hxy
        have HCV := hide (fun W => cutover_any ((K : Int) + 1) (by omega) (by omega) W)
        have HNX : Hid (fl + 1 ≤ cnt s c (K + 1) ∧ ∀ m, m < K + 1 → ¬ Mt s rs L m) := by
          refine hide ⟨cnt_hit (Nat.le_refl _) (unhide HIK).2.1 (unhide HIK).1, fun m hm => ?_⟩
          by_cases e : m = K
          · rw [e]; exact unhide HNO
          · exact (unhide HIK).2.2 m (by omega)
        by_cases hend : K + 1 < s.size
        · have hei : (K : Int) + 1 < (s.size : Int) := by omega
          have hcv : ¬ ((K : Int) + 1 + 16) / 8 < (fl : Int) + 1 := by
            have h1 := unhide HCUT (K + 1) hend
            have h2 := (unhide HNX).1
            omega
          go_wp2_with fail
          go_quiet (fail)
          go_wp2_with fail
          refine wp_goto (And.intro rfl ?_)
          go_wp2_with (go_at_call 227; refine (unhide HCV _).mono ?_; rintro e w5 ⟨rfl, hw5⟩; rw [hw5]; clear hw5)
          all_goals first
            | exact ⟨⟨K + 1, fl + 1, _, by go_num, by go_num, rfl, by omega, by omega, by omega, HNX⟩, by simp [intOf]; omega⟩
            | (rw [Exit.noGoto_normal, inBlock_normal]; go_roundw; (case rel => exact ⟨K + 1, fl + 1, _, by go_num, by go_num, rfl, by omega, by omega, by omega, HNX⟩); (case measure => simp [intOf]; omega))
        · have hei : ¬ (K : Int) + 1 < (s.size : Int) := by omega
          by_cases hcv : ((K : Int) + 1 + 16) / 8 < (fl : Int) + 1
          · go_wp2_with fail
            go_quiet (fail)
            go_wp2_with fail
            refine wp_goto (And.intro rfl ?_)
            go_wp2_with (go_at_call 227; refine (unhide HCV _).mono ?_; rintro e w5 ⟨rfl, hw5⟩; rw [hw5]; clear hw5)
            rw [Exit.noGoto_normal, inBlock_normal]
            change _ ∧ _
            go_big_round
            all_goals exact ⟨⟨K + 1, fl + 1, _, by go_num, by go_num, rfl, by omega, by omega, by omega, HNX⟩, by simp [intOf]; omega⟩
          · go_wp2_with fail
            go_quiet (fail)
            go_wp2_with fail
            refine wp_goto (And.intro rfl ?_)
            go_wp2_with (go_at_call 227; refine (unhide HCV _).mono ?_; rintro e w5 ⟨rfl, hw5⟩; rw [hw5]; clear hw5)
            all_goals exact ⟨⟨K + 1, fl + 1, _, by go_num, by go_num, rfl, by omega, by omega, by omega, HNX⟩, by simp [intOf]; omega⟩
    have hi1 : ∀ W, (Instr.index 9 (.string s) (.int .i64 (k : Nat))).run Tryz.prog W = .ok (.int .u8 (bt s k : Nat)) W := fun W => run_idx hk W
    have hne : ¬ ((bt s k : Nat) : Int) = ((c : Nat) : Int) := by omega
    obtain ⟨b1, hb1⟩ : ∃ b, bt s k = b := ⟨_, rfl⟩
    have HB1 := hide hb1
    have HNE := hide hbc
    rw [hb1] at hne
    simp only [hb1] at hi1
    clear hb1 hbc
    obtain ⟨m, hm⟩ : ∃ m, k + 1 = m := ⟨_, rfl⟩
    have HM := hide hm
    have em : (k : Int) + 1 = (m : Int) := by omega
    have hms : m ≤ s.size := by omega
    have hwm : IntKind.i64.wrap (m : Int) = (m : Int) := by rw [IntKind.wrap_i64]; omega
    have hsl : ∀ W, (Instr.slice 9 (.string s) (some (.int .i64 (m : Nat))) none none).run Tryz.prog W = .ok (.string (s.extract (k + 1) s.size)) W := fun W => hm ▸ run_subT (by omega) W
    clear hm
    have HIB : Hid (∀ W, Calls Tryz.prog 238 #[.string (s.extract (k + 1) s.size), .int .u8 (c : Nat)] W fun e w' => e = .returned (.int .i64 (Lib.indexByte (s.extract (k + 1) s.size).data.toList (((c : Nat) : Int).toNat.toUInt8))) ∧ w' = W) := hide fun W => idxByte_any _ _ W
    rcases Lib.indexByte_piece s (k + 1) s.size (((c : Nat) : Int).toNat.toUInt8) with hib | ⟨o, hib, hol⟩
    · have HN := hide (idx_none hib)
      rw [hib] at HIB
      clear hib
      obtain ⟨x, hx⟩ : ∃ x, s.extract (k + 1) s.size = x := ⟨_, rfl⟩
      rw [hx] at HIB
      simp only [hx] at hsl
      clear hx
      go_wp2_with fail
      refine wp_scope_ahead 0 rfl ?_
      go_wp2_with fail
      go_quiet (fail)
      go_wp2_with fail
      go_quiet (first | (go_at_call 238; exact (unhide HIB _).mono (fun e w' ⟨he, hw⟩ => ⟨he, _, hw⟩)))
      go_wp2_with fail
      simp (config := { zetaDelta := true }) only [jump_ret, inBlock_ret, then_ret, Exit.noGoto_ret]
      go_ret
      refine ⟨-1, rfl, ⟨fun h => absurd h (by decide), fun ⟨m, hm⟩ => ?_⟩, by first | exact Below.drewN (Below.refl _ _) _ | exact Below.drewN (Below.drewN (Below.drewN (Below.refl _ _) _) _) _⟩
      by_cases hmk : m < k
      · exact absurd hm ((unhide HI).2 m hmk)
      · have hlast := hm.2.2 0 (Nat.zero_le _)
        rw [Nat.sub_zero, Nat.sub_zero, unhide HC] at hlast
        by_cases e : m = k
        · rw [e] at hlast; exact absurd hlast (unhide HNE)
        · exact absurd hlast (unhide HN m (by omega) hm.2.1)
    · have HN := hide (idx_some hc8 hol hib)
      rw [hib] at HIB
      clear hib
      obtain ⟨x, hx⟩ : ∃ x, s.extract (k + 1) s.size = x := ⟨_, rfl⟩
      rw [hx] at HIB
      simp only [hx] at hsl
      clear hx
      go_wp2_with fail
      refine wp_scope_ahead 0 rfl ?_
      go_wp2_with fail
      go_quiet (fail)
      go_wp2_with fail
      obtain ⟨K, hK⟩ : ∃ K, k + 1 + o = K := ⟨_, rfl⟩
      rw [hK] at hol HN
      have eK : (k : Int) + ((o : Int) + 1) = (K : Int) := by omega
      have hwK : IntKind.i64.wrap (K : Int) = (K : Int) := by rw [IntKind.wrap_i64]; omega
      have hkK : k < K := by omega
      have HIK : Hid (fl ≤ cnt s c K ∧ bt s K = c ∧ ∀ m, m < K → ¬ Mt s rs L m) := by
        refine hide ⟨?_, (unhide HN).1, fun m hm hM => ?_⟩
        · have h1 := cnt_mono s c k (K - k)
          rw [show k + (K - k) = K by omega] at h1
          have h2 := (unhide HI).1
          omega
        · by_cases hmk : m < k
          · exact (unhide HI).2 m hmk hM
          · have hlast := hM.2.2 0 (Nat.zero_le _)
            rw [Nat.sub_zero, Nat.sub_zero, unhide HC] at hlast
            by_cases e : m = k
            · rw [e] at hlast; exact absurd hlast (unhide HNE)
            · exact absurd hlast ((unhide HN).2 m (by omega) hm)
      clear hK
      go_quiet (first | (go_at_call 238; exact (unhide HIB _).mono (fun e w' ⟨he, hw⟩ => ⟨he, _, hw⟩)))
      go_wp2_with fail
      clear hi1 hi2 hsl em hne eK hwm
      have hKL : L ≤ K := by omega
      have hfK : fl ≤ K := by omega
      go_loopw [12] (fun u wr => ∃ (j : Nat), u = .int .i64 (j : Nat) ∧ (∃ q1, wr = w.drewN q1) ∧ 1 ≤ j ∧ j ≤ L + 1 ∧ Hid (∀ t, t < j → bt s (K - t) = bt rs (L - t))) (fun u _ => (L + 1 - (intOf u)).toNat)
      case atStart =>
        refine ⟨1, rfl, ?_, Nat.le_refl _, by omega, hide fun t ht => ?_⟩
        · first | exact ⟨_, rfl⟩ | (simp only [World.drewN_drewN]; exact ⟨_, rfl⟩)
        · obtain rfl : t = 0 := by omega
          rw [Nat.sub_zero, Nat.sub_zero, unhide HC]
          exact (unhide HIK).2.1
      case round =>
        obtain ⟨j, rfl, ⟨q1, rfl⟩, hj1, hjL, HJ⟩ := hrel
        by_cases hj : j < L + 1
        case neg =>
          have hji : ¬ (j : Int) < (rs.size : Int) := by have := unhide HL; omega
          go_wp2_with fail
          rw [Exit.noGoto_ret]
          go_ret
          refine ⟨(K : Int) - L, by go_num, ⟨fun _ => ⟨K, hKL, hol, fun t ht => unhide HJ t (by omega)⟩, fun _ => by omega⟩, Below.drewN (Below.refl _ _) _⟩
        have hji : (j : Int) < (rs.size : Int) := by have := unhide HL; omega
        obtain ⟨x, hx⟩ : ∃ x, K - j = x := ⟨_, rfl⟩
        obtain ⟨y, hy⟩ : ∃ y, L - j = y := ⟨_, rfl⟩
        have ex : (K : Int) - (j : Int) = (x : Int) := by omega
        have ey : (L : Int) - (j : Int) = (y : Int) := by omega
        have hwx : IntKind.i64.wrap (x : Int) = (x : Int) := by rw [IntKind.wrap_i64]; omega
        have hwy : IntKind.i64.wrap (y : Int) = (y : Int) := by rw [IntKind.wrap_i64]; omega
        have HX := hide hx
        have HY := hide hy
        have hiy : ∀ W, (Instr.index 9 (.string rs) (.int .i64 (y : Nat))).run Tryz.prog W = .ok (.int .u8 (bt rs y : Nat)) W := fun W => run_idx (by have := unhide HL; omega) W
        have hix : ∀ W, (Instr.index 9 (.string s) (.int .i64 (x : Nat))).run Tryz.prog W = .ok (.int .u8 (bt s x : Nat)) W := fun W => run_idx (by omega) W
        clear hx hy
        by_cases hxy : bt s x = bt rs y
        case pos =>
          have HXY := hide hxy
          rw [hxy] at hix
          clear hxy
          obtain ⟨b, hb⟩ : ∃ b, bt rs y = b := ⟨_, rfl⟩
          simp only [hb] at hix hiy
          clear hb
          go_wp2_with fail
          go_quiet (fail)
          go_wp2_with fail
          clear ex ey hwx hwy hix hiy
          go_roundw
          case rel =>
            refine ⟨j + 1, by go_num, ?_, by omega, by omega, hide fun t ht => ?_⟩
            · first | exact ⟨_, rfl⟩ | (simp only [World.drewN_drewN]; exact ⟨_, rfl⟩)
            · by_cases e : t = j
              · rw [e, unhide HX, unhide HY]; exact unhide HXY
              · exact unhide HJ t (by omega)
          case measure => simp [intOf]; omega
        have hxyi : ¬ ((bt s x : Nat) : Int) = ((bt rs y : Nat) : Int) := by omega
        obtain ⟨b, hb⟩ : ∃ b, bt rs y = b := ⟨_, rfl⟩
        obtain ⟨b2, hb2⟩ : ∃ b, bt s x = b := ⟨_, rfl⟩
        have HNO : Hid (¬ Mt s rs L K) := hide fun h => hxy (by rw [← unhide HX, ← unhide HY]; exact h.2.2 j (by omega))
        rw [hb, hb2] at hxyi
        simp only [hb, hb2] at hix hiy
        clear hb hb2 hxy
        have HCV := hide (fun W => cutover_any ((K : Int) + 1) (by omega) (by omega) W)
        have HNX : Hid (fl + 1 ≤ cnt s c (K + 1) ∧ ∀ m, m < K + 1 → ¬ Mt s rs L m) := by
          refine hide ⟨cnt_hit (Nat.le_refl _) (unhide HIK).2.1 (unhide HIK).1, fun m hm => ?_⟩
          by_cases e : m = K
          · rw [e]; exact unhide HNO
          · exact (unhide HIK).2.2 m (by omega)
        by_cases hend : K + 1 < s.size
        · have hei : (K : Int) + 1 < (s.size : Int) := by omega
          have hcv : ¬ ((K : Int) + 1 + 16) / 8 < (fl : Int) + 1 := by
            have h1 := unhide HCUT (K + 1) hend
            have h2 := (unhide HNX).1
            omega
          go_wp2_with fail
          go_quiet (fail)
          go_wp2_with fail
          refine wp_goto (And.intro rfl ?_)
          go_wp2_with (go_at_call 227; refine (unhide HCV _).mono ?_; rintro e w5 ⟨rfl, hw5⟩; rw [hw5]; clear hw5)
          all_goals first
            | exact ⟨⟨K + 1, fl + 1, _, by go_num, by go_num, rfl, by omega, by omega, by omega, HNX⟩, by simp [intOf]; omega⟩
            | (rw [Exit.noGoto_normal, inBlock_normal]; go_roundw; (case rel => exact ⟨K + 1, fl + 1, _, by go_num, by go_num, rfl, by omega, by omega, by omega, HNX⟩); (case measure => simp [intOf]; omega))
        · have hei : ¬ (K : Int) + 1 < (s.size : Int) := by omega
          by_cases hcv : ((K : Int) + 1 + 16) / 8 < (fl : Int) + 1
          · go_wp2_with fail
            go_quiet (fail)
            go_wp2_with fail
            refine wp_goto (And.intro rfl ?_)
            go_wp2_with (go_at_call 227; refine (unhide HCV _).mono ?_; rintro e w5 ⟨rfl, hw5⟩; rw [hw5]; clear hw5)
            rw [Exit.noGoto_normal, inBlock_normal]
            change _ ∧ _
            go_big_round
            all_goals exact ⟨⟨K + 1, fl + 1, _, by go_num, by go_num, rfl, by omega, by omega, by omega, HNX⟩, by simp [intOf]; omega⟩
          · go_wp2_with fail
            go_quiet (fail)
            go_wp2_with fail
            refine wp_goto (And.intro rfl ?_)
            go_wp2_with (go_at_call 227; refine (unhide HCV _).mono ?_; rintro e w5 ⟨rfl, hw5⟩; rw [hw5]; clear hw5)
            all_goals exact ⟨⟨K + 1, fl + 1, _, by go_num, by go_num, rfl, by omega, by omega, by omega, HNX⟩, by simp [intOf]; omega⟩

end Go.Proofs.YtinndpnilmmmjaaGreatDoor
namespace Go.Proofs
open Go.Shelf
def Tryz.replaceS_ren : Go.Shelf.Ren := ⟨fun | 154 => 124 | 138 => 172 | 165 => 173 | 143 => 174 | 166 => 37 | 197 => 175 | 169 => 40 | 195 => 202 | 218 => 203 | 240 => 81 | 241 => 204 | 219 => 205 | 260 => 206 | 276 => 123 | 277 => 224 | 217 => 225 | 225 => 226 | 224 => 227 | 267 => 228 | 266 => 243 | 314 => 244 | n => n, fun | 9 => 9 | 3 => 3 | 4 => 4 | 72 => 62 | 0 => 0 | 76 => 68 | 105 => 186 | 21 => 21 | 5 => 5 | 70 => 60 | 20 => 20 | 37 => 33 | 75 => 66 | 127 => 115 | 164 => 130 | 46 => 207 | 119 => 203 | 139 => 206 | 138 => 205 | 146 => 224 | 51 => 223 | 80 => 74 | n => n, fun | 1 => 4 | 3 => 2 | 4 => 3 | n => n⟩
theorem Tryz.replaceS : Go.Proofs.Lays.n154 Tryz.prog Tryz.replaceS_ren := {
  mixed := by kernel_rfl
  f138 := Tryz.func172.trans (congrArg some (by kernel_rfl))
  f143 := Tryz.func174.trans (congrArg some (by kernel_rfl))
  f154 := Tryz.func124.trans (congrArg some (by kernel_rfl))
  f165 := Tryz.func173.trans (congrArg some (by kernel_rfl))
  f166 := Tryz.func37.trans (congrArg some (by kernel_rfl))
  f169 := Tryz.func40.trans (congrArg some (by kernel_rfl))
  f195 := Tryz.func202.trans (congrArg some (by kernel_rfl))
  f197 := Tryz.func175.trans (congrArg some (by kernel_rfl))
  f217 := Tryz.func225.trans (congrArg some (by kernel_rfl))
  f218 := Tryz.func203.trans (congrArg some (by kernel_rfl))
  f219 := Tryz.func205.trans (congrArg some (by kernel_rfl))
  f224 := Tryz.func227.trans (congrArg some (by kernel_rfl))
  f225 := Tryz.func226.trans (congrArg some (by kernel_rfl))
  f240 := Tryz.func81.trans (congrArg some (by kernel_rfl))
  f241 := Tryz.func204.trans (congrArg some (by kernel_rfl))
  f260 := Tryz.func206.trans (congrArg some (by kernel_rfl))
  f266 := Tryz.func243.trans (congrArg some (by kernel_rfl))
  f267 := Tryz.func228.trans (congrArg some (by kernel_rfl))
  f276 := Tryz.func123.trans (congrArg some (by kernel_rfl))
  f277 := Tryz.func224.trans (congrArg some (by kernel_rfl))
  f314 := Tryz.func244.trans (congrArg some (by kernel_rfl))
  t0 := Tryz.underlying0
  a0 := Tryz.isAgg0
  z0 := Tryz.sizeOf0
  v0 := Tryz.zeroValue0
  t3 := Tryz.underlying3
  a3 := Tryz.isAgg3
  z3 := Tryz.sizeOf3
  v3 := Tryz.zeroValue3
  t4 := Tryz.underlying4
  a4 := Tryz.isAgg4
  z4 := Tryz.sizeOf4
  v4 := Tryz.zeroValue4
  t5 := Tryz.underlying5
  a5 := Tryz.isAgg5
  z5 := Tryz.sizeOf5
  v5 := Tryz.zeroValue5
  t9 := Tryz.underlying9
  a9 := Tryz.isAgg9
  z9 := Tryz.sizeOf9
  v9 := Tryz.zeroValue9
  t20 := Tryz.underlying20
  a20 := Tryz.isAgg20
  z20 := Tryz.sizeOf20
  v20 := Tryz.zeroValue20
  t21 := Tryz.underlying21
  a21 := Tryz.isAgg21
  z21 := Tryz.sizeOf21
  v21 := Tryz.zeroValue21
  t37 := Tryz.underlying33
  a37 := Tryz.isAgg33
  z37 := Tryz.sizeOf33
  v37 := Tryz.zeroValue33
  t46 := Tryz.underlying207
  a46 := Tryz.isAgg207
  z46 := Tryz.sizeOf207
  v46 := Tryz.zeroValue207
  t51 := Tryz.underlying223
  a51 := Tryz.isAgg223
  z51 := Tryz.sizeOf223
  v51 := Tryz.zeroValue223
  t70 := Tryz.underlying60
  a70 := Tryz.isAgg60
  z70 := Tryz.sizeOf60
  v70 := Tryz.zeroValue60
  t72 := Tryz.underlying62
  a72 := Tryz.isAgg62
  z72 := Tryz.sizeOf62
  v72 := Tryz.zeroValue62
  t75 := Tryz.underlying66
  a75 := Tryz.isAgg66
  z75 := Tryz.sizeOf66
  v75 := Tryz.zeroValue66
  t76 := Tryz.underlying68
  a76 := Tryz.isAgg68
  z76 := Tryz.sizeOf68
  v76 := Tryz.zeroValue68
  t105 := Tryz.underlying186
  a105 := Tryz.isAgg186
  z105 := Tryz.sizeOf186
  v105 := Tryz.zeroValue186
  t119 := Tryz.underlying203
  a119 := Tryz.isAgg203
  z119 := Tryz.sizeOf203
  t127 := Tryz.underlying115
  a127 := Tryz.isAgg115
  z127 := Tryz.sizeOf115
  v127 := Tryz.zeroValue115
  t138 := Tryz.underlying205
  a138 := Tryz.isAgg205
  z138 := Tryz.sizeOf205
  v138 := Tryz.zeroValue205
  t139 := Tryz.underlying206
  a139 := Tryz.isAgg206
  z139 := Tryz.sizeOf206
  v139 := Tryz.zeroValue206
  t146 := Tryz.underlying224
  a146 := Tryz.isAgg224
  z146 := Tryz.sizeOf224
  v146 := Tryz.zeroValue224
  t164 := Tryz.underlying130
  a164 := Tryz.isAgg130
  z164 := Tryz.sizeOf130
  v164 := Tryz.zeroValue130
  g1 := by kernel_rfl
  g3 := by kernel_rfl
  g4 := by kernel_rfl }
end Go.Proofs
namespace Go.Proofs.YtinndpnilmmmjaaGreatDoor
open Go.RowKit

theorem extra_builder : Builder.Extra Tryz.prog Tryz.replaceS_ren where
  sizeBuilder := by kernel_rfl
  liesBuilder := by kernel_rfl
  t5 := Tryz.underlying5
  a5 := Tryz.isAgg5
  z5 := Tryz.sizeOf5
  v5 := Tryz.zeroValue5
  infoByte := by kernel_rfl
  cellsByte := by kernel_rfl
  sizeByte := by kernel_rfl
  neB5 := by decide

/-- Block b, from B on, holds a Builder with these bytes. -/
def IsB (w : World) (B b : Nat) (l : List UInt8) : Prop := Lib.IsBuilderF (Tryz.replaceS_ren.t 72) (Tryz.replaceS_ren.t 5) B b (Lib.byteCells l) w

theorem bwrite_any (B b : Nat) (l : List UInt8) (s : ByteArray) (w : World) (h : IsB w B b l) (hlen : l.length + s.size ≤ 17592186044416) (hBw : B ≤ w.heap.size) :
    Calls Tryz.prog 37 #[.pointer (some ⟨b, 0, none⟩), .string s] w fun e w' => e = .returned (.tuple #[.int .i64 s.size, .nilIface]) ∧ IsB w' B b (l ++ s.data.toList) ∧ Below B w w' := by
  refine (Any.Builder_WriteString_f { Tryz.replaceS with } extra_builder B b (Lib.byteCells l) s w h (by simp [Lib.byteCells]; omega) hBw).mono ?_
  rintro e w' ⟨rfl, h1, h2⟩
  refine ⟨rfl, Or.inr ?_, h2⟩
  have e : Lib.byteCells l ++ Lib.strCells s = Lib.byteCells (l ++ s.data.toList) := by simp [Lib.byteCells, Lib.strCells]
  rw [← e]
  exact h1

theorem bstring_any (B b : Nat) (l : List UInt8) (w : World) (h : IsB w B b l) (hBw : B ≤ w.heap.size) :
    Calls Tryz.prog 40 #[.pointer (some ⟨b, 0, none⟩)] w fun e w' => e = .returned (.string ⟨l.toArray⟩) ∧ IsB w' B b l ∧ Below B w w' :=
  Any.Builder_String_any_f { Tryz.replaceS with } extra_builder B b l w h hBw

end Go.Proofs.YtinndpnilmmmjaaGreatDoor
namespace Go.Proofs.YtinndpnilmmmjaaGreatDoor
open Go.RowKit

theorem IsB.below {w w' : World} {B b : Nat} {l : List UInt8} (h : IsB w B b l) (hb : Below w.heap.size w w') : IsB w' B b l := by
  have one : ∀ {p : Value}, Lib.BuilderAtF (Tryz.replaceS_ren.t 72) (Tryz.replaceS_ren.t 5) B b p (Lib.byteCells l) w → Lib.BuilderAtF (Tryz.replaceS_ren.t 72) (Tryz.replaceS_ren.t 5) B b p (Lib.byteCells l) w' := by
    rintro p ⟨h1, v, h2, ⟨h3, h4⟩, h5⟩
    refine ⟨h1, v, (hb.block b (lt_of_block h2)).trans h2, ⟨h3, ?_⟩, h5⟩
    rcases h4 with h4 | ⟨g, cap, cur, fz, e1, e2, e3, e4⟩
    · exact Or.inl h4
    · exact Or.inr ⟨g, cap, cur, fz, e1, e2, (hb.block g (lt_of_block e3)).trans e3, e4⟩
  rcases h with h | h
  · exact Or.inl (one h)
  · exact Or.inr (one h)

theorem TBox.under {w w' : World} {p B : Nat} {v0 v1 v2 v3 : Value} (h : TBox w p v0 v1 v2 v3) (hp : p < B) (hb : Below B w w') : TBox w' p v0 v1 v2 v3 := (hb.block p hp).trans h

/-- What readText gives, of how a text is read. -/
def textV : Option (Nat × List UInt8) → Value
  | none => readV 0 0 ⟨#[]⟩ 0 1
  | some (e, out) => if Lib.validD out = true then readV 2 0 ⟨out.toArray⟩ e 0 else readV 0 0 ⟨#[]⟩ 0 1

def strSize : Value → Nat
  | .string x => x.size
  | _ => 0

theorem inEnd_le {s : ByteArray} {p : Nat} (h : p ≤ s.size) : p ≤ inEnd s p ∧ inEnd s p ≤ s.size := by
  have h1 : stretchN isIn (s.extract p s.size) ≤ (s.extract p s.size).size := strTo_le _ _
  rw [tail_size] at h1
  unfold inEnd
  omega

theorem head_tail {s : ByteArray} {p c : Nat} : (s.extract p s.size).extract 0 c = s.extract p (p + c) := by
  refine ByteArray.ext (Array.toList_inj.1 ?_)
  rw [take_data, tail_list, sub_list, Nat.add_sub_cancel_left]

set_option maxRecDepth 20000 in
set_option maxHeartbeats 4000000 in
theorem readText_any (t : ByteArray) (w : World) (h1 : 1 ≤ t.size) (hs : t.size ≤ 1000000000000) (hT : TabsAt w) :
    Calls Tryz.prog 153 #[.string t] w fun e w' => e = .returned (textV (textR t (t.size + 1) 1 [])) ∧ Below w.heap.size w w' := by
  obtain ⟨R, hR⟩ : ∃ R, textR t (t.size + 1) 1 [] = R := ⟨_, rfl⟩
  rw [hR]
  have HR := hide hR
  clear hR
  obtain ⟨Q, hQ⟩ : ∃ Q, Q = (w.alloc (.cells #[.int .i64 0, .int .i64 0, .string ⟨#[]⟩, .int .i64 0] 64)).alloc (.cells #[.pointer none, .slice none 0 0] 62) := ⟨_, rfl⟩
  have HQ := hide hQ
  have HX0 : Hid (TBox Q w.heap.size (.int .i64 0) (.int .i64 0) (.string ⟨#[]⟩) (.int .i64 0)) := by rw [hQ]; exact (TBox.new w _ _ _ _).below (Nat.le_refl _) ((Below.refl _ _).alloc (Nat.le_refl _) _)
  have HB0 : Hid (Below w.heap.size w Q) := by rw [hQ]; exact ((Below.refl _ _).alloc (Nat.le_refl _) _).alloc (by simp) _
  have HI0 : Hid (IsB Q (w.heap.size + 1) (w.heap.size + 1) []) := by
    rw [hQ]
    have := Lib.IsBuilderF.of (Lib.fresh_isBuilder (Tryz.replaceS_ren.t 72) (Tryz.replaceS_ren.t 5) (w.alloc (.cells #[.int .i64 0, .int .i64 0, .string ⟨#[]⟩, .int .i64 0] 64)))
    rw [show (w.alloc (.cells #[.int .i64 0, .int .i64 0, .string ⟨#[]⟩, .int .i64 0] 64)).heap.size = w.heap.size + 1 by simp] at this
    exact this
  have HS0 : Hid (w.heap.size + 1 ≤ Q.heap.size) := by rw [hQ]; show _ ≤ _; simp
  clear hQ
  have HTB := hide hT
  clear hT
  have hs1 : ∀ W, (Instr.slice 9 (.string t) (some (.int .i64 1)) none none).run Tryz.prog W = .ok (.string (t.extract 1 t.size)) W := fun W => run_sub1 (s := t) (q := 1) h1 W
  go_enter Tryz.func153, Tryz.ntmps153
  go_wp2_with fail
  rw [← unhide HQ]
  go_loopw [6] (fun a w' => ∃ (p F : Nat) (out : List UInt8), a = .string (t.extract p t.size) ∧ p ≤ t.size ∧ t.size - p < F ∧ out.length ≤ p ∧ Hid (textR t F p out = R) ∧ Hid (TBox w' w.heap.size (.int .i64 0) (.int .i64 0) (.string ⟨#[]⟩) (.int .i64 0)) ∧ Hid (Below w.heap.size w w') ∧ Hid (IsB w' (w.heap.size + 1) (w.heap.size + 1) out) ∧ w.heap.size + 1 ≤ w'.heap.size) (fun a _ => strSize a)
  case atStart => exact ⟨1, t.size + 1, [], rfl, h1, by omega, by simp, HR, HX0, HB0, HI0, unhide HS0⟩
  case round =>
    obtain ⟨p, F, out, rfl, hp, hF, ho, HK, HX, HB, HI, hsz⟩ := hrel
    obtain ⟨F', rfl⟩ : ∃ f, F = f + 1 := ⟨F - 1, by omega⟩
    obtain ⟨q, hq⟩ : ∃ q, inEnd t p = q := ⟨_, rfl⟩
    obtain ⟨hpq, hqs⟩ := inEnd_le hp
    rw [hq] at hpq hqs
    have hc : stretchN isIn (t.extract p t.size) = q - p := by rw [← hq]; unfold inEnd; omega
    have HST := hide (fun W => stretch_any 186 eg_in isIn (fun v W => implWithin_any v W) (t.extract p t.size) W (by rw [tail_size]; omega))
    rw [hc] at HST
    have hts : (t.extract p t.size).size = t.size - p := tail_size t p
    have hsl := fun W => run_sub0 (s := t.extract p t.size) (q := q - p) (by omega) W
    have hsr := fun W => run_sub1 (s := t.extract p t.size) (q := q - p) (by omega) W
    rw [head_tail, show p + (q - p) = q by omega] at hsl
    rw [tail_tail, show p + (q - p) = q by omega] at hsr
    have HK2 : Hid ((if quote1 t q = true then (if quote1 t (q + 1) = true then textR t F' (q + 2) (out ++ (t.extract p q).data.toList ++ [39]) else some (q + 1, out ++ (t.extract p q).data.toList)) else none) = R) := by
      have := unhide HK
      rw [textR, hq] at this
      exact this
    have hxs : (t.extract p q).size = q - p := by rw [Lib.size_eq, sub_list, List.length_take, List.length_drop, ← Lib.size_eq]; omega
    have HC1 := hide (fun W => cutPre_at t q hqs W)
    obtain ⟨c, hcc⟩ : ∃ c, q - p = c := ⟨_, rfl⟩
    rw [hcc] at HST hsl hsr hxs
    obtain ⟨x, hx⟩ : ∃ x, t.extract p q = x := ⟨_, rfl⟩
    rw [hx] at hsl HK2 hxs
    clear HK hq hc hx
    cases h1q : quote1 t q with
    | false =>
      rw [h1q] at HC1 HK2
      rw [if_neg (by decide)] at HK2 HC1
      go_wp2_with (first | (go_at_call 183; refine (unhide HST _).mono ?_; rintro e w5 ⟨rfl, hb5⟩; have HB5 := hide ((unhide HB).trans (hb5.mono (unhide HB).size)); have HX5 := hide ((unhide HX).below (Nat.le_refl _) hb5); have HI5 := hide ((unhide HI).below hb5); have hz5 := Nat.le_trans hsz hb5.size; clear hb5) | (go_at_call 37; refine (bwrite_any _ _ out x _ (unhide HI5) (by omega) hz5).mono ?_; rintro e w6 ⟨rfl, hi6, hb6⟩; have HI6 := hide hi6; have HB6 := hide ((unhide HB5).trans (hb6.mono (Nat.le_succ _))); have HX6 := hide ((unhide HX5).under (Nat.lt_succ_self _) hb6); have hz6 := Nat.le_trans hz5 hb6.size; obtain ⟨q0, q1, q2, q3, f0, f1, f2, f3⟩ := (unhide HX6).all; clear hb6 hi6) | (go_at_call 187; refine (unhide HC1 _).mono ?_; rintro e w1 ⟨rfl, hw⟩; obtain rfl := hw.symm; have HM := hide True.intro))
      refine bodyPost_ret (v := readV 0 0 ⟨#[]⟩ 0 1) (by simp [results, Tryz.results153, go_sem, q0, q1, q2, q3, readV]) rfl ?_
      refine ⟨?_, (((((unhide HB6).setCell (Nat.le_refl _) _).setCell (Nat.le_refl _) _).setCell (Nat.le_refl _) _).setCell (Nat.le_refl _) _)⟩
      rw [← unhide HK2]; rfl
    | true =>
      rw [h1q] at HC1 HK2
      rw [if_pos rfl] at HK2 HC1
      have hq1 : q + 1 ≤ t.size := (of_decide_eq_true h1q).1
      have HC2 := hide (fun W => cutPre_at t (q + 1) hq1 W)
      cases h2q : quote1 t (q + 1) with
      | true =>
        rw [h2q] at HC2 HK2
        rw [if_pos rfl] at HK2 HC2
        have hq2 : q + 1 + 1 ≤ t.size := (of_decide_eq_true h2q).1
        go_wp2_with (first | (go_at_call 183; refine (unhide HST _).mono ?_; rintro e w5 ⟨rfl, hb5⟩; have HB5 := hide ((unhide HB).trans (hb5.mono (unhide HB).size)); have HX5 := hide ((unhide HX).below (Nat.le_refl _) hb5); have HI5 := hide ((unhide HI).below hb5); have hz5 := Nat.le_trans hsz hb5.size; clear hb5) | (have hm := HM; clear hm; go_at_call 37; refine (bwrite_any _ _ (out ++ x.data.toList) ⟨#[39]⟩ _ (unhide HI6) (by rw [List.length_append, ← Lib.size_eq]; show _ + 1 ≤ _; omega) hz6).mono ?_; rintro e w7 ⟨rfl, hi7, hb7⟩; have HI7 := hide hi7; have HB7 := hide ((unhide HB6).trans (hb7.mono (Nat.le_succ _))); have HX7 := hide ((unhide HX6).under (Nat.lt_succ_self _) hb7); have hz7 := Nat.le_trans hz6 hb7.size; clear hb7 hi7) | (go_at_call 37; refine (bwrite_any _ _ out x _ (unhide HI5) (by omega) hz5).mono ?_; rintro e w6 ⟨rfl, hi6, hb6⟩; have HI6 := hide hi6; have HB6 := hide ((unhide HB5).trans (hb6.mono (Nat.le_succ _))); have HX6 := hide ((unhide HX5).under (Nat.lt_succ_self _) hb6); have hz6 := Nat.le_trans hz5 hb6.size; clear hb6 hi6) | (have hm := HM; clear hm; go_at_call 187; refine (unhide HC2 _).mono ?_; rintro e w1 ⟨rfl, hw⟩; obtain rfl := hw.symm) | (go_at_call 187; refine (unhide HC1 _).mono ?_; rintro e w1 ⟨rfl, hw⟩; obtain rfl := hw.symm; have HM := hide True.intro))
        go_roundw
        case rel => exact ⟨q + 2, F', _, rfl, by omega, by omega, by rw [List.length_append, List.length_append, ← Lib.size_eq]; show _ + 1 ≤ _; omega, HK2, HX7, HB7, HI7, hz7⟩
        case measure => show (t.extract (q + 1 + 1) t.size).size < (t.extract p t.size).size; rw [tail_size, tail_size]; omega
      | false =>
        rw [h2q] at HC2 HK2
        rw [if_neg (by decide)] at HK2 HC2
        have hrs : (t.extract (q + 1) t.size).size = t.size - (q + 1) := tail_size t (q + 1)
        have HV := hide (fun W (hb : Below w.heap.size w W) => valid_any ⟨(out ++ x.data.toList).toArray⟩ (by rw [Lib.size_eq]; simp only [List.length_append, ← Lib.size_eq]; omega) W ((unhide HTB).below hb))
        have HE : Hid (textV R = if Lib.validD (out ++ x.data.toList) = true then readV 2 0 ⟨(out ++ x.data.toList).toArray⟩ (q + 1) 0 else readV 0 0 ⟨#[]⟩ 0 1) := by rw [← unhide HK2]; exact hide rfl
        cases hv : Lib.validD (out ++ x.data.toList) with
        | true =>
          have HV2 : Hid (∀ W, Below w.heap.size w W → Calls Tryz.prog 188 #[.string ⟨(out ++ x.data.toList).toArray⟩] W fun e w' => e = .returned (.bool true) ∧ Below W.heap.size W w') := by rw [← hv]; exact HV
          rw [hv, if_pos rfl] at HE
          clear hv HV
          go_wp2_with (first | (go_at_call 183; refine (unhide HST _).mono ?_; rintro e w5 ⟨rfl, hb5⟩; have HB5 := hide ((unhide HB).trans (hb5.mono (unhide HB).size)); have HX5 := hide ((unhide HX).below (Nat.le_refl _) hb5); have HI5 := hide ((unhide HI).below hb5); have hz5 := Nat.le_trans hsz hb5.size; clear hb5) | (go_at_call 37; refine (bwrite_any _ _ out x _ (unhide HI5) (by omega) hz5).mono ?_; rintro e w6 ⟨rfl, hi6, hb6⟩; have HI6 := hide hi6; have HB6 := hide ((unhide HB5).trans (hb6.mono (Nat.le_succ _))); have HX6 := hide ((unhide HX5).under (Nat.lt_succ_self _) hb6); have hz6 := Nat.le_trans hz5 hb6.size; clear hb6 hi6) | (have hm := HM; clear hm; go_at_call 187; refine (unhide HC2 _).mono ?_; rintro e w1 ⟨rfl, hw⟩; obtain rfl := hw.symm) | (go_at_call 187; refine (unhide HC1 _).mono ?_; rintro e w1 ⟨rfl, hw⟩; obtain rfl := hw.symm; have HM := hide True.intro) | (have hm := HI8; clear hm; go_at_call 40; refine (bstring_any _ _ (out ++ x.data.toList) _ (unhide HI8) hz8).mono ?_; rintro e w9 ⟨rfl, hi9, hb9⟩; have HB9 := hide ((unhide HB8).trans (hb9.mono (Nat.le_succ _))); obtain ⟨q0, q1, q2, q3, f0, f1, f2, f3⟩ := ((unhide HX8).under (Nat.lt_succ_self _) hb9).all; clear hb9 hi9) | (go_at_call 40; refine (bstring_any _ _ (out ++ x.data.toList) _ (unhide HI6) hz6).mono ?_; rintro e w7 ⟨rfl, hi7, hb7⟩; have HI7 := hide hi7; have HB7 := hide ((unhide HB6).trans (hb7.mono (Nat.le_succ _))); have HX7 := hide ((unhide HX6).under (Nat.lt_succ_self _) hb7); have hz7 := Nat.le_trans hz6 hb7.size; clear hb7 hi7) | (go_at_call 188; refine (unhide HV2 _ (unhide HB7)).mono ?_; rintro e w8 ⟨rfl, hb8⟩; have HB8 := hide ((unhide HB7).trans (hb8.mono (unhide HB7).size)); have HX8 := hide ((unhide HX7).below (Nat.le_refl _) hb8); have HI8 := hide ((unhide HI7).below hb8); have hz8 := Nat.le_trans hz7 hb8.size; clear hb8))
          refine bodyPost_ret (v := readV 2 0 ⟨(out ++ x.data.toList).toArray⟩ (q + 1) 0) (by simp [results, Tryz.results153, go_sem, q0, q1, q2, q3, readV]; omega) rfl ?_
          refine ⟨?_, (((((unhide HB9).setCell (Nat.le_refl _) _).setCell (Nat.le_refl _) _).setCell (Nat.le_refl _) _).setCell (Nat.le_refl _) _)⟩
          exact congrArg Ending.returned (unhide HE).symm
        | false =>
          have HV2 : Hid (∀ W, Below w.heap.size w W → Calls Tryz.prog 188 #[.string ⟨(out ++ x.data.toList).toArray⟩] W fun e w' => e = .returned (.bool false) ∧ Below W.heap.size W w') := by rw [← hv]; exact HV
          rw [hv, if_neg (by decide)] at HE
          clear hv HV
          go_wp2_with (first | (go_at_call 183; refine (unhide HST _).mono ?_; rintro e w5 ⟨rfl, hb5⟩; have HB5 := hide ((unhide HB).trans (hb5.mono (unhide HB).size)); have HX5 := hide ((unhide HX).below (Nat.le_refl _) hb5); have HI5 := hide ((unhide HI).below hb5); have hz5 := Nat.le_trans hsz hb5.size; clear hb5) | (go_at_call 37; refine (bwrite_any _ _ out x _ (unhide HI5) (by omega) hz5).mono ?_; rintro e w6 ⟨rfl, hi6, hb6⟩; have HI6 := hide hi6; have HB6 := hide ((unhide HB5).trans (hb6.mono (Nat.le_succ _))); have HX6 := hide ((unhide HX5).under (Nat.lt_succ_self _) hb6); have hz6 := Nat.le_trans hz5 hb6.size; clear hb6 hi6) | (have hm := HM; clear hm; go_at_call 187; refine (unhide HC2 _).mono ?_; rintro e w1 ⟨rfl, hw⟩; obtain rfl := hw.symm) | (go_at_call 187; refine (unhide HC1 _).mono ?_; rintro e w1 ⟨rfl, hw⟩; obtain rfl := hw.symm; have HM := hide True.intro) | (go_at_call 40; refine (bstring_any _ _ (out ++ x.data.toList) _ (unhide HI6) hz6).mono ?_; rintro e w7 ⟨rfl, hi7, hb7⟩; have HI7 := hide hi7; have HB7 := hide ((unhide HB6).trans (hb7.mono (Nat.le_succ _))); have HX7 := hide ((unhide HX6).under (Nat.lt_succ_self _) hb7); have hz7 := Nat.le_trans hz6 hb7.size; clear hb7 hi7) | (go_at_call 188; refine (unhide HV2 _ (unhide HB7)).mono ?_; rintro e w8 ⟨rfl, hb8⟩; have HB8 := hide ((unhide HB7).trans (hb8.mono (unhide HB7).size)); have HX8 := hide ((unhide HX7).below (Nat.le_refl _) hb8); have HI8 := hide ((unhide HI7).below hb8); have hz8 := Nat.le_trans hz7 hb8.size; clear hb8; obtain ⟨q0, q1, q2, q3, f0, f1, f2, f3⟩ := (unhide HX8).all))
          refine bodyPost_ret (v := readV 0 0 ⟨#[]⟩ 0 1) (by simp [results, Tryz.results153, go_sem, q0, q1, q2, q3, readV]) rfl ?_
          refine ⟨?_, (((((unhide HB8).setCell (Nat.le_refl _) _).setCell (Nat.le_refl _) _).setCell (Nat.le_refl _) _).setCell (Nat.le_refl _) _)⟩
          exact congrArg Ending.returned (unhide HE).symm

end Go.Proofs.YtinndpnilmmmjaaGreatDoor
namespace Go.Proofs.YtinndpnilmmmjaaGreatDoor
open Go.RowKit

theorem contains_some (s : ByteArray) (z : Int) (b : Bool) (W : World) (h : Calls Tryz.prog 214 #[.string s, .int .i32 z] W fun e w' => ∃ n : Int, e = .returned (.int .i64 n) ∧ decide (0 ≤ n) = b ∧ Below W.heap.size W w') :
    Calls Tryz.prog 190 #[.string s, .int .i32 z] W fun e w' => e = .returned (.bool b) ∧ Below W.heap.size W w' := by
  have H := hide h
  clear h
  go_enter Tryz.func190, Tryz.ntmps190
  go_wp2_with (go_at_call 214; refine (unhide H).mono ?_; rintro e w5 ⟨n, rfl, hn, hb5⟩; have HB5 := hide hb5; have HN := hide hn; clear hb5 hn)
  go_ret
  exact ⟨ret_bool (by rw [← unhide HN]), unhide HB5⟩

theorem contains_wide (v : Nat) (hv : 128 ≤ v) (hv2 : v ≠ 65533) (hval : Utf8.valid (v : Int) = true) (W : World) : Calls Tryz.prog 190 #[.string sgs, .int .i32 (v : Int)] W fun e w' => e = .returned (.bool (decide (v ∈ signCs))) ∧ Below W.heap.size W w' := by
  obtain ⟨L, hW⟩ := wide_of hval hv
  have hvr : Lib.validRune (v : Int) = true := by
    rw [valid_ok] at hval
    unfold runeOk at hval
    have := of_decide_eq_true hval
    unfold Lib.validRune
    exact decide_eq_true (by omega)
  have hsz : sgs.size ≤ 100000 := by
    have : sgs.size = 111 := by kernel_rfl
    omega
  have h := indexRune_wide sgs (Utf8.encode (v : Int)) L (bt (Utf8.encode (v : Int)) L) (v : Int) W (by omega) (by omega) hvr rfl hW.size hW.lo hW.hi rfl hsz (fun i hi => sgs_cnt hW.last.1 hW.last.2 i hi)
  refine contains_some sgs (v : Int) _ W (h.mono ?_)
  rintro e w' ⟨n, he, hn, hb⟩
  exact ⟨n, he, decide_eq_decide.2 (hn.trans (sgs_has hW hv2)), hb⟩

theorem signs_said : SignsSaid fun v => decide (v ∈ signCs) := by
  intro sg v W hsg hval
  rw [hsg]
  by_cases h1 : v < 128
  · exact contains_small v h1 W
  · by_cases h2 : v = 65533
    · rw [h2]; exact contains_bad W
    · exact contains_wide v (by omega) h2 hval W

theorem readSign_at (s : ByteArray) (i : Nat) (w : World) (hi : i < s.size) (hT : TabsAt w) :
    Calls Tryz.prog 156 #[.string (s.extract i s.size)] w fun e w' => e = .returned (readG (signTok s i) i) ∧ Below w.heap.size w w' := by
  have hts : (s.extract i s.size).size = s.size - i := tail_size s i
  have hd : Utf8.decode (s.extract i s.size) 0 = Utf8.decode s i := tail_decode (i := i) (j := 0) hi
  have hw := decode_width_le hi
  have h := readSign_of (fun v => decide (v ∈ signCs)) signs_said (s.extract i s.size) w (by omega) (by rw [hd]; omega) hT
  refine h.mono ?_
  rintro e w' ⟨he, hb⟩
  refine ⟨?_, hb⟩
  rw [he, hd]
  congr 1
  unfold signTok readG
  by_cases hg : Utf8.decode s i = (65533, 1)
  · rw [rune_none hg, hg, if_neg (by decide), if_neg (by simp)]
    show _ = readV 0 0 ⟨#[]⟩ (0 - i) 1
    rw [Nat.zero_sub]
  · have hr : runeAt s i = Utf8.decode s i := by unfold runeAt; rw [if_neg hg]
    have hp := Lib.decode_width_pos s i hi
    rw [hr]
    by_cases hm : (Utf8.decode s i).1 ∈ signCs
    · rw [if_pos (decide_eq_true hm), if_pos ⟨hp, hm⟩]
      show readV 4 0 _ _ 0 = readV 4 0 (s.extract i (i + (Utf8.decode s i).2)) (i + (Utf8.decode s i).2 - i) 0
      rw [head_tail, Nat.add_sub_cancel_left]
    · rw [if_neg (by simpa using hm), if_neg (fun h => hm h.2)]
      show _ = readV 0 0 ⟨#[]⟩ (0 - i) 1
      rw [Nat.zero_sub]

theorem readText_at (s : ByteArray) (i : Nat) (w : World) (hi : i < s.size) (hs : s.size ≤ 1000000000000) (hT : TabsAt w) :
    Calls Tryz.prog 153 #[.string (s.extract i s.size)] w fun e w' => e = .returned (readG (textTok s (s.size - i) (i + 1) []) i) ∧ Below w.heap.size w w' := by
  have hts : (s.extract i s.size).size = s.size - i := tail_size s i
  have h := readText_any (s.extract i s.size) w (by omega) (by omega) hT
  refine h.mono ?_
  rintro e w' ⟨he, hb⟩
  refine ⟨?_, hb⟩
  rw [he]
  congr 1
  rw [textR_dev (s.size - i) ((s.extract i s.size).size + 1) 1 [] (by omega) (by omega) (by omega), tok_tail (s := s) (i := i) (s.size - i) 1 [], dev_tok (s.size - i) 1 [] (by omega) rfl]
  cases devT (s.extract i s.size) (s.size - i) 1 [] with
  | none =>
    show readV 0 0 ⟨#[]⟩ 0 1 = readG (shiftG i (bad 1)) i
    rw [shift_bad]
    show _ = readV 0 0 ⟨#[]⟩ (0 - i) 1
    rw [Nat.zero_sub]
  | some x =>
    obtain ⟨e1, o⟩ := x
    show (if Lib.validD o = true then readV 2 0 ⟨o.toArray⟩ e1 0 else readV 0 0 ⟨#[]⟩ 0 1) = readG (shiftG i (if Lib.validD o = true then ⟨2, 0, ⟨o.toArray⟩, e1, 0⟩ else bad 1)) i
    by_cases hv : Lib.validD o = true
    · rw [if_pos hv, if_pos hv]
      unfold shiftG
      rw [if_pos rfl]
      show _ = readV 2 0 ⟨o.toArray⟩ (e1 + i - i) 0
      rw [Nat.add_sub_cancel]
    · rw [if_neg hv, if_neg hv, shift_bad]
      show _ = readV 0 0 ⟨#[]⟩ (0 - i) 1
      rw [Nat.zero_sub]

end Go.Proofs.YtinndpnilmmmjaaGreatDoor
namespace Go.Proofs.YtinndpnilmmmjaaGreatDoor
open Go.RowKit

/-- Reading at most f characters from a place one comes to another. -/
def ReachF (s : ByteArray) : Nat → Nat → Nat → Prop
  | 0, p, m => p = m
  | f + 1, p, m => p = m ∨ (p < s.size ∧ ReachF s f (p + (Utf8.decode s p).2) m)

/-- Reading character by character from a place one comes to another. -/
def Reach (s : ByteArray) (p m : Nat) : Prop := ∃ f, ReachF s f p m

theorem Reach.here {s : ByteArray} (p : Nat) : Reach s p p := ⟨0, rfl⟩

theorem Reach.step {s : ByteArray} {p m : Nat} (h : p < s.size) (r : Reach s (p + (Utf8.decode s p).2) m) : Reach s p m := by
  obtain ⟨f, hf⟩ := r
  exact ⟨f + 1, .inr ⟨h, hf⟩⟩

theorem reachF_le {s : ByteArray} : ∀ (f : Nat) {p m : Nat}, ReachF s f p m → p ≤ m
  | 0, _, _, h => Nat.le_of_eq h
  | f + 1, p, m, h => by
    rcases h with h | ⟨_, h⟩
    · omega
    · have := reachF_le f h
      omega

theorem Reach.le {s : ByteArray} {p m : Nat} (h : Reach s p m) : p ≤ m := by
  obtain ⟨f, hf⟩ := h
  exact reachF_le f hf

theorem Reach.next {s : ByteArray} {p m : Nat} (h : Reach s p m) (hne : p ≠ m) : p < s.size ∧ Reach s (p + (Utf8.decode s p).2) m := by
  obtain ⟨f, hf⟩ := h
  cases f with
  | zero => exact absurd hf hne
  | succ f =>
    rcases hf with h | ⟨h, r⟩
    · exact absurd h hne
    · exact ⟨h, f, r⟩

theorem Reach.small {s : ByteArray} {p m : Nat} (h : p < s.size) (hb : bt s p < 128) (r : Reach s (p + 1) m) : Reach s p m := by
  refine .step h ?_
  rw [decode_is, if_pos hb]
  exact r

theorem reach_end {q : Nat → Bool} (hq : ∀ v, q v = true → v < 128) {s : ByteArray} : ∀ (d i : Nat), s.size - i = d → Reach s i (endOf q s i)
  | d, i, hd => by
    by_cases h : i < s.size ∧ q (bt s i) = true
    · rw [endOf_go h.1 h.2]
      match d, hd with
      | 0, hd => omega
      | d + 1, hd => exact .small h.1 (hq _ h.2) (reach_end hq d (i + 1) (by omega))
    · rw [endOf_stop h]
      exact .here _

theorem reach_text {s : ByteArray} : ∀ (f p : Nat) (out : List UInt8), (textTok s f p out).c = 0 → Reach s p (textTok s f p out).e
  | 0, p, out, h => by rw [textTok] at h; simp [bad] at h
  | f + 1, p, out, h => by
    rw [textTok] at h ⊢
    by_cases h1 : p < s.size
    · rw [if_pos h1] at h ⊢
      by_cases h2 : bt s p = 39
      · rw [if_pos h2] at h ⊢
        by_cases h3 : quotes s p = true
        · rw [if_pos h3] at h ⊢
          have hqq := of_decide_eq_true h3
          exact .small h1 (by omega) (.small (by omega) (by omega) (reach_text f (p + 2) _ h))
        · rw [if_neg h3]
          exact .small h1 (by omega) (.here _)
      · rw [if_neg h2] at h ⊢
        by_cases h3 : (runeAt s p).2 = 0 ∨ bt s p = 10
        · rw [if_pos h3] at h; simp [bad] at h
        · rw [if_neg h3] at h ⊢
          have hr : runeAt s p = Utf8.decode s p := by
            by_cases hg : Utf8.decode s p = (65533, 1)
            · exact absurd (.inl (by rw [rune_none hg])) h3
            · unfold runeAt; rw [if_neg hg]
          refine .step h1 ?_
          rw [← hr]
          exact reach_text f _ _ h
    · rw [if_neg h1] at h; simp [bad] at h

theorem high_is {s : ByteArray} {i : Nat} : high s i = true ↔ (Utf8.decode s i).1 = 175 := by
  have hb := bt_lt s i
  have hb1 := bt_lt s (i + 1)
  rw [decode_is]
  unfold high
  rw [decide_eq_true_eq]
  constructor
  · rintro ⟨h1, h2, h3⟩
    have t1 : tl s (i + 1) = true := by unfold tl; exact decide_eq_true ⟨by omega, by omega, by omega⟩
    have w : v2 s i = 175 := by unfold v2; rw [h2, h3]
    rw [if_neg (by omega), if_pos ⟨by omega, t1⟩, w, if_pos (by omega)]
  · intro h
    by_cases c0 : bt s i < 128
    · rw [if_pos c0] at h
      exact absurd (show bt s i = 175 from h) (by omega)
    · rw [if_neg c0] at h
      by_cases c1 : bt s i / 32 = 6 ∧ tl s (i + 1) = true
      · rw [if_pos c1] at h
        have ht := tl_bd c1.2
        by_cases c : 128 ≤ v2 s i
        · rw [if_pos c] at h
          have h' : v2 s i = 175 := h
          unfold v2 at h'
          exact ⟨by omega, by omega, by omega⟩
        · rw [if_neg c] at h; exact absurd h (by decide)
      · rw [if_neg c1] at h
        by_cases c2 : bt s i / 16 = 14 ∧ tl s (i + 1) = true ∧ tl s (i + 2) = true
        · rw [if_pos c2] at h
          by_cases c : 2048 ≤ v3 s i ∧ Utf8.valid (v3 s i : Nat) = true
          · rw [if_pos c] at h
            exact absurd (show v3 s i = 175 from h) (by omega)
          · rw [if_neg c] at h; exact absurd h (by decide)
        · rw [if_neg c2] at h
          by_cases c3 : bt s i / 8 = 30 ∧ tl s (i + 1) = true ∧ tl s (i + 2) = true ∧ tl s (i + 3) = true
          · rw [if_pos c3] at h
            by_cases c : 65536 ≤ v4 s i ∧ Utf8.valid (v4 s i : Nat) = true
            · rw [if_pos c] at h
              exact absurd (show v4 s i = 175 from h) (by omega)
            · rw [if_neg c] at h; exact absurd h (by decide)
          · rw [if_neg c3] at h; exact absurd h (by decide)

theorem remark_is {s : ByteArray} {i : Nat} : remark s i = true ↔ (Utf8.decode s i).1 = 9053 := by
  have hb := bt_lt s i
  have hb1 := bt_lt s (i + 1)
  rw [decode_is]
  unfold remark
  rw [decide_eq_true_eq]
  constructor
  · rintro ⟨h1, h2, h3, h4⟩
    have t1 : tl s (i + 1) = true := by unfold tl; exact decide_eq_true ⟨by omega, by omega, by omega⟩
    have t2 : tl s (i + 2) = true := by unfold tl; exact decide_eq_true ⟨by omega, by omega, by omega⟩
    have w : v3 s i = 9053 := by unfold v3; rw [h2, h3, h4]
    rw [if_neg (by omega), if_neg (by omega), if_pos ⟨by omega, t1, t2⟩, w, if_pos ⟨by omega, by decide⟩]
  · intro h
    by_cases c0 : bt s i < 128
    · rw [if_pos c0] at h
      exact absurd (show bt s i = 9053 from h) (by omega)
    · rw [if_neg c0] at h
      by_cases c1 : bt s i / 32 = 6 ∧ tl s (i + 1) = true
      · rw [if_pos c1] at h
        by_cases c : 128 ≤ v2 s i
        · rw [if_pos c] at h
          have h' : v2 s i = 9053 := h
          unfold v2 at h'
          omega
        · rw [if_neg c] at h; exact absurd h (by decide)
      · rw [if_neg c1] at h
        by_cases c2 : bt s i / 16 = 14 ∧ tl s (i + 1) = true ∧ tl s (i + 2) = true
        · rw [if_pos c2] at h
          have ht1 := tl_bd c2.2.1
          have ht2 := tl_bd c2.2.2
          by_cases c : 2048 ≤ v3 s i ∧ Utf8.valid (v3 s i : Nat) = true
          · rw [if_pos c] at h
            have h' : v3 s i = 9053 := h
            unfold v3 at h'
            exact ⟨by omega, by omega, by omega, by omega⟩
          · rw [if_neg c] at h; exact absurd h (by decide)
        · rw [if_neg c2] at h
          by_cases c3 : bt s i / 8 = 30 ∧ tl s (i + 1) = true ∧ tl s (i + 2) = true ∧ tl s (i + 3) = true
          · rw [if_pos c3] at h
            by_cases c : 65536 ≤ v4 s i ∧ Utf8.valid (v4 s i : Nat) = true
            · rw [if_pos c] at h
              exact absurd (show v4 s i = 9053 from h) (by omega)
            · rw [if_neg c] at h; exact absurd h (by decide)
          · rw [if_neg c3] at h; exact absurd h (by decide)

/-- A small character is its byte. -/
theorem small_is {s : ByteArray} {i c : Nat} (hc : c < 128) : (Utf8.decode s i).1 = c ↔ bt s i = c := by
  by_cases h : bt s i < 128
  · rw [decode_is, if_pos h]
  · have := decode_ge h
    constructor
    · intro e; omega
    · intro e; omega

theorem small_of {q : Nat → Bool} (hq : ∀ v, q v = true → v < 128) {s : ByteArray} {i : Nat} : q (Utf8.decode s i).1 = q (bt s i) := by
  by_cases h : bt s i < 128
  · rw [decode_is, if_pos h]
  · have h1 := decode_ge h
    have a : q (Utf8.decode s i).1 = false := by
      cases h2 : q (Utf8.decode s i).1 with
      | false => rfl
      | true => have := hq _ h2; omega
    have b : q (bt s i) = false := by
      cases h2 : q (bt s i) with
      | false => rfl
      | true => exact absurd (hq _ h2) h
    rw [a, b]

/-- Behind a token one is where reading character by character comes by. -/
theorem reach_tok {s : ByteArray} {k : Nat} (hk : k < s.size) (h : (tokAt s k).c = 0) : Reach s (k + (Utf8.decode s k).2) (tokAt s k).e := by
  suffices hs : Reach s k (tokAt s k).e by
    have := tok_end hk h
    exact (hs.next (by omega)).2
  unfold tokAt at h ⊢
  by_cases h1 : isD (bt s k) = true ∨ high s k = true
  · rw [if_pos h1] at h ⊢
    obtain ⟨f, hf⟩ : ∃ f, (if high s k = true then k + 2 else k) = f := ⟨_, rfl⟩
    obtain ⟨e, he⟩ : ∃ e, endOf isD s f = e := ⟨_, rfl⟩
    by_cases hb : e = f ∨ (e < s.size ∧ isL (bt s e) = true) ∨ high s e = true
    · rw [numTok_bad hf he hb] at h; simp [bad] at h
    · by_cases hv : 1000000000000000 < decV s f (e - f)
      · rw [numTok_big hf he hb hv] at h; simp [bad] at h
      · rw [numTok_ok hf he hb hv]
        show Reach s k e
        have hr : Reach s f e := by rw [← he]; exact reach_end isD_small _ f rfl
        by_cases hh : high s k = true
        · rw [if_pos hh] at hf
          rw [← hf] at hr
          have hd := of_decide_eq_true hh
          refine .step hk ?_
          have t1 : tl s (k + 1) = true := by unfold tl; exact decide_eq_true ⟨by omega, by omega, by omega⟩
          have w : v2 s k = 175 := by unfold v2; rw [hd.2.1, hd.2.2]
          have hdec : Utf8.decode s k = (175, 2) := by rw [decode_is, if_neg (by omega), if_pos ⟨by omega, t1⟩, w, if_pos (by omega)]
          rw [hdec]
          exact hr
        · rw [if_neg hh] at hf
          rw [hf]
          exact hr
  · rw [if_neg h1] at h ⊢
    by_cases h2 : bt s k = 39
    · rw [if_pos h2] at h ⊢
      exact .small hk (by omega) (reach_text _ _ _ h)
    · rw [if_neg h2] at h ⊢
      by_cases h3 : isL (bt s k) = true
      · rw [if_pos h3] at h ⊢
        unfold nameTok at h ⊢
        by_cases h4 : 20 < endOf isLD s k - k
        · rw [if_pos h4] at h; simp [bad] at h
        · rw [if_neg h4]
          exact reach_end isLD_small _ k rfl
      · rw [if_neg h3] at h ⊢
        unfold signTok at h ⊢
        by_cases h4 : 0 < (runeAt s k).2 ∧ (runeAt s k).1 ∈ signCs
        · rw [if_pos h4]
          have hr : runeAt s k = Utf8.decode s k := by
            by_cases hg : Utf8.decode s k = (65533, 1)
            · have := h4.1; rw [rune_none hg] at this; simp at this
            · unfold runeAt; rw [if_neg hg]
          show Reach s k (k + (runeAt s k).2)
          rw [hr]
          exact .step hk (.here _)
        · rw [if_neg h4] at h; simp [bad] at h

/-- The reader that is taken reads the token. -/
theorem reader_any (s : ByteArray) (i v : Nat) (hv : (Utf8.decode s i).1 = v) (w : World) (hi : i < s.size) (hs : s.size ≤ 100000) (hR : RangeAt w) (hT : TabsAt w) :
    Calls Tryz.prog (readerN v) #[.string (s.extract i s.size)] w fun e w' => e = .returned (readG (tokAt s i) i) ∧ Below w.heap.size w w' := by
  unfold readerN tokAt
  have hd : isD v = isD (bt s i) := by rw [← hv]; exact small_of isD_small
  have hl : isL v = isL (bt s i) := by rw [← hv]; exact small_of isL_small
  have hh : v = 175 ↔ high s i = true := by rw [← hv]; exact high_is.symm
  have hq : v = 39 ↔ bt s i = 39 := by rw [← hv]; exact small_is (by omega)
  rw [hd, hl]
  by_cases h1 : isD (bt s i) = true ∨ high s i = true
  · rw [if_pos (h1.imp id hh.2), if_pos h1]
    exact readNumber_any s i w hi (by omega) hR
  · rw [if_neg (fun h => h1 (h.imp id hh.1)), if_neg h1]
    by_cases h2 : bt s i = 39
    · rw [if_pos (hq.2 h2), if_pos h2]
      exact readText_at s i w hi (by omega) hT
    · rw [if_neg (fun h => h2 (hq.1 h)), if_neg h2]
      by_cases h3 : isL (bt s i) = true
      · rw [if_pos h3, if_pos h3]
        exact readName_at s i w hi (by omega)
      · rw [if_neg h3, if_neg h3]
        exact readSign_at s i w hi hT

end Go.Proofs.YtinndpnilmmmjaaGreatDoor
namespace Go.Proofs.YtinndpnilmmmjaaGreatDoor
open Go.RowKit

/-- Each quote twice. -/
def qd (l : List UInt8) : List UInt8 := l.flatMap (fun b => if b = 39 then [39, 39] else [b])

theorem qd_len (l : List UInt8) : (qd l).length ≤ 2 * l.length ∧ l.length ≤ (qd l).length := by
  induction l with
  | nil => simp [qd]
  | cons b t ih =>
    unfold qd at ih ⊢
    rw [List.flatMap_cons, List.length_append]
    split <;> (simp only [List.length_cons, List.length_nil]; omega)

end Go.Proofs.YtinndpnilmmmjaaGreatDoor
namespace Go.Proofs.YtinndpnilmmmjaaGreatDoor
open Go.RowKit

/-- What is read again is the token. -/
def backB (k n : Int) (t : ByteArray) : List Tok × Int × Nat → Bool
  | ([y], c, _) => decide (c = 0) && decide (y.k = k) && decide (y.n = n) && decide (y.t = t)
  | _ => false

/-- A token's text. -/
def tokText (k n : Int) (t : ByteArray) : ByteArray := if backB k n t (lexT (spellT k n t)) = true then spellT k n t else ⟨#[]⟩

theorem backB_code {k n c : Int} {t : ByteArray} {ts : List Tok} {p : Nat} (h : c ≠ 0) : backB k n t (ts, c, p) = false := by
  unfold backB
  split
  · rename_i e
    cases e
    simp [h]
  · rfl

theorem backB_many {k n c : Int} {t : ByteArray} {ts : List Tok} {p : Nat} (h : ts.length ≠ 1) : backB k n t (ts, c, p) = false := by
  unfold backB
  split
  · rename_i e
    cases e
    simp at h
  · rfl

theorem bytes_ne {a b : ByteArray} (h : ¬ a = b) : (a.toList == b.toList) = false := by
  refine beq_eq_false_iff_ne.2 fun e => h ?_
  rw [Lib.toList_data, Lib.toList_data] at e
  exact ByteArray.ext (Array.toList_inj.1 e)

end Go.Proofs.YtinndpnilmmmjaaGreatDoor
namespace Go.Proofs.YtinndpnilmmmjaaGreatDoor
open Go.RowKit

/-- The bytes l stand in T from place i on. -/
structure Bs (T : ByteArray) (i : Nat) (l : List UInt8) : Prop where
  le : i + l.length ≤ T.size
  eq : ∀ j (h : j < l.length), bt T (i + j) = (l[j]).toNat

/-- Behind a token of kind k: the text's end, or what does not go on with it. -/
def Nx (k : Int) (T : ByteArray) (e : Nat) : Prop := e = T.size ∨ (e < T.size ∧ (k = 1 ∨ k = 3 → isLD (bt T e) = false) ∧ (k = 1 → high T e = false) ∧ (k = 2 → bt T e ≠ 39))

theorem nx_blank (k : Int) {T : ByteArray} {e : Nat} (h : e < T.size) (h32 : bt T e = 32) : Nx k T e := .inr ⟨h, fun _ => by rw [h32]; rfl, fun _ => by unfold high; exact decide_eq_false fun hh => by omega, fun _ => by omega⟩

theorem Bs.left {T : ByteArray} {i : Nat} {l m : List UInt8} (h : Bs T i (l ++ m)) : Bs T i l := by
  have h1 := h.le
  rw [List.length_append] at h1
  refine ⟨by omega, fun j hj => ?_⟩
  rw [h.eq j (by rw [List.length_append]; omega), List.getElem_append_left hj]

theorem Bs.right {T : ByteArray} {i : Nat} {l m : List UInt8} (h : Bs T i (l ++ m)) : Bs T (i + l.length) m := by
  have h1 := h.le
  rw [List.length_append] at h1
  refine ⟨by omega, fun j hj => ?_⟩
  rw [Nat.add_assoc, h.eq (l.length + j) (by rw [List.length_append]; omega), List.getElem_append_right (by omega)]
  simp

theorem Bs.sub {T : ByteArray} {i : Nat} {l : List UInt8} (h : Bs T i l) : (T.extract i (i + l.length)).data.toList = l := by
  have h1 := h.le
  rw [sub_list, Nat.add_sub_cancel_left]
  apply List.ext_getElem?
  intro j
  by_cases hj : j < l.length
  · have hl : i + j < T.data.toList.length := by rw [← Lib.size_eq]; omega
    rw [List.getElem?_take, if_pos hj, List.getElem?_drop, List.getElem?_eq_getElem hl, List.getElem?_eq_getElem hj]
    have := h.eq j hj
    rw [bt_data (by omega), List.getD_eq_getElem?_getD, List.getElem?_eq_getElem hl, Option.getD_some] at this
    rw [UInt8.toNat_inj.1 this]
  · rw [List.getElem?_eq_none (by rw [List.length_take]; omega), List.getElem?_eq_none (by omega)]

theorem Bs.self (x : ByteArray) : Bs x 0 x.data.toList := by
  refine ⟨by rw [← Lib.size_eq]; omega, fun j hj => ?_⟩
  have : j < x.size := by rw [Lib.size_eq]; exact hj
  rw [Nat.zero_add, bt_data this, List.getD_eq_getElem?_getD, List.getElem?_eq_getElem hj, Option.getD_some]

/-- A character stands where its bytes stand. -/
theorem decode_bs {s T : ByteArray} {k i : Nat} (hk : k < s.size) (hg : Utf8.decode s k ≠ (65533, 1)) (h : Bs T i (s.extract k (k + (Utf8.decode s k).2)).data.toList) : Utf8.decode T i = Utf8.decode s k := by
  have h1 := decode_width_le hk
  have h2 := Lib.decode_width_pos s k hk
  obtain ⟨n, hn⟩ : ∃ n, (Utf8.decode s k).2 = n := ⟨_, rfl⟩
  rw [hn] at h1 h2 h
  have hlen : (s.extract k (k + n)).data.toList.length = n := by rw [sub_list, List.length_take, List.length_drop, ← Lib.size_eq]; omega
  have hxb : ∀ j, j < n → bt (s.extract k (k + n)) j = bt s (k + j) := fun j hj => by
    have hs : j < (s.extract k (k + n)).size := by rw [Lib.size_eq, hlen]; exact hj
    rw [bt_data hs, bt_data (by omega), sub_list]
    simp only [List.getD_eq_getElem?_getD, List.getElem?_take, List.getElem?_drop]
    rw [if_pos (by omega)]
  have hsz : (s.extract k (k + n)).size = n := by rw [Lib.size_eq]; exact hlen
  have hc : Utf8.decode (s.extract k (k + n)) 0 = Utf8.decode s k := decode_cut hn h2 hsz (fun j hj => ⟨by omega, hxb j hj⟩) hg
  rw [← hc]
  refine decode_longer (by omega) (fun j hj => ?_) (by rw [hc]; exact hg)
  rw [Nat.zero_add] at hj ⊢
  have hle := h.le
  have he := h.eq j (by omega)
  refine ⟨by omega, ?_⟩
  rw [he, bt_data (by omega), List.getD_eq_getElem?_getD, List.getElem?_eq_getElem (by omega), Option.getD_some]

/-- No byte of a character is a quote but the quote. -/
theorem char_noq {s : ByteArray} {k : Nat} (hk : k < s.size) (h39 : bt s k ≠ 39) (hg : Utf8.decode s k ≠ (65533, 1)) : qd (s.extract k (k + (Utf8.decode s k).2)).data.toList = (s.extract k (k + (Utf8.decode s k).2)).data.toList := by
  have h1 := decode_width_le hk
  have key : ∀ j, j < (Utf8.decode s k).2 → bt s (k + j) ≠ 39 := by
    have hd := decode_is s k
    by_cases c0 : bt s k < 128
    · rw [if_pos c0] at hd
      intro j hj
      rw [hd] at hj
      have : j = 0 := by simp at hj; omega
      subst this
      exact h39
    · intro j hj
      by_cases hj0 : j = 0
      · subst hj0; exact h39
      rw [if_neg c0] at hd
      by_cases c1 : bt s k / 32 = 6 ∧ tl s (k + 1) = true
      · have t1 := tl_bd c1.2
        rw [if_pos c1] at hd
        have hw : (Utf8.decode s k).2 ≤ 2 := by rw [hd]; split <;> simp
        obtain rfl : j = 1 := by omega
        omega
      · rw [if_neg c1] at hd
        by_cases c2 : bt s k / 16 = 14 ∧ tl s (k + 1) = true ∧ tl s (k + 2) = true
        · have t1 := tl_bd c2.2.1
          have t2 := tl_bd c2.2.2
          rw [if_pos c2] at hd
          have hw : (Utf8.decode s k).2 ≤ 3 := by rw [hd]; split <;> simp
          rcases (by omega : j = 1 ∨ j = 2) with rfl | rfl <;> omega
        · rw [if_neg c2] at hd
          by_cases c3 : bt s k / 8 = 30 ∧ tl s (k + 1) = true ∧ tl s (k + 2) = true ∧ tl s (k + 3) = true
          · have t1 := tl_bd c3.2.1
            have t2 := tl_bd c3.2.2.1
            have t3 := tl_bd c3.2.2.2
            rw [if_pos c3] at hd
            have hw : (Utf8.decode s k).2 ≤ 4 := by rw [hd]; split <;> simp
            rcases (by omega : j = 1 ∨ j = 2 ∨ j = 3) with rfl | rfl | rfl <;> omega
          · rw [if_neg c3] at hd
            exact absurd hd hg
  have hall : ∀ b ∈ (s.extract k (k + (Utf8.decode s k).2)).data.toList, b ≠ 39 := by
    intro b hb e
    obtain ⟨j, hj⟩ := List.mem_iff_getElem?.1 hb
    rw [sub_list, List.getElem?_take] at hj
    split at hj
    · rename_i hjw
      have hl : k + j < s.data.toList.length := by rw [← Lib.size_eq]; omega
      rw [List.getElem?_drop, List.getElem?_eq_getElem hl] at hj
      have h2 := key j (by omega)
      rw [bt_data (by omega), List.getD_eq_getElem?_getD, List.getElem?_eq_getElem hl, Option.getD_some] at h2
      rw [Option.some.inj hj, e] at h2
      exact h2 rfl
    · cases hj
  generalize (s.extract k (k + (Utf8.decode s k).2)).data.toList = l at hall
  induction l with
  | nil => rfl
  | cons b r ih =>
    unfold qd at ih ⊢
    rw [List.flatMap_cons, if_neg (hall b (by simp)), ih (fun c hc => hall c (by simp [hc]))]
    rfl

theorem qd_app (l m : List UInt8) : qd (l ++ m) = qd l ++ qd m := by unfold qd; rw [List.flatMap_append]

/-- What was read as a text is read again where it is written. -/
theorem text_again {s : ByteArray} : ∀ (F k : Nat) (out : List UInt8), k ≤ s.size → (textTok s F k out).c = 0 →
    (textTok s F k out).k = 2 ∧ (textTok s F k out).n = 0 ∧ ∃ r, (textTok s F k out).t = ⟨(out ++ r).toArray⟩ ∧ (textTok s F k out).e = k + (qd r).length + 1 ∧
      ∀ (T : ByteArray) (i G : Nat) (o : List UInt8), Bs T i (qd r ++ [39]) → Nx 2 T (i + (qd r).length + 1) → T.size - i < G → textTok T G i o = ⟨2, 0, ⟨(o ++ r).toArray⟩, i + (qd r).length + 1, 0⟩
  | 0, k, out, _, h => by rw [textTok] at h; simp [bad] at h
  | F + 1, k, out, hk, h => by
    rw [textTok] at h ⊢
    by_cases h1 : k < s.size
    · rw [if_pos h1] at h ⊢
      by_cases h2 : bt s k = 39
      · rw [if_pos h2] at h ⊢
        by_cases h3 : quotes s k = true
        · rw [if_pos h3] at h ⊢
          have hq := of_decide_eq_true h3
          obtain ⟨a1, a2, r, a3, a4, a5⟩ := text_again F (k + 2) (out ++ [39]) (by omega) h
          refine ⟨a1, a2, 39 :: r, by rw [a3, List.append_assoc]; rfl, ?_, fun T i G o hb hn hG => ?_⟩
          · rw [a4]
            show k + 2 + (qd r).length + 1 = k + (39 :: 39 :: qd r).length + 1
            simp only [List.length_cons]
            omega
          · have hb' : Bs T i ([39, 39] ++ (qd r ++ [39])) := hb
            have e0 := hb'.left.eq 0 (by simp)
            have e1 := hb'.left.eq 1 (by simp)
            have hle := hb'.le
            simp at e0 e1 hle
            have hr := hb'.right
            simp only [List.length_cons, List.length_nil] at hr
            have hn' : Nx 2 T (i + 2 + (qd r).length + 1) := by
              have : i + (qd (39 :: r)).length + 1 = i + 2 + (qd r).length + 1 := by
                show i + (39 :: 39 :: qd r).length + 1 = _
                simp only [List.length_cons]
                omega
              rw [this] at hn
              exact hn
            cases G with
            | zero => omega
            | succ G =>
              rw [textTok, if_pos (by omega), if_pos (by rw [← Nat.add_zero i]; exact e0), if_pos (by unfold quotes; exact decide_eq_true ⟨by omega, by rw [← Nat.add_zero i]; exact e0, e1⟩)]
              rw [a5 T (i + 2) G (o ++ [39]) hr hn' (by omega), List.append_assoc]
              congr 1
              show i + 2 + (qd r).length + 1 = i + (39 :: 39 :: qd r).length + 1
              simp only [List.length_cons]
              omega
        · rw [if_neg h3]
          refine ⟨rfl, rfl, [], by simp, rfl, fun T i G o hb hn hG => ?_⟩
          have hle := hb.le
          have e0 := hb.eq 0 (by simp [qd])
          have hn' : Nx 2 T (i + 1) := hn
          simp [qd] at hle e0
          have hnq : quotes T i = false := by
            unfold quotes
            refine decide_eq_false fun hh => ?_
            rcases hn' with hn | ⟨_, _, _, hn⟩
            · omega
            · exact hn rfl hh.2.2
          cases G with
          | zero => omega
          | succ G =>
            rw [textTok, if_pos (by omega), if_pos e0, if_neg (by rw [hnq]; decide)]
            simp [qd]
      · rw [if_neg h2] at h ⊢
        by_cases h3 : (runeAt s k).2 = 0 ∨ bt s k = 10
        · rw [if_pos h3] at h; simp [bad] at h
        · rw [if_neg h3] at h ⊢
          have hg : Utf8.decode s k ≠ (65533, 1) := fun e => h3 (.inl (by rw [rune_none e]))
          have hr : runeAt s k = Utf8.decode s k := by unfold runeAt; rw [if_neg hg]
          rw [hr] at h h3 ⊢
          have hw1 := decode_width_le h1
          have hw2 := Lib.decode_width_pos s k h1
          obtain ⟨a1, a2, r, a3, a4, a5⟩ := text_again F (k + (Utf8.decode s k).2) _ hw1 h
          have hlen : (s.extract k (k + (Utf8.decode s k).2)).data.toList.length = (Utf8.decode s k).2 := by rw [sub_list, List.length_take, List.length_drop, ← Lib.size_eq]; omega
          have hqd : qd ((s.extract k (k + (Utf8.decode s k).2)).data.toList ++ r) = (s.extract k (k + (Utf8.decode s k).2)).data.toList ++ qd r := by rw [qd_app, char_noq h1 h2 hg]
          refine ⟨a1, a2, (s.extract k (k + (Utf8.decode s k).2)).data.toList ++ r, by rw [a3, List.append_assoc], ?_, fun T i G o hb hn hG => ?_⟩
          · rw [a4, hqd, List.length_append, hlen]
            omega
          · rw [hqd, List.append_assoc] at hb
            rw [hqd, List.length_append, hlen] at hn ⊢
            have hdT := decode_bs h1 hg hb.left
            have hle := hb.le
            have hrt := hb.right
            have hsub := hb.left.sub
            have e0 := hb.left.eq 0 (by omega)
            rw [hlen] at hrt hsub
            rw [List.length_append, hlen, List.length_append] at hle
            have hb0 : bt T i = bt s k := by
              rw [Nat.add_zero] at e0
              rw [e0]
              have hl : k < s.data.toList.length := by rw [← Lib.size_eq]; exact h1
              rw [bt_data h1, List.getD_eq_getElem?_getD, List.getElem?_eq_getElem hl, Option.getD_some]
              congr 1
              simp only [sub_list, List.getElem_take, List.getElem_drop, Nat.add_zero]
            have hrT : runeAt T i = Utf8.decode s k := by unfold runeAt; rw [hdT, if_neg hg]
            simp only [List.length_cons, List.length_nil] at hle
            cases G with
            | zero => omega
            | succ G =>
              rw [textTok, if_pos (by omega), if_neg (by rw [hb0]; exact h2), hrT, if_neg (by rw [hb0]; exact h3), hsub]
              rw [a5 T (i + (Utf8.decode s k).2) G _ hrt (by rw [show i + (Utf8.decode s k).2 + (qd r).length + 1 = i + ((Utf8.decode s k).2 + (qd r).length) + 1 by omega]; exact hn) (by omega), List.append_assoc]
              congr 1
              omega
    · rw [if_neg h1] at h; simp [bad] at h

end Go.Proofs.YtinndpnilmmmjaaGreatDoor
namespace Go.Proofs.YtinndpnilmmmjaaGreatDoor
open Go.RowKit

/-- A token that stands in a line is read again where it is written. -/
structure Again (k n : Int) (t x : ByteArray) : Prop where
  pos : 0 < x.size
  reads : ∀ (T : ByteArray) (i : Nat), Bs T i x.data.toList → Nx k T (i + x.size) → tokAt T i = ⟨k, n, t, i + x.size, 0⟩ ∧ remark T i = false ∧ ¬ (bt T i = 32 ∨ bt T i = 9)

theorem nx_no {k : Int} {T : ByteArray} {e : Nat} (h : Nx k T e) (hk : k = 1 ∨ k = 3) (q : Nat → Bool) (hq : ∀ b, q b = true → isLD b = true) : ¬ (e < T.size ∧ q (bt T e) = true) := by
  rintro ⟨h1, h2⟩
  rcases h with h | ⟨_, h, _⟩
  · omega
  · rw [hq _ h2] at h
    exact absurd (h hk) (by decide)

theorem nx_high {T : ByteArray} {e : Nat} (h : Nx 1 T e) : high T e = false := by
  rcases h with h | ⟨_, _, h, _⟩
  · unfold high
    exact decide_eq_false fun hh => by omega
  · exact h rfl

theorem ld_d (b : Nat) (h : isD b = true) : isLD b = true := by unfold isLD; rw [h, Bool.or_true]
theorem ld_l (b : Nat) (h : isL b = true) : isLD b = true := by unfold isLD; rw [h]; rfl

theorem again_num (n : Int) (hn : n.natAbs ≤ 1000000000000000) : Again 1 n ⟨#[]⟩ (bstr (numT n)) := by
  have hn19 : n.natAbs < 10 ^ 19 := by omega
  obtain ⟨hl, hz, f, hf, hlen, hbb, hh⟩ := numT_parts n hn19
  have hp := decZ_pos n.natAbs
  have hd := decZ_digit 19 n.natAbs hn19
  have hsz : (bstr (numT n)).size = f + (decZ n.natAbs).length := by rw [bstr_size]; exact hlen
  refine ⟨by omega, fun T i hb hx => ?_⟩
  have hxl : (bstr (numT n)).data.toList.length = (bstr (numT n)).size := by rw [← Lib.size_eq]
  have hbt : ∀ j, j < (bstr (numT n)).size → bt T (i + j) = bt (bstr (numT n)) j := fun j hj => by
    rw [hb.eq j (by omega), bt_data hj, List.getD_eq_getElem?_getD, List.getElem?_eq_getElem (by omega), Option.getD_some]
  have hle := hb.le
  rw [hxl] at hle
  obtain ⟨_, _, _, hst⟩ := num_starts n hn19
  generalize bstr (numT n) = x at *
  have hdig : ∀ j, j < (decZ n.natAbs).length → 48 ≤ bt T (i + f + j) ∧ bt T (i + f + j) ≤ 57 ∧ (bt T (i + f + j) : Int) = (decZ n.natAbs).getD j 0 := fun j hj => by
    have h1 := hbb j hj
    have h2 := hd _ (by
      have : (decZ n.natAbs).getD j 0 ∈ decZ n.natAbs := by
        rw [List.getD_eq_getElem?_getD, List.getElem?_eq_getElem hj]
        exact List.getElem_mem _
      exact this)
    have h3 := hbt (f + j) (by omega)
    rw [← Nat.add_assoc] at h3
    omega
  have hhT : high T i = true ↔ n < 0 := by
    rw [← hh]
    by_cases h0 : n < 0
    · have hx2 := hh.2 h0
      refine ⟨fun _ => hx2, fun _ => ?_⟩
      unfold high at hx2 ⊢
      have h5 := of_decide_eq_true hx2
      have g0 := hbt 0 (by omega)
      have g1 := hbt 1 (by omega)
      rw [Nat.add_zero] at g0
      exact decide_eq_true ⟨by omega, by omega, by rw [g1]; exact h5.2.2⟩
    · refine ⟨fun h => ?_, fun h => absurd (hh.1 h) h0⟩
      rw [if_neg h0] at hf
      subst hf
      have := hdig 0 (by omega)
      unfold high at h
      have h5 := of_decide_eq_true h
      rw [Nat.add_zero] at this
      omega
  have hfx : (if high T i = true then i + 2 else i) = i + f := by
    by_cases h0 : n < 0
    · rw [if_pos (hhT.2 h0), hf, if_pos h0]
    · rw [if_neg (fun h => h0 (hhT.1 h)), hf, if_neg h0]; rfl
  have he : endOf isD T (i + f) = i + x.size := by
    rw [hsz, ← Nat.add_assoc]
    refine endOf_is _ (i + f) (fun j hj => ⟨by omega, ?_⟩) ?_
    · unfold isD; have := hdig j hj; exact decide_eq_true ⟨this.1, this.2.1⟩
    · rw [Nat.add_assoc, ← hsz]; exact nx_no hx (.inl rfl) isD ld_d
  have hbad : ¬ (i + x.size = i + f ∨ (i + x.size < T.size ∧ isL (bt T (i + x.size)) = true) ∨ high T (i + x.size) = true) := by
    rintro (h | h | h)
    · omega
    · exact nx_no hx (.inl rfl) isL ld_l h
    · rw [nx_high hx] at h; cases h
  have hv : decV T (i + f) (i + x.size - (i + f)) = n.natAbs := by
    rw [show i + x.size - (i + f) = (decZ n.natAbs).length by omega]
    exact decV_dec 19 _ hn19 (fun j hj => (hdig j hj).2.2)
  have hfirst : isD (bt T i) = true ∨ high T i = true := by
    by_cases h0 : n < 0
    · exact .inr (hhT.2 h0)
    · left
      rw [if_neg h0] at hf
      subst hf
      have := hdig 0 (by omega)
      rw [Nat.add_zero] at this
      unfold isD
      exact decide_eq_true ⟨this.1, this.2.1⟩
  refine ⟨?_, ?_, ?_⟩
  · unfold tokAt
    rw [if_pos hfirst, numTok_ok hfx he hbad (by omega), hv]
    congr 1
    by_cases h0 : n < 0
    · rw [if_pos (hhT.2 h0)]; omega
    · rw [if_neg (fun h => h0 (hhT.1 h))]; omega
  · unfold remark
    refine decide_eq_false fun hh2 => ?_
    rcases hfirst with h | h
    · unfold isD at h; have := of_decide_eq_true h; omega
    · unfold high at h; have := of_decide_eq_true h; omega
  · intro hb2
    rcases hfirst with h | h
    · unfold isD at h; have := of_decide_eq_true h; omega
    · unfold high at h; have := of_decide_eq_true h; omega

theorem again_name {s : ByteArray} {p e : Nat} (hp : p < s.size) (hL : isL (bt s p) = true) (he : endOf isLD s p = e) (h20 : ¬ 20 < e - p) : Again 3 0 (s.extract p e) (s.extract p e) := by
  have h1 : p < e := by
    have h5 := endOf_go (p := isLD) hp (by unfold isLD; rw [hL]; rfl)
    have h6 := endOf_ge isLD s (p + 1)
    omega
  have h2 : e ≤ s.size := by rw [← he]; exact endOf_le isLD s p (by omega)
  have hsz : (s.extract p e).size = e - p := by rw [ByteArray.size_extract]; omega
  have hxb : ∀ j, j < e - p → bt (s.extract p e) j = bt s (p + j) := fun j hj => by
    rw [bt_data (by omega), bt_data (by omega), sub_list]
    simp only [List.getD_eq_getElem?_getD, List.getElem?_take, List.getElem?_drop]
    rw [if_pos hj]
  refine ⟨by omega, fun T i hb hx => ?_⟩
  have hxl : (s.extract p e).data.toList.length = e - p := by rw [← Lib.size_eq, hsz]
  have hbt : ∀ j, j < e - p → bt T (i + j) = bt s (p + j) := fun j hj => by
    rw [hb.eq j (by omega), ← hxb j hj, bt_data (by omega), List.getD_eq_getElem?_getD, List.getElem?_eq_getElem (by omega), Option.getD_some]
  have hle := hb.le
  have hsub := hb.sub
  rw [hxl] at hle hsub
  rw [hsz] at hx ⊢
  have hb0 : bt T i = bt s p := by have := hbt 0 (by omega); simpa using this
  have hend : endOf isLD T i = i + (e - p) := by
    refine endOf_is _ i (fun j hj => ⟨by omega, ?_⟩) (nx_no hx (.inr rfl) isLD fun _ h => h)
    rw [hbt j hj]
    exact (endOf_in (p := isLD) (s := s) (i := p) (k := p + j) (by omega) (by rw [he]; omega)).2
  have hLb := hL
  unfold isL at hLb
  have hLr : (97 ≤ bt s p ∧ bt s p ≤ 122) ∨ (65 ≤ bt s p ∧ bt s p ≤ 90) := by
    rcases Bool.or_eq_true _ _ ▸ hLb with h | h
    · exact .inl (of_decide_eq_true h)
    · exact .inr (of_decide_eq_true h)
  refine ⟨?_, ?_, by omega⟩
  · unfold tokAt
    rw [if_neg (by
      rintro (h | h)
      · unfold isD at h; have := of_decide_eq_true h; omega
      · unfold high at h; have := of_decide_eq_true h; omega), if_neg (by omega), if_pos (by rw [hb0]; exact hL)]
    unfold nameTok
    rw [hend, if_neg (by omega)]
    congr 1
    exact ByteArray.ext (Array.toList_inj.1 hsub)
  · unfold remark
    exact decide_eq_false fun hh => by omega

theorem signs_low : ∀ v ∈ signCs, v < 128 → isD v = false ∧ isL v = false ∧ v ≠ 39 ∧ v ≠ 32 ∧ v ≠ 9 := by decide
theorem signs_not : 175 ∉ signCs ∧ 9053 ∉ signCs := by decide

theorem again_sign {s : ByteArray} {p : Nat} (hp : p < s.size) (hg : Utf8.decode s p ≠ (65533, 1)) (hm : (Utf8.decode s p).1 ∈ signCs) : Again 4 0 (s.extract p (p + (Utf8.decode s p).2)) (s.extract p (p + (Utf8.decode s p).2)) := by
  have h1 := decode_width_le hp
  have h2 := Lib.decode_width_pos s p hp
  have hsz : (s.extract p (p + (Utf8.decode s p).2)).size = (Utf8.decode s p).2 := by rw [ByteArray.size_extract]; omega
  have hxl : (s.extract p (p + (Utf8.decode s p).2)).data.toList.length = (Utf8.decode s p).2 := by rw [← Lib.size_eq, hsz]
  refine ⟨by omega, fun T i hb hx => ?_⟩
  have hd := decode_bs hp hg hb
  have hsub := hb.sub
  have hle := hb.le
  rw [hxl] at hsub hle
  rw [hsz]
  have hiT : i < T.size := by omega
  have hrT : runeAt T i = Utf8.decode s p := by unfold runeAt; rw [hd, if_neg hg]
  have hlow : bt T i < 128 → isD (bt T i) = false ∧ isL (bt T i) = false ∧ bt T i ≠ 39 ∧ bt T i ≠ 32 ∧ bt T i ≠ 9 := fun h => by
    have e : (Utf8.decode T i).1 = bt T i := by rw [decode_is, if_pos h]
    have hm' : bt T i ∈ signCs := by rw [← e, hd]; exact hm
    exact signs_low _ hm' h
  have hcl : isD (bt T i) = false ∧ isL (bt T i) = false ∧ bt T i ≠ 39 ∧ bt T i ≠ 32 ∧ bt T i ≠ 9 := by
    by_cases h : bt T i < 128
    · exact hlow h
    · refine ⟨?_, ?_, by omega, by omega, by omega⟩
      · cases hh : isD (bt T i) with
        | false => rfl
        | true => exact absurd (isD_small _ hh) h
      · cases hh : isL (bt T i) with
        | false => rfl
        | true => exact absurd (isL_small _ hh) h
  refine ⟨?_, ?_, fun h => by rcases h with h | h; exact hcl.2.2.2.1 h; exact hcl.2.2.2.2 h⟩
  · unfold tokAt
    rw [if_neg (by
      rintro (h | h)
      · rw [hcl.1] at h; cases h
      · have := high_is.1 h; rw [hd] at this; rw [this] at hm; exact signs_not.1 hm), if_neg hcl.2.2.1, if_neg (by rw [hcl.2.1]; decide)]
    unfold signTok
    rw [hrT, if_pos ⟨h2, hm⟩]
    congr 1
    exact ByteArray.ext (Array.toList_inj.1 hsub)
  · cases h : remark T i with
    | false => rfl
    | true => have := remark_is.1 h; rw [hd] at this; rw [this] at hm; exact absurd hm signs_not.2

theorem again_text {s : ByteArray} {p : Nat} (hp : p < s.size) (hc : (textTok s (s.size - p) (p + 1) []).c = 0) :
    (textTok s (s.size - p) (p + 1) []).k = 2 ∧ (textTok s (s.size - p) (p + 1) []).n = 0 ∧ Again 2 0 (textTok s (s.size - p) (p + 1) []).t ⟨(quoteL (textTok s (s.size - p) (p + 1) []).t.data.toList).toArray⟩ ∧ (quoteL (textTok s (s.size - p) (p + 1) []).t.data.toList).length = (textTok s (s.size - p) (p + 1) []).e - p := by
  obtain ⟨a1, a2, r, a3, a4, a5⟩ := text_again (s.size - p) (p + 1) [] (by omega) hc
  refine ⟨a1, a2, ?_, ?_⟩
  · rw [a3]
    have hq : quoteL (ByteArray.mk ([] ++ r).toArray).data.toList = 39 :: (qd r ++ [39]) := rfl
    rw [hq]
    have hsz : (ByteArray.mk (39 :: (qd r ++ [39])).toArray).size = (qd r).length + 2 := by
      show (39 :: (qd r ++ [39])).toArray.size = _
      rw [List.size_toArray, List.length_cons, List.length_append]
      rfl
    refine ⟨by omega, fun T i hb hx => ?_⟩
    have hb' : Bs T i ([39] ++ (qd r ++ [39])) := hb
    have e0 := hb'.left.eq 0 (by simp)
    have hle := hb'.le
    have hrt := hb'.right
    simp only [List.length_append, List.length_cons, List.length_nil] at hle hrt
    have e0' : bt T i = 39 := by simpa using e0
    rw [hsz] at hx ⊢
    refine ⟨?_, ?_, by omega⟩
    · unfold tokAt
      rw [if_neg (by
        rintro (h | h)
        · unfold isD at h; have := of_decide_eq_true h; omega
        · unfold high at h; have := of_decide_eq_true h; omega), if_pos e0']
      rw [a5 T (i + 1) (T.size - i) [] hrt (by rw [show i + 1 + (qd r).length + 1 = i + ((qd r).length + 2) by omega]; exact hx) (by omega)]
      congr 1
      omega
    · unfold remark
      exact decide_eq_false fun hh => by omega
  · rw [a3, a4]
    show (39 :: (qd r ++ [39])).length = _
    rw [List.length_cons, List.length_append]
    simp only [List.length_cons, List.length_nil]
    omega

end Go.Proofs.YtinndpnilmmmjaaGreatDoor
namespace Go.Proofs.YtinndpnilmmmjaaGreatDoor
open Go.RowKit

/-- A token of a line is read again where it is spelled; its spelling is no longer than it was. -/
theorem tok_again {s : ByteArray} {p : Nat} (hp : p < s.size) (hc : (tokAt s p).c = 0) : Again (tokAt s p).k (tokAt s p).n (tokAt s p).t (spellT (tokAt s p).k (tokAt s p).n (tokAt s p).t) ∧ (spellT (tokAt s p).k (tokAt s p).n (tokAt s p).t).size ≤ s.size ∧ (tokAt s p).n.natAbs ≤ 1000000000000000 ∧ (tokAt s p).t.size ≤ s.size := by
  have hend := tok_end hp hc
  unfold tokAt at hc hend ⊢
  by_cases h1 : isD (bt s p) = true ∨ high s p = true
  · rw [if_pos h1] at hc hend ⊢
    obtain ⟨f, hf⟩ : ∃ f, (if high s p = true then p + 2 else p) = f := ⟨_, rfl⟩
    have hfp : p ≤ f ∧ f ≤ s.size ∧ (high s p = true → f = p + 2) := by
      rw [← hf]
      split
      · rename_i h'; have := of_decide_eq_true h'; exact ⟨by omega, by omega, fun _ => rfl⟩
      · rename_i h'; exact ⟨by omega, by omega, fun h => absurd h h'⟩
    obtain ⟨e, he⟩ : ∃ e, endOf isD s f = e := ⟨_, rfl⟩
    have he1 := endOf_ge isD s f
    have he2 := endOf_le isD s f hfp.2.1
    rw [he] at he1 he2
    by_cases hb : e = f ∨ (e < s.size ∧ isL (bt s e) = true) ∨ high s e = true
    · rw [numTok_bad hf he hb] at hc; simp [bad] at hc
    · by_cases hv : 1000000000000000 < decV s f (e - f)
      · rw [numTok_big hf he hb hv] at hc; simp [bad] at hc
      · rw [numTok_ok hf he hb hv]
        show Again 1 (if high s p = true then -(decV s f (e - f) : Int) else (decV s f (e - f) : Int)) ⟨#[]⟩ (spellT 1 (if high s p = true then -(decV s f (e - f) : Int) else (decV s f (e - f) : Int)) ⟨#[]⟩) ∧ (spellT 1 (if high s p = true then -(decV s f (e - f) : Int) else (decV s f (e - f) : Int)) ⟨#[]⟩).size ≤ s.size ∧ (if high s p = true then -(decV s f (e - f) : Int) else (decV s f (e - f) : Int)).natAbs ≤ 1000000000000000 ∧ (ByteArray.mk #[]).size ≤ s.size
        obtain ⟨z, hz⟩ : ∃ z : Int, (if high s p = true then -(decV s f (e - f) : Int) else (decV s f (e - f) : Int)) = z := ⟨_, rfl⟩
        have hza : z.natAbs = decV s f (e - f) := by rw [← hz]; split <;> omega
        rw [hz]
        have hsp : spellT 1 z ⟨#[]⟩ = bstr (numT z) := rfl
        rw [hsp]
        refine ⟨again_num z (by omega), ?_, by omega, Nat.zero_le _⟩
        rw [bstr_size]
        -- digits of the value are no more than the digits read
        have hlen : (decZ (decV s f (e - f))).length ≤ e - f := by
          have hlt : ∀ k, (∀ j, j < k → isD (bt s (f + j)) = true) → decV s f k < 10 ^ k := by
            intro k
            induction k with
            | zero => intro _; simp [decV]
            | succ k ih =>
              intro hj
              have h9 := hj k (by omega)
              unfold isD at h9
              have h9' := of_decide_eq_true h9
              have := ih (fun j hjk => hj j (by omega))
              rw [decV, Nat.pow_succ]
              omega
          have hall : ∀ j, j < e - f → isD (bt s (f + j)) = true := fun j hj => (endOf_in (p := isD) (s := s) (i := f) (k := f + j) (by omega) (by rw [he]; omega)).2
          have h2 := hlt (e - f) hall
          obtain ⟨m, hm⟩ : ∃ m, e - f = m + 1 := ⟨e - f - 1, by omega⟩
          rw [hm] at h2 ⊢
          exact decZ_le m _ h2
        have hzl : (numT z).length ≤ (if high s p = true then 2 else 0) + (decZ (decV s f (e - f))).length := by
          unfold numT
          rw [hza]
          by_cases h0 : z < 0
          · have hhi : high s p = true := by
              cases hh : high s p with
              | true => rfl
              | false => rw [hh, if_neg (by decide)] at hz; omega
            rw [if_pos h0, if_pos hhi, List.length_append]
            simp
          · rw [if_neg h0]
            simp
        by_cases hhi : high s p = true
        · rw [if_pos hhi] at hzl; have := hfp.2.2 hhi; omega
        · rw [if_neg hhi] at hzl; omega
  · rw [if_neg h1] at hc hend ⊢
    by_cases h2 : bt s p = 39
    · rw [if_pos h2] at hc hend ⊢
      obtain ⟨a1, a2, a3, a4⟩ := again_text hp hc
      rw [a1, a2]
      have hsp : spellT 2 0 (textTok s (s.size - p) (p + 1) []).t = ⟨(quoteL (textTok s (s.size - p) (p + 1) []).t.data.toList).toArray⟩ := rfl
      rw [hsp]
      have hsz : (ByteArray.mk (quoteL (textTok s (s.size - p) (p + 1) []).t.data.toList).toArray).size = (textTok s (s.size - p) (p + 1) []).e - p := by
        show (quoteL (textTok s (s.size - p) (p + 1) []).t.data.toList).toArray.size = _
        rw [List.size_toArray]
        exact a4
      refine ⟨a3, by omega, by decide, ?_⟩
      have hq := (qd_len (textTok s (s.size - p) (p + 1) []).t.data.toList).2
      rw [← Lib.size_eq] at hq
      unfold quoteL at a4
      unfold qd at hq
      rw [List.length_cons, List.length_append] at a4
      omega
    · rw [if_neg h2] at hc hend ⊢
      by_cases h3 : isL (bt s p) = true
      · rw [if_pos h3] at hc hend ⊢
        unfold nameTok at hc hend ⊢
        by_cases h4 : 20 < endOf isLD s p - p
        · rw [if_pos h4] at hc; simp [bad] at hc
        · rw [if_neg h4] at hend ⊢
          show Again 3 0 (s.extract p (endOf isLD s p)) (s.extract p (endOf isLD s p)) ∧ (s.extract p (endOf isLD s p)).size ≤ s.size ∧ _ ∧ (s.extract p (endOf isLD s p)).size ≤ s.size
          have hz : (s.extract p (endOf isLD s p)).size ≤ s.size := by rw [ByteArray.size_extract]; omega
          exact ⟨again_name hp h3 rfl h4, hz, by show (0 : Int).natAbs ≤ _; decide, hz⟩
      · rw [if_neg h3] at hc hend ⊢
        unfold signTok at hc hend ⊢
        by_cases h4 : 0 < (runeAt s p).2 ∧ (runeAt s p).1 ∈ signCs
        · rw [if_pos h4] at hend ⊢
          have hg : Utf8.decode s p ≠ (65533, 1) := fun e => by have := h4.1; rw [rune_none e] at this; simp at this
          have hr : runeAt s p = Utf8.decode s p := by unfold runeAt; rw [if_neg hg]
          rw [hr] at h4 hend ⊢
          show Again 4 0 (s.extract p (p + (Utf8.decode s p).2)) (s.extract p (p + (Utf8.decode s p).2)) ∧ (s.extract p (p + (Utf8.decode s p).2)).size ≤ s.size ∧ _ ∧ (s.extract p (p + (Utf8.decode s p).2)).size ≤ s.size
          have hz : (s.extract p (p + (Utf8.decode s p).2)).size ≤ s.size := by rw [ByteArray.size_extract]; omega
          exact ⟨again_sign hp hg h4.2, hz, by show (0 : Int).natAbs ≤ _; decide, hz⟩
        · rw [if_neg h4] at hc; simp [bad] at hc

/-- A token that is read again where it is spelled has that text. -/
theorem text_of_again {k n : Int} {t : ByteArray} (h : Again k n t (spellT k n t)) (hs : (spellT k n t).size ≤ 2000) : tokText k n t = spellT k n t := by
  obtain ⟨x, hx⟩ : ∃ x, spellT k n t = x := ⟨_, rfl⟩
  unfold tokText
  rw [hx] at h hs ⊢
  have hp := h.pos
  obtain ⟨h1, h2, h3⟩ := h.reads x 0 (Bs.self x) (.inl (by omega))
  have hl : lexT x = ([⟨k, n, t, 0⟩], 0, 0) := by
    unfold lexT
    rw [if_neg (by omega), lexR, if_pos ⟨hp, h2⟩, if_neg h3, h1]
    show (if (0 : Int) ≠ 0 then _ else lexR x x.size (0 + x.size) ([] ++ [⟨k, n, t, 0⟩])) = _
    rw [if_neg (by decide), lex_stop (by omega)]
    rfl
  rw [hl, if_pos (by unfold backB; simp)]

/-- The texts of some tokens, a blank behind each. -/
def joinT (ts : List Tok) : List UInt8 := ts.flatMap fun y => (tokText y.k y.n y.t).data.toList ++ [32]

/-- A token of a line. -/
def Proper (y : Tok) : Prop := Again y.k y.n y.t (spellT y.k y.n y.t) ∧ tokText y.k y.n y.t = spellT y.k y.n y.t

theorem lex_joined {T : ByteArray} : ∀ (ts : List Tok) (F i : Nat) (acc : List Tok), (∀ y ∈ ts, Proper y) → Bs T i (joinT ts) → i + (joinT ts).length = T.size → T.size - i < F →
    ∃ more, lexR T F i acc = (acc ++ more, 0, 0) ∧ more.map (fun y => (y.k, y.n, y.t)) = ts.map (fun y => (y.k, y.n, y.t))
  | [], F, i, acc, _, hb, hz, hF => by
    have : i = T.size := by simpa [joinT] using hz
    exact ⟨[], by rw [lex_stop (by omega)]; simp, rfl⟩
  | y :: r, F, i, acc, hp, hb, hz, hF => by
    obtain ⟨ha, ht⟩ := hp y (by simp)
    obtain ⟨x, hx⟩ : ∃ x, spellT y.k y.n y.t = x := ⟨_, rfl⟩
    rw [hx] at ha ht
    have hj : joinT (y :: r) = x.data.toList ++ ([32] ++ joinT r) := by unfold joinT; rw [List.flatMap_cons, ht, List.append_assoc]
    rw [hj] at hb hz
    have hpos := ha.pos
    have hxl : x.data.toList.length = x.size := by rw [← Lib.size_eq]
    rw [List.length_append, List.length_append, hxl] at hz
    simp only [List.length_cons, List.length_nil] at hz
    have h32 := hb.right.left.eq 0 (by simp)
    rw [hxl, Nat.add_zero] at h32
    have h32' : bt T (i + x.size) = 32 := by simpa using h32
    have hrest := hb.right.right
    rw [hxl] at hrest
    simp only [List.length_cons, List.length_nil] at hrest
    obtain ⟨h1, h2, h3⟩ := ha.reads T i hb.left (nx_blank _ (by omega) h32')
    have hrm : remark T (i + x.size) = false := by unfold remark; exact decide_eq_false fun hh => by omega
    obtain ⟨more, hm, he⟩ := lex_joined r (F - 1 - 1) (i + x.size + 1) (acc ++ [⟨y.k, y.n, y.t, i⟩]) (fun z hz => hp z (by simp [hz])) (by simpa using hrest) (by omega) (by omega)
    refine ⟨⟨y.k, y.n, y.t, i⟩ :: more, ?_, by rw [List.map_cons, List.map_cons, he]⟩
    rw [lex_tok hF ⟨by omega, h2⟩ h3 (by rw [h1]), h1]
    show lexR T (F - 1) (i + x.size) (acc ++ [⟨y.k, y.n, y.t, i⟩]) = _
    rw [lex_blank (by omega) ⟨by omega, hrm⟩ (.inl h32'), hm, List.append_assoc]
    rfl

/-- The tokens of a line are read again where they are written one behind the other. -/
theorem relex {s : ByteArray} (hc : (lexT s).2.1 = 0) : (∀ y ∈ (lexT s).1, Proper y ∧ y.n.natAbs ≤ 1000000000000000 ∧ y.t.size ≤ 2000) ∧
    ((joinT (lexT s).1).length ≤ 2000 → (lexT ⟨(joinT (lexT s).1).toArray⟩).2.1 = 0 ∧ (lexT ⟨(joinT (lexT s).1).toArray⟩).1.map (fun y => (y.k, y.n, y.t)) = (lexT s).1.map (fun y => (y.k, y.n, y.t))) := by
  unfold lexT at hc
  by_cases hs : 2000 < s.size
  · rw [if_pos hs] at hc; exact absurd hc (by decide)
  · rw [if_neg hs] at hc
    have hl : lexT s = lexR s (s.size + 1) 0 [] := by unfold lexT; rw [if_neg hs]
    obtain ⟨more, hm, hx⟩ := lexR_pre (s := s) (s.size + 1) 0 [] (Nat.zero_le _) hc
    rw [List.nil_append] at hm
    rw [hl, hm]
    have hall : ∀ y ∈ more, Proper y ∧ y.n.natAbs ≤ 1000000000000000 ∧ y.t.size ≤ 2000 := by
      intro y hy
      obtain ⟨h1, h2, h3⟩ := hx y hy
      obtain ⟨g1, g2, g3, g4⟩ := tok_again h1 h2
      have ek : (tokAt s y.p).k = y.k := (congrArg Tok.k h3).symm
      have en : (tokAt s y.p).n = y.n := (congrArg Tok.n h3).symm
      have et : (tokAt s y.p).t = y.t := (congrArg Tok.t h3).symm
      rw [ek, en, et] at g1 g2
      rw [en] at g3
      rw [et] at g4
      exact ⟨⟨g1, text_of_again g1 (by omega)⟩, g3, by omega⟩
    refine ⟨hall, fun hj => ?_⟩
    have hT : (ByteArray.mk (joinT more).toArray).size = (joinT more).length := by show (joinT more).toArray.size = _; rw [List.size_toArray]
    have hb := Bs.self (ByteArray.mk (joinT more).toArray)
    obtain ⟨m2, h1, h2⟩ := lex_joined (T := ⟨(joinT more).toArray⟩) more ((ByteArray.mk (joinT more).toArray).size + 1) 0 [] (fun y hy => (hall y hy).1) hb (by omega) (by omega)
    have hl2 : lexT ⟨(joinT more).toArray⟩ = ([] ++ m2, 0, 0) := by unfold lexT; rw [if_neg (by omega)]; exact h1
    rw [hl2]
    exact ⟨rfl, h2⟩

end Go.Proofs.YtinndpnilmmmjaaGreatDoor
