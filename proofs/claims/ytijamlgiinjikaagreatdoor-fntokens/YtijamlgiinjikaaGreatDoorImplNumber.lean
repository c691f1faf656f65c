import Derived.Test.YtijamlgiinjikaaGreatDoorMFit0
import Derived.Test.YtijamlgiinjikaaGreatDoorMFit1
import Derived.Test.YtijamlgiinjikaaGreatDoorMFit1
import Derived.Test.YtijamlgiinjikaaGreatDoorMFit1
import Derived.Test.YtijamlgiinjikaaGreatDoorMFit1
import Derived.Test.YtijamlgiinjikaaGreatDoorMFit1
import Derived.Test.YtijamlgiinjikaaGreatDoorMFit1
import Derived.Test.YtijamlgiinjikaaGreatDoorMFit1
import Derived.Test.YtijamlgiinjikaaGreatDoorTextDefs
namespace Go.Proofs.YtijamlgiinjikaaGreatDoor
open Go.RowKit

/-- What a reader gives, of what stands at a place. -/
def readG (g : Got) (i : Nat) : Value := readV g.k g.n g.t (g.e - i) g.c

theorem readNumber_any (s : ByteArray) (i : Nat) (w : World) (hi : i < s.size) (hs : s.size ≤ 17592186044416) (hR : RangeAt w) :
    Calls Tryz.prog 30 #[.string (s.extract i s.size)] w fun e w' => e = .returned (readG (numTok s i) i) ∧ Below w.heap.size w w' := by
  have hts : (s.extract i s.size).size = s.size - i := tail_size s i
  obtain ⟨H, hH⟩ : ∃ H, high s i = H := ⟨_, rfl⟩
  have hHt : high (s.extract i s.size) 0 = H := by rw [tail_high (by omega)]; exact hH
  obtain ⟨f, hf⟩ : ∃ f, (if high s i = true then i + 2 else i) = f := ⟨_, rfl⟩
  have hfi : i ≤ f := by rw [← hf]; split <;> omega
  have hfs : f ≤ s.size := by
    rw [← hf]
    split
    · rename_i h
      have := of_decide_eq_true h
      omega
    · omega
  have hd : (if H = true then (s.extract i s.size).extract 2 (s.extract i s.size).size else s.extract i s.size) = s.extract f s.size := by
    rw [← hf, hH]
    by_cases h : H = true
    · rw [if_pos h, if_pos h, tail_tail]
    · rw [if_neg h, if_neg h]
  obtain ⟨e, he⟩ : ∃ e, endOf isD s f = e := ⟨_, rfl⟩
  have hfe : f ≤ e := by rw [← he]; exact endOf_ge _ _ _
  have hes : e ≤ s.size := by rw [← he]; exact endOf_le _ _ _ hfs
  have hc : stretchN isD (s.extract f s.size) = e - f := by
    have := stretch_tail (p := isD) isD_small (s := s) (i := f) hfs
    omega
  have hr : (s.extract f s.size).extract (e - f) (s.extract f s.size).size = s.extract e s.size := by
    rw [tail_tail, show f + (e - f) = e by omega]
  obtain ⟨l, hl⟩ : ∃ l, stretchN isL (s.extract e s.size) = l := ⟨_, rfl⟩
  have hl2 : l + e = endOf isL s e := by rw [← hl]; exact stretch_tail isL_small hes
  have hlp : 0 < l ↔ e < s.size ∧ isL (bt s e) = true := by
    by_cases h : e < s.size ∧ isL (bt s e) = true
    · rw [endOf_go h.1 h.2] at hl2
      have := endOf_ge isL s (e + 1)
      exact ⟨fun _ => h, fun _ => by omega⟩
    · rw [endOf_stop h] at hl2
      exact ⟨fun h1 => by omega, fun h1 => absurd h1 h⟩
  have hhr : high (s.extract e s.size) 0 = high s e := tail_high hes
  have hrs : (s.extract e s.size).size = s.size - e := tail_size s e
  have hsz : (s.extract i s.size).size ≤ 17592186044416 := by omega
  by_cases hb : e = f ∨ (e < s.size ∧ isL (bt s e) = true) ∨ high s e = true
  · rw [numTok_bad hf he hb]
    show Calls _ _ _ _ fun e w' => e = .returned (readV 0 0 ⟨#[]⟩ (0 - i) 1) ∧ _
    rw [Nat.zero_sub]
    by_cases h0 : e = f
    · exact readNumber_zero _ _ _ _ H _ l w hHt hd hc hr rfl hl hsz (by omega)
    · by_cases h1 : 0 < l
      · exact readNumber_letter _ _ _ _ H _ l w hHt hd hc hr rfl hl hsz (by omega) h1
      · refine readNumber_mark _ _ _ _ H _ l w hHt hd hc hr rfl hl hsz (by omega) (by omega) ?_
        rw [hhr]
        rcases hb with hb | hb | hb
        · exact absurd hb h0
        · exact absurd (hlp.2 hb) h1
        · exact hb
  · have h0 : e ≠ f := fun h => hb (Or.inl h)
    have h1 : l = 0 := by
      by_cases h : 0 < l
      · exact absurd (Or.inr (Or.inl (hlp.1 h))) hb
      · omega
    have h2 : high (s.extract e s.size) 0 = false := by
      rw [hhr]
      cases h : high s e with
      | true => exact absurd (Or.inr (Or.inr h)) hb
      | false => rfl
    have hcd : e - f ≤ (s.extract f s.size).size := by rw [tail_size]; omega
    have hxl : ((s.extract f s.size).extract 0 (e - f)).data.toList = (s.extract f s.size).data.toList.take (e - f) := take_data _ _
    have hdv : dv 0 ((s.extract f s.size).extract 0 (e - f)).data.toList = decV s f (e - f) := by
      rw [hxl, dv_take _ _ hcd, tail_decV _ (by omega), Nat.add_zero]
    have hne : ((s.extract f s.size).extract 0 (e - f)).data.toList ≠ [] := by
      intro h
      have h3 := congrArg List.length h
      rw [hxl, List.length_take, ← Lib.size_eq, tail_size] at h3
      simp only [List.length_nil] at h3
      omega
    have hdg : ∀ c ∈ ((s.extract f s.size).extract 0 (e - f)).data.toList, isD c.toNat = true := by
      intro c hcm
      rw [hxl] at hcm
      obtain ⟨j, hj, rfl⟩ := List.mem_iff_getElem.1 hcm
      rw [List.length_take, ← Lib.size_eq, tail_size] at hj
      have hj2 : j < (s.extract f s.size).size := by rw [tail_size]; omega
      have hb2 : bt (s.extract f s.size) j = ((s.extract f s.size).data.toList[j]'(by rw [← Lib.size_eq]; exact hj2)).toNat := by
        rw [bt_data hj2, List.getD_eq_getElem?_getD, List.getElem?_eq_getElem (by rw [← Lib.size_eq]; exact hj2)]
        rfl
      rw [List.getElem_take, ← hb2, tail_bt (by omega)]
      exact (endOf_in (p := isD) (s := s) (i := f) (by omega) (by rw [he]; omega)).2
    have hA := atoi_digits _ hne hdg
    rw [hdv] at hA
    by_cases hv : 1000000000000000 < decV s f (e - f)
    · rw [numTok_big hf he hb hv]
      show Calls _ _ _ _ fun e w' => e = .returned (readV 0 0 ⟨#[]⟩ (0 - i) 7) ∧ _
      rw [Nat.zero_sub]
      rcases hA with hA | ⟨hA, -⟩
      · exact readNumber_big _ _ _ _ H _ l _ w hHt hd hc hr rfl hl hsz (by omega) h1 h2 hA hv
      · exact readNumber_range _ _ _ _ H _ l w hHt hd hc hr rfl hl hsz (by omega) h1 h2 hA hR
    · rw [numTok_ok hf he hb hv]
      have hA' : Lib.atoiAll ((s.extract f s.size).extract 0 (e - f)).data.toList = .ok ((decV s f (e - f) : Nat) : Int) := by
        rcases hA with hA | ⟨-, hA⟩
        · exact hA
        · omega
      have hwd : e - i = (s.extract i s.size).size - (s.extract e s.size).size := by rw [hts, hrs]; omega
      cases hh : H with
      | true =>
        rw [hH, hh, if_pos rfl]
        show Calls _ _ _ _ fun q w' => q = .returned (readV 1 (-(decV s f (e - f) : Int)) ⟨#[]⟩ (e - i) 0) ∧ _
        rw [hwd]
        exact readNumber_neg _ _ _ _ H _ l _ w hHt hd hc hr rfl hl hsz (by omega) h1 h2 hA' (by omega) hh
      | false =>
        rw [hH, hh, if_neg (by decide)]
        show Calls _ _ _ _ fun q w' => q = .returned (readV 1 (decV s f (e - f) : Int) ⟨#[]⟩ (e - i) 0) ∧ _
        rw [hwd]
        exact readNumber_ok _ _ _ _ H _ l _ w hHt hd hc hr rfl hl hsz (by omega) h1 h2 hA' (by omega) hh

/-- A name, at a place. -/
theorem readName_at (s : ByteArray) (i : Nat) (w : World) (hi : i < s.size) (hs : s.size ≤ 17592186044416) :
    Calls Tryz.prog 33 #[.string (s.extract i s.size)] w fun e w' => e = .returned (readG (if 20 < endOf isLD s i - i then bad 1 else ⟨3, 0, s.extract i (endOf isLD s i), endOf isLD s i, 0⟩) i) ∧ Below w.heap.size w w' := by
  have h := readName_any (s.extract i s.size) w (by rw [tail_size]; omega)
  have hst := stretch_tail (p := isLD) isLD_small (s := s) (i := i) (by omega)
  have hc : stretchN isLD (s.extract i s.size) = endOf isLD s i - i := by omega
  have hle := endOf_le isLD s i (by omega)
  rw [hc] at h
  have hx : (s.extract i s.size).extract 0 (endOf isLD s i - i) = s.extract i (endOf isLD s i) := by
    refine ByteArray.ext (Array.toList_inj.1 ?_)
    rw [take_data, tail_list, sub_list]
  rw [hx] at h
  by_cases h20 : 20 < endOf isLD s i - i
  · rw [if_pos h20] at h ⊢
    show Calls _ _ _ _ fun e w' => e = .returned (readV 0 0 ⟨#[]⟩ (0 - i) 1) ∧ _
    rw [Nat.zero_sub]
    exact h
  · rw [if_neg h20] at h ⊢
    exact h

end Go.Proofs.YtijamlgiinjikaaGreatDoor
