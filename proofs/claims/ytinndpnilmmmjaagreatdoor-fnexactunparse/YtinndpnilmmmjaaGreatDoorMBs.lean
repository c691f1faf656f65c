import Derived.OrdersHeld
import Derived.RegionTactic
import Derived.WalkKit
import Derived.Test.YtinndpnilmmmjaaGreatDoorMCv
import Derived.Laws.IdiomStrings
namespace Go.Proofs.YtinndpnilmmmjaaGreatDoor
open Go

section
variable {P : Program} {ops : Array Oper} {Q : Exit → Act → World → Prop} {md : Region.Mode} {S : World → Prop} {st : Nat}

/-- Whatever order is picked from here on, and S holds behind every operation but number st. -/
def wpAnyL (P : Program) (md : Region.Mode) (ops : Array Oper) (Q : Exit → Act → World → Prop) (S : World → Prop) (st : Nat) : Nat → Array Bool → Act → World → Prop
  | 0, listed, a, w => Region.ready md ops listed = [] ∧ Q .normal a w
  | fuel + 1, listed, a, w =>
    (Region.ready md ops listed = [] → Q .normal a w) ∧
    ∀ i ∈ Region.ready md ops listed, wpOp P ops Q i (fun a' w' => (i ≠ st → S w') ∧ wpAnyL P md ops Q S st fuel (listed.setIfInBounds i true) a' w') a w

theorem wpAny_of_L : ∀ (fuel : Nat) (listed : Array Bool) (a : Act) (w : World), wpAnyL P md ops Q S st fuel listed a w → wpAny P md ops Q fuel listed a w
  | 0, _, _, _, h => h
  | fuel + 1, _, _, _, h => ⟨h.1, fun i hi => wpOp_mono (fun a' w' h' => wpAny_of_L fuel _ a' w' h'.2) (h.2 i hi)⟩

/-- Operation st waits for operation i. -/
def waitsFor (md : Region.Mode) (ops : Array Oper) (st i : Nat) : Bool := ((ops[st]?).map (·.after.any fun e => Region.binds md e && e.on == i)).getD false

theorem waits_not {i : Nat} {listed : Array Bool} (hw : waitsFor md ops st i = true) (hi : listed.getD i true = false) : st ∉ Region.ready md ops listed := by
  intro hst
  obtain ⟨_, o, ho, hall⟩ := mem_ready.1 hst
  unfold waitsFor at hw
  rw [ho] at hw
  simp only [Option.map_some, Option.getD_some, Array.any_eq_true'] at hw
  obtain ⟨e, he, hb⟩ := hw
  simp only [Bool.and_eq_true, beq_iff_eq] at hb
  have h1 := hall e he hb.1
  rw [hb.2] at h1
  rcases Nat.lt_or_ge i listed.size with h' | h'
  · simp [h'] at hi h1; rw [hi] at h1; cases h1
  · simp [Array.getElem?_eq_none h'] at h1

theorem wpAnyL_first {i : Nat} {oi : Oper} {v : Value} (hi : ops[i]? = some oi) (hsel : ∀ (j : Nat) (o : Oper) cs b, ops[j]? = some o → o.op ≠ .select cs b)
    (hQ : ∀ c a w, Q (.panic c) (a.put oi.dst v) w → Q (.panic c) a w) (hw : waitsFor md ops st i = true) :
    ∀ (fuel : Nat) (listed : Array Bool) (a : Act) (w : World),
      (∀ j oj, ops[j]? = some oj → j ≠ i → listed.getD j true = false → (∀ e ∈ oj.after, Region.binds md e = true → e.on ≠ i) → oi.apart ops oj = true) →
      i ∈ Region.ready md ops listed → YieldsIf P ops S oi v a → S w →
      wpAnyL P md ops Q S st fuel (listed.setIfInBounds i true) (a.put oi.dst v) w → wpAnyL P md ops Q S st (fuel + 1) listed a w := by
  intro fuel
  induction fuel with
  | zero =>
    intro listed a w _ hr hy hS H
    refine ⟨fun h => (by rw [h] at hr; cases hr), fun j hj => ?_⟩
    by_cases hji : j = i
    · subst hji; exact hy.wpOp hi hS ⟨fun _ => hS, H⟩
    · have := ready_mono hj hji
      rw [H.1] at this
      cases this
  | succ fuel ih =>
    intro listed a w hfree hr hy hS H
    refine ⟨fun h => (by rw [h] at hr; cases hr), fun j hj => ?_⟩
    by_cases hji : j = i
    · subst hji; exact hy.wpOp hi hS ⟨fun _ => hS, H⟩
    · have h1 := H.2 j (ready_mono hj hji)
      have hjst : j ≠ st := fun e => waits_not hw (mem_ready.1 hr).1 (e ▸ hj)
      obtain ⟨hjun, oj, hoj, hall⟩ := mem_ready.1 hj
      have hnot : ∀ e ∈ oj.after, Region.binds md e = true → e.on ≠ i := fun e he hb heq => by
        have h1 := hall e he hb
        have h0 := (mem_ready.1 hr).1
        rw [heq] at h1
        rcases Nat.lt_or_ge i listed.size with h' | h'
        · simp [h'] at h0 h1; rw [h0] at h1; cases h1
        · simp [Array.getElem?_eq_none h'] at h1
      have h2 := wpOp_putIf hoj (hfree j oj hoj hji hjun hnot) (fun cs b => hsel i oi cs b hi) (fun cs b => hsel j oj cs b hoj) hQ hy h1
      have hfree' : ∀ k ok, ops[k]? = some ok → k ≠ i → (listed.setIfInBounds j true).getD k true = false →
          (∀ e ∈ ok.after, Region.binds md e = true → e.on ≠ i) → oi.apart ops ok = true := fun k ok hk hki hun hno => by
        refine hfree k ok hk hki ?_ hno
        by_cases hjk : j = k
        · subst hjk; exact hjun
        · rw [getD_set_ne true hjk] at hun; exact hun
      refine wpOp_mono (fun a' w' h3 => ⟨h3.2.1, ih (listed.setIfInBounds j true) a' w' hfree' (ready_mono hr (Ne.symm hji)) h3.1 (h3.2.1 hjst) ?_⟩) h2
      rw [Array.setIfInBounds_comm _ _ hji]
      exact h3.2.2

/-- Take number i first. -/
theorem wpAnyL_take {i : Nat} {oi : Oper} {v : Value} {fuel : Nat} {listed : Array Bool} {a : Act} {w : World} (hi : ops[i]? = some oi)
    (hs : Region.noSelect ops = true) (hf : Region.free md ops listed i = true) (hr : (Region.ready md ops listed).contains i = true) (hw : waitsFor md ops st i = true)
    (hQ : ∀ c a w, Q (.panic c) (a.put oi.dst v) w → Q (.panic c) a w) (hy : YieldsIf P ops S oi v a) (hS : S w)
    (h : wpAnyL P md ops Q S st fuel (listed.setIfInBounds i true) (a.put oi.dst v) w) : wpAnyL P md ops Q S st (fuel + 1) listed a w :=
  wpAnyL_first hi (Region.noSelect_spec hs) hQ hw fuel listed a w (Region.free_spec hi hf) (by simpa using hr) hy hS h

/-- Take number i first, its value into slot d. -/
theorem wpAnyL_put (i d : Nat) (v : Value) {oi : Oper} {fuel : Nat} {listed : Array Bool} {a : Act} {w : World} (hi : ops[i]? = some oi) (hd : oi.dst = some d)
    (hs : Region.noSelect ops = true) (hf : Region.free md ops listed i = true) (hr : (Region.ready md ops listed).contains i = true) (hw : waitsFor md ops st i = true)
    (hQ : ∀ c a (d : Nat) v w, Q (.panic c) (a.put (some d) v) w → Q (.panic c) a w) (hg : Region.wanted oi (yielded ops a.tmps) = true) (hy : ∀ w, S w → (execOp a.eval oi).run P w = .ok (.value v) w) (hS : S w)
    (h : wpAnyL P md ops Q S st fuel (listed.setIfInBounds i true) (a.put (some d) v) w) : wpAnyL P md ops Q S st (fuel + 1) listed a w :=
  wpAnyL_take hi hs hf hr hw (fun c a w h => by rw [hd] at h; exact hQ c a d v w h) (Or.inl ⟨hg, hy⟩) hS (by rw [hd]; exact h)

/-- One alone may come up. -/
theorem wpAnyL_one {i : Nat} {fuel : Nat} {listed : Array Bool} {a : Act} {w : World} (hr : Region.ready md ops listed = [i])
    (h : wpOp P ops Q i (fun a' w' => (i ≠ st → S w') ∧ wpAnyL P md ops Q S st fuel (listed.setIfInBounds i true) a' w') a w) : wpAnyL P md ops Q S st (fuel + 1) listed a w :=
  ⟨fun h0 => (by rw [hr] at h0; cases h0), fun j hj => (by rw [hr] at hj; simp at hj; subst hj; exact h)⟩

theorem wpAnyL_done {listed : Array Bool} {a : Act} {w : World} (hr : Region.ready md ops listed = []) (h : Q .normal a w) : ∀ fuel, wpAnyL P md ops Q S st fuel listed a w
  | 0 => ⟨hr, h⟩
  | _ + 1 => ⟨fun _ => h, by rw [hr]; simp⟩

theorem wp_region_L {id : Nat} {a : Act} {w : World} (S : World → Prop) (st : Nat) (hm : P.follows .mixedOrders = true)
    (h : wpAnyL P .any ops Q S st ops.size (Array.replicate ops.size false) a { w with drawn := w.drawn + 1 }) : (Code.region id ops true).wp P Q a w :=
  wp_region_any hm (wpAny_of_L _ _ _ _ h)

theorem op_wp {K : Act → World → Prop} {a : Act} {w : World} {i : Nat} {o : Oper} (hi : ops[i]? = some o) (hg : Region.wanted o (yielded ops a.tmps) = true) (h : o.wp P a w K Q) : wpOp P ops Q i K a w := by
  unfold wpOp
  rw [hi]
  show if Region.wanted o (yielded ops a.tmps) = true then _ else _
  rw [if_pos hg]
  exact .inl h

theorem eval_ne {a : Act} {d e : Nat} {v : Value} (h : d ≠ e) : (a.put (some d) v).eval (.tmp e) = a.eval (.tmp e) :=
  Act.eval_put (dst := some d) (x := .tmp e) (by simp; exact fun hy => h hy.symm)

theorem eval_eq {a : Act} {d : Nat} {v : Value} (h : d < a.tmps.size) : (a.put (some d) v).eval (.tmp d) = v := by
  simp [Act.eval, Act.put, h]

theorem put_size {a : Act} {d : Nat} {v : Value} : (a.put (some d) v).tmps.size = a.tmps.size := by simp [Act.put]
end

end Go.Proofs.YtinndpnilmmmjaaGreatDoor
namespace Go.Proofs.YtinndpnilmmmjaaGreatDoor
open Go.RowKit

/-- Bytes as a string. -/
def bstr (l : List Int) : ByteArray := ⟨(l.map fun x => x.toNat.toUInt8).toArray⟩

theorem bstr_nil : bstr [] = ⟨#[]⟩ := rfl
theorem bstr_app (l m : List Int) : bstr l ++ bstr m = bstr (l ++ m) := by
  unfold bstr
  rw [List.map_append]
  apply ByteArray.ext
  simp

theorem bstr_size (l : List Int) : (bstr l).size = l.length := by simp [bstr, ByteArray.size]

/-- 'string([]byte{a})' of a byte laid anew. -/
theorem conv_one (w : World) (a : Nat) (ha : a < 256) : (convert 33 9 (.slice (some ⟨w.heap.size, 0, none⟩) 1 1)).run Tryz.prog (w.alloc (.cells #[.int .u8 (a : Nat)] 5)) = .ok (.string (bstr [(a : Int)])) (w.alloc (.cells #[.int .u8 (a : Nat)] 5)) := by
  have h := run_convert_bytes_back (P := Tryz.prog) (w.alloc (.cells #[.int .u8 (a : Nat)] 5)) 33 9 5 ⟨w.heap.size, 0, none⟩ 1 [a.toUInt8] Tryz.underlying33 Tryz.underlying5 Tryz.underlying9 (fun j hj => by
    have hj0 : j = 0 := by simp at hj; exact hj
    subst hj0
    have hr := RowB.new w [(a : Int)]
    rcases hr.at_ with h0 | ⟨b, off, e, _, hc⟩
    · simp at h0
    · cases e
      have h1 := hc 0 (by simp)
      have h2 : (⟨w.heap.size, 0, none⟩ : Addr).add 0 = ⟨w.heap.size, 0 + 0, none⟩ := by simp [Addr.add]
      rw [h2]
      refine Eq.trans h1 ?_
      simp [Nat.mod_eq_of_lt ha])
  exact h

end Go.Proofs.YtinndpnilmmmjaaGreatDoor
namespace Go.Proofs.YtinndpnilmmmjaaGreatDoor
open Go

theorem bstr_uz (l : List UInt8) : bstr (uz l) = ⟨l.toArray⟩ := by
  unfold bstr uz
  congr 2
  rw [List.map_map]
  conv => rhs; rw [← List.map_id l]
  refine List.map_congr_left fun b _ => ?_
  show Nat.toUInt8 (Int.toNat (b.toNat : Int)) = b
  rw [Int.toNat_natCast]
  exact UInt8.ofNat_toNat

theorem bstr_inj {l m : List Int} (hl : ∀ x ∈ l, 0 ≤ x ∧ x < 256) (hm : ∀ x ∈ m, 0 ≤ x ∧ x < 256) (h : bstr l = bstr m) : l = m := by
  have back : ∀ {l : List Int}, (∀ x ∈ l, 0 ≤ x ∧ x < 256) → uz (bstr l).data.toList = l := fun {l} hl => by
    unfold uz bstr
    rw [List.map_map]
    conv => rhs; rw [← List.map_id l]
    refine List.map_congr_left fun x hx => ?_
    have := hl x hx
    show (((x.toNat.toUInt8).toNat : Nat) : Int) = x
    rw [show x.toNat.toUInt8 = UInt8.ofNat x.toNat from rfl, UInt8.toNat_ofNat_of_lt' (by simp [UInt8.size]; omega)]
    omega
  rw [← back hl, ← back hm, h]

/-- The bytes of a character are those of its number. -/
theorem rune_bytes {s : ByteArray} {i : Nat} (h : i < s.size) (hn : 0 < (runeAt s i).2) : uz (s.extract i (i + (runeAt s i).2)).data.toList = encZ ((runeAt s i).1 : Nat) := by
  have hb := bt_lt s i
  have hl : i < s.data.toList.length := by rw [← Lib.size_eq]; exact h
  have e0 := bt_data h
  rw [sub_list]
  by_cases h1 : bt s i < 128
  · rw [rune_ascii h1]
    simp only
    rw [show i + 1 - i = 0 + 1 by omega, take_cons hl]
    simp only [uz, List.take_zero, List.map_cons, List.map_nil, ← e0]
    unfold encZ
    rw [if_pos (by omega)]
  · by_cases h2 : bt s i < 192 ∨ 248 ≤ bt s i
    · rw [rune_0 (by omega) h2] at hn; simp at hn
    · by_cases h3 : bt s i < 224
      · have hr := rune_2 (by omega) h3
        by_cases hc : tl s (i + 1) = true ∧ 128 ≤ v2 s i
        · rw [if_pos hc] at hr
          have t1 := tl_bd hc.1
          have hl1 : i + 1 < s.data.toList.length := by rw [← Lib.size_eq]; exact t1.1
          have e1 := bt_data t1.1
          rw [hr]
          simp only
          rw [show i + 2 - i = 0 + 1 + 1 by omega, take_cons hl, take_cons hl1]
          simp only [uz, List.take_zero, List.map_cons, List.map_nil, ← e0, ← e1]
          have hv : v2 s i = bt s i % 32 * 64 + bt s (i + 1) % 64 := rfl
          have hlt : v2 s i < 2048 := by omega
          unfold encZ
          rw [if_neg (by omega), if_pos (by omega)]
          congr 1
          · omega
          · congr 1; omega
        · rw [if_neg hc] at hr; rw [hr] at hn; simp at hn
      · by_cases h4 : bt s i < 240
        · have hr := rune_3 (by omega) h4
          by_cases hc : tl s (i + 1) = true ∧ tl s (i + 2) = true ∧ 2048 ≤ v3 s i ∧ Utf8.valid (v3 s i : Nat) = true
          · rw [if_pos hc] at hr
            have t1 := tl_bd hc.1
            have t2 := tl_bd hc.2.1
            have hl1 : i + 1 < s.data.toList.length := by rw [← Lib.size_eq]; exact t1.1
            have hl2 : i + 1 + 1 < s.data.toList.length := by rw [← Lib.size_eq]; exact t2.1
            have e1 := bt_data t1.1
            have e2 := bt_data t2.1
            rw [hr]
            simp only
            rw [show i + 3 - i = 0 + 1 + 1 + 1 by omega, take_cons hl, take_cons hl1, take_cons hl2]
            simp only [uz, List.take_zero, List.map_cons, List.map_nil, ← e0, ← e1, show i + 1 + 1 = i + 2 from rfl, ← e2]
            have hv : v3 s i = bt s i % 16 * 4096 + bt s (i + 1) % 64 * 64 + bt s (i + 2) % 64 := rfl
            have hlt : v3 s i < 65536 := by omega
            have hge := hc.2.2.1
            unfold encZ
            rw [if_neg (by omega), if_neg (by omega), if_pos (by omega)]
            congr 1
            · omega
            · congr 1
              · omega
              · congr 1; omega
          · rw [if_neg hc] at hr; rw [hr] at hn; simp at hn
        · have hr := rune_4 (by omega) (show bt s i < 248 by omega)
          by_cases hc : tl s (i + 1) = true ∧ tl s (i + 2) = true ∧ tl s (i + 3) = true ∧ 65536 ≤ v4 s i ∧ Utf8.valid (v4 s i : Nat) = true
          · rw [if_pos hc] at hr
            have t1 := tl_bd hc.1
            have t2 := tl_bd hc.2.1
            have t3 := tl_bd hc.2.2.1
            have hl1 : i + 1 < s.data.toList.length := by rw [← Lib.size_eq]; exact t1.1
            have hl2 : i + 1 + 1 < s.data.toList.length := by rw [← Lib.size_eq]; exact t2.1
            have hl3 : i + 1 + 1 + 1 < s.data.toList.length := by rw [← Lib.size_eq]; exact t3.1
            have e1 := bt_data t1.1
            have e2 := bt_data t2.1
            have e3 := bt_data t3.1
            rw [hr]
            simp only
            rw [show i + 4 - i = 0 + 1 + 1 + 1 + 1 by omega, take_cons hl, take_cons hl1, take_cons hl2, take_cons hl3]
            simp only [uz, List.take_zero, List.map_cons, List.map_nil, ← e0, ← e1, show i + 1 + 1 = i + 2 from rfl, ← e2, show i + 2 + 1 = i + 3 from rfl, ← e3]
            have hv : v4 s i = bt s i % 8 * 262144 + bt s (i + 1) % 64 * 4096 + bt s (i + 2) % 64 * 64 + bt s (i + 3) % 64 := rfl
            have hge := hc.2.2.2.1
            unfold encZ
            rw [if_neg (by omega), if_neg (by omega), if_neg (by omega)]
            congr 1
            · omega
            · congr 1
              · omega
              · congr 1
                · omega
                · congr 1; omega
          · rw [if_neg hc] at hr; rw [hr] at hn; simp at hn

theorem encZ_byte {v : Nat} (h : v ≤ 2097151) : ∀ x ∈ encZ (v : Int), 0 ≤ x ∧ x < 256 := by
  unfold encZ
  intro x hx
  repeat' split at hx
  all_goals simp at hx
  all_goals omega

theorem encZ_inj {v u : Nat} (hv : v ≤ 2097151) (hu : u ≤ 2097151) (h : encZ (v : Int) = encZ (u : Int)) : v = u := by
  unfold encZ at h
  repeat' split at h
  all_goals simp at h
  all_goals omega

end Go.Proofs.YtinndpnilmmmjaaGreatDoor
namespace Go.Proofs.YtinndpnilmmmjaaGreatDoor
open Go.RowKit

/-- All signs, with a blank behind each. -/
def signS : ByteArray := ⟨(signCs.flatMap fun c => ((encZ (c : Nat)).map fun x => x.toNat.toUInt8) ++ [32]).toArray⟩

set_option maxRecDepth 100000 in
theorem l1Signs_any (w : World) : Calls Tryz.prog 142 #[] w fun e w' => e = .returned (.string signS) ∧ w' = w := by
  have hs : ∀ x : ByteArray, x = signS → Ending.returned (.string x) = .returned (.string signS) := fun x h => by rw [h]
  go_enter Tryz.func142, Tryz.ntmps142
  go_wp2
  go_ret
  exact ⟨hs _ (by kernel_rfl), rfl⟩

/-- The pieces that blanks end, behind k bytes: where the next begins, and those that are there. -/
def pcN (s : ByteArray) : Nat → Nat × List ByteArray
  | 0 => (0, [])
  | k + 1 => if bt s k = 32 then (k + 1, (pcN s k).2 ++ [s.extract (pcN s k).1 k]) else pcN s k

theorem pcN_le (s : ByteArray) : ∀ k, (pcN s k).1 ≤ k ∧ (pcN s k).2.length ≤ k
  | 0 => by simp [pcN]
  | k + 1 => by
    have ih := pcN_le s k
    rw [pcN]
    split
    · simp; omega
    · omega

/-- The slice (a, n, _) reads as these texts. -/
structure RowS (w : World) (a : Option Addr) (n : Nat) (ps : List ByteArray) : Prop where
  len : ps.length = n
  at_ : n = 0 ∨ ∃ b off, a = some ⟨b, off, none⟩ ∧ b < w.heap.size ∧ ∀ i, i < n → w.cell? ⟨b, off + i, none⟩ = some (.string (ps.getD i ⟨#[]⟩))

theorem RowS.below {w w' : World} {a : Option Addr} {n : Nat} {ps : List ByteArray} {B : Nat} (h : RowS w a n ps) (hB : w.heap.size ≤ B) (hb : Below B w w') : RowS w' a n ps := by
  refine ⟨h.len, ?_⟩
  rcases h.at_ with h0 | ⟨b, off, rfl, hlt, hc⟩
  · exact .inl h0
  · exact .inr ⟨b, off, rfl, Nat.lt_of_lt_of_le hlt hb.size, fun i hi => (hb.cell (p := ⟨b, off + i, none⟩) (Nat.lt_of_lt_of_le hlt hB)).trans (hc i hi)⟩

theorem info_str : (Tryz.prog.info? 9).map (fun i => (i.zero, i.size, i.bytes)) = some (some (.string ⟨#[]⟩), 1, 16) := by kernel_rfl

/-- An own list of texts that grows, made in the world Q. -/
structure GrowS (Q w : World) (g cap j : Nat) (ps : List ByteArray) : Prop where
  own : w.ownsRow Q.heap.size 9 1 (.slice (some ⟨g, 0, none⟩) j cap) j (ps.map Value.string)
  low : Below Q.heap.size Q w

theorem GrowS.start (Q : World) : GrowS Q (Q.alloc (.cells #[] 9)) Q.heap.size 0 0 [] := by
  refine ⟨⟨by simp, .inr ⟨Q.heap.size, 0, #[], rfl, Nat.le_refl _, ?_, by simp, by unfold maxLen; omega, by simp, by simp⟩⟩, (Below.refl _ _).alloc (Nat.le_refl _) _⟩
  show (Q.heap.push _)[Q.heap.size]? = _
  simp

theorem GrowS.below {Q w w' : World} {g cap j : Nat} {ps : List ByteArray} (h : GrowS Q w g cap j ps) (hb : Below w.heap.size w w') : GrowS Q w' g cap j ps := ⟨ownsB_below h.own (Nat.le_refl _) hb, h.low.trans (hb.mono h.low.size)⟩

theorem GrowS.len {Q w : World} {g cap j : Nat} {ps : List ByteArray} (h : GrowS Q w g cap j ps) : ps.length = j := by simpa using h.own.1

theorem GrowS.ge {Q w : World} {g cap j : Nat} {ps : List ByteArray} (h : GrowS Q w g cap j ps) : Q.heap.size ≤ g := by
  rcases h.own.2 with ⟨h', _⟩ | ⟨g', cap', cur, h', hb, _⟩
  · simp at h'
  · cases h'; exact hb

theorem GrowS.push {Q w w1 : World} {g cap j m g' cap' : Nat} {ps qs : List ByteArray} (h : GrowS Q w g cap j ps)
    (hown : w1.ownsRow Q.heap.size 9 1 (.slice (some ⟨g', 0, none⟩) (j + m) cap') (j + m) (ps.map Value.string ++ qs.map Value.string)) (hg : w.grownBy w1 (Value.ownBlock (.slice (some ⟨g, 0, none⟩) j cap))) :
    GrowS Q w1 g' cap' (j + m) (ps ++ qs) := by
  have hge := h.ge
  refine ⟨by rw [List.map_append]; exact hown, ⟨hg.os.trans h.low.os, hg.tape.trans h.low.tape, hg.output.trans h.low.output, Nat.le_trans h.low.size hg.size, fun k hk => (hg.block k (by have := h.low.size; omega) (fun e => by have := (Option.some.inj e : k = g); omega)).trans (h.low.block k hk)⟩⟩

theorem GrowS.row {Q w : World} {g cap j : Nat} {ps : List ByteArray} (h : GrowS Q w g cap j ps) : RowS w (some ⟨g, 0, none⟩) j ps := by
  refine ⟨h.len, ?_⟩
  rcases h.own.2 with ⟨h', _⟩ | ⟨g', cap', cur, h', _, hg, _, _, hcs, ht⟩
  · simp at h'
  · cases h'
    refine .inr ⟨g, 0, rfl, lt_of_block hg, fun i hi => ?_⟩
    have hl := h.len
    have e : cur.toList[i]? = some (.string (ps.getD i ⟨#[]⟩)) := by
      have : (cur.toList.take (j * 1))[i]? = (ps.map Value.string)[i]? := by rw [ht]
      rw [List.getElem?_take, if_pos (by omega)] at this
      rw [this]
      simp [hl, hi]
    simpa [World.cell?, hg] using e

theorem newStr (w : World) (x : ByteArray) : ∀ (j : Nat) u, ([x].map Value.string)[j]? = some u → (w.alloc (.cells #[.string x] 9)).cell? ((⟨w.heap.size, 0, none⟩ : Addr).add j) = some u := by
  intro j u hj
  have hj0 : j = 0 := by
    have := (List.getElem?_eq_some_iff.1 hj).1
    simpa using this
  subst hj0
  simp at hj
  subst hj
  have h2 : (⟨w.heap.size, 0, none⟩ : Addr).add 0 = ⟨w.heap.size, 0, none⟩ := by simp [Addr.add]
  rw [h2]
  have hb : (w.alloc (.cells #[.string x] 9)).heap[w.heap.size]? = some (.cells #[.string x] 9) := by
    show (w.heap.push _)[w.heap.size]? = _
    simp
  obtain ⟨W, hW⟩ : ∃ W, w.alloc (.cells #[.string x] 9) = W := ⟨_, rfl⟩
  rw [hW] at hb ⊢
  simp [World.cell?, hb]

theorem one_strs (ps : List ByteArray) : ∀ u ∈ ps.map Value.string, u.oneCell' = true := by
  intro u hu
  obtain ⟨x, _, rfl⟩ := List.mem_map.1 hu
  rfl

theorem run_sub {s : ByteArray} {p q : Nat} (h1 : p ≤ q) (h2 : q ≤ s.size) (W : World) : (Instr.slice 9 (.string s) (some (.int .i64 (p : Nat))) (some (.int .i64 (q : Nat))) none).run Tryz.prog W = .ok (.string (s.extract p q)) W := by
  have h3 : (q : Int) ≤ (s.size : Int) := by omega
  have h4 : (p : Int) ≤ (q : Int) := by omega
  go_simp

/-- What l1List gives. -/
def GivesStrs (w : World) (ps : List ByteArray) (e : Ending) (w' : World) : Prop := ∃ g cap, e = .returned (.slice (some ⟨g, 0, none⟩) ps.length cap) ∧ RowS w' (some ⟨g, 0, none⟩) ps.length ps ∧ Below w.heap.size w w'

set_option maxRecDepth 20000 in
set_option maxHeartbeats 2000000 in
theorem l1List_any (s : ByteArray) (w : World) (hs : s.size ≤ 100000) :
    Calls Tryz.prog 141 #[.string s] w (GivesStrs w (pcN s s.size).2) := by
  obtain ⟨i0, hi, hz0, hz1, hz2⟩ := info_parts info_str
  have HG0 := hide (GrowS.start w)
  go_enter Tryz.func141, Tryz.ntmps141
  go_wp2_with fail
  go_loopw [3, 4, 5] (fun u fr i wr => ∃ (k g cp : Nat), u = .slice (some ⟨g, 0, none⟩) (pcN s k).2.length cp ∧ fr = .int .i64 ((pcN s k).1 : Nat) ∧ i = .int .i64 (k : Nat) ∧ k ≤ s.size ∧ Hid (GrowS w wr g cp (pcN s k).2.length (pcN s k).2)) (fun _ _ i _ => s.size - (intOf i).toNat)
  case atStart => exact ⟨0, w.heap.size, 0, rfl, rfl, rfl, Nat.zero_le _, HG0⟩
  case round =>
    obtain ⟨k, g, cp, rfl, rfl, rfl, hk, HG⟩ := hrel
    clear HG0
    have hpl := pcN_le s k
    obtain ⟨ps, hps⟩ : ∃ p, (pcN s k).2 = p := ⟨_, rfl⟩
    obtain ⟨fr, hfr⟩ : ∃ p, (pcN s k).1 = p := ⟨_, rfl⟩
    rw [hps, hfr] at hpl
    rw [hps] at HG ⊢
    rw [hfr]
    have HPS := hide hps
    have HFR := hide hfr
    have hnl : ∃ n, ps.length = n := ⟨_, rfl⟩
    obtain ⟨n, hn⟩ := hnl
    rw [hn] at hpl HG ⊢
    have HN := hide hn
    clear hps hfr hn
    by_cases hlt : k < s.size
    · have hlti : (k : Int) < (s.size : Int) := by omega
      have hix := fun W => run_idx hlt W
      obtain ⟨y, hy⟩ : ∃ y, bt s k = y := ⟨_, rfl⟩
      rw [hy] at hix
      have HY := hide hy
      clear hy
      by_cases h32 : y = 32
      · subst h32
        have HP : Hid (pcN s (k + 1) = (k + 1, ps ++ [s.extract fr k])) := by show _ = _; rw [pcN, if_pos (unhide HY), unhide HPS, unhide HFR]
        have hsl := fun W => run_sub (s := s) (p := fr) (q := k) hpl.1 hk W
        obtain ⟨x, hx⟩ : ∃ x, s.extract fr k = x := ⟨_, rfl⟩
        rw [hx] at hsl HP
        have hgz := (unhide HG).low.size
        clear hx
        go_wp2_with (at_builtin; refine wpList_append_lies _ rfl _ _ 99 rfl w.heap.size 9 i0 (.string ⟨#[]⟩) 1 16 Tryz.underlying99 hi hz0 hz1 hz2 rfl (by decide) _ _ _ rfl ((unhide HG).below ((Below.refl _ _).alloc (Nat.le_refl _) _)).own ⟨wr.heap.size, 0, none⟩ 1 1 ([x].map Value.string) rfl rfl (newStr wr x) (one_strs _) (by omega) (by unfold maxLen; omega) (by omega) (by simp; omega) (wr.heap.size + 1) (by simp) ?_; intro g' cap' w7 hown' hgrow hat hlt7; have HF7 := hide (GrowS.push ((unhide HG).below ((Below.refl _ _).alloc (Nat.le_refl _) _)) hown' hgrow); clear hgrow hat hown' hlt7)
        go_roundw
        case rel =>
          refine ⟨k + 1, g', cap', ?_, ?_, by go_num, by omega, ?_⟩
          · rw [unhide HP]; simp [unhide HN]
          · rw [unhide HP]; go_num
          · show GrowS _ _ _ _ _ _
            rw [unhide HP]
            simp only [List.length_append, unhide HN]
            exact unhide HF7
        case measure => simp [intOf]; omega
      · have h32i : ¬ (y : Int) = 32 := by omega
        have HP : Hid (pcN s (k + 1) = pcN s k) := by show _ = _; rw [pcN, if_neg (by rw [unhide HY]; exact h32)]
        go_wp2_with fail
        go_roundw
        case rel =>
          refine ⟨k + 1, g, cp, ?_, ?_, by go_num, by omega, ?_⟩
          · rw [unhide HP, unhide HPS, unhide HN]
          · rw [unhide HP, unhide HFR]
          · show GrowS _ _ _ _ _ _
            rw [unhide HP, unhide HPS, unhide HN]
            exact unhide HG
        case measure => simp [intOf]; omega
    · have hlti : ¬ (k : Int) < (s.size : Int) := by omega
      obtain rfl : k = s.size := by omega
      go_wp2_with fail
      go_ret
      refine ⟨g, cp, ?_, ?_, (unhide HG).low⟩
      · rw [unhide HPS, unhide HN]; rfl
      · rw [unhide HPS, unhide HN]; exact (unhide HG).row

set_option maxHeartbeats 2000000 in
theorem l1In_any (a : Option Addr) (n cap : Nat) (ps : List ByteArray) (x : ByteArray) (w : World) (h : RowS w a n ps) (hn : n ≤ 100000) :
    Calls Tryz.prog 140 #[.slice a n cap, .string x] w fun e w' => e = .returned (.bool (ps.any fun p => p.toList == x.toList)) ∧ w' = w := by
  have hlen := hide h.len
  have H := hide h
  clear h
  go_enter Tryz.func140, Tryz.ntmps140
  go_wp2_with fail
  go_loop [5] (fun i => ∃ k : Nat, k ≤ n ∧ i = .int .i64 k ∧ Hid ((ps.take k).any (fun p => p.toList == x.toList) = false)) (fun i => n - (intOf i).toNat)
  case atStart => exact ⟨0, Nat.zero_le _, rfl, rfl⟩
  case round =>
    obtain ⟨k, hk, rfl, HA⟩ := hrel
    by_cases hlt : k < n
    · have hlti : (k : Int) < (n : Int) := by omega
      obtain ⟨b, off, e, hc⟩ : ∃ b off, a = some ⟨b, off, none⟩ ∧ w.cell? ⟨b, off + k, none⟩ = some (.string (ps.getD k ⟨#[]⟩)) := by
        rcases (unhide H).at_ with h0 | ⟨b, off, e, _, hc⟩
        · omega
        · exact ⟨b, off, e, hc k hlt⟩
      subst e
      have hkl : k < ps.length := by rw [unhide hlen]; exact hlt
      have htk : ps.take (k + 1) = ps.take k ++ [ps.getD k ⟨#[]⟩] := by
        rw [List.take_succ_eq_append_getElem hkl]
        simp [hkl]
      have hmem : ps.getD k ⟨#[]⟩ ∈ ps := by simp [hkl]
      obtain ⟨y, hy⟩ : ∃ y, ps.getD k ⟨#[]⟩ = y := ⟨_, rfl⟩
      rw [hy] at hc htk hmem
      cases hq : (y.toList == x.toList) with
      | true =>
        have HE : Hid ((ps.any fun p => p.toList == x.toList) = true) := List.any_eq_true.2 ⟨y, hmem, hq⟩
        have HQ := hide hq
        clear htk hmem hy
        go_wp2_with fail
        go_ret
        exact ⟨ret_bool (unhide HE).symm, rfl⟩
      | false =>
        have HA2 : Hid ((ps.take (k + 1)).any (fun p => p.toList == x.toList) = false) := by show _ = _; rw [htk, List.any_append, unhide HA]; simp [hq]
        clear htk hmem hy
        go_wp2_with fail
        go_round
        case rel => exact ⟨k + 1, by omega, by go_num, HA2⟩
        case measure => simp [intOf]; omega
    · have hlti : ¬ (k : Int) < (n : Int) := by omega
      have HE : Hid ((ps.any fun p => p.toList == x.toList) = false) := by
        have := unhide HA
        rwa [List.take_of_length_le (by rw [unhide hlen]; omega)] at this
      go_wp2_with fail
      go_ret
      exact ⟨ret_bool (unhide HE).symm, rfl⟩

set_option maxRecDepth 100000 in
theorem signs_pieces : (pcN signS signS.size).2 = signCs.map fun c => bstr (encZ (c : Nat)) := by kernel_rfl

theorem sign_size : signS.size ≤ 100000 := by
  have : decide (signS.size ≤ 100000) = true := by kernel_rfl
  exact of_decide_eq_true this

theorem signCs_le : ∀ c ∈ signCs, c ≤ 2097151 := by
  have : (signCs.all fun c => decide (c ≤ 2097151)) = true := by kernel_rfl
  intro c hc
  exact of_decide_eq_true (List.all_eq_true.1 this c hc)

/-- A character is a sign just if its bytes are in the list. -/
theorem sign_any {s : ByteArray} {i : Nat} (h : i < s.size) (hn : 0 < (runeAt s i).2) (hv : (runeAt s i).1 ≤ 2097151) : ((pcN signS signS.size).2.any fun p => p.toList == (s.extract i (i + (runeAt s i).2)).toList) = decide ((runeAt s i).1 ∈ signCs) := by
  have hb := rune_bytes h hn
  have hx : s.extract i (i + (runeAt s i).2) = bstr (encZ ((runeAt s i).1 : Nat)) := by rw [← hb, bstr_uz]
  rw [hx, signs_pieces, List.any_map]
  by_cases hm : (runeAt s i).1 ∈ signCs
  · rw [decide_eq_true hm]
    exact List.any_eq_true.2 ⟨_, hm, by simp⟩
  · rw [decide_eq_false hm, List.any_eq_false]
    intro c hc he
    have h1 : (bstr (encZ (c : Nat))).toList = (bstr (encZ ((runeAt s i).1 : Nat))).toList := by simpa using he
    rw [Lib.toList_data, Lib.toList_data] at h1
    have h2 : bstr (encZ (c : Nat)) = bstr (encZ ((runeAt s i).1 : Nat)) := ByteArray.ext (Array.toList_inj.1 h1)
    have h3 := encZ_inj (signCs_le c hc) hv (bstr_inj (encZ_byte (signCs_le c hc)) (encZ_byte hv) h2)
    exact hm (h3 ▸ hc)

end Go.Proofs.YtinndpnilmmmjaaGreatDoor
