import Derived.Test.YtcjhbeljhmocbaaDoorImplTextS
import Derived.Deep.RegionLaw
namespace Go.Proofs.YtcjhbeljhmocbaaDoor
open Go.RowKit

theorem step_append_str {ops : Array Oper} {o : Oper} {a : Act} {w : World} {K : Act → World → Prop} {Q : Exit → Act → World → Prop} {E : Prop} (hgd : o.guard = none) (sl x : Operand)
    (ho : o.op = .call { callee := .builtin .append, args := #[sl, x], argTypes := #[26, 9] }) (B : Nat) (v : Value) (n : Nat) (xs : List Value) (hs : a.eval sl = v) (hown : w.ownsRow B 5 1 v n xs) (s : ByteArray) (hx : a.eval x = .string s)
    (hlen : n + s.size ≤ 140737488355328) (hB : B ≤ w.heap.size)
    (h : ∀ v' w', w'.ownsRow B 5 1 v' (n + s.size) (xs ++ Lib.strCells s) → w.grownBy w' v.ownBlock → K (a.put o.dst v') w') :
    if Region.wanted o (yielded ops a.tmps) = true then Oper.wp Tryd.prog o a w K Q else E := by
  have hw : Region.wanted o (yielded ops a.tmps) = true := by simp [Region.wanted, hgd]
  rw [if_pos hw]
  obtain ⟨i0, hi, hz0, hz1, hz2⟩ := info_parts info_byte
  obtain ⟨v', w', hrun, h2, h3, -⟩ := Lib.run_append_own_string (P := Tryd.prog) w B 26 9 o.type 5 i0 Tryd.underlying26 Tryd.underlying9 hi hz0 hz1 hz2 v n xs hown s (by unfold maxLen; omega) hlen hB
  unfold Oper.wp
  simp [execOp, ho, resolve, invoke, builtin, hs, hx, hrun, Result.andThen]
  exact h v' w' h2 h3

set_option maxRecDepth 20000 in
set_option maxHeartbeats 4000000 in
theorem appendNumbers_any (B n : Nat) (v : Value) (zs : List Int) (a aw : Option Addr) (m cap nw cw : Nat) (row ws : List Int) (w : World) (hT : TextG B w w v n zs) (hr : Row w a m row) (hwr : Row w aw nw ws) (hap : ∀ k, At a m k → k < B) (haw : ∀ k, At aw nw k → k < B) (hm : m ≤ 10000) (hmw : m ≤ nw) (hn : n ≤ 1000000000)
    (hok : ∀ i, i < m → -1000000000000000 ≤ row.getD i 0 ∧ row.getD i 0 ≤ 1000000000000000) (hws : ∀ i, i < m → (wid (row.getD i 0) : Int) ≤ ws.getD i 0 ∧ ws.getD i 0 ≤ 100) (hG : ∀ wx, Below B w wx → GlS wx) :
    Calls Tryd.prog 34 #[v, .slice a m cap, .slice aw nw cw] w (GivesT B w (n + 120 * m) (zs ++ rowN false ws row m)) := by
  have hnw := hwr.small
  have HR := hide hr
  have HW := hide hwr
  have HA := hide hap
  have HAW := hide haw
  have HO := hide hok
  have HWS := hide hws
  have HT := hide hT
  have HG := hide hG
  clear hr hwr hap haw hok hws hT hG
  obtain ⟨i0, hi, hz0, hz1, hz2⟩ := info_parts info_byte
  go_enter Tryd.func34, Tryd.ntmps34
  go_wp2_with fail
  go_loopw [0, 12] (fun u i wr => ∃ (k n1 : Nat) (v1 : Value), v1 = u ∧ i = .int .i64 k ∧ k ≤ m ∧ n1 ≤ n + 120 * k ∧ Hid (TextG B w wr v1 n1 (zs ++ rowN false ws row k))) (fun _ i _ => m - (intOf i).toNat)
  case atStart => exact ⟨0, n, v, rfl, rfl, Nat.zero_le _, by omega, by show TextG _ _ _ _ _ _; rw [rowN_zero, List.append_nil]; exact unhide HT⟩
  case round =>
    obtain ⟨k, n1, u, hu, rfl, hk, hn1, HK⟩ := hrel
    subst hu
    by_cases hlt : k < m
    case neg =>
      have hlti : ¬ (k : Int) < (m : Int) := by omega
      obtain rfl : k = m := by omega
      go_wp2_with fail
      go_ret
      exact ⟨u, n1, rfl, hn1, unhide HK⟩
    case pos =>
      have hlti : (k : Int) < (m : Int) := by omega
      have hltw : (k : Int) < (nw : Int) := by omega
      obtain ⟨wo, hwo⟩ : ∃ x, x = wr := ⟨_, rfl⟩
      subst hwo
      obtain ⟨b, o, e, -, hc⟩ := ((unhide HR).lowB (unhide HA) (unhide HK).low).get hlt
      subst e
      obtain ⟨b2, o2, e, -, -⟩ := ((unhide HW).lowB (unhide HAW) (unhide HK).low).get (show k < nw by omega)
      subst e
      have hB2 : b2 < B := unhide HAW b2 (at_self (by omega))
      have hx1 := unhide HO k hlt
      obtain ⟨hy1, hy2⟩ := unhide HWS k hlt
      obtain ⟨x, hx⟩ : ∃ x, row.getD k 0 = x := ⟨_, rfl⟩
      obtain ⟨y, hy⟩ : ∃ y : Nat, ws.getD k 0 = (y : Int) := ⟨(ws.getD k 0).toNat, by omega⟩
      rw [hx] at hc hx1 hy1
      rw [hy] at hy1 hy2
      have HX := hide hx
      have HY := hide hy
      have HCY : Hid (∀ wx, Below B w wx → wx.cell? ⟨b2, o2 + k, none⟩ = some (.int .i64 (y : Nat))) := fun wx hb => by
        obtain ⟨b3, o3, e3, -, hc3⟩ := ((unhide HW).lowB (unhide HAW) hb).get (show k < nw by omega)
        cases e3
        rw [unhide HY] at hc3
        exact hc3
      obtain ⟨d, hd⟩ : ∃ d, y - wid x = d := ⟨_, rfl⟩
      have hdi : (y : Int) - ((wid x : Nat) : Int) = (d : Int) := by omega
      have hdb : d ≤ 100 := by omega
      obtain ⟨wd, hwd⟩ : ∃ z, wid x = z := ⟨_, rfl⟩
      have hwd17 : wd ≤ 17 := by rw [← hwd]; exact wid_le hx1
      have HWD := hide hwd
      have HX1 := hide hx1
      rw [hwd] at hdi hd
      have HD := hide hd
      have HCELL : Hid (cellT false ws row k = (if 0 < k then [32] else []) ++ List.replicate d 32 ++ numT x) := by
        show _ = _
        unfold cellT
        rw [if_neg (by decide), unhide HX, unhide HY, unhide HWD, ← hd]
        rfl
      clear hx hy hx1 hy1 hwd hd
      go_upto_if 18 with fail
      go_cut [0] (fun u2 wx => ∃ (v2 : Value) (n2 : Nat), v2 = u2 ∧ n2 ≤ n1 + 1 ∧ Hid (TextG B w wx v2 n2 (zs ++ rowN false ws row k ++ (if 0 < k then [32] else []))))
      case first =>
        by_cases h0 : 0 < k
        · have h0i : (0 : Int) < (k : Int) := by omega
          have H0 := hide h0
          go_wp2_with (at_builtin; refine wpList_append_own _ rfl _ _ 26 rfl B 5 i0 (.int .u8 0) 1 1 Tryd.underlying26 hi hz0 hz1 hz2 rfl (by decide) u n1 _ rfl ((unhide HK).keep ((Below.refl _ _).alloc (Nat.le_refl _) _)).own ⟨wo.heap.size, 0, none⟩ 1 1 ([32].map (Value.int .u8)) rfl rfl (RowB.new wo [32]).news (one_bytes _) (by unfold maxLen; omega) (by omega) (by have := (unhide HK).le; simp; omega) ?_; intro v5 w5 hown hg _; have HK5 := hide ((unhide HK).step hown hg); clear hown hg)
          go_meet
          case rel => exact ⟨v5, n1 + 1, rfl, Nat.le_refl _, by show TextG _ _ _ _ _ _; rw [if_pos (unhide H0)]; exact unhide HK5⟩
        · have h0i : ¬ (0 : Int) < (k : Int) := by omega
          have H0 := hide h0
          go_wp2_with fail
          go_meet
          case rel => exact ⟨u, n1, rfl, by omega, by show TextG _ _ _ _ _ _; rw [if_neg (unhide H0), List.append_nil]; exact unhide HK⟩
      case rest =>
      obtain ⟨v2, n2, hv2, hn2, HK2⟩ := hcut
      subst hv2
      obtain ⟨w3, hw3⟩ : ∃ x, x = wc := ⟨_, rfl⟩
      subst hw3
      clear HK hc
      go_wp2_with fail
      refine (numberText_any x (unhide HX1) _ (unhide HG _ (unhide HK2).low)).mono ?_
      rintro e w4 ⟨rfl, hb4⟩
      have HK4 := hide ((unhide HK2).keep hb4)
      have HK4d : Hid (TextG B w w4.drew v2 n2 _) := (unhide HK4).keep (Below.refl _ _).drew
      have hcY := unhide HCY _ (unhide HK4).low
      have HWO : Hid (∀ W, Calls Tryd.prog 42 #[.string (bstr (numT x))] W fun e w' => e = .returned (.int .i64 (wd : Nat)) ∧ Below W.heap.size W w') := fun W => by rw [← unhide HWD]; exact widthOf_num x (unhide HX1) W
      obtain ⟨st, hst⟩ : ∃ s, bstr (numT x) = s := ⟨_, rfl⟩
      obtain ⟨sp, hsp⟩ : ∃ s, bstr (List.replicate d 32) = s := ⟨_, rfl⟩
      have HRE : Hid (∀ W, Calls Tryd.prog 44 #[.string ⟨#[32]⟩, .int .i64 (d : Nat)] W fun e w' => e = .returned (.string sp) ∧ Below W.heap.size W w') := fun W => by rw [← hsp]; exact repeat_any d (by omega) W
      have hsps : sp.size = d := by rw [← hsp, bstr_size]; simp
      have hsts : st.size ≤ 18 := by
        have h1 := decZ_le 15 x.natAbs (by have := unhide HX1; omega)
        rw [← hst, bstr_size]
        unfold numT
        split <;> simp <;> omega
      have HSP : Hid (Lib.strCells sp = (List.replicate d 32).map (Value.int .u8)) := by show _ = _; rw [← hsp]; exact strCells_bstr (fun x hx => by rw [List.eq_of_mem_replicate hx]; omega)
      have HST : Hid (Lib.strCells st = (numT x).map (Value.int .u8)) := by show _ = _; rw [← hst]; exact strCells_bstr (numT_byteI x)
      rw [hst] at HWO ⊢
      clear hst hsp hb4
      have hws1 : IntKind.i64.wrap ((y : Int) - (wd : Int)) = (d : Int) := by rw [hdi, IntKind.wrap_i64]; omega
      have hws2 : IntKind.i64.wrap (d : Int) = (d : Int) := by rw [IntKind.wrap_i64]; omega
      go_wp2_with fail
      go_region_law
        (first
          | (refine step_append_str (by rfl) _ _ (by rfl) B v2 n2 _ (by rfl) (unhide HK6).own sp (by rfl) (by omega) (unhide HK6).le ?_; intro v7 w7 hown hg; rw [unhide HSP] at hown; have HK7 := hide ((unhide HK6).grow hown hg); clear hown hg)
          | (go_simp; go_at_call 42; refine (unhide HWO _).mono ?_; rintro e w5 ⟨rfl, hb5⟩; have HK5 := hide ((unhide HK4d).keep hb5); have hcY5 := unhide HCY _ (unhide HK5).low)
          | (go_simp; go_at_call 44; refine (unhide HRE _).mono ?_; rintro e w6 ⟨rfl, hb6⟩; have HK6 := hide ((unhide HK5).keep hb6)))
      all_goals go_wp2_with (at_builtin; refine Lib.wpList_append_own_string _ rfl _ _ 26 9 rfl B 5 i0 Tryd.underlying26 Tryd.underlying9 hi hz0 hz1 hz2 v7 (n2 + sp.size) _ rfl (unhide HK7).own st rfl (by unfold maxLen; omega) (by omega) (unhide HK7).le ?_; intro v8 w8 hown hg _; rw [unhide HST] at hown; have HK8 := hide ((unhide HK7).grow hown hg); clear hown hg)
      all_goals (go_roundw; (case rel => exact ⟨k + 1, n2 + sp.size + st.size, v8, rfl, by go_num, by omega, by omega, by show TextG _ _ _ _ _ _; rw [rowN_succ, unhide HCELL, ← List.append_assoc, ← List.append_assoc, ← List.append_assoc]; exact unhide HK8⟩); (case measure => simp [intOf]; omega))

end Go.Proofs.YtcjhbeljhmocbaaDoor
