import Derived.Test.YtinndpnilmmmjaaGreatDoorImplSpell
import Derived.Test.YtinndpnilmmmjaaGreatDoorMFit2
import Derived.Test.YtinndpnilmmmjaaGreatDoorTokRow
import Derived.Test.YtinndpnilmmmjaaGreatDoorImplLex
import Derived.Test.YtinndpnilmmmjaaGreatDoorOwnTok
import Derived.BigQuiet
namespace Go.Proofs.YtinndpnilmmmjaaGreatDoor
open Go.RowKit

theorem TBox.at3 {w : World} {p : Nat} {v0 v1 v2 v3 : Value} (h : TBox w p v0 v1 v2 v3) (v : Value) : TBox (w.setCell ⟨p, 3, none⟩ v) p v0 v1 v2 v := by
  unfold TBox at h ⊢
  simp [World.setCell, Array.getElem?_modify, h]

theorem RowT.first {w : World} {a : Option Addr} {y : Tok} (h : RowT w a 1 [y]) : ∃ b off, a = some ⟨b, off, none⟩ ∧ w.cell? ⟨b, off, none⟩ = some (.int .i64 y.k) ∧ w.cell? ⟨b, off + 1, none⟩ = some (.int .i64 y.n) ∧ w.cell? ⟨b, off + 2, none⟩ = some (.string y.t) ∧ w.cell? ⟨b, off + 3, none⟩ = some (.int .i64 (y.p : Nat)) := by
  obtain ⟨b, off, t, e, _, et, a0, a1, a2, a3⟩ := h.get (j := 0) (by omega)
  have : y = t := by simpa using et
  subst this
  exact ⟨b, off, e, by simpa using a0, by simpa using a1, by simpa using a2, by simpa using a3⟩

theorem guard_tok (x y : Operand) (xs ys : Array Value) (W : World) : (eqGuard .neq 64 x y (.agg xs) (.agg ys)).run Tryz.prog W = .ok () W := run_eqGuard_agg W .neq 64 x y xs ys (by kernel_rfl)

theorem neq_tok (k n p k' n' p' : Int) (t t' : ByteArray) (W : World) : (binOp .neq 64 (.agg #[.int .i64 k, .int .i64 n, .string t, .int .i64 p]) (.agg #[.int .i64 k', .int .i64 n', .string t', .int .i64 p'])).run Tryz.prog W = .ok (.bool (!(k == k' && n == n' && t.toList == t'.toList && p == p'))) W := by
  rw [run_neq_struct, run_equalIn_agg W 9999 64 _ _ (by kernel_rfl) (by kernel_rfl)]
  unfold Program.fieldsOf
  rw [Tryz.underlying64]
  cases h1 : (k == k') <;> cases h2 : (n == n') <;> cases h3 : (t.toList == t'.toList) <;> cases h4 : (p == p')
  all_goals (go_simp; try simp_all)

theorem neq_same (k n : Int) (t : ByteArray) (W : World) : (binOp .neq 64 (.agg #[.int .i64 k, .int .i64 n, .string t, .int .i64 0]) (.agg #[.int .i64 k, .int .i64 n, .string t, .int .i64 0])).run Tryz.prog W = .ok (.bool false) W := by
  rw [neq_tok]
  simp

theorem neq_other (k n : Int) (t : ByteArray) (yk yn : Int) (yt : ByteArray) (yp : Nat) (h : ¬ (yk = k ∧ yn = n ∧ yt = t)) (W : World) : (binOp .neq 64 (.agg #[.int .i64 yk, .int .i64 yn, .string yt, .int .i64 (yp : Nat)]) (.agg #[.int .i64 k, .int .i64 n, .string t, .int .i64 0])).run Tryz.prog W = .ok (.bool true) W := by
  rw [neq_tok]
  have : (yk == k && yn == n && yt.toList == t.toList && ((yp : Nat) : Int) == 0) = false := by
    cases hb : (yk == k && yn == n && yt.toList == t.toList && ((yp : Nat) : Int) == 0) with
    | false => rfl
    | true =>
      simp only [Bool.and_eq_true, beq_iff_eq] at hb
      refine absurd ⟨hb.1.1.1, hb.1.1.2, ?_⟩ h
      have e := hb.1.2
      rw [Lib.toList_data, Lib.toList_data] at e
      exact ByteArray.ext (Array.toList_inj.1 e)
  rw [this]
  rfl

set_option maxRecDepth 20000 in
set_option maxHeartbeats 4000000 in
theorem implTok_any (k n at' : Int) (t : ByteArray) (w : World) (hn : -9223372036854775808 ≤ n ∧ n ≤ 9223372036854775807) (ht : t.size ≤ 1048576) (hG : GlT w) (hR : RangeAt w) (hT : TabsAt w) :
    Calls Tryz.prog 38 #[.agg #[.int .i64 k, .int .i64 n, .string t, .int .i64 at']] w fun e w' => e = .returned (.string (tokText k n t)) ∧ Below w.heap.size w w' := by
  have hx2 : (spellT k n t).size ≤ 2097154 := by
    unfold spellT
    split
    · rw [bstr_size]; have := (numT_parts n (by omega)).1; omega
    · split
      · show (quoteL t.data.toList).toArray.size ≤ _
        have := (qd_len t.data.toList).1
        rw [← Lib.size_eq] at this
        unfold quoteL
        unfold qd at this
        rw [List.size_toArray, List.length_cons, List.length_append]
        simp only [List.length_cons, List.length_nil]
        omega
      · omega
  have HZ := hide (fun (y : Tok) => back_zero (k := k) (n := n) (t := t) (y := y) (by omega))
  obtain ⟨Q, hQ⟩ : ∃ Q, Q = w.alloc (.cells #[.int .i64 k, .int .i64 n, .string t, .int .i64 at'] 64) := ⟨_, rfl⟩
  have HQ := hide hQ
  have HXQ : Hid (TBox Q w.heap.size (.int .i64 k) (.int .i64 n) (.string t) (.int .i64 at')) := by rw [hQ]; exact TBox.new w _ _ _ _
  have HBQ : Hid (Below w.heap.size w Q) := by rw [hQ]; exact (Below.refl _ _).alloc (Nat.le_refl _) _
  have HD := hide (spell_any k n at' t hn ht Q (hG.below (unhide HBQ)))
  have HGG : Hid (∀ v, Below w.heap.size w v → RangeAt v ∧ TabsAt v) := fun v hv => ⟨hR.below hv, hT.below hv⟩
  obtain ⟨res, hres⟩ : ∃ res, tokText k n t = res := ⟨_, rfl⟩
  rw [hres]
  unfold tokText at hres
  obtain ⟨x, hx⟩ : ∃ x, spellT k n t = x := ⟨_, rfl⟩
  rw [hx] at hres hx2 HD HZ
  obtain ⟨r, hr⟩ : ∃ r, lexT x = r := ⟨_, rfl⟩
  rw [hr] at hres HZ
  have HRR := hide hr
  obtain ⟨ts, cd, pl⟩ := r
  have HRES := hide hres
  obtain ⟨n6, hn6⟩ : ∃ m, ts.length = m := ⟨_, rfl⟩
  have HN6 := hide hn6
  clear hQ hx hr hres hn ht hG hR hT hn6
  go_enter Tryz.func38, Tryz.ntmps38
  go_wp2_with (first | (go_at_call 82; rw [← unhide HQ]; refine (unhide HD).mono ?_; rintro e w5 ⟨rfl, hb5⟩; have HB5 := hide ((unhide HBQ).trans (hb5.mono (unhide HBQ).size)); have HX5 := hide ((unhide HXQ).below (Nat.le_refl _) hb5); obtain ⟨p0, p1, p2, p3, g0, g1, g2, g3⟩ := (unhide HX5).all; have HX6 := hide ((unhide HX5).at3 (.int .i64 0)); obtain ⟨cap, W1, hcv, hcap, hrow, hbW, hzW⟩ := conv_str (w5.setCell ⟨w.heap.size, 3, none⟩ (.int .i64 0)) x; have hz5 : (w5.setCell ⟨w.heap.size, 3, none⟩ (.int .i64 0)).heap.size = w5.heap.size := (by simp); rw [hz5] at hcv hrow; have HB1 : Hid (Below w.heap.size w W1) := ((unhide HB5).setCell (Nat.le_refl _) _).trans (hbW.mono (by rw [hz5]; exact (unhide HB5).size)); have HX1 := hide ((unhide HX6).below (Nat.le_refl _) hbW); have HL := hide (implLex_any w5.heap.size 0 cap x W1 hrow (by omega) (unhide HGG _ (unhide HB1)).1 (unhide HGG _ (unhide HB1)).2); clear hb5 hcap hrow hbW hzW hz5) | (go_at_call 47; refine (unhide HL).mono ?_; rintro e w6 ⟨v6, he, hW, hb6⟩; rw [unhide HRR] at he hW; have hW' : w6.ownsRow W1.heap.size 64 4 v6 n6 (ts.flatMap tokCells) := (by rw [← unhide HN6]; exact hW); obtain ⟨a4, c4, hv6, hO4⟩ := ownT_of hW'; subst hv6; have he' : e = .returned (.tuple #[.slice a4 n6 c4, .int .i64 cd, .int .i64 (pl : Nat)]) := he; subst he'; have HB6 := hide ((unhide HB1).trans (hb6.mono (unhide HB1).size)); have HX7 := hide ((unhide HX1).below (Nat.le_refl _) hb6); have HR6 := hide hO4.row; obtain ⟨q0, q1, q2, q3, f0, f1, f2, f3⟩ := (unhide HX7).all; clear he hW hW' hb6 hO4 hcv))
  by_cases hcd : cd = 0
  case neg =>
    have hd : (cd != 0) = true := by simpa using hcd
    have HE : Hid (backB k n t (ts, cd, pl) = false) := backB_code hcd
    clear hcd
    go_quiet (fail)
    go_wp2_with fail
    go_ret
    exact ⟨by rw [← unhide HRES, unhide HE]; rfl, Below.drewN (unhide HB6) _⟩
  subst hcd
  by_cases hn1 : n6 = 1
  case neg =>
    have hd : ((n6 : Int) != 1) = true := by simp; omega
    have HE : Hid (backB k n t (ts, 0, pl) = false) := backB_many (fun e => hn1 (by rw [← unhide HN6]; exact e))
    clear hn1
    go_quiet (fail)
    go_wp2_with fail
    go_ret
    exact ⟨by rw [← unhide HRES, unhide HE]; rfl, Below.drewN (unhide HB6) _⟩
  subst hn1
  obtain ⟨y, rfl⟩ : ∃ y, ts = [y] := by
    have h := unhide HN6
    match ts, h with
    | [y], _ => exact ⟨y, rfl⟩
  obtain ⟨b4, o4, rfl, y0, y1, y2, y3⟩ := (unhide HR6).first
  have HBB : Hid (backB k n t ([y], 0, pl) = (decide (y.k = k) && decide (y.n = n) && decide (y.t = t))) := by show _ = _; unfold backB; simp
  have HP := hide (unhide HZ y rfl rfl)
  obtain ⟨yk, yn, yt, yp⟩ := y
  by_cases hall : yk = k ∧ yn = n ∧ yt = t
  case pos =>
    obtain ⟨rfl, rfl, rfl⟩ := hall
    have hp0 : yp = 0 := unhide HP rfl rfl
    subst hp0
    have HE : Hid (backB yk yn yt ([⟨yk, yn, yt, 0⟩], 0, pl) = true) := by show _ = _; rw [unhide HBB]; simp
    have hne := fun W => neq_same yk yn yt W
    have heg := guard_tok
    go_quiet (fail)
    go_wp2_with fail
    go_ret
    exact ⟨by rw [← unhide HRES, unhide HE]; rfl, Below.drewN (unhide HB6) _⟩
  have HE : Hid (backB k n t ([⟨yk, yn, yt, yp⟩], 0, pl) = false) := by
    show _ = _
    rw [unhide HBB]
    cases hb : (decide (yk = k) && decide (yn = n) && decide (yt = t)) with
    | false => rfl
    | true => simp at hb; exact absurd ⟨hb.1.1, hb.1.2, hb.2⟩ hall
  have hne := fun W => neq_other k n t yk yn yt yp hall W
  have heg := guard_tok
  clear hall
  go_quiet (fail)
  go_wp2_with fail
  go_ret
  exact ⟨by rw [← unhide HRES, unhide HE]; rfl, Below.drewN (unhide HB6) _⟩

end Go.Proofs.YtinndpnilmmmjaaGreatDoor
