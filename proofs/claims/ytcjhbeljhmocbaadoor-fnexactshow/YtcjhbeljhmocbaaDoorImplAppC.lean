import Derived.Test.YtcjhbeljhmocbaaDoorShelfRune
import Derived.Test.YtcjhbeljhmocbaaDoorSpecRow
namespace Go.Proofs.YtcjhbeljhmocbaaDoor
open Go.RowKit

theorem own_block {w : World} {B e size n : Nat} {v : Value} {xs : List Value} (h : w.ownsRow B e size v n xs) : ∀ k, v.ownBlock = some k → B ≤ k := by
  intro k hk
  rcases h.2 with ⟨h', _⟩ | ⟨g, cap, cur, h', hb, _⟩
  · rw [h'] at hk; simp [Value.ownBlock] at hk
  · rw [h'] at hk; simp [Value.ownBlock] at hk; omega

theorem encZ_rune {r : Int} (h0 : 0 ≤ r) (h1 : r ≤ 1114111) (hs : ¬ (55296 ≤ r ∧ r ≤ 57343)) : Lib.runeCells r = (encZ r).map (Value.int .u8) := by
  unfold Lib.runeCells
  congr 1
  unfold Lib.encodeRuneZ encZ
  by_cases a : r < 128
  · rw [if_pos (by omega), if_pos a]
  · rw [if_neg (by omega), if_neg a]
    by_cases b : r < 2048
    · rw [if_pos (by omega), if_pos b]
    · rw [if_neg (by omega), if_neg b]
      by_cases d : r < 65536
      · rw [if_pos (by omega), if_pos d]
      · rw [if_neg (by omega), if_neg d, if_pos (by omega)]

/-- A text of the call's own from block B on, and what stood below B is as it was. -/
structure TextG (B : Nat) (w wr : World) (v : Value) (n : Nat) (zs : List Int) : Prop where
  own : wr.ownsRow B 5 1 v n (zs.map (Value.int .u8))
  low : Below B w wr
  le : B ≤ wr.heap.size

theorem TextG.step {B n n' : Nat} {w wr w' : World} {v v' : Value} {o : Obj} {zs ys : List Int} (h : TextG B w wr v n zs) (hown : w'.ownsRow B 5 1 v' n' (zs.map (Value.int .u8) ++ ys.map (Value.int .u8))) (hg : (wr.alloc o).grownBy w' v.ownBlock) : TextG B w w' v' n' (zs ++ ys) := by
  have hb : Below B w w' := (h.low.alloc h.le o).grown hg (by have := h.le; simp; omega) (own_block h.own)
  refine ⟨by rw [List.map_append]; exact hown, hb, ?_⟩
  have h1 : Below B wr w' := ((Below.refl _ _).alloc h.le o).grown hg (by have := h.le; simp; omega) (own_block h.own)
  have := h1.size
  have := h.le
  omega

/-- What a function that writes behind a text gives: a text of at most N bytes. -/
def GivesT (B : Nat) (w : World) (N : Nat) (zs : List Int) (e : Ending) (w' : World) : Prop := ∃ v' n', e = .returned v' ∧ n' ≤ N ∧ TextG B w w' v' n' zs

theorem Row.lowB {w w' : World} {a : Option Addr} {n B : Nat} {zs : List Int} (h : Row w a n zs) (hap : ∀ k, At a n k → k < B) (hb : Below B w w') : Row w' a n zs := by
  refine ⟨h.len, h.small, ?_⟩
  rcases h.at_ with h0 | ⟨b, off, rfl, hlt, hc⟩
  · exact .inl h0
  · by_cases hn : n = 0
    · exact .inl hn
    · exact .inr ⟨b, off, rfl, by have := hb.size; omega, fun i hi => (hb.cell (p := ⟨b, off + i, none⟩) (hap b (at_self hn))).trans (hc i hi)⟩

set_option maxHeartbeats 1000000 in
theorem appendCharacters_any (B n : Nat) (v : Value) (zs : List Int) (a : Option Addr) (m cap : Nat) (row ws : List Int) (w : World) (hT : TextG B w w v n zs) (hr : Row w a m row) (hap : ∀ k, At a m k → k < B) (hm : m ≤ 10000) (hn : n ≤ 1000000000) (hok : ∀ i, i < m → 0 ≤ row.getD i 0 ∧ row.getD i 0 ≤ 1114111 ∧ ¬ (55296 ≤ row.getD i 0 ∧ row.getD i 0 ≤ 57343)) :
    Calls Tryd.prog 31 #[v, .slice a m cap] w (GivesT B w (n + 4 * m) (zs ++ rowN true ws row m)) := by
  have HR := hide hr
  have HA := hide hap
  have HO := hide hok
  have HT := hide hT
  clear hr hap hok hT
  go_enter Tryd.func31, Tryd.ntmps31
  go_wp2_with fail
  go_loopw [0, 9] (fun u i wr => ∃ (k n1 : Nat) (v1 : Value), v1 = u ∧ i = .int .i64 k ∧ k ≤ m ∧ n1 ≤ n + 4 * k ∧ Hid (TextG B w wr v1 n1 (zs ++ rowN true ws row k))) (fun _ i _ => m - (intOf i).toNat)
  case atStart => exact ⟨0, n, v, rfl, rfl, Nat.zero_le _, by omega, by show TextG _ _ _ _ _ _; rw [rowN_zero, List.append_nil]; exact unhide HT⟩
  case round =>
    obtain ⟨k, n1, u, hu, rfl, hk, hn1, HK⟩ := hrel
    subst hu
    by_cases hlt : k < m
    · have hlti : (k : Int) < (m : Int) := by omega
      obtain ⟨b, o, e, -, hc⟩ := ((unhide HR).lowB (unhide HA) (unhide HK).low).get hlt
      subst e
      obtain ⟨h0, h1, h2⟩ := unhide HO k hlt
      obtain ⟨x, hx⟩ : ∃ x, row.getD k 0 = x := ⟨_, rfl⟩
      rw [hx] at hc h0 h1 h2
      have HX := hide hx
      have HC := hide (Any.utf8_AppendRune_plain Tryd.appRune (by kernel_rfl) B u n1 _ x (by omega) (by omega) wr (unhide HK).own (by omega) (unhide HK).le)
      have HE := hide (encZ_rune h0 h1 h2)
      have hw32 : IntKind.i32.wrap x = x := by simp [IntKind.wrap, IntKind.bits, IntKind.signed]; omega
      have hl4 := (encZ_len (r := x)).2
      have HL : Hid ((Lib.runeCells x).length = (encZ x).length) := by show _ = _; rw [encZ_rune h0 h1 h2]; simp
      clear hx h0 h1 h2
      go_wp2_with fail
      refine (unhide HC).mono ?_
      rintro e w' ⟨v', rfl, hown, ob, hg⟩
      rw [unhide HE] at hown
      have HS : Hid (TextG B w w' v' (n1 + (encZ x).length) (zs ++ rowN true ws row (k + 1))) := by
        show TextG _ _ _ _ _ _
        rw [rowN_succ, ← List.append_assoc]
        have : cellT true ws row k = encZ x := by unfold cellT; rw [if_pos rfl, unhide HX]
        rw [this]
        exact (unhide HK).step (by have h9 := hown; simp only [List.length_map] at h9; exact h9) hg
      clear hown hg
      go_wp2_with fail
      go_roundw
      case rel => exact ⟨k + 1, _, v', rfl, by go_num, by omega, by omega, HS⟩
      case measure => simp [intOf]; omega
    · have hlti : ¬ (k : Int) < (m : Int) := by omega
      obtain rfl : k = m := by omega
      go_wp2_with fail
      go_ret
      exact ⟨u, n1, rfl, hn1, unhide HK⟩

end Go.Proofs.YtcjhbeljhmocbaaDoor
