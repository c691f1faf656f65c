import Derived.Test.YtkgcmpmgaghdhaaGreatDoorImplDecodeCode
import Derived.Test.YtkgcmpmgaghdhaaGreatDoorImplDecodeLen
import Derived.Test.YtkgcmpmgaghdhaaGreatDoorImplDecodeGo
namespace Go.Proofs.YtkgcmpmgaghdhaaGreatDoor
open Go.RowKit Go.Shelf

theorem implDecode_any (c d : Bool) (a1 a2 b1 b2 : Option Addr) (n1 n2 m1 m2 c1 c2 d1 d2 : Nat) (sh dt sh' dt' : List Int) (w : World) (h1 : Row w a1 n1 sh) (h2 : Row w a2 n2 dt) (k1 : Row w b1 m1 sh') (k2 : Row w b2 m2 dt') (ga gb : Addr) (hG : GlD w ga gb) :
    Calls Tryz.prog 25 #[.agg #[.bool c, .slice a1 n1 c1, .slice a2 n2 c2], .agg #[.bool d, .slice b1 m1 d1, .slice b2 m2 d2]] w (GivesOwn w (decode c d sh dt sh' dt')) := by
  by_cases hok : arrOk c sh dt = true ∧ arrOk d sh' dt' = true
  case neg =>
    have e1 : codeList c d sh dt sh' dt' = 3 := by unfold codeList; rw [if_neg (by simpa using hok)]
    have e2 : codeList d c sh' dt' sh dt = 3 := by unfold codeList; rw [if_neg (fun h => hok ⟨h.2, h.1⟩)]
    have e3 : decode c d sh dt sh' dt' = noAns 3 := by unfold decode; rw [if_neg hok]
    rw [e3]
    exact implDecode_code c d a1 a2 b1 b2 n1 n2 m1 m2 c1 c2 d1 d2 sh dt sh' dt' w h1 h2 k1 k2 3 3 (hide e1) (hide e2) 3 rfl (by decide)
  obtain ⟨ok1, ok2⟩ := hok
  have e1 : codeList c d sh dt sh' dt' = listCode c n1 := by unfold codeList; rw [if_pos ⟨ok1, ok2⟩, h1.len]
  have e2 : codeList d c sh' dt' sh dt = listCode d m1 := by unfold codeList; rw [if_pos ⟨ok2, ok1⟩, k1.len]
  have ec : orOf (listCode c n1) (listCode d m1) = decCode c d n1 m1 := by unfold orOf decCode; rfl
  by_cases h0 : decCode c d n1 m1 = 0
  case neg =>
    rw [decode_list ok1 ok2 (decCode c d n1 m1) (by rw [h1.len, k1.len]) h0]
    exact implDecode_code c d a1 a2 b1 b2 n1 n2 m1 m2 c1 c2 d1 d2 sh dt sh' dt' w h1 h2 k1 k2 _ _ (hide e1) (hide e2) _ ec h0
  have hl : n1 ≤ 1 ∧ m1 ≤ 1 := by
    have h0' := h0
    unfold decCode listCode at h0'
    refine ⟨?_, ?_⟩
    · rcases Nat.lt_or_ge 1 n1 with h | h
      · simp [h] at h0'
      · exact h
    · rcases Nat.lt_or_ge 1 m1 with h | h
      · by_cases hc : 1 < n1
        · simp [hc] at h0'
        · cases c <;> simp [h, hc] at h0'
      · exact h
  by_cases hlen : n2 ≠ 1 ∧ n2 ≠ decLen n2 m2
  · rw [decode_len ok1 ok2 (by rw [h1.len, k1.len]; exact h0) n2 m2 h2.len k2.len hlen.1 hlen.2]
    exact implDecode_len c d a1 a2 b1 b2 n1 n2 m1 m2 c1 c2 d1 d2 sh dt sh' dt' w h1 h2 k1 k2 _ _ (hide e1) (hide e2) (ec.trans h0) ok1 ok2 hl.1 hl.2 hlen
  · have hne : n2 = 1 ∨ n2 = decLen n2 m2 := by omega
    rw [decode_go ok1 ok2 (by rw [h1.len, k1.len]; exact h0) n2 m2 h2.len k2.len hne]
    cases hs : decStep dt dt' n2 m2 (decLen n2 m2) with
    | none => exact implDecode_none c d a1 a2 b1 b2 n1 n2 m1 m2 c1 c2 d1 d2 sh dt sh' dt' w h1 h2 k1 k2 _ _ (hide e1) (hide e2) ga gb hG (ec.trans h0) ok1 ok2 hl.1 hl.2 hne hs
    | some v => exact implDecode_some c d a1 a2 b1 b2 n1 n2 m1 m2 c1 c2 d1 d2 sh dt sh' dt' w h1 h2 k1 k2 _ _ (hide e1) (hide e2) ga gb hG (ec.trans h0) ok1 ok2 hl.1 hl.2 hne v hs

end Go.Proofs.YtkgcmpmgaghdhaaGreatDoor
