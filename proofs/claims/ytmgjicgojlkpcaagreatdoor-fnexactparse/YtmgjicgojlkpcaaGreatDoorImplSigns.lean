import Derived.Test.YtmgjicgojlkpcaaGreatDoorImplWrite
namespace Go.Proofs.YtmgjicgojlkpcaaGreatDoor
open Go.RowKit

/-- The closure as a value, the printer's cells, and the printer. -/
def wrV (tb fb : Nat) : Value := .func (.func 35) #[] #[.pointer (some ⟨fb, 0, none⟩), .pointer (some ⟨tb, 0, none⟩)]
abbrev prC (a : Option Addr) (n cap tb fb : Nat) : Array Value := #[.slice a n cap, .func (.func 35) #[] #[.pointer (some ⟨fb, 0, none⟩), .pointer (some ⟨tb, 0, none⟩)]]
abbrev prV (a : Option Addr) (n cap tb fb : Nat) : Value := .agg (prC a n cap tb fb)
abbrev prO (a : Option Addr) (n cap tb fb : Nat) : Obj := .cells (prC a n cap tb fb) 73 (0, 0)

section
variable {Z w w0 : World} {tb fb : Nat} {bs : List (Nat × Obj)} {st : List UInt8 × Bool}

theorem IB.one (h : IX Z tb fb w st) (a : Option Addr) (n cap : Nat) : IB Z tb fb w [(w.heap.size, prO a n cap tb fb)] (w.alloc (prO a n cap tb fb)) st := (IB.start h).push _ (noB_of (by decide))

theorem IB.two (h : IX Z tb fb w st) (a : Option Addr) (n cap : Nat) (v0 v1 v2 v3 v4 v5 : Value) : IB Z tb fb w [(w.heap.size + 1, .cells #[v0, v1, v2, v3, v4, v5] 47 (0, 0)), (w.heap.size, prO a n cap tb fb)] ((w.alloc (prO a n cap tb fb)).alloc (.cells #[v0, v1, v2, v3, v4, v5] 47)) st := by
  have h1 := (IB.one h a n cap).push (.cells #[v0, v1, v2, v3, v4, v5] 47) (noB_of (by decide))
  have e : (w.alloc (prO a n cap tb fb)).heap.size = w.heap.size + 1 := by simp
  rw [e] at h1
  exact h1

end

set_option maxRecDepth 20000 in
set_option maxHeartbeats 800000 in
theorem saysI_sign (Z : World) (tb fb : Nat) (hG : GlTree Z) (a : Option Addr) (n cap : Nat) (s : ByteArray) (c : Nat) (hc : c ∈ signCs) (hs : s = bstr (encZ ((c : Nat) : Int))) :
    SaysI Z tb fb 128 #[prV a n cap tb fb, .string s] (fun st => sayS looksD st c) := by
  have hsz : s.size ≤ 4 := by rw [hs, bstr_size]; exact enc_len _
  have e1 : tokText 4 0 s = s := by
    have h1 := tok_sign hc
    rwa [← hs] at h1
  have e2 : looksD.sg c = s.data.toList := by
    have h1 := looks_sg c
    rwa [← hs] at h1
  clear hs hc
  have hW := saysI_congr (write_sign Z tb fb hG 4 0 s (.inr rfl) (by omega) (by omega) s e1) (F' := fun st => sayS looksD st c) (fun st => by unfold sayS; rw [e2])
  clear e1 e2
  unfold tokArgs at hW
  have HW := hide hW
  have eg := eg_write
  clear hW
  intro w st h hq
  have HQ := hide hq
  have HB0 := hide (IB.one h a n cap)
  clear h hq
  go_enter Tryz.func128, Tryz.ntmps128
  go_wp2_with fail
  refine ((unhide HB0).call (unhide HW) (unhide HQ)).mono ?_
  rintro e w1 ⟨⟨v1, rfl⟩, hb1⟩
  have HB1 := hide hb1
  clear hb1
  go_wp2_with fail
  go_end0
  exact ⟨⟨_, rfl⟩, (unhide HB1).ix, (unhide HB1).kept⟩

set_option maxRecDepth 20000 in
set_option maxHeartbeats 800000 in
theorem saysI_name (Z : World) (tb fb : Nat) (hG : GlTree Z) (a : Option Addr) (n cap : Nat) (s : ByteArray) (hi : Bool) (hs : nameB s hi = true) (hz : s.size ≤ 1048576) :
    SaysI Z tb fb 127 #[prV a n cap tb fb, .string s] (fun st => sayP st s.data.toList true) := by
  have hW := write_word Z tb fb hG 3 0 s (.inr rfl) (by omega) hz s (tok_named hs)
  unfold tokArgs at hW
  have HW := hide hW
  have eg := eg_write
  clear hW
  intro w st h hq
  have HQ := hide hq
  have HB0 := hide (IB.one h a n cap)
  clear h hq
  go_enter Tryz.func127, Tryz.ntmps127
  go_wp2_with fail
  refine ((unhide HB0).call (unhide HW) (unhide HQ)).mono ?_
  rintro e w1 ⟨⟨v1, rfl⟩, hb1⟩
  have HB1 := hide hb1
  clear hb1
  go_wp2_with fail
  go_end0
  exact ⟨⟨_, rfl⟩, (unhide HB1).ix, (unhide HB1).kept⟩

end Go.Proofs.YtmgjicgojlkpcaaGreatDoor
