import Derived.Test.YtcjhbeljhmocbaaDoorSpecRowN
import Derived.Test.YtcjhbeljhmocbaaDoorMMath
import Derived.Test.YtcjhbeljhmocbaaDoorBoxB
import Derived.Test.YtcjhbeljhmocbaaDoorArrSpec
import Derived.Test.YtcjhbeljhmocbaaDoorMadeRow
import Derived.Deep.DeepCutAuto
import Derived.Deep.RegionWith
namespace Go.Proofs.YtcjhbeljhmocbaaDoor
open Go.RowKit

/-- What Show gives. -/
def GivesText (w : World) (zs : List Int) (e : Ending) (w' : World) : Prop := ∃ g k cap, e = .returned (.slice (some ⟨g, 0, none⟩) k cap) ∧ RowB w' (some ⟨g, 0, none⟩) k zs ∧ Below w.heap.size w w'

theorem rowOk_of {c : Bool} {sh dt : List Int} (h : arrOk c sh dt = true) : RowOk c dt := fun k hk => by
  have h1 := List.all_eq_true.1 (arr_parts' h).2.2.2 (dt.getD k 0) (by simp [hk])
  cases c
  · simp [dataOk] at h1
    simpa using h1
  · simp [dataOk, runeOk] at h1
    simp
    omega

set_option maxRecDepth 20000 in
set_option maxHeartbeats 8000000 in
theorem Show_low (c : Bool) (a1 a2 : Addr) (n1 n2 c1 c2 : Nat) (sh dt : List Int) (w : World) (h1 : Row w (some a1) n1 sh) (h2 : Row w (some a2) n2 dt) (hlow : arrOk c sh dt = true → n1 < 2) :
    Calls Tryd.prog 5 #[.agg #[.bool c, .slice (some a1) n1 c1, .slice (some a2) n2 c2]] w (GivesText w (showT c sh dt)) := by
  have hl1 := hide h1.len
  have hl2 := hide h2.len
  have hs1 := h1.small
  have hs2 := h2.small
  have H1 := hide h1
  have H2 := hide h2
  clear h1 h2
  obtain ⟨Q, hQ⟩ : ∃ Q, Q = w.alloc (.cells #[.bool c, .slice (some a1) n1 c1, .slice (some a2) n2 c2] 28) := ⟨_, rfl⟩
  have HQ := hide hQ
  have HBX : Hid (Box Q w.heap.size c (.slice (some a1) n1 c1) (.slice (some a2) n2 c2)) := by rw [hQ]; exact Box.new w _ _ _
  have HBQ : Hid (Below w.heap.size w Q) := by rw [hQ]; exact (Below.refl _ _).alloc (Nat.le_refl _) _
  have hQs : Q.heap.size = w.heap.size + 1 := by rw [hQ]; simp
  have HG0 := hide (GrowB.start Q)
  have HB0 : Hid (Below Q.heap.size Q (Q.alloc (.cells #[] 5))) := (Below.refl _ _).alloc (Nat.le_refl _) _
  obtain ⟨r1, hr1⟩ : ∃ r, arrOk c sh dt = r := ⟨_, rfl⟩
  have HR := hide hr1
  clear hr1 hQ
  go_enter Tryd.func5, Tryd.ntmps5
  have hc := ArrayOk_eq c (some a1) (some a2) n1 n2 c1 c2 sh dt _ (((unhide H1).below (Nat.le_refl _) (unhide HBQ)).below (Nat.le_refl _) (unhide HB0)) (((unhide H2).below (Nat.le_refl _) (unhide HBQ)).below (Nat.le_refl _) (unhide HB0)) r1 HR
  rw [unhide HQ] at hc
  cases r1 with
  | false =>
    go_wp2_with (go_at_call 14; refine hc.mono ?_; rintro e w2 ⟨he, hb2⟩; subst he; rw [← unhide HQ] at hb2; have HB2 := hide hb2; have HG2 := hide ((unhide HG0).below hb2); have HX2 := hide (((unhide HBX).below (Nat.le_refl _) (unhide HB0)).below (Nat.le_refl _) hb2); have HBL := hide ((unhide HBQ).trans (((unhide HB0).trans (hb2.mono (unhide HB0).size)).mono (by omega))); obtain ⟨x0, x1, x2⟩ := (unhide HX2).cells; clear hb2 hc)
    go_ret
    exact ⟨Q.heap.size, 0, 0, by rw [unhide HQ]; simp, by rw [show_bad (unhide HR)]; exact ⟨rfl, .inl rfl⟩, unhide HBL⟩
  | true =>
    have hn2 : n2 ≤ 10000 := by
      have e := arr_parts' (unhide HR)
      have e1 := prodAll_bd sh e.1 sh.length
      rw [List.take_length, prodAll_count sh e.1, e.2.1, unhide hl2] at e1
      omega
    have HOK := hide (rowOk_of (unhide HR))
    have hn1 : n1 < 2 := hlow (unhide HR)
    · have hn1i : (n1 : Int) < 2 := by omega
      have HS := hide (show_low (unhide HR) (by rw [unhide hl1]; exact hn1))
      have hmk := run_make_row' (P := Tryd.prog) 22 3 (.int .i64 0) 8 Tryd.underlying22 info_int rfl .i64 .i64 n2 (by omega) (by omega)
      clear hn1
      go_upto_region 6 with (go_at_call 14; refine hc.mono ?_; rintro e w2 ⟨he, hb2⟩; subst he; rw [← unhide HQ] at hb2; have HB2 := hide hb2; have HG2 := hide ((unhide HG0).below hb2); have HX2 := hide (((unhide HBX).below (Nat.le_refl _) (unhide HB0)).below (Nat.le_refl _) hb2); have HBL := hide ((unhide HBQ).trans (((unhide HB0).trans (hb2.mono (unhide HB0).size)).mono (by omega))); obtain ⟨x0, x1, x2⟩ := (unhide HX2).cells; clear hb2 hc)
      have hqz := (unhide HG2).low.size
      have H22 := hide ((unhide H2).below (Nat.le_refl _) (unhide HBL))
      have hrq : Q.heap.size < w2.heap.size := by have := (unhide HG2).row; rcases (unhide HG2).own.2 with ⟨h', _⟩ | ⟨g', cap', cur, h', _, hg, _⟩; (· simp at h'); (· cases h'; exact lt_of_block hg)
      have HMD : Hid (Row (w2.alloc (.cells (madeCells #[.int .i64 0] n2) 3)) (some ⟨w2.heap.size, 0, none⟩) n2 (List.replicate n2 0)) := (Blk.made w2 n2 w2.heap.size rfl).row (by simp) (by omega)
      have HGM : Hid (GrowB Q (w2.alloc (.cells (madeCells #[.int .i64 0] n2) 3)) Q.heap.size 0 0 []) := (unhide HG2).below ((Below.refl _ _).alloc (Nat.le_refl _) _)
      have HRW : Hid (∀ W, Below (w2.alloc (.cells (madeCells #[.int .i64 0] n2) 3)).heap.size (w2.alloc (.cells (madeCells #[.int .i64 0] n2) 3)) W → Calls Tryd.prog 15 #[.slice (some ⟨Q.heap.size, 0, none⟩) 0 0, .agg #[.bool c, .slice (some a1) n1 c1, .slice (some a2) n2 c2], .slice (some a2) n2 c2, .slice (some ⟨w2.heap.size, 0, none⟩) n2 n2] W (GivesLine Q W Q.heap.size ([] ++ lineT c (List.replicate n2 0) dt))) := fun W hW =>
        l3Row_any c Q W Q.heap.size 0 0 [] ((unhide HGM).below hW) (by omega) (.slice (some a1) n1 c1) (.slice (some a2) n2 c2) a2 ⟨w2.heap.size, 0, none⟩ n2 c2 n2 n2 dt (List.replicate n2 0) (((unhide H22).alloc _).below (Nat.le_refl _) hW) ((unhide HMD).below (Nat.le_refl _) hW) hn2 (Nat.le_refl _) (fun k hk hA => by have := (unhide H2).hi hA; omega) (fun k hk hA => by have := at_eq hA; omega) (unhide HOK) (fun k hk => by simp [hk])
      have HBM : Hid (Below w.heap.size w (w2.alloc (.cells (madeCells #[.int .i64 0] n2) 3))) := (unhide HBL).alloc (unhide HBL).size _
      have HQS := hide hQs
      have hwl : w.heap.size < w2.heap.size := by omega
      clear hQs
      rw [show w.heap.size + 1 = Q.heap.size from (unhide HQS).symm]
      go_region_with (first | (go_at_call 15; refine (unhide HRW _ (by first | exact (Below.refl _ _).drew | exact Below.refl _ _)).mono ?_; rintro e w5 ⟨g', cap', j', rfl, hF⟩; have HF := hide hF; clear hF))
      all_goals go_wp2_with fail
      all_goals go_ret
      all_goals
        refine ⟨g', j', cap', rfl, ?_, ?_⟩
        · rw [unhide HS, unhide hl2]
          exact (unhide HF).grow.row
        · have hz := (unhide HBM).size
          have hq := unhide HQS
          first
            | exact (unhide HBM).drew.trans ((unhide HF).but.below (by simpa using hz) (by rintro k rfl; omega))
            | exact (unhide HBM).trans ((unhide HF).but.below (by simpa using hz) (by rintro k rfl; omega))

end Go.Proofs.YtcjhbeljhmocbaaDoor
