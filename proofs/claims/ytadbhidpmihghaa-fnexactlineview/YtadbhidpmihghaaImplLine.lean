import Derived.Test.YtadbhidpmihghaaImplDist
import Derived.Test.YtadbhidpmihghaaImplVHead
import Derived.Test.YtadbhidpmihghaaVLawLine
namespace Go.Proofs.Ytadbhidpmihghaa
open Go.RowKit

theorem linelay {w w1 : World} {c : Int} {v1 v2 : Value} (hb : Below (w.alloc (.cells #[.int .i64 c, v1, v2] 24)).heap.size (w.alloc (.cells #[.int .i64 c, v1, v2] 24)) w1) : Below w.heap.size w w1 :=
  ((Below.refl _ _).alloc (Nat.le_refl _) _).trans (hb.mono (by simp))

set_option maxRecDepth 20000 in
set_option maxHeartbeats 4000000 in
theorem LineView_impl : ImplVLine := by
  intro c a1 a2 n1 n2 c1 c2 sh st w h1 h2
  obtain ⟨r, hr⟩ : ∃ r, formed c sh st = r := ⟨_, rfl⟩
  have HR := hide hr
  have H1 := hide h1
  have H2 := hide h2
  clear hr h1 h2
  cases r with
  | false =>
    have HF := hide (lineV_no (unhide HR))
    go_enter Try.func22, Try.ntmps22
    go_wp2_with (go_at_call 38; refine (layoutOf_no c a1 a2 n1 n2 c1 c2 sh st _ ((unhide H1).alloc _) ((unhide H2).alloc _) (unhide HR)).mono ?_; rintro e w1 ⟨rfl, hb1⟩; have HB := hide (linelay hb1); clear hb1)
    refine bodyPost_ret (v := .tuple #[.int .i64 0, .bool false]) (by simp [results, Try.results22, go_sem]) rfl ?_
    rw [unhide HF]
    exact ⟨rfl, (unhide HB).alloc (unhide HB).size _⟩
  | true =>
    have HF := hide (lineV_go (unhide HR))
    obtain ⟨f, hf⟩ : ∃ f, fl c sh st = f := ⟨_, rfl⟩
    have HFL := hide hf
    have HDC : Hid (∀ w0 : World, Calls Try.prog 43 #[lay f] w0 fun e w' => e = .returned (.tuple #[.int .i64 (lineL (placesOf c sh st)).1, .bool (lineL (placesOf c sh st)).2]) ∧ Below w0.heap.size w0 w') := fun w0 => distance_any c sh st (unhide HR) f HFL w0
    generalize lineL (placesOf c sh st) = r9 at *
    clear hf
    go_enter Try.func22, Try.ntmps22
    go_wp2_with fail
    refine (layoutOf_yes c a1 a2 n1 n2 c1 c2 sh st _ ((unhide H1).alloc _) ((unhide H2).alloc _) (unhide HR) f HFL).mono ?_
    rintro e w1 ⟨rfl, hb1⟩
    have HB := hide ((linelay hb1).alloc (linelay hb1).size (objL f))
    have HL := hide (LBox.new w1 f)
    clear hb1
    go_upto_region 2 with fail
    generalize w1.alloc (objL f) = W at *
    generalize w1.heap.size = p at *
    clear w1
    obtain ⟨x0, x1, x2, x3, x4, x5, x6, x7, x8, x9, x10, x11, y0, y1, y2, y3, y4, y5, y6, y7, y8, y9, y10, y11, xl⟩ := (unhide HL).all
    go_wp2_with (go_at_call 43; refine (unhide HDC _).mono ?_; rintro e w2 ⟨rfl, hb2⟩; have HB2 := hide ((unhide HB).trans (hb2.mono (unhide HB).size)); clear hb2)
    refine bodyPost_ret (v := .tuple #[.int .i64 r9.1, .bool r9.2]) (by simp [results, Try.results22, go_sem]) rfl ?_
    rw [unhide HF]
    exact ⟨rfl, unhide HB2⟩

end Go.Proofs.Ytadbhidpmihghaa
