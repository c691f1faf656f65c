import Derived.Test.YtgjpchnkodnieaaGreatDoorImplDrawAx
import Derived.Test.YtgjpchnkodnieaaGreatDoorImplOpOn
import Derived.Test.YtgjpchnkodnieaaGreatDoorImplSc
import Derived.Test.YtgjpchnkodnieaaGreatDoorOuterMath
import Derived.Laws.EntriesVeiled
namespace Go.Proofs.YtgjpchnkodnieaaGreatDoor
open Go.RowKit Go.Shelf

theorem three_boxes (w : World) (c d : Bool) (v1 v2 u1 u2 : Value) :
    let W := ((w.alloc (.cells #[.bool c, v1, v2] 25)).alloc (.cells #[.bool d, u1, u2] 25)).alloc (.cells #[.bool false, .slice none 0 0, .slice none 0 0] 25)
    Box W w.heap.size c v1 v2 ∧ Box W (w.heap.size + 1) d u1 u2 ∧ Box W (w.heap.size + 2) false (.slice none 0 0) (.slice none 0 0) ∧ Below w.heap.size w W ∧ W.heap.size = w.heap.size + 3 := by
  refine ⟨((Box.new w c v1 v2).alloc _).alloc _, ?_, ?_, (((Below.refl _ _).alloc (Nat.le_refl _) _).alloc (by simp) _).alloc (by simp <;> omega) _, by simp⟩
  · have := (Box.new (w.alloc (.cells #[.bool c, v1, v2] 25)) d u1 u2).alloc (.cells #[.bool false, .slice none 0 0, .slice none 0 0] 25)
    simpa using this
  · have := Box.new ((w.alloc (.cells #[.bool c, v1, v2] 25)).alloc (.cells #[.bool d, u1, u2] 25)) false (.slice none 0 0) (.slice none 0 0)
    simpa using this

theorem both_set {w W : World} {P Q R : Nat} {c d c' d' : Bool} {a1 a2 b1 b2 : Addr} {p1 p2 q1 q2 e1 e2 f1 f2 : Nat} {s x s' y : List Int} {o1 o2 o3 o4 : Option Addr} {l1 l2 l3 l4 k1 k2 k3 k4 : Nat} {v1 v2 : Value} {cr : Bool} (hP : Box W P c' (.slice o1 l1 k1) (.slice o2 l2 k2)) (hQ : Box W Q d' (.slice o3 l3 k3) (.slice o4 l4 k4)) (hR : Box W R cr v1 v2) (hne : P ≠ Q) (hr1 : R ≠ P) (hr2 : R ≠ Q) (hp : w.heap.size ≤ P) (hq : w.heap.size ≤ Q)
    (h1 : Row W (some a1) p1 s) (h2 : Row W (some a2) p2 x) (h3 : Row W (some b1) q1 s') (h4 : Row W (some b2) q2 y) (hb : Below w.heap.size w W) :
    Both w P Q c d a1 a2 b1 b2 p1 p2 q1 q2 e1 e2 f1 f2 s x s' y ((((((W.setCell ⟨P, 0, none⟩ (.bool c)).setCell ⟨P, 1, none⟩ (.slice (some a1) p1 e1)).setCell ⟨P, 2, none⟩ (.slice (some a2) p2 e2)).setCell ⟨Q, 0, none⟩ (.bool d)).setCell ⟨Q, 1, none⟩ (.slice (some b1) q1 f1)).setCell ⟨Q, 2, none⟩ (.slice (some b2) q2 f2)) ∧
    Box ((((((W.setCell ⟨P, 0, none⟩ (.bool c)).setCell ⟨P, 1, none⟩ (.slice (some a1) p1 e1)).setCell ⟨P, 2, none⟩ (.slice (some a2) p2 e2)).setCell ⟨Q, 0, none⟩ (.bool d)).setCell ⟨Q, 1, none⟩ (.slice (some b1) q1 f1)).setCell ⟨Q, 2, none⟩ (.slice (some b2) q2 f2)) R cr v1 v2 := by
  have hQ1 := ((hQ.other (q := ⟨P, 0, none⟩) hne.symm (.bool c)).other (q := ⟨P, 1, none⟩) hne.symm (.slice (some a1) p1 e1)).other (q := ⟨P, 2, none⟩) hne.symm (.slice (some a2) p2 e2)
  have hP1 := (((hP.sets (c' := c) (u1 := .slice (some a1) p1 e1) (u2 := .slice (some a2) p2 e2)).other (q := ⟨Q, 0, none⟩) hne (.bool d)).other (q := ⟨Q, 1, none⟩) hne (.slice (some b1) q1 f1)).other (q := ⟨Q, 2, none⟩) hne (.slice (some b2) q2 f2)
  exact ⟨⟨hP1, hQ1.sets, (h1.sets hP _ _ _).sets hQ1 _ _ _, (h2.sets hP _ _ _).sets hQ1 _ _ _, (h3.sets hP _ _ _).sets hQ1 _ _ _, (h4.sets hP _ _ _).sets hQ1 _ _ _, (((((hb.setCell hp _).setCell hp _).setCell hp _).setCell hq _).setCell hq _).setCell hq _⟩, (((((hR.other (q := ⟨P, 0, none⟩) hr1 _).other (q := ⟨P, 1, none⟩) hr1 _).other (q := ⟨P, 2, none⟩) hr1 _).other (q := ⟨Q, 0, none⟩) hr2 _).other (q := ⟨Q, 1, none⟩) hr2 _).other (q := ⟨Q, 2, none⟩) hr2 _⟩

theorem inn_bad_iff {g : Int} {c d : Bool} : innBad g c d = true ↔ (c || d) = true ∧ opEq g = false := by unfold innBad; simp

theorem innEl_code (f g : Int) (c d : Bool) (xs ys : List Int) (n A k : Nat) : codeIn (innEl f g c d xs ys n A k).2 := by
  unfold innEl
  split
  · exact .inr (.inl rfl)
  · split
    · exact foldR_codeIn _ _
    · exact code_in_of fun i _ => elemFn_codeI g c d _ _

theorem eql_op_nilI (g : Nat) (lb : Array Value) (w : World) : (binOp .eql 137 (.func (.func g) #[] lb) .nilFunc).run Tryz.prog w = .ok (.bool false) w := by kernel_rfl

theorem eql_nil_opI (w : World) : (binOp .eql 137 .nilFunc .nilFunc).run Tryz.prog w = .ok (.bool true) w := by kernel_rfl

set_option maxRecDepth 20000 in
set_option maxHeartbeats 16000000 in
theorem implInner_any (f g : Int) (c d : Bool) (a1 a2 b1 b2 : Addr) (n1 n2 m1 m2 c1 c2 d1 d2 : Nat) (sh dt sh' dt' : List Int) (w : World) (h1 : Row w (some a1) n1 sh) (h2 : Row w (some a2) n2 dt) (k1 : Row w (some b1) m1 sh') (k2 : Row w (some b2) m2 dt') (hc1 : n1 ≤ c1) (hd1 : m1 ≤ d1) (ga gb : Addr) (hG : GlF w ga gb) :
    Calls Tryz.prog 41 #[.int .i64 f, .int .i64 g, .agg #[.bool c, .slice (some a1) n1 c1, .slice (some a2) n2 c2], .agg #[.bool d, .slice (some b1) m1 d1, .slice (some b2) m2 d2]] w (GivesOwn w (inner f g c d sh dt sh' dt')) := by
  have H1 := hide h1
  have H2 := hide h2
  have K1 := hide k1
  have K2 := hide k2
  have HG := hide hG
  have hs1 := h1.small
  have hs2 := h2.small
  have hs3 := k1.small
  have hs4 := k2.small
  clear h1 h2 k1 k2 hG
  obtain ⟨rf, hrf⟩ : ∃ r, opIn f = r := ⟨_, rfl⟩
  obtain ⟨rg, hrg⟩ : ∃ r, opIn g = r := ⟨_, rfl⟩
  obtain ⟨r1, hr1⟩ : ∃ r, arrOk c sh dt = r := ⟨_, rfl⟩
  obtain ⟨r2, hr2⟩ : ∃ r, arrOk d sh' dt' = r := ⟨_, rfl⟩
  have HOF := hide hrf
  have HOG := hide hrg
  have HR1 := hide hr1
  have HR2 := hide hr2
  obtain ⟨bad, hbad⟩ : ∃ b : Bool, b = !(rf && (rg && (r1 && r2))) := ⟨_, rfl⟩
  have HBAD := hide hbad
  clear hrf hrg hr1 hr2 hbad
  obtain ⟨hB0, hB1, hB2, hbw, hW⟩ := three_boxes w c d (.slice (some a1) n1 c1) (.slice (some a2) n2 c2) (.slice (some b1) m1 d1) (.slice (some b2) m2 d2)
  go_enter Tryz.func41, Tryz.ntmps41
  go_upto_region 1 with fail
  generalize ((w.alloc (.cells #[.bool c, .slice (some a1) n1 c1, .slice (some a2) n2 c2] 25)).alloc (.cells #[.bool d, .slice (some b1) m1 d1, .slice (some b2) m2 d2] 25)).alloc (.cells #[.bool false, .slice none 0 0, .slice none 0 0] 25) = W at *
  have HB0 := hide hB0
  have HB1 := hide hB1
  have HB2 := hide hB2
  have HBW := hide hbw
  clear hB0 hB1 hB2 hbw
  go_cut [32] (fun b wx => b = .bool bad ∧ Box wx w.heap.size c (.slice (some a1) n1 c1) (.slice (some a2) n2 c2) ∧ Box wx (w.heap.size + 1) d (.slice (some b1) m1 d1) (.slice (some b2) m2 d2) ∧ Box wx (w.heap.size + 2) false (.slice none 0 0) (.slice none 0 0) ∧ Below w.heap.size w wx)
  case first =>
    as_aux_lemma =>
      obtain ⟨x0, x1, x2, x3, x4, x5, x6⟩ := (unhide HB0).all
      cases rf with
      | false =>
        go_wp2_with (first | (go_at_call_of 110 (Value.int .i64 f); refine (isScalarFn_any f _ _ HOF).mono ?_; rintro e w0 ⟨rfl, hw⟩; obtain rfl := hw.symm) | (go_at_call 110; refine (isScalarFn_any g _ _ HOG).mono ?_; rintro e w0 ⟨rfl, hw⟩; obtain rfl := hw.symm) | (go_at_call_of 51 (Value.slice (some a1) n1 c1); refine (implArrayOk_eq _ _ _ _ _ _ _ sh dt _ ((unhide H1).below (Nat.le_refl _) (unhide HBW)) ((unhide H2).below (Nat.le_refl _) (unhide HBW)) _ HR1).mono ?_; rintro e w1 ⟨rfl, hb1⟩; have HKA := hide hb1; obtain ⟨y0, y1, y2, y3, y4, y5, y6⟩ := ((unhide HB1).below (Nat.le_refl _) hb1).all; clear hb1) | (go_at_call_of 51 (Value.slice (some b1) m1 d1); refine (implArrayOk_eq _ _ _ _ _ _ _ sh' dt' _ ((unhide K1).below (Nat.le_refl _) ((unhide HBW).trans ((unhide HKA).mono (by omega)))) ((unhide K2).below (Nat.le_refl _) ((unhide HBW).trans ((unhide HKA).mono (by omega)))) _ HR2).mono ?_; rintro e w2 ⟨rfl, hb2⟩; have HKB := hide ((unhide HKA).trans (hb2.mono (unhide HKA).size)); clear hb2))
        go_meet
        case rel => exact ⟨by rw [unhide HBAD]; rfl, unhide HB0, unhide HB1, unhide HB2, unhide HBW⟩
      | true =>
        cases rg with
        | false =>
          go_wp2_with (first | (go_at_call_of 110 (Value.int .i64 f); refine (isScalarFn_any f _ _ HOF).mono ?_; rintro e w0 ⟨rfl, hw⟩; obtain rfl := hw.symm) | (go_at_call 110; refine (isScalarFn_any g _ _ HOG).mono ?_; rintro e w0 ⟨rfl, hw⟩; obtain rfl := hw.symm) | (go_at_call_of 51 (Value.slice (some a1) n1 c1); refine (implArrayOk_eq _ _ _ _ _ _ _ sh dt _ ((unhide H1).below (Nat.le_refl _) (unhide HBW)) ((unhide H2).below (Nat.le_refl _) (unhide HBW)) _ HR1).mono ?_; rintro e w1 ⟨rfl, hb1⟩; have HKA := hide hb1; obtain ⟨y0, y1, y2, y3, y4, y5, y6⟩ := ((unhide HB1).below (Nat.le_refl _) hb1).all; clear hb1) | (go_at_call_of 51 (Value.slice (some b1) m1 d1); refine (implArrayOk_eq _ _ _ _ _ _ _ sh' dt' _ ((unhide K1).below (Nat.le_refl _) ((unhide HBW).trans ((unhide HKA).mono (by omega)))) ((unhide K2).below (Nat.le_refl _) ((unhide HBW).trans ((unhide HKA).mono (by omega)))) _ HR2).mono ?_; rintro e w2 ⟨rfl, hb2⟩; have HKB := hide ((unhide HKA).trans (hb2.mono (unhide HKA).size)); clear hb2))
          go_meet
          case rel => exact ⟨by rw [unhide HBAD]; rfl, unhide HB0, unhide HB1, unhide HB2, unhide HBW⟩
        | true =>
          cases r1 with
          | false =>
            go_wp2_with (first | (go_at_call_of 110 (Value.int .i64 f); refine (isScalarFn_any f _ _ HOF).mono ?_; rintro e w0 ⟨rfl, hw⟩; obtain rfl := hw.symm) | (go_at_call 110; refine (isScalarFn_any g _ _ HOG).mono ?_; rintro e w0 ⟨rfl, hw⟩; obtain rfl := hw.symm) | (go_at_call_of 51 (Value.slice (some a1) n1 c1); refine (implArrayOk_eq _ _ _ _ _ _ _ sh dt _ ((unhide H1).below (Nat.le_refl _) (unhide HBW)) ((unhide H2).below (Nat.le_refl _) (unhide HBW)) _ HR1).mono ?_; rintro e w1 ⟨rfl, hb1⟩; have HKA := hide hb1; obtain ⟨y0, y1, y2, y3, y4, y5, y6⟩ := ((unhide HB1).below (Nat.le_refl _) hb1).all; clear hb1) | (go_at_call_of 51 (Value.slice (some b1) m1 d1); refine (implArrayOk_eq _ _ _ _ _ _ _ sh' dt' _ ((unhide K1).below (Nat.le_refl _) ((unhide HBW).trans ((unhide HKA).mono (by omega)))) ((unhide K2).below (Nat.le_refl _) ((unhide HBW).trans ((unhide HKA).mono (by omega)))) _ HR2).mono ?_; rintro e w2 ⟨rfl, hb2⟩; have HKB := hide ((unhide HKA).trans (hb2.mono (unhide HKA).size)); clear hb2))
            go_meet
            case rel => exact ⟨by rw [unhide HBAD]; rfl, (unhide HB0).below (Nat.le_refl _) (unhide HKA), (unhide HB1).below (Nat.le_refl _) (unhide HKA), (unhide HB2).below (Nat.le_refl _) (unhide HKA), (unhide HBW).trans ((unhide HKA).mono (by omega))⟩
          | true =>
            cases r2 with
            | false =>
              go_wp2_with (first | (go_at_call_of 110 (Value.int .i64 f); refine (isScalarFn_any f _ _ HOF).mono ?_; rintro e w0 ⟨rfl, hw⟩; obtain rfl := hw.symm) | (go_at_call 110; refine (isScalarFn_any g _ _ HOG).mono ?_; rintro e w0 ⟨rfl, hw⟩; obtain rfl := hw.symm) | (go_at_call_of 51 (Value.slice (some a1) n1 c1); refine (implArrayOk_eq _ _ _ _ _ _ _ sh dt _ ((unhide H1).below (Nat.le_refl _) (unhide HBW)) ((unhide H2).below (Nat.le_refl _) (unhide HBW)) _ HR1).mono ?_; rintro e w1 ⟨rfl, hb1⟩; have HKA := hide hb1; obtain ⟨y0, y1, y2, y3, y4, y5, y6⟩ := ((unhide HB1).below (Nat.le_refl _) hb1).all; clear hb1) | (go_at_call_of 51 (Value.slice (some b1) m1 d1); refine (implArrayOk_eq _ _ _ _ _ _ _ sh' dt' _ ((unhide K1).below (Nat.le_refl _) ((unhide HBW).trans ((unhide HKA).mono (by omega)))) ((unhide K2).below (Nat.le_refl _) ((unhide HBW).trans ((unhide HKA).mono (by omega)))) _ HR2).mono ?_; rintro e w2 ⟨rfl, hb2⟩; have HKB := hide ((unhide HKA).trans (hb2.mono (unhide HKA).size)); clear hb2))
              go_meet
              case rel => exact ⟨by rw [unhide HBAD]; rfl, (unhide HB0).below (Nat.le_refl _) (unhide HKB), (unhide HB1).below (Nat.le_refl _) (unhide HKB), (unhide HB2).below (Nat.le_refl _) (unhide HKB), (unhide HBW).trans ((unhide HKB).mono (by omega))⟩
            | true =>
              go_wp2_with (first | (go_at_call_of 110 (Value.int .i64 f); refine (isScalarFn_any f _ _ HOF).mono ?_; rintro e w0 ⟨rfl, hw⟩; obtain rfl := hw.symm) | (go_at_call 110; refine (isScalarFn_any g _ _ HOG).mono ?_; rintro e w0 ⟨rfl, hw⟩; obtain rfl := hw.symm) | (go_at_call_of 51 (Value.slice (some a1) n1 c1); refine (implArrayOk_eq _ _ _ _ _ _ _ sh dt _ ((unhide H1).below (Nat.le_refl _) (unhide HBW)) ((unhide H2).below (Nat.le_refl _) (unhide HBW)) _ HR1).mono ?_; rintro e w1 ⟨rfl, hb1⟩; have HKA := hide hb1; obtain ⟨y0, y1, y2, y3, y4, y5, y6⟩ := ((unhide HB1).below (Nat.le_refl _) hb1).all; clear hb1) | (go_at_call_of 51 (Value.slice (some b1) m1 d1); refine (implArrayOk_eq _ _ _ _ _ _ _ sh' dt' _ ((unhide K1).below (Nat.le_refl _) ((unhide HBW).trans ((unhide HKA).mono (by omega)))) ((unhide K2).below (Nat.le_refl _) ((unhide HBW).trans ((unhide HKA).mono (by omega)))) _ HR2).mono ?_; rintro e w2 ⟨rfl, hb2⟩; have HKB := hide ((unhide HKA).trans (hb2.mono (unhide HKA).size)); clear hb2))
              go_meet
              case rel => exact ⟨by rw [unhide HBAD]; rfl, (unhide HB0).below (Nat.le_refl _) (unhide HKB), (unhide HB1).below (Nat.le_refl _) (unhide HKB), (unhide HB2).below (Nat.le_refl _) (unhide HKB), (unhide HBW).trans ((unhide HKB).mono (by omega))⟩
  case rest =>
    clear HB0 HB1 HB2 HBW hW W
    obtain ⟨W, hWe⟩ : ∃ x, x = wc := ⟨_, rfl⟩
    subst hWe
    obtain ⟨rfl, hB0, hB1, hB2, hbw⟩ := hcut
    have HB0 := hide hB0
    have HB1 := hide hB1
    have HB2 := hide hB2
    have HBW := hide hbw
    clear hB0 hB1 hB2 hbw
    cases bad with
    | true =>
      have HS : Hid (inner f g c d sh dt sh' dt' = noAns 3) := inner_bad (by
        rintro ⟨e1, e2, e3, e4⟩
        have := unhide HBAD
        rw [← unhide HR1, ← unhide HR2, ← unhide HOF, ← unhide HOG, e1, e2, e3, e4] at this
        simp at this)
      obtain ⟨q0, q1', q2', q3, q4, q5, q6⟩ := (unhide HB2).all
      go_wp2
      refine bodyPost_ret (v := .tuple #[.agg #[.bool false, .slice none 0 0, .slice none 0 0], .int .i64 3]) (by simp [results, Tryz.results41, go_sem, q0, q1', q2']) rfl ?_
      rw [unhide HS]
      exact gives_none ((((unhide HBW).setCell (by simp <;> omega) _).setCell (by simp <;> omega) _).setCell (by simp <;> omega) _)
    | false =>
      have hall : rf = true ∧ rg = true ∧ r1 = true ∧ r2 = true := by
        have := unhide HBAD
        simpa using this.symm
      obtain ⟨rfl, rfl, rfl, rfl⟩ := hall
      have HGO := hide (inner_go (unhide HR1) (unhide HR2) (unhide HOF) (unhide HOG))
      have hNb := innN_bd (shapeIn_of (unhide HR1)).1 (shapeIn_of (unhide HR2)).1
      obtain ⟨N, hN⟩ : ∃ N : Nat, innN sh sh' = N := ⟨(innN sh sh').toNat, by omega⟩
      rw [hN] at hNb
      obtain ⟨hNb0, hNb1⟩ := hNb
      have hN10 : N ≤ 10000 := by omega
      have HNN := hide hN
      have HFIRST : Hid (axisN (stSh (N : Int) sh') true = (N : Int)) := by have := axisN_first (sh := sh) (sh' := sh'); rw [hN] at this; exact this
      have HGN : Hid (inner f g c d sh dt sh' dt' = innCore f g c d (stSh (N : Int) sh) (stDt (N : Int) sh dt) (stSh (N : Int) sh') (stDt (N : Int) sh' dt') (N : Int)) := by have := unhide HGO; rw [hN] at this; exact this
      clear hN HBAD HGO hNb0 hNb1
      obtain ⟨x0, x1, x2, x3, x4, x5, x6⟩ := (unhide HB0).all
      obtain ⟨y0, y1, y2, y3, y4, y5, y6⟩ := (unhide HB1).all
      go_upto_region 3 with fail
      go_cut [] (fun wx => ∃ a1' p1 e1 a2' p2 e2 b1' q1 f1 b2' q2 f2, Both w w.heap.size (w.heap.size + 1) c d a1' a2' b1' b2' p1 p2 q1 q2 e1 e2 f1 f2 (stSh N sh) (stDt N sh dt) (stSh N sh') (stDt N sh' dt') wx ∧ Box wx (w.heap.size + 2) false (.slice none 0 0) (.slice none 0 0) ∧ p1 ≤ e1 ∧ q1 ≤ f1)
      case first =>
        as_aux_lemma =>
          go_wp2_with (go_at_call 111; refine (spread_any c d a1 a2 b1 b2 n1 n2 m1 m2 c1 c2 d1 d2 N sh dt sh' dt' _ ((unhide H1).below (Nat.le_refl _) (unhide HBW)) ((unhide H2).below (Nat.le_refl _) (unhide HBW)) ((unhide K1).below (Nat.le_refl _) (unhide HBW)) ((unhide K2).below (Nat.le_refl _) (unhide HBW)) hc1 hd1 (unhide HR1) (unhide HR2) (unhide HNN) hN10).mono ?_; rintro e w2 ⟨a1', p1, e1, a2', p2, e2, b1', q1, f1, b2', q2, f2, rfl, g1, g2, g3, g4, hpe, hqf, hb2⟩; have G1 := hide g1; have G2 := hide g2; have G3 := hide g3; have G4 := hide g4; have HKA := hide hb2; obtain ⟨x0, x1, x2, x3, x4, x5, x6⟩ := ((unhide HB0).below (Nat.le_refl _) hb2).all; obtain ⟨y0, y1, y2, y3, y4, y5, y6⟩ := ((unhide HB1).below (Nat.le_refl _) hb2).all; clear g1 g2 g3 g4 hb2)
          go_meet
          case rel =>
            have hs := both_set (w := w) (c := c) (d := d) (e1 := e1) (e2 := e2) (f1 := f1) (f2 := f2) ((unhide HB0).below (Nat.le_refl _) (unhide HKA)) ((unhide HB1).below (Nat.le_refl _) (unhide HKA)) ((unhide HB2).below (Nat.le_refl _) (unhide HKA)) (by omega) (by omega) (by omega) (Nat.le_refl _) (by omega) (unhide G1) (unhide G2) (unhide G3) (unhide G4) ((unhide HBW).trans ((unhide HKA).mono (by have := (unhide HBW).size; omega)))
            exact ⟨a1', p1, e1, a2', p2, e2, b1', q1, f1, b2', q2, f2, hs.1, hs.2, hpe, hqf⟩
      case rest =>
        have hO1 := hide (st_ok (unhide HR1) (Int.natCast_nonneg N) (by omega : (N : Int) ≤ 10000))
        have hO2 := hide (st_ok (unhide HR2) (Int.natCast_nonneg N) (by omega : (N : Int) ≤ 10000))
        clear x0 x1 x2 x3 x4 x5 x6 y0 y1 y2 y3 y4 y5 y6 HB0 HB1 HB2 HBW W H1 H2 K1 K2 HR1 HR2 HNN
        obtain ⟨W, hWe⟩ : ∃ x, x = wc := ⟨_, rfl⟩
        subst hWe
        obtain ⟨a1', p1, e1, a2', p2, e2, b1', q1, f1, b2', q2, f2, ⟨hB4, hB5, hR1, hR2, hS1, hS2, hBW⟩, hB6, hpe, hqf⟩ := hcut
        obtain ⟨s, hse⟩ : ∃ s, s = stSh (N : Int) sh := ⟨_, rfl⟩
        obtain ⟨x, hxe⟩ : ∃ x, x = stDt (N : Int) sh dt := ⟨_, rfl⟩
        obtain ⟨s', hse'⟩ : ∃ s, s = stSh (N : Int) sh' := ⟨_, rfl⟩
        obtain ⟨y, hye⟩ : ∃ x, x = stDt (N : Int) sh' dt' := ⟨_, rfl⟩
        have hne : s ≠ [] := by rw [hse]; exact stSh_ne _ _
        have hne' : s' ≠ [] := by rw [hse']; exact stSh_ne _ _
        have HFI := unhide HFIRST
        have HGN' := unhide HGN
        rw [← hse, ← hxe, ← hse', ← hye] at HGN'
        rw [← hse'] at HFI
        rw [← hse] at hR1
        rw [← hxe] at hR2
        rw [← hse'] at hS1
        rw [← hye] at hS2
        have hok1 := unhide hO1
        have hok2 := unhide hO2
        rw [← hse, ← hxe] at hok1
        rw [← hse', ← hye] at hok2
        clear hse hxe hse' hye HFIRST HGN hO1 hO2 hs1 hs2 hs3 hs4 hc1 hd1
        have HGN := hide HGN'
        have C4 := hide hB4
        have C5 := hide hB5
        have C6 := hide hB6
        have HBW := hide hBW
        have HX1 := hide hR1
        have HX2 := hide hR2
        have HY1 := hide hS1
        have HY2 := hide hS2
        have HOK1 := hide hok1
        have HOK2 := hide hok2
        obtain ⟨hsin, _, hs5⟩ := shapeIn_of hok1
        obtain ⟨hsin', _, hs5'⟩ := shapeIn_of hok2
        have hlx := hR2.len
        have hly := hS2.len
        have hls := hR1.len
        have hls' := hS1.len
        obtain ⟨B, L, u, hax, hprod, hBb, hLb, _⟩ := axis_is false hok1 hne
        obtain ⟨Bc, L2, A, hax', hprod', _, hL2b, hAb⟩ := axis_is true hok2 hne'
        have hu : u = 1 := by have := axisA_last hne; have := hax.a; omega
        have hBc : Bc = 1 := by have := axisB_first s'; have := hax'.b; omega
        have hL2e : L2 = N := by have := hax'.l; omega
        have hp0 : 0 < p1 := by rw [← hls]; exact List.length_pos_iff.mpr hne
        have hq0 : 0 < q1 := by rw [← hls']; exact List.length_pos_iff.mpr hne'
        obtain ⟨p, hp⟩ : ∃ p, p1 = p + 1 := ⟨p1 - 1, by omega⟩
        obtain ⟨q, hq⟩ : ∃ q, q1 = q + 1 := ⟨q1 - 1, by omega⟩
        have HCA : Hid (∀ wx, Below W.heap.size W wx → Calls Tryz.prog 112 #[.slice (some a1') p1 e1, .bool false] wx (AxisOk wx B L u (without s false))) := fun wx hwx => by
          subst hp
          exact axisOf_any false a1' p e1 B L u s wx (hR1.below (Nat.le_refl _) hwx) hpe hsin (by omega) hax
        have HCB : Hid (∀ wx, Below W.heap.size W wx → Calls Tryz.prog 112 #[.slice (some b1') q1 f1, .bool true] wx (AxisOk wx Bc L2 A (without s' true))) := fun wx hwx => by
          subst hq
          exact axisOf_any true b1' q f1 Bc L2 A s' wx (hS1.below (Nat.le_refl _) hwx) hqf hsin' (by omega) hax'
        have HAX := hide hax
        have HAX' := hide hax'
        have HP1 : Hid (B * L * 1 = x.length) := by rw [hu] at hprod; exact hprod
        have HP2 : Hid (1 * L2 * A = y.length) := by rw [hBc] at hprod'; exact hprod'
        have HU := hide hu
        have HBC := hide hBc
        have HL2 := hide hL2e
        have hWs := hB6.lt
        clear hB4 hB5 hB6 hBW hR1 hR2 hS1 hS2 hok1 hok2 hsin hsin' HGN' HFI hs5 hs5' hax hax' hp hq hprod hprod' hu hBc hL2e
        obtain ⟨x0, x1, x2, x3, x4, x5, x6⟩ := (unhide C4).all
        obtain ⟨y0, y1, y2, y3, y4, y5, y6⟩ := (unhide C5).all
        go_upto_region 4 with fail
        go_cut [10, 11] (fun v10 v11 wx => Axes W B L u Bc L2 A (without s false) (without s' true) v10 v11 wx)
        case first =>
          as_aux_lemma =>
            clear x0 x2 x3 x4 x5 x6 y0 y2 y3 y4 y5 y6 hne hne' hlx hly hls hls' HGN HX1 HX2 HY1 HY2 HOK1 HOK2 HAX HAX' HP1 HP2 HU HL2 HOF HOG HG hpe hqf hBb hLb hL2b hAb hN10
            refine region4 _ W (by simp) w.heap.size (w.heap.size + 1) rfl rfl (some a1') (some b1') p1 e1 q1 f1 B L u Bc L2 A (without s false) (without s' true) (fun wx hwx => ⟨((unhide C4).below (Nat.le_refl _) hwx).cells.2.1, ((unhide C5).below (Nat.le_refl _) hwx).cells.2.1⟩) (unhide HCA) (unhide HCB) (fun _ _ _ _ _ h => h) ?_
            intro p10 p11 oa ol oc oa' ol' oc' wx hA hB hr hr' hb
            simp only [out4, fr4, pt, if_true, Act.put, List.setIfInBounds_toArray, List.set_cons_zero, List.set_cons_succ]
            go_wp2_with fail
            go_meet
            case rel => exact ⟨_, _, oa, ol, oc, oa', ol', oc', rfl, rfl, hA, hB, hr, hr', hb⟩
        case rest =>
          clear x0 x1 x2 x3 x4 x5 x6 y0 y1 y2 y3 y4 y5 y6 HCA HCB
          obtain ⟨w4, hw4⟩ : ∃ x, x = wc := ⟨_, rfl⟩
          subst hw4
          obtain ⟨p10, p11, oa, ol, oc, oa', ol', oc', rfl, rfl, hA10, hA11, hr10, hr11, hb4⟩ := hcut
          have hWz := (unhide HBW).size
          have HB4 := hide ((unhide HBW).trans (hb4.mono hWz))
          have D4 := hide ((unhide C4).below (Nat.le_refl _) hb4)
          have D5 := hide ((unhide C5).below (Nat.le_refl _) hb4)
          have D6 := hide ((unhide C6).below (Nat.le_refl _) hb4)
          have HXd := hide ((unhide HX2).below (Nat.le_refl _) hb4)
          have HYd := hide ((unhide HY2).below (Nat.le_refl _) hb4)
          have hol : ol ≤ 5 := by have := hr10.len; have h5 := (shapeIn_of (unhide HOK1)).2.2; unfold without at this; split at this <;> simp at this <;> omega
          have hol' : ol' ≤ 5 := by have := hr11.len; have h5 := (shapeIn_of (unhide HOK2)).2.2; unfold without at this; split at this <;> simp at this <;> omega
          have HA10 := hide hA10
          have HA11 := hide hA11
          have HR10 := hide hr10
          have HR11 := hide hr11
          have hz4 := (unhide D6).lt
          obtain ⟨i0, i1, i2, i3⟩ := hA10.cells
          obtain ⟨j0, j1, j2, j3⟩ := hA11.cells
          clear hb4 hA10 hA11 hr10 hr11 C4 C5 C6 HX1 HX2 HY1 HY2 HBW hWs hWz
          by_cases hLN : L = L2
          · subst hLN
            have hLq : ((L : Int) != (L : Int)) = false := by simp
            obtain ⟨zs, hzs⟩ : ∃ zs, zs = without s false ++ without s' true := ⟨_, rfl⟩
            obtain ⟨sb, hsb⟩ : ∃ r, shapeB zs = r := ⟨_, rfl⟩
            have HSBz := hide hsb
            have HZS := hide hzs
            clear hzs hsb
            go_upto_region 7 with fail
            go_cut [12] (fun v wx => ∃ ash csh, v = .slice ash (ol + ol') csh ∧ Own wx (w.heap.size + 3) ash (ol + ol') zs ∧ Below w4.heap.size w4 wx)
            case first =>
              as_aux_lemma =>
                go_wp2_with (go_at_call 113; refine (Concat2_opt _ oa oa' ol ol' oc oc' (without s false) (without s' true) _ (by simp) (by simp) ((unhide HR10).alloc _) ((unhide HR11).alloc _) (by omega) (by omega)).mono ?_; rintro e w5 ⟨ash, csh, rfl, hO, hb5⟩; have HO := hide hO; have HK : Hid (Below w4.heap.size w4 w5) := ((Below.refl w4.heap.size w4).alloc (Nat.le_refl _) _).trans (hb5.mono (by simp)); clear hO hb5)
                go_meet
                case rel => exact ⟨ash, csh, rfl, by rw [unhide HZS]; exact (unhide HO).mono (by simp; omega), unhide HK⟩
            case rest =>
              obtain ⟨w5, hw5⟩ : ∃ x, x = wc := ⟨_, rfl⟩
              subst hw5
              obtain ⟨ash, csh, rfl, hO, hb5⟩ := hcut
              have HO := hide hO
              have HB5 := hide ((unhide HB4).trans (hb5.mono (by omega)))
              have E4 := hide ((unhide D4).below (Nat.le_refl _) hb5)
              have E5 := hide ((unhide D5).below (Nat.le_refl _) hb5)
              have E6 := hide ((unhide D6).below (Nat.le_refl _) hb5)
              have HA10' := hide ((unhide HA10).low hb5)
              have HA11' := hide ((unhide HA11).low hb5)
              have HXe := hide ((unhide HXd).below (Nat.le_refl _) hb5)
              have HYe := hide ((unhide HYd).below (Nat.le_refl _) hb5)
              have hz5 := (unhide E6).lt
              clear hO hb5 i0 i1 i2 i3 j0 j1 j2 j3 HR10 HR11 D4 D5 D6 HA10 HA11 HXd HYd HB4 hz4
              cases sb with
              | false =>
                have HS : Hid (inner f g c d sh dt sh' dt' = noAns 7) := by
                  show _ = _
                  rw [unhide HGN]
                  unfold innCore
                  rw [if_neg (by rw [(unhide HAX).l, unhide HL2]; simp), if_pos (by rw [← unhide HZS]; exact unhide HSBz)]
                obtain ⟨q0, q1', q2', q3, q4, q5, q6⟩ := (unhide E6).all
                go_wp2_with (go_at_call 114; refine (shapeOk_eq _ _ _ zs _ (unhide HO).row _ HSBz).mono ?_; rintro e w6 ⟨rfl, hw⟩; obtain rfl := hw.symm)
                refine bodyPost_ret (v := .tuple #[.agg #[.bool false, .slice none 0 0, .slice none 0 0], .int .i64 7]) (by simp [results, Tryz.results41, go_sem, q0, q1', q2']) rfl ?_
                rw [unhide HS]
                exact gives_none ((((unhide HB5).setCell (by simp <;> omega) _).setCell (by simp <;> omega) _).setCell (by simp <;> omega) _)
              | true =>
                obtain ⟨F, hF⟩ : ∃ F, F = innEl f g c d x y L A := ⟨_, rfl⟩
                have HG2 : Hid (inner f g c d sh dt sh' dt' = gatherAns false zs F (B * A)) := by
                  show _ = _
                  rw [unhide HGN]
                  unfold innCore
                  rw [if_neg (by rw [(unhide HAX).l, unhide HL2]; simp), if_neg (by rw [← unhide HZS, unhide HSBz]; simp), ← unhide HZS, (unhide HAX').a, (unhide HAX).b, Int.toNat_natCast, Int.toNat_natCast, Int.toNat_natCast, ← unhide HL2, hF]
                have HCN : Hid (countOf zs = ((B * A : Nat) : Int)) := by
                  show _ = _
                  have e1 := without_in false (unhide HOK1) B L u (unhide HAX) hne
                  have e2 := without_in true (unhide HOK2) Bc L A (unhide HAX') hne'
                  rw [← prodAll_count _ (unhide HSBz), unhide HZS, prodAll_append, prodAll_count _ e1.1, prodAll_count _ e2.1, e1.2, e2.2, unhide HU, unhide HBC]
                  simp
                obtain ⟨n, hn⟩ : ∃ n, n = B * A := ⟨_, rfl⟩
                have HN := hide hn
                have HCN' : Hid (countOf zs = ((n : Nat) : Int)) := by rw [hn]; exact unhide HCN
                have HG3 : Hid (inner f g c d sh dt sh' dt' = gatherAns false zs F n) := by rw [hn]; exact unhide HG2
                obtain ⟨ib, hib⟩ : ∃ b, innBad g c d = b := ⟨_, rfl⟩
                have HIB := hide hib
                have HF := hide hF
                clear hF hn hib HG2 HCN
                obtain ⟨x0, x1, x2, x3, x4, x5, x6⟩ := (unhide E4).all
                obtain ⟨y0, y1, y2, y3, y4, y5, y6⟩ := (unhide E5).all
                go_upto_region 10 with (go_at_call 114; refine (shapeOk_eq _ _ _ zs _ (unhide HO).row _ HSBz).mono ?_; rintro e w6 ⟨rfl, hw⟩; obtain rfl := hw.symm)
                go_cut [13] (fun r wx => ∃ po v, r = .pointer (some ⟨po, 0, none⟩) ∧ wx.cell? ⟨po, 0, none⟩ = some v ∧ ((ib = true ∧ v = .nilFunc) ∨ (ib = false ∧ OpIs ga gb (elemFn g c d) v wx)) ∧ Below w5.heap.size w5 wx)
                case first =>
                  as_aux_lemma =>
                    have HGl := hide ((unhide HG).gl.below (unhide HB5))
                    cases ib with
                    | true =>
                      go_wp2_with (go_at_call 115; refine (operationOn_any g c d a1' a2' b1' b2' p1 p2 q1 q2 e1 e2 f1 f2 ga gb _ (unhide HGl) (unhide HOG)).mono ?_; rintro e w6 ⟨v, rfl, hv, hb6⟩; obtain ⟨_, _, rfl⟩ | ⟨hy, _⟩ := hv; rotate_left; exact absurd (inn_bad_iff.mp (unhide HIB)) hy; have HK := hide hb6; clear hb6)
                      go_meet
                      case rel => exact ⟨_, .nilFunc, rfl, cell_of_row _ _ 0 _ _ (0, 0) (heap_alloc_last w6 _), (Or.inl ⟨by simp, rfl⟩), (unhide HK).alloc (unhide HK).size _⟩
                    | false =>
                      go_wp2_with (go_at_call 115; refine (operationOn_any g c d a1' a2' b1' b2' p1 p2 q1 q2 e1 e2 f1 f2 ga gb _ (unhide HGl) (unhide HOG)).mono ?_; rintro e w6 ⟨v, rfl, hv, hb6⟩; obtain ⟨hy1, hy2, _⟩ | ⟨_, hv⟩ := hv; exact absurd (inn_bad_iff.mpr ⟨hy1, hy2⟩) (by rw [unhide HIB]; simp); have HV := hide hv; obtain ⟨go, lo, rfl, _, _⟩ := hv; have HK := hide hb6; clear hb6)
                      go_meet
                      case rel => exact ⟨_, _, rfl, cell_of_row _ _ 0 _ _ (0, 0) (heap_alloc_last w6 _), (Or.inr ⟨by simp, (unhide HV).alloc _⟩), (unhide HK).alloc (unhide HK).size _⟩
                case rest =>
                  obtain ⟨w7, hw7⟩ : ∃ x, x = wc := ⟨_, rfl⟩
                  subst hw7
                  obtain ⟨po, vo, rfl, hco, hvo, hb7⟩ := hcut
                  have HB7 := hide ((unhide HB5).trans (hb7.mono (by omega)))
                  have HVO := hide hvo
                  have HO7 := hide ((unhide HO).below (Nat.le_refl _) hb7)
                  have G4 := hide ((unhide E4).below (Nat.le_refl _) hb7)
                  have G5 := hide ((unhide E5).below (Nat.le_refl _) hb7)
                  have G6 := hide ((unhide E6).below (Nat.le_refl _) hb7)
                  have HA10 := hide ((unhide HA10').low hb7)
                  have HA11 := hide ((unhide HA11').low hb7)
                  have HXf := hide ((unhide HXe).below (Nat.le_refl _) hb7)
                  have HYf := hide ((unhide HYe).below (Nat.le_refl _) hb7)
                  have hz7 := (unhide G6).lt
                  clear hb7 hvo x0 x1 x2 x3 x4 x5 x6 y0 y1 y2 y3 y4 y5 y6 E4 E5 E6 HA10' HA11' HXe HYe HB5 HO hz5
                  obtain ⟨bq, hbq⟩ : ∃ b : Bool, b = (ib && decide ((0 : Int) < (n : Int))) := ⟨_, rfl⟩
                  have HBQ := hide hbq
                  clear hbq
                  go_upto_region 11 with fail
                  go_cut [72] (fun b wx => w7 = wx ∧ b = .bool bq)
                  case first =>
                    as_aux_lemma =>
                      have e1 := eql_op_nilI
                      have e2 := eql_nil_opI
                      cases ib with
                      | false =>
                        obtain ⟨h, _⟩ | ⟨_, go, lo, rfl, _, _⟩ := unhide HVO
                        · cases h
                        go_wp2_with fail
                        go_meet
                        case rel => exact ⟨rfl, by rw [unhide HBQ]; rfl⟩
                      | true =>
                        obtain ⟨_, rfl⟩ | ⟨h, _⟩ := unhide HVO
                        rotate_left
                        · cases h
                        go_wp2_with (go_at_call 116; refine (cellsOf_count _ _ _ zs _ (unhide HO7).row (unhide HSBz) _ HCN').mono ?_; rintro e w8 ⟨rfl, hw⟩; obtain rfl := hw.symm)
                        go_meet
                        case rel => exact ⟨rfl, by rw [unhide HBQ]; simp⟩
                  case rest =>
                    obtain ⟨rfl, rfl⟩ := hcut
                    cases bq with
                    | true =>
                      have hb2 : ib = true ∧ (0 : Int) < (n : Int) := by have := unhide HBQ; simpa using this.symm
                      have HS : Hid (inner f g c d sh dt sh' dt' = noAns 3) := by
                        show _ = _
                        have hF0 : F 0 = (0, 3) := by rw [unhide HF]; unfold innEl; rw [if_pos (by rw [unhide HIB]; exact hb2.1)]
                        have := gather_bad (c := false) (sh := zs) (f := F) (k := 0) (n := n) rfl (by omega) (by rw [hF0]; simp)
                        rw [unhide HG3, this, hF0]
                      clear hb2
                      obtain ⟨q0, q1', q2', q3, q4, q5, q6⟩ := (unhide G6).all
                      go_wp2
                      refine bodyPost_ret (v := .tuple #[.agg #[.bool false, .slice none 0 0, .slice none 0 0], .int .i64 3]) (by simp [results, Tryz.results41, go_sem, q0, q1', q2']) rfl ?_
                      rw [unhide HS]
                      exact gives_none ((((unhide HB7).setCell (by simp <;> omega) _).setCell (by simp <;> omega) _).setCell (by simp <;> omega) _)
                    | false =>
                      have HNB : Hid (∀ k, k < n → innBad g c d = false) := fun k hk => by
                        have hb := unhide HBQ
                        cases ib with
                        | false => exact unhide HIB
                        | true =>
                          have : ¬ ((0 : Int) < (n : Int)) := by simpa using hb.symm
                          omega
                      have HVO' : Hid (∀ k, k < n → OpIs ga gb (elemFn g c d) vo w7) := fun k hk => by
                        obtain ⟨h, _⟩ | ⟨_, h⟩ := unhide HVO
                        · have := unhide HNB k hk
                          rw [unhide HIB, h] at this
                          cases this
                        · exact h
                      clear HVO HBQ HIB
                      go_upto_region 13 with fail
                      go_cut [14] (fun r wx => ∃ pf vf, r = .pointer (some ⟨pf, 0, none⟩) ∧ wx.cell? ⟨pf, 0, none⟩ = some vf ∧ FoldIs ga gb f vf wx ∧ Below w7.heap.size w7 wx)
                      case first =>
                        as_aux_lemma =>
                          go_wp2_with (go_at_call 117; refine (foldingBy_any f ga gb _ ((unhide HG).below (unhide HB7)) (unhide HOF)).mono ?_; rintro e w8 ⟨v, rfl, hv, hb8⟩; have HV := hide hv; obtain ⟨gF, lF, rfl, _, _⟩ := hv; have HK := hide hb8; clear hb8)
                          go_meet
                          case rel => exact ⟨_, _, rfl, cell_of_row _ _ 0 _ _ (0, 0) (heap_alloc_last w8 _), (unhide HV).below ((Below.refl _ _).alloc (Nat.le_refl _) _), (unhide HK).alloc (unhide HK).size _⟩
                      case rest =>
                        obtain ⟨w9, hw9⟩ : ∃ x, x = wc := ⟨_, rfl⟩
                        subst hw9
                        obtain ⟨pf, vf, rfl, hcf, hvf, hb9⟩ := hcut
                        have HB9 := hide ((unhide HB7).trans (hb9.mono (by omega)))
                        have HO9 := hide ((unhide HO7).below (Nat.le_refl _) hb9)
                        have J6 := hide ((unhide G6).below (Nat.le_refl _) hb9)
                        have HEL : Hid (ElemOk ga gb 119 #[.pointer (some ⟨p10, 0, none⟩), .pointer (some ⟨w.heap.size, 0, none⟩), .pointer (some ⟨p11, 0, none⟩), .pointer (some ⟨w.heap.size + 1, 0, none⟩), .pointer (some ⟨po, 0, none⟩), .pointer (some ⟨pf, 0, none⟩)] F n w9) := by
                          intro k hk W' hW'
                          have h7 : Below w7.heap.size w7 W' := hb9.trans (hW'.mono hb9.size)
                          rw [unhide HF]
                          exact innClo f g c d ga gb a2' b2' vo vf _ _ oa oa' p10 w.heap.size p11 (w.heap.size + 1) po pf B L u Bc A p2 e2 q2 f2 k ol oc ol' oc' x y W' ((unhide HVO' k hk).below h7) (hvf.below hW') ((unhide HA10).low h7) ((unhide HA11).low h7) ((unhide G4).below (Nat.le_refl _) h7) ((unhide G5).below (Nat.le_refl _) h7) ((h7.cell (World.block_lt_of_cell? _ _ hco)).trans hco) ((hW'.cell (World.block_lt_of_cell? _ _ hcf)).trans hcf) ((unhide HXf).below (Nat.le_refl _) h7) ((unhide HYf).below (Nat.le_refl _) h7) (unhide HU) ((unhide HP1).trans hlx) ((unhide HP2).trans hly) (by rw [← unhide HN]; exact hk) hBb hLb hAb (fun k hk => dataOk_bd (unhide HOK1) (by rw [hlx]; exact hk)) (fun k hk => dataOk_bd (unhide HOK2) (by rw [hly]; exact hk)) (unhide HNB k hk)
                        have HCO : Hid (∀ k, k < n → codeIn (F k).2) := fun k _ => by rw [unhide HF]; exact innEl_code _ _ _ _ _ _ _ _ _
                        have HGl := hide ((unhide HG).gl.below (unhide HB9))
                        have hz9 := (unhide J6).lt
                        obtain ⟨q0, q1', q2', q3, q4, q5, q6⟩ := (unhide J6).all
                        have hn16 : n ≤ 17592186044416 := by
                          have h1 := (prodAll_bd zs (unhide HSBz) zs.length).2
                          rw [List.take_length, prodAll_count _ (unhide HSBz), unhide HCN'] at h1
                          omega
                        clear hb9 hvf hcf HXf HYf HA10 HA11 G4 G5 G6 HVO' HNB
                        by_cases h0 : firstCode F n = 0
                        · have H0 := hide h0
                          clear h0
                          go_wp2_with (go_at_call 118; refine (reckoned_any ga gb 119 _ eg_inn F n _ _ _ zs _ (unhide HO9).row (unhide HSBz) (unhide HCN') (unhide HGl) (unhide HCO) (unhide HEL)).mono ?_; rintro e w10 ⟨hr, hb10⟩; obtain ⟨_, p', hpl, rfl, hblk⟩ | ⟨hne0, _⟩ := hr; rotate_left; exact absurd (unhide H0) hne0; have HBK := hide hblk; have HKD := hide hb10; obtain ⟨r0, r1, r2, r3, r4, r5, r6⟩ := ((unhide J6).below (Nat.le_refl _) hb10).all; clear hblk hb10)
                          refine bodyPost_ret (v := .tuple #[.agg #[.bool false, .slice ash (ol + ol') csh, .slice (some ⟨p', 0, none⟩) n n], .int .i64 0]) (by simp [results, Tryz.results41, go_sem, r0, r1, r2]) rfl ?_
                          have hO := (unhide HO9).below (Nat.le_refl _) (unhide HKD)
                          have hk : ∀ k, At ash (ol + ol') k → k ≠ w.heap.size + 1 + 1 := fun k hk => by have := (unhide HO9).low hk; omega
                          have hD : Own w10 w.heap.size (some ⟨p', 0, none⟩) n (vals F n) := (unhide HBK).own (vals_len _ _) hn16 (by omega)
                          have hk2 : ∀ k, At (some ⟨p', 0, none⟩) n k → k ≠ w.heap.size + 1 + 1 := fun k hk => by have := at_eq hk; omega
                          rw [unhide HG3, gather_good (unhide H0)]
                          refine ⟨ash, ol + ol', csh, some ⟨p', 0, none⟩, n, n, rfl, (((hO.mono (by omega)).other hk _).other hk _).other hk _, ((hD.other hk2 _).other hk2 _).other hk2 _, fun k h1 h2 => ?_, ((((unhide HB9).trans ((unhide HKD).mono (by omega))).setCell (by simp <;> omega) _).setCell (by simp <;> omega) _).setCell (by simp <;> omega) _⟩
                          have := (unhide HO9).row.hi h1
                          have := at_eq h2
                          omega
                        · have H0 := hide h0
                          obtain ⟨cc, hcc⟩ : ∃ cc, firstCode F n = cc := ⟨_, rfl⟩
                          have HS : Hid (inner f g c d sh dt sh' dt' = noAns cc) := by
                            show _ = _
                            rw [unhide HG3, ← hcc]
                            unfold gatherAns
                            rw [if_neg h0]
                          have HCC := hide hcc
                          clear h0 hcc
                          go_wp2_with (go_at_call 118; refine (reckoned_any ga gb 119 _ eg_inn F n _ _ _ zs _ (unhide HO9).row (unhide HSBz) (unhide HCN') (unhide HGl) (unhide HCO) (unhide HEL)).mono ?_; rintro e w10 ⟨hr, hb10⟩; obtain ⟨h00, _⟩ | ⟨_, he⟩ := hr; exact absurd h00 (unhide H0); rw [unhide HCC] at he; subst he; have HKD := hide hb10; obtain ⟨r0, r1, r2, r3, r4, r5, r6⟩ := ((unhide J6).below (Nat.le_refl _) hb10).all; clear hb10)
                          refine bodyPost_ret (v := .tuple #[.agg #[.bool false, .slice none 0 0, .slice none 0 0], .int .i64 cc]) (by simp [results, Tryz.results41, go_sem, r0, r1, r2]) rfl ?_
                          rw [unhide HS]
                          exact gives_none (((((unhide HB9).trans ((unhide HKD).mono (by omega))).setCell (by simp <;> omega) _).setCell (by simp <;> omega) _).setCell (by simp <;> omega) _)
          · have hLq : ((L : Int) != (L2 : Int)) = true := by simp; omega
            have HS : Hid (inner f g c d sh dt sh' dt' = noAns 5) := by
              show _ = _
              rw [unhide HGN]
              unfold innCore
              rw [if_pos (by rw [(unhide HAX).l, ← unhide HL2]; omega)]
            obtain ⟨q0, q1', q2', q3, q4, q5, q6⟩ := (unhide D6).all
            go_wp2
            refine bodyPost_ret (v := .tuple #[.agg #[.bool false, .slice none 0 0, .slice none 0 0], .int .i64 5]) (by simp [results, Tryz.results41, go_sem, q0, q1', q2']) rfl ?_
            rw [unhide HS]
            exact gives_none ((((unhide HB4).setCell (by simp <;> omega) _).setCell (by simp <;> omega) _).setCell (by simp <;> omega) _)

end Go.Proofs.YtgjpchnkodnieaaGreatDoor
