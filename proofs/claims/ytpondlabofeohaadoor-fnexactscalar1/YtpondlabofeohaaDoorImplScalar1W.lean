import Derived.Test.YtpondlabofeohaaDoorImplScalar1
import Derived.Test.YtpondlabofeohaaDoorGives
import Derived.Test.YtpondlabofeohaaDoorSpecGrow
import Derived.Test.YtpondlabofeohaaDoorSpecScalar1L
namespace Go.Proofs.YtpondlabofeohaaDoor
open Go.RowKit Go.Shelf

theorem chV_no {op : Int} (h : oneOp op = false) : chV op = .nilFunc := by
  have h' : ¬ (op = 1 ∨ op = 2 ∨ op = 3 ∨ op = 7 ∨ op = 17) := by simpa [oneOp] using h
  unfold chV
  rw [if_neg (by omega), if_neg (by omega), if_neg (by omega), if_neg (by omega), if_neg (by omega)]

theorem chV_yes {op : Int} (h : oneOp op = true) : ∃ g, chV op = .func (.func g) #[] #[] := by
  have h' : op = 1 ∨ op = 2 ∨ op = 3 ∨ op = 7 ∨ op = 17 := by simpa [oneOp] using h
  rcases h' with rfl | rfl | rfl | rfl | rfl <;> exact ⟨_, rfl⟩

theorem eql_func_nil (g : Nat) (w : World) : (binOp .eql 44 (.func (.func g) #[] #[]) .nilFunc).run Tryd.prog w = .ok (.bool false) w := by kernel_rfl
theorem eql_nil_func (w : World) : (binOp .eql 44 .nilFunc .nilFunc).run Tryd.prog w = .ok (.bool true) w := by kernel_rfl

set_option maxRecDepth 20000 in
set_option maxHeartbeats 4000000 in
theorem implScalar1_bad1 (op : Int) (c : Bool) (a1 a2 : Addr) (n1 n2 c1 c2 : Nat) (w : World) (hop : oneOp op = false) :
    Calls Tryd.prog 11 #[.int .i64 op, .agg #[.bool c, .slice (some a1) n1 c1, .slice (some a2) n2 c2]] w (GivesOwn w (noAns 3)) := by
  have HV := hide (chV_no hop)
  have e1 := eql_nil_func
  clear hop
  go_enter Tryd.func11, Tryd.ntmps11
  go_wp2_with (go_at_call 29; refine (changeOf_any op _).mono ?_; rintro e w1 ⟨rfl, hb1⟩; rw [unhide HV]; obtain ⟨B3, B4, hB1⟩ := boxes2 hb1; have HB := hide hB1; obtain ⟨x0, x1, x2, x3, x4, x5, x6⟩ := B3.all; obtain ⟨q0, q1, q2, q3, q4, q5, q6⟩ := B4.all; clear hb1 hB1 B3 B4)
  refine bodyPost_ret (v := .tuple #[.agg #[.bool false, .slice none 0 0, .slice none 0 0], .int .i64 3]) (by simp [results, Tryd.results11, go_sem, q0, q1, q2, q6]) rfl ?_
  exact gives_none (((((unhide HB).setCell (by simp) _).setCell (by simp) _).setCell (by simp) _).alloc (by simp; omega) _)

set_option maxRecDepth 20000 in
set_option maxHeartbeats 4000000 in
theorem implScalar1_bad2 (op : Int) (c : Bool) (a1 a2 : Addr) (n1 n2 c1 c2 : Nat) (sh dt : List Int) (w : World) (h1 : Row w (some a1) n1 sh) (h2 : Row w (some a2) n2 dt) (hop : oneOp op = true) (r : Bool) (hok : arrOk c sh dt = r) (hrc : r = false ∨ c = true) :
    Calls Tryd.prog 11 #[.int .i64 op, .agg #[.bool c, .slice (some a1) n1 c1, .slice (some a2) n2 c2]] w (GivesOwn w (noAns 3)) := by
  obtain ⟨g, hg⟩ := chV_yes hop
  have HV := hide hg
  have e1 := eql_func_nil g
  have H1 := hide h1
  have H2 := hide h2
  have HR := hide hok
  clear hop hg h1 h2 hok
  rcases hrc with rfl | rfl
  · go_enter Tryd.func11, Tryd.ntmps11
    go_wp2_with (first
      | (go_at_call 29; refine (changeOf_any op _).mono ?_; rintro e w1 ⟨rfl, hb1⟩; rw [unhide HV]; obtain ⟨B3, B4, hB1⟩ := boxes2 hb1; have HB3 := hide B3; have HB4 := hide B4; have HB := hide hB1; obtain ⟨x0, x1, x2, x3, x4, x5, x6⟩ := B3.all; clear hb1 hB1 B3 B4)
      | (go_at_call 30; refine (implArrayOk_eq _ _ _ _ _ _ _ sh dt _ (((unhide H1).below (Nat.le_refl _) (unhide HB)).alloc _) (((unhide H2).below (Nat.le_refl _) (unhide HB)).alloc _) _ HR).mono ?_; rintro e w2 ⟨rfl, hb2⟩; have hB4 := ((unhide HB4).alloc _).below (Nat.le_refl _) hb2; obtain ⟨q0, q1, q2, q3, q4, q5, q6⟩ := hB4.all; have HC := hide (((unhide HB).alloc (by omega) _).trans (hb2.mono (by simp; omega))); clear hb2 hB4 x0 x1 x2 x3 x4 x5))
    refine bodyPost_ret (v := .tuple #[.agg #[.bool false, .slice none 0 0, .slice none 0 0], .int .i64 3]) (by simp [results, Tryd.results11, go_sem, q0, q1, q2]) rfl ?_
    exact gives_none ((((unhide HC).setCell (by simp) _).setCell (by simp) _).setCell (by simp) _)
  · cases r with
    | false =>
      go_enter Tryd.func11, Tryd.ntmps11
      go_wp2_with (first
        | (go_at_call 29; refine (changeOf_any op _).mono ?_; rintro e w1 ⟨rfl, hb1⟩; rw [unhide HV]; obtain ⟨B3, B4, hB1⟩ := boxes2 hb1; have HB3 := hide B3; have HB4 := hide B4; have HB := hide hB1; obtain ⟨x0, x1, x2, x3, x4, x5, x6⟩ := B3.all; clear hb1 hB1 B3 B4)
        | (go_at_call 30; refine (implArrayOk_eq _ _ _ _ _ _ _ sh dt _ (((unhide H1).below (Nat.le_refl _) (unhide HB)).alloc _) (((unhide H2).below (Nat.le_refl _) (unhide HB)).alloc _) _ HR).mono ?_; rintro e w2 ⟨rfl, hb2⟩; have hB4 := ((unhide HB4).alloc _).below (Nat.le_refl _) hb2; obtain ⟨q0, q1, q2, q3, q4, q5, q6⟩ := hB4.all; have HC := hide (((unhide HB).alloc (by omega) _).trans (hb2.mono (by simp; omega))); clear hb2 hB4 x0 x1 x2 x3 x4 x5))
      refine bodyPost_ret (v := .tuple #[.agg #[.bool false, .slice none 0 0, .slice none 0 0], .int .i64 3]) (by simp [results, Tryd.results11, go_sem, q0, q1, q2]) rfl ?_
      exact gives_none ((((unhide HC).setCell (by simp) _).setCell (by simp) _).setCell (by simp) _)
    | true =>
      go_enter Tryd.func11, Tryd.ntmps11
      go_wp2_with (first
        | (go_at_call 29; refine (changeOf_any op _).mono ?_; rintro e w1 ⟨rfl, hb1⟩; rw [unhide HV]; obtain ⟨B3, B4, hB1⟩ := boxes2 hb1; have HB3 := hide B3; have HB4 := hide B4; have HB := hide hB1; obtain ⟨x0, x1, x2, x3, x4, x5, x6⟩ := B3.all; clear hb1 hB1 B3 B4)
        | (go_at_call 30; refine (implArrayOk_eq _ _ _ _ _ _ _ sh dt _ (((unhide H1).below (Nat.le_refl _) (unhide HB)).alloc _) (((unhide H2).below (Nat.le_refl _) (unhide HB)).alloc _) _ HR).mono ?_; rintro e w2 ⟨rfl, hb2⟩; have hB4 := ((unhide HB4).alloc _).below (Nat.le_refl _) hb2; have hB3 := ((unhide HB3).alloc _).below (Nat.le_refl _) hb2; obtain ⟨q0, q1, q2, q3, q4, q5, q6⟩ := hB4.all; have HC := hide (((unhide HB).alloc (by omega) _).trans (hb2.mono (by simp; omega))); clear hb2 hB4 x0 x1 x2 x3 x4 x5; obtain ⟨x0, x1, x2, x3, x4, x5, x7⟩ := hB3.all; clear hB3))
      refine bodyPost_ret (v := .tuple #[.agg #[.bool false, .slice none 0 0, .slice none 0 0], .int .i64 3]) (by simp [results, Tryd.results11, go_sem, q0, q1, q2]) rfl ?_
      exact gives_none ((((unhide HC).setCell (by simp) _).setCell (by simp) _).setCell (by simp) _)

/-- What Scalar1 reckons at a place. -/
def oneAt (op : Int) (dt : List Int) (k : Nat) : Int × Int := oneOf op (dt.getD k 0)

theorem oneAt_code (op : Int) (dt : List Int) (k : Nat) : codeIn (oneAt op dt k).2 := by
  by_cases h : (oneAt op dt k).2 = 0
  · exact .inl h
  · exact .inr (.inl (code_3 h))

theorem firstCode_3 (op : Int) (dt : List Int) (n : Nat) : firstCode (oneAt op dt) n = 0 ∨ firstCode (oneAt op dt) n = 3 := by
  induction n with
  | zero => exact .inl rfl
  | succ n ih =>
    simp only [firstCode]
    split
    · by_cases h : (oneAt op dt n).2 = 0
      · exact .inl h
      · exact .inr (code_3 h)
    · exact ih

theorem scalar1_gather (op : Int) (sh dt : List Int) (h1 : arrOk false sh dt = true) (h2 : oneOp op = true) : scalar1 op false sh dt = gatherAns false sh (oneAt op dt) dt.length := by
  by_cases h : oneGood op dt = true
  · rw [scalar1_eq op sh dt h1 h2 h, gather_good]
    · have : vals (oneAt op dt) dt.length = dt.map fun v => (oneOf op v).1 := by
        apply List.ext_getElem (by simp [vals])
        intro i hi hi'
        simp at hi'
        simp [vals, oneAt, hi']
      rw [this]
    · rw [firstCode_zero]
      intro k hk
      have := List.all_eq_true.mp h (dt.getD k 0) (by simp [hk])
      exact of_decide_eq_true this
  · have h' : oneGood op dt = false := by simpa using h
    have hn : firstCode (oneAt op dt) dt.length ≠ 0 := by
      intro e
      apply h
      refine List.all_eq_true.mpr fun v hv => ?_
      obtain ⟨i, hi, rfl⟩ := List.getElem_of_mem hv
      have := firstCode_zero.mp e i hi
      simp [oneAt, hi] at this
      exact decide_eq_true this
    rw [scalar1_no op sh dt h']
    unfold gatherAns
    rw [if_neg hn]
    rcases firstCode_3 op dt dt.length with e | e
    · exact absurd e hn
    · rw [e]

set_option maxRecDepth 20000 in
set_option maxHeartbeats 4000000 in
theorem implScalar1_good (op : Int) (a1 a2 : Addr) (n1 n2 c1 c2 : Nat) (sh dt : List Int) (w : World) (ga gb : Addr) (hG : Gl w ga gb) (h1 : Row w (some a1) n1 sh) (h2 : Row w (some a2) n2 dt) (hop : oneOp op = true) (hok : arrOk false sh dt = true) :
    Calls Tryd.prog 11 #[.int .i64 op, .agg #[.bool false, .slice (some a1) n1 c1, .slice (some a2) n2 c2]] w (GivesOwn w (gatherAns false sh (oneAt op dt) n2)) := by
  have hn2 : dt.length = n2 := h2.len
  have HV : Hid (∀ k, k < n2 → -1000000000000000 ≤ dt.getD k 0 ∧ dt.getD k 0 ≤ 1000000000000000) := fun k hk => dataOk_bd hok (by omega)
  obtain ⟨g, hg⟩ := chV_yes hop
  have HCV := hide hg
  have e1 := eql_func_nil g
  have H1 := hide h1
  have H2 := hide h2
  have HR := hide hok
  have HG := hide hG
  have HOP := hide hop
  have HS : Hid (shapeB sh = true ∧ countOf sh = (n2 : Int)) := by
    have hh := arr_parts hok
    rw [hn2] at hh
    exact hh
  have eg : ∀ args w, (callFunc 33 args).run Tryd.prog w = .ok (.enter 33 args) w := enters_of Tryd.func33 (by kernel_rfl) rfl
  clear hop hg h1 h2 hok hG hn2
  have HE : ∀ (p6 : Nat) (v1 : Value) (W : World), Gl W ga gb → W.cell? ⟨p6, 0, none⟩ = some (.func (.func g) #[] #[]) → Box W w.heap.size false v1 (.slice (some a2) n2 c2) → Row W (some a2) n2 dt → ElemOk ga gb 33 #[.pointer (some ⟨p6, 0, none⟩), .pointer (some ⟨w.heap.size, 0, none⟩)] (oneAt op dt) n2 W := by
    intro p6 v1 W hG hc hB h2 k hk W' hW
    have hlt : p6 < W.heap.size := World.block_lt_of_cell? _ _ hc
    exact clo1 op ga gb a2 p6 w.heap.size n2 c2 k v1 dt W' (unhide HOP) (hG.below hW) (by rw [unhide HCV]; exact (hW.cell (p := ⟨p6, 0, none⟩) hlt).trans hc) (hB.below (Nat.le_refl _) hW) (h2.below (Nat.le_refl _) hW) hk (unhide HV k hk)
  have HEE := hide HE
  clear HE
  by_cases h0 : firstCode (oneAt op dt) n2 = 0
  · have HZ := hide h0
    rw [gather_good h0]
    clear h0
    go_enter Tryd.func11, Tryd.ntmps11
    go_wp2_with (first
      | (go_at_call 29; refine (changeOf_any op _).mono ?_; rintro e w1 ⟨rfl, hb1⟩; rw [unhide HCV]; obtain ⟨B3, B4, hB1⟩ := boxes2 hb1; have HB3 := hide B3; have HB4 := hide B4; have HB := hide hB1; obtain ⟨x0, x1, x2, x3, x4, x5, x6⟩ := B3.all; clear hb1 hB1 B3 B4)
      | (go_at_call 30; refine (implArrayOk_eq _ _ _ _ _ _ _ sh dt _ (((unhide H1).below (Nat.le_refl _) (unhide HB)).alloc _) (((unhide H2).below (Nat.le_refl _) (unhide HB)).alloc _) _ HR).mono ?_; rintro e w2 ⟨rfl, hb2⟩; have hB4 := hide (((unhide HB4).alloc _).below (Nat.le_refl _) hb2); have hB3 := ((unhide HB3).alloc _).below (Nat.le_refl _) hb2; have HB3' := hide hB3; have HC := hide (((unhide HB).alloc (by omega) _).trans (hb2.mono (by simp; omega))); have hp6 : w2.cell? ⟨w1.heap.size, 0, none⟩ = some (.func (.func g) #[] #[]) := (hb2.cell (p := ⟨w1.heap.size, 0, none⟩) (by simp)).trans (by simp); clear hb2 x0 x1 x2 x3 x4 x5; obtain ⟨x0, x1, x2, x3, x4, x5, x7⟩ := hB3.all; clear hB3 HB3 HB4)
      | (go_at_call 32; refine (Clone_any a1 n1 c1 sh _ ((unhide H1).below (Nat.le_refl _) (unhide HC))).mono ?_; rintro e w3 ⟨ash, csh, rfl, hcs, hO, hb3⟩; have HO := hide (hO.mono (B' := w.heap.size) (by omega)); have HOB := hide hO; have HD := hide ((unhide HC).trans (hb3.mono (by omega))); have HB3'' := hide ((unhide HB3').below (Nat.le_refl _) hb3); have HB4'' := hide ((unhide hB4).below (Nat.le_refl _) hb3); have hs23 := hb3.size; have hp6' : w3.cell? ⟨w1.heap.size, 0, none⟩ = some (.func (.func g) #[] #[]) := (hb3.cell (p := ⟨w1.heap.size, 0, none⟩) (World.block_lt_of_cell? _ _ hp6)).trans hp6; clear hb3 hp6 x0 x1 x2 x3 x4 x5 hO)
      | (go_at_call 31; refine (reckoned_any ga gb 33 _ eg (oneAt op dt) n2 _ _ _ sh _ (unhide HO).row (unhide HS).1 (unhide HS).2 ((unhide HG).below (unhide HD)) (fun k _ => oneAt_code op dt k) (unhide HEE _ _ _ ((unhide HG).below (unhide HD)) hp6' (unhide HB3'') ((unhide H2).below (Nat.le_refl _) (unhide HD)))).mono ?_; rintro e w4 ⟨hr, hb4⟩; obtain ⟨_, p, hpl, rfl, hblk⟩ | ⟨hne, _⟩ := hr; rotate_left; exact absurd (unhide HZ) hne; have hB4 := (unhide HB4'').below (Nat.le_refl _) hb4; obtain ⟨q0, q1, q2, q3, q4, q5, q6⟩ := hB4.all; have HB5 := hide hb4; have HK := hide hblk; clear hb4 hblk hB4))
    refine bodyPost_ret (v := .tuple #[.agg #[.bool false, .slice ash n1 csh, .slice (some ⟨p, 0, none⟩) n2 n2], .int .i64 0]) (by simp [results, Tryd.results11, go_sem, q0, q1, q2]) rfl ?_
    have hO := (unhide HO).below (Nat.le_refl _) (unhide HB5)
    have hw1 : w.heap.size + 1 < w2.heap.size := (unhide hB4).lt
    have hw2 : w2.heap.size ≤ w3.heap.size := hs23
    have hk : ∀ k, At ash n1 k → k ≠ w.heap.size + 1 := fun k hk => by have := (unhide HOB).low hk; omega
    have hD : Own w4 w.heap.size (some ⟨p, 0, none⟩) n2 (vals (oneAt op dt) n2) := (unhide HK).own (vals_len _ _) (unhide H2).small (by omega)
    have hk2 : ∀ k, At (some ⟨p, 0, none⟩) n2 k → k ≠ w.heap.size + 1 := fun k hk => by have := at_eq hk; omega
    refine ⟨ash, n1, csh, some ⟨p, 0, none⟩, n2, n2, rfl, ((hO.other hk _).other hk _).other hk _, ((hD.other hk2 _).other hk2 _).other hk2 _, fun k h1 h2 => ?_, (((unhide HD).trans ((unhide HB5).mono (by omega))).setCell (by simp) _ |>.setCell (by simp) _).setCell (by simp) _⟩
    have := (unhide HOB).row.hi h1
    have := at_eq h2
    omega
  · have HZ := hide h0
    have hga : gatherAns false sh (oneAt op dt) n2 = noAns (firstCode (oneAt op dt) n2) := by unfold gatherAns; rw [if_neg h0]
    rw [hga]
    clear h0 hga
    obtain ⟨cc, hcc⟩ : ∃ cc, cc = firstCode (oneAt op dt) n2 := ⟨_, rfl⟩
    rw [← hcc]
    have HCC := hide hcc
    clear hcc
    go_enter Tryd.func11, Tryd.ntmps11
    go_wp2_with (first
      | (go_at_call 29; refine (changeOf_any op _).mono ?_; rintro e w1 ⟨rfl, hb1⟩; rw [unhide HCV]; obtain ⟨B3, B4, hB1⟩ := boxes2 hb1; have HB3 := hide B3; have HB4 := hide B4; have HB := hide hB1; obtain ⟨x0, x1, x2, x3, x4, x5, x6⟩ := B3.all; clear hb1 hB1 B3 B4)
      | (go_at_call 30; refine (implArrayOk_eq _ _ _ _ _ _ _ sh dt _ (((unhide H1).below (Nat.le_refl _) (unhide HB)).alloc _) (((unhide H2).below (Nat.le_refl _) (unhide HB)).alloc _) _ HR).mono ?_; rintro e w2 ⟨rfl, hb2⟩; have hB4 := hide (((unhide HB4).alloc _).below (Nat.le_refl _) hb2); have hB3 := ((unhide HB3).alloc _).below (Nat.le_refl _) hb2; have HB3' := hide hB3; have HC := hide (((unhide HB).alloc (by omega) _).trans (hb2.mono (by simp; omega))); have hp6 : w2.cell? ⟨w1.heap.size, 0, none⟩ = some (.func (.func g) #[] #[]) := (hb2.cell (p := ⟨w1.heap.size, 0, none⟩) (by simp)).trans (by simp); clear hb2 x0 x1 x2 x3 x4 x5; obtain ⟨x0, x1, x2, x3, x4, x5, x7⟩ := hB3.all; clear hB3 HB3 HB4)
      | (go_at_call 32; refine (Clone_any a1 n1 c1 sh _ ((unhide H1).below (Nat.le_refl _) (unhide HC))).mono ?_; rintro e w3 ⟨ash, csh, rfl, hcs, hO, hb3⟩; have HO := hide (hO.mono (B' := w.heap.size) (by omega)); have HOB := hide hO; have HD := hide ((unhide HC).trans (hb3.mono (by omega))); have HB3'' := hide ((unhide HB3').below (Nat.le_refl _) hb3); have HB4'' := hide ((unhide hB4).below (Nat.le_refl _) hb3); have hs23 := hb3.size; have hp6' : w3.cell? ⟨w1.heap.size, 0, none⟩ = some (.func (.func g) #[] #[]) := (hb3.cell (p := ⟨w1.heap.size, 0, none⟩) (World.block_lt_of_cell? _ _ hp6)).trans hp6; clear hb3 hp6 x0 x1 x2 x3 x4 x5 hO)
      | (go_at_call 31; refine (reckoned_any ga gb 33 _ eg (oneAt op dt) n2 _ _ _ sh _ (unhide HO).row (unhide HS).1 (unhide HS).2 ((unhide HG).below (unhide HD)) (fun k _ => oneAt_code op dt k) (unhide HEE _ _ _ ((unhide HG).below (unhide HD)) hp6' (unhide HB3'') ((unhide H2).below (Nat.le_refl _) (unhide HD)))).mono ?_; rintro e w4 ⟨hr, hb4⟩; obtain ⟨hne, _⟩ | ⟨_, he⟩ := hr; exact absurd hne (unhide HZ); rw [← unhide HCC] at he; subst he; have hB4 := (unhide HB4'').below (Nat.le_refl _) hb4; obtain ⟨q0, q1, q2, q3, q4, q5, q6⟩ := hB4.all; have HB5 := hide hb4; clear hb4 hB4))
    refine bodyPost_ret (v := .tuple #[.agg #[.bool false, .slice none 0 0, .slice none 0 0], .int .i64 cc]) (by simp [results, Tryd.results11, go_sem, q0, q1, q2]) rfl ?_
    exact gives_none (((((unhide HD).trans ((unhide HB5).mono (by have := (unhide hB4).lt; omega))).setCell (by simp) _).setCell (by simp) _).setCell (by simp) _)

theorem implScalar1_any (op : Int) (c : Bool) (a1 a2 : Addr) (n1 n2 c1 c2 : Nat) (sh dt : List Int) (w : World) (h1 : Row w (some a1) n1 sh) (h2 : Row w (some a2) n2 dt) (ga gb : Addr) (hG : Gl w ga gb) :
    Calls Tryd.prog 11 #[.int .i64 op, .agg #[.bool c, .slice (some a1) n1 c1, .slice (some a2) n2 c2]] w (GivesOwn w (scalar1 op c sh dt)) := by
  cases hop : oneOp op with
  | false =>
    have e : scalar1 op c sh dt = noAns 3 := by unfold scalar1; rw [if_neg (by rw [hop]; simp)]
    rw [e]
    exact implScalar1_bad1 op c a1 a2 n1 n2 c1 c2 w hop
  | true =>
    by_cases hb : arrOk c sh dt = true ∧ c = false
    · obtain ⟨hok, rfl⟩ := hb
      rw [scalar1_gather op sh dt hok hop, h2.len]
      exact implScalar1_good op a1 a2 n1 n2 c1 c2 sh dt w ga gb hG h1 h2 hop hok
    · have e : scalar1 op c sh dt = noAns 3 := by unfold scalar1; rw [if_neg (fun h => hb ⟨h.1, h.2.2.1⟩)]
      rw [e]
      refine implScalar1_bad2 op c a1 a2 n1 n2 c1 c2 sh dt w h1 h2 hop _ rfl ?_
      cases c
      · left; simpa using hb
      · exact .inr rfl

end Go.Proofs.YtpondlabofeohaaDoor
