import Derived.Test.YtkgcmpmgaghdhaaGreatDoorImplRepS
import Derived.Test.YtkgcmpmgaghdhaaGreatDoorImplGather
import Derived.BigQuiet
import Derived.Maps.AppendAt
namespace Go.Proofs.YtkgcmpmgaghdhaaGreatDoor
open Go.RowKit Go.Shelf

section
variable {P : Program} (w : World)
/-- append of whatever number of elements to a slice that may be nil, at a step of a region that draws. -/
theorem step_append_any {ops : Array Oper} {o : Oper} {a : Act} {K : Act → World → Prop} {Q : Exit → Act → World → Prop} {E : Prop} (hgd : o.guard = none) (s x : Operand) (t : TypeId)
    (ho : o.op = .call { callee := .builtin .append, args := #[s, x], argTypes := #[t, t] })
    (base : Nat) (e : TypeId) (i : TypeInfo) (z : Value) (size bytes : Nat) (ht : P.underlying t = some (.slice e)) (hi : P.info? e = some i) (hz : i.zero = some z)
    (hsize : i.size = size) (hby : i.bytes = bytes) (hzs : z.cells.size = size) (hsz : 0 < size)
    (v : Value) (n : Nat) (xs : List Value) (hs : a.eval s = v) (hown : w.ownsRow base e size v n xs)
    (ad : Addr) (m c : Nat) (news : List Value) (hx : a.eval x = .slice (some ad) m c) (hl : news.length = m * size) (hnews : ∀ j u, news[j]? = some u → w.cell? (ad.add j) = some u) (h1 : ∀ u ∈ news, u.oneCell' = true)
    (h63 : n + m ≤ maxLen) (hbytes : (n + m) * bytes ≤ 140737488355328) (hbase : base ≤ w.heap.size)
    (h : ∀ v' w', w'.ownsRow base e size v' (n + m) (xs ++ news) → w.grownBy w' v.ownBlock → K (a.put o.dst v') w') :
    if Region.wanted o (yielded ops a.tmps) = true then Oper.wp P o a w K Q else E := by
  have hw : Region.wanted o (yielded ops a.tmps) = true := by simp [Region.wanted, hgd]
  rw [if_pos hw]
  obtain ⟨v', w', hr, h2, h3, _, _⟩ := run_append_own_at (P := P) w base t o.type e i z size bytes ht hi hz hsize hby hzs hsz v n xs hown ad m c news hl hnews h1 h63 hbytes hbase
  unfold Oper.wp execOp
  simp only [ho, resolve, invoke, builtin, Sem.run_bind, Sem.run_pure, Result.andThen_ok, List.map_toArray, List.map_cons, List.map_nil, hs, hx, hr]
  exact h v' w' h2 h3
end

theorem below_grown {w w1 : World} {base n : Nat} {v : Value} {xs : List Value} (hown : w.ownsRow base 3 1 v n xs) (hb : base ≤ w.heap.size) (hg : w.grownBy w1 v.ownBlock) : Below base w w1 := by
  refine (Below.refl base w).grown hg hb ?_
  intro k hk
  rcases hown.2 with ⟨e, _⟩ | ⟨g, cap, cur, e, hge, _⟩
  · rw [e] at hk; simp [Value.ownBlock] at hk
  · rw [e] at hk
    simp [Value.ownBlock] at hk
    omega

/-- The numbers that countedOut lists. -/
def outN (dt : List Int) (L k : Nat) : List Int := (repIdx dt L k).map fun (j : Nat) => (j : Int) + 1
theorem outN_step {dt : List Int} {L k T : Nat} (h : timesAt dt k = (T : Int)) : (outN dt L k).map (Value.int .i64) ++ (List.replicate T (((k % L : Nat) : Int) + 1)).map (Value.int .i64) = (outN dt L (k + 1)).map (Value.int .i64) := by
  unfold outN
  simp only [repIdx, h]
  simp

set_option maxRecDepth 20000 in
set_option maxHeartbeats 4000000 in
theorem countedOut_any (nb a2 : Option Addr) (L cL s1 t1 n2 c2 s2 t2 m : Nat) (nums dt : List Int) (w : World) (hN : Row w nb L nums) (h2 : Row w a2 n2 dt) (hm : m ≤ 10000) (hn : dt.all nonNeg = true) (hsum : timesSum dt m ≤ 10000)
    (hnum : ∀ k, k < m → s1 + k * t1 < L ∧ nums.getD (s1 + k * t1) 0 = ((k % L : Nat) : Int) + 1) (ht : ∀ k, k < m → s2 + k * t2 < n2 ∧ dt.getD (s2 + k * t2) 0 = timesAt dt k) :
    Calls Tryz.prog 68 #[.agg #[.slice nb L cL, .int .i64 (s1 : Nat), .int .i64 (t1 : Nat), .int .i64 (m : Nat)], .agg #[.slice a2 n2 c2, .int .i64 (s2 : Nat), .int .i64 (t2 : Nat), .int .i64 (m : Nat)]] w fun e w' => ∃ a' N cap', e = .returned (.slice a' N cap') ∧ Own w' w.heap.size a' N (outN dt L m) ∧ Below w.heap.size w w' := by
  have HN := hide hN
  have H2 := hide h2
  have HNN := hide hn
  have HNUM := hide hnum
  have HTT := hide ht
  have HTI : Hid (∀ k, k < m → ∃ T : Nat, timesAt dt k = (T : Int) ∧ timesSum dt k + T ≤ 10000) := fun k hk => by
    have q1 := times_nn hn k
    have q2 := sum_mono hn (show k + 1 ≤ m by omega)
    simp only [timesSum] at q2
    exact ⟨(timesAt dt k).toNat, by omega, by omega⟩
  have HLN : Hid (∀ k, ((outN dt L k).length : Int) = timesSum dt k) := fun k => by unfold outN; rw [List.length_map]; exact repIdx_len k (times_nn hn)
  clear hN h2 hnum ht hn
  obtain ⟨i0, hi, hz0, hz1, hz2⟩ := info_parts info_int
  obtain ⟨W, hW⟩ : ∃ W, W = (w.alloc (.cells #[.slice nb L cL, .int .i64 (s1 : Nat), .int .i64 (t1 : Nat), .int .i64 (m : Nat)] 68)).alloc (.cells #[.slice a2 n2 c2, .int .i64 (s2 : Nat), .int .i64 (t2 : Nat), .int .i64 (m : Nat)] 68) := ⟨_, rfl⟩
  have HX0 : Hid (SBox W w.heap.size nb L cL s1 t1 m) := by rw [hW]; exact (SBox.new w _ _ _ _ _ _).alloc _
  have HX1 : Hid (SBox W (w.heap.size + 1) a2 n2 c2 s2 t2 m) := by
    rw [hW]
    have := SBox.new (w.alloc (.cells #[.slice nb L cL, .int .i64 (s1 : Nat), .int .i64 (t1 : Nat), .int .i64 (m : Nat)] 68)) a2 n2 c2 s2 t2 m
    rw [World.size_alloc] at this
    exact this
  have HB0 : Hid (Below w.heap.size w W) := by rw [hW]; exact ((Below.refl _ w).alloc (Nat.le_refl _) _).alloc (by simp) _
  have hWz : W.heap.size = w.heap.size + 2 := by rw [hW]; simp
  have HWZ := hide hWz
  clear hWz
  go_enter Tryz.func68, Tryz.ntmps68
  go_wp2_with fail
  rw [← hW]
  clear hW
  go_loopw [5, 9] (fun v i wr => ∃ k N : Nat, k ≤ m ∧ i = .int .i64 (k : Nat) ∧ Hid (wr.ownsRow W.heap.size 3 1 v N ((outN dt L k).map (Value.int .i64))) ∧ Hid (Below W.heap.size W wr)) (fun _ i _ => m - (intOf i).toNat)
  case atStart => exact ⟨0, 0, Nat.zero_le _, rfl, hide ⟨rfl, .inl ⟨rfl, rfl⟩⟩, hide (Below.refl _ _)⟩
  case round =>
    obtain ⟨k, N, hk, rfl, hown, hbr⟩ := hrel
    by_cases hlt : k < m
    · have hkz : (k : Int) < (m : Int) := by omega
      obtain ⟨T, hT, hTs⟩ := unhide HTI k hlt
      obtain ⟨q1, q2⟩ := unhide HNUM k hlt
      obtain ⟨q3, q4⟩ := unhide HTT k hlt
      have hNl : N ≤ 10000 ∧ N + T ≤ 10000 := by
        have e1 := (unhide hown).1
        have e2 := unhide HLN k
        simp at e1
        have e3 := sum_nn (unhide HNN) k
        omega
      obtain ⟨hN1, hN2⟩ := hNl
      obtain ⟨x, hx⟩ : ∃ x, x = ((k % L : Nat) : Int) + 1 := ⟨_, rfl⟩
      have HSTEP : Hid ((outN dt L k).map (Value.int .i64) ++ (List.replicate T x).map (Value.int .i64) = (outN dt L (k + 1)).map (Value.int .i64)) := by rw [hx]; exact outN_step hT
      have HC1 : Hid (∀ wx, Below W.heap.size W wx → Calls Tryz.prog 121 #[.agg #[.slice nb L cL, .int .i64 s1, .int .i64 t1, .int .i64 m], .int .i64 (k : Nat)] wx fun e w' => e = .returned (.int .i64 x) ∧ Below wx.heap.size wx w') := fun wx hwx => by
        have := at_any nb L cL s1 t1 m k nums wx ((unhide HN).below (Nat.le_refl _) ((unhide HB0).trans (hwx.mono (unhide HB0).size))) q1
        rw [q2, ← hx] at this
        exact this
      have HC2 : Hid (∀ wx, Below W.heap.size W wx → Calls Tryz.prog 121 #[.agg #[.slice a2 n2 c2, .int .i64 s2, .int .i64 t2, .int .i64 m], .int .i64 (k : Nat)] wx fun e w' => e = .returned (.int .i64 (T : Nat)) ∧ Below wx.heap.size wx w') := fun wx hwx => by
        have := at_any a2 n2 c2 s2 t2 m k dt wx ((unhide H2).below (Nat.le_refl _) ((unhide HB0).trans (hwx.mono (unhide HB0).size))) q3
        rw [q4, hT] at this
        exact this
      have KW : ∀ wx, Below wr.heap.size wr wx → Below W.heap.size W wx := fun wx h => (unhide hbr).trans (h.mono (unhide hbr).size)
      have HKEEP : ∀ wx, Below W.heap.size W wx → wx.cell? ⟨w.heap.size, 0, none⟩ = some (.slice nb L cL) ∧ wx.cell? ⟨w.heap.size, 1, none⟩ = some (.int .i64 (s1 : Nat)) ∧ wx.cell? ⟨w.heap.size, 2, none⟩ = some (.int .i64 (t1 : Nat)) ∧ wx.cell? ⟨w.heap.size, 3, none⟩ = some (.int .i64 (m : Nat)) ∧ wx.cell? ⟨w.heap.size + 1, 0, none⟩ = some (.slice a2 n2 c2) ∧ wx.cell? ⟨w.heap.size + 1, 1, none⟩ = some (.int .i64 (s2 : Nat)) ∧ wx.cell? ⟨w.heap.size + 1, 2, none⟩ = some (.int .i64 (t2 : Nat)) ∧ wx.cell? ⟨w.heap.size + 1, 3, none⟩ = some (.int .i64 (m : Nat)) := fun wx hwx => by
        obtain ⟨x0, x1, x2, x3⟩ := ((unhide HX0).below (Nat.le_refl _) hwx).cells
        obtain ⟨y0, y1, y2, y3⟩ := ((unhide HX1).below (Nat.le_refl _) hwx).cells
        exact ⟨x0, x1, x2, x3, y0, y1, y2, y3⟩
      obtain ⟨x0, x1, x2, x3, y0, y1, y2, y3⟩ := HKEEP _ (unhide hbr)
      have hz0' := ((unhide HX1).below (Nat.le_refl _) (unhide hbr)).lt
      have hWr := (unhide hbr).size
      clear hx q1 q2 q3 q4
      go_wp2_with fail
      go_region_held3 (fun wx => wx.cell? ⟨w.heap.size, 0, none⟩ = some (.slice nb L cL) ∧ wx.cell? ⟨w.heap.size, 1, none⟩ = some (.int .i64 (s1 : Nat)) ∧ wx.cell? ⟨w.heap.size, 2, none⟩ = some (.int .i64 (t1 : Nat)) ∧ wx.cell? ⟨w.heap.size, 3, none⟩ = some (.int .i64 (m : Nat)) ∧ wx.cell? ⟨w.heap.size + 1, 0, none⟩ = some (.slice a2 n2 c2) ∧ wx.cell? ⟨w.heap.size + 1, 1, none⟩ = some (.int .i64 (s2 : Nat)) ∧ wx.cell? ⟨w.heap.size + 1, 2, none⟩ = some (.int .i64 (t2 : Nat)) ∧ wx.cell? ⟨w.heap.size + 1, 3, none⟩ = some (.int .i64 (m : Nat)))
        (first | exact HKEEP _ hB7 | exact HKEEP _ (KW _ hK3) | exact HKEEP _ (KW _ (hK1.alloc hK1.size _)) | exact HKEEP _ (KW _ (hK2.alloc hK2.size _)) | exact HKEEP _ (KW _ hK2) | exact HKEEP _ (KW _ hK1) | exact HKEEP _ (KW _ (Below.refl _ wr).drew))
        (first
        | (go_at_call_of 121 (Value.slice nb L cL); refine (unhide HC1 _ (KW _ (by first | exact hK2 | exact (Below.refl _ wr).drew))).mono ?_; rintro e wA ⟨rfl, hbA⟩; have hK1 : Below wr.heap.size wr wA := (by first | exact hK2.trans (hbA.mono hK2.size) | exact (Below.refl _ wr).drew.trans hbA))
        | (go_at_call_of 121 (Value.slice a2 n2 c2); refine (unhide HC2 _ (KW _ (by first | exact hK1.alloc hK1.size _ | exact hK1 | exact (Below.refl _ wr).drew))).mono ?_; rintro e wB ⟨rfl, hbB⟩; have hK2 : Below wr.heap.size wr wB := (by first | exact (hK1.alloc hK1.size _).trans (hbB.mono (by have := hK1.size; simp; omega)) | exact hK1.trans (hbB.mono hK1.size) | exact (Below.refl _ wr).drew.trans hbB))
        | (go_at_call 124; refine (Repeat_ex _ 1 T x _ (by first | exact Row.one _ _ | exact (Row.one _ _).below (Nat.le_refl _) hbB) (by omega)).mono ?_; rintro e wC ⟨gC, rfl, hRC, hbC⟩; have hK3 : Below wr.heap.size wr wC := (by first | exact (hK2.alloc hK2.size _).trans (hbC.mono (by have := hK2.size; simp; omega)) | exact (hK1.alloc hK1.size _).trans (hbC.mono (by have := hK1.size; simp; omega)) | exact hK2.trans (hbC.mono hK2.size)); have hKO := owns_below (unhide hown) (Nat.le_refl _) hK3)
        | (refine step_append_any _ (by rfl) _ _ _ (by rfl) W.heap.size 3 i0 _ 1 8 Tryz.underlying23 hi hz0 hz1 hz2 rfl (by omega) _ N ((outN dt L k).map (Value.int .i64)) (by rfl) hKO ⟨gC, 0, none⟩ T T ((List.replicate T x).map (Value.int .i64)) (by rfl) (by simp) (cells_ints hRC) (one_ints _) (by unfold maxLen; omega) (by omega) (by have := hK3.size; omega) ?_; intro v7 w7 hown7 hgrow; have hB7 : Below W.heap.size W w7 := (KW _ hK3).trans (below_grown hKO (by have := hK3.size; omega) hgrow)))
      all_goals go_wp2_with fail
      all_goals (go_roundw; (case rel => exact ⟨k + 1, N + T, by omega, by go_num, by show World.ownsRow _ _ _ _ _ _ _; rw [← unhide HSTEP]; exact hown7, hide hB7⟩); (case measure => simp [intOf]; omega))
    · have e : k = m := by omega
      subst k
      clear hlt
      have hNl : N ≤ 10000 := by
        have e1 := (unhide hown).1
        have e2 := unhide HLN m
        simp at e1
        omega
      obtain ⟨a', cap', hv, hO⟩ := Own.of_owns (unhide hown) (by omega)
      subst hv
      have HO := hide hO
      clear hO
      go_wp2_with fail
      go_ret
      exact ⟨a', N, cap', rfl, (unhide HO).mono (by have := unhide HWZ; omega), (unhide HB0).trans ((unhide hbr).mono (unhide HB0).size)⟩

end Go.Proofs.YtkgcmpmgaghdhaaGreatDoor
