import Derived.Test.YtinndpnilmmmjaaGreatDoorImplSel
namespace Go.Proofs.YtinndpnilmmmjaaGreatDoor
open Go.RowKit

/-- What areAll gives over a tree that stands in w, from any later world. -/
def AllSaid (w : World) (a : Option Addr) (n cap : Nat) (ns : List NodeD) : Prop := ∀ (g : Nat) (_ : ∀ args w, (callFunc g args).run Tryz.prog w = .ok (.enter g args) w) (p : Int → Bool) (_ : KindSaid g p) (b : Option Addr) (m c : Nat) (zs : List Int) (v : World) (_ : Below w.heap.size w v) (_ : Row w b m zs) (_ : ∀ q, q < m → 0 ≤ zs.getD q 0 ∧ zs.getD q 0 < n) (r : Bool) (_ : (kinds ns zs).all p = r),
    Calls Tryz.prog 63 #[.agg #[.slice a n cap], .slice b m c, .func (.func g) #[] #[]] v fun e w' => e = .returned (.bool r) ∧ Below v.heap.size v w'

theorem allSaid {w : World} {a : Option Addr} {n : Nat} (cap : Nat) {ns : List NodeD} (h : NRow w a n ns) : AllSaid w a n cap ns := fun g eg p hp b m c zs v hv hb hz r hr => allIs g eg p hp a n cap ns b m c zs v (h.below (Nat.le_refl _) hv) (hb.below (Nat.le_refl _) hv) hz r hr

theorem kinds_take (ns : List NodeD) (zs : List Int) (k : Nat) : (kinds ns zs).take k = kinds ns (zs.take k) := by unfold kinds; rw [List.map_take]
theorem kinds_drop (ns : List NodeD) (zs : List Int) (k : Nat) : (kinds ns zs).drop k = kinds ns (zs.drop k) := by unfold kinds; rw [List.map_drop]

theorem in_take {zs : List Int} {m n k : Nat} (h : ∀ q, q < m → 0 ≤ zs.getD q 0 ∧ zs.getD q 0 < (n : Int)) (hk : k ≤ m) : ∀ q, q < k → 0 ≤ (zs.take k).getD q 0 ∧ (zs.take k).getD q 0 < (n : Int) := fun q hq => by
  have := h q (by omega)
  rw [show (zs.take k).getD q 0 = zs.getD q 0 by simp [List.getD_eq_getElem?_getD, hq]]
  exact this
theorem in_drop {zs : List Int} {m n : Nat} (h : ∀ q, q < m → 0 ≤ zs.getD q 0 ∧ zs.getD q 0 < (n : Int)) (k l : Nat) (hk : k + l ≤ m) : ∀ q, q < l → 0 ≤ (zs.drop k).getD q 0 ∧ (zs.drop k).getD q 0 < (n : Int) := fun q hq => by
  have := h (k + q) (by omega)
  rw [show (zs.drop k).getD q 0 = zs.getD (k + q) 0 by simp [List.getD_eq_getElem?_getD]]
  exact this

/-- What the calls leave behind. -/
def After (w Q : World) (v1 : Value) : Prop := ∀ v : World, Below Q.heap.size Q v → v.cell? ⟨w.heap.size, 0, none⟩ = some v1 ∧ Below w.heap.size w v

theorem after_of (w : World) (v1 : Value) (o : Obj) : After w ((w.alloc (.cells #[v1] 29)).alloc o) v1 := fun v hv => by
  have hs : ((w.alloc (.cells #[v1] 29)).alloc o).heap.size = w.heap.size + 1 + 1 := by simp
  refine ⟨(hv.cell (p := ⟨w.heap.size, 0, none⟩) (by rw [hs]; show w.heap.size < _; omega)).trans ?_, (((Below.refl _ _).alloc (Nat.le_refl _) _).alloc (by simp) _).trans (hv.mono (by rw [hs]; omega))⟩
  simp

end Go.Proofs.YtinndpnilmmmjaaGreatDoor
namespace Go.Proofs.YtinndpnilmmmjaaGreatDoor
open Go.RowKit

set_option maxRecDepth 20000 in
set_option maxHeartbeats 8000000 in
theorem kidsI_16 (v1 v2 v3 v4 : Value) (a s2 : Option Addr) (n cap n2 c2 : Nat) (ns : List NodeD) (kids : List Int) (w : World) (h : NRow w a n ns) (hk : Row w s2 n2 kids) (hz : ∀ q, q < n2 → 0 ≤ kids.getD q 0 ∧ kids.getD q 0 < n) :
    Calls Tryz.prog 32 #[.agg #[.slice a n cap], .agg #[.int .i64 16, v1, v2, v3, v4, .slice s2 n2 c2]] w fun e w' => e = .returned (.bool (kidsI 16 (kinds ns kids) (selB ns (kids.getD 0 0).toNat))) ∧ Below w.heap.size w w' := by
  have hlen := hk.len
  have hsm := hk.small
  have hkl : (kinds ns kids).length = n2 := by rw [kinds_len]; exact hlen
  obtain ⟨r, hr⟩ : ∃ r, kidsI 16 (kinds ns kids) (selB ns (kids.getD 0 0).toNat) = r := ⟨_, rfl⟩
  rw [hr]
  have HA := hide (allSaid cap h)
  have HK := hide hk
  have HZ := hide hz
  have HPO := hide (after_of w (.slice a n cap) (.cells #[.int .i64 16, v1, v2, v3, v4, .slice s2 n2 c2] 47))
  obtain ⟨Q, hQ⟩ : ∃ Q, Q = (w.alloc (.cells #[.slice a n cap] 29)).alloc (.cells #[.int .i64 16, v1, v2, v3, v4, .slice s2 n2 c2] 47) := ⟨_, rfl⟩
  have HQ := hide hQ
  rw [← hQ] at HPO
  have HC := hide (fun v hv => unhide HA _ eg_item isI isItem_any s2 n2 c2 kids v hv (unhide HK) (unhide HZ) r hr)
  clear hr HA h hk hz hQ
  go_enter Tryz.func32, Tryz.ntmps32
  go_wp2_with fail
  go_quiet (fail)
  go_wp2_with (first | (go_at_call 63; refine (unhide HC _ ((unhide HPO) _ (by rw [unhide HQ]; repeat (first | exact Below.refl _ _ | refine Below.drew ?_ | refine Below.drewN ?_ _))).2).mono ?_; rintro e w1 ⟨rfl, hb1⟩; have HB1 := hide ((((unhide HPO) _ (by rw [unhide HQ]; repeat (first | exact Below.refl _ _ | refine Below.drew ?_ | refine Below.drewN ?_ _))).2).trans (hb1.mono ((((unhide HPO) _ (by rw [unhide HQ]; repeat (first | exact Below.refl _ _ | refine Below.drew ?_ | refine Below.drewN ?_ _))).2).size))); clear hb1))
  go_ret
  exact ⟨rfl, unhide HB1⟩

set_option maxRecDepth 20000 in
set_option maxHeartbeats 8000000 in
theorem kidsI_25 (v1 v2 v3 v4 : Value) (a s2 : Option Addr) (n cap n2 c2 : Nat) (ns : List NodeD) (kids : List Int) (w : World) (h : NRow w a n ns) (hk : Row w s2 n2 kids) (hz : ∀ q, q < n2 → 0 ≤ kids.getD q 0 ∧ kids.getD q 0 < n) :
    Calls Tryz.prog 32 #[.agg #[.slice a n cap], .agg #[.int .i64 25, v1, v2, v3, v4, .slice s2 n2 c2]] w fun e w' => e = .returned (.bool (kidsI 25 (kinds ns kids) (selB ns (kids.getD 0 0).toNat))) ∧ Below w.heap.size w w' := by
  have hlen := hk.len
  have hsm := hk.small
  have hkl : (kinds ns kids).length = n2 := by rw [kinds_len]; exact hlen
  obtain ⟨r, hr⟩ : ∃ r, kidsI 25 (kinds ns kids) (selB ns (kids.getD 0 0).toNat) = r := ⟨_, rfl⟩
  rw [hr]
  have HA := hide (allSaid cap h)
  have HK := hide hk
  have HZ := hide hz
  have HPO := hide (after_of w (.slice a n cap) (.cells #[.int .i64 25, v1, v2, v3, v4, .slice s2 n2 c2] 47))
  obtain ⟨Q, hQ⟩ : ∃ Q, Q = (w.alloc (.cells #[.slice a n cap] 29)).alloc (.cells #[.int .i64 25, v1, v2, v3, v4, .slice s2 n2 c2] 47) := ⟨_, rfl⟩
  have HQ := hide hQ
  rw [← hQ] at HPO
  have HC := hide (fun v hv => unhide HA _ eg_stmt isS isStmt_any s2 n2 c2 kids v hv (unhide HK) (unhide HZ) r hr)
  clear hr HA h hk hz hQ
  go_enter Tryz.func32, Tryz.ntmps32
  go_wp2_with fail
  go_quiet (fail)
  go_wp2_with (first | (go_at_call 63; refine (unhide HC _ ((unhide HPO) _ (by rw [unhide HQ]; repeat (first | exact Below.refl _ _ | refine Below.drew ?_ | refine Below.drewN ?_ _))).2).mono ?_; rintro e w1 ⟨rfl, hb1⟩; have HB1 := hide ((((unhide HPO) _ (by rw [unhide HQ]; repeat (first | exact Below.refl _ _ | refine Below.drew ?_ | refine Below.drewN ?_ _))).2).trans (hb1.mono ((((unhide HPO) _ (by rw [unhide HQ]; repeat (first | exact Below.refl _ _ | refine Below.drew ?_ | refine Below.drewN ?_ _))).2).size))); clear hb1))
  go_ret
  exact ⟨rfl, unhide HB1⟩

set_option maxRecDepth 20000 in
set_option maxHeartbeats 8000000 in
theorem kidsI_19 (v1 v2 v3 v4 : Value) (a s2 : Option Addr) (n cap n2 c2 : Nat) (ns : List NodeD) (kids : List Int) (w : World) (h : NRow w a n ns) (hk : Row w s2 n2 kids) (hz : ∀ q, q < n2 → 0 ≤ kids.getD q 0 ∧ kids.getD q 0 < n) :
    Calls Tryz.prog 32 #[.agg #[.slice a n cap], .agg #[.int .i64 19, v1, v2, v3, v4, .slice s2 n2 c2]] w fun e w' => e = .returned (.bool (kidsI 19 (kinds ns kids) (selB ns (kids.getD 0 0).toNat))) ∧ Below w.heap.size w w' := by
  have hlen := hk.len
  have hsm := hk.small
  have hkl : (kinds ns kids).length = n2 := by rw [kinds_len]; exact hlen
  obtain ⟨r, hr⟩ : ∃ r, kidsI 19 (kinds ns kids) (selB ns (kids.getD 0 0).toNat) = r := ⟨_, rfl⟩
  rw [hr]
  have HA := hide (allSaid cap h)
  have HK := hide hk
  have HZ := hide hz
  have HPO := hide (after_of w (.slice a n cap) (.cells #[.int .i64 19, v1, v2, v3, v4, .slice s2 n2 c2] 47))
  obtain ⟨Q, hQ⟩ : ∃ Q, Q = (w.alloc (.cells #[.slice a n cap] 29)).alloc (.cells #[.int .i64 19, v1, v2, v3, v4, .slice s2 n2 c2] 47) := ⟨_, rfl⟩
  have HQ := hide hQ
  rw [← hQ] at HPO
  have HR : Hid ((decide ((kinds ns kids).length = 1) && (kinds ns kids).all isE) = r) := hr
  rw [hkl] at HR
  clear hr h hk hz hQ
  by_cases hn : n2 = 1
  case neg =>
    have hg : ((n2 : Int) - 1 == 0) = false := by simp; omega
    have HE : Hid (false = r) := by show _ = _; rw [← unhide HR, decide_eq_false hn]; rfl
    clear HR HA hn
    go_enter Tryz.func32, Tryz.ntmps32
    go_wp2_with fail
    go_quiet (fail)
    go_wp2_with fail
    go_ret
    exact ⟨ret_bool (unhide HE), ((unhide HPO) _ (by rw [unhide HQ]; repeat (first | exact Below.refl _ _ | refine Below.drew ?_ | refine Below.drewN ?_ _))).2⟩
  rw [decide_eq_true hn, Bool.true_and] at HR
  have hg : ((n2 : Int) - 1 == 0) = true := by simp; omega
  have HC := hide (fun v hv => unhide HA _ eg_expr isE isExpr_any s2 n2 c2 kids v hv (unhide HK) (unhide HZ) r (unhide HR))
  clear HR HA hn
  go_enter Tryz.func32, Tryz.ntmps32
  go_wp2_with fail
  go_quiet (fail)
  go_wp2_with (first | (go_at_call 63; refine (unhide HC _ ((unhide HPO) _ (by rw [unhide HQ]; repeat (first | exact Below.refl _ _ | refine Below.drew ?_ | refine Below.drewN ?_ _))).2).mono ?_; rintro e w1 ⟨rfl, hb1⟩; have HB1 := hide ((((unhide HPO) _ (by rw [unhide HQ]; repeat (first | exact Below.refl _ _ | refine Below.drew ?_ | refine Below.drewN ?_ _))).2).trans (hb1.mono ((((unhide HPO) _ (by rw [unhide HQ]; repeat (first | exact Below.refl _ _ | refine Below.drew ?_ | refine Below.drewN ?_ _))).2).size))); clear hb1))
  go_ret
  exact ⟨rfl, unhide HB1⟩

set_option maxRecDepth 20000 in
set_option maxHeartbeats 8000000 in
theorem kidsI_22 (v1 v2 v3 v4 : Value) (a s2 : Option Addr) (n cap n2 c2 : Nat) (ns : List NodeD) (kids : List Int) (w : World) (h : NRow w a n ns) (hk : Row w s2 n2 kids) (hz : ∀ q, q < n2 → 0 ≤ kids.getD q 0 ∧ kids.getD q 0 < n) :
    Calls Tryz.prog 32 #[.agg #[.slice a n cap], .agg #[.int .i64 22, v1, v2, v3, v4, .slice s2 n2 c2]] w fun e w' => e = .returned (.bool (kidsI 22 (kinds ns kids) (selB ns (kids.getD 0 0).toNat))) ∧ Below w.heap.size w w' := by
  have hlen := hk.len
  have hsm := hk.small
  have hkl : (kinds ns kids).length = n2 := by rw [kinds_len]; exact hlen
  obtain ⟨r, hr⟩ : ∃ r, kidsI 22 (kinds ns kids) (selB ns (kids.getD 0 0).toNat) = r := ⟨_, rfl⟩
  rw [hr]
  have HA := hide (allSaid cap h)
  have HK := hide hk
  have HZ := hide hz
  have HPO := hide (after_of w (.slice a n cap) (.cells #[.int .i64 22, v1, v2, v3, v4, .slice s2 n2 c2] 47))
  obtain ⟨Q, hQ⟩ : ∃ Q, Q = (w.alloc (.cells #[.slice a n cap] 29)).alloc (.cells #[.int .i64 22, v1, v2, v3, v4, .slice s2 n2 c2] 47) := ⟨_, rfl⟩
  have HQ := hide hQ
  rw [← hQ] at HPO
  have HR : Hid ((decide ((kinds ns kids).length = 1) && (kinds ns kids).all isE) = r) := hr
  rw [hkl] at HR
  clear hr h hk hz hQ
  by_cases hn : n2 = 1
  case neg =>
    have hg : ((n2 : Int) - 1 == 0) = false := by simp; omega
    have HE : Hid (false = r) := by show _ = _; rw [← unhide HR, decide_eq_false hn]; rfl
    clear HR HA hn
    go_enter Tryz.func32, Tryz.ntmps32
    go_wp2_with fail
    go_quiet (fail)
    go_wp2_with fail
    go_ret
    exact ⟨ret_bool (unhide HE), ((unhide HPO) _ (by rw [unhide HQ]; repeat (first | exact Below.refl _ _ | refine Below.drew ?_ | refine Below.drewN ?_ _))).2⟩
  rw [decide_eq_true hn, Bool.true_and] at HR
  have hg : ((n2 : Int) - 1 == 0) = true := by simp; omega
  have HC := hide (fun v hv => unhide HA _ eg_expr isE isExpr_any s2 n2 c2 kids v hv (unhide HK) (unhide HZ) r (unhide HR))
  clear HR HA hn
  go_enter Tryz.func32, Tryz.ntmps32
  go_wp2_with fail
  go_quiet (fail)
  go_wp2_with (first | (go_at_call 63; refine (unhide HC _ ((unhide HPO) _ (by rw [unhide HQ]; repeat (first | exact Below.refl _ _ | refine Below.drew ?_ | refine Below.drewN ?_ _))).2).mono ?_; rintro e w1 ⟨rfl, hb1⟩; have HB1 := hide ((((unhide HPO) _ (by rw [unhide HQ]; repeat (first | exact Below.refl _ _ | refine Below.drew ?_ | refine Below.drewN ?_ _))).2).trans (hb1.mono ((((unhide HPO) _ (by rw [unhide HQ]; repeat (first | exact Below.refl _ _ | refine Below.drew ?_ | refine Below.drewN ?_ _))).2).size))); clear hb1))
  go_ret
  exact ⟨rfl, unhide HB1⟩

set_option maxRecDepth 20000 in
set_option maxHeartbeats 8000000 in
theorem kidsI_20 (v1 v2 v3 v4 : Value) (a s2 : Option Addr) (n cap n2 c2 : Nat) (ns : List NodeD) (kids : List Int) (w : World) (h : NRow w a n ns) (hk : Row w s2 n2 kids) (hz : ∀ q, q < n2 → 0 ≤ kids.getD q 0 ∧ kids.getD q 0 < n) :
    Calls Tryz.prog 32 #[.agg #[.slice a n cap], .agg #[.int .i64 20, v1, v2, v3, v4, .slice s2 n2 c2]] w fun e w' => e = .returned (.bool (kidsI 20 (kinds ns kids) (selB ns (kids.getD 0 0).toNat))) ∧ Below w.heap.size w w' := by
  have hlen := hk.len
  have hsm := hk.small
  have hkl : (kinds ns kids).length = n2 := by rw [kinds_len]; exact hlen
  obtain ⟨r, hr⟩ : ∃ r, kidsI 20 (kinds ns kids) (selB ns (kids.getD 0 0).toNat) = r := ⟨_, rfl⟩
  rw [hr]
  have HA := hide (allSaid cap h)
  have HK := hide hk
  have HZ := hide hz
  have HPO := hide (after_of w (.slice a n cap) (.cells #[.int .i64 20, v1, v2, v3, v4, .slice s2 n2 c2] 47))
  obtain ⟨Q, hQ⟩ : ∃ Q, Q = (w.alloc (.cells #[.slice a n cap] 29)).alloc (.cells #[.int .i64 20, v1, v2, v3, v4, .slice s2 n2 c2] 47) := ⟨_, rfl⟩
  have HQ := hide hQ
  rw [← hQ] at HPO
  have HR : Hid ((decide ((kinds ns kids).length = 1) && (kinds ns kids).all isB) = r) := hr
  rw [hkl] at HR
  clear hr h hk hz hQ
  by_cases hn : n2 = 1
  case neg =>
    have hg : ((n2 : Int) - 1 == 0) = false := by simp; omega
    have HE : Hid (false = r) := by show _ = _; rw [← unhide HR, decide_eq_false hn]; rfl
    clear HR HA hn
    go_enter Tryz.func32, Tryz.ntmps32
    go_wp2_with fail
    go_quiet (fail)
    go_wp2_with fail
    go_ret
    exact ⟨ret_bool (unhide HE), ((unhide HPO) _ (by rw [unhide HQ]; repeat (first | exact Below.refl _ _ | refine Below.drew ?_ | refine Below.drewN ?_ _))).2⟩
  rw [decide_eq_true hn, Bool.true_and] at HR
  have hg : ((n2 : Int) - 1 == 0) = true := by simp; omega
  have HC := hide (fun v hv => unhide HA _ eg_braces isB isBraces_any s2 n2 c2 kids v hv (unhide HK) (unhide HZ) r (unhide HR))
  clear HR HA hn
  go_enter Tryz.func32, Tryz.ntmps32
  go_wp2_with fail
  go_quiet (fail)
  go_wp2_with (first | (go_at_call 63; refine (unhide HC _ ((unhide HPO) _ (by rw [unhide HQ]; repeat (first | exact Below.refl _ _ | refine Below.drew ?_ | refine Below.drewN ?_ _))).2).mono ?_; rintro e w1 ⟨rfl, hb1⟩; have HB1 := hide ((((unhide HPO) _ (by rw [unhide HQ]; repeat (first | exact Below.refl _ _ | refine Below.drew ?_ | refine Below.drewN ?_ _))).2).trans (hb1.mono ((((unhide HPO) _ (by rw [unhide HQ]; repeat (first | exact Below.refl _ _ | refine Below.drew ?_ | refine Below.drewN ?_ _))).2).size))); clear hb1))
  go_ret
  exact ⟨rfl, unhide HB1⟩

set_option maxRecDepth 20000 in
set_option maxHeartbeats 8000000 in
theorem kidsI_24 (v1 v2 v3 v4 : Value) (a s2 : Option Addr) (n cap n2 c2 : Nat) (ns : List NodeD) (kids : List Int) (w : World) (h : NRow w a n ns) (hk : Row w s2 n2 kids) (hz : ∀ q, q < n2 → 0 ≤ kids.getD q 0 ∧ kids.getD q 0 < n) :
    Calls Tryz.prog 32 #[.agg #[.slice a n cap], .agg #[.int .i64 24, v1, v2, v3, v4, .slice s2 n2 c2]] w fun e w' => e = .returned (.bool (kidsI 24 (kinds ns kids) (selB ns (kids.getD 0 0).toNat))) ∧ Below w.heap.size w w' := by
  have hlen := hk.len
  have hsm := hk.small
  have hkl : (kinds ns kids).length = n2 := by rw [kinds_len]; exact hlen
  obtain ⟨r, hr⟩ : ∃ r, kidsI 24 (kinds ns kids) (selB ns (kids.getD 0 0).toNat) = r := ⟨_, rfl⟩
  rw [hr]
  have HA := hide (allSaid cap h)
  have HK := hide hk
  have HZ := hide hz
  have HPO := hide (after_of w (.slice a n cap) (.cells #[.int .i64 24, v1, v2, v3, v4, .slice s2 n2 c2] 47))
  obtain ⟨Q, hQ⟩ : ∃ Q, Q = (w.alloc (.cells #[.slice a n cap] 29)).alloc (.cells #[.int .i64 24, v1, v2, v3, v4, .slice s2 n2 c2] 47) := ⟨_, rfl⟩
  have HQ := hide hQ
  rw [← hQ] at HPO
  have HR : Hid ((decide ((kinds ns kids).length = 2) && (kinds ns kids).all isE) = r) := hr
  rw [hkl] at HR
  clear hr h hk hz hQ
  by_cases hn : n2 = 2
  case neg =>
    have hg : ((n2 : Int) - 1 == 1) = false := by simp; omega
    have HE : Hid (false = r) := by show _ = _; rw [← unhide HR, decide_eq_false hn]; rfl
    clear HR HA hn
    go_enter Tryz.func32, Tryz.ntmps32
    go_wp2_with fail
    go_quiet (fail)
    go_wp2_with fail
    go_ret
    exact ⟨ret_bool (unhide HE), ((unhide HPO) _ (by rw [unhide HQ]; repeat (first | exact Below.refl _ _ | refine Below.drew ?_ | refine Below.drewN ?_ _))).2⟩
  rw [decide_eq_true hn, Bool.true_and] at HR
  have hg : ((n2 : Int) - 1 == 1) = true := by simp; omega
  have HC := hide (fun v hv => unhide HA _ eg_expr isE isExpr_any s2 n2 c2 kids v hv (unhide HK) (unhide HZ) r (unhide HR))
  clear HR HA hn
  go_enter Tryz.func32, Tryz.ntmps32
  go_wp2_with fail
  go_quiet (fail)
  go_wp2_with (first | (go_at_call 63; refine (unhide HC _ ((unhide HPO) _ (by rw [unhide HQ]; repeat (first | exact Below.refl _ _ | refine Below.drew ?_ | refine Below.drewN ?_ _))).2).mono ?_; rintro e w1 ⟨rfl, hb1⟩; have HB1 := hide ((((unhide HPO) _ (by rw [unhide HQ]; repeat (first | exact Below.refl _ _ | refine Below.drew ?_ | refine Below.drewN ?_ _))).2).trans (hb1.mono ((((unhide HPO) _ (by rw [unhide HQ]; repeat (first | exact Below.refl _ _ | refine Below.drew ?_ | refine Below.drewN ?_ _))).2).size))); clear hb1))
  go_ret
  exact ⟨rfl, unhide HB1⟩

set_option maxRecDepth 20000 in
set_option maxHeartbeats 8000000 in
theorem kidsI_other (k : Int) (v1 v2 v3 v4 : Value) (a s2 : Option Addr) (n cap n2 c2 : Nat) (ns : List NodeD) (kids : List Int) (w : World) (h : NRow w a n ns) (hk : Row w s2 n2 kids) (hz : ∀ q, q < n2 → 0 ≤ kids.getD q 0 ∧ kids.getD q 0 < n) (h7 : k ≠ 7) (h9 : k ≠ 9) (h10 : k ≠ 10) (h16 : k ≠ 16) (h19 : k ≠ 19) (h20 : k ≠ 20) (h21 : k ≠ 21) (h22 : k ≠ 22) (h23 : k ≠ 23) (h24 : k ≠ 24) (h25 : k ≠ 25) :
    Calls Tryz.prog 32 #[.agg #[.slice a n cap], .agg #[.int .i64 k, v1, v2, v3, v4, .slice s2 n2 c2]] w fun e w' => e = .returned (.bool (kidsI k (kinds ns kids) (selB ns (kids.getD 0 0).toNat))) ∧ Below w.heap.size w w' := by
  have hlen := hk.len
  have hsm := hk.small
  have hkl : (kinds ns kids).length = n2 := by rw [kinds_len]; exact hlen
  obtain ⟨r, hr⟩ : ∃ r, kidsI k (kinds ns kids) (selB ns (kids.getD 0 0).toNat) = r := ⟨_, rfl⟩
  rw [hr]
  have HA := hide (allSaid cap h)
  have HK := hide hk
  have HZ := hide hz
  have HPO := hide (after_of w (.slice a n cap) (.cells #[.int .i64 k, v1, v2, v3, v4, .slice s2 n2 c2] 47))
  obtain ⟨Q, hQ⟩ : ∃ Q, Q = (w.alloc (.cells #[.slice a n cap] 29)).alloc (.cells #[.int .i64 k, v1, v2, v3, v4, .slice s2 n2 c2] 47) := ⟨_, rfl⟩
  have HQ := hide hQ
  rw [← hQ] at HPO
  have HR : Hid (decide (n2 = 0) = r) := by
    show _ = _
    rw [← hr]
    unfold kidsI
    rw [if_neg h7, if_neg h9, if_neg h10, if_neg h16, if_neg (by omega), if_neg h20, if_neg h21, if_neg h23, if_neg h24, if_neg h25, hkl]
  have e7 := ne_false h7
  have e9 := ne_false h9
  have e10 := ne_false h10
  have e16 := ne_false h16
  have e19 := ne_false h19
  have e20 := ne_false h20
  have e21 := ne_false h21
  have e22 := ne_false h22
  have e23 := ne_false h23
  have e24 := ne_false h24
  have e25 := ne_false h25
  clear hr HA h hk hz hQ h7 h9 h10 h16 h19 h20 h21 h22 h23 h24 h25
  go_enter Tryz.func32, Tryz.ntmps32
  go_wp2_with fail
  go_quiet (fail)
  go_wp2_with fail
  go_ret
  refine ⟨ret_bool ?_, ((unhide HPO) _ (by rw [unhide HQ]; repeat (first | exact Below.refl _ _ | refine Below.drew ?_ | refine Below.drewN ?_ _))).2⟩
  rw [← unhide HR]
  by_cases hn : n2 = 0
  · rw [decide_eq_true hn]; simp; omega
  · rw [decide_eq_false hn]; simp; omega

end Go.Proofs.YtinndpnilmmmjaaGreatDoor
