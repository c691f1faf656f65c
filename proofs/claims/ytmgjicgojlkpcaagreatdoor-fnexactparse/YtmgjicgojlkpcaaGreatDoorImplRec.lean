import Derived.Test.YtmgjicgojlkpcaaGreatDoorImplLine
import Derived.Test.YtmgjicgojlkpcaaGreatDoorImplAsgP
import Derived.Test.YtmgjicgojlkpcaaGreatDoorImplStmtM
namespace Go.Proofs.YtmgjicgojlkpcaaGreatDoor
open Go.RowKit

theorem eg_ppart : ∀ args w, (callFunc 217 args).run Tryz.prog w = .ok (.enter 217 args) w := enters_of Tryz.func217 (by kernel_rfl) rfl
theorem eg_pitem : ∀ args w, (callFunc 215 args).run Tryz.prog w = .ok (.enter 215 args) w := enters_of Tryz.func215 (by kernel_rfl) rfl
theorem eg_pstmt : ∀ args w, (callFunc 102 args).run Tryz.prog w = .ok (.enter 102 args) w := enters_of Tryz.func102 (by kernel_rfl) rfl

/-- One part. -/
def lv2 (X : Seen) (G j : Nat) : Option Res := if X.cl j = 59 ∨ X.cl j = 93 then okR j [leafN 8 0 0] else prs X G 0 j []

theorem prs_le (X : Seen) {g G : Nat} (h : g ≤ G) (m i : Nat) (a : List NodeD) : Leq (prs X g m i a) (prs X G m i a) := by
  obtain ⟨d, rfl⟩ : ∃ d, G = g + d := ⟨G - g, by omega⟩
  exact prs_add X g d m i a

theorem ser2_leq (X : Seen) : ∀ (g G i : Nat), g ≤ G → Leq (prs X g 2 i []) (serS X 59 (lv2 X G) g i)
  | 0, _, _, _ => Leq.none _
  | g + 1, G, i, h => by
    rw [prs, if_neg (by decide), if_neg (by decide), if_pos rfl, serS]
    exact Leq.bind (Leq.ite (Leq.refl _) (prs_le X (by omega) 0 i [])) fun q l => Leq.ite (Leq.bind (ser2_leq X g G (q + 1) (by omega)) fun _ _ => Leq.refl _) (Leq.refl _)
theorem ser4_leq (X : Seen) : ∀ (g G i : Nat), g ≤ G → Leq (prs X g 4 i []) (serS X 8900 (fun j => prs X G 6 j []) g i)
  | 0, _, _, _ => Leq.none _
  | g + 1, G, i, h => by
    rw [prs, if_neg (by decide), if_neg (by decide), if_neg (by decide), if_neg (by decide), if_pos rfl, serS]
    exact Leq.bind (prs_le X (by omega) 6 i []) fun q l => Leq.ite (Leq.bind (ser4_leq X g G (q + 1) (by omega)) fun _ _ => Leq.refl _) (Leq.refl _)
theorem ser7_leq (X : Seen) : ∀ (g G i : Nat), g ≤ G → Leq (prs X g 7 i []) (serS X 8900 (fun j => prs X G 5 j []) g i)
  | 0, _, _, _ => Leq.none _
  | g + 1, G, i, h => by
    rw [prs, if_neg (by decide), if_neg (by decide), if_neg (by decide), if_neg (by decide), if_neg (by decide), if_neg (by decide), if_neg (by decide), serS]
    exact Leq.bind (prs_le X (by omega) 5 i []) fun q l => Leq.ite (Leq.bind (ser7_leq X g G (q + 1) (by omega)) fun _ _ => Leq.refl _) (Leq.refl _)

theorem fair_one {X : Seen} {i q : Nat} {x : Option Res} {l : List (List NodeD)} (h : Fair X i 1 0 true x) (hx : x = some (true, q, l)) : ∃ t, l = [t] ∧ i ≤ q ∧ q ≤ X.len ∧ t.length + 1 ≤ 4 * (q - i) := by
  obtain ⟨h1, h2, h3, h4⟩ := h q l hx
  obtain ⟨t, rfl, _⟩ := h4 rfl
  rw [row_one] at h3
  exact ⟨t, rfl, h1, h2, by omega⟩

def normR (r : Res) : Res := if r.1 = true then r else (false, r.2.1, [])
theorem bind_norm (r : Res) : bindR (some r) (fun q2 l2 => okR q2 ([] ++ l2)) = some (normR r) := by
  obtain ⟨b, q, l⟩ := r
  cases b <;> rfl

section
variable {Z w w0 w1 : World} {p i j : Nat} {nd nd0 nd1 v : Value} {zs : List Int} {xs ys : List NodeC} {ta : Option Addr} {tn tc bytes : Nat} {ts : List Tok}

/-- All readers, with fuel f. -/
structure Lev (Z : World) (p : Nat) (ta : Option Addr) (tn tc : Nat) (ts : List Tok) (bytes f : Nat) : Prop where
  x : ∀ j r, j ≤ ts.length → prs (seenT ts) f 0 j [] = some r → ReadI Z p ta tn tc ts bytes 166 #[.pointer (some ⟨p, 0, none⟩)] j r
  g : ∀ j r, j ≤ ts.length → fnC ((seenT ts).cl j) = true → prs (seenT ts) f 3 j [] = some r → ReadI Z p ta tn tc ts bytes 199 #[.pointer (some ⟨p, 0, none⟩)] j r
  s : ∀ j r, j ≤ ts.length → prs (seenT ts) f 5 j [] = some r → ReadI Z p ta tn tc ts bytes 102 #[.pointer (some ⟨p, 0, none⟩)] j r
  t : ∀ j r, j ≤ ts.length → prs (seenT ts) f 6 j [] = some r → ReadI Z p ta tn tc ts bytes 215 #[.pointer (some ⟨p, 0, none⟩)] j r

theorem partR (E : IEnv Z ta tn ts bytes) (htl : ts.length ≤ 4096) {f : Nat} (L : Lev Z p ta tn tc ts bytes f) (j : Nat) (r : Res) (hj : j ≤ ts.length) (hr : lv2 (seenT ts) f j = some r) : ReadI Z p ta tn tc ts bytes 217 #[.pointer (some ⟨p, 0, none⟩)] j r := by
  intro w nd xs h hroom
  unfold lv2 at hr
  by_cases h1 : (seenT ts).cl j = 59
  · rw [if_pos (.inl h1)] at hr
    cases hr
    exact part_59 E h (by omega) hroom h1
  by_cases h2 : (seenT ts).cl j = 93
  · rw [if_pos (.inr h2)] at hr
    cases hr
    exact part_93 E h (by omega) hroom h1 h2
  rw [if_neg (by rintro (h' | h') <;> contradiction)] at hr
  exact part_ex E h (by omega) hroom h1 h2 (L.x j r hj hr)

theorem seriesPart (E : IEnv Z ta tn ts bytes) (htl : ts.length ≤ 4096) {f g : Nat} (L : Lev Z p ta tn tc ts bytes f) (hg : g ≤ f) (hj : j ≤ ts.length) {r : Res} (hr : prs (seenT ts) g 2 j [] = some r) : ListI Z p ta tn tc ts bytes 101 #[.pointer (some ⟨p, 0, none⟩), .string ⟨#[59]⟩, .func (.func 217) #[.pointer (some ⟨p, 0, none⟩)] #[]] j (normR r) := by
  have hs := ser2_leq (seenT ts) g f j hg r hr
  refine serP E htl eg_ppart (c := 59) (by decide) (by kernel_rfl) (Lv := lv2 (seenT ts) f) ?_ (partR E htl L) (f0 := g) (by rw [hs]; exact bind_norm r) hj
  intro j q l hj hl
  unfold lv2 at hl
  split at hl
  · cases hl
    exact ⟨_, rfl, Nat.le_refl _, hj, by rw [leafN_len]; omega⟩
  · obtain ⟨t, rfl, h1, h2, h3, _⟩ := prs_one (by rfl) (by decide) (by decide) hj hl
    exact ⟨t, rfl, h2, h1, by omega⟩

theorem seriesItem (E : IEnv Z ta tn ts bytes) (htl : ts.length ≤ 4096) {f g : Nat} (L : Lev Z p ta tn tc ts bytes f) (hg : g ≤ f) (hj : j ≤ ts.length) {r : Res} (hr : prs (seenT ts) g 4 j [] = some r) : ListI Z p ta tn tc ts bytes 101 #[.pointer (some ⟨p, 0, none⟩), .string ⟨#[226, 139, 132]⟩, .func (.func 215) #[.pointer (some ⟨p, 0, none⟩)] #[]] j (normR r) := by
  have hs := ser4_leq (seenT ts) g f j hg r hr
  refine serP E htl eg_pitem (c := 8900) (by decide) (by kernel_rfl) (Lv := fun j => prs (seenT ts) f 6 j []) ?_ L.t (f0 := g) (by rw [hs]; exact bind_norm r) hj
  intro j q l hj hl
  obtain ⟨t, rfl, h1, h2, h3, _⟩ := prs_one (by rfl) (by decide) (by decide) hj hl
  exact ⟨t, rfl, h2, h1, by omega⟩

theorem seriesStmt (E : IEnv Z ta tn ts bytes) (htl : ts.length ≤ 4096) {f g : Nat} (L : Lev Z p ta tn tc ts bytes f) (hg : g ≤ f) (hj : j ≤ ts.length) {r : Res} (hr : prs (seenT ts) g 7 j [] = some r) : ListI Z p ta tn tc ts bytes 101 #[.pointer (some ⟨p, 0, none⟩), .string ⟨#[226, 139, 132]⟩, .func (.func 102) #[.pointer (some ⟨p, 0, none⟩)] #[]] j (normR r) := by
  have hs := ser7_leq (seenT ts) g f j hg r hr
  refine serP E htl eg_pstmt (c := 8900) (by decide) (by kernel_rfl) (Lv := fun j => prs (seenT ts) f 5 j []) ?_ L.s (f0 := g) (by rw [hs]; exact bind_norm r) hj
  intro j q l hj hl
  obtain ⟨t, rfl, h1, h2, h3, _⟩ := prs_one (by rfl) (by decide) (by decide) hj hl
  exact ⟨t, rfl, h2, h1, by omega⟩

theorem partsR (E : IEnv Z ta tn ts bytes) (htl : ts.length ≤ 4096) {f g : Nat} (L : Lev Z p ta tn tc ts bytes f) (hg : g ≤ f) (h91 : (seenT ts).cl j = 91) {r : Res} (hr : inBr ts g j = some r) : ListI Z p ta tn tc ts bytes 194 #[.pointer (some ⟨p, 0, none⟩)] j r := by
  have hjl : j < ts.length := seen_ends ts j (by rw [h91]; decide)
  intro w nd xs h hroom
  unfold inBr at hr
  rcases bind_cases hr with ⟨q, l, hx, hk⟩ | ⟨q, l, hx, rfl⟩
  · have hS := seriesPart E htl L hg (j := j + 1) hjl hx
    have hq : q ≤ ts.length := ((prs_adv (seen_ends ts) g 2 (j + 1) [] hjl).q hx).2
    by_cases h93 : (seenT ts).cl q = 93
    · rw [if_pos h93] at hk
      cases hk
      exact parts_ok E h (by omega) hroom (by omega) h91 hS h93
    · rw [if_neg h93] at hk
      cases hk
      exact parts_no E h (by omega) hroom (by omega) h91 hS h93
  · exact parts_bad E h (by omega) hroom h91 (seriesPart E htl L hg (j := j + 1) hjl hx)

theorem bracesR (E : IEnv Z ta tn ts bytes) (htl : ts.length ≤ 4096) {f : Nat} (L : Lev Z p ta tn tc ts bytes f) (h1 : (seenT ts).cl j = 123) {r : Res} (hr : bracesS (seenT ts) (prs (seenT ts) f) j = some r) : ReadI Z p ta tn tc ts bytes 192 #[.pointer (some ⟨p, 0, none⟩)] j r := by
  have hjl : j < ts.length := seen_ends ts j (by rw [h1]; decide)
  intro w nd xs h hroom
  unfold bracesS at hr
  by_cases h2 : (seenT ts).cl (j + 1) = 125
  · rw [if_pos h2] at hr
    cases hr
    exact braces_none E h (by omega) hroom h1 h2
  rw [if_neg h2] at hr
  rcases bind_cases hr with ⟨q, l, hx, hk⟩ | ⟨q, l, hx, rfl⟩
  · have hS := seriesItem E htl L (Nat.le_refl f) (j := j + 1) hjl hx
    obtain ⟨k1, k2, k3, _⟩ := K4 (prs_knows (seen_ends ts) f) (i := j + 1) hjl q l hx
    have k2' : q ≤ ts.length := k2
    by_cases h3 : (seenT ts).cl q = 125
    · rw [if_pos h3] at hk
      cases hk
      exact braces_ok E h (by omega) hroom (by omega) h1 h2 hS h3 (by omega)
    · rw [if_neg h3] at hk
      cases hk
      exact braces_no E h (by omega) hroom (by omega) h1 h2 hS h3
  · exact braces_bad E h (by omega) hroom h1 h2 (seriesItem E htl L (Nat.le_refl f) (j := j + 1) hjl hx)

/-- What reading an expr of the same fuel tells. -/
theorem one0 {f q : Nat} (hq : q ≤ ts.length) : ∀ q2 l2, prs (seenT ts) f 0 q [] = some (true, q2, l2) → ∃ t, l2 = [t] ∧ q2 ≤ ts.length ∧ q ≤ q2 ∧ t.length ≤ 4 * (q2 - q) := fun q2 l2 hx => by
  obtain ⟨t, h1, h2, h3, h4, _⟩ := prs_one (by rfl) (by decide) (by decide) hq hx
  exact ⟨t, h1, h2, h3, h4⟩

theorem fromR (E : IEnv Z ta tn ts bytes) (htl : ts.length ≤ 4096) {f : Nat} (L : Lev Z p ta tn tc ts bytes f) {q0 : Nat} (hq0 : q0 ≤ ts.length) {t0 : List NodeD} {r : Res} (hr : fromS (seenT ts) (prs (seenT ts) f) q0 t0 = some r) : FromI Z p ta tn tc ts bytes q0 t0 r :=
  fromP E htl (fun g j r hg _ h91 hr => partsR E htl L (by omega) h91 hr) L.g L.x hq0 hr

theorem operandR (E : IEnv Z ta tn ts bytes) (htl : ts.length ≤ 4096) {f : Nat} (L : Lev Z p ta tn tc ts bytes f) (hj : j ≤ ts.length) {r : Res} (hr : atomS (seenT ts) (prs (seenT ts) f) j = some r) : ReadI Z p ta tn tc ts bytes 196 #[.pointer (some ⟨p, 0, none⟩)] j r :=
  operandP E htl hj (prs_adv (seen_ends ts) f) (fun h40 r hr => L.x (j + 1) r (seen_ends ts j (by rw [h40]; decide)) hr) hr

theorem exprR (E : IEnv Z ta tn ts bytes) (htl : ts.length ≤ 4096) {f : Nat} (L : Lev Z p ta tn tc ts bytes f) (hj : j ≤ ts.length) {r : Res} (hr : exprS (seenT ts) (prs (seenT ts) f) j = some r) : ReadI Z p ta tn tc ts bytes 166 #[.pointer (some ⟨p, 0, none⟩)] j r := by
  intro w nd xs h hroom
  unfold exprS at hr
  by_cases hf : fnC ((seenT ts).cl j) = true
  · rw [if_pos hf] at hr
    rcases bind_cases hr with ⟨q, l, hx, hk⟩ | ⟨q, l, hx, rfl⟩
    · obtain ⟨t, rfl, h1, h2, h3, _⟩ := prs_one (by rfl) (by decide) (by decide) hj hx
      have hrm : xs.length + (rowT [t]).length + 4 * (5000 - q) ≤ 100000 := by rw [row_one]; omega
      rcases bind_cases hk with ⟨q2, l2, hx2, hk2⟩ | ⟨q2, l2, hx2, rfl⟩
      · obtain ⟨t2, rfl, g1, g2, g3, _⟩ := prs_one (by rfl) (by decide) (by decide) h1 hx2
        cases hk2
        exact expr_ok E h (by omega) hroom hf (L.g j _ hj hf hx) hrm (L.x q _ h1 hx2) (by rw [row_app, row_one, row_one]; omega)
      · exact expr_no E h (by omega) hroom hf (L.g j _ hj hf hx) hrm (L.x q _ h1 hx2)
    · exact expr_fbad E h (by omega) hroom hf (L.g j _ hj hf hx)
  · have hf' : fnC ((seenT ts).cl j) = false := by simpa using hf
    rw [if_neg hf] at hr
    have hO := fun r hr => operandR E htl L (j := j) hj (r := r) hr
    rcases bind_cases hr with ⟨q, l, hx, hk⟩ | ⟨q, l, hx, rfl⟩
    · obtain ⟨t, rfl, h1, h2, h3⟩ := fair_one (atom_fair (seen_ends ts) (prs_knows (seen_ends ts) f) (i := j) hj) hx
      have h2' : q ≤ ts.length := h2
      exact expr_from E h (by omega) hroom hf' (hO _ hx) (fromR E htl L h2' hk) (by rw [row_one]; omega)
    · exact expr_abad E h (by omega) hroom hf' (hO _ hx)

theorem defR (E : IEnv Z ta tn ts bytes) (htl : ts.length ≤ 4096) {f : Nat} (L : Lev Z p ta tn tc ts bytes f) (h0 : (seenT ts).cl j = 4) (h1 : (seenT ts).cl (j + 1) = 8592) {r : Res} (hr : (if (seenT ts).cl (j + 2) = 123 then bindR (bracesS (seenT ts) (prs (seenT ts) f) (j + 2)) fun q l => okR q [treeN 20 0 0 ((seenT ts).sv j) [] l] else badR (j + 2)) = some r) : ReadI Z p ta tn tc ts bytes 160 #[.pointer (some ⟨p, 0, none⟩)] j r := by
  have hj1 : j + 1 < ts.length := seen_ends ts (j + 1) (by rw [h1]; decide)
  intro w nd xs h hroom
  by_cases h2 : (seenT ts).cl (j + 2) = 123
  · rw [if_pos h2] at hr
    rcases bind_cases hr with ⟨q, l, hx, hk⟩ | ⟨q, l, hx, rfl⟩
    · obtain ⟨t, rfl, k1, k2, k3⟩ := fair_one (braces_fair (seen_ends ts) (prs_knows (seen_ends ts) f) h2) hx
      have k2' : q ≤ ts.length := k2
      cases hk
      exact def_ok E h (by omega) hroom (by rw [h0]; decide) (bracesR E htl L h2 hx) (by omega)
    · exact def_no E h (by omega) hroom (by rw [h0]; decide) (bracesR E htl L h2 hx)
  · rw [if_neg h2] at hr
    cases hr
    exact def_no E h (by omega) hroom (by rw [h0]; decide) (l := []) (fun w nd xs h _ => braces_nb E h (by omega) h2)

theorem asgR (E : IEnv Z ta tn ts bytes) (htl : ts.length ≤ 4096) {f : Nat} (L : Lev Z p ta tn tc ts bytes f) (h0 : (seenT ts).cl j = 3) (h1 : (seenT ts).cl (j + 1) = 91) {r : Res} (hr : (bindR (prs (seenT ts) f 2 (j + 2) []) fun q l => if (seenT ts).cl q = 93 then (if (seenT ts).cl (q + 1) = 8592 then endS (prs (seenT ts) f) 21 0 ((seenT ts).sv j) l (q + 2) else badR (q + 1)) else badR q) = some r) : ReadI Z p ta tn tc ts bytes 164 #[.pointer (some ⟨p, 0, none⟩)] j r := by
  have hj1 : j + 1 < ts.length := seen_ends ts (j + 1) (by rw [h1]; decide)
  have hc0 : (seenT ts).cl j ≠ 0 := by rw [h0]; decide
  intro w nd xs h hroom
  have hP := fun r hr => partsR E htl L (Nat.le_refl f) h1 (r := r) hr
  unfold inBr at hP
  rcases bind_cases hr with ⟨q, l, hx, hk⟩ | ⟨q, l, hx, rfl⟩
  · obtain ⟨k1, k2, k3, _⟩ := (prs_knows (seen_ends ts) f).fair 2 (j + 2) [] hj1 (fun e => by cases e) q l hx
    have k3' : (rowT l).length ≤ 4 * (q - (j + 2)) + 1 := k3
    have hpl := prs_parts f (j + 2) q l hj1 hx
    have hx' : prs (seenT ts) f 2 (j + 1 + 1) [] = some (true, q, l) := hx
    rw [hx'] at hP
    by_cases h93 : (seenT ts).cl q = 93
    · rw [if_pos h93] at hk
      have hql : q < ts.length := seen_ends ts q (by rw [h93]; decide)
      have hB := hP (true, q + 1, l) (by show (if (seenT ts).cl q = 93 then okR (q + 1) l else badR q) = _; rw [if_pos h93]; rfl)
      by_cases ha : (seenT ts).cl (q + 1) = 8592
      · rw [if_pos ha] at hk
        have hql1 : q + 1 < ts.length := seen_ends ts (q + 1) (by rw [ha]; decide)
        exact asg_end E h (by omega) hroom hc0 (by omega) hB ha (fun r hr => L.x (q + 1 + 1) r hql1 hr) (one0 hql1) htl (by omega) (by omega) hk
      · rw [if_neg ha] at hk
        cases hk
        exact asg_no E h (by omega) hroom hc0 (by omega) hB ha
    · rw [if_neg h93] at hk
      cases hk
      exact asg_bad E h (by omega) hroom hc0 (hP (false, q, []) (by show (if (seenT ts).cl q = 93 then okR (q + 1) l else badR q) = _; rw [if_neg h93]; rfl))
  · have hx' : prs (seenT ts) f 2 (j + 1 + 1) [] = some (false, q, l) := hx
    rw [hx'] at hP
    exact asg_bad E h (by omega) hroom hc0 (hP (false, q, []) rfl)

theorem sibR (E : IEnv Z ta tn ts bytes) (htl : ts.length ≤ 4096) {f : Nat} (L : Lev Z p ta tn tc ts bytes f) (h0 : (seenT ts).cl j = 40) {r : Res} (hr : (bindR (prs (seenT ts) f 0 (j + 1) []) fun q l => if (seenT ts).cl q = 41 then (if (seenT ts).cl (q + 1) = 8592 then (if selT (l.headD []) = true then endS (prs (seenT ts) f) 23 0 nilS l (q + 2) else badR (q + 1)) else fromS (seenT ts) (prs (seenT ts) f) (q + 1) (l.headD [])) else badR q) = some r) : ReadI Z p ta tn tc ts bytes 165 #[.pointer (some ⟨p, 0, none⟩)] j r := by
  have hjl : j < ts.length := seen_ends ts j (by rw [h0]; decide)
  intro w nd xs h hroom
  have hO := fun r hr => operandR E htl L (j := j) (by omega) (r := r) hr
  unfold atomS at hO
  rw [if_neg (by rw [h0]; decide), if_pos h0] at hO
  rcases bind_cases hr with ⟨q, l, hx, hk⟩ | ⟨q, l, hx, rfl⟩
  · obtain ⟨t, rfl, k1, k2, k3, _⟩ := prs_one (by rfl) (by decide) (by decide) (q0 := j + 1) hjl hx
    have hw : WF t := (prs_wf (seenT ts) f 0 (j + 1) [] (fun e => by cases e) q _ hx).2 t List.mem_cons_self
    rw [hx] at hO
    by_cases h41 : (seenT ts).cl q = 41
    · rw [if_pos h41] at hk
      have hql : q < ts.length := seen_ends ts q (by rw [h41]; decide)
      have hB := hO (true, q + 1, [t]) (by show (if (seenT ts).cl q = 41 then okR (q + 1) [t] else badR q) = _; rw [if_pos h41]; rfl)
      have hrm : xs.length + (rowT [t]).length + 4 * (5000 - (q + 1)) ≤ 100000 := by rw [row_one]; omega
      by_cases ha : (seenT ts).cl (q + 1) = 8592
      · rw [if_pos ha] at hk
        have hql1 : q + 1 < ts.length := seen_ends ts (q + 1) (by rw [ha]; decide)
        have hk' : (if selT t = true then endS (prs (seenT ts) f) 23 0 nilS [t] (q + 2) else badR (q + 1)) = some r := hk
        by_cases hs : selT t = true
        · rw [if_pos hs] at hk'
          exact sib_end E h hroom (by omega) hw hB ha hs hrm (fun r hr => L.x (q + 1 + 1) r hql1 hr) (one0 hql1) htl hk'
        · rw [if_neg hs] at hk'
          cases hk'
          exact sib_no E h hroom (by omega) hw hB ha (by simpa using hs) hrm
      · rw [if_neg ha] at hk
        exact sib_from E h hroom (by omega) hB ha (fromR E htl L (by omega) hk) hrm
    · rw [if_neg h41] at hk
      cases hk
      exact sib_bad h hroom (hO (false, q, []) (by show (if (seenT ts).cl q = 41 then okR (q + 1) [t] else badR q) = _; rw [if_neg h41]; rfl))
  · rw [hx] at hO
    exact sib_bad h hroom (hO (false, q, []) rfl)

theorem stmtR (E : IEnv Z ta tn ts bytes) (htl : ts.length ≤ 4096) {f : Nat} (L : Lev Z p ta tn tc ts bytes f) (hj : j ≤ ts.length) {r : Res} (hr : stmtS (seenT ts) (prs (seenT ts) f) j = some r) : ReadI Z p ta tn tc ts bytes 102 #[.pointer (some ⟨p, 0, none⟩)] j r := by
  intro w nd xs h hroom
  unfold stmtS at hr
  by_cases c1 : (seenT ts).cl j = 4 ∧ (seenT ts).cl (j + 1) = 8592
  · rw [if_pos c1] at hr
    exact stm_def E h (by omega) hroom c1.1 c1.2 (defR E htl L c1.1 c1.2 hr)
  rw [if_neg c1] at hr
  by_cases c2 : (seenT ts).cl j = 3 ∧ (seenT ts).cl (j + 1) = 8592
  · rw [if_pos c2] at hr
    have hl : j + 1 < ts.length := seen_ends ts (j + 1) (by rw [c2.2]; decide)
    exact stm_set E h (by omega) hroom c2.1 c2.2 (fun r hr => L.x (j + 2) r hl hr) (one0 hl) htl hr
  rw [if_neg c2] at hr
  by_cases c3 : (seenT ts).cl j = 3 ∧ 0 < scalNo ((seenT ts).cl (j + 1)) ∧ (seenT ts).cl (j + 2) = 8592
  · rw [if_pos c3] at hr
    have hl : j + 2 < ts.length := seen_ends ts (j + 2) (by rw [c3.2.2]; decide)
    exact stm_mod E h (by omega) hroom c3.1 c3.2.1 c3.2.2 (fun r hr => L.x (j + 3) r hl hr) (one0 hl) htl hr
  rw [if_neg c3] at hr
  by_cases c4 : (seenT ts).cl j = 3 ∧ (seenT ts).cl (j + 1) = 91 ∧ asgnB (seenT ts) (j + 1) = true
  · rw [if_pos c4] at hr
    have hl : j + 1 < ts.length := seen_ends ts (j + 1) (by rw [c4.2.1]; decide)
    exact stm_asg E h (by omega) hroom c4.1 c4.2.1 (fun W hW => by have := assignsP E hW hl htl c4.2.1; rw [c4.2.2] at this; exact this) (asgR E htl L c4.1 c4.2.1 hr)
  rw [if_neg c4] at hr
  by_cases c5 : (seenT ts).cl j = 40
  · rw [if_pos c5] at hr
    exact stm_40 E h (by omega) hroom c5 (sibR E htl L c5 hr)
  rw [if_neg c5] at hr
  have hX := L.x j r hj hr
  by_cases d4 : (seenT ts).cl j = 4
  · exact stm_e4 E h (by omega) hroom d4 (fun e => c1 ⟨d4, e⟩) hX
  by_cases d3 : (seenT ts).cl j = 3
  · by_cases ds : 0 < scalNo ((seenT ts).cl (j + 1))
    · exact stm_e3s E h (by omega) hroom d3 ds (fun e => c3 ⟨d3, ds, e⟩) hX
    by_cases d91 : (seenT ts).cl (j + 1) = 91
    · have hl : j + 1 < ts.length := seen_ends ts (j + 1) (by rw [d91]; decide)
      have hb : asgnB (seenT ts) (j + 1) = false := by
        cases hv : asgnB (seenT ts) (j + 1) with
        | false => rfl
        | true => exact absurd ⟨d3, d91, hv⟩ c4
      exact stm_e91 E h (by omega) hroom d3 d91 (fun W hW => by have := assignsP E hW hl htl d91; rw [hb] at this; exact this) hX
    · exact stm_e3 E h (by omega) hroom d3 (fun e => c2 ⟨d3, e⟩) (by omega) d91 hX
  exact stm_e E h (by omega) hroom d4 d3 c5 hX

theorem itemR (E : IEnv Z ta tn ts bytes) (htl : ts.length ≤ 4096) {f : Nat} (L : Lev Z p ta tn tc ts bytes f) (hj : j ≤ ts.length) {r : Res} (hr : itemS (seenT ts) (prs (seenT ts) f) j = some r) : ReadI Z p ta tn tc ts bytes 215 #[.pointer (some ⟨p, 0, none⟩)] j r := by
  intro w nd xs h hroom
  unfold itemS at hr
  rcases bind_cases hr with ⟨q, l, hx, hk⟩ | ⟨q, l, hx, rfl⟩
  · obtain ⟨t, rfl, k1, k2, k3, _⟩ := prs_one (by rfl) (by decide) (by decide) hj hx
    have hw : WF t := (prs_wf (seenT ts) f 5 j [] (fun e => by cases e) q _ hx).2 t List.mem_cons_self
    have hrm : xs.length + (rowT [t]).length + 4 * (5000 - q) ≤ 100000 := by rw [row_one]; omega
    have hO := L.s j _ hj hx
    have hk' : (if isE (rootK t) = true ∧ (seenT ts).cl q = 58 then endS (prs (seenT ts) f) 24 0 nilS [t] (q + 1) else okR q [t]) = some r := hk
    by_cases h1 : isE (rootK t) = true
    · by_cases h2 : (seenT ts).cl q = 58
      · rw [if_pos ⟨h1, h2⟩] at hk'
        have hql : q < ts.length := seen_ends ts q (by rw [h2]; decide)
        exact item_end E h hroom (by omega) hw hO h1 h2 hrm (fun r hr => L.x (q + 1) r hql hr) (one0 hql) htl hk'
      · rw [if_neg (fun e => h2 e.2)] at hk'
        cases hk'
        exact item_nc E h hroom (by omega) hw hO h1 h2 hrm
    · rw [if_neg (fun e => h1 e.1)] at hk'
      cases hk'
      exact item_ne h hroom hw hO (by simpa using h1) hrm
  · exact item_bad h hroom (L.s j _ hj hx)

/-- The developers' readers read what the grammar says. -/
theorem levs (E : IEnv Z ta tn ts bytes) (htl : ts.length ≤ 4096) : ∀ f, Lev Z p ta tn tc ts bytes f
  | 0 => ⟨fun _ _ _ h => (by cases h), fun _ _ _ _ h => (by cases h), fun _ _ _ h => (by cases h), fun _ _ _ h => (by cases h)⟩
  | f + 1 => by
    have L : Lev Z p ta tn tc ts bytes f := levs E htl f
    refine ⟨fun j r hj hr => ?_, fun j r hj hc hr => ?_, fun j r hj hr => ?_, fun j r hj hr => ?_⟩
    · rw [prs, if_pos rfl] at hr
      exact exprR E htl L hj hr
    · rw [prs, if_neg (by decide), if_neg (by decide), if_neg (by decide), if_pos rfl] at hr
      exact fnP E htl hj hc (fun r hr h1 => bracesR E htl L h1 hr) hr
    · rw [prs, if_neg (by decide), if_neg (by decide), if_neg (by decide), if_neg (by decide), if_neg (by decide), if_pos rfl] at hr
      exact stmtR E htl L hj hr
    · rw [prs, if_neg (by decide), if_neg (by decide), if_neg (by decide), if_neg (by decide), if_neg (by decide), if_neg (by decide), if_pos rfl] at hr
      exact itemR E htl L hj hr

end
end Go.Proofs.YtmgjicgojlkpcaaGreatDoor
