import Derived.Test.YtlnangnimbgpoaaShelfSymB
import Derived.Test.YtlnangnimbgpoaaShelfSymA
import Derived.Test.YtlnangnimbgpoaaMShelf
namespace Go.Proofs.Ytlnangnimbgpoaa
open Go.RowKit

/-- symMerge does what it should for pieces of less than len numbers. -/
def SymOk (cf : Nat) (lb : Array Value) (C : Int → Int → Int) (K : Int → Int) (P : Int → Prop) (g n cap len : Nat) : Prop :=
  ∀ (a m b : Nat) (D : Nat → Int) (w : World), b - a < len → a < m → m < b → b ≤ n → Rise K D a m → Rise K D m b → Low D a m b → Blk w g (tab n D) → CmpOk cf lb C P w g → (∀ i, i < n → P (D i)) →
    Calls Try.prog 101 #[.slice (some ⟨g, 0, none⟩) n cap, .int .i64 (a : Nat), .int .i64 (m : Nat), .int .i64 (b : Nat), .func (.func cf) #[] lb] w fun e w' => (∃ v, e = .returned v) ∧ ∃ E, Merged K D E a b ∧ TabS w g n E w'

/-- The left half put in order, where it is not in order already. -/
theorem left_still {K : Int → Int} {D : Nat → Int} {a s m e b : Nat} (h : Cut K D a s m e b) (hn : ¬ (a < s ∧ s < s + (e - m))) : Merged K (rot D s m e) (rot D s m e) a (s + (e - m)) := by
  have h1 := h.as
  have h2 := h.me
  refine Merged.refl ?_
  by_cases hs : a = s
  · rw [hs]; exact h.left.2.1
  · have : s + (e - m) = s := by omega
    rw [this]; exact h.left.1

theorem right_rise {K : Int → Int} {D E1 : Nat → Int} {a s m e b : Nat} (h : Cut K D a s m e b) (m1 : Merged K (rot D s m e) E1 a (s + (e - m))) : Rise K E1 (s + (e - m)) e ∧ Rise K E1 e b ∧ Low E1 (s + (e - m)) e b := by
  have hE : ∀ i, s + (e - m) ≤ i → E1 i = rot D s m e i := fun i hi => m1.out i (by omega)
  have h1 := h.sm
  have h2 := h.me
  refine ⟨fun i j hi hij hj => ?_, fun i j hi hij hj => ?_, fun i j hi hi2 hj hj2 => ?_⟩
  · rw [hE i hi, hE j (by omega)]; exact h.right.1 i j hi hij hj
  · rw [hE i (by omega), hE j (by omega)]; exact h.right.2.1 i j hi hij hj
  · rw [hE i hi, hE j (by omega)]; exact h.right.2.2 i j hi hi2 hj hj2

theorem right_still {K : Int → Int} {D E1 : Nat → Int} {a s m e b : Nat} (h : Cut K D a s m e b) (m1 : Merged K (rot D s m e) E1 a (s + (e - m))) (hn : ¬ (s + (e - m) < e ∧ e < b)) : Merged K E1 E1 (s + (e - m)) b := by
  have h1 := h.sm
  have h2 := h.me
  have h3 := h.eb
  refine Merged.refl ?_
  have hr := right_rise h m1
  by_cases hs : e = b
  · rw [← hs]; exact hr.1
  · have : s + (e - m) = e := by omega
    rw [this]; exact hr.2.1

theorem rot_still {D : Nat → Int} {s m e : Nat} (h1 : s ≤ m) (h2 : m ≤ e) (hn : ¬ (s < m ∧ m < e)) : rot D s m e = D := by
  by_cases h : s = m
  · rw [h, rot_self]
  · have : m = e := by omega
    rw [this, rot_self2]

set_option maxRecDepth 40000 in
set_option maxHeartbeats 16000000 in
theorem symC_any (cf : Nat) (lb : Array Value) (eg : ∀ args w, (callFunc cf args).run Try.prog w = .ok (.enter cf args) w) (C : Int → Int → Int) (K : Int → Int) (hK : CmpKey C K) (P : Int → Prop) (g n cap a m b : Nat) (D : Nat → Int) (w : World) (ih : SymOk cf lb C K P g n cap (b - a)) (h : Blk w g (tab n D)) (hcmp : CmpOk cf lb C P w g) (hP : ∀ i, i < n → P (D i)) (ham : a + 1 < m) (hmb : m + 1 < b) (hbn : b ≤ n) (hn : n ≤ 1000000) (hl : Rise K D a m) (hr : Rise K D m b) (hlow : Low D a m b) :
    Calls Try.prog 101 #[.slice (some ⟨g, 0, none⟩) n cap, .int .i64 (a : Nat), .int .i64 (m : Nat), .int .i64 (b : Nat), .func (.func cf) #[] lb] w fun e w' => (∃ v, e = .returned v) ∧ ∃ E, Merged K D E a b ∧ TabS w g n E w' := by
  have H := hide (TabS.refl h)
  have HC := hide hcmp
  have HP := hide hP
  have HR := hide hr
  have HLL := hide hl
  have HL := hide hlow
  have IH := hide ih
  clear h hcmp hP hr hl hlow ih
  have q1 : ((m : Int) - (a : Int) == 1) = false := by simp; omega
  have q2 : ((b : Int) - (m : Int) == 1) = false := by simp; omega
  obtain ⟨mid, hmid⟩ : ∃ x, (a + b) / 2 = x := ⟨_, rfl⟩
  have emid : ((a : Int) + (b : Int)) / 2 = (mid : Int) := by omega
  obtain ⟨nn, hnn⟩ : ∃ x, mid + m = x := ⟨_, rfl⟩
  have enn : (mid : Int) + (m : Int) = (nn : Int) := by omega
  obtain ⟨p, hp⟩ : ∃ x, nn = x + 1 := ⟨nn - 1, by omega⟩
  have ep : (nn : Int) - 1 = (p : Int) := by omega
  have HMID := hide hmid
  have HNN := hide hnn
  have HPP := hide hp
  have hamid : a < mid := by omega
  have hmidb : mid < b := by omega
  clear hmid hnn hp
  go_enter Try.func101, Try.ntmps101
  go_upto_if 140 with fail
  go_cut [20, 21] (fun s r wx => (∃ lo hi : Nat, s = .int .i64 lo ∧ r = .int .i64 hi ∧ a ≤ lo ∧ nn ≤ lo + b ∧ hi ≤ m ∧ hi ≤ mid ∧ lo ≤ hi ∧ Hid ((lo = a ∨ lo + b = nn) ∧ (hi = m ∨ hi = mid))) ∧ wx = w)
  case first => as_aux_lemma =>
    by_cases hmm : mid < m
    · have hmmi : (mid : Int) < (m : Int) := by omega
      obtain ⟨lo, hlo⟩ : ∃ x, nn - b = x := ⟨_, rfl⟩
      have elo : (nn : Int) - (b : Int) = (lo : Int) := by have := unhide HMID; have := unhide HNN; omega
      have f1 : a ≤ lo := by have := unhide HMID; have := unhide HNN; omega
      have f2 : lo + b = nn := by have := unhide HMID; have := unhide HNN; omega
      have HF := hide f2
      clear f2 hlo
      go_wp2_with fail
      go_meet
      case rel => exact ⟨⟨lo, mid, rfl, rfl, f1, by have := unhide HF; omega, by omega, Nat.le_refl _, by have := unhide HF; have := unhide HNN; omega, .inr (unhide HF), .inr rfl⟩, rfl⟩
    · have hmmi : ¬ (mid : Int) < (m : Int) := by omega
      go_wp2_with fail
      go_meet
      case rel => exact ⟨⟨a, m, rfl, rfl, Nat.le_refl _, by have := unhide HMID; have := unhide HNN; omega, Nat.le_refl _, by omega, by omega, .inl rfl, .inl rfl⟩, rfl⟩
  case rest =>
    obtain ⟨⟨lo, hi, rfl, rfl, hlo1, hlo2, hhi1, hhi2, hlohi, HLH⟩, rfl⟩ := hcut
    go_wp2_with fail
    go_loopw [20, 21] (fun u v wr => ∃ (i j : Nat), u = .int .i64 i ∧ v = .int .i64 j ∧ lo ≤ i ∧ i ≤ j ∧ j ≤ hi ∧ Hid ((i = lo ∨ K (D (i - 1)) ≤ K (D (nn - i))) ∧ (j = hi ∨ K (D (p - j)) < K (D j))) ∧ Hid (TabS wc g n D wr)) (fun u v _ => (intOf v).toNat - (intOf u).toNat)
    case atStart => exact ⟨lo, hi, rfl, rfl, Nat.le_refl _, by omega, Nat.le_refl _, ⟨.inl rfl, .inl rfl⟩, H⟩
    case round => as_aux_lemma =>
      obtain ⟨i, j, rfl, rfl, hmi, hij, hjb, HI, HT⟩ := hrel
      clear H
      by_cases hlt : i < j
      case neg =>
        obtain rfl : i = j := by omega
        obtain ⟨e, he⟩ : ∃ x, nn - i = x := ⟨_, rfl⟩
        have ee : (nn : Int) - (i : Int) = (e : Int) := by have := unhide HNN; omega
        have hme : m ≤ e := by have := unhide HNN; omega
        have heb : e ≤ b := by have := unhide HNN; omega
        have hai : a ≤ i := by omega
        have him : i ≤ m := by omega
        have HCU : Hid (Cut K D a i m e b) := by
          obtain ⟨h1, h2⟩ := unhide HI
          obtain ⟨h3, h4⟩ := unhide HLH
          have k1 := unhide HNN
          have k2 := unhide HPP
          refine ⟨hai, him, hme, heb, unhide HLL, unhide HR, unhide HL, ?_, ?_⟩
          · rcases h1 with h1 | h1
            · rcases h3 with h3 | h3
              · left; omega
              · right; left; omega
            · rw [he] at h1
              exact .inr (.inr h1)
          · rcases h2 with h2 | h2
            · rcases h4 with h4 | h4
              · right; left; omega
              · left; omega
            · rw [show p - i = e - 1 by omega] at h2
              exact .inr (.inr h2)
        have hsm : i + (e - m) = mid := by have := unhide HNN; omega
        have HSM := hide hsm
        clear hij hlt HI HLH he hlo1 hlo2 hhi1 hhi2 hlohi hmi hjb hsm HLL HR HL
        obtain ⟨ws, hws⟩ : ∃ x, x = wr := ⟨_, rfl⟩
        subst hws
        obtain ⟨R, hR⟩ : ∃ R, rot D i m e = R := ⟨_, rfl⟩
        have HRR := hide hR
        clear hR
        have HPR : Hid (∀ t, t < n → P (R t)) := by
          intro t ht
          rw [← unhide HRR]
          by_cases h1 : i ≤ t ∧ t < e
          · exact perm_all (rot_perm (D := D) him hme) (fun u h2 h3 => unhide HP u (by omega)) t h1.1 h1.2
          · rw [rot_out _ (by omega)]; exact unhide HP t ht
        have hen : e ≤ n := by omega
        have hmidn : mid ≤ n := by omega
        have hlen1 : mid - a < b - a := by omega
        have hlen2 : b - mid < b - a := by omega
        have HLEFT : Hid (Rise K R a i ∧ Rise K R i mid ∧ Low R a i mid) := by
          have := (unhide HCU).left
          rwa [unhide HSM, unhide HRR] at this
        have HLS : Hid (¬ (a < i ∧ i < mid) → Merged K R R a mid) := fun h => by
          have := left_still (unhide HCU) (by rw [unhide HSM]; exact h)
          rwa [unhide HSM, unhide HRR] at this
        have HRIGHT : Hid (∀ E1, Merged K R E1 a mid → (Rise K E1 mid e ∧ Rise K E1 e b ∧ Low E1 mid e b) ∧ (¬ (mid < e ∧ e < b) → Merged K E1 E1 mid b) ∧ ∀ E2, Merged K E1 E2 mid b → Merged K D E2 a b) := fun E1 h => by
          have h' : Merged K (rot D i m e) E1 a (i + (e - m)) := by rw [unhide HSM, unhide HRR]; exact h
          have k1 := right_rise (unhide HCU) h'
          have k2 := right_still (unhide HCU) h'
          have k3 := fun E2 => (unhide HCU).merged (E2 := E2) h'
          rw [unhide HSM] at k1 k2 k3
          exact ⟨k1, k2, k3⟩
        have HST : Hid (¬ (i < m ∧ m < e) → D = R) := fun h => by rw [← unhide HRR, rot_still him hme h]
        clear HCU HSM HNN HPP HMID
        obtain ⟨w0, hw0⟩ : ∃ x, x = wc := ⟨_, rfl⟩
        subst hw0
        go_upto_region 39 with fail
        go_cut [185] (fun u wx => u = .bool (decide (i < m ∧ m < e)) ∧ ws = wx)
        case first => as_aux_lemma =>
          by_cases h1 : i < m
          · by_cases h2 : m < e
            · have d1 : decide (i < m) = true := by simp; omega
              have d2 : decide (m < e) = true := by simp; omega
              go_wp2_with fail
              go_meet
              case rel => exact ⟨by simp [h1, h2], rfl⟩
            · have d1 : decide (i < m) = true := by simp; omega
              have d2 : decide (m < e) = false := by simp; omega
              go_wp2_with fail
              go_meet
              case rel => exact ⟨by simp [h1, h2], rfl⟩
          · have d1 : decide (i < m) = false := by simp; omega
            go_wp2_with fail
            go_meet
            case rel => exact ⟨by simp [h1], rfl⟩
        case rest =>
          obtain ⟨rfl, rfl⟩ := hcut
          obtain ⟨rb, hrb⟩ : ∃ x, decide (i < m ∧ m < e) = x := ⟨_, rfl⟩
          rw [hrb]
          have HRB : Hid (rb = true ↔ (i < m ∧ m < e)) := by show _ ↔ _; rw [← hrb]; simp
          clear hrb
          go_upto_if 185 with fail
          go_cut [24] (fun u wx => u = .int .i64 e ∧ Hid (TabS w0 g n R wx))
          case first => as_aux_lemma =>
            cases rb with
            | true =>
              obtain ⟨h1, h2⟩ := (unhide HRB).1 rfl
              go_wp2_with fail
              refine (rotate_any g n cap i m e D _ _ (unhide HT).blk h1 h2 hen hn).mono ?_
              rintro ee2 w1 ⟨⟨rv, rfl⟩, hT⟩
              have HE : Hid (TabS w0 g n R w1) := by show TabS _ _ _ _ _; rw [← unhide HRR]; exact (unhide HT).next hT
              clear hT
              go_wp2_with fail
              go_meet
              case rel => exact ⟨rfl, HE⟩
            | false =>
              have HE : Hid (TabS w0 g n R ws) := by show TabS _ _ _ _ _; rw [← unhide HST (fun h => by have := (unhide HRB).2 h; simp at this)]; exact unhide HT
              go_wp2_with fail
              go_meet
              case rel => exact ⟨rfl, HE⟩
          case rest =>
            obtain ⟨rfl, HT1⟩ := hcut
            obtain ⟨w2, hw2⟩ : ∃ x, x = wc := ⟨_, rfl⟩
            subst hw2
            clear HT HST HRB
            go_upto_region 41 with fail
            go_cut [199] (fun u wx => u = .bool (decide (a < i ∧ i < mid)) ∧ w2 = wx)
            case first => as_aux_lemma =>
              by_cases h1 : a < i
              · by_cases h2 : i < mid
                · have d1 : decide (a < i) = true := by simp; omega
                  have d2 : decide (i < mid) = true := by simp; omega
                  go_wp2_with fail
                  go_meet
                  case rel => exact ⟨by simp [h1, h2], rfl⟩
                · have d1 : decide (a < i) = true := by simp; omega
                  have d2 : decide (i < mid) = false := by simp; omega
                  go_wp2_with fail
                  go_meet
                  case rel => exact ⟨by simp [h1, h2], rfl⟩
              · have d1 : decide (a < i) = false := by simp; omega
                go_wp2_with fail
                go_meet
                case rel => exact ⟨by simp [h1], rfl⟩
            case rest =>
              obtain ⟨rfl, rfl⟩ := hcut
              obtain ⟨rb, hrb⟩ : ∃ x, decide (a < i ∧ i < mid) = x := ⟨_, rfl⟩
              rw [hrb]
              have HRB : Hid (rb = true ↔ (a < i ∧ i < mid)) := by show _ ↔ _; rw [← hrb]; simp
              clear hrb
              go_upto_if 199 with fail
              go_cut [24] (fun u wx => u = .int .i64 e ∧ Hid (∃ E1, Merged K R E1 a mid ∧ TabS w0 g n E1 wx))
              case first => as_aux_lemma =>
                cases rb with
                | true =>
                  obtain ⟨h1, h2⟩ := (unhide HRB).1 rfl
                  go_wp2_with fail
                  refine (unhide IH a i mid R _ hlen1 h1 h2 hmidn (unhide HLEFT).1 (unhide HLEFT).2.1 (unhide HLEFT).2.2 (unhide HT1).blk ((unhide HC).next (unhide HT1).but) (unhide HPR)).mono ?_
                  rintro ee2 w1 ⟨⟨rv, rfl⟩, E1, hM, hT⟩
                  have HE : Hid (∃ E1, Merged K R E1 a mid ∧ TabS w0 g n E1 w1) := ⟨E1, hM, (unhide HT1).next hT⟩
                  clear hT hM
                  go_wp2_with fail
                  go_meet
                  case rel => exact ⟨rfl, HE⟩
                | false =>
                  have HE : Hid (∃ E1, Merged K R E1 a mid ∧ TabS w0 g n E1 w2) := ⟨R, unhide HLS (fun h => by have := (unhide HRB).2 h; simp at this), unhide HT1⟩
                  go_wp2_with fail
                  go_meet
                  case rel => exact ⟨rfl, HE⟩
              case rest =>
                obtain ⟨rfl, HT2⟩ := hcut
                obtain ⟨w3, hw3⟩ : ∃ x, x = wc := ⟨_, rfl⟩
                subst hw3
                obtain ⟨E1, hM1, hT1⟩ := unhide HT2
                have HR1 := hide (unhide HRIGHT E1 hM1)
                have HP1 : Hid (∀ t, t < n → P (E1 t)) := hM1.all (unhide HPR) hmidn
                have HT3 := hide hT1
                clear hM1 hT1 HT2 HT1 HRB HRIGHT HLS HLEFT
                go_upto_region 43 with fail
                go_cut [213] (fun u wx => u = .bool (decide (mid < e ∧ e < b)) ∧ w3 = wx)
                case first => as_aux_lemma =>
                  by_cases h1 : mid < e
                  · by_cases h2 : e < b
                    · have d1 : decide (mid < e) = true := by simp; omega
                      have d2 : decide (e < b) = true := by simp; omega
                      go_wp2_with fail
                      go_meet
                      case rel => exact ⟨by simp [h1, h2], rfl⟩
                    · have d1 : decide (mid < e) = true := by simp; omega
                      have d2 : decide (e < b) = false := by simp; omega
                      go_wp2_with fail
                      go_meet
                      case rel => exact ⟨by simp [h1, h2], rfl⟩
                  · have d1 : decide (mid < e) = false := by simp; omega
                    go_wp2_with fail
                    go_meet
                    case rel => exact ⟨by simp [h1], rfl⟩
                case rest =>
                  obtain ⟨rfl, rfl⟩ := hcut
                  obtain ⟨rb, hrb⟩ : ∃ x, decide (mid < e ∧ e < b) = x := ⟨_, rfl⟩
                  rw [hrb]
                  have HRB : Hid (rb = true ↔ (mid < e ∧ e < b)) := by show _ ↔ _; rw [← hrb]; simp
                  clear hrb
                  cases rb with
                  | true =>
                    obtain ⟨h1, h2⟩ := (unhide HRB).1 rfl
                    go_wp2_with fail
                    refine (unhide IH mid e b E1 _ hlen2 h1 h2 hbn (unhide HR1).1.1 (unhide HR1).1.2.1 (unhide HR1).1.2.2 (unhide HT3).blk ((unhide HC).next (unhide HT3).but) (unhide HP1)).mono ?_
                    rintro ee2 w1 ⟨⟨rv, rfl⟩, E2, hM, hT⟩
                    have HE : Hid (∃ E2, Merged K D E2 a b ∧ TabS w0 g n E2 w1) := ⟨E2, (unhide HR1).2.2 E2 hM, (unhide HT3).next hT⟩
                    clear hT hM
                    go_wp2_with fail
                    go_end0
                    exact ⟨⟨_, rfl⟩, unhide HE⟩
                  | false =>
                    have HE : Hid (∃ E2, Merged K D E2 a b ∧ TabS w0 g n E2 w3) := ⟨E1, (unhide HR1).2.2 E1 ((unhide HR1).2.1 (fun h => by have := (unhide HRB).2 h; simp at this)), unhide HT3⟩
                    go_wp2_with fail
                    go_end0
                    exact ⟨⟨_, rfl⟩, unhide HE⟩
      have hlti : (i : Int) < (j : Int) := by omega
      obtain ⟨x, hx⟩ : ∃ x, (i + j) / 2 = x := ⟨_, rfl⟩
      have ex : ((i : Int) + (j : Int)) / 2 = (x : Int) := by omega
      have hix : i ≤ x := by omega
      have hxj : x < j := by omega
      have hxn : (x : Int) < (n : Int) := by omega
      clear hx
      obtain ⟨y, hy⟩ : ∃ y, p - x = y := ⟨_, rfl⟩
      have hxp : x ≤ p := by have := unhide HNN; have := unhide HPP; omega
      have ey : (p : Int) - (x : Int) = (y : Int) := by omega
      have hyn0 : y < n := by have := unhide HNN; have := unhide HPP; omega
      have hyn : (y : Int) < (n : Int) := by omega
      have HY := hide hy
      obtain ⟨u, hu⟩ : ∃ u, D y = u := ⟨_, rfl⟩
      obtain ⟨v, hv⟩ : ∃ v, D x = v := ⟨_, rfl⟩
      have c1 := (unhide HT).cell (i := y) (by omega)
      have c2 := (unhide HT).cell (i := x) (by omega)
      have pu := unhide HP y (by omega)
      have pv := unhide HP x (by omega)
      rw [hu] at c1 pu
      rw [hv] at c2 pv
      have HU1 := hide hu
      have HV1 := hide hv
      have HCV : Hid (∀ k, Calls Try.prog cf (#[.int .i64 u, .int .i64 v] ++ lb) (wr.drewN k) fun e w' => e = .returned (.int .i64 (C u v)) ∧ ∃ m, w' = (wr.drewN k).drewN m) := fun k => unhide HC u v pu pv _ ((unhide HT).drewN k).but
      have HKC := hide (hK u v)
      obtain ⟨cv, hcv⟩ : ∃ cv, C u v = cv := ⟨_, rfl⟩
      rw [hcv] at HCV HKC
      clear hu hv hcv pu pv hy
      by_cases hcc : cv < 0
      · have HN : Hid ((i = lo ∨ K (D (i - 1)) ≤ K (D (nn - i))) ∧ (x = hi ∨ K (D (p - x)) < K (D x))) := by
          refine ⟨(unhide HI).1, .inr ?_⟩
          rw [unhide HY, unhide HU1, unhide HV1]
          exact (unhide HKC).1 hcc
        go_wp2_with fail
        have hd2 : decide (cv < 0) = true := by simp; omega
        clear hcc
        go_quiet (first | (go_at_fn cf; exact Calls.quiet_of (unhide HCV _)))
        go_wp2_with fail
        go_roundw
        case rel => exact ⟨i, x, rfl, rfl, hmi, hix, by omega, HN, (unhide HT).drewN _⟩
        case measure => simp [intOf]; omega
      · have HN : Hid ((x + 1 = lo ∨ K (D (x + 1 - 1)) ≤ K (D (nn - (x + 1)))) ∧ (j = hi ∨ K (D (p - j)) < K (D j))) := by
          refine ⟨.inr ?_, (unhide HI).2⟩
          rw [show nn - (x + 1) = y by have := unhide HPP; have := unhide HY; omega, Nat.add_sub_cancel, unhide HU1, unhide HV1]
          have := mt (unhide HKC).2 hcc
          omega
        go_wp2_with fail
        have hd2 : decide (cv < 0) = false := by simp; omega
        clear hcc
        go_quiet (first | (go_at_fn cf; exact Calls.quiet_of (unhide HCV _)))
        go_wp2_with fail
        go_roundw
        case rel => exact ⟨x + 1, j, by go_num, rfl, by omega, by omega, hjb, HN, (unhide HT).drewN _⟩
        case measure => simp [intOf]; omega

end Go.Proofs.Ytlnangnimbgpoaa
