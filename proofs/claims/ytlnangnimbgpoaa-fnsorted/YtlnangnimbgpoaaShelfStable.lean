import Derived.Test.YtlnangnimbgpoaaShelfSym
import Derived.Test.YtlnangnimbgpoaaMMath
namespace Go.Proofs.Ytlnangnimbgpoaa
open Go.RowKit

theorem symMerge_any (cf : Nat) (lb : Array Value) (eg : ∀ args w, (callFunc cf args).run Try.prog w = .ok (.enter cf args) w) (C : Int → Int → Int) (K : Int → Int) (hK : CmpKey C K) (P : Int → Prop) (g n cap : Nat) (hn : n ≤ 1000000) : ∀ len, SymOk cf lb C K P g n cap len := by
  intro len
  induction len with
  | zero => intro a m b D w h; exact absurd h (by omega)
  | succ len ih =>
    intro a m b D w hlen ham hmb hbn hl hr hlow hb hc hp
    by_cases h1 : m = a + 1
    · exact symA_any cf lb eg C K hK P g n cap a m b D w hb hc hp h1 hmb hbn hn hr hlow
    · by_cases h2 : b = m + 1
      · exact symB_any cf lb eg C K hK P g n cap a m b D w hb hc hp (by omega) h2 hbn hn hl hlow
      · exact symC_any cf lb eg C K hK P g n cap a m b D w (fun a' m' b' D' w' h => ih a' m' b' D' w' (by omega)) hb hc hp (by omega) (by omega) hbn hn hl hr hlow

set_option maxRecDepth 20000 in
set_option maxHeartbeats 8000000 in
theorem stable_any (cf : Nat) (lb : Array Value) (eg : ∀ args w, (callFunc cf args).run Try.prog w = .ok (.enter cf args) w) (C : Int → Int → Int) (K : Int → Int) (hK : CmpKey C K) (P : Int → Prop) (g n cap : Nat) (D : Nat → Int) (w : World) (h : Blk w g (tab n D)) (hcmp : CmpOk cf lb C P w g) (hP : ∀ i, i < n → P (D i)) (hn : n ≤ 1000000) (hup : Up D n) :
    Calls Try.prog 79 #[.slice (some ⟨g, 0, none⟩) n cap, .int .i64 (n : Nat), .func (.func cf) #[] lb] w fun e w' => (∃ v, e = .returned v) ∧ ∃ E, Merged K D E 0 n ∧ TabS w g n E w' := by
  have H := hide (TabS.refl h)
  have HC := hide hcmp
  have HU := hide hup
  have H1 : Hid (St1 K D P n D 0) := St1.start hP
  have HS := hide (symMerge_any cf lb eg C K hK P g n cap hn)
  clear h hcmp hP hup
  go_enter Try.func79, Try.ntmps79
  go_wp2_with fail
  go_loopw [7, 8] (fun u v wr => ∃ (x y : Nat) (E : Nat → Int), u = .int .i64 x ∧ v = .int .i64 y ∧ x + 20 = y ∧ x ≤ n ∧ Hid (St1 K D P n E x ∧ TabS w g n E wr)) (fun u _ _ => n - (intOf u).toNat)
  case atStart => exact ⟨0, 20, D, rfl, rfl, rfl, by omega, unhide H1, unhide H⟩
  case round =>
    obtain ⟨x, y, E, rfl, rfl, hxy, hxn, HT⟩ := hrel
    clear H H1
    have HXY := hide hxy
    by_cases hlt : y ≤ n
    · have hlti : (y : Int) ≤ (n : Int) := by omega
      have hupE : ∀ i j, x ≤ i → i < j → j < y → E i < E j := fun i j h1 h2 h3 => by
        rw [(unhide HT).1.out i h1, (unhide HT).1.out j (by omega)]
        exact unhide HU i j h2 (by omega)
      have hc := insertion_any cf lb eg C K hK P g n cap x y E wr (unhide HT).2.blk ((unhide HC).next (unhide HT).2.but) (unhide HT).1.all (by omega) hlt hn hupE
      clear hupE hxy
      go_wp2_with fail
      refine hc.mono ?_
      rintro e w1 ⟨⟨rv, rfl⟩, E', hM, hT⟩
      have HE : Hid (St1 K D P n E' y ∧ TabS w g n E' w1) := by
        have q := unhide HXY
        subst q
        exact ⟨(unhide HT).1.step hlt hM, (unhide HT).2.next hT⟩
      clear hc hM hT
      go_wp2_with fail
      go_roundw
      case rel => exact ⟨y, y + 20, E', rfl, by go_num, rfl, hlt, HE⟩
      case measure => simp [intOf]; have := unhide HXY; omega
    · have hlti : ¬ (y : Int) ≤ (n : Int) := by omega
      have hupE : ∀ i j, x ≤ i → i < j → j < n → E i < E j := fun i j h1 h2 h3 => by
        rw [(unhide HT).1.out i h1, (unhide HT).1.out j (by omega)]
        exact unhide HU i j h2 (by omega)
      have hc := insertion_any cf lb eg C K hK P g n cap x n E wr (unhide HT).2.blk ((unhide HC).next (unhide HT).2.but) (unhide HT).1.all (by omega) (Nat.le_refl _) hn hupE
      clear hupE hxy
      go_wp2_with fail
      refine hc.mono ?_
      rintro e w1 ⟨⟨rv, rfl⟩, E', hM, hT⟩
      have H2 : Hid (St2 K D P n E' 20 ∧ TabS w g n E' w1) := ⟨(unhide HT).1.last hxn (by have := unhide HXY; omega) hM, (unhide HT).2.next hT⟩
      clear hc hM hT HT HXY hlt hlti
      go_wp2_with fail
      go_loopw [6] (fun u wr => ∃ (bs : Nat) (E : Nat → Int), u = .int .i64 bs ∧ 0 < bs ∧ bs ≤ 2000000 ∧ Hid (St2 K D P n E bs ∧ TabS w g n E wr)) (fun u _ => n - (intOf u).toNat)
      case atStart => exact ⟨20, E', rfl, by omega, by omega, H2⟩
      case round =>
        obtain ⟨bs, E0, rfl, hbs0, hbsn, HT⟩ := hrel
        clear H2
        by_cases hlb : bs < n
        · have hlbi : (bs : Int) < (n : Int) := by omega
          obtain ⟨b2, hb2⟩ : ∃ x, 2 * bs = x := ⟨_, rfl⟩
          have eb2 : 2 * (bs : Int) = (b2 : Int) := by omega
          have eb3 : (bs : Int) * 2 = (b2 : Int) := by omega
          have HB2 := hide hb2
          have hb2n : b2 ≤ 2000000 := by omega
          have hb20 : bs < b2 := by omega
          have H3 : Hid (St3 K D P n E0 bs 0 ∧ TabS w g n E0 wr) := ⟨(unhide HT).1.start, (unhide HT).2⟩
          clear hb2 HT
          obtain ⟨ws, hws⟩ : ∃ x, x = wr := ⟨_, rfl⟩
          subst hws
          go_wp2_with fail
          go_loopw [7, 8] (fun u v wr => ∃ (x y : Nat) (E : Nat → Int), u = .int .i64 x ∧ v = .int .i64 y ∧ x + b2 = y ∧ x ≤ n ∧ Hid (St3 K D P n E bs x ∧ TabS w g n E wr)) (fun u _ _ => n - (intOf u).toNat)
          case atStart => exact ⟨0, b2, E0, rfl, rfl, by omega, by omega, H3⟩
          case round =>
            obtain ⟨x, y, E, rfl, rfl, hxy, hxn, HT⟩ := hrel
            clear H3
            have HXY := hide hxy
            obtain ⟨md, hmd⟩ : ∃ z, x + bs = z := ⟨_, rfl⟩
            have emd : (x : Int) + (bs : Int) = (md : Int) := by omega
            have HMD := hide hmd
            by_cases hyn : y ≤ n
            · have hyni : (y : Int) ≤ (n : Int) := by omega
              obtain ⟨y2, hy2⟩ : ∃ z, y + b2 = z := ⟨_, rfl⟩
              have ey2 : (y : Int) + (b2 : Int) = (y2 : Int) := by omega
              have HY2 := hide hy2
              have hpr := (unhide HT).1.pair (unhide HU) hbs0 (by omega)
              rw [show min (x + 2 * bs) n = y by have := unhide HB2; omega, hmd] at hpr
              have hc := unhide HS (y - x + 1) x md y E wr (by omega) (by omega) (by omega) hyn hpr.1 hpr.2.1 hpr.2.2 (unhide HT).2.blk ((unhide HC).next (unhide HT).2.but) (unhide HT).1.all
              clear hpr hxy hmd hy2
              go_wp2_with fail
              refine hc.mono ?_
              rintro e w2 ⟨⟨rv2, rfl⟩, E2, hM, hT⟩
              have HE : Hid (St3 K D P n E2 bs y ∧ TabS w g n E2 w2) := by
                have q : y = x + 2 * bs := by have := unhide HXY; have := unhide HB2; omega
                subst q
                exact ⟨(unhide HT).1.step hbs0 hyn hM, (unhide HT).2.next hT⟩
              clear hc hM hT
              go_wp2_with fail
              go_roundw
              case rel => exact ⟨y, y2, E2, rfl, by go_num, unhide HY2, hyn, HE⟩
              case measure => simp [intOf]; have := unhide HXY; omega
            · have hyni : ¬ (y : Int) ≤ (n : Int) := by omega
              by_cases hmn : md < n
              · have hmni : (md : Int) < (n : Int) := by omega
                have hpr := (unhide HT).1.pair (unhide HU) hbs0 (by omega)
                rw [show min (x + 2 * bs) n = n by have := unhide HB2; omega, hmd] at hpr
                have hc := unhide HS (n - x + 1) x md n E wr (by omega) (by omega) (by omega) (Nat.le_refl _) hpr.1 hpr.2.1 hpr.2.2 (unhide HT).2.blk ((unhide HC).next (unhide HT).2.but) (unhide HT).1.all
                clear hpr hxy hmd
                go_wp2_with fail
                refine hc.mono ?_
                rintro e w2 ⟨⟨rv2, rfl⟩, E2, hM, hT⟩
                have HE : Hid (St2 K D P n E2 b2 ∧ TabS w g n E2 w2) := by
                  refine ⟨?_, (unhide HT).2.next hT⟩
                  rw [← unhide HB2]
                  exact (unhide HT).1.last hbs0 (by have := unhide HMD; omega) (by have := unhide HXY; have := unhide HB2; omega) hM
                clear hc hM hT
                go_wp2_with fail
                go_roundw
                case rel => exact ⟨b2, E2, by go_num, by omega, hb2n, HE⟩
                case measure => simp [intOf]; omega
              · have hmni : ¬ (md : Int) < (n : Int) := by omega
                have HE : Hid (St2 K D P n E b2 ∧ TabS w g n E wr) := by
                  refine ⟨?_, (unhide HT).2⟩
                  rw [← unhide HB2]
                  exact (unhide HT).1.rest hbs0 (by omega)
                clear hxy hmd
                go_wp2_with fail
                go_roundw
                case rel => exact ⟨b2, E, by go_num, by omega, hb2n, HE⟩
                case measure => simp [intOf]; omega
        · have hlbi : ¬ (bs : Int) < (n : Int) := by omega
          have HE : Hid (Merged K D E0 0 n ∧ TabS w g n E0 wr) := ⟨(unhide HT).1.whole (by omega), (unhide HT).2⟩
          go_wp2_with fail
          go_end0
          exact ⟨⟨_, rfl⟩, _, unhide HE⟩

set_option maxHeartbeats 4000000 in
theorem sortStable_any (cf : Nat) (lb : Array Value) (eg : ∀ args w, (callFunc cf args).run Try.prog w = .ok (.enter cf args) w) (C : Int → Int → Int) (K : Int → Int) (hK : CmpKey C K) (P : Int → Prop) (g n cap : Nat) (D : Nat → Int) (w : World) (h : Blk w g (tab n D)) (hcmp : CmpOk cf lb C P w g) (hP : ∀ i, i < n → P (D i)) (hn : n ≤ 1000000) (hup : Up D n) :
    Calls Try.prog 36 #[.slice (some ⟨g, 0, none⟩) n cap, .func (.func cf) #[] lb] w fun e w' => (∃ v, e = .returned v) ∧ ∃ E, Merged K D E 0 n ∧ TabS w g n E w' := by
  have hc := stable_any cf lb eg C K hK P g n cap D w h hcmp hP hn hup
  clear h hcmp hP hup
  go_enter Try.func36, Try.ntmps36
  go_wp2_with fail
  refine hc.mono ?_
  rintro e w1 ⟨⟨rv, rfl⟩, hE⟩
  have HE := hide hE
  clear hc hE
  go_wp2_with fail
  go_end0
  exact ⟨⟨_, rfl⟩, unhide HE⟩

end Go.Proofs.Ytlnangnimbgpoaa
