import Derived.Test.YtkgcmpmgaghdhaaGreatDoorImplScalar2G
namespace Go.Proofs.YtkgcmpmgaghdhaaGreatDoor
open Go.RowKit Go.Shelf

theorem implScalar2_any (op : Int) (c d : Bool) (a1 a2 b1 b2 : Option Addr) (n1 n2 m1 m2 c1 c2 d1 d2 : Nat) (sh dt sh' dt' : List Int) (w : World) (h1 : Row w a1 n1 sh) (h2 : Row w a2 n2 dt) (k1 : Row w b1 m1 sh') (k2 : Row w b2 m2 dt') (ga gb : Addr) (hG : Gl w ga gb) :
    Calls Tryz.prog 13 #[.int .i64 op, .agg #[.bool c, .slice a1 n1 c1, .slice a2 n2 c2], .agg #[.bool d, .slice b1 m1 d1, .slice b2 m2 d2]] w (GivesOwn w (scalar2 op c d sh dt sh' dt')) := by
  cases hop : opIn op with
  | false =>
    rw [scalar2_bad (by rw [hop]; simp)]
    exact implScalar2_bad1 op c d a1 a2 b1 b2 n1 n2 m1 m2 c1 c2 d1 d2 w hop
  | true =>
    cases hok : arrOk c sh dt with
    | false =>
      rw [scalar2_bad (by rw [hok]; simp)]
      exact implScalar2_bad2 op c d a1 a2 b1 b2 n1 n2 m1 m2 c1 c2 d1 d2 sh dt w h1 h2 hop hok
    | true =>
      cases hok' : arrOk d sh' dt' with
      | false =>
        rw [scalar2_bad (by rw [hok']; simp)]
        exact implScalar2_bad3 op c d a1 a2 b1 b2 n1 n2 m1 m2 c1 c2 d1 d2 sh dt sh' dt' w h1 h2 k1 k2 hop hok hok'
      | true =>
        have l1 := h1.len
        have l2 := h2.len
        have l3 := k1.len
        have l4 := k2.len
        by_cases hj : jointCode n1 n2 m1 m2 sh sh' = 0
        · rw [scalar2_ok ⟨hok, hok', hop⟩ (by rw [l1, l2, l3, l4]; exact hj)]
          by_cases hno : (c || d) = true ∧ opEq op = false
          · rw [if_pos hno]
            exact implScalar2_bad5 op c d a1 a2 b1 b2 n1 n2 m1 m2 c1 c2 d1 d2 sh dt sh' dt' w h1 h2 k1 k2 ga gb hG hop hok hok' hj hno
          · rw [if_neg hno]
            obtain ⟨n, hn1, hn2, hp1, hp2⟩ := joint_count (c := c) (d := d) (n1 := n1) (m1 := m1) l2 l4 hok hok' hj
            rw [l1, l3]
            rw [show (countOf (jointSh n1 dt.length m1 dt'.length sh sh')).toNat = n by rw [l2, l4, hn2]; simp]
            rw [gather_congrS (s2_same (op := op) (c := c) (d := d) l2 l4 hp1 hp2), l2, l4]
            by_cases hfc : firstCode (s2f op c d dt dt' n2 m2) n = 0
            · exact implScalar2_good0 op c d a1 a2 b1 b2 n1 n2 m1 m2 c1 c2 d1 d2 sh dt sh' dt' w h1 h2 k1 k2 ga gb hG hop hok hok' hj hno n hn1 hn2 ⟨hp1, hp2⟩ hfc
            · exact implScalar2_good1 op c d a1 a2 b1 b2 n1 n2 m1 m2 c1 c2 d1 d2 sh dt sh' dt' w h1 h2 k1 k2 ga gb hG hop hok hok' hj hno n hn1 hn2 ⟨hp1, hp2⟩ _ rfl hfc
        · rw [scalar2_code ⟨hok, hok', hop⟩ (by rw [l1, l2, l3, l4]; exact hj), l1, l2, l3, l4]
          exact implScalar2_bad4 op c d a1 a2 b1 b2 n1 n2 m1 m2 c1 c2 d1 d2 sh dt sh' dt' w h1 h2 k1 k2 hop hok hok' _ rfl hj

end Go.Proofs.YtkgcmpmgaghdhaaGreatDoor
