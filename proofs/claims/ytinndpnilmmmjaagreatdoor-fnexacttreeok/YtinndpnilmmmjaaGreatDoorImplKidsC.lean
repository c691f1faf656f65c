import Derived.Test.YtinndpnilmmmjaaGreatDoorImplKidsB
import Derived.Test.YtinndpnilmmmjaaGreatDoorImplKids7
import Derived.Test.YtinndpnilmmmjaaGreatDoorImplKids9
import Derived.Test.YtinndpnilmmmjaaGreatDoorImplKids10
import Derived.Test.YtinndpnilmmmjaaGreatDoorImplKids21
import Derived.Test.YtinndpnilmmmjaaGreatDoorImplKids23
namespace Go.Proofs.YtinndpnilmmmjaaGreatDoor
open Go.RowKit

theorem kidsIm_any (k : Int) (v1 v2 v3 v4 : Value) (a s2 : Option Addr) (n cap n2 c2 : Nat) (ns : List NodeD) (kids : List Int) (w : World) (h : NRow w a n ns) (hk : Row w s2 n2 kids) (hc : n2 ≤ c2) (hz : ∀ q, q < n2 → 0 ≤ kids.getD q 0 ∧ kids.getD q 0 < n) (hsel : k = 23 → n2 = 2 → SelOk ns (kids.getD 0 0).toNat) :
    Calls Tryz.prog 32 #[.agg #[.slice a n cap], .agg #[.int .i64 k, v1, v2, v3, v4, .slice s2 n2 c2]] w fun e w' => e = .returned (.bool (kidsI k (kinds ns kids) (selB ns (kids.getD 0 0).toNat))) ∧ Below w.heap.size w w' := by
  by_cases h7 : k = 7
  · subst h7; exact kidsI_7 v1 v2 v3 v4 a s2 n cap n2 c2 ns kids w h hk hc hz
  by_cases h9 : k = 9
  · subst h9; exact kidsI_9 v1 v2 v3 v4 a s2 n cap n2 c2 ns kids w h hk hc hz
  by_cases h10 : k = 10
  · subst h10; exact kidsI_10 v1 v2 v3 v4 a s2 n cap n2 c2 ns kids w h hk hc hz
  by_cases h16 : k = 16
  · subst h16; exact kidsI_16 v1 v2 v3 v4 a s2 n cap n2 c2 ns kids w h hk hz
  by_cases h19 : k = 19
  · subst h19; exact kidsI_19 v1 v2 v3 v4 a s2 n cap n2 c2 ns kids w h hk hz
  by_cases h20 : k = 20
  · subst h20; exact kidsI_20 v1 v2 v3 v4 a s2 n cap n2 c2 ns kids w h hk hz
  by_cases h21 : k = 21
  · subst h21; exact kidsI_21 v1 v2 v3 v4 a s2 n cap n2 c2 ns kids w h hk hc hz
  by_cases h22 : k = 22
  · subst h22; exact kidsI_22 v1 v2 v3 v4 a s2 n cap n2 c2 ns kids w h hk hz
  by_cases h23 : k = 23
  · subst h23; exact kidsI_23 v1 v2 v3 v4 a s2 n cap n2 c2 ns kids w h hk hc hz (hsel rfl)
  by_cases h24 : k = 24
  · subst h24; exact kidsI_24 v1 v2 v3 v4 a s2 n cap n2 c2 ns kids w h hk hz
  by_cases h25 : k = 25
  · subst h25; exact kidsI_25 v1 v2 v3 v4 a s2 n cap n2 c2 ns kids w h hk hz
  exact kidsI_other k v1 v2 v3 v4 a s2 n cap n2 c2 ns kids w h hk hz h7 h9 h10 h16 h19 h20 h21 h22 h23 h24 h25

end Go.Proofs.YtinndpnilmmmjaaGreatDoor
