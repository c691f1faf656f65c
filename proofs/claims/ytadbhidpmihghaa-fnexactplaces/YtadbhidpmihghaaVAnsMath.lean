import Derived.WalkKit
namespace Go.Proofs.Ytadbhidpmihghaa

/-- A view and a truth, as a function of the document answers them. -/
structure VAns where
  c : Int
  sh : List Int
  dt : List Int
  code : Bool

end Go.Proofs.Ytadbhidpmihghaa
