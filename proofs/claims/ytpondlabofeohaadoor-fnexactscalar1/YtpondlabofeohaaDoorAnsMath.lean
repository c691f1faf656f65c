import Derived.WalkKit
namespace Go.Proofs.YtpondlabofeohaaDoor

/-- An array and a code, as a function of the document answers them. -/
structure Ans where
  c : Bool
  sh : List Int
  dt : List Int
  code : Int

end Go.Proofs.YtpondlabofeohaaDoor
