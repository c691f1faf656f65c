import Derived.Test.YtlnangnimbgpoaaImplGrade
import Derived.Test.YtlnangnimbgpoaaSpecGrade
import Derived.Test.YtlnangnimbgpoaaOpenAGrade
namespace Go.Proofs.Ytlnangnimbgpoaa

theorem Grade_spec : LawGrade.Spec gradeA := fun c a1 a2 n1 n2 c1 c2 sh dt fl w h1 h2 _ _ => Grade_any c fl a1 a2 n1 n2 c1 c2 sh dt w h1 h2

theorem grade_holds : Rows.FnExactGradeSaid := OpenGrade.over Grade_spec (fun c a1 a2 n1 n2 c1 c2 sh dt fl w h1 h2 _ _ => (implGrade_any c fl (some a1) (some a2) n1 n2 c1 c2 sh dt w h1 h2).mono fun _ _ h => h.own)

end Go.Proofs.Ytlnangnimbgpoaa
