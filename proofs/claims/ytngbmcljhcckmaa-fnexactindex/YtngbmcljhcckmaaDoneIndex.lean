import Derived.Test.YtngbmcljhcckmaaOpenIndex
import Derived.Test.YtngbmcljhcckmaaSpecIndex
import Derived.Test.YtngbmcljhcckmaaImplIndex
namespace Go.Proofs.Ytngbmcljhcckmaa
open Go.RowKit

theorem Index_spec : LawIndex.Spec indexA := fun c a1 a2 ap n1 n2 c1 c2 np cp sh dt ps w h1 h2 hp _ _ _ => Index_any c a1 a2 (some ap) n1 n2 c1 c2 np cp sh dt ps w h1 h2 hp

theorem index_holds : Rows.FnExactIndexSaid := OpenIndex.over Index_spec (fun c a1 a2 ap n1 n2 c1 c2 np cp sh dt ps w h1 h2 hp _ _ _ => (implIndex_any c a1 a2 (some ap) n1 n2 c1 c2 np cp sh dt ps w h1 h2 hp).mono fun _ _ h => h.own)

end Go.Proofs.Ytngbmcljhcckmaa
