import Derived.Shelf.Abstract
import Derived.BigQuiet
import Derived.Test.YtkgcmpmgaghdhaaDoorSpecBox
import Derived.Test.YtkgcmpmgaghdhaaDoorSliceEqual
import Derived.Test.YtkgcmpmgaghdhaaDoorMFit0
import Derived.Test.YtkgcmpmgaghdhaaDoorImplClone
namespace Go.Proofs.YtkgcmpmgaghdhaaDoor
open Go.RowKit Go.Shelf

end Go.Proofs.YtkgcmpmgaghdhaaDoor
