import Derived.Test.YtngbmcljhcckmaaOpenWritten
import Derived.Test.YtngbmcljhcckmaaDrawRepl
namespace Go.Proofs.Ytngbmcljhcckmaa

theorem written_holds : Rows.FnWrittenSaid := OpenWritten.over (fun a n cn w h hc hn => DrawReplace_any a n cn w h hc hn)

end Go.Proofs.Ytngbmcljhcckmaa
