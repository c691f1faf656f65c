import Derived.Test.YtgjpchnkodnieaaGreatDoorZ19
import Derived.Test.YtgjpchnkodnieaaGreatDoorZ38
set_option maxHeartbeats 1000000
set_option linter.defProp false
namespace Go.Proofs.YtgjpchnkodnieaaGreatDoor
open Go.RowKit Tryz
section
open Go.Shelf
def S9(a:Option Addr)(n cap:Nat)(fl:Bool)(w:World)(hn:0<n)(hs:n<=10000)(r:Nat)(hr:Hid ((if fl then 0 else n- 1)=r)):Calls prog 62 #[.slice a n cap,.bool fl] w fun e w'=>e=.returned (.int .i64 (r:Nat))/\w'=w:=by
 cases fl with
 |true=>
  have e:r=0:=by have:=AA hr;simp at this;omega
  subst e;clear hr;go_enter func62,ntmps62
  go_wp2
  go_ret;exact⟨rfl,rfl⟩
 |false=>
  have e:n- 1=r:=by have:=AA hr;simpa using this
  have h1:IntKind.i64.wrap ((n:Int)- 1)=(r:Int):=by rw[IntKind.wrap_i64];omega
  have h2:(n:Int)- 1=(r:Int):=by omega
  clear hr e;go_enter func62,ntmps62
  go_wp2
  go_ret;exact⟨rfl,rfl⟩
end
