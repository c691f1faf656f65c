import Derived.Test.YtgjpchnkodnieaaGreatDoorZ34
import Derived.Test.YtgjpchnkodnieaaGreatDoorZ19
import Derived.Test.YtgjpchnkodnieaaGreatDoorZ15
import Derived.Test.YtgjpchnkodnieaaGreatDoorZ10
set_option maxHeartbeats 1000000
set_option linter.defProp false
namespace Go.Proofs.YtgjpchnkodnieaaGreatDoor
open Go.RowKit Tryz
section
open Go.Shelf
def aQ:∀args w,(callFunc 171 args).run prog w=.ok (.enter 171 args) w:=enters_of func171 (by kernel_rfl) rfl
def Zp(pc cnt N:Nat)(w:World)(hc:w.cell? ⟨pc,0,none⟩=some (.int .i64 (cnt:Nat)))(h0:0<cnt)(hcb:cnt<=10000)(n1:Nat)(hn1:n1<=1):Fz 171 #[.pointer (some ⟨pc,0,none⟩)] (MV cnt) [(N:Int)] n1 w:=by
 intro D hD hDl k hk ib W hW hB;have hk0:k=0:=by omega
 subst hk0;have hd:=hD 0 (by simp);have hc1:=(hW.cell (p:=⟨pc,0,none⟩) (AU _ _ hc)).trans hc;have cd:=hB.cell (i:=0) (by rw[hDl];simp);have e1:([(N:Int)]:List Int).getD 0 0=N:=rfl;rw[e1]at hd;obtain⟨x,hx⟩:∃x:Nat,D.getD 0 0=x:=⟨(D.getD 0 0).toNat,by omega⟩
 rw[hx]at cd hd;have HF:Hid (MV cnt D 0=((x % cnt:Nat):Int)):=by show _=_;unfold MV;rw[hx];simp
 have hmod:(x:Int).tmod (cnt:Int)=((x % cnt:Nat):Int):=by rw[Au (by omega)];simp
 have hlt:x % cnt<cnt:=Nat.mod_lt _ h0;obtain⟨r,hr⟩:∃r:Nat,r=x % cnt:=⟨_,rfl⟩
 rw[<-hr]at HF hmod hlt;have q0:¬(cnt:Int)=0:=by omega
 have hl1:([(N:Int)]:List Int).length=1:=rfl;rw[hl1];clear hW hB hD hDl hc e1 hx hr hl1;go_enter func171,ntmps171;go_wp2_with fail;go_quiet(fail);go_wp2_with fail;go_ret;exact⟨BM HF.out.symm,Below.drewN AG _⟩
end
