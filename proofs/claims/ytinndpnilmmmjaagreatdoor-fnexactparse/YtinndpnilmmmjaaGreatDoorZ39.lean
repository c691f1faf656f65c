import Derived.Test.YtinndpnilmmmjaaGreatDoorZ28
set_option maxRecDepth 20000
set_option maxHeartbeats 4000000
set_option linter.defProp false
namespace Go.Proofs.YtinndpnilmmmjaaGreatDoor
open Go.RowKit Go.Proofs.Tryz
def KW(k n m:Int)(s:AE)(a1 a2:Option Addr)(n1 c1 n2 c2:Nat)(nums kids:List Int)(w:World)(hk:k=3\/k=19\/k=21)(hs:s.size<=1048576)(Bz:nums.length=n1):Calls prog 26 #[.agg #[.int .i64 k,.int .i64 n,.int .i64 m,.string s,.slice a1 n1 c1,.slice a2 n2 c2]] w fun e w'=>e=.returned (.bool (BT B2 ⟨k,n,m,s,nums,kids⟩))/\Below w.heap.size w w':=by
 obtain⟨r,hr⟩:∃r,BT B2 ⟨k,n,m,s,nums,kids⟩=r:=⟨_,rfl⟩
 rw[hr];have HR:=AB hr;clear hr;by_cases hN:0<n1
 .have hg:(0:Int)<(n1:Int):=by omega
  have HE:Hid (false=r):=by show _=_;rw[<-AA HR];exact(DY (by omega) (by omega)).symm
  clear HR Bz;rcases hk with rfl|rfl|rfl<;>(go_enter func26,ntmps26;go_wp2_with(fail);go_ret;refine⟨AN ?_,AI.alloc AC _⟩;first|exact AA HE|(rw[<-AA HE];simp;omega))
 have hg:¬(0:Int)<(n1:Int):=by omega
 have h0:nums.length=0:=by omega
 have hd:decide (k=17\/k=20)=false:=by simp<;>omega
 cases hB:C8 s false with
 |false=>
  have HC:=AB (fun W=>Lc s false false hs hB W);have HE:Hid (false=r):=by show _=_;rw[<-AA HR];exact(II (by omega) (by omega) h0 (by omega) (by rw[hd];exact hB)).symm
  clear HR Bz hB hd;rcases hk with rfl|rfl|rfl<;>(go_enter func26,ntmps26;go_wp2_with(first|(go_at_call 56;refine(AA HC _).mono ?_;rintro e w1⟨rfl,rfl⟩));go_ret;exact⟨AN (AA HE),AI.alloc AC _⟩)
 |true=>
  have HC:=AB (fun W=>Lc s false true hs hB W);have HF:=AB (Ef (T:=B2) (k:=k) (n:=n) (m:=m) (s:=s) (nums:=nums) (kids:=kids) (by omega) (by omega) (by omega) h0 (.inl ⟨by omega,by rw[hd];exact hB⟩));clear hd hB;clear h0 hs hN;rw[AA HF]at HR;clear HF;have hM:Er k=0:=by unfold Er;repeat' split<;>first|rfl|omega
  have hMk:D2 k=0:=by unfold D2;repeat' split<;>first|rfl|omega
  rw[hM,hMk]at HR;clear hM hMk;by_cases hA:0<n
  .have hq:¬ n<=0:=by omega
   have HE:Hid (false=r):=by show _=_;rw[<-AA HR];exact(AD (by omega)).symm
   clear HR Bz;rcases hk with rfl|rfl|rfl<;>(go_enter func26,ntmps26;go_wp2_with(first|(go_at_call 56;refine(AA HC _).mono ?_;rintro e w1⟨rfl,rfl⟩));go_ret;refine⟨AN ?_,AI.alloc AC _⟩;first|exact AA HE|(rw[<-AA HE];simp;omega))
  by_cases hC:n<0
  .have hq:n<=0:=by omega
   have hq1:¬(1:Int)<=n:=by omega
   have hq2:=Ai (show n≠0 by omega);have HE:Hid (false=r):=by show _=_;rw[<-AA HR];exact(AD (by omega)).symm
   clear HR Bz;rcases hk with rfl|rfl|rfl<;>(go_enter func26,ntmps26;go_wp2_with(first|(go_at_call 56;refine(AA HC _).mono ?_;rintro e w1⟨rfl,rfl⟩));go_ret;refine⟨AN ?_,AI.alloc AC _⟩;first|exact AA HE|(rw[<-AA HE];simp;omega))
  have hn0:n=0:=by omega
  subst hn0;clear hA hC;by_cases hm0:m<0
  .have hp:¬(0:Int)<=m:=by omega
   have HE:Hid (false=r):=by show _=_;rw[<-AA HR];exact(AD (by omega)).symm
   clear HR Bz;rcases hk with rfl|rfl|rfl<;>(go_enter func26,ntmps26;go_wp2_with(first|(go_at_call 56;refine(AA HC _).mono ?_;rintro e w1⟨rfl,rfl⟩));go_ret;refine⟨AN ?_,AI.alloc AC _⟩;first|exact AA HE|(rw[<-AA HE];simp;omega))
  have hp:(0:Int)<=m:=by omega
  by_cases hm1:0<m
  .have hp1:¬ m<=0:=by omega
   have HE:Hid (false=r):=by show _=_;rw[<-AA HR];exact(AD (by omega)).symm
   clear HR Bz;rcases hk with rfl|rfl|rfl<;>(go_enter func26,ntmps26;go_wp2_with(first|(go_at_call 56;refine(AA HC _).mono ?_;rintro e w1⟨rfl,rfl⟩));go_ret;refine⟨AN ?_,AI.alloc AC _⟩;first|exact AA HE|(rw[<-AA HE];simp;omega))
  have hp1:m<=0:=by omega
  have HE:Hid (true=r):=by show _=_;rw[<-AA HR];exact(AK (by omega)).symm
  clear HR Bz;rcases hk with rfl|rfl|rfl<;>(go_enter func26,ntmps26;go_wp2_with(first|(go_at_call 56;refine(AA HC _).mono ?_;rintro e w1⟨rfl,rfl⟩));go_ret;refine⟨AN ?_,AI.alloc AC _⟩;first|exact AA HE|(rw[<-AA HE];simp;omega))
