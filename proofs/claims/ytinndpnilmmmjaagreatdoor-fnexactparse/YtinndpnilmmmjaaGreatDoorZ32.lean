import Derived.Test.YtinndpnilmmmjaaGreatDoorZ28
set_option maxRecDepth 20000
set_option maxHeartbeats 4000000
set_option linter.defProp false
namespace Go.Proofs.YtinndpnilmmmjaaGreatDoor
open Go.RowKit Go.Proofs.Tryz
def Q5(n m:Int)(s:AE)(a1 a2:Option Addr)(n1 c1 n2 c2:Nat)(nums kids:List Int)(w:World)(hs:s.size<=1048576)(Bz:nums.length=n1):Calls prog 26 #[.agg #[.int .i64 14,.int .i64 n,.int .i64 m,.string s,.slice a1 n1 c1,.slice a2 n2 c2]] w fun e w'=>e=.returned (.bool (BT B2 ⟨14,n,m,s,nums,kids⟩))/\Below w.heap.size w w':=by
 obtain⟨r,hr⟩:∃r,BT B2 ⟨14,n,m,s,nums,kids⟩=r:=⟨_,rfl⟩
 rw[hr];have HR:=AB hr;clear hr;by_cases hN:0<n1
 .have hg:(0:Int)<(n1:Int):=by omega
  have HE:Hid (false=r):=by show _=_;rw[<-AA HR];exact(DY (by omega) (by omega)).symm
  clear HR Bz;go_enter func26,ntmps26;go_wp2_with(fail);go_ret;refine⟨AN ?_,AI.alloc AC _⟩;first|exact AA HE|(rw[<-AA HE];simp;omega)
 have hg:¬(0:Int)<(n1:Int):=by omega
 have h0:nums.length=0:=by omega
 by_cases hZ:s.size=0;case neg=>
  have hne:=Ie hZ;have HE:Hid (false=r):=by show _=_;rw[<-AA HR];exact(E7 (by omega) (by omega) h0 (by omega) hZ).symm
  clear HR Bz;go_enter func26,ntmps26;go_wp2_with(fail);go_ret;refine⟨AN ?_,AI.alloc AC _⟩;first|exact AA HE|(rw[<-AA HE];simp;omega)
 have HF:=AB (Ef (T:=B2) (k:=14) (n:=n) (m:=m) (s:=s) (nums:=nums) (kids:=kids) (by omega) (by omega) (by omega) h0 (.inr ⟨by omega,hZ⟩));have hse:=GC hZ;subst hse;clear hZ;clear h0 hs hN;rw[AA HF]at HR;clear HF;have hM:Er (14:Int)=16:=by unfold Er;repeat' split<;>first|rfl|omega
 have hMk:D2 (14:Int)=0:=by unfold D2;repeat' split<;>first|rfl|omega
 rw[hM,hMk]at HR;clear hM hMk;by_cases hA:16<n
 .have hq:¬ n<=16:=by omega
  have HE:Hid (false=r):=by show _=_;rw[<-AA HR];exact(AD (by omega)).symm
  clear HR Bz;go_enter func26,ntmps26;go_wp2_with(fail);go_ret;refine⟨AN ?_,AI.alloc AC _⟩;first|exact AA HE|(rw[<-AA HE];simp;omega)
 by_cases hC:n<1
 .have hq:n<=16:=by omega
  have hq1:¬(1:Int)<=n:=by omega
  have HE:Hid (false=r):=by show _=_;rw[<-AA HR];exact(AD (by omega)).symm
  clear HR Bz;go_enter func26,ntmps26;go_wp2_with(fail);go_ret;refine⟨AN ?_,AI.alloc AC _⟩;first|exact AA HE|(rw[<-AA HE];simp;omega)
 have hq:n<=16:=by omega
 have hq1:(1:Int)<=n:=by omega
 by_cases hm0:m<0
 .have hp:¬(0:Int)<=m:=by omega
  have HE:Hid (false=r):=by show _=_;rw[<-AA HR];exact(AD (by omega)).symm
  clear HR Bz;go_enter func26,ntmps26;go_wp2_with(fail);go_ret;refine⟨AN ?_,AI.alloc AC _⟩;first|exact AA HE|(rw[<-AA HE];simp;omega)
 have hp:(0:Int)<=m:=by omega
 by_cases hm1:0<m
 .have hp1:¬ m<=0:=by omega
  have HE:Hid (false=r):=by show _=_;rw[<-AA HR];exact(AD (by omega)).symm
  clear HR Bz;go_enter func26,ntmps26;go_wp2_with(fail);go_ret;refine⟨AN ?_,AI.alloc AC _⟩;first|exact AA HE|(rw[<-AA HE];simp;omega)
 have hp1:m<=0:=by omega
 have HE:Hid (true=r):=by show _=_;rw[<-AA HR];exact(AK (by omega)).symm
 clear HR Bz;go_enter func26,ntmps26;go_wp2_with(fail);go_ret;refine⟨AN ?_,AI.alloc AC _⟩;first|exact AA HE|(rw[<-AA HE];simp;omega)
def Q4(n m:Int)(s:AE)(a1 a2:Option Addr)(n1 c1 n2 c2:Nat)(nums kids:List Int)(w:World)(hs:s.size<=1048576)(Bz:nums.length=n1):Calls prog 26 #[.agg #[.int .i64 15,.int .i64 n,.int .i64 m,.string s,.slice a1 n1 c1,.slice a2 n2 c2]] w fun e w'=>e=.returned (.bool (BT B2 ⟨15,n,m,s,nums,kids⟩))/\Below w.heap.size w w':=by
 obtain⟨r,hr⟩:∃r,BT B2 ⟨15,n,m,s,nums,kids⟩=r:=⟨_,rfl⟩
 rw[hr];have HR:=AB hr;clear hr;by_cases hN:0<n1
 .have hg:(0:Int)<(n1:Int):=by omega
  have HE:Hid (false=r):=by show _=_;rw[<-AA HR];exact(DY (by omega) (by omega)).symm
  clear HR Bz;go_enter func26,ntmps26;go_wp2_with(fail);go_ret;refine⟨AN ?_,AI.alloc AC _⟩;first|exact AA HE|(rw[<-AA HE];simp;omega)
 have hg:¬(0:Int)<(n1:Int):=by omega
 have h0:nums.length=0:=by omega
 by_cases hZ:s.size=0;case neg=>
  have hne:=Ie hZ;have HE:Hid (false=r):=by show _=_;rw[<-AA HR];exact(E7 (by omega) (by omega) h0 (by omega) hZ).symm
  clear HR Bz;go_enter func26,ntmps26;go_wp2_with(fail);go_ret;refine⟨AN ?_,AI.alloc AC _⟩;first|exact AA HE|(rw[<-AA HE];simp;omega)
 have HF:=AB (Pq (T:=B2) (n:=n) (m:=m) (s:=s) (nums:=nums) (kids:=kids) h0 hZ);have hse:=GC hZ;subst hse;clear hZ;clear h0 hs hN;rw[AA HF]at HR;clear HF;by_cases hqnl1:n<1
 .have gqnl1:¬(1:Int)<=n:=by omega
  have HE:Hid (false=r):=by show _=_;rw[<-AA HR];exact(AD (by omega)).symm
  clear HR Bz;go_enter func26,ntmps26;go_wp2_with(fail);go_ret;refine⟨AN ?_,AI.alloc AC _⟩;first|exact AA HE|(rw[<-AA HE];simp;omega)
 have gqnl1:(1:Int)<=n:=by omega
 by_cases hq16ln:16<n
 .have gq16ln:¬ n<=16:=by omega
  have HE:Hid (false=r):=by show _=_;rw[<-AA HR];exact(AD (by omega)).symm
  clear HR Bz;go_enter func26,ntmps26;go_wp2_with(fail);go_ret;refine⟨AN ?_,AI.alloc AC _⟩;first|exact AA HE|(rw[<-AA HE];simp;omega)
 have gq16ln:n<=16:=by omega
 by_cases hqml1:m<1
 .have gqml1:¬(1:Int)<=m:=by omega
  have HE:Hid (false=r):=by show _=_;rw[<-AA HR];exact(AD (by omega)).symm
  clear HR Bz;go_enter func26,ntmps26;go_wp2_with(fail);go_ret;refine⟨AN ?_,AI.alloc AC _⟩;first|exact AA HE|(rw[<-AA HE];simp;omega)
 have gqml1:(1:Int)<=m:=by omega
 by_cases hq16lm:16<m
 .have gq16lm:¬ m<=16:=by omega
  have HE:Hid (false=r):=by show _=_;rw[<-AA HR];exact(AD (by omega)).symm
  clear HR Bz;go_enter func26,ntmps26;go_wp2_with(fail);go_ret;refine⟨AN ?_,AI.alloc AC _⟩;first|exact AA HE|(rw[<-AA HE];simp;omega)
 have gq16lm:m<=16:=by omega
 have HE:Hid (true=r):=by show _=_;rw[<-AA HR];exact(AK (by omega)).symm
 clear HR Bz;go_enter func26,ntmps26;go_wp2_with(fail);go_ret;refine⟨AN ?_,AI.alloc AC _⟩;first|exact AA HE|(rw[<-AA HE];simp;omega)
