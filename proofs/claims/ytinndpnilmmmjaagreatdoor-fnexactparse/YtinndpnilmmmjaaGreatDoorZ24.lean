import Derived.Test.YtinndpnilmmmjaaGreatDoorZ20
import Derived.Test.YtinndpnilmmmjaaGreatDoorZ15
set_option maxRecDepth 20000
set_option maxHeartbeats 8000000
set_option linter.defProp false
namespace Go.Proofs.YtinndpnilmmmjaaGreatDoor
open Go.RowKit Go.Proofs.Tryz
def Xg(v1 v2 v3 v4:Value)(a s2:Option Addr)(n cap n2 c2:Nat)(ns:List AM)(kids:List Int)(w:World)(h:Db w a n ns)(hk:Df w s2 n2 kids)(hz:∀q,q<n2->0<=kids.getD q 0/\kids.getD q 0<n):Calls prog 32 #[.agg #[.slice a n cap],.agg #[.int .i64 16,v1,v2,v3,v4,.slice s2 n2 c2]] w fun e w'=>e=.returned (.bool (Dp 16 (BA ns kids) (Dh ns (kids.getD 0 0).toNat)))/\Below w.heap.size w w':=by
 have Ae:=hk.len;have hsm:=hk.small;have hkl:(BA ns kids).length=n2:=by rw[DD];exact Ae
 obtain⟨r,hr⟩:∃r,Dp 16 (BA ns kids) (Dh ns (kids.getD 0 0).toNat)=r:=⟨_,rfl⟩
 rw[hr];have HA:=AB (Fn cap h);have HK:=AB hk;have HZ:=AB hz;have HPO:=AB (Em w (.slice a n cap) (.cells #[.int .i64 16,v1,v2,v3,v4,.slice s2 n2 c2] 47));obtain⟨Q,hQ⟩:∃Q,Q=(w.alloc (.cells #[.slice a n cap] 29)).alloc (.cells #[.int .i64 16,v1,v2,v3,v4,.slice s2 n2 c2] 47):=⟨_,rfl⟩
 have HQ:=AB hQ;rw[<-hQ]at HPO;have HC:=AB (fun v hv=>AA HA _ Z8 Vn Sf s2 n2 c2 kids v hv (AA HK) (AA HZ) r hr);clear hr HA h hk hz hQ;go_enter func32,ntmps32;go_wp2_with fail;go_quiet(fail);go_wp2_with(first|(go_at_call 63;refine(AA HC _ ((AA HPO) _ (by rw[AA HQ];repeat(first|exact AI|refine Aa ?_|refine Below.drewN ?_ _))).2).mono ?_;rintro e w1⟨rfl,hb1⟩;have HB1:=AB ((((AA HPO) _ (by rw[AA HQ];repeat(first|exact AI|refine Aa ?_|refine Below.drewN ?_ _))).2).trans (hb1.mono ((((AA HPO) _ (by rw[AA HQ];repeat(first|exact AI|refine Aa ?_|refine Below.drewN ?_ _))).2).size)));clear hb1));go_ret;exact⟨rfl,AA HB1⟩
def XZ(v1 v2 v3 v4:Value)(a s2:Option Addr)(n cap n2 c2:Nat)(ns:List AM)(kids:List Int)(w:World)(h:Db w a n ns)(hk:Df w s2 n2 kids)(hz:∀q,q<n2->0<=kids.getD q 0/\kids.getD q 0<n):Calls prog 32 #[.agg #[.slice a n cap],.agg #[.int .i64 25,v1,v2,v3,v4,.slice s2 n2 c2]] w fun e w'=>e=.returned (.bool (Dp 25 (BA ns kids) (Dh ns (kids.getD 0 0).toNat)))/\Below w.heap.size w w':=by
 have Ae:=hk.len;have hsm:=hk.small;have hkl:(BA ns kids).length=n2:=by rw[DD];exact Ae
 obtain⟨r,hr⟩:∃r,Dp 25 (BA ns kids) (Dh ns (kids.getD 0 0).toNat)=r:=⟨_,rfl⟩
 rw[hr];have HA:=AB (Fn cap h);have HK:=AB hk;have HZ:=AB hz;have HPO:=AB (Em w (.slice a n cap) (.cells #[.int .i64 25,v1,v2,v3,v4,.slice s2 n2 c2] 47));obtain⟨Q,hQ⟩:∃Q,Q=(w.alloc (.cells #[.slice a n cap] 29)).alloc (.cells #[.int .i64 25,v1,v2,v3,v4,.slice s2 n2 c2] 47):=⟨_,rfl⟩
 have HQ:=AB hQ;rw[<-hQ]at HPO;have HC:=AB (fun v hv=>AA HA _ Z7 Sc KU s2 n2 c2 kids v hv (AA HK) (AA HZ) r hr);clear hr HA h hk hz hQ;go_enter func32,ntmps32;go_wp2_with fail;go_quiet(fail);go_wp2_with(first|(go_at_call 63;refine(AA HC _ ((AA HPO) _ (by rw[AA HQ];repeat(first|exact AI|refine Aa ?_|refine Below.drewN ?_ _))).2).mono ?_;rintro e w1⟨rfl,hb1⟩;have HB1:=AB ((((AA HPO) _ (by rw[AA HQ];repeat(first|exact AI|refine Aa ?_|refine Below.drewN ?_ _))).2).trans (hb1.mono ((((AA HPO) _ (by rw[AA HQ];repeat(first|exact AI|refine Aa ?_|refine Below.drewN ?_ _))).2).size)));clear hb1));go_ret;exact⟨rfl,AA HB1⟩
def Xf(v1 v2 v3 v4:Value)(a s2:Option Addr)(n cap n2 c2:Nat)(ns:List AM)(kids:List Int)(w:World)(h:Db w a n ns)(hk:Df w s2 n2 kids)(hz:∀q,q<n2->0<=kids.getD q 0/\kids.getD q 0<n):Calls prog 32 #[.agg #[.slice a n cap],.agg #[.int .i64 19,v1,v2,v3,v4,.slice s2 n2 c2]] w fun e w'=>e=.returned (.bool (Dp 19 (BA ns kids) (Dh ns (kids.getD 0 0).toNat)))/\Below w.heap.size w w':=by
 have Ae:=hk.len;have hsm:=hk.small;have hkl:(BA ns kids).length=n2:=by rw[DD];exact Ae
 obtain⟨r,hr⟩:∃r,Dp 19 (BA ns kids) (Dh ns (kids.getD 0 0).toNat)=r:=⟨_,rfl⟩
 rw[hr];have HA:=AB (Fn cap h);have HK:=AB hk;have HZ:=AB hz;have HPO:=AB (Em w (.slice a n cap) (.cells #[.int .i64 19,v1,v2,v3,v4,.slice s2 n2 c2] 47));obtain⟨Q,hQ⟩:∃Q,Q=(w.alloc (.cells #[.slice a n cap] 29)).alloc (.cells #[.int .i64 19,v1,v2,v3,v4,.slice s2 n2 c2] 47):=⟨_,rfl⟩
 have HQ:=AB hQ;rw[<-hQ]at HPO;have HR:Hid ((decide ((BA ns kids).length=1)&&(BA ns kids).all FQ)=r):=hr;rw[hkl]at HR;clear hr h hk hz hQ;by_cases hn:n2=1;case neg=>
  have hg:((n2:Int)- 1==0)=false:=by simp;omega
  have HE:Hid (false=r):=by show _=_;rw[<-AA HR,AD hn];rfl
  clear HR HA hn;go_enter func32,ntmps32;go_wp2_with fail;go_quiet(fail);go_wp2_with fail;go_ret;exact⟨AN (AA HE),((AA HPO) _ (by rw[AA HQ];repeat(first|exact AI|refine Aa ?_|refine Below.drewN ?_ _))).2⟩
 rw[AK hn,Ap]at HR;have hg:((n2:Int)- 1==0)=true:=by simp;omega
 have HC:=AB (fun v hv=>AA HA _ GD FQ C9 s2 n2 c2 kids v hv (AA HK) (AA HZ) r (AA HR));clear HR HA hn;go_enter func32,ntmps32;go_wp2_with fail;go_quiet(fail);go_wp2_with(first|(go_at_call 63;refine(AA HC _ ((AA HPO) _ (by rw[AA HQ];repeat(first|exact AI|refine Aa ?_|refine Below.drewN ?_ _))).2).mono ?_;rintro e w1⟨rfl,hb1⟩;have HB1:=AB ((((AA HPO) _ (by rw[AA HQ];repeat(first|exact AI|refine Aa ?_|refine Below.drewN ?_ _))).2).trans (hb1.mono ((((AA HPO) _ (by rw[AA HQ];repeat(first|exact AI|refine Aa ?_|refine Below.drewN ?_ _))).2).size)));clear hb1));go_ret;exact⟨rfl,AA HB1⟩
def Xc(v1 v2 v3 v4:Value)(a s2:Option Addr)(n cap n2 c2:Nat)(ns:List AM)(kids:List Int)(w:World)(h:Db w a n ns)(hk:Df w s2 n2 kids)(hz:∀q,q<n2->0<=kids.getD q 0/\kids.getD q 0<n):Calls prog 32 #[.agg #[.slice a n cap],.agg #[.int .i64 22,v1,v2,v3,v4,.slice s2 n2 c2]] w fun e w'=>e=.returned (.bool (Dp 22 (BA ns kids) (Dh ns (kids.getD 0 0).toNat)))/\Below w.heap.size w w':=by
 have Ae:=hk.len;have hsm:=hk.small;have hkl:(BA ns kids).length=n2:=by rw[DD];exact Ae
 obtain⟨r,hr⟩:∃r,Dp 22 (BA ns kids) (Dh ns (kids.getD 0 0).toNat)=r:=⟨_,rfl⟩
 rw[hr];have HA:=AB (Fn cap h);have HK:=AB hk;have HZ:=AB hz;have HPO:=AB (Em w (.slice a n cap) (.cells #[.int .i64 22,v1,v2,v3,v4,.slice s2 n2 c2] 47));obtain⟨Q,hQ⟩:∃Q,Q=(w.alloc (.cells #[.slice a n cap] 29)).alloc (.cells #[.int .i64 22,v1,v2,v3,v4,.slice s2 n2 c2] 47):=⟨_,rfl⟩
 have HQ:=AB hQ;rw[<-hQ]at HPO;have HR:Hid ((decide ((BA ns kids).length=1)&&(BA ns kids).all FQ)=r):=hr;rw[hkl]at HR;clear hr h hk hz hQ;by_cases hn:n2=1;case neg=>
  have hg:((n2:Int)- 1==0)=false:=by simp;omega
  have HE:Hid (false=r):=by show _=_;rw[<-AA HR,AD hn];rfl
  clear HR HA hn;go_enter func32,ntmps32;go_wp2_with fail;go_quiet(fail);go_wp2_with fail;go_ret;exact⟨AN (AA HE),((AA HPO) _ (by rw[AA HQ];repeat(first|exact AI|refine Aa ?_|refine Below.drewN ?_ _))).2⟩
 rw[AK hn,Ap]at HR;have hg:((n2:Int)- 1==0)=true:=by simp;omega
 have HC:=AB (fun v hv=>AA HA _ GD FQ C9 s2 n2 c2 kids v hv (AA HK) (AA HZ) r (AA HR));clear HR HA hn;go_enter func32,ntmps32;go_wp2_with fail;go_quiet(fail);go_wp2_with(first|(go_at_call 63;refine(AA HC _ ((AA HPO) _ (by rw[AA HQ];repeat(first|exact AI|refine Aa ?_|refine Below.drewN ?_ _))).2).mono ?_;rintro e w1⟨rfl,hb1⟩;have HB1:=AB ((((AA HPO) _ (by rw[AA HQ];repeat(first|exact AI|refine Aa ?_|refine Below.drewN ?_ _))).2).trans (hb1.mono ((((AA HPO) _ (by rw[AA HQ];repeat(first|exact AI|refine Aa ?_|refine Below.drewN ?_ _))).2).size)));clear hb1));go_ret;exact⟨rfl,AA HB1⟩
def Xe(v1 v2 v3 v4:Value)(a s2:Option Addr)(n cap n2 c2:Nat)(ns:List AM)(kids:List Int)(w:World)(h:Db w a n ns)(hk:Df w s2 n2 kids)(hz:∀q,q<n2->0<=kids.getD q 0/\kids.getD q 0<n):Calls prog 32 #[.agg #[.slice a n cap],.agg #[.int .i64 20,v1,v2,v3,v4,.slice s2 n2 c2]] w fun e w'=>e=.returned (.bool (Dp 20 (BA ns kids) (Dh ns (kids.getD 0 0).toNat)))/\Below w.heap.size w w':=by
 have Ae:=hk.len;have hsm:=hk.small;have hkl:(BA ns kids).length=n2:=by rw[DD];exact Ae
 obtain⟨r,hr⟩:∃r,Dp 20 (BA ns kids) (Dh ns (kids.getD 0 0).toNat)=r:=⟨_,rfl⟩
 rw[hr];have HA:=AB (Fn cap h);have HK:=AB hk;have HZ:=AB hz;have HPO:=AB (Em w (.slice a n cap) (.cells #[.int .i64 20,v1,v2,v3,v4,.slice s2 n2 c2] 47));obtain⟨Q,hQ⟩:∃Q,Q=(w.alloc (.cells #[.slice a n cap] 29)).alloc (.cells #[.int .i64 20,v1,v2,v3,v4,.slice s2 n2 c2] 47):=⟨_,rfl⟩
 have HQ:=AB hQ;rw[<-hQ]at HPO;have HR:Hid ((decide ((BA ns kids).length=1)&&(BA ns kids).all Yq)=r):=hr;rw[hkl]at HR;clear hr h hk hz hQ;by_cases hn:n2=1;case neg=>
  have hg:((n2:Int)- 1==0)=false:=by simp;omega
  have HE:Hid (false=r):=by show _=_;rw[<-AA HR,AD hn];rfl
  clear HR HA hn;go_enter func32,ntmps32;go_wp2_with fail;go_quiet(fail);go_wp2_with fail;go_ret;exact⟨AN (AA HE),((AA HPO) _ (by rw[AA HQ];repeat(first|exact AI|refine Aa ?_|refine Below.drewN ?_ _))).2⟩
 rw[AK hn,Ap]at HR;have hg:((n2:Int)- 1==0)=true:=by simp;omega
 have HC:=AB (fun v hv=>AA HA _ VW Yq Pf s2 n2 c2 kids v hv (AA HK) (AA HZ) r (AA HR));clear HR HA hn;go_enter func32,ntmps32;go_wp2_with fail;go_quiet(fail);go_wp2_with(first|(go_at_call 63;refine(AA HC _ ((AA HPO) _ (by rw[AA HQ];repeat(first|exact AI|refine Aa ?_|refine Below.drewN ?_ _))).2).mono ?_;rintro e w1⟨rfl,hb1⟩;have HB1:=AB ((((AA HPO) _ (by rw[AA HQ];repeat(first|exact AI|refine Aa ?_|refine Below.drewN ?_ _))).2).trans (hb1.mono ((((AA HPO) _ (by rw[AA HQ];repeat(first|exact AI|refine Aa ?_|refine Below.drewN ?_ _))).2).size)));clear hb1));go_ret;exact⟨rfl,AA HB1⟩
def Xa(v1 v2 v3 v4:Value)(a s2:Option Addr)(n cap n2 c2:Nat)(ns:List AM)(kids:List Int)(w:World)(h:Db w a n ns)(hk:Df w s2 n2 kids)(hz:∀q,q<n2->0<=kids.getD q 0/\kids.getD q 0<n):Calls prog 32 #[.agg #[.slice a n cap],.agg #[.int .i64 24,v1,v2,v3,v4,.slice s2 n2 c2]] w fun e w'=>e=.returned (.bool (Dp 24 (BA ns kids) (Dh ns (kids.getD 0 0).toNat)))/\Below w.heap.size w w':=by
 have Ae:=hk.len;have hsm:=hk.small;have hkl:(BA ns kids).length=n2:=by rw[DD];exact Ae
 obtain⟨r,hr⟩:∃r,Dp 24 (BA ns kids) (Dh ns (kids.getD 0 0).toNat)=r:=⟨_,rfl⟩
 rw[hr];have HA:=AB (Fn cap h);have HK:=AB hk;have HZ:=AB hz;have HPO:=AB (Em w (.slice a n cap) (.cells #[.int .i64 24,v1,v2,v3,v4,.slice s2 n2 c2] 47));obtain⟨Q,hQ⟩:∃Q,Q=(w.alloc (.cells #[.slice a n cap] 29)).alloc (.cells #[.int .i64 24,v1,v2,v3,v4,.slice s2 n2 c2] 47):=⟨_,rfl⟩
 have HQ:=AB hQ;rw[<-hQ]at HPO;have HR:Hid ((decide ((BA ns kids).length=2)&&(BA ns kids).all FQ)=r):=hr;rw[hkl]at HR;clear hr h hk hz hQ;by_cases hn:n2=2;case neg=>
  have hg:((n2:Int)- 1==1)=false:=by simp;omega
  have HE:Hid (false=r):=by show _=_;rw[<-AA HR,AD hn];rfl
  clear HR HA hn;go_enter func32,ntmps32;go_wp2_with fail;go_quiet(fail);go_wp2_with fail;go_ret;exact⟨AN (AA HE),((AA HPO) _ (by rw[AA HQ];repeat(first|exact AI|refine Aa ?_|refine Below.drewN ?_ _))).2⟩
 rw[AK hn,Ap]at HR;have hg:((n2:Int)- 1==1)=true:=by simp;omega
 have HC:=AB (fun v hv=>AA HA _ GD FQ C9 s2 n2 c2 kids v hv (AA HK) (AA HZ) r (AA HR));clear HR HA hn;go_enter func32,ntmps32;go_wp2_with fail;go_quiet(fail);go_wp2_with(first|(go_at_call 63;refine(AA HC _ ((AA HPO) _ (by rw[AA HQ];repeat(first|exact AI|refine Aa ?_|refine Below.drewN ?_ _))).2).mono ?_;rintro e w1⟨rfl,hb1⟩;have HB1:=AB ((((AA HPO) _ (by rw[AA HQ];repeat(first|exact AI|refine Aa ?_|refine Below.drewN ?_ _))).2).trans (hb1.mono ((((AA HPO) _ (by rw[AA HQ];repeat(first|exact AI|refine Aa ?_|refine Below.drewN ?_ _))).2).size)));clear hb1));go_ret;exact⟨rfl,AA HB1⟩
def Qm(k:Int)(v1 v2 v3 v4:Value)(a s2:Option Addr)(n cap n2 c2:Nat)(ns:List AM)(kids:List Int)(w:World)(h:Db w a n ns)(hk:Df w s2 n2 kids)(hz:∀q,q<n2->0<=kids.getD q 0/\kids.getD q 0<n)(h7:k≠7)(h9:k≠9)(h10:k≠10)(h16:k≠16)(h19:k≠19)(h20:k≠20)(h21:k≠21)(h22:k≠22)(h23:k≠23)(h24:k≠24)(h25:k≠25):Calls prog 32 #[.agg #[.slice a n cap],.agg #[.int .i64 k,v1,v2,v3,v4,.slice s2 n2 c2]] w fun e w'=>e=.returned (.bool (Dp k (BA ns kids) (Dh ns (kids.getD 0 0).toNat)))/\Below w.heap.size w w':=by
 have Ae:=hk.len;have hsm:=hk.small;have hkl:(BA ns kids).length=n2:=by rw[DD];exact Ae
 obtain⟨r,hr⟩:∃r,Dp k (BA ns kids) (Dh ns (kids.getD 0 0).toNat)=r:=⟨_,rfl⟩
 rw[hr];have HA:=AB (Fn cap h);have HK:=AB hk;have HZ:=AB hz;have HPO:=AB (Em w (.slice a n cap) (.cells #[.int .i64 k,v1,v2,v3,v4,.slice s2 n2 c2] 47));obtain⟨Q,hQ⟩:∃Q,Q=(w.alloc (.cells #[.slice a n cap] 29)).alloc (.cells #[.int .i64 k,v1,v2,v3,v4,.slice s2 n2 c2] 47):=⟨_,rfl⟩
 have HQ:=AB hQ;rw[<-hQ]at HPO;have HR:Hid (decide (n2=0)=r):=by show _=_;rw[<-hr];unfold Dp;rw[AG h7,AG h9,AG h10,AG h16,AG (by omega),AG h20,AG h21,AG h23,AG h24,AG h25,hkl]
 have e7:=Ai h7;have e9:=Ai h9;have e10:=Ai h10;have e16:=Ai h16;have e19:=Ai h19;have e20:=Ai h20;have e21:=Ai h21;have e22:=Ai h22;have e23:=Ai h23;have e24:=Ai h24;have e25:=Ai h25;clear hr HA h hk hz hQ h7 h9 h10 h16 h19 h20 h21 h22 h23 h24 h25;go_enter func32,ntmps32;go_wp2_with fail;go_quiet(fail);go_wp2_with fail;go_ret;refine⟨AN ?_,((AA HPO) _ (by rw[AA HQ];repeat(first|exact AI|refine Aa ?_|refine Below.drewN ?_ _))).2⟩;rw[<-AA HR];by_cases hn:n2=0
 .rw[AK hn];simp;omega
 .rw[AD hn];simp;omega
def Zf(v1 v2 v3 v4:Value)(a s2:Option Addr)(n cap n2 c2:Nat)(ns:List AM)(kids:List Int)(w:World)(h:Db w a n ns)(hk:Df w s2 n2 kids)(hc:n2<=c2)(hz:∀q,q<n2->0<=kids.getD q 0/\kids.getD q 0<n):Calls prog 32 #[.agg #[.slice a n cap],.agg #[.int .i64 7,v1,v2,v3,v4,.slice s2 n2 c2]] w fun e w'=>e=.returned (.bool (Dp 7 (BA ns kids) (Dh ns (kids.getD 0 0).toNat)))/\Below w.heap.size w w':=by
 have Ae:=hk.len;have hsm:=hk.small;have hkl:(BA ns kids).length=n2:=by rw[DD];exact Ae
 obtain⟨r,hr⟩:∃r,Dp 7 (BA ns kids) (Dh ns (kids.getD 0 0).toNat)=r:=⟨_,rfl⟩
 rw[hr];have HA:=AB (Fn cap h);have HK:=AB hk;have HZ:=AB hz;have HPO:=AB (Em w (.slice a n cap) (.cells #[.int .i64 7,v1,v2,v3,v4,.slice s2 n2 c2] 47));obtain⟨Q,hQ⟩:∃Q,Q=(w.alloc (.cells #[.slice a n cap] 29)).alloc (.cells #[.int .i64 7,v1,v2,v3,v4,.slice s2 n2 c2] 47):=⟨_,rfl⟩
 have HQ:=AB hQ;rw[<-hQ]at HPO;have HR:Hid ((decide (2<=(BA ns kids).length)&&(((BA ns kids).take 1).all FQ&&((BA ns kids).drop 1).all N4))=r):=hr;rw[hkl]at HR;clear hr h hk hz hQ;by_cases hn:2<=n2;case neg=>
  have hg:decide ((1:Int)<=(n2:Int)- 1)=false:=AD (by omega);have HE:Hid (false=r):=by show _=_;rw[<-AA HR,AD hn];rfl
  clear HR HA hn;go_enter func32,ntmps32;go_wp2_with fail;go_quiet(fail);go_wp2_with fail;clear Ae hkl
  go_big_quiet(fail)
  go_wp2_with fail;go_ret;exact⟨AN (AA HE),((AA HPO) _ (by rw[AA HQ];repeat(first|exact AI|refine Aa ?_|refine Below.drewN ?_ _))).2⟩
 rw[AK hn,Ap]at HR;obtain⟨b,off,rfl,hbl,hc0⟩:=(AA HK).get (k:=0) (by omega);have hg:decide ((1:Int)<=(n2:Int)- 1)=true:=AK (by omega);have hx1:¬ c2=1:=by omega
 have hx2:(1:Int)<=(c2:Int):=by omega
 have hx3:(1:Int)<=(n2:Int):=by omega
 have hx4:(n2:Int)<=(c2:Int):=by omega
 rw[G8,GY]at HR;cases q1:(BA ns (kids.take 1)).all FQ with
 |false=>
  have HC1:=AB (fun v hv=>AA HA _ GD FQ C9 (some ⟨b,off,none⟩) 1 c2 (kids.take 1) v hv ((AA HK).take 1 (by omega)) (Gx (AA HZ) (by omega)) false q1);have HE:Hid (false=r):=by show _=_;rw[<-AA HR,q1];rfl
  clear HR HA q1 hn hc0 Ae hkl HK HZ;go_enter func32,ntmps32;go_wp2_with fail;go_quiet(fail);go_wp2_with fail;first|(go_region_with(first|(go_at_call 63;refine(AA HC1 _ ((AA HPO) _ (by rw[AA HQ];repeat(first|exact AI|refine Aa ?_|refine Below.drewN ?_ _))).2).mono ?_;rintro e w1⟨rfl,hb1⟩;have hb2:Below Q.heap.size Q w1:=BI (by rw[AA HQ];repeat(first|exact AI|refine Aa ?_|refine Below.drewN ?_ _)) (hb1.mono (by first|(rw[AA HQ];simp;done)|exact(AA HQ1).size));have HQ1:=AB hb2;obtain⟨ct1,hbw⟩:=AA HPO _ hb2;have HW1:=AB hbw;clear hb1 hb2 hbw)))|fail
  all_goals go_wp2_with fail
  all_goals go_ret
  all_goals first|exact⟨rfl,AA HW1⟩|exact⟨AN (AA HE),AA HW1⟩
 |true=>
  rw[q1,Ap]at HR;have HC1:=AB (fun v hv=>AA HA _ GD FQ C9 (some ⟨b,off,none⟩) 1 c2 (kids.take 1) v hv ((AA HK).take 1 (by omega)) (Gx (AA HZ) (by omega)) true q1);have HC2:=AB (fun v hv=>AA HA _ Pv N4 KV (some ⟨b,off+1,none⟩) (n2- 1) (c2- 1) (kids.drop 1) v hv ((AA HK).drop rfl 1 (by omega)) (In (AA HZ) 1 (n2- 1) (by omega)) r (AA HR));clear HR HA q1 hn hc0 Ae hkl HK HZ;go_enter func32,ntmps32;go_wp2_with fail;go_quiet(fail);go_wp2_with fail;first|(go_region_with(first|(have hz1:=HQ1;clear hz1;go_at_call 63;refine(AA HC2 _ ((AA HPO) _ (AA HQ1)).2).mono ?_;rintro e w2⟨rfl,hb1⟩;have hb2:Below Q.heap.size Q w2:=BI (AA HQ1) (hb1.mono (by first|(rw[AA HQ];simp;done)|exact(AA HQ1).size));have HQ2:=AB hb2;obtain⟨ct2,hbw⟩:=AA HPO _ hb2;have HW2:=AB hbw;clear hb1 hb2 hbw)|(go_at_call 63;refine(AA HC1 _ ((AA HPO) _ (by rw[AA HQ];repeat(first|exact AI|refine Aa ?_|refine Below.drewN ?_ _))).2).mono ?_;rintro e w1⟨rfl,hb1⟩;have hb2:Below Q.heap.size Q w1:=BI (by rw[AA HQ];repeat(first|exact AI|refine Aa ?_|refine Below.drewN ?_ _)) (hb1.mono (by first|(rw[AA HQ];simp;done)|exact(AA HQ1).size));have HQ1:=AB hb2;obtain⟨ct1,hbw⟩:=AA HPO _ hb2;have HW1:=AB hbw;clear hb1 hb2 hbw)))|fail
  all_goals go_wp2_with fail
  all_goals go_ret
  all_goals first|exact⟨rfl,AA HW2⟩|exact⟨AN (AA HE),AA HW2⟩
def Ze(v1 v2 v3 v4:Value)(a s2:Option Addr)(n cap n2 c2:Nat)(ns:List AM)(kids:List Int)(w:World)(h:Db w a n ns)(hk:Df w s2 n2 kids)(hc:n2<=c2)(hz:∀q,q<n2->0<=kids.getD q 0/\kids.getD q 0<n):Calls prog 32 #[.agg #[.slice a n cap],.agg #[.int .i64 9,v1,v2,v3,v4,.slice s2 n2 c2]] w fun e w'=>e=.returned (.bool (Dp 9 (BA ns kids) (Dh ns (kids.getD 0 0).toNat)))/\Below w.heap.size w w':=by
 have Ae:=hk.len;have hsm:=hk.small;have hkl:(BA ns kids).length=n2:=by rw[DD];exact Ae
 obtain⟨r,hr⟩:∃r,Dp 9 (BA ns kids) (Dh ns (kids.getD 0 0).toNat)=r:=⟨_,rfl⟩
 rw[hr];have HA:=AB (Fn cap h);have HK:=AB hk;have HZ:=AB hz;have HPO:=AB (Em w (.slice a n cap) (.cells #[.int .i64 9,v1,v2,v3,v4,.slice s2 n2 c2] 47));obtain⟨Q,hQ⟩:∃Q,Q=(w.alloc (.cells #[.slice a n cap] 29)).alloc (.cells #[.int .i64 9,v1,v2,v3,v4,.slice s2 n2 c2] 47):=⟨_,rfl⟩
 have HQ:=AB hQ;rw[<-hQ]at HPO;have HR:Hid ((decide ((BA ns kids).length=2)&&(((BA ns kids).take 1).all Pd&&((BA ns kids).drop 1).all FQ))=r):=hr;rw[hkl]at HR;clear hr h hk hz hQ;by_cases hn:n2=2;case neg=>
  have hg:((n2:Int)- 1==1)=false:=by simp;omega
  have HE:Hid (false=r):=by show _=_;rw[<-AA HR,AD hn];rfl
  clear HR HA hn;go_enter func32,ntmps32;go_wp2_with fail;go_quiet(fail);go_wp2_with fail;clear Ae hkl
  go_big_quiet(fail)
  go_wp2_with fail;go_ret;exact⟨AN (AA HE),((AA HPO) _ (by rw[AA HQ];repeat(first|exact AI|refine Aa ?_|refine Below.drewN ?_ _))).2⟩
 rw[AK hn,Ap]at HR;obtain⟨b,off,rfl,hbl,hc0⟩:=(AA HK).get (k:=0) (by omega);have hg:((n2:Int)- 1==1)=true:=by simp;omega
 have hx1:¬ c2=1:=by omega
 have hx2:(1:Int)<=(c2:Int):=by omega
 have hx3:(1:Int)<=(n2:Int):=by omega
 have hx4:(n2:Int)<=(c2:Int):=by omega
 rw[G8,GY]at HR;cases q1:(BA ns (kids.take 1)).all Pd with
 |false=>
  have HC1:=AB (fun v hv=>AA HA _ Pw Pd F9 (some ⟨b,off,none⟩) 1 c2 (kids.take 1) v hv ((AA HK).take 1 (by omega)) (Gx (AA HZ) (by omega)) false q1);have HE:Hid (false=r):=by show _=_;rw[<-AA HR,q1];rfl
  clear HR HA q1 hn hc0 Ae hkl HK HZ;go_enter func32,ntmps32;go_wp2_with fail;go_quiet(fail);go_wp2_with fail;first|(go_region_with(first|(go_at_call 63;refine(AA HC1 _ ((AA HPO) _ (by rw[AA HQ];repeat(first|exact AI|refine Aa ?_|refine Below.drewN ?_ _))).2).mono ?_;rintro e w1⟨rfl,hb1⟩;have hb2:Below Q.heap.size Q w1:=BI (by rw[AA HQ];repeat(first|exact AI|refine Aa ?_|refine Below.drewN ?_ _)) (hb1.mono (by first|(rw[AA HQ];simp;done)|exact(AA HQ1).size));have HQ1:=AB hb2;obtain⟨ct1,hbw⟩:=AA HPO _ hb2;have HW1:=AB hbw;clear hb1 hb2 hbw)))|fail
  all_goals go_wp2_with fail
  all_goals go_ret
  all_goals first|exact⟨rfl,AA HW1⟩|exact⟨AN (AA HE),AA HW1⟩
 |true=>
  rw[q1,Ap]at HR;have HC1:=AB (fun v hv=>AA HA _ Pw Pd F9 (some ⟨b,off,none⟩) 1 c2 (kids.take 1) v hv ((AA HK).take 1 (by omega)) (Gx (AA HZ) (by omega)) true q1);have HC2:=AB (fun v hv=>AA HA _ GD FQ C9 (some ⟨b,off+1,none⟩) (n2- 1) (c2- 1) (kids.drop 1) v hv ((AA HK).drop rfl 1 (by omega)) (In (AA HZ) 1 (n2- 1) (by omega)) r (AA HR));clear HR HA q1 hn hc0 Ae hkl HK HZ;go_enter func32,ntmps32;go_wp2_with fail;go_quiet(fail);go_wp2_with fail;first|(go_region_with(first|(have hz1:=HQ1;clear hz1;go_at_call 63;refine(AA HC2 _ ((AA HPO) _ (AA HQ1)).2).mono ?_;rintro e w2⟨rfl,hb1⟩;have hb2:Below Q.heap.size Q w2:=BI (AA HQ1) (hb1.mono (by first|(rw[AA HQ];simp;done)|exact(AA HQ1).size));have HQ2:=AB hb2;obtain⟨ct2,hbw⟩:=AA HPO _ hb2;have HW2:=AB hbw;clear hb1 hb2 hbw)|(go_at_call 63;refine(AA HC1 _ ((AA HPO) _ (by rw[AA HQ];repeat(first|exact AI|refine Aa ?_|refine Below.drewN ?_ _))).2).mono ?_;rintro e w1⟨rfl,hb1⟩;have hb2:Below Q.heap.size Q w1:=BI (by rw[AA HQ];repeat(first|exact AI|refine Aa ?_|refine Below.drewN ?_ _)) (hb1.mono (by first|(rw[AA HQ];simp;done)|exact(AA HQ1).size));have HQ1:=AB hb2;obtain⟨ct1,hbw⟩:=AA HPO _ hb2;have HW1:=AB hbw;clear hb1 hb2 hbw)))|fail
  all_goals go_wp2_with fail
  all_goals go_ret
  all_goals first|exact⟨rfl,AA HW2⟩|exact⟨AN (AA HE),AA HW2⟩
def NB:∀(k:Nat)(us:List AW)(x:AW)(post:List AW),E3 k (us++x::post)=E3 k us++Iw (KY k us) x::E3 (kE (KY k us) x) post
 |_,[],_,_=>rfl
 |k,y::ys,x,post=>by show Iw k y::E3 (kE k y) (ys++x::post)=_;rw[NB (kE k y) ys x post];rfl
def OA(g cap B:Nat)(xs:List AW)(w:World)(h:NW w B g cap (E3 1 xs))(hn:xs.length<=1048576)(hsm:Gs xs):Calls prog 50 #[.slice (some ⟨g,0,none⟩) xs.length cap,.int .i64 1] w fun e w'=>e=.returned (.int .i64 (KY 1 xs:Nat))/\Below w.heap.size w w':=by
 have HS:=AB h;have HSM:=AB hsm;clear h hsm;obtain⟨n,hnn⟩:∃n,xs.length=n:=⟨_,rfl⟩
 rw[hnn]at hn ⊢;have HN:=AB hnn;clear hnn;go_enter func50,ntmps50;go_wp2_with fail;go_loopw[1,5] (fun c i wr=>∃(j x:Nat)(pre post:List AW),j<=n/\i=.int .i64 (j:Nat)/\c=.int .i64 (x:Nat)/\x<=1+j*2097160/\1<=x/\Hid (xs=pre++post)/\Hid (j=pre.length)/\Hid (x=KY 1 pre)/\Hid (Below w.heap.size w wr)) (fun _ i _=>n- (intOf i).toNat);case atStart=>exact⟨0,1,[],xs,AZ _,rfl,rfl,by omega,by omega,rfl,rfl,rfl,AI⟩
 case round=>
  obtain⟨j,x,pre,post,hj,rfl,rfl,hx,hx1,HE,HJ,HX,HB⟩:=hrel;by_cases hlt:j<n;case neg=>
   have he:j=n:=by omega
   have hp:post= []:=by have h1:=AV List.length (AA HE);rw[AH,AA HN]at h1;have h2:=AA HJ;exact F2.1 (by omega)
   subst hp;have hpx:xs=pre:=by rw[AA HE,A6]
   subst hpx;subst he;have Fr:¬(j:Int)<(j:Int):=by omega
   go_wp2_with fail;go_ret;exact⟨by rw[<-AA HX];rfl,AA HB⟩
  case pos=>
   have Fr:(j:Int)<(n:Int):=by omega
   have hxb:x<=1+1048576*2097160:=Aw hx (by have:j*2097160<=1048576*2097160:=Nat.mul_le_mul_right _ (by omega);omega);obtain⟨y,post',rfl⟩:=QG (AA HE) (AA HJ) (by rw[AA HN];exact hlt);have hS:=(AA HS).below (AA HB);rw[AA HE,NB,<-AA HX]at hS;obtain⟨hlc,_,_,f,hr,hfy,_⟩:=hS.node;have hJ:(E3 1 pre).length=j:=by rw[KM];exact(AA HJ).symm
   rw[hJ]at hlc hfy;obtain⟨a4,c4,a5,c5,e4,e5,o4,o5⟩:=hS.lists (Iw x y) (by simp);obtain⟨s4,s5⟩:=AA HSM y (by rw[AA HE];simp);obtain⟨n4,hn4⟩:∃n4,y.d.nums.length=n4:=⟨_,rfl⟩
   obtain⟨n5,hn5⟩:∃n5,y.d.kids.length=n5:=⟨_,rfl⟩
   have m4:(Iw x y).d.nums=GN ((x:Int)+1+1+1+1) n4:=by rw[<-hn4];rfl
   have m5:(Iw x y).d.kids=GN ((x:Int)+1+1+1+1+(n4:Int)) n5:=by rw[<-hn4,<-hn5];rfl
   rw[m4,GW]at e4 o4;rw[m5,GW]at e5 o5;rw[hn4]at s4;rw[hn5]at s5;obtain⟨T,hT⟩:∃T,mt (x+3)=T:=⟨_,rfl⟩
   have hc:∀(q:Nat)(u:Value),(Iw x y).cells[q]? =some u->wr.cell? ⟨g,j*6+q,none⟩=some u:=fun q u hq=>by rw[hr.cell (by have:=Ng hq;omega),hfy q u hq]
   have y0:wr.cell? ⟨g,j*6,none⟩=some (.int .i64 (x:Int)):=hc 0 _ rfl;have y1:wr.cell? ⟨g,j*6+1,none⟩=some (.int .i64 ((x:Int)+1)):=hc 1 _ rfl;have y2:wr.cell? ⟨g,j*6+2,none⟩=some (.int .i64 ((x:Int)+1+1)):=hc 2 _ rfl;have y3:wr.cell? ⟨g,j*6+3,none⟩=some (.string T):=by rw[<-hT];exact hc 3 _ rfl
   have y4:wr.cell? ⟨g,j*6+4,none⟩=some (.slice a4 n4 c4):=by rw[<-e4];exact hc 4 _ rfl
   have y5:wr.cell? ⟨g,j*6+5,none⟩=some (.slice a5 n5 c5):=by rw[<-e5];exact hc 5 _ rfl
   have hgl:=hr.lt;have HM:Hid (∀W,Calls prog 86 #[.int .i64 ((x:Int)+1+1+1)] W fun e w'=>e=.returned (.string T)/\Below W.heap.size W w'):=AB fun W=>by have:=Ku (x+3) (by omega) (by omega) W;rw[hT]at this;exact this
   have HO4:=AB o4.row;have HO5:=AB o5.row;have HN4:=AB hn4;have HN5:=AB hn5;clear hr hfy hc o4 o5 e4 e5 m4 m5 hn4 hn5 hT hJ hS hlc;go_wp2_with fail;go_cut[46] (fun r wx=>r=.bool false/\Hid (Below wr.heap.size wr wx));case first=>
    first|(go_region_with(go_at_call 86;refine(AA HM _).mono ?_;rintro e w1⟨rfl,hb1⟩;have HB1:=AB ((AI.drew).trans hb1);have c3:w1.cell? ⟨g,j*6+3,none⟩=some (.string T):=(hb1.cell (p:=⟨g,j*6+3,none⟩) hgl).trans y3;clear hb1))|fail
    all_goals go_wp2_with fail
    all_goals(go_meet;case rel=>exact⟨rfl,HB1⟩)
   case rest=>
    obtain⟨rfl,HWC⟩:=hcut;have z4:=((AA HWC).cell (p:=⟨g,j*6+4,none⟩) hgl).trans y4;have z5:=((AA HWC).cell (p:=⟨g,j*6+5,none⟩) hgl).trans y5;have HR4:=AB ((AA HO4).below AC (AA HWC));have HR5:=AB ((AA HO5).below AC (AA HWC));have HB9:=AB ((AA HB).trans ((AA HWC).mono (AA HB).size));clear y0 y1 y2 y3 y4 y5 HM HWC HO4 HO5 hgl;go_wp2_with fail;refine(JP a4 n4 c4 _ _ (by exact AA HR4) (by omega) (by omega)).mono ?_;rintro e w7⟨rfl,rfl⟩;have hq1:¬(x:Int)+1+1+1+1+(n4:Int)<0:=by omega
    go_wp2_with fail;refine(JP a5 n5 c5 _ _ (by exact AA HR5) (by omega) (by omega)).mono ?_;rintro e w8⟨rfl,rfl⟩;have hq2:¬(x:Int)+1+1+1+1+(n4:Int)+(n5:Int)<0:=by omega
    go_wp2_with fail;go_roundw;case rel=>exact⟨j+1,x+4+n4+n5,pre++ [y],post',by omega,by go_num,by go_num,by omega,by omega,AB (by rw[AA HE];simp),AB (by rw[AH,<-AA HJ];rfl),AB (by rw[Ll,<-AA HX,kE,AA HN4,AA HN5]),HB9⟩
    case measure=>simp[intOf];omega
def PY(g cap B:Nat)(xs:List AW)(w:World)(h:NW w B g cap xs)(hn:xs.length<=1048576)(hsm:Gs xs):Calls prog 15 #[.agg #[.slice (some ⟨g,0,none⟩) xs.length cap],.int .i64 1] w fun e w'=>e=.returned (.int .i64 (KY 1 xs:Nat))/\NW w' B g cap (E3 1 xs)/\EF (fun y=>y=g\/y∈Bm xs) w w':=by
 have hbA:Below w.heap.size w (w.alloc (.cells #[.slice (some ⟨g,0,none⟩) xs.length cap] 29)):=AI.alloc AC _;have HM:=AB (N1 g cap B xs _ (h.below hbA) hn hsm);have HA:Hid (EF (fun y=>y=g\/y∈Bm xs) w (w.alloc (.cells #[.slice (some ⟨g,0,none⟩) xs.length cap] 29))):=EF.of_below hbA;clear h hbA hsm hn;obtain⟨K,hK⟩:∃K,KY 1 xs=K:=⟨_,rfl⟩
 rw[hK]at HM ⊢;obtain⟨n,hnn⟩:∃n,xs.length=n:=⟨_,rfl⟩
 rw[hnn]at HM HA ⊢;clear hK hnn;go_enter func15,ntmps15;go_wp2_with(go_at_call 41;refine(AA HM).mono ?_;rintro e w1⟨rfl,hw1,hb1⟩;have HB1:=AB (((AA HA).trans hb1).mono (fun x hx=>hx.elim id id));have HW1:=AB hw1;clear hb1 hw1);go_ret;exact⟨rfl,AA HW1,AA HB1⟩
def Pk(g cap B:Nat)(xs:List AW)(w:World)(h:NW w B g cap (E3 1 xs))(hn:xs.length<=1048576)(hsm:Gs xs):Calls prog 21 #[.agg #[.slice (some ⟨g,0,none⟩) xs.length cap],.int .i64 1] w fun e w'=>e=.returned (.int .i64 (KY 1 xs:Nat))/\Below w.heap.size w w':=by
 have hbA:Below w.heap.size w (w.alloc (.cells #[.slice (some ⟨g,0,none⟩) xs.length cap] 29)):=AI.alloc AC _;have HM:=AB (OA g cap B xs _ (h.below hbA) hn hsm);have HA:=AB hbA;clear h hbA hsm hn;obtain⟨K,hK⟩:∃K,KY 1 xs=K:=⟨_,rfl⟩
 rw[hK]at HM ⊢;obtain⟨n,hnn⟩:∃n,xs.length=n:=⟨_,rfl⟩
 rw[hnn]at HM HA ⊢;clear hK hnn;have hK0:¬(K:Int)<0:=by omega
 go_enter func21,ntmps21;go_wp2_with(go_at_call 50;refine(AA HM).mono ?_;rintro e w1⟨rfl,hb1⟩;have HB1:=AB ((AA HA).trans (hb1.mono (AA HA).size));clear hb1);go_ret;exact⟨rfl,AA HB1⟩
def PZ(a:Option Addr)(c:Nat)(w:World):Calls prog 15 #[.agg #[.slice a 0 c],.int .i64 1] w fun e w'=>e=.returned (.int .i64 1)/\Below w.heap.size w w':=by
 have HM:Hid (∀W,Calls prog 41 #[.slice a 0 c,.int .i64 1] W fun e w'=>e=.returned (.int .i64 1)/\w'=W):=fun W=>by go_enter func41,ntmps41;go_wp2_with fail;refine wp_loop_rounds 1 ?_;rw[rounds_succ];go_wp2_with fail;go_ret;exact⟨rfl,rfl⟩
 go_enter func15,ntmps15;go_wp2_with(go_at_call 41;refine(AA HM _).mono ?_;rintro e w1⟨rfl,rfl⟩);go_ret;exact⟨rfl,AI.alloc AC _⟩
def Pl(a:Option Addr)(c:Nat)(w:World):Calls prog 21 #[.agg #[.slice a 0 c],.int .i64 1] w fun e w'=>e=.returned (.int .i64 1)/\Below w.heap.size w w':=by
 have HM:Hid (∀W,Calls prog 50 #[.slice a 0 c,.int .i64 1] W fun e w'=>e=.returned (.int .i64 1)/\w'=W):=fun W=>by go_enter func50,ntmps50;go_wp2_with fail;refine wp_loop_rounds 1 ?_;rw[rounds_succ];go_wp2_with fail;go_ret;exact⟨rfl,rfl⟩
 go_enter func21,ntmps21;go_wp2_with(go_at_call 50;refine(AA HM _).mono ?_;rintro e w1⟨rfl,rfl⟩);go_ret;exact⟨rfl,AI.alloc AC _⟩
