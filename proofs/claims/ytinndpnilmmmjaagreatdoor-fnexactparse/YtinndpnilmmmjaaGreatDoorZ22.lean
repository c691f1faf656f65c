import Derived.Test.YtinndpnilmmmjaaGreatDoorZ20
set_option maxRecDepth 20000
set_option maxHeartbeats 8000000
set_option linter.defProp false
namespace Go.Proofs.YtinndpnilmmmjaaGreatDoor
open Go.RowKit Tryz
def Xd(v1 v2 v3 v4:Value)(a s2:Option Addr)(n cap n2 c2:Nat)(ns:List AM)(kids:List Int)(w:World)(h:Db w a n ns)(hk:Df w s2 n2 kids)(hc:n2<=c2)(hz:∀q,q<n2->0<=kids.getD q 0/\kids.getD q 0<n):Calls prog 32 #[.agg #[.slice a n cap],.agg #[.int .i64 21,v1,v2,v3,v4,.slice s2 n2 c2]] w fun e w'=>e=.returned (.bool (Dp 21 (BA ns kids) (Dh ns (kids.getD 0 0).toNat)))/\Below w.heap.size w w':=by
 have Ae:=hk.len;have hsm:=hk.small;have hkl:(BA ns kids).length=n2:=by rw[DD];exact Ae
 obtain⟨r,hr⟩:∃r,Dp 21 (BA ns kids) (Dh ns (kids.getD 0 0).toNat)=r:=⟨_,rfl⟩
 rw[hr];have HA:=AB (Fn cap h);have HK:=AB hk;have HZ:=AB hz;have HPO:=AB (Em w (.slice a n cap) (.cells #[.int .i64 21,v1,v2,v3,v4,.slice s2 n2 c2] 47));obtain⟨Q,hQ⟩:∃Q,Q=(w.alloc (.cells #[.slice a n cap] 29)).alloc (.cells #[.int .i64 21,v1,v2,v3,v4,.slice s2 n2 c2] 47):=⟨_,rfl⟩
 have HQ:=AB hQ;rw[<-hQ]at HPO;have HR:Hid ((decide (2<=(BA ns kids).length)&&(((BA ns kids).take ((BA ns kids).length- 1)).all N4&&((BA ns kids).drop ((BA ns kids).length- 1)).all FQ))=r):=hr;rw[hkl]at HR;clear hr h hk hz hQ;by_cases hn:2<=n2;case neg=>
  have hg:decide ((1:Int)<=(n2:Int)- 1)=false:=AD (by omega);have HE:Hid (false=r):=by show _=_;rw[<-AA HR,AD hn];rfl
  clear HR HA hn;go_enter func32,ntmps32;go_wp2_with fail;go_quiet(fail);go_wp2_with fail;clear Ae hkl
  go_big_quiet(fail)
  go_wp2_with fail;go_ret;exact⟨AN (AA HE),((AA HPO) _ (by rw[AA HQ];repeat(first|exact AI|refine Aa ?_|refine Below.drewN ?_ _))).2⟩
 rw[AK hn,Ap]at HR;obtain⟨b,off,rfl,hbl,hc0⟩:=(AA HK).get (k:=0) (by omega);have hg:decide ((1:Int)<=(n2:Int)- 1)=true:=AK (by omega);obtain⟨m,hm⟩:∃m,n2=m+1:=⟨n2- 1,by omega⟩
 have hm1:((n2:Int)- 1)=(m:Int):=by omega
 rw[show n2- 1=m by omega,G8,GY]at HR;have HKT:=AB ((AA HK).take m (by omega));have HKD:=AB ((AA HK).drop rfl m (by omega));have HZT:=AB (Gx (k:=m) (AA HZ) (by omega));have HZD:=AB (In (AA HZ) m 1 (by omega));rw[show n2- m=1 by omega]at HKD;rw[hm1]at hg;have hx1:¬ c2=m:=by omega
 have hx2:(m:Int)<=(c2:Int):=by omega
 have hx3:(m:Int)<=(n2:Int):=by omega
 have hx4:(n2:Int)<=(c2:Int):=by omega
 have hx5:n2- m=1:=by omega
 clear hm HK HZ;cases q1:(BA ns (kids.take m)).all N4 with
 |false=>
  have HC1:=AB (fun v hv=>AA HA _ Pv N4 KV (some ⟨b,off,none⟩) m c2 (kids.take m) v hv (AA HKT) (AA HZT) false q1);have HE:Hid (false=r):=by show _=_;rw[<-AA HR,q1];rfl
  clear HR HA hn hc0 Ae hkl q1 HKT HKD HZT HZD;go_enter func32,ntmps32;go_wp2_with fail;go_quiet(fail);go_wp2_with fail;first|(go_region_with(first|(go_at_call 63;refine(AA HC1 _ ((AA HPO) _ (by rw[AA HQ];repeat(first|exact AI|refine Aa ?_|refine Below.drewN ?_ _))).2).mono ?_;rintro e w1⟨rfl,hb1⟩;have hb2:Below Q.heap.size Q w1:=BI (by rw[AA HQ];repeat(first|exact AI|refine Aa ?_|refine Below.drewN ?_ _)) (hb1.mono (by first|(rw[AA HQ];simp;done)|exact(AA HQ1).size));have HQ1:=AB hb2;obtain⟨ct1,hbw⟩:=AA HPO _ hb2;have HW1:=AB hbw;clear hb1 hb2 hbw)))|fail
  all_goals go_wp2_with fail
  all_goals go_ret
  all_goals first|exact⟨rfl,AA HW1⟩|exact⟨AN (AA HE),AA HW1⟩
 |true=>
  rw[q1,Ap]at HR;have HC1:=AB (fun v hv=>AA HA _ Pv N4 KV (some ⟨b,off,none⟩) m c2 (kids.take m) v hv (AA HKT) (AA HZT) true q1);have HC2:=AB (fun v hv=>AA HA _ GD FQ C9 (some ⟨b,off+m,none⟩) 1 (c2- m) (kids.drop m) v hv (AA HKD) (AA HZD) r (AA HR));clear HR HA hn hc0 Ae hkl q1 HKT HKD HZT HZD;go_enter func32,ntmps32;go_wp2_with fail;go_quiet(fail);go_wp2_with fail;first|(go_region_with(first|(have hz1:=HQ1;clear hz1;go_at_call 63;refine(AA HC2 _ ((AA HPO) _ (AA HQ1)).2).mono ?_;rintro e w2⟨rfl,hb1⟩;have hb2:Below Q.heap.size Q w2:=BI (AA HQ1) (hb1.mono (by first|(rw[AA HQ];simp;done)|exact(AA HQ1).size));have HQ2:=AB hb2;obtain⟨ct2,hbw⟩:=AA HPO _ hb2;have HW2:=AB hbw;clear hb1 hb2 hbw)|(go_at_call 63;refine(AA HC1 _ ((AA HPO) _ (by rw[AA HQ];repeat(first|exact AI|refine Aa ?_|refine Below.drewN ?_ _))).2).mono ?_;rintro e w1⟨rfl,hb1⟩;have hb2:Below Q.heap.size Q w1:=BI (by rw[AA HQ];repeat(first|exact AI|refine Aa ?_|refine Below.drewN ?_ _)) (hb1.mono (by first|(rw[AA HQ];simp;done)|exact(AA HQ1).size));have HQ1:=AB hb2;obtain⟨ct1,hbw⟩:=AA HPO _ hb2;have HW1:=AB hbw;clear hb1 hb2 hbw)))|fail
  all_goals go_wp2_with fail
  all_goals go_ret
  all_goals first|exact⟨rfl,AA HW2⟩|exact⟨AN (AA HE),AA HW2⟩
