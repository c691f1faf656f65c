import Derived.Test.YtinndpnilmmmjaaGreatDoorZ20
set_option maxRecDepth 20000
set_option maxHeartbeats 8000000
set_option linter.defProp false
namespace Go.Proofs.YtinndpnilmmmjaaGreatDoor
open Go.RowKit Tryz
def Xh(v1 v2 v3 v4:Value)(a s2:Option Addr)(n cap n2 c2:Nat)(ns:List AM)(kids:List Int)(w:World)(h:Db w a n ns)(hk:Df w s2 n2 kids)(hc:n2<=c2)(hz:∀q,q<n2->0<=kids.getD q 0/\kids.getD q 0<n):Calls prog 32 #[.agg #[.slice a n cap],.agg #[.int .i64 10,v1,v2,v3,v4,.slice s2 n2 c2]] w fun e w'=>e=.returned (.bool (Dp 10 (BA ns kids) (Dh ns (kids.getD 0 0).toNat)))/\Below w.heap.size w w':=by
 have Ae:=hk.len;have hsm:=hk.small;have hkl:(BA ns kids).length=n2:=by rw[DD];exact Ae
 obtain⟨r,hr⟩:∃r,Dp 10 (BA ns kids) (Dh ns (kids.getD 0 0).toNat)=r:=⟨_,rfl⟩
 rw[hr];have HA:=AB (Fn cap h);have HK:=AB hk;have HZ:=AB hz;have HPO:=AB (Em w (.slice a n cap) (.cells #[.int .i64 10,v1,v2,v3,v4,.slice s2 n2 c2] 47));obtain⟨Q,hQ⟩:∃Q,Q=(w.alloc (.cells #[.slice a n cap] 29)).alloc (.cells #[.int .i64 10,v1,v2,v3,v4,.slice s2 n2 c2] 47):=⟨_,rfl⟩
 have HQ:=AB hQ;rw[<-hQ]at HPO;have HR:Hid ((decide ((BA ns kids).length=3)&&(((BA ns kids).take 1).all FQ&&((((BA ns kids).take 2).drop 1).all Pd&&((BA ns kids).drop 2).all FQ)))=r):=hr;rw[hkl]at HR;clear hr h hk hz hQ;by_cases hn:n2=3;case neg=>
  have hg:((n2:Int)- 1==2)=false:=by simp;omega
  have HE:Hid (false=r):=by show _=_;rw[<-AA HR,AD hn];rfl
  clear HR HA hn;go_enter func32,ntmps32;go_wp2_with fail;go_quiet(fail);go_wp2_with fail;clear Ae hkl
  go_big_quiet(fail)
  go_wp2_with fail;go_ret;exact⟨AN (AA HE),((AA HPO) _ (by rw[AA HQ];repeat(first|exact AI|refine Aa ?_|refine Below.drewN ?_ _))).2⟩
 rw[AK hn,Ap]at HR;obtain⟨b,off,rfl,hbl,hc0⟩:=(AA HK).get (k:=0) (by omega);have hg:((n2:Int)- 1==2)=true:=by simp;omega
 have hx1:¬ c2=1:=by omega
 have hx2:(1:Int)<=(c2:Int):=by omega
 have hx3:(1:Int)<=(n2:Int):=by omega
 have hx4:(n2:Int)<=(c2:Int):=by omega
 have hx5:¬ c2=2:=by omega
 have hx6:(2:Int)<=(c2:Int):=by omega
 have hx7:(2:Int)<=(n2:Int):=by omega
 rw[G8,G8,GY,GY]at HR;cases q1:(BA ns (kids.take 1)).all FQ with
 |false=>
  have HC1:=AB (fun v hv=>AA HA _ GD FQ C9 (some ⟨b,off,none⟩) 1 c2 (kids.take 1) v hv ((AA HK).take 1 (by omega)) (Gx (AA HZ) (by omega)) false q1);have HE:Hid (false=r):=by show _=_;rw[<-AA HR,q1];rfl
  clear HR HA hn hc0 Ae hkl HK HZ q1;go_enter func32,ntmps32;go_wp2_with fail;go_quiet(fail);go_wp2_with fail;first|(go_region_with(first|(go_at_call 63;refine(AA HC1 _ ((AA HPO) _ (by rw[AA HQ];repeat(first|exact AI|refine Aa ?_|refine Below.drewN ?_ _))).2).mono ?_;rintro e w1⟨rfl,hb1⟩;have hb2:Below Q.heap.size Q w1:=BI (by rw[AA HQ];repeat(first|exact AI|refine Aa ?_|refine Below.drewN ?_ _)) (hb1.mono (by first|(rw[AA HQ];simp;done)|exact(AA HQ1).size));have HQ1:=AB hb2;obtain⟨ct1,hbw⟩:=AA HPO _ hb2;have HW1:=AB hbw;clear hb1 hb2 hbw)))|fail
  all_goals go_wp2_with fail
  all_goals go_ret
  all_goals first|exact⟨rfl,AA HW1⟩|exact⟨AN (AA HE),AA HW1⟩
 |true=>
  rw[q1,Ap]at HR;have HC1:=AB (fun v hv=>AA HA _ GD FQ C9 (some ⟨b,off,none⟩) 1 c2 (kids.take 1) v hv ((AA HK).take 1 (by omega)) (Gx (AA HZ) (by omega)) true q1);clear q1;cases q2:(BA ns ((kids.take 2).drop 1)).all Pd with
  |false=>
   have HC2:=AB (fun v hv=>AA HA _ Pw Pd F9 (some ⟨b,off+1,none⟩) 1 (c2- 1) ((kids.take 2).drop 1) v hv (((AA HK).take 2 (by omega)).drop rfl 1 (by omega)) (In (Gx (AA HZ) (by omega)) 1 1 (by omega)) false q2);have HE:Hid (false=r):=by show _=_;rw[<-AA HR,q2];rfl
   clear HR HA hn hc0 Ae hkl HK HZ q2;go_enter func32,ntmps32;go_wp2_with fail;go_quiet(fail);go_wp2_with fail;first|(go_region_with(first|(have hz1:=HQ1;clear hz1;go_at_call 63;refine(AA HC2 _ ((AA HPO) _ (AA HQ1)).2).mono ?_;rintro e w2⟨rfl,hb1⟩;have hb2:Below Q.heap.size Q w2:=BI (AA HQ1) (hb1.mono (by first|(rw[AA HQ];simp;done)|exact(AA HQ1).size));have HQ2:=AB hb2;obtain⟨ct2,hbw⟩:=AA HPO _ hb2;have HW2:=AB hbw;clear hb1 hb2 hbw)|(go_at_call 63;refine(AA HC1 _ ((AA HPO) _ (by rw[AA HQ];repeat(first|exact AI|refine Aa ?_|refine Below.drewN ?_ _))).2).mono ?_;rintro e w1⟨rfl,hb1⟩;have hb2:Below Q.heap.size Q w1:=BI (by rw[AA HQ];repeat(first|exact AI|refine Aa ?_|refine Below.drewN ?_ _)) (hb1.mono (by first|(rw[AA HQ];simp;done)|exact(AA HQ1).size));have HQ1:=AB hb2;obtain⟨ct1,hbw⟩:=AA HPO _ hb2;have HW1:=AB hbw;clear hb1 hb2 hbw)))|fail
   all_goals go_wp2_with fail
   all_goals go_ret
   all_goals first|exact⟨rfl,AA HW2⟩|exact⟨AN (AA HE),AA HW2⟩
  |true=>
   rw[q2,Ap]at HR;have HC2:=AB (fun v hv=>AA HA _ Pw Pd F9 (some ⟨b,off+1,none⟩) 1 (c2- 1) ((kids.take 2).drop 1) v hv (((AA HK).take 2 (by omega)).drop rfl 1 (by omega)) (In (Gx (AA HZ) (by omega)) 1 1 (by omega)) true q2);have HC3:=AB (fun v hv=>AA HA _ GD FQ C9 (some ⟨b,off+2,none⟩) (n2- 2) (c2- 2) (kids.drop 2) v hv ((AA HK).drop rfl 2 (by omega)) (In (AA HZ) 2 (n2- 2) (by omega)) r (AA HR));clear HR HA hn hc0 Ae hkl HK HZ q2;go_enter func32,ntmps32;go_wp2_with fail;go_quiet(fail);go_wp2_with fail;first|(go_region_with(first|(have hz2:=HQ2;clear hz2;go_at_call 63;refine(AA HC3 _ ((AA HPO) _ (AA HQ2)).2).mono ?_;rintro e w3⟨rfl,hb1⟩;have hb2:Below Q.heap.size Q w3:=BI (AA HQ2) (hb1.mono (by first|(rw[AA HQ];simp;done)|exact(AA HQ2).size));have HQ3:=AB hb2;obtain⟨ct3,hbw⟩:=AA HPO _ hb2;have HW3:=AB hbw;clear hb1 hb2 hbw)|(have hz1:=HQ1;clear hz1;go_at_call 63;refine(AA HC2 _ ((AA HPO) _ (AA HQ1)).2).mono ?_;rintro e w2⟨rfl,hb1⟩;have hb2:Below Q.heap.size Q w2:=BI (AA HQ1) (hb1.mono (by first|(rw[AA HQ];simp;done)|exact(AA HQ1).size));have HQ2:=AB hb2;obtain⟨ct2,hbw⟩:=AA HPO _ hb2;have HW2:=AB hbw;clear hb1 hb2 hbw)|(go_at_call 63;refine(AA HC1 _ ((AA HPO) _ (by rw[AA HQ];repeat(first|exact AI|refine Aa ?_|refine Below.drewN ?_ _))).2).mono ?_;rintro e w1⟨rfl,hb1⟩;have hb2:Below Q.heap.size Q w1:=BI (by rw[AA HQ];repeat(first|exact AI|refine Aa ?_|refine Below.drewN ?_ _)) (hb1.mono (by first|(rw[AA HQ];simp;done)|exact(AA HQ1).size));have HQ1:=AB hb2;obtain⟨ct1,hbw⟩:=AA HPO _ hb2;have HW1:=AB hbw;clear hb1 hb2 hbw)))|fail
   all_goals go_wp2_with fail
   all_goals go_ret
   all_goals first|exact⟨rfl,AA HW3⟩|exact⟨AN (AA HE),AA HW3⟩
