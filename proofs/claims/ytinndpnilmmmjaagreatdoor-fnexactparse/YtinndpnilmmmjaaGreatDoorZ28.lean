import Derived.Test.YtinndpnilmmmjaaGreatDoorZ27
import Derived.Test.YtinndpnilmmmjaaGreatDoorZ24
import Derived.Test.YtinndpnilmmmjaaGreatDoorZ23
import Derived.Test.YtinndpnilmmmjaaGreatDoorZ22
import Derived.Test.YtinndpnilmmmjaaGreatDoorZ26
import Derived.Shelf.Strings.BuilderK
import Derived.Shelf.Utf8.RuneCount
import Derived.Test.YtinndpnilmmmjaaGreatDoorZ21
set_option maxRecDepth 100000
set_option maxHeartbeats 16000000
set_option linter.defProp false
namespace Go.Proofs.YtinndpnilmmmjaaGreatDoor
open Go.RowKit Go.Proofs.Tryz
def Sb(k n at':Int)(t s:AE)(r:Bool)(hr:(decide (k=4)&&(t.toList==s.toList))=r)(w:World):Calls prog 159 #[.agg #[.int .i64 k,.int .i64 n,.string t,.int .i64 at'],.string s] w fun e w'=>e=.returned (.bool r)/\Below w.heap.size w w':=by
 by_cases h4:k=4;case neg=>
  have hd:(k==4)=false:=by simpa using h4
  have HE:Hid (false=r):=by show _=_;rw[<-hr,AD h4];rfl
  clear hr h4;go_enter func159,ntmps159;go_wp2_with fail;go_ret;exact⟨AN (AA HE),AI.alloc AC _⟩
 case pos=>
  subst h4;rw[AK rfl,Ap]at hr;go_enter func159,ntmps159;go_wp2_with fail;go_ret;exact⟨rfl,AI.alloc AC _⟩
def Se(k n at':Int)(t:AE)(r:Bool)(hs:k=3->0<t.size)(hr:(decide (k=3)&&decide (97<=bt t 0))=r)(w:World):Calls prog 60 #[.agg #[.int .i64 k,.int .i64 n,.string t,.int .i64 at']] w fun e w'=>e=.returned (.bool r)/\Below w.heap.size w w':=by
 by_cases h4:k=3;case neg=>
  have hd:(k==3)=false:=by simpa using h4
  have HE:Hid (false=r):=by show _=_;rw[<-hr,AD h4];rfl
  clear hr h4 hs;go_enter func60,ntmps60;go_wp2_with fail;go_ret;exact⟨AN (AA HE),AI.alloc AC _⟩
 case pos=>
  subst h4;rw[AK rfl,Ap]at hr;have hi0:∀W,(Instr.index 9 (.string t) (.int .i64 0)).run prog W=.ok (.int .u8 (bt t 0:Nat)) W:=fun W=>C5 (s:=t) (k:=0) (hs rfl) W;obtain⟨c,hc⟩:∃c,bt t 0=c:=⟨_,rfl⟩
  rw[hc]at hi0 hr;have HR:=AB hr;clear hc hr hs;go_enter func60,ntmps60
  go_wp2
  go_ret;refine⟨AN ?_,AI.alloc AC _⟩;rw[<-AA HR];first|exact BQ.2 (by omega)|(simp;omega)
def Qr(k n at':Int)(t:AE)(r:Bool)(hs:k=3->0<t.size)(hr:(decide (k=3)&&decide (bt t 0<=90))=r)(w:World):Calls prog 61 #[.agg #[.int .i64 k,.int .i64 n,.string t,.int .i64 at']] w fun e w'=>e=.returned (.bool r)/\Below w.heap.size w w':=by
 by_cases h4:k=3;case neg=>
  have hd:(k==3)=false:=by simpa using h4
  have HE:Hid (false=r):=by show _=_;rw[<-hr,AD h4];rfl
  clear hr h4 hs;go_enter func61,ntmps61;go_wp2_with fail;go_ret;exact⟨AN (AA HE),AI.alloc AC _⟩
 case pos=>
  subst h4;rw[AK rfl,Ap]at hr;have hi0:∀W,(Instr.index 9 (.string t) (.int .i64 0)).run prog W=.ok (.int .u8 (bt t 0:Nat)) W:=fun W=>C5 (s:=t) (k:=0) (hs rfl) W;obtain⟨c,hc⟩:∃c,bt t 0=c:=⟨_,rfl⟩
  rw[hc]at hi0 hr;have HR:=AB hr;clear hc hr hs;go_enter func61,ntmps61
  go_wp2
  go_ret;refine⟨AN ?_,AI.alloc AC _⟩;rw[<-AA HR];first|exact BQ.2 (by omega)|(simp;omega)
def SZ(k:Int)(v1 v2 v3 v4:Value)(a s2:Option Addr)(n cap n2 c2:Nat)(ns:List AM)(kids:List Int)(w:World)(h:Db w a n ns)(hk:Df w s2 n2 kids)(hc:n2<=c2)(hz:∀q,q<n2->0<=kids.getD q 0/\kids.getD q 0<n)(hsel:k=23->n2=2->GT ns (kids.getD 0 0).toNat):Calls prog 32 #[.agg #[.slice a n cap],.agg #[.int .i64 k,v1,v2,v3,v4,.slice s2 n2 c2]] w fun e w'=>e=.returned (.bool (Dp k (BA ns kids) (Dh ns (kids.getD 0 0).toNat)))/\Below w.heap.size w w':=by
 by_cases h7:k=7
 .subst h7;exact Zf v1 v2 v3 v4 a s2 n cap n2 c2 ns kids w h hk hc hz
 by_cases h9:k=9
 .subst h9;exact Ze v1 v2 v3 v4 a s2 n cap n2 c2 ns kids w h hk hc hz
 by_cases h10:k=10
 .subst h10;exact Xh v1 v2 v3 v4 a s2 n cap n2 c2 ns kids w h hk hc hz
 by_cases h16:k=16
 .subst h16;exact Xg v1 v2 v3 v4 a s2 n cap n2 c2 ns kids w h hk hz
 by_cases h19:k=19
 .subst h19;exact Xf v1 v2 v3 v4 a s2 n cap n2 c2 ns kids w h hk hz
 by_cases h20:k=20
 .subst h20;exact Xe v1 v2 v3 v4 a s2 n cap n2 c2 ns kids w h hk hz
 by_cases h21:k=21
 .subst h21;exact Xd v1 v2 v3 v4 a s2 n cap n2 c2 ns kids w h hk hc hz
 by_cases h22:k=22
 .subst h22;exact Xc v1 v2 v3 v4 a s2 n cap n2 c2 ns kids w h hk hz
 by_cases h23:k=23
 .subst h23;exact Xb v1 v2 v3 v4 a s2 n cap n2 c2 ns kids w h hk hc hz (hsel rfl)
 by_cases h24:k=24
 .subst h24;exact Xa v1 v2 v3 v4 a s2 n cap n2 c2 ns kids w h hk hz
 by_cases h25:k=25
 .subst h25;exact XZ v1 v2 v3 v4 a s2 n cap n2 c2 ns kids w h hk hz
 exact Qm k v1 v2 v3 v4 a s2 n cap n2 c2 ns kids w h hk hz h7 h9 h10 h16 h19 h20 h21 h22 h23 h24 h25
structure Re(w:World)(a:Option Addr)(n:Nat)(ns:List AM):Prop where
 row:Db w a n ns
 cap:∀b off,a=some ⟨b,off,none⟩->∀i,i<n->∀s m c,w.cell? ⟨b,off+i*6+5,none⟩=some (.slice s m c)->m<=c
def Re.below{w w':World}{a:Option Addr}{n:Nat}{ns:List AM}{B:Nat}(h:Re w a n ns)(hB:w.heap.size<=B)(hb:Below B w w'):Re w' a n ns:=by refine⟨h.row.below hB hb,fun b off e i hi s m c hc=> ?_⟩;obtain⟨b',Hr,e',hlt',_⟩:=h.row.get hi;rw[e]at e';cases e';rw[hb.cell (p:=⟨b,off+i*6+5,none⟩) (AX hlt' hB)]at hc;exact h.cap b off e i hi s m c hc
def ZE{T:AE->Bool}{ns:List AM}{st:List (Nat×Nat)}{i z:Nat}(ho:EG ns ns.length=some st)(hi:i<=ns.length)(ha:∀j,j<i->JI T ns j=true)(hz:z<i):GT ns z:=GT.of fun j hj=>by have hk:=ha j (by omega);rw[MI]at hk;simp only[An]at hk;have hf:=Ql hk.1;rw[DD]at hf;exact⟨Kq ho (by omega),hf⟩
def Pr(k n m:Int)(s:AE)(a1 a2:Option Addr)(n1 c1 n2 c2:Nat)(nums kids:List Int)(w:World)(hs:s.size<=1048576)(hG:Dg w)(h1:Df w a1 n1 nums):Calls prog 31 #[.agg #[.int .i64 k,.int .i64 n,.int .i64 m,.string s,.slice a1 n1 c1,.slice a2 n2 c2]] w fun e w'=>e=.returned (.bool (Bq B2 ⟨k,n,m,s,nums,kids⟩))/\Below w.heap.size w w':=by
 by_cases e1:k=1
 .subst e1;exact Sr n m s a1 a2 n1 c1 n2 c2 nums kids w hs hG h1
 by_cases e2:k=2
 .subst e2;exact Sq n m s a1 a2 n1 c1 n2 c2 nums kids w hs hG h1
 by_cases e3:k=3
 .subst e3;exact KX 3 n m s a1 a2 n1 c1 n2 c2 nums kids w (.inl rfl) hs hG h1
 by_cases e11:k=11
 .subst e11;exact RA n m s a1 a2 n1 c1 n2 c2 nums kids w hs hG h1
 by_cases e12:k=12
 .subst e12;exact L7 12 n m s a1 a2 n1 c1 n2 c2 nums kids w (.inl rfl) hs hG h1
 by_cases e13:k=13
 .subst e13;exact L7 13 n m s a1 a2 n1 c1 n2 c2 nums kids w (.inr rfl) hs hG h1
 by_cases e14:k=14
 .subst e14;exact Q9 n m s a1 a2 n1 c1 n2 c2 nums kids w hs hG h1
 by_cases e15:k=15
 .subst e15;exact Q8 n m s a1 a2 n1 c1 n2 c2 nums kids w hs hG h1
 by_cases e17:k=17
 .subst e17;exact L6 17 n m s a1 a2 n1 c1 n2 c2 nums kids w (.inl rfl) hs hG h1
 by_cases e19:k=19
 .subst e19;exact KX 19 n m s a1 a2 n1 c1 n2 c2 nums kids w (.inr (.inl rfl)) hs hG h1
 by_cases e20:k=20
 .subst e20;exact L6 20 n m s a1 a2 n1 c1 n2 c2 nums kids w (.inr rfl) hs hG h1
 by_cases e21:k=21
 .subst e21;exact KX 21 n m s a1 a2 n1 c1 n2 c2 nums kids w (.inr (.inr rfl)) hs hG h1
 by_cases e22:k=22
 .subst e22;exact Q7 n m s a1 a2 n1 c1 n2 c2 nums kids w hs hG h1
 exact Sp k n m s a1 a2 n1 c1 n2 c2 nums kids w ⟨e1,e2,e3,e11,e12,e13,e14,e15,e17,e19,e20,e21,e22⟩ hs hG h1
def Ro{T:AE->Bool}{ns:List AM}(h:¬(1<=ns.length/\ns.length<=600)):I7 T ns=false:=by unfold I7;rw[AD h];rfl
def QC{T:AE->Bool}{ns:List AM}(h:G4 ns=false):I7 T ns=false:=by unfold I7;rw[h,Bool.false_and,Da]
def Rp{T:AE->Bool}{ns:List AM}{i:Nat}(hi:i<ns.length)(h:JI T ns i=false):I7 T ns=false:=by unfold I7;rw[Ev.2 ⟨i,DZ.2 hi,by rw[h];decide⟩,Bool.false_and,Da,Da]
def Rq{T:AE->Bool}{ns:List AM}(h1:1<=ns.length/\ns.length<=600)(h2:G4 ns=true)(h3:∀j,j<ns.length->JI T ns j=true):I7 T ns=decide ((Af ns (ns.length- 1)).k=25):=by unfold I7;rw[AK h1,h2,Ax.2 (fun j hj=>h3 j (DZ.1 hj))];rfl
def Ph(a:Option Addr)(n cap:Nat)(ns:List AM)(w:World)(hC:Re w a n ns)(hsm:P9 ns n)(hG:Dg w):Calls prog 10 #[.agg #[.slice a n cap]] w fun e w'=>e=.returned (.bool (F5 B2 ns))/\Below w.heap.size w w':=by
 rw[<-Yt];have h:=hC.row;have Ae:=h.len;have hn1:=h.small;obtain⟨r,hr⟩:∃r,I7 B2 ns=r:=⟨_,rfl⟩
 rw[hr];have HR:=AB hr;obtain⟨Q,hQ⟩:∃Q,Q=w.alloc (.cells #[.slice a n cap] 29):=⟨_,rfl⟩
 have HQ:=AB hQ;have HBQ:Hid (Below w.heap.size w Q):=by rw[hQ];exact AI.alloc AC _
 have hQlt:w.heap.size<Q.heap.size:=by rw[hQ];simp
 have HQC:Hid (Q.cell? ⟨w.heap.size,0,none⟩=some (.slice a n cap)):=by rw[hQ];show(w.alloc _).cell? _=_;simp
 have HG:Hid (∀v,Below w.heap.size w v->Dg v):=fun v hv=>hG.below hv;have HCC:=AB hC;have HSM:=AB hsm;clear hr hQ hC hsm hG;by_cases hs:1<=n/\n<=600;case neg=>
  have HW:=AB (fun W=>Ew (n:Int) 1 600 false (AD (by omega)) W);have HE:Hid (false=r):=by show _=_;rw[<-AA HR,Ro (by rw[Ae];exact hs)]
  clear HR h;go_enter func10,ntmps10;go_wp2_with(first|(go_at_call 29;refine(AA HW _).mono ?_;rintro e w1⟨rfl,hw1⟩;obtain rfl:=hw1.symm));rw[<-AA HQ];go_ret;exact⟨AN (AA HE),AA HBQ⟩
 have HW:=AB (fun W=>Ew (n:Int) 1 600 true (AK (by omega)) W);cases ho:G4 ns with
 |false=>
  have HOC:Hid (Calls prog 30 #[.agg #[.slice a n cap]] Q fun e w'=>e=.returned (.bool false)/\Below Q.heap.size Q w'):=by rw[<-ho];exact J0 a n cap ns Q (h.below AC (AA HBQ)) (AA HSM) hs
  have HE:Hid (false=r):=by show _=_;rw[<-AA HR,QC ho]
  clear HR ho h;go_enter func10,ntmps10;go_wp2_with(first|(go_at_call 29;refine(AA HW _).mono ?_;rintro e w1⟨rfl,hw1⟩;obtain rfl:=hw1.symm)|(go_at_call 30;rw[<-AA HQ];refine(AA HOC).mono ?_;rintro e w2⟨rfl,hb2⟩;have HB2:=AB ((AA HBQ).trans (hb2.mono (AA HBQ).size));clear hb2));go_ret;exact⟨AN (AA HE),AA HB2⟩
 |true=>
  have HOC:Hid (Calls prog 30 #[.agg #[.slice a n cap]] Q fun e w'=>e=.returned (.bool true)/\Below Q.heap.size Q w'):=by rw[<-ho];exact J0 a n cap ns Q (h.below AC (AA HBQ)) (AA HSM) hs
  obtain⟨st,hst⟩:∃st,EG ns ns.length=some st:=by
   unfold G4 at ho;cases hq:EG ns ns.length with
   |none=>rw[hq]at ho;cases ho
   |some st=>exact⟨st,rfl⟩
  have HO:=AB ho;have HST:=AB hst;clear ho hst h;go_enter func10,ntmps10;go_wp2_with(first|(go_at_call 29;refine(AA HW _).mono ?_;rintro e w1⟨rfl,hw1⟩;obtain rfl:=hw1.symm)|(go_at_call 30;rw[<-AA HQ];refine(AA HOC).mono ?_;rintro e w2⟨rfl,hb2⟩;have HB2:=AB hb2;have ct2:w2.cell? ⟨w.heap.size,0,none⟩=some (.slice a n cap):=(hb2.cell (p:=⟨w.heap.size,0,none⟩) hQlt).trans (AA HQC);clear hb2));clear ct2;go_loopw[20] (fun v wr=>∃i:Nat,i<=n/\v=.int .i64 i/\Hid (∀j,j<i->JI B2 ns j=true)/\Hid (Below Q.heap.size Q wr)) (fun v _=>n- (intOf v).toNat);case atStart=>exact⟨0,AZ _,rfl,fun j hj=>absurd hj (Bc _),HB2⟩
  case round=>
   obtain⟨i,hin,rfl,HA,HBL⟩:=hrel;clear HB2 HOC HW;have hbW:=(AA HBQ).trans ((AA HBL).mono (by omega));have HBW:=AB hbW;have ct:wr.cell? ⟨w.heap.size,0,none⟩=some (.slice a n cap):=((AA HBL).cell (p:=⟨w.heap.size,0,none⟩) hQlt).trans (AA HQC);have hszw:w.heap.size<wr.heap.size:=by have:=(AA HBL).size;omega
   have hCr:=(AA HCC).below AC hbW;by_cases hlt:i<n;case neg=>
    have hin':i=n:=by omega
    obtain⟨y,hy⟩:∃y,n=y+1:=⟨n- 1,by omega⟩
    obtain⟨b,off,rfl,hbl,_,_,_,_,_,_,e0,_,_,_,_,_,_,_⟩:=hCr.row.get (k:=y) (by omega);have HE:Hid (decide ((Af ns y).k=25)=r):=by show _=r;rw[<-AA HR,Rq (by rw[Ae];exact hs) (AA HO) (by rw[Ae,<-hin'];exact AA HA),Ae,show n- 1=y by omega]
    obtain⟨xk,hxk⟩:∃x,(Af ns y).k=x:=⟨_,rfl⟩
    rw[hxk]at e0 HE;have hgi:¬(i:Int)<(n:Int):=by omega
    have hyi:(n:Int)- 1=(y:Int):=by omega
    have hyn:(y:Int)<(n:Int):=by omega
    clear HR HA hCr hxk hy hbW hin';go_wp2_with fail;go_ret;refine⟨AN ?_,AA HBW⟩;rw[<-AA HE];by_cases e:xk=25
    .subst e;rfl
    .rw[AD e];simpa using e
   obtain⟨b,off,rfl,hbl,s1,n1,c1,s2,n2,c2,e0,e1,e2,e3,e4,e5,r1,r2⟩:=hCr.row.get hlt;have hcap:=hCr.cap b off rfl i hlt _ _ _ e5;have hsn:=AA HSM i hlt;have hl2:=r2.len;have hkz:=Kq (AA HST) (i:=i) (by omega);have HNB:Hid (JI B2 ns i=(Bq B2 (Af ns i)&&Dp (Af ns i).k (BA ns (Af ns i).kids) (Dh ns (CV (Af ns i) 0)))):=rfl;have HTB:Hid (JI B2 ns i=false->false=r):=fun hh=>by rw[<-AA HR,Rp (by omega) hh]
   have HPSH:Hid (JI B2 ns i=true->∀j,j<i+1->JI B2 ns j=true):=fun hh j hj=>by
    by_cases e:j=i
    .subst e;exact hh
    .exact AA HA j (by omega)
   obtain⟨W1,hW1⟩:∃x,x=wr.alloc (.cells #[.int .i64 (Af ns i).k,.int .i64 (Af ns i).n,.int .i64 (Af ns i).m,.string (Af ns i).s,.slice s1 n1 c1,.slice s2 n2 c2] 47):=⟨_,rfl⟩
   have HB1:Hid (Below wr.heap.size wr W1):=by rw[hW1];exact AI.alloc AC _
   have HBOX:Hid (Hv W1 wr.heap.size (.int .i64 (Af ns i).k) (.int .i64 (Af ns i).n) (.int .i64 (Af ns i).m) (.string (Af ns i).s) (.slice s1 n1 c1) (.slice s2 n2 c2)):=by rw[hW1];exact Hv.new wr _ _ _ _ _ _
   have hs1w:wr.heap.size<W1.heap.size:=by rw[hW1];simp
   have HFC:Hid (Calls prog 31 #[.agg #[.int .i64 (Af ns i).k,.int .i64 (Af ns i).n,.int .i64 (Af ns i).m,.string (Af ns i).s,.slice s1 n1 c1,.slice s2 n2 c2]] W1 fun e w'=>e=.returned (.bool (Bq B2 (Af ns i)))/\Below W1.heap.size W1 w'):=Pr _ _ _ _ s1 s2 n1 c1 n2 c2 (Af ns i).nums (Af ns i).kids W1 hsn.1 (AA HG _ (hbW.trans ((AA HB1).mono hbW.size))) (r1.below AC (AA HB1));have HKC:Hid (∀v,Below W1.heap.size W1 v->Calls prog 32 #[.agg #[.slice (some ⟨b,off,none⟩) n cap],.agg #[.int .i64 (Af ns i).k,.int .i64 (Af ns i).n,.int .i64 (Af ns i).m,.string (Af ns i).s,.slice s1 n1 c1,.slice s2 n2 c2]] v fun e w'=>e=.returned (.bool (Dp (Af ns i).k (BA ns (Af ns i).kids) (Dh ns (CV (Af ns i) 0))))/\Below v.heap.size v w'):=fun v hv=>SZ _ _ _ _ _ _ s2 n cap n2 c2 ns (Af ns i).kids v ((hCr.row.below AC (AA HB1)).below AC hv) ((r2.below AC (AA HB1)).below AC hv) hcap (fun q hq=>by have:=hkz q (by omega);omega) (fun _ h2=>ZE (AA HST) (i:=i) (by omega) (AA HA) (by have:=hkz 0 (by omega);omega));obtain⟨xk,hxk⟩:∃x,(Af ns i).k=x:=⟨_,rfl⟩
   obtain⟨xn,hxn⟩:∃x,(Af ns i).n=x:=⟨_,rfl⟩
   obtain⟨xm,hxm⟩:∃x,(Af ns i).m=x:=⟨_,rfl⟩
   obtain⟨xs,hxs⟩:∃x,(Af ns i).s=x:=⟨_,rfl⟩
   obtain⟨fq,hfq⟩:∃x,Bq B2 (Af ns i)=x:=⟨_,rfl⟩
   obtain⟨kq,hkq⟩:∃x,Dp (Af ns i).k (BA ns (Af ns i).kids) (Dh ns (CV (Af ns i) 0))=x:=⟨_,rfl⟩
   rw[hfq]at HFC HNB;rw[hkq]at HKC HNB;rw[hxk]at e0 HBOX HFC HKC hW1;rw[hxn]at e1 HBOX HFC HKC hW1;rw[hxm]at e2 HBOX HFC HKC hW1;rw[hxs]at e3 HBOX HFC HKC hW1;have HW1:=AB hW1;have Fr:(i:Int)<(n:Int):=by omega
   have HPOST:Hid (∀v,Below W1.heap.size W1 v->v.cell? ⟨w.heap.size,0,none⟩=some (.slice (some ⟨b,off,none⟩) n cap)/\v.cell? ⟨wr.heap.size,0,none⟩=some (.int .i64 xk)/\v.cell? ⟨wr.heap.size,1,none⟩=some (.int .i64 xn)/\v.cell? ⟨wr.heap.size,2,none⟩=some (.int .i64 xm)/\v.cell? ⟨wr.heap.size,3,none⟩=some (.string xs)/\v.cell? ⟨wr.heap.size,4,none⟩=some (.slice s1 n1 c1)/\v.cell? ⟨wr.heap.size,5,none⟩=some (.slice s2 n2 c2)/\Below Q.heap.size Q v/\Below w.heap.size w v):=fun v hv=>by obtain⟨f0,f1,f2,f3,f4,f5⟩:=((AA HBOX).below hs1w hv).all;have hq:=(AA HBL).trans (((AA HB1).trans (hv.mono (AA HB1).size)).mono (AA HBL).size);exact⟨(hv.cell (p:=⟨w.heap.size,0,none⟩) (by show w.heap.size<_;omega)).trans (((AA HB1).cell (p:=⟨w.heap.size,0,none⟩) hszw).trans ct),f0,f1,f2,f3,f4,f5,hq,(AA HBQ).trans (hq.mono (by omega))⟩
   clear hW1 hxk hxn hxm hxs hfq hkq hkz hcap hsn hl2 r1 r2 hCr hbW HA HR HB1 HBOX;have hfld:True:=trivial;cases fq with
   |false=>
    have HE:Hid (false=r):=AA HTB (by rw[AA HNB];rfl);clear HNB HTB HPSH HKC;go_wp2_with(first|(go_at_call 31;rw[<-AA HW1];refine(AA HFC).mono ?_;rintro e w3⟨rfl,hb3⟩;have HBW3:=AB (AA HPOST _ hb3).2.2.2.2.2.2.2.2;clear hb3));go_ret;exact⟨AN (AA HE),AA HBW3⟩
   |true=>
    cases kq with
    |false=>
     have HE:Hid (false=r):=AA HTB (by rw[AA HNB];rfl);clear HNB HTB HPSH;go_wp2_with(first|(go_at_call 31;rw[<-AA HW1];refine(AA HFC).mono ?_;rintro e w3⟨rfl,hb3⟩;obtain⟨g0,g1,g2,g3,g4,g5,g6,-,-⟩:=AA HPOST _ hb3;have HB3:=AB hb3;clear hb3)|(go_at_call 32;refine(AA HKC _ (AA HB3)).mono ?_;rintro e w4⟨rfl,hb4⟩;have HBW4:=AB (AA HPOST _ ((AA HB3).trans (hb4.mono (AA HB3).size))).2.2.2.2.2.2.2.2;clear hb4));go_ret;exact⟨AN (AA HE),AA HBW4⟩
    |true=>
     have HNX:=AB (AA HPSH (by rw[AA HNB];rfl));clear HNB HTB HPSH;go_wp2_with(first|(go_at_call 31;rw[<-AA HW1];refine(AA HFC).mono ?_;rintro e w3⟨rfl,hb3⟩;obtain⟨g0,g1,g2,g3,g4,g5,g6,-,-⟩:=AA HPOST _ hb3;have HB3:=AB hb3;clear hb3)|(go_at_call 32;refine(AA HKC _ (AA HB3)).mono ?_;rintro e w4⟨rfl,hb4⟩;have HBQ4:=AB (AA HPOST _ ((AA HB3).trans (hb4.mono (AA HB3).size))).2.2.2.2.2.2.2.1;clear hb4));go_roundw;case rel=>exact⟨i+1,by omega,by go_num,HNX,HBQ4⟩
     case measure=>simp[intOf];omega
def E1:AE:=⟨(SH.flatMap fun c=>(BW ((c:Nat):Int)).map fun x=>x.toNat.toUInt8).toArray⟩
def aC(s sep:AE)(w:World)(hs:s.size<4294967281)(hG:Vq w):Calls prog 216 #[.string s,.string sep] w fun e w'=>e=.returned (.tuple #[.string ⟨(Lib.cut s.data.toList sep.data.toList).1.toArray⟩,.string ⟨(Lib.cut s.data.toList sep.data.toList).2.1.toArray⟩,.bool (Lib.cut s.data.toList sep.data.toList).2.2])/\Below w.heap.size w w':=by obtain⟨m,hm⟩:=hG.len;refine(Any.strings_Cut Tryz.cutS s sep m w hs hm).mono ?_;rintro e w'⟨rfl,n,rfl⟩;exact⟨rfl,Below.drewN AI _⟩
def UV(s:AE)(w:World)(hs:s.size<9223372036854775807):Calls prog 202 #[.string s] w fun e w'=>e=.returned (.int .i64 (Lib.runeCount s))/\Below w.heap.size w w':=by refine(Any.utf8_RuneCountInString {Tryz.replaceS with} s w hs).mono ?_;rintro e w'⟨rfl,pos,rfl⟩;exact⟨rfl,AI.alloc AC _⟩
def aD:(Ar.all fun c=>decide ((Lib.cut E1.data.toList (BU (BW ((c:Nat):Int))).data.toList).2.2=decide (0<Bd c))&&(decide (Bd c=0)||decide (Lib.runeCount ⟨(Lib.cut E1.data.toList (BU (BW ((c:Nat):Int))).data.toList).1.toArray⟩+1=Bd c)))=true:=by kernel_rfl
def cQ{c:Nat}(h:c∈Ar):(Lib.cut E1.data.toList (BU (BW ((c:Nat):Int))).data.toList).2.2=decide (0<Bd c)/\(0<Bd c->Lib.runeCount ⟨(Lib.cut E1.data.toList (BU (BW ((c:Nat):Int))).data.toList).1.toArray⟩+1=Bd c):=by have:=Ax.mp aD c h;rw[An,As,DG,As,As]at this;exact⟨this.1,fun hp=>this.2.resolve_left (by omega)⟩
def YO(s sep:List UInt8):(Lib.cut s sep).1.length<=s.length:=by
 unfold Lib.cut;split
 .simp;omega
 .exact AC
def Ly:E1.size=77:=by kernel_rfl
def PM{n:Nat}(h:n<5):Bd n=0:=by
 have:n=0\/n=1\/n=2\/n=3\/n=4:=by omega
 rcases this with rfl|rfl|rfl|rfl|rfl<;>decide
def Mw(y:CO)(hy:F0 y\/y.k=0)(w:World)(hG:Vq w):Calls prog 193 #[Bi y] w fun e w'=>e=.returned (.int .i64 (Bd (JS y):Nat))/\Below w.heap.size w w':=by
 obtain⟨k,n,t,pl⟩:=y;have hC:∀(x:AE)(W:World),x=E1->Below w.heap.size w W->Calls prog 216 #[.string x,.string t] W fun e w'=>e=.returned (.tuple #[.string ⟨(Lib.cut E1.data.toList t.data.toList).1.toArray⟩,.string ⟨(Lib.cut E1.data.toList t.data.toList).2.1.toArray⟩,.bool (Lib.cut E1.data.toList t.data.toList).2.2])/\Below W.heap.size W w':=fun x W hx hW=>by rw[hx];exact aC E1 t W (by rw[Ly];omega) (hG.below hW)
 have hsz:(Lib.cut E1.data.toList t.data.toList).1.length<=77:=by have:=YO E1.data.toList t.data.toList;rw[aA,Ly]at this;exact this
 have hb4:k=4->∃c∈Ar,t=BU (BW ((c:Nat):Int)):=fun e=>by
  rcases hy with(⟨h,_⟩|h|⟨h,_⟩|⟨_,hc⟩)|h
  .exact absurd (h.symm.trans e) (by decide)
  .exact absurd (h.symm.trans e) (by decide)
  .exact absurd (h.symm.trans e) (by decide)
  .exact hc
  .exact absurd (h.symm.trans e) (by decide)
 have HP:Hid (k≠4->Bd (JS ⟨k,n,t,pl⟩)=0):=fun hk=>by
  refine PM ?_;unfold JS;dsimp only;split
  .omega
  .split
   .omega
   .split
    .split<;>omega
    .first|omega|(rw[AG hk];omega)
 have HP4:Hid (k=4->(Lib.cut E1.data.toList t.data.toList).2.2=decide (0<Bd (JS ⟨k,n,t,pl⟩))/\(0<Bd (JS ⟨k,n,t,pl⟩)->Lib.runeCount ⟨(Lib.cut E1.data.toList t.data.toList).1.toArray⟩+1=Bd (JS ⟨k,n,t,pl⟩))):=fun e=>by
  obtain⟨c,hc,rfl⟩:=hb4 e;have e2:JS ⟨k,n,BU (BW ((c:Nat):Int)),pl⟩=c:=by unfold JS;dsimp only;rw[e,AG (by decide),AG (by decide),AG (by decide),AL rfl,FD hc]
  rw[e2];exact cQ hc
 obtain⟨N,hN⟩:∃N,Bd (JS ⟨k,n,t,pl⟩)=N:=⟨_,rfl⟩
 rw[hN]at HP HP4 ⊢;obtain⟨u1,hu1⟩:∃u,(Lib.cut E1.data.toList t.data.toList).1=u:=⟨_,rfl⟩
 obtain⟨u2,hu2⟩:∃u,(Lib.cut E1.data.toList t.data.toList).2.1=u:=⟨_,rfl⟩
 obtain⟨fd,hfd⟩:∃u,(Lib.cut E1.data.toList t.data.toList).2.2=u:=⟨_,rfl⟩
 rw[hu1,hu2,hfd]at hC;rw[hu1,hfd]at HP4;rw[hu1]at hsz;have HC:=AB hC;have HR:=AB (fun W=>UV ⟨u1.toArray⟩ W (by show u1.toArray.size<_;simp;omega));obtain⟨rc,hrc⟩:∃r,Lib.runeCount ⟨u1.toArray⟩=r:=⟨_,rfl⟩
 have hrb:rc<=77:=by
  have h1:=Lib.runeCount_le (⟨u1.toArray⟩:AE);rw[hrc]at h1;have h2:(⟨u1.toArray⟩:AE).size=u1.length:=by show u1.toArray.size=_;simp
  omega
 have hwr:IntKind.i64.wrap ((rc:Int)+1)=(rc:Int)+1:=by rw[IntKind.wrap_i64];omega
 rw[hrc]at HR HP4;clear hC hb4 hy hG hN hu1 hu2 hfd hsz hrc;unfold Bi;by_cases h4:k=4;case neg=>
  have hd:(k !=4)=true:=by simpa using h4
  have hN0:=AA HP h4;subst hN0;clear HP4 h4 HP;go_enter func193,ntmps193;go_wp2_with(go_at_call 216;refine(AA HC _ _ (by kernel_rfl) (AI.alloc AC _)).mono ?_;rintro e w5⟨rfl,hb5⟩;have q0:=(hb5.cell (p:=⟨w.heap.size,0,none⟩) (by simp)).trans (show _=some (Value.int .i64 k) by simp);have HB5:=AB ((AI.alloc AC _:Below w.heap.size w _).trans (hb5.mono (by simp)));clear hb5);go_ret;exact⟨rfl,AA HB5⟩
 case pos=>
  subst h4;obtain⟨g1,g2⟩:=AA HP4 rfl;clear HP HP4;by_cases hp:0<N;case neg=>
   have hN0:N=0:=by omega
   subst hN0;have hf:fd=false:=by rw[g1];rfl
   subst hf;clear g1 g2 hp;go_enter func193,ntmps193;go_wp2_with(go_at_call 216;refine(AA HC _ _ (by kernel_rfl) (AI.alloc AC _)).mono ?_;rintro e w5⟨rfl,hb5⟩;have q0:=(hb5.cell (p:=⟨w.heap.size,0,none⟩) (by simp)).trans (show _=some (Value.int .i64 4) by simp);have HB5:=AB ((AI.alloc AC _:Below w.heap.size w _).trans (hb5.mono (by simp)));clear hb5);go_ret;exact⟨rfl,AA HB5⟩
  case pos=>
   have hf:fd=true:=by rw[g1];exact AK hp
   subst hf;have hN1:=g2 hp;subst hN1;clear g1 g2 hp;go_enter func193,ntmps193;go_wp2_with(first|(go_at_call 216;refine(AA HC _ _ (by kernel_rfl) (AI.alloc AC _)).mono ?_;rintro e w5⟨rfl,hb5⟩;have q0:=(hb5.cell (p:=⟨w.heap.size,0,none⟩) (by simp)).trans (show _=some (Value.int .i64 4) by simp);have HB5:=AB ((AI.alloc AC _:Below w.heap.size w _).trans (hb5.mono (by simp)));clear hb5)|(go_at_call 202;refine(AA HR _).mono ?_;rintro e w6⟨rfl,hb6⟩;have HB6:=AB ((AA HB5).trans (hb6.mono (AA HB5).size));clear hb6));go_ret;refine⟨?_,AA HB6⟩;first|rfl|(simp;done)|(simp[Act.eval];done)
structure BR(Z:World)(ta:Option Addr)(tn:Nat)(ts:List CO)(AJ:Nat):Prop where
 row:Ht Z ta tn ts
 ok:∀y∈ts,F0 y
 few:tn<=4096
 room:AJ<=4096
 gl:Dg Z
 err:∃t a,Z.cell? ⟨1,0,none⟩=some (.iface t (.pointer (some a)))
abbrev Dl(Z:World)(p:Nat)(ta:Option Addr)(tn tc AJ:Nat):World->Nat->Value->List AW->Prop:=PS 88 Z p (.slice ta tn tc) (.int .i64 (AJ:Nat))
def Kb{ts:List CO}(h:∀y∈ts,F0 y)(AJ i:Nat):F0 (Al ts AJ i)\/(Al ts AJ i).k=0:=by
 by_cases hi:i<ts.length
 .have e:Al ts AJ i=ts[i]:=by unfold Al;simp[List.getD_eq_getElem?_getD,hi]
  rw[e];exact .inl (h _ (By _))
 .right;unfold Al;rw[AP,CU (by omega)];rfl
def Kc{ts:List CO}(AJ i:Nat):JS (Al ts AJ i)=(AF ts).cl i:=by
 show _=if i<ts.length then JS (Al ts 0 i)else 0
 by_cases hi:i<ts.length
 .rw[AL hi];have e:∀b,Al ts b i=ts[i]:=fun b=>by unfold Al;simp[List.getD_eq_getElem?_getD,hi]
  rw[e,e]
 .rw[AG hi];unfold Al;rw[AP,CU (by omega)];rfl
def Ht.belowP{w w':World}{a:Option Addr}{n:Nat}{ts:List CO}(h:Ht w a n ts)(hb:Below w.heap.size w w'):Ht w' a n ts:=by
 refine⟨h.len,?_⟩;rcases h.at_ with h0|⟨b,off,rfl,hlt,hc⟩
 .exact .inl h0
 .exact .inr ⟨b,off,rfl,AX hlt hb.size,fun i hi=>(hb.cell (p:=⟨b,off+i,none⟩) hlt).trans (hc i hi)⟩
section
variable {Z:World}{ta:Option Addr}{tn:Nat}{ts:List CO}{AJ:Nat}(E:BR Z ta tn ts AJ){p tc:Nat}{w:World}{i:Nat}{nd:Value}{xs:List AW}
def Bj(E:BR Z ta tn ts AJ)(h:Dl Z p ta tn tc AJ w i nd xs)(hi:i<=4200){W:World}(hW:Below w.heap.size w W)(c:Nat)(hc:c<=4200):Calls prog 158 #[.pointer (some ⟨p,0,none⟩),.int .i64 (c:Nat)] W fun e w'=>e=.returned (Bi (Al ts AJ (i+c)))/\Below W.heap.size W w':=by have h':=h.below hW;obtain⟨p0,p1,p2,p3,f0,f1,f2,f3,hpl⟩:=h'.all;exact Vj W p tn tc i c AJ ta ts (E.row.belowP h'.low) p0 p1 p2 hpl (by omega)
def WI(E:BR Z ta tn ts AJ)(q:Nat){c:Nat}(hc:c∈Ar){s:AE}(hs:s=BU (BW ((c:Nat):Int)))(w:World):Calls prog 159 #[Bi (Al ts AJ q),.string s] w fun e w'=>e=.returned (.bool (decide ((AF ts).cl q=c)))/\Below w.heap.size w w':=by have:=Sb (Al ts AJ q).k (Al ts AJ q).n ((Al ts AJ q).p:Nat) (Al ts AJ q).t s (decide ((AF ts).cl q=c)) (by rw[hs];exact Jf E.ok AJ q hc) w;exact this
def GL(E:BR Z ta tn ts AJ){q:Nat}{yk yn:Int}{yt:AE}{yp:Nat}(hy:Al ts AJ q=⟨yk,yn,yt,yp⟩){c:Nat}(hc:c∈Ar){s:AE}(hs:s=BU (BW ((c:Nat):Int))){r:Bool}(hr:decide ((AF ts).cl q=c)=r)(V:World):Calls prog 159 #[.agg #[.int .i64 yk,.int .i64 yn,.string yt,.int .i64 (yp:Nat)],.string s] V fun e w'=>e=.returned (.bool r)/\Below V.heap.size V w':=by have:=WI E q hc hs V;rw[hy,hr]at this;exact this
def NL(E:BR Z ta tn ts AJ)(h:Dl Z p ta tn tc AJ w i nd xs)(hi:i<=4200){c:Nat}(hc:c∈Ar){s:AE}(hs:s=BU (BW ((c:Nat):Int))):Calls prog 191 #[.pointer (some ⟨p,0,none⟩),.string s] w fun e w'=>e=.returned (.bool (decide ((AF ts).cl i=c)))/\Below w.heap.size w w':=by have HA:=AB (Bj E h hi AI 0 (by omega));have HS:=AB (fun W=>WI E (i+0) hc hs W);rw[Ad]at HA HS;clear hs hc h;go_enter func191,ntmps191;go_wp2_with(first|(go_at_call 158;refine(AA HA).mono ?_;rintro e w5⟨rfl,hb5⟩;have HB5:=AB hb5;clear hb5)|(go_at_call 159;refine(AA HS _).mono ?_;rintro e w6⟨rfl,hb6⟩;have HB6:=AB ((AA HB5).trans (hb6.mono (AA HB5).size));clear hb6));go_ret;exact⟨rfl,AA HB6⟩
end
def Bt(b:Nat):Value:=.iface 90 (.pointer (some ⟨b,0,none⟩))
def EK(w:World)(b q:Nat):Prop:=∃ev,w.heap[b]? =some (.cells #[.int .i64 (q:Nat),ev] 94 (0,0))
section
variable {Z:World}{ta:Option Addr}{tn:Nat}{ts:List CO}{AJ:Nat}{p tc:Nat}{w:World}{i:Nat}{nd:Value}{xs:List AW}
def V5(E:BR Z ta tn ts AJ)(h:Dl Z p ta tn tc AJ w i nd xs)(hi:i<=4200){c:Nat}(hc:c∈Ar){s:AE}(hs:s=BU (BW ((c:Nat):Int))):Calls prog 157 #[.pointer (some ⟨p,0,none⟩),.string s] w fun e w'=>e=.returned (.bool (decide ((AF ts).cl i=c)))/\Dl Z p ta tn tc AJ w' (if(AF ts).cl i=c then i+1 else i) nd xs/\Gc p nd w w':=by
 have HA:=AB (NL E h hi hc hs);have H:=AB h;clear hs h hc;by_cases hy:(AF ts).cl i=c;case pos=>
  rw[AK hy]at HA ⊢;rw[AL hy];have hw1:IntKind.i64.wrap ((i:Int)+1)=(i:Int)+1:=by rw[IntKind.wrap_i64];omega
  clear hy;go_enter func157,ntmps157;go_wp2_with(go_at_call 191;refine(AA HA).mono ?_;rintro e w5⟨rfl,hb5⟩;have h5:=(AA H).below hb5;obtain⟨p0,p1,p2,p3,f0,f1,f2,f3,hpl⟩:=h5.all;have H5:=AB h5;have HB5:=AB hb5;clear hb5 h5);go_ret;have hs:=(AA H5).setAt (i+1);have e:((i+1:Nat):Int)=(i:Int)+1:=by omega
  rw[e]at hs;exact⟨rfl,hs.1,(Gc.of_below (AA HB5)).trans (.inl rfl) hs.2⟩
 case neg=>
  rw[AD hy]at HA ⊢;rw[AG hy];clear hy;go_enter func157,ntmps157;go_wp2_with(go_at_call 191;refine(AA HA).mono ?_;rintro e w5⟨rfl,hb5⟩;have H5:=AB ((AA H).below hb5);have HB5:=AB hb5;clear hb5);go_ret;exact⟨rfl,AA H5,Gc.of_below (AA HB5)⟩
def PH(E:BR Z ta tn ts AJ)(h:Dl Z p ta tn tc AJ w i nd xs)(hi:i<=4200):Calls prog 103 #[.pointer (some ⟨p,0,none⟩)] w fun e w'=>∃b,e=.returned (Bt b)/\EK w' b (Al ts AJ i).p/\w.heap.size<=b/\Below w.heap.size w w':=by
 have HA:=AB (fun W hW=>Bj E h hi (W:=W) hW 0 (by omega));rw[Ad]at HA;obtain⟨et,ea,hev⟩:=E.err;have hgl:1<Z.heap.size:=Cb Z _ hev;have HE:Hid (∀W,Below w.heap.size w W->W.cell? ⟨1,0,none⟩=some (.iface et (.pointer (some ea)))):=fun W hW=>((h.low.trans (hW.mono h.low.size)).cell (p:=⟨1,0,none⟩) hgl).trans hev;have he0:=AA HE w AI;obtain⟨y,hy⟩:∃y,Al ts AJ i=y:=⟨_,rfl⟩
 rw[hy]at HA ⊢;obtain⟨yk,yn,yt,yp⟩:=y;unfold Bi at HA;have hfl:∀W,(Instr.field 64 (.agg #[.int .i64 yk,.int .i64 yn,.string yt,.int .i64 (yp:Nat)]) 3).run prog W=.ok (.int .i64 (yp:Nat)) W:=fun W=>by kernel_rfl
 clear hev h hy;go_enter func103,ntmps103;go_wp2_with fail;go_region_with(go_at_call 158;refine(AA HA _ AI.drew).mono ?_;rintro e w5⟨rfl,hb5⟩;have he5:=AA HE _ (AI.drew.trans hb5);have HB5:Hid (Below w.heap.size w w5):=AI.drew.trans hb5;clear hb5);all_goals go_wp2_with fail
 all_goals go_ret
 all_goals exact⟨w5.heap.size,rfl,⟨.iface et (.pointer (some ea)),(by show(w5.heap.push _)[w5.heap.size]? =_;simp)⟩,(AA HB5).size,(AA HB5).alloc (AA HB5).size _⟩
def ab(E:BR Z ta tn ts AJ)(h:Dl Z p ta tn tc AJ w i nd xs)(hi:i<=4200){c:Nat}(hc:c∈Ar){s:AE}(hs:s=BU (BW ((c:Nat):Int))):Calls prog 195 #[.pointer (some ⟨p,0,none⟩),.string s] w fun e w'=>
   ((AF ts).cl i=c/\e=.returned .nilIface/\Dl Z p ta tn tc AJ w' (i+1) nd xs/\Gc p nd w w')\/
   ((AF ts).cl i≠c/\∃b,e=.returned (Bt b)/\EK w' b (Al ts AJ i).p/\Below Z.heap.size Z w'):=by
 have HA:=AB (V5 E h hi hc hs);have HE:=AB E;clear hs hc h;by_cases hy:(AF ts).cl i=c;case pos=>
  rw[AK hy,AL hy]at HA;go_enter func195,ntmps195;go_wp2_with(go_at_call 157;refine(AA HA).mono ?_;rintro e w5⟨rfl,h5,hb5⟩;have H5:=AB h5;have HB5:=AB hb5;clear hb5 h5);go_ret;exact .inl ⟨hy,rfl,AA H5,AA HB5⟩
 case neg=>
  rw[AD hy,AG hy]at HA;go_enter func195,ntmps195;go_wp2_with(first|(go_at_call 157;refine(AA HA).mono ?_;rintro e w5⟨rfl,h5,hb5⟩;have H5:=AB h5;clear hb5 h5)|(go_at_call 103;refine(PH (AA HE) (AA H5) hi).mono ?_;rintro e w6⟨b,rfl,hf,hbb,hb6⟩;have HF:=AB hf;have HB6:=AB ((AA H5).low.trans (hb6.mono (AA H5).low.size));clear hf hbb hb6));go_ret;exact .inr ⟨hy,b,rfl,AA HF,AA HB6⟩
end
section
variable {T:TypeId}{Z w w1:World}{p i:Nat}{v0 v2 nd:Value}{xs:List AW}
def PS.but(h:PS T Z p v0 v2 w i nd xs){S:Nat->Prop}(hb:EF S w w1)(hS:∀k,S k->Z.heap.size<=k/\k≠p/\nd.ownBlock≠some k/\k∉Bm xs):PS T Z p v0 v2 w1 i nd xs:=by
 have kI:∀ {v:Value}{l:List Int},Dk w Z.heap.size v l->(∀b,v.ownBlock=some b->b∈Bm xs)->Dk w1 Z.heap.size v l:=fun {v l}ho hm=>by refine BP ho fun g hg=> ?_;obtain⟨cur,hh,_⟩:=Ag ho hg;exact hb.block g (lt_of_block hh) (fun e=>(hS g e).2.2.2 (hm g hg))
 refine⟨(hb.block p (lt_of_block h.box) (fun e=>(hS p e).2.1 rfl)).trans h.box,BP h.own fun g hg=> ?_,fun x hx=>⟨kI (h.lists x hx).1 fun b hb'=> ?_,kI (h.lists x hx).2 fun b hb'=> ?_⟩,h.apart,?_,h.hp,h.ty⟩
 .obtain⟨cur,hh,_⟩:=Ag h.own hg;exact hb.block g (lt_of_block hh) (fun e=>(hS g e).2.2.1 hg)
 .unfold Bm;exact CE.2 ⟨x,hx,by unfold AW.blks;rw[hb'];simp⟩
 .unfold Bm;exact CE.2 ⟨x,hx,by unfold AW.blks;rw[hb'];simp⟩
 .exact h.low.trans (hb.below h.low.size (fun k hk=>(hS k hk).1))
def PS.blkLt(h:PS T Z p v0 v2 w i nd xs){b:Nat}(hb:b∈Bm xs):b<w.heap.size/\Z.heap.size<=b:=by
 unfold Bm at hb;obtain⟨x,hx,hb⟩:=CE.1 hb;unfold AW.blks at hb;rcases Ak.1 hb with h'|h'
 .obtain⟨cur,hh,hB⟩:=Ag (h.lists x hx).1 (by simpa[Option.mem_toList]using h');exact⟨lt_of_block hh,hB⟩
 .obtain⟨cur,hh,hB⟩:=Ag (h.lists x hx).2 (by simpa[Option.mem_toList]using h');exact⟨lt_of_block hh,hB⟩
def PS.ndLt(h:PS T Z p v0 v2 w i nd xs){b:Nat}(hb:nd.ownBlock=some b):b<w.heap.size:=by obtain⟨cur,hh,_⟩:=Ag h.own hb;exact lt_of_block hh
end
structure BE(T:TypeId)(Z:World)(p:Nat)(v0 v2:Value)(w0:World)(nd0:Value)(xs ys:List AW)(i:Nat)(w:World)(nd:Value):Prop where
 ps:PS T Z p v0 v2 w i nd (xs++ys)
 but:Gc p nd0 w0 w
 at_:nd.ownBlock=nd0.ownBlock\/∀b,nd.ownBlock=some b->w0.heap.size<=b
 new:∀b∈Bm ys,w0.heap.size<=b
section
variable {T:TypeId}{Z w w0 w1:World}{p i j:Nat}{v0 v2 nd nd0 nd1:Value}{xs ys zs:List AW}
def BE.start(h:PS T Z p v0 v2 w i nd xs):BE T Z p v0 v2 w nd xs [] i w nd:=⟨by rw[A6];exact h,Gc.refl _ _ _,.inl rfl,fun b hb=>by simp[Bm]at hb⟩
def BE.below(h:BE T Z p v0 v2 w0 nd0 xs ys i w nd)(hb:Below w.heap.size w w1):BE T Z p v0 v2 w0 nd0 xs ys i w1 nd:=⟨h.ps.below hb,h.but.trans h.at_ (Gc.of_below hb),h.at_,h.new⟩
def BE.move(h:BE T Z p v0 v2 w0 nd0 xs ys i w nd)(hs:PS T Z p v0 v2 w1 j nd (xs++ys))(hb:Gc p nd w w1):BE T Z p v0 v2 w0 nd0 xs ys j w1 nd:=⟨hs,h.but.trans h.at_ hb,h.at_,h.new⟩
def BE.go(h:BE T Z p v0 v2 w0 nd0 xs ys i w nd)(hm:BE T Z p v0 v2 w nd (xs++ys) zs j w1 nd1):BE T Z p v0 v2 w0 nd0 xs (ys++zs) j w1 nd1:=by
 have hz:=h.but.size;refine⟨by rw[<-Aj];exact hm.ps,h.but.trans h.at_ hm.but,?_,fun b hb=> ?_⟩
 .rcases hm.at_ with hn|hn
  .rcases h.at_ with h'|h'
   .exact .inl (hn.trans h')
   .exact .inr fun b e=>h' b (hn▸e)
  .exact .inr fun b e=>by have:=hn b e;omega
 .rw[DE]at hb;rcases Ak.1 hb with h'|h'
  .exact h.new b h'
  .have:=hm.new b h';omega
def BE.but_(h:BE T Z p v0 v2 w0 nd0 xs ys i w nd){S:Nat->Prop}(hb:EF S w w1)(hS:∀k,S k->w0.heap.size<=k/\Z.heap.size<=k/\k≠p/\nd.ownBlock≠some k/\k∉Bm (xs++ys)):BE T Z p v0 v2 w0 nd0 xs ys i w1 nd:=by have hz:=h.but.size;refine⟨h.ps.but hb fun k hk=>(hS k hk).2,?_,h.at_,h.new⟩;refine⟨hb.os.trans h.but.os,hb.tape.trans h.but.tape,hb.output.trans h.but.output,Aw hz hb.size,fun k hk hn=> ?_⟩;exact(hb.block k (by omega) (fun e=>by have:=(hS k e).1;omega)).trans (h.but.block k hk hn)
def BE.put(h:BE T Z p v0 v2 w0 nd0 xs ys i w nd){x:AW}(hs:PS T Z p v0 v2 w1 i nd1 ((xs++ys)++ [x]))(hb:Gc p nd w w1)(ha:nd1.ownBlock=nd.ownBlock\/∀b,nd1.ownBlock=some b->w.heap.size<=b)(hn:∀b∈x.blks,w0.heap.size<=b):BE T Z p v0 v2 w0 nd0 xs (ys++ [x]) i w1 nd1:=by
 have hz:=h.but.size;refine⟨by rw[<-Aj];exact hs,h.but.trans h.at_ hb,?_,fun b hb'=> ?_⟩
 .rcases ha with ha|ha
  .rcases h.at_ with h'|h'
   .exact .inl (ha.trans h')
   .exact .inr fun b e=>h' b (ha▸e)
  .exact .inr fun b e=>by have:=ha b e;omega
 .rw[DE]at hb';rcases Ak.1 hb' with h'|h'
  .exact h.new b h'
  .exact hn b (by simpa[Bm]using h')
end
abbrev Be(Z:World)(p:Nat)(ta:Option Addr)(tn tc AJ:Nat):World->Value->List AW->List AW->Nat->World->Value->Prop:=BE 88 Z p (.slice ta tn tc) (.int .i64 (AJ:Nat))
def BK(Z:World)(p:Nat)(ta:Option Addr)(tn tc:Nat)(ts:List CO)(AJ:Nat)(w0:World)(nd0:Value)(xs:List AW)(r:B1)(e:Ending)(w':World):Prop:=(r.1=true/\∃ys nd' z,e=.returned (.tuple #[.int .i64 z,.nilIface])/\z=((xs.length+(Az r.2.2).length:Nat):Int)- 1/\Be Z p ta tn tc AJ w0 nd0 xs ys r.2.1 w' nd'/\ys.map AW.d=B0 xs.length (Az r.2.2))\/(r.1=false/\∃b z,e=.returned (.tuple #[.int .i64 z,Bt b])/\EK w' b (Al ts AJ r.2.1).p/\Below Z.heap.size Z w')
def BS(Z:World)(p:Nat)(ta:Option Addr)(tn tc:Nat)(ts:List CO)(AJ:Nat)(f:Nat)(args:Array Value)(i:Nat)(r:B1):Prop:=∀w nd xs,PS 88 Z p (.slice ta tn tc) (.int .i64 (AJ:Nat)) w i nd xs->xs.length+4*(5000- i)<=100000->Calls prog f args w (BK Z p ta tn tc ts AJ w nd xs r)
section
variable {Z w w0 w1:World}{p i:Nat}{nd nd0:Value}{xs ys:List AW}{ta:Option Addr}{tn tc AJ:Nat}{ts:List CO}
def Ed(w:World)(B:Nat):Dk w B (.slice none 0 0) []:=⟨rfl,.inl ⟨rfl,rfl⟩⟩
def bS(hm:Be Z p ta tn tc AJ w0 nd0 xs ys i w nd)(k n m:Int)(s:AE)(nums:List Int)(ls:List (List AM))(hy:ys.map AW.d=B0 xs.length (Az ls))(s1 s2:Option Addr)(n1 c1 n2 c2:Nat)(h1:Dk w Z.heap.size (.slice s1 n1 c1) nums)(h2:Dk w Z.heap.size (.slice s2 n2 c2) (BB xs.length ls))(hf:∀b∈(Value.slice s1 n1 c1).ownBlock.toList++(Value.slice s2 n2 c2).ownBlock.toList,w0.heap.size<=b/\b∉Bm (xs++ys))(hnd:((Value.slice s1 n1 c1).ownBlock.toList++(Value.slice s2 n2 c2).ownBlock.toList).Nodup)(Ae:xs.length+(Az ls).length<=1048576):Calls prog 104 #[.pointer (some ⟨p,0,none⟩),.agg #[.int .i64 k,.int .i64 n,.int .i64 m,.string s,.slice s1 n1 c1,.slice s2 n2 c2]] w fun e w'=>e=.returned (.int .i64 ((xs.length+(Az ls).length:Nat)))/\∃ys' nd',Be Z p ta tn tc AJ w0 nd0 xs ys' i w' nd'/\ys'.map AW.d=B0 xs.length (Ay k n m s nums ls):=by
 have hl:ys.length=(Az ls).length:=by have:=AV List.length hy;rw[AS,FE]at this;exact this
 refine(eU Z p _ _ w i nd (xs++ys) hm.ps k n m s nums (BB xs.length ls) s1 s2 n1 c1 n2 c2 ⟨h1,h2⟩ (fun b hb=>(hf b hb).2) hnd (by rw[AH,hl];exact Ae)).mono ?_;rintro e w'⟨rfl,nd',hs,hb,ha⟩;refine⟨by rw[AH,hl],_,nd',hm.put hs hb ha (fun b hb=>(hf b hb).1),?_⟩;rw[Ao,hy,Ma];rfl
def Eb(hm:Be Z p ta tn tc AJ w0 nd0 xs [] i w nd)(k n m:Int)(s:AE)(Ae:xs.length<=1048576):Calls prog 104 #[.pointer (some ⟨p,0,none⟩),.agg #[.int .i64 k,.int .i64 n,.int .i64 m,.string s,.slice none 0 0,.slice none 0 0]] w fun e w'=>e=.returned (.int .i64 (xs.length:Nat))/\∃ys' nd',Be Z p ta tn tc AJ w0 nd0 xs ys' i w' nd'/\ys'.map AW.d=B0 xs.length (Ay k n m s [] []):=bS hm k n m s [] [] rfl none none 0 0 0 0 (Ed _ _) (Ed _ _) (fun b hb=>by simp[Value.ownBlock]at hb) (by simp[Value.ownBlock]) Ae
def DM{e:Ending}{q:Nat}(k n m:Int)(s:AE){nd':Value}(hv:e=.returned (.tuple #[.int .i64 (xs.length:Nat),.nilIface]))(hm:Be Z p ta tn tc AJ w0 nd0 xs ys q w nd')(hd:ys.map AW.d=B0 xs.length (Ay k n m s [] [])):BK Z p ta tn tc ts AJ w0 nd0 xs (true,q,[Ay k n m s [] []]) e w:=by
 have e1:Az [Ay k n m s [] []]=Ay k n m s [] []:=IR _;have e2:(Ay k n m s [] []).length=1:=by rw[CN];rfl
 refine .inl ⟨rfl,ys,nd',_,hv,?_,hm,?_⟩
 .show _=((xs.length+(Az [Ay k n m s [] []]).length:Nat):Int)- 1;rw[e1,e2];omega
 .show _=B0 xs.length (Az [Ay k n m s [] []]);rw[e1];exact hd
end
def ZJ(c:Nat):(IT ((Bd c:Nat):Int)=true/\Ah c=Bd c)\/(IT ((Bd c:Nat):Int)=false/\Ah c=0):=by
 unfold IT Ah;by_cases h:Bd c<=16
 .rw[AL h];by_cases h0:Bd c=0
  .exact .inr ⟨AD (by omega),h0⟩
  .exact .inl ⟨AK (by omega),rfl⟩
 .rw[AG h];exact .inr ⟨AD (by omega),rfl⟩
def R8(y:CO)(hy:F0 y\/y.k=0)(w:World)(hG:Vq w):Calls prog 162 #[Bi y] w fun e w'=>e=.returned (.int .i64 (Ah (JS y):Nat))/\Below w.heap.size w w':=by
 have HP:Hid (∀W,Below w.heap.size w W->Calls prog 193 #[Bi y] W fun e w'=>e=.returned (.int .i64 (Bd (JS y):Nat))/\Below W.heap.size W w'):=fun W hW=>Mw y hy W (hG.below hW);have hs:=ZJ (JS y);obtain⟨N,hN⟩:∃N,Bd (JS y)=N:=⟨_,rfl⟩
 obtain⟨M,hM⟩:∃N,Ah (JS y)=N:=⟨_,rfl⟩
 rw[hN,hM]at hs;rw[hN]at HP;rw[hM];obtain⟨yk,yn,yt,yp⟩:=y;unfold Bi at HP ⊢;clear hN hM hy hG;rcases hs with⟨h1,rfl⟩|⟨h1,rfl⟩;all_goals
  have HC:=AB (fun v=>US _ _ h1 v);clear h1;go_enter func162,ntmps162;go_wp2_with(first|(go_at_call 193;refine(AA HP _ (AI.alloc AC _)).mono ?_;rintro e w5⟨rfl,hb5⟩;have HB5:=AB ((AI.alloc AC _:Below w.heap.size w _).trans (hb5.mono (by simp)));clear hb5)|(go_at_call 62;refine(AA HC _).mono ?_;rintro e w6⟨rfl,rfl⟩));go_ret;exact⟨rfl,AA HB5⟩
section
variable {Z:World}{ta:Option Addr}{tn:Nat}{ts:List CO}{AJ:Nat}{p tc:Nat}{w:World}{i:Nat}{nd:Value}{xs:List AW}
def IQ(E:BR Z ta tn ts AJ)(q:Nat){W:World}(hW:Below Z.heap.size Z W):Calls prog 162 #[Bi (Al ts AJ q)] W fun e w'=>e=.returned (.int .i64 (Ah ((AF ts).cl q):Nat))/\Below W.heap.size W w':=by have:=R8 (Al ts AJ q) (Kb E.ok AJ q) W (E.gl.1.below hW);rw[Kc]at this;exact this
def Mv(E:BR Z ta tn ts AJ)(q:Nat){W:World}(hW:Below Z.heap.size Z W):Calls prog 193 #[Bi (Al ts AJ q)] W fun e w'=>e=.returned (.int .i64 (Bd ((AF ts).cl q):Nat))/\Below W.heap.size W w':=by have:=Mw (Al ts AJ q) (Kb E.ok AJ q) W (E.gl.1.below hW);rw[Kc]at this;exact this
def RL{y:CO}(hy:F0 y\/y.k=0):(y.k=3->0<y.t.size)/\(decide (y.k=3)&&decide (bt y.t 0<=90))=decide (JS y=4)/\(decide (y.k=3)&&decide (97<=bt y.t 0))=decide (JS y=3):=by
 unfold JS;rcases hy with(⟨h,_⟩|h|⟨h,hs,hl⟩|⟨h,c,hc,ht⟩)|h
 .simp[h]
 .simp[h]
 .refine⟨fun _=>hs,?_,?_⟩
  .rw[h];simp
  .rw[h];simp;omega
 .have hge:40<=c:=AT (Ax.mp If c hc);have e:=FD hc;rw[<-ht]at e;simp[h,e];omega
 .simp[h]
def GP(E:BR Z ta tn ts AJ)(q:Nat)(W:World):Calls prog 61 #[Bi (Al ts AJ q)] W fun e w'=>e=.returned (.bool (decide ((AF ts).cl q=4)))/\Below W.heap.size W w':=by obtain⟨h1,h2,_⟩:=RL (Kb E.ok AJ q);rw[Kc]at h2;exact Qr _ _ _ _ _ h1 h2 W
def Kw(E:BR Z ta tn ts AJ)(q:Nat)(W:World):Calls prog 60 #[Bi (Al ts AJ q)] W fun e w'=>e=.returned (.bool (decide ((AF ts).cl q=3)))/\Below W.heap.size W w':=by obtain⟨h1,_,h2⟩:=RL (Kb E.ok AJ q);rw[Kc]at h2;exact Se _ _ _ _ _ h1 h2 W
def TN(E:BR Z ta tn ts AJ)(h:Dl Z p ta tn tc AJ w i nd xs)(hi:i<=4200):Calls prog 241 #[.pointer (some ⟨p,0,none⟩)] w fun e w'=>
   (0<Ah ((AF ts).cl i)/\e=.returned (.tuple #[.int .i64 (Ah ((AF ts).cl i):Nat),.nilIface])/\Dl Z p ta tn tc AJ w' (i+1) nd xs/\Gc p nd w w')\/
   (Ah ((AF ts).cl i)=0/\∃b,e=.returned (.tuple #[.int .i64 0,Bt b])/\EK w' b (Al ts AJ i).p/\Below Z.heap.size Z w'):=by
 have HA:=AB (fun W hW=>Bj E h hi (W:=W) hW 0 (by omega));rw[Ad]at HA;have HS:=AB (fun W hW=>IQ E i (W:=W) hW);have HE:=AB E;have H:=AB h;obtain⟨y,hy⟩:∃y,Bi (Al ts AJ i)=y:=⟨_,rfl⟩
 rw[hy]at HA HS;clear hy;obtain⟨N,hN⟩:∃N,Ah ((AF ts).cl i)=N:=⟨_,rfl⟩
 rw[hN]at HS ⊢;clear hN h;by_cases h0:N=0;case pos=>
  subst h0;go_enter func241,ntmps241;go_wp2_with(first|(go_at_call 158;refine(AA HA _ AI).mono ?_;rintro e w5⟨rfl,hb5⟩;have H5:=AB ((AA H).below hb5);clear hb5)|(go_at_call 162;refine(AA HS _ (AA H5).low).mono ?_;rintro e w6⟨rfl,hb6⟩;have H6:=AB ((AA H5).below hb6);clear hb6)|(go_at_call 103;refine(PH (AA HE) (AA H6) hi).mono ?_;rintro e w7⟨b,rfl,hf,hbb,hb7⟩;have HF:=AB hf;have HB7:=AB ((AA H6).low.trans (hb7.mono (AA H6).low.size));clear hf hbb hb7));go_ret2;exact .inr ⟨trivial,b,rfl,AA HF,AA HB7⟩
 case neg=>
  have hd:(((N:Nat):Int)==0)=false:=by simpa using h0
  have hw1:IntKind.i64.wrap ((i:Int)+1)=(i:Int)+1:=by rw[IntKind.wrap_i64];omega
  have HN:Hid (0<N):=Nat.pos_of_ne_zero h0;clear h0;go_enter func241,ntmps241;go_wp2_with(first|(go_at_call 158;refine(AA HA _ AI).mono ?_;rintro e w5⟨rfl,hb5⟩;have H5:=AB ((AA H).below hb5);have HB5:=AB hb5;clear hb5)|(go_at_call 162;refine(AA HS _ (AA H5).low).mono ?_;rintro e w6⟨rfl,hb6⟩;have h6:=(AA H5).below hb6;obtain⟨p0,p1,p2,p3,f0,f1,f2,f3,hpl⟩:=h6.all;have H6:=AB h6;have HB6:=AB ((AA HB5).trans (hb6.mono (AA HB5).size));clear hb6 h6));go_ret2;have hs:=(AA H6).setAt (i+1);have e:((i+1:Nat):Int)=(i:Int)+1:=by omega
  rw[e]at hs;exact .inl ⟨AA HN,rfl,hs.1,(Gc.of_below (AA HB6)).trans (.inl rfl) hs.2⟩
end
section
variable {Z w w0:World}{p i:Nat}{nd nd0:Value}{xs ys:List AW}{ta:Option Addr}{tn tc AJ:Nat}{ts:List CO}
def Lg(E:BR Z ta tn ts AJ)(hm:Be Z p ta tn tc AJ w0 nd0 xs ys i w nd)(hi:i<=4200){c:Nat}(hc:c∈Ar){s:AE}(hs:s=BU (BW ((c:Nat):Int)))(h:(AF ts).cl i=c):Calls prog 191 #[.pointer (some ⟨p,0,none⟩),.string s] w fun e w'=>e=.returned (.bool true)/\Be Z p ta tn tc AJ w0 nd0 xs ys i w' nd:=by refine(NL E hm.ps hi hc hs).mono ?_;rintro e w'⟨rfl,hb⟩;exact⟨by rw[AK h],hm.below hb⟩
def L2(E:BR Z ta tn ts AJ)(hm:Be Z p ta tn tc AJ w0 nd0 xs ys i w nd)(hi:i<=4200){c:Nat}(hc:c∈Ar){s:AE}(hs:s=BU (BW ((c:Nat):Int)))(h:(AF ts).cl i≠c):Calls prog 191 #[.pointer (some ⟨p,0,none⟩),.string s] w fun e w'=>e=.returned (.bool false)/\Be Z p ta tn tc AJ w0 nd0 xs ys i w' nd:=by refine(NL E hm.ps hi hc hs).mono ?_;rintro e w'⟨rfl,hb⟩;exact⟨by rw[AD h],hm.below hb⟩
def Gf(E:BR Z ta tn ts AJ)(hm:Be Z p ta tn tc AJ w0 nd0 xs ys i w nd)(hi:i<=4200){c:Nat}(hc:c∈Ar){s:AE}(hs:s=BU (BW ((c:Nat):Int)))(h:(AF ts).cl i=c):Calls prog 157 #[.pointer (some ⟨p,0,none⟩),.string s] w fun e w'=>e=.returned (.bool true)/\Be Z p ta tn tc AJ w0 nd0 xs ys (i+1) w' nd:=by refine(V5 E hm.ps hi hc hs).mono ?_;rintro e w'⟨rfl,hp,hb⟩;rw[AL h]at hp;exact⟨by rw[AK h],hm.move hp hb⟩
def DQ(E:BR Z ta tn ts AJ)(hm:Be Z p ta tn tc AJ w0 nd0 xs ys i w nd)(hi:i<=4200){c:Nat}(hc:c∈Ar){s:AE}(hs:s=BU (BW ((c:Nat):Int)))(h:(AF ts).cl i≠c):Calls prog 157 #[.pointer (some ⟨p,0,none⟩),.string s] w fun e w'=>e=.returned (.bool false)/\Be Z p ta tn tc AJ w0 nd0 xs ys i w' nd:=by refine(V5 E hm.ps hi hc hs).mono ?_;rintro e w'⟨rfl,hp,hb⟩;rw[AG h]at hp;exact⟨by rw[AD h],hm.move hp hb⟩
def Cx(E:BR Z ta tn ts AJ)(hm:Be Z p ta tn tc AJ w0 nd0 xs ys i w nd)(hi:i<=4200){c:Nat}(hc:c∈Ar){s:AE}(hs:s=BU (BW ((c:Nat):Int)))(h:(AF ts).cl i=c):Calls prog 195 #[.pointer (some ⟨p,0,none⟩),.string s] w fun e w'=>e=.returned .nilIface/\Be Z p ta tn tc AJ w0 nd0 xs ys (i+1) w' nd:=by
 refine(ab E hm.ps hi hc hs).mono ?_;rintro e w'(⟨_,rfl,hp,hb⟩|⟨hn,_⟩)
 .exact⟨rfl,hm.move hp hb⟩
 .exact absurd h hn
def Ji(E:BR Z ta tn ts AJ)(hm:Be Z p ta tn tc AJ w0 nd0 xs ys i w nd)(hi:i<=4200){c:Nat}(hc:c∈Ar){s:AE}(hs:s=BU (BW ((c:Nat):Int)))(h:(AF ts).cl i≠c):Calls prog 195 #[.pointer (some ⟨p,0,none⟩),.string s] w fun e w'=>∃b,e=.returned (Bt b)/\EK w' b (Al ts AJ i).p/\Below Z.heap.size Z w':=by
 refine(ab E hm.ps hi hc hs).mono ?_;rintro e w'(⟨hn,_⟩|⟨_,h'⟩)
 .exact absurd hn h
 .exact h'
def PI(E:BR Z ta tn ts AJ)(hm:Be Z p ta tn tc AJ w0 nd0 xs ys i w nd)(hi:i<=4200):Calls prog 103 #[.pointer (some ⟨p,0,none⟩)] w fun e w'=>∃b,e=.returned (Bt b)/\EK w' b (Al ts AJ i).p/\Below Z.heap.size Z w':=by refine(PH E hm.ps hi).mono ?_;rintro e w'⟨b,rfl,hf,_,hb⟩;exact⟨b,rfl,hf,hm.ps.low.trans (hb.mono hm.ps.low.size)⟩
def F6(E:BR Z ta tn ts AJ)(hm:Be Z p ta tn tc AJ w0 nd0 xs ys i w nd)(hi:i<=4200)(h:0<Ah ((AF ts).cl i)):Calls prog 241 #[.pointer (some ⟨p,0,none⟩)] w fun e w'=>e=.returned (.tuple #[.int .i64 (Ah ((AF ts).cl i):Nat),.nilIface])/\Be Z p ta tn tc AJ w0 nd0 xs ys (i+1) w' nd:=by
 refine(TN E hm.ps hi).mono ?_;rintro e w'(⟨_,rfl,hp,hb⟩|⟨hn,_⟩)
 .exact⟨rfl,hm.move hp hb⟩
 .omega
def TO(E:BR Z ta tn ts AJ)(hm:Be Z p ta tn tc AJ w0 nd0 xs ys i w nd)(hi:i<=4200)(h:¬ 0<Ah ((AF ts).cl i)):Calls prog 241 #[.pointer (some ⟨p,0,none⟩)] w fun e w'=>∃b,e=.returned (.tuple #[.int .i64 0,Bt b])/\EK w' b (Al ts AJ i).p/\Below Z.heap.size Z w':=by
 refine(TN E hm.ps hi).mono ?_;rintro e w'(⟨hn,_⟩|⟨_,h'⟩)
 .exact absurd hn h
 .exact h'
def CD{e:Ending}{q b:Nat}(z:Int)(hv:e=.returned (.tuple #[.int .i64 z,Bt b]))(hf:EK w b (Al ts AJ q).p)(hb:Below Z.heap.size Z w):BK Z p ta tn tc ts AJ w0 nd0 xs (false,q,[]) e w:=.inr ⟨rfl,b,z,hv,hf,hb⟩
end
def Hq(yk yn:Int)(yt:AE)(yp:Nat):Obj:=.cells #[.int .i64 yk,.int .i64 yn,.string yt,.int .i64 (yp:Nat)] 64
def XD:Obj:=.cells #[.int .i64 0,.int .i64 0,.int .i64 0,.string ⟨#[]⟩,.slice none 0 0,.slice none 0 0] 47
def FJ(V:World)(yk yn:Int)(yt:AE)(yp:Nat)(W:World):Prop:=Below (V.heap.size+2) ((V.alloc (Hq yk yn yt yp)).alloc XD) W
section
variable {V W W':World}{yk yn:Int}{yt:AE}{yp:Nat}
def FJ.start(V:World)(yk yn:Int)(yt:AE)(yp:Nat):FJ V yk yn yt yp ((V.alloc (Hq yk yn yt yp)).alloc XD):=AI
def FJ.size(h:FJ V yk yn yt yp W):V.heap.size+2<=W.heap.size:=by have:=Below.size h;simp at this;omega
def FJ.go(h:FJ V yk yn yt yp W)(hb:Below W.heap.size W W'):FJ V yk yn yt yp W':=BI h (hb.mono h.size)
def FJ.below(h:FJ V yk yn yt yp W):Below V.heap.size V W:=((AI.alloc AC _:Below V.heap.size V _).alloc (by simp) _).trans (Below.mono h (by omega))
def FJ.tok(h:FJ V yk yn yt yp W):W.heap[V.heap.size]? =some (Hq yk yn yt yp):=by rw[EZ h _ (by omega),Cm _ _ _ (by simp)];show(V.heap.push _)[V.heap.size]? =_;simp
def FJ.nod(h:FJ V yk yn yt yp W):W.heap[V.heap.size+1]? =some XD:=by rw[EZ h _ (by omega)];show((V.alloc (Hq yk yn yt yp)).heap.push _)[V.heap.size+1]? =_;rw[Array.getElem?_push];simp
def FJ.q(h:FJ V yk yn yt yp W):W.cell? ⟨V.heap.size,0,none⟩=some (.int .i64 yk)/\W.cell? ⟨V.heap.size,1,none⟩=some (.int .i64 yn)/\W.cell? ⟨V.heap.size,2,none⟩=some (.string yt)/\W.cell? ⟨V.heap.size,3,none⟩=some (.int .i64 (yp:Nat)):=by have e:=h.tok;unfold Hq at e;refine⟨?_,?_,?_,?_⟩<;>simp[World.cell?,e]
def FJ.z(h:FJ V yk yn yt yp W):W.frozen? ⟨V.heap.size+1,0,none⟩=false/\W.frozen? ⟨V.heap.size+1,1,none⟩=false/\W.frozen? ⟨V.heap.size+1,2,none⟩=false/\W.frozen? ⟨V.heap.size+1,3,none⟩=false/\W.frozen? ⟨V.heap.size+1,4,none⟩=false/\W.frozen? ⟨V.heap.size+1,5,none⟩=false:=by have e:=h.nod;unfold XD at e;exact⟨BJ W _ 0 _ _ e,BJ W _ 1 _ _ e,BJ W _ 2 _ _ e,BJ W _ 3 _ _ e,BJ W _ 4 _ _ e,BJ W _ 5 _ _ e⟩
def FJ.r(h:FJ V yk yn yt yp W):W.cell? ⟨V.heap.size+1,0,none⟩=some (.int .i64 0)/\W.cell? ⟨V.heap.size+1,1,none⟩=some (.int .i64 0)/\W.cell? ⟨V.heap.size+1,2,none⟩=some (.int .i64 0)/\W.cell? ⟨V.heap.size+1,3,none⟩=some (.string ⟨#[]⟩)/\W.cell? ⟨V.heap.size+1,4,none⟩=some (.slice none 0 0)/\W.cell? ⟨V.heap.size+1,5,none⟩=some (.slice none 0 0):=by have e:=h.nod;unfold XD at e;refine⟨?_,?_,?_,?_,?_,?_⟩<;>simp[World.cell?,e]
end
section
variable {Z w w0:World}{p i:Nat}{nd nd0:Value}{xs ys:List AW}{ta:Option Addr}{tn tc AJ:Nat}{ts:List CO}
def BE.step(hm:Be Z p ta tn tc AJ w0 nd0 xs ys i w nd)(d:Nat)(z:Int)(hz:z=(i:Int)+(d:Nat)):Be Z p ta tn tc AJ w0 nd0 xs ys (i+d) (w.setCell ⟨p,1,none⟩ (.int .i64 z)) nd:=by
 have hs:=hm.ps.setAt (i+d);have e:((i+d:Nat):Int)=z:=by omega
 rw[e]at hs;exact hm.move hs.1 hs.2
def FW(E:BR Z ta tn ts AJ)(q:Nat):((Al ts AJ q).k=1↔(AF ts).cl q=1)/\((Al ts AJ q).k=2↔(AF ts).cl q=2):=by
 rw[<-Kc AJ q];unfold JS;rcases Kb E.ok AJ q with(⟨h,_⟩|h|⟨h,hs,hl⟩|⟨h,c,hc,ht⟩)|h
 .simp[h]
 .simp[h]
 .rw[h];simp;split<;>omega
 .have hge:40<=c:=AT (Ax.mp If c hc);have e:=FD hc;rw[<-ht]at e;simp[h,e];omega
 .simp[h]
def BE.opd{w5 w6:World}{yk yn:Int}{yt:AE}{yp:Nat}(hm:Be Z p ta tn tc AJ w0 nd0 xs ys i w5 nd)(hT:FJ w5 yk yn yt yp w6)(k n m:Int)(s:AE):Be Z p ta tn tc AJ w0 nd0 xs ys (i+1) (((((((w6.setCell ⟨w5.heap.size+1,0,none⟩ (.int .i64 k)).setCell ⟨w5.heap.size+1,1,none⟩ (.int .i64 n)).setCell ⟨w5.heap.size+1,2,none⟩ (.int .i64 m)).setCell ⟨w5.heap.size+1,3,none⟩ (.string s)).setCell ⟨w5.heap.size+1,4,none⟩ (.slice none 0 0)).setCell ⟨w5.heap.size+1,5,none⟩ (.slice none 0 0)).setCell ⟨p,1,none⟩ (.int .i64 ((i:Int)+1))) nd:=BE.step (BE.below hm ((((((hT.below.setCell (Cg _) _).setCell (Cg _) _).setCell (Cg _) _).setCell (Cg _) _).setCell (Cg _) _).setCell (Cg _) _)) 1 _ (by omega)
def BK.lift{W:World}{nd1:Value}{r:B1}{e:Ending}{w':World}(hm:Be Z p ta tn tc AJ w0 nd0 xs [] i W nd1)(h:BK Z p ta tn tc ts AJ W nd1 xs r e w'):BK Z p ta tn tc ts AJ w0 nd0 xs r e w':=by
 rcases h with⟨hr,ys,nd',z,he,hz,hm',hd⟩|h
 .refine .inl ⟨hr,ys,nd',z,he,hz,?_,hd⟩;have:=hm.go (zs:=ys) (j:=r.2.1) (w1:=w') (nd1:=nd') (by rw[A6];exact hm')
  rwa [List.nil_append]at this
 .exact .inr h
def BK.tup{r:B1}{e:Ending}{w':World}(h:BK Z p ta tn tc ts AJ w nd xs r e w'):∃z v,e=.returned (.tuple #[.int .i64 z,v])/\BK Z p ta tn tc ts AJ w nd xs r (.returned (.tuple #[.int .i64 z,v])) w':=by
 have h':=h;rcases h with⟨hr,ys,nd',z,rfl,_⟩|⟨hr,b,z,rfl,_⟩
 .exact⟨z,_,rfl,h'⟩
 .exact⟨z,_,rfl,h'⟩
def BS.at{f:Nat}{args:Array Value}{r:B1}(hR:BS Z p ta tn tc ts AJ f args i r)(hm:Be Z p ta tn tc AJ w0 nd0 xs [] i w nd)(Ae:xs.length+4*(5000- i)<=100000):Calls prog f args w fun e w'=>∃z v,e=.returned (.tuple #[.int .i64 z,v])/\BK Z p ta tn tc ts AJ w0 nd0 xs r (.returned (.tuple #[.int .i64 z,v])) w':=by have hp:=hm.ps;rw[A6]at hp;refine(hR w nd xs hp Ae).mono fun e w' h=>(h.lift hm).tup
end
def aS(Z:World)(p:Nat)(w0 w:World)(nd v:Value)(XS:List AW)(k:Nat):Prop:=w0.heap.size<=k/\Z.heap.size<=k/\k<w.heap.size/\k≠p/\nd.ownBlock≠some k/\k∉Bm XS/\v.ownBlock≠some k
def KT(Z:World)(p:Nat)(ta:Option Addr)(tn tc AJ:Nat)(w0:World)(nd0:Value)(xs:List AW)(bx:List Nat)(ls:List (List AM))(i:Nat)(w:World)(nd v:Value)(zs:List Int):Prop:=∃ys,Be Z p ta tn tc AJ w0 nd0 xs ys i w nd/\ys.map AW.d=B0 xs.length (Az ls)/\Dk w Z.heap.size v zs/\(∀b,v.ownBlock=some b->w0.heap.size<=b/\b∉Bm (xs++ys))/\∀k∈bx,aS Z p w0 w nd v (xs++ys) k
abbrev A3:Value:=.slice none 0 0
def Eh(bx:List Nat)(w w':World):Prop:=∀k∈bx,w'.heap[k]? =w.heap[k]?
section
variable {Z w w0 w1:World}{p i j:Nat}{nd nd0 nd1 v:Value}{zs:List Int}{xs ys:List AW}{bx:List Nat}{ls:List (List AM)}{ta:Option Addr}{tn tc AJ:Nat}{ts:List CO}
def KT.start(h:Dl Z p ta tn tc AJ w i nd xs):KT Z p ta tn tc AJ w nd xs [] [] i w nd A3 []:=⟨[],BE.start h,rfl,Ed _ _,(fun b hb=>by simp[Value.ownBlock]at hb),fun k hk=>by cases hk⟩
def KT.ps(h:KT Z p ta tn tc AJ w0 nd0 xs bx ls i w nd v zs):∃XS,Dl Z p ta tn tc AJ w i nd XS/\XS.length=xs.length+(Az ls).length/\XS.map AW.d=xs.map AW.d++B0 xs.length (Az ls):=by
 obtain⟨ys,hm,hd,_⟩:=h;refine⟨xs++ys,hm.ps,?_,?_⟩
 .have:=AV List.length hd;rw[AS,FE]at this;rw[AH,this]
 .rw[Ao,hd]
def KT.low(h:KT Z p ta tn tc AJ w0 nd0 xs bx ls i w nd v zs):Below Z.heap.size Z w:=by obtain⟨ys,hm,_⟩:=h;exact hm.ps.low
def KT.all(h:KT Z p ta tn tc AJ w0 nd0 xs bx ls i w nd v zs):w.cell? ⟨p,0,none⟩=some (.slice ta tn tc)/\w.cell? ⟨p,1,none⟩=some (.int .i64 (i:Nat))/\w.cell? ⟨p,2,none⟩=some (.int .i64 (AJ:Nat))/\w.cell? ⟨p,3,none⟩=some nd/\w.frozen? ⟨p,0,none⟩=false/\w.frozen? ⟨p,1,none⟩=false/\w.frozen? ⟨p,2,none⟩=false/\w.frozen? ⟨p,3,none⟩=false/\p<w.heap.size:=by obtain⟨ys,hm,_⟩:=h;exact hm.ps.all
def XO{ms:List (List AM)}{us:List AW}(hm:Be Z p ta tn tc AJ w0 nd0 xs ys i w nd)(hd:ys.map AW.d=B0 xs.length (Az ls))(ho:Dk w Z.heap.size v zs)(hf:∀b,v.ownBlock=some b->w0.heap.size<=b/\b∉Bm (xs++ys))(hx:∀k∈bx,aS Z p w0 w nd v (xs++ys) k)(hu:Be Z p ta tn tc AJ w nd (xs++ys) us j w1 nd1)(hdu:us.map AW.d=B0 (xs.length+(Az ls).length) (Az ms)):KT Z p ta tn tc AJ w0 nd0 xs bx (ls++ms) j w1 nd1 v zs/\Eh bx w w1:=by
 refine⟨⟨ys++us,hm.go hu,?_,hm.ps.keepI hu.but ho,fun b hb=>⟨(hf b hb).1,?_⟩,fun k hk=> ?_⟩,fun k hk=> ?_⟩
 .rw[Ao,hd,hdu,Ih,IN,Jd]
 .rw[<-Aj,DE];intro hb';rcases Ak.1 hb' with h'|h'
  .exact(hf b hb).2 h'
  .have h1:=hu.new b h';obtain⟨cur,hh,_⟩:=Ag ho hb;have:=lt_of_block hh;omega
 .obtain⟨h1,h2,h3,h4,h5,h6,h7⟩:=hx k hk;refine⟨h1,h2,AX h3 hu.but.size,h4,fun e=> ?_,fun hc=> ?_,h7⟩
  .rcases hu.at_ with h'|h'
   .exact h5 (h'▸e)
   .have:=h' k e;omega
  .rw[<-Aj,DE]at hc;rcases Ak.1 hc with h'|h'
   .exact h6 h'
   .have:=hu.new k h';omega
 .obtain⟨h1,h2,h3,h4,h5,h6,h7⟩:=hx k hk;exact hu.but.block k h3 (by rintro(rfl|e);exact h4 rfl;exact h5 e)
def KT.move(h:KT Z p ta tn tc AJ w0 nd0 xs bx ls i w nd v zs)(hg:∀XS,Dl Z p ta tn tc AJ w i nd XS->Be Z p ta tn tc AJ w nd XS [] j w1 nd):KT Z p ta tn tc AJ w0 nd0 xs bx ls j w1 nd v zs/\Eh bx w w1:=by
 obtain⟨ys,hm,hd,ho,hf,hx⟩:=h;have:=XO (ms:= []) hm hd ho hf hx (hg _ hm.ps) rfl
 rwa [A6]at this
def KT.below(h:KT Z p ta tn tc AJ w0 nd0 xs bx ls i w nd v zs)(hb:Below w.heap.size w w1):KT Z p ta tn tc AJ w0 nd0 xs bx ls i w1 nd v zs:=(h.move fun _ hX=>(BE.start hX).below hb).1
def KT.step(h:KT Z p ta tn tc AJ w0 nd0 xs bx ls i w nd v zs)(d:Nat)(z:Int)(hz:z=(i:Int)+(d:Nat)):KT Z p ta tn tc AJ w0 nd0 xs bx ls (i+d) (w.setCell ⟨p,1,none⟩ (.int .i64 z)) nd v zs:=(h.move fun _ hX=>(BE.start hX).step d z hz).1
def KT.via{f:Nat}{args:Array Value}{e0:Ending}(h:KT Z p ta tn tc AJ w0 nd0 xs bx ls i w nd v zs)(hf:∀XS,Dl Z p ta tn tc AJ w i nd XS->Calls prog f args w fun e w'=>e=e0/\Be Z p ta tn tc AJ w nd XS [] j w' nd):Calls prog f args w fun e w'=>e=e0/\KT Z p ta tn tc AJ w0 nd0 xs bx ls j w' nd v zs/\Eh bx w w':=by obtain⟨ys,hm,hd,ho,hf',hx⟩:=h;refine(hf (xs++ys) hm.ps).mono ?_;rintro e w'⟨he,hm'⟩;have:=XO (ms:= []) hm hd ho hf' hx hm' rfl;rw[A6]at this;exact⟨he,this⟩
def KT.no{f:Nat}{args:Array Value}{e0:Nat->Ending}{q:Nat}(h:KT Z p ta tn tc AJ w0 nd0 xs bx ls i w nd v zs)(hf:∀XS,Dl Z p ta tn tc AJ w i nd XS->Calls prog f args w fun e w'=>∃b,e=e0 b/\EK w' b (Al ts AJ q).p/\Below Z.heap.size Z w'):Calls prog f args w fun e w'=>∃b,e=e0 b/\EK w' b (Al ts AJ q).p/\Below Z.heap.size Z w':=by obtain⟨XS,hX,_⟩:=h.ps;exact hf XS hX
def KT.read{f:Nat}{args:Array Value}{q:Nat}{l:List (List AM)}(hR:BS Z p ta tn tc ts AJ f args i (true,q,l))(h:KT Z p ta tn tc AJ w0 nd0 xs bx ls i w nd v zs)(AQ:xs.length+(Az ls).length+4*(5000- i)<=100000):Calls prog f args w fun e w'=>∃z nd',e=.returned (.tuple #[.int .i64 z,.nilIface])/\z=((xs.length+(Az (ls++l)).length:Nat):Int)- 1/\KT Z p ta tn tc AJ w0 nd0 xs bx (ls++l) q w' nd' v zs/\Eh bx w w':=by
 obtain⟨ys,hm,hd,ho,hf,hx⟩:=h;have hl:ys.length=(Az ls).length:=by have:=AV List.length hd;rw[AS,FE]at this;exact this
 refine(hR w nd (xs++ys) hm.ps (by rw[AH,hl];exact AQ)).mono ?_;rintro e w'(⟨_,us,nd',z,rfl,hz,hm',hd'⟩|⟨h',_⟩)
 .refine⟨z,nd',rfl,?_,?_⟩
  .rw[hz,AH,hl,EI];show((xs.length+(Az ls).length+(Az l).length:Nat):Int)- 1=_;omega
  .refine XO hm hd ho hf hx hm' ?_;rw[hd',AH,hl]
 .cases h'
def KT.readNo{f:Nat}{args:Array Value}{q:Nat}{l:List (List AM)}(hR:BS Z p ta tn tc ts AJ f args i (false,q,l))(h:KT Z p ta tn tc AJ w0 nd0 xs bx ls i w nd v zs)(AQ:xs.length+(Az ls).length+4*(5000- i)<=100000):Calls prog f args w fun e w'=>∃b z,e=.returned (.tuple #[.int .i64 z,Bt b])/\EK w' b (Al ts AJ q).p/\Below Z.heap.size Z w':=by
 obtain⟨XS,hX,hl,_⟩:=h.ps;refine(hR w nd XS hX (by rw[hl];exact AQ)).mono ?_;rintro e w'(⟨h',_⟩|⟨_,b,z,he,hf,hb⟩)
 .cases h'
 .exact⟨b,z,he,hf,hb⟩
def KT.put{s2:Option Addr}{n2 c2:Nat}(h:KT Z p ta tn tc AJ w0 nd0 xs bx ls i w nd (.slice s2 n2 c2) (BB xs.length ls))(k n m:Int)(s:AE)(Ae:xs.length+(Az ls).length<=1048576):Calls prog 104 #[.pointer (some ⟨p,0,none⟩),.agg #[.int .i64 k,.int .i64 n,.int .i64 m,.string s,.slice none 0 0,.slice s2 n2 c2]] w fun e w'=>e=.returned (.int .i64 ((xs.length+(Az ls).length:Nat)))/\∃nd',KT Z p ta tn tc AJ w0 nd0 xs [] [Ay k n m s [] ls] i w' nd' A3 []:=by
 obtain⟨ys,hm,hd,ho,hf,_⟩:=h;refine(bS hm k n m s [] ls hd none s2 0 0 n2 c2 (Ed _ _) ho ?_ ?_ Ae).mono ?_
 .intro b hb;have hb':(Value.slice s2 n2 c2).ownBlock=some b:=by simpa[Value.ownBlock,Option.mem_toList]using hb
  exact hf b hb'
 .cases h':(Value.slice s2 n2 c2).ownBlock with
  |none=>simp[Value.ownBlock]
  |some b=>simp[Value.ownBlock]
 .rintro e w'⟨rfl,ys',nd',hm',hd'⟩;exact⟨rfl,nd',ys',hm',by rw[IR];exact hd',Ed _ _,(fun b hb=>by simp[Value.ownBlock]at hb),fun k hk=>by cases hk⟩
def KT.putN{s1:Option Addr}{n1 c1:Nat}(h:KT Z p ta tn tc AJ w0 nd0 xs bx [] i w nd (.slice s1 n1 c1) zs)(k n m:Int)(s:AE)(Ae:xs.length<=1048576):Calls prog 104 #[.pointer (some ⟨p,0,none⟩),.agg #[.int .i64 k,.int .i64 n,.int .i64 m,.string s,.slice s1 n1 c1,.slice none 0 0]] w fun e w'=>e=.returned (.int .i64 (xs.length:Nat))/\∃nd',KT Z p ta tn tc AJ w0 nd0 xs [] [Ay k n m s zs []] i w' nd' A3 []:=by
 obtain⟨ys,hm,hd,ho,hf,_⟩:=h;refine(bS hm k n m s zs [] hd s1 none n1 c1 0 0 ho (Ed _ _) ?_ ?_ Ae).mono ?_
 .intro b hb;have hb':(Value.slice s1 n1 c1).ownBlock=some b:=by simpa[Value.ownBlock,Option.mem_toList]using hb
  exact hf b hb'
 .cases h':(Value.slice s1 n1 c1).ownBlock with
  |none=>simp[Value.ownBlock]
  |some b=>simp[Value.ownBlock]
 .rintro e w'⟨rfl,ys',nd',hm',hd'⟩;exact⟨rfl,nd',ys',hm',by rw[IR];exact hd',Ed _ _,(fun b hb=>by simp[Value.ownBlock]at hb),fun k hk=>by cases hk⟩
def KT.gave{e:Ending}{q:Nat}{z:Int}(h:KT Z p ta tn tc AJ w0 nd0 xs bx ls q w nd v zs)(he:e=.returned (.tuple #[.int .i64 z,.nilIface]))(hz:z=((xs.length+(Az ls).length:Nat):Int)- 1):BK Z p ta tn tc ts AJ w0 nd0 xs (true,q,ls) e w:=by obtain⟨ys,hm,hd,_⟩:=h;exact .inl ⟨rfl,ys,nd,z,he,hz,hm,hd⟩
def KT.grow{w7:World}{g cap:Nat}{us:List Int}{n:Nat}(h:KT Z p ta tn tc AJ w0 nd0 xs bx ls i w nd v zs)(ET:Dk w7 Z.heap.size (.slice (some ⟨g,0,none⟩) n cap) us)(hg:w.grownBy w7 v.ownBlock)(hat:v.ownBlock=some g\/g=w.heap.size):KT Z p ta tn tc AJ w0 nd0 xs bx ls i w7 nd (.slice (some ⟨g,0,none⟩) n cap) us/\Eh bx w w7:=by
 obtain⟨ys,hm,hd,ho,hf,hx⟩:=h;have hb:EF (fun x=>v.ownBlock=some x) w w7:=⟨hg.os,hg.tape,hg.output,hg.size,fun k hk hn=>hg.block k hk (fun e=>hn e.symm)⟩
 have hty:∀k,v.ownBlock=some k->k≠p/\nd.ownBlock≠some k/\Z.heap.size<=k:=fun k hk=>by
  obtain⟨cur,hh,hB⟩:=Ag ho hk;refine⟨fun e=> ?_,fun e=> ?_,hB⟩
  .rw[e,hm.ps.box]at hh;have:=Ac hh;simp at this
  .obtain⟨cur',hh',_⟩:=Ag hm.ps.own e;rw[hh']at hh;have:=Ac hh;simp at this
 refine⟨⟨ys,hm.but_ hb fun k hk=>⟨(hf k hk).1,(hty k hk).2.2,(hty k hk).1,(hty k hk).2.1,(hf k hk).2⟩,hd,ET,fun b hb'=> ?_,fun k hk=> ?_⟩,fun k hk=> ?_⟩
 .have e:g=b:=by simpa[Value.ownBlock]using hb'
  subst e;rcases hat with h'|h'
  .exact hf g h'
  .refine⟨by rw[h'];exact hm.but.size,fun hc=> ?_⟩;have:=(hm.ps.blkLt hc).1;omega
 .obtain⟨h1,h2,h3,h4,h5,h6,h7⟩:=hx k hk;refine⟨h1,h2,AX h3 hg.size,h4,h5,h6,fun e=> ?_⟩;have e':g=k:=by simpa[Value.ownBlock]using e
  rcases hat with h'|h'
  .exact h7 (e'▸h')
  .omega
 .obtain⟨h1,h2,h3,h4,h5,h6,h7⟩:=hx k hk;exact hg.block k h3 (fun e=>h7 e.symm)
def KT.box(h:KT Z p ta tn tc AJ w0 nd0 xs bx ls i w nd v zs)(o:Obj):KT Z p ta tn tc AJ w0 nd0 xs (w.heap.size::bx) ls i (w.alloc o) nd v zs:=by
 have hb:Below w.heap.size w (w.alloc o):=AI.alloc AC _;obtain⟨ys,hm,hd,ho,hf,hx⟩:=h;refine⟨ys,hm.below hb,hd,BP ho (fun g hg=>hb.block g ((Ag ho hg).elim fun _ hc=>lt_of_block hc.1)),hf,fun k hk=> ?_⟩;rcases DU.1 hk with rfl|hk
 .refine⟨hm.but.size,hm.ps.low.size,by simp,fun e=> ?_,fun e=> ?_,fun hc=> ?_,fun e=> ?_⟩
  .have:=lt_of_block hm.ps.box;omega
  .have:=hm.ps.ndLt e;omega
  .have:=(hm.ps.blkLt hc).1;omega
  .obtain⟨cur,hh,_⟩:=Ag ho e;have:=lt_of_block hh;omega
 .obtain⟨a1,a2,a3,a4⟩:=hx k hk;exact⟨a1,a2,by simp;omega,a4⟩
def KT.setBox{k q:Nat}{u:Value}(h:KT Z p ta tn tc AJ w0 nd0 xs bx ls i w nd v zs)(hk:k∈bx):KT Z p ta tn tc AJ w0 nd0 xs bx ls i (w.setCell ⟨k,q,none⟩ u) nd v zs:=by obtain⟨ys,hm,hd,ho,hf,hx⟩:=h;obtain⟨h1,h2,h3,h4,h5,h6,h7⟩:=hx k hk;have hb:EF (fun x=>x=k) w (w.setCell ⟨k,q,none⟩ u):=(EF.refl (fun x=>x=k) w).setCell (p:=⟨k,q,none⟩) rfl _;refine⟨ys,hm.but_ hb (fun j hj=>by subst hj;exact⟨h1,h2,h4,h5,h6⟩),hd,BP ho (fun g hg=>hb.block g ((Ag ho hg).elim fun _ hc=>lt_of_block hc.1) (fun e=>h7 (e▸hg))),hf,fun j hj=> ?_⟩;obtain⟨a1,a2,a3,a4⟩:=hx j hj;exact⟨a1,a2,by simpa using a3,a4⟩
end
section
variable {Z w w0 w1:World}{p i j:Nat}{nd nd0 nd1 v:Value}{zs:List Int}{xs ys:List AW}{bx:List Nat}{ls:List (List AM)}{ta:Option Addr}{tn tc AJ:Nat}{ts:List CO}
def GM(z:Int):∀u∈([.int .i64 z]:List Value),u.oneCell'=true:=by intro u hu;simp at hu;subst hu;rfl
def Dy(w:World)(x:Int):∀(j:Nat)u,([.int .i64 x]:List Value)[j]? =some u->(w.alloc (.cells #[.int .i64 x] 3)).cell? ((⟨w.heap.size,0,none⟩:Addr).add j)=some u:=by
 intro j u hj
 match j,hj with
 |0,hj=>simp at hj;subst hj;simp[Addr.add]
 |j+1,hj=>simp at hj
def KT.grew{W w7:World}{g cap:Nat}{z:Int}{a:Option Addr}{c:Nat}(h:KT Z p ta tn tc AJ w0 nd0 xs bx ls i W nd (.slice a zs.length c) zs)(ET:w7.ownsRow Z.heap.size 3 1 (.slice (some ⟨g,0,none⟩) (zs.length+1) cap) (zs.length+1) (zs.map (Value.int .i64)++ [.int .i64 z]))(hg:W.grownBy w7 (Value.slice a zs.length c).ownBlock){H:Nat}(hat:(Value.slice a zs.length c).ownBlock=some g\/g=H)(hH:H=W.heap.size):KT Z p ta tn tc AJ w0 nd0 xs bx ls i w7 nd (.slice (some ⟨g,0,none⟩) (zs.length+1) cap) (zs++ [z])/\Eh bx W w7:=by refine h.grow ?_ hg (by rw[<-hH];exact hat);unfold Dk;rw[Ao,AH];exact ET
def KT.ownR(h:KT Z p ta tn tc AJ w0 nd0 xs bx ls i w nd v zs):w.ownsRow Z.heap.size 3 1 v zs.length (zs.map (Value.int .i64)):=by obtain⟨_,_,_,ho,_⟩:=h;exact ho
def Fh(k n m:Int)(s:AE)(v:Value):Obj:=.cells #[.int .i64 k,.int .i64 n,.int .i64 m,.string s,.slice none 0 0,v] 47
def D5{k n m:Int}{s:AE}{b:Nat}(h:w.heap[b]? =some (Fh k n m s v)):w.cell? ⟨b,0,none⟩=some (.int .i64 k)/\w.cell? ⟨b,1,none⟩=some (.int .i64 n)/\w.cell? ⟨b,2,none⟩=some (.int .i64 m)/\w.cell? ⟨b,3,none⟩=some (.string s)/\w.cell? ⟨b,4,none⟩=some (.slice none 0 0)/\w.cell? ⟨b,5,none⟩=some v/\w.frozen? ⟨b,5,none⟩=false/\b<w.heap.size:=by unfold Fh at h;refine⟨?_,?_,?_,?_,?_,?_,BJ w b 5 _ _ h,lt_of_block h⟩<;>simp[World.cell?,h]
def YG{L:List Int}{s2:Option Addr}{c2:Nat}(hL:L=BB xs.length ls)(h:KT Z p ta tn tc AJ w0 nd0 xs [] ls i w nd (.slice s2 L.length c2) L)(k n m:Int)(s:AE){q:Nat}{t:List AM}(hX:BS Z p ta tn tc ts AJ 166 #[.pointer (some ⟨p,0,none⟩)] i (true,q,[t]))(AQ:xs.length+(Az ls).length+4*(5000- i)<=100000)(Ae:xs.length+(Az (ls++ [t])).length<=100000)(hLl:L.length<=100000):Calls prog 161 #[.pointer (some ⟨p,0,none⟩),.agg #[.int .i64 k,.int .i64 n,.int .i64 m,.string s,.slice none 0 0,.slice s2 L.length c2]] w (BK Z p ta tn tc ts AJ w0 nd0 xs (true,q,[Ay k n m s [] (ls++ [t])])):=by
 obtain⟨i0,hi,hz0,hz1,hz2⟩:=info_parts Dt;have HK1:=AB (h.box (Fh k n m s (.slice s2 L.length c2)));have HX:=AB (KT.read hX (AA HK1) AQ);have hzl:Z.heap.size<=w.heap.size:=h.low.size;have HLen:Hid (xs.length+(Az (ls++ [t])).length<=1048576):=by show _<=_;omega
 have HP:Hid (∀z:Int,z=((xs.length+(Az (ls++ [t])).length:Nat):Int)- 1->L++ [z]=BB xs.length (ls++ [t])):=fun z hz=>by rw[Ij,Ec,hL,hz,EI,BL];congr 2;omega
 have HO:Hid ((w.alloc (Fh k n m s (.slice s2 L.length c2))).heap[w.heap.size]? =some (Fh k n m s (.slice s2 L.length c2))):=by show(w.heap.push _)[w.heap.size]? =_;simp
 clear h hX hL Ae AQ;go_enter func161,ntmps161;go_wp2_with(first|(go_at_call 166;refine(AA HX).mono ?_;rintro e w5⟨z,nd',rfl,hz,hk,hs⟩;obtain⟨y0,y1,y2,y3,y4,y5,y6,hbl⟩:=D5 ((hs _ (AY.2 rfl)).trans (AA HO));have HB5:=AB ((hs _ (AY.2 rfl)).trans (AA HO));have HK5:=AB (hk.below (AI.alloc AC (.cells #[.int .i64 z] 3)));have HPZ:=AB (AA HP z hz);have hzl5:=hk.low.size;clear hk hs hz HX HK1 HP)|(at_builtin;refine wpList_append_lies _ rfl _ _ 45 rfl Z.heap.size 3 i0 (.int .i64 0) 1 8 underlying45 hi hz0 hz1 hz2 rfl (by decide) _ _ _ rfl (AA HK5).ownR ⟨w5.heap.size,0,none⟩ 1 1 [.int .i64 z] rfl rfl (Dy _ _) (GM _) (by omega) (by unfold maxLen;omega) (by omega) (by simp;omega) (w5.heap.size+1) (by simp) ?_;intro g' CW w7 A2 Au hat Cu;obtain⟨hk7,hs7⟩:=KT.grew (AA HK5) A2 Au hat (by simp);obtain⟨x0,x1,x2,x3,x4,x5,x6,hbl7⟩:=D5 ((hs7 _ (AY.2 rfl)).trans ((Cm _ _ _ hbl).trans (AA HB5)));have HK7:=AB hk7;clear hk7 hs7 A2 Au hat Cu)|(go_at_call 104;have hk8:=(AA HK7).setBox (k:=w.heap.size) (q:=5) (u:=.slice (some ⟨g',0,none⟩) (L.length+1) CW) (AY.2 rfl);rw[AA HPZ]at hk8;refine(KT.put hk8 k n m s (AA HLen)).mono ?_;clear hk8;rintro e w9⟨rfl,nd9,hk9⟩;have HK9:=AB hk9;clear hk9));go_ret2;refine(AA HK9).gave rfl ?_;rw[BL,CN];omega
def YH{L:List Int}{s2:Option Addr}{c2:Nat}(h:KT Z p ta tn tc AJ w0 nd0 xs [] ls i w nd (.slice s2 L.length c2) L)(k n m:Int)(s:AE){q:Nat}{l:List (List AM)}(hX:BS Z p ta tn tc ts AJ 166 #[.pointer (some ⟨p,0,none⟩)] i (false,q,l))(AQ:xs.length+(Az ls).length+4*(5000- i)<=100000):Calls prog 161 #[.pointer (some ⟨p,0,none⟩),.agg #[.int .i64 k,.int .i64 n,.int .i64 m,.string s,.slice none 0 0,.slice s2 L.length c2]] w (BK Z p ta tn tc ts AJ w0 nd0 xs (false,q,[])):=by have HX:=AB (KT.readNo hX (h.box (Fh k n m s (.slice s2 L.length c2))) AQ);clear h hX AQ;go_enter func161,ntmps161;go_wp2_with(go_at_call 166;refine(AA HX).mono ?_;rintro e w5⟨b,z,rfl,hf,hb⟩;have HF:=AB (And.intro hf hb);clear hf hb;delta Bt);go_ret2;exact CD 0 rfl (AA HF).1 (AA HF).2
end
def JX(V:World)(yk yn:Int)(yt:AE)(yp:Nat)(W:World):Prop:=Below (V.heap.size+1) (V.alloc (Hq yk yn yt yp)) W
section
variable {V W W':World}{yk yn:Int}{yt:AE}{yp:Nat}
def JX.start(V:World)(yk yn:Int)(yt:AE)(yp:Nat):JX V yk yn yt yp (V.alloc (Hq yk yn yt yp)):=AI
def JX.size(h:JX V yk yn yt yp W):V.heap.size+1<=W.heap.size:=by have:=Below.size h;simp at this;omega
def JX.go(h:JX V yk yn yt yp W)(hb:Below W.heap.size W W'):JX V yk yn yt yp W':=BI h (hb.mono h.size)
def JX.below(h:JX V yk yn yt yp W):Below V.heap.size V W:=(AI.alloc AC _:Below V.heap.size V _).trans (Below.mono h (by omega))
def JX.q(h:JX V yk yn yt yp W):W.cell? ⟨V.heap.size,0,none⟩=some (.int .i64 yk)/\W.cell? ⟨V.heap.size,1,none⟩=some (.int .i64 yn)/\W.cell? ⟨V.heap.size,2,none⟩=some (.string yt)/\W.cell? ⟨V.heap.size,3,none⟩=some (.int .i64 (yp:Nat)):=by
 have e:W.heap[V.heap.size]? =some (Hq yk yn yt yp):=by rw[EZ h _ (by omega)];show(V.heap.push _)[V.heap.size]? =_;simp
 unfold Hq at e;refine⟨?_,?_,?_,?_⟩<;>simp[World.cell?,e]
end
section
variable {Z w w0:World}{p i:Nat}{nd nd0:Value}{xs ys:List AW}{ta:Option Addr}{tn tc AJ:Nat}{ts:List CO}
def dp(E:BR Z ta tn ts AJ)(h:Dl Z p ta tn tc AJ w i nd xs)(hi:i<=4100)(hp:0<Bd ((AF ts).cl i)):Calls prog 198 #[.pointer (some ⟨p,0,none⟩)] w fun e w'=>e=.returned (.bool true)/\Below w.heap.size w w':=by
 have H:=AB h;have HA:=AB (Bj E h (by omega) AI 0 (by omega));obtain⟨⟨yk,yn,yt,yp⟩,hy⟩:∃y,Al ts AJ i=y:=⟨_,rfl⟩
 obtain⟨M,hM⟩:∃M:Nat,Bd ((AF ts).cl i)=M:=⟨_,rfl⟩
 have hgt:decide ((M:Int)>0)=true:=by rw[hM]at hp;exact AK (by omega)
 have hgt2:decide ((0:Int)<(M:Int))=true:=hgt;have hgt3:0<M:=by rw[hM]at hp;exact hp
 have K0:=AB (fun(V:World)(hV:Below Z.heap.size Z V)=>Mv E i hV);rw[hy,hM]at K0;unfold Bi at K0;rw[Ad,hy]at HA;unfold Bi at HA;clear h hy hM hp;go_enter func198,ntmps198;go_wp2_with(first|(go_at_call 158;refine(AA HA).mono ?_;rintro e w5⟨rfl,hb5⟩;have HM5:=AB ((AA H).below hb5);have HB5:=AB hb5;have HT:=AB (JX.start w5 yk yn yt yp);clear hb5 H HA)|(go_at_call 193;refine(AA K0 _ ((AA HM5).low.trans ((AA HT).below.mono (AA HM5).low.size))).mono ?_;rintro e w6⟨rfl,hb6⟩;replace HT:=AB ((AA HT).go hb6);clear hb6 K0;obtain⟨q0,q1,q2,q3⟩:=(AA HT).q));go_ret;exact⟨rfl,(AA HB5).trans ((AA HT).below.mono (AA HB5).size)⟩
def dq(E:BR Z ta tn ts AJ)(h:Dl Z p ta tn tc AJ w i nd xs)(hi:i<=4100)(hp:Bd ((AF ts).cl i)=0)(h4:(AF ts).cl i=4):Calls prog 198 #[.pointer (some ⟨p,0,none⟩)] w fun e w'=>e=.returned (.bool true)/\Below w.heap.size w w':=by
 have H:=AB h;have HA:=AB (Bj E h (by omega) AI 0 (by omega));obtain⟨⟨yk,yn,yt,yp⟩,hy⟩:∃y,Al ts AJ i=y:=⟨_,rfl⟩
 have hM:=hp;have K0:=AB (fun(V:World)(hV:Below Z.heap.size Z V)=>Mv E i hV);rw[hy,hM]at K0;unfold Bi at K0;have K1:=AB (fun(V:World)=>GP E i V);rw[hy,AK h4]at K1;unfold Bi at K1;rw[Ad,hy]at HA;unfold Bi at HA;clear h hy hM hp h4;go_enter func198,ntmps198;go_wp2_with(first|(go_at_call 158;refine(AA HA).mono ?_;rintro e w5⟨rfl,hb5⟩;have HM5:=AB ((AA H).below hb5);have HB5:=AB hb5;have HT:=AB (JX.start w5 yk yn yt yp);clear hb5 H HA)|(go_at_call 193;refine(AA K0 _ ((AA HM5).low.trans ((AA HT).below.mono (AA HM5).low.size))).mono ?_;rintro e w6⟨rfl,hb6⟩;replace HT:=AB ((AA HT).go hb6);clear hb6 K0;obtain⟨q0,q1,q2,q3⟩:=(AA HT).q)|(go_at_call 61;refine(AA K1 _).mono ?_;rintro e w6⟨rfl,hb6⟩;replace HT:=AB ((AA HT).go hb6);clear hb6 K1;obtain⟨q0,q1,q2,q3⟩:=(AA HT).q));go_ret;exact⟨rfl,(AA HB5).trans ((AA HT).below.mono (AA HB5).size)⟩
def X6(E:BR Z ta tn ts AJ)(h:Dl Z p ta tn tc AJ w i nd xs)(hi:i<=4100)(hp:Bd ((AF ts).cl i)=0)(h4:(AF ts).cl i≠4)(EX:(AF ts).cl i=8728):Calls prog 198 #[.pointer (some ⟨p,0,none⟩)] w fun e w'=>e=.returned (.bool true)/\Below w.heap.size w w':=by
 have H:=AB h;have HA:=AB (Bj E h (by omega) AI 0 (by omega));obtain⟨⟨yk,yn,yt,yp⟩,hy⟩:∃y,Al ts AJ i=y:=⟨_,rfl⟩
 have hM:=hp;have K0:=AB (fun(V:World)(hV:Below Z.heap.size Z V)=>Mv E i hV);rw[hy,hM]at K0;unfold Bi at K0;have K1:=AB (fun(V:World)=>GP E i V);rw[hy,AD h4]at K1;unfold Bi at K1;have K2:=AB (GL E hy EN EO (AK EX));rw[Ad,hy]at HA;unfold Bi at HA;clear h hy hM hp h4 EX;go_enter func198,ntmps198;go_wp2_with(first|(go_at_call 158;refine(AA HA).mono ?_;rintro e w5⟨rfl,hb5⟩;have HM5:=AB ((AA H).below hb5);have HB5:=AB hb5;have HT:=AB (JX.start w5 yk yn yt yp);clear hb5 H HA)|(go_at_call 193;refine(AA K0 _ ((AA HM5).low.trans ((AA HT).below.mono (AA HM5).low.size))).mono ?_;rintro e w6⟨rfl,hb6⟩;replace HT:=AB ((AA HT).go hb6);clear hb6 K0;obtain⟨q0,q1,q2,q3⟩:=(AA HT).q)|(go_at_call 61;refine(AA K1 _).mono ?_;rintro e w6⟨rfl,hb6⟩;replace HT:=AB ((AA HT).go hb6);clear hb6 K1;obtain⟨q0,q1,q2,q3⟩:=(AA HT).q)|(go_at_call 159;refine(AA K2 _).mono ?_;rintro e w6⟨rfl,hb6⟩;replace HT:=AB ((AA HT).go hb6);clear hb6 K2;obtain⟨q0,q1,q2,q3⟩:=(AA HT).q));go_ret;exact⟨rfl,(AA HB5).trans ((AA HT).below.mono (AA HB5).size)⟩
def Zu(E:BR Z ta tn ts AJ)(h:Dl Z p ta tn tc AJ w i nd xs)(hi:i<=4100)(hp:Bd ((AF ts).cl i)=0)(h4:(AF ts).cl i≠4)(EX:(AF ts).cl i≠8728)(IU:(AF ts).cl i=123):Calls prog 198 #[.pointer (some ⟨p,0,none⟩)] w fun e w'=>e=.returned (.bool true)/\Below w.heap.size w w':=by
 have H:=AB h;have HA:=AB (Bj E h (by omega) AI 0 (by omega));obtain⟨⟨yk,yn,yt,yp⟩,hy⟩:∃y,Al ts AJ i=y:=⟨_,rfl⟩
 have hM:=hp;have K0:=AB (fun(V:World)(hV:Below Z.heap.size Z V)=>Mv E i hV);rw[hy,hM]at K0;unfold Bi at K0;have K1:=AB (fun(V:World)=>GP E i V);rw[hy,AD h4]at K1;unfold Bi at K1;have K2:=AB (GL E hy EN EO (AD EX));have K3:=AB (GL E hy Fb Fc (AK IU));rw[Ad,hy]at HA;unfold Bi at HA;clear h hy hM hp h4 EX IU;go_enter func198,ntmps198;go_wp2_with(first|(go_at_call 158;refine(AA HA).mono ?_;rintro e w5⟨rfl,hb5⟩;have HM5:=AB ((AA H).below hb5);have HB5:=AB hb5;have HT:=AB (JX.start w5 yk yn yt yp);clear hb5 H HA)|(go_at_call 193;refine(AA K0 _ ((AA HM5).low.trans ((AA HT).below.mono (AA HM5).low.size))).mono ?_;rintro e w6⟨rfl,hb6⟩;replace HT:=AB ((AA HT).go hb6);clear hb6 K0;obtain⟨q0,q1,q2,q3⟩:=(AA HT).q)|(go_at_call 61;refine(AA K1 _).mono ?_;rintro e w6⟨rfl,hb6⟩;replace HT:=AB ((AA HT).go hb6);clear hb6 K1;obtain⟨q0,q1,q2,q3⟩:=(AA HT).q)|(go_at_call 159;refine(AA K2 _).mono ?_;rintro e w6⟨rfl,hb6⟩;replace HT:=AB ((AA HT).go hb6);clear hb6 K2;obtain⟨q0,q1,q2,q3⟩:=(AA HT).q)|(go_at_call 159;refine(AA K3 _).mono ?_;rintro e w6⟨rfl,hb6⟩;replace HT:=AB ((AA HT).go hb6);clear hb6 K3;obtain⟨q0,q1,q2,q3⟩:=(AA HT).q));go_ret;exact⟨rfl,(AA HB5).trans ((AA HT).below.mono (AA HB5).size)⟩
def X7(E:BR Z ta tn ts AJ)(h:Dl Z p ta tn tc AJ w i nd xs)(hi:i<=4100)(hp:Bd ((AF ts).cl i)=0)(h4:(AF ts).cl i≠4)(EX:(AF ts).cl i≠8728)(IU:(AF ts).cl i≠123)(h8711:(AF ts).cl i=8711):Calls prog 198 #[.pointer (some ⟨p,0,none⟩)] w fun e w'=>e=.returned (.bool true)/\Below w.heap.size w w':=by
 have H:=AB h;have HA:=AB (Bj E h (by omega) AI 0 (by omega));obtain⟨⟨yk,yn,yt,yp⟩,hy⟩:∃y,Al ts AJ i=y:=⟨_,rfl⟩
 have hM:=hp;have K0:=AB (fun(V:World)(hV:Below Z.heap.size Z V)=>Mv E i hV);rw[hy,hM]at K0;unfold Bi at K0;have K1:=AB (fun(V:World)=>GP E i V);rw[hy,AD h4]at K1;unfold Bi at K1;have K2:=AB (GL E hy EN EO (AD EX));have K3:=AB (GL E hy Fb Fc (AD IU));have K4:=AB (GL E hy J9 KD (AK h8711));rw[Ad,hy]at HA;unfold Bi at HA;clear h hy hM hp h4 EX IU h8711;go_enter func198,ntmps198;go_wp2_with(first|(go_at_call 158;refine(AA HA).mono ?_;rintro e w5⟨rfl,hb5⟩;have HM5:=AB ((AA H).below hb5);have HB5:=AB hb5;have HT:=AB (JX.start w5 yk yn yt yp);clear hb5 H HA)|(go_at_call 193;refine(AA K0 _ ((AA HM5).low.trans ((AA HT).below.mono (AA HM5).low.size))).mono ?_;rintro e w6⟨rfl,hb6⟩;replace HT:=AB ((AA HT).go hb6);clear hb6 K0;obtain⟨q0,q1,q2,q3⟩:=(AA HT).q)|(go_at_call 61;refine(AA K1 _).mono ?_;rintro e w6⟨rfl,hb6⟩;replace HT:=AB ((AA HT).go hb6);clear hb6 K1;obtain⟨q0,q1,q2,q3⟩:=(AA HT).q)|(go_at_call 159;refine(AA K2 _).mono ?_;rintro e w6⟨rfl,hb6⟩;replace HT:=AB ((AA HT).go hb6);clear hb6 K2;obtain⟨q0,q1,q2,q3⟩:=(AA HT).q)|(go_at_call 159;refine(AA K3 _).mono ?_;rintro e w6⟨rfl,hb6⟩;replace HT:=AB ((AA HT).go hb6);clear hb6 K3;obtain⟨q0,q1,q2,q3⟩:=(AA HT).q)|(go_at_call 159;refine(AA K4 _).mono ?_;rintro e w6⟨rfl,hb6⟩;replace HT:=AB ((AA HT).go hb6);clear hb6 K4;obtain⟨q0,q1,q2,q3⟩:=(AA HT).q));go_ret;exact⟨rfl,(AA HB5).trans ((AA HT).below.mono (AA HB5).size)⟩
def bw(E:BR Z ta tn ts AJ)(h:Dl Z p ta tn tc AJ w i nd xs)(hi:i<=4100)(hp:Bd ((AF ts).cl i)=0)(h4:(AF ts).cl i≠4)(EX:(AF ts).cl i≠8728)(IU:(AF ts).cl i≠123)(h8711:(AF ts).cl i≠8711):Calls prog 198 #[.pointer (some ⟨p,0,none⟩)] w fun e w'=>e=.returned (.bool false)/\Below w.heap.size w w':=by
 have H:=AB h;have HA:=AB (Bj E h (by omega) AI 0 (by omega));obtain⟨⟨yk,yn,yt,yp⟩,hy⟩:∃y,Al ts AJ i=y:=⟨_,rfl⟩
 have hM:=hp;have K0:=AB (fun(V:World)(hV:Below Z.heap.size Z V)=>Mv E i hV);rw[hy,hM]at K0;unfold Bi at K0;have K1:=AB (fun(V:World)=>GP E i V);rw[hy,AD h4]at K1;unfold Bi at K1;have K2:=AB (GL E hy EN EO (AD EX));have K3:=AB (GL E hy Fb Fc (AD IU));have K4:=AB (GL E hy J9 KD (AD h8711));rw[Ad,hy]at HA;unfold Bi at HA;clear h hy hM hp h4 EX IU h8711;go_enter func198,ntmps198;go_wp2_with(first|(go_at_call 158;refine(AA HA).mono ?_;rintro e w5⟨rfl,hb5⟩;have HM5:=AB ((AA H).below hb5);have HB5:=AB hb5;have HT:=AB (JX.start w5 yk yn yt yp);clear hb5 H HA)|(go_at_call 193;refine(AA K0 _ ((AA HM5).low.trans ((AA HT).below.mono (AA HM5).low.size))).mono ?_;rintro e w6⟨rfl,hb6⟩;replace HT:=AB ((AA HT).go hb6);clear hb6 K0;obtain⟨q0,q1,q2,q3⟩:=(AA HT).q)|(go_at_call 61;refine(AA K1 _).mono ?_;rintro e w6⟨rfl,hb6⟩;replace HT:=AB ((AA HT).go hb6);clear hb6 K1;obtain⟨q0,q1,q2,q3⟩:=(AA HT).q)|(go_at_call 159;refine(AA K2 _).mono ?_;rintro e w6⟨rfl,hb6⟩;replace HT:=AB ((AA HT).go hb6);clear hb6 K2;obtain⟨q0,q1,q2,q3⟩:=(AA HT).q)|(go_at_call 159;refine(AA K3 _).mono ?_;rintro e w6⟨rfl,hb6⟩;replace HT:=AB ((AA HT).go hb6);clear hb6 K3;obtain⟨q0,q1,q2,q3⟩:=(AA HT).q)|(go_at_call 159;refine(AA K4 _).mono ?_;rintro e w6⟨rfl,hb6⟩;replace HT:=AB ((AA HT).go hb6);clear hb6 K4;obtain⟨q0,q1,q2,q3⟩:=(AA HT).q));go_ret;exact⟨rfl,(AA HB5).trans ((AA HT).below.mono (AA HB5).size)⟩
def Hc(E:BR Z ta tn ts AJ)(h:Dl Z p ta tn tc AJ w i nd xs)(hi:i<=4100):Calls prog 198 #[.pointer (some ⟨p,0,none⟩)] w fun e w'=>e=.returned (.bool (LN ((AF ts).cl i)))/\Below w.heap.size w w':=by
 unfold LN;by_cases hp:0<Bd ((AF ts).cl i)
 .rw[AK (.inl hp)];exact dp E h hi hp
 have hp0:Bd ((AF ts).cl i)=0:=by omega
 by_cases h4:(AF ts).cl i=4
 .rw[AK (.inr (.inl h4))];exact dq E h hi hp0 h4
 by_cases h1:(AF ts).cl i=8728
 .rw[AK (.inr (.inr (.inl h1)))];exact X6 E h hi hp0 h4 h1
 by_cases h2:(AF ts).cl i=123
 .rw[AK (.inr (.inr (.inr (.inl h2))))];exact Zu E h hi hp0 h4 h1 h2
 by_cases h3:(AF ts).cl i=8711
 .rw[AK (.inr (.inr (.inr (.inr h3))))];exact X7 E h hi hp0 h4 h1 h2 h3
 rw[AD (by rintro(h'|h'|h'|h'|h')<;>omega)];exact bw E h hi hp0 h4 h1 h2 h3
end
section
variable {Z w w0 w1:World}{p i j:Nat}{nd nd0 nd1 v:Value}{zs:List Int}{xs ys:List AW}{bx:List Nat}{ls:List (List AM)}{ta:Option Addr}{tn tc AJ:Nat}{ts:List CO}
def KT.list(h:KT Z p ta tn tc AJ w0 nd0 xs bx ls i w nd v zs)(us:List Int)(hus:us.length<=100):KT Z p ta tn tc AJ w0 nd0 xs bx ls i (w.alloc (.cells (us.map (Value.int .i64)).toArray 3)) nd (.slice (some ⟨w.heap.size,0,none⟩) us.length us.length) us:=by
 have hb:Below w.heap.size w (w.alloc (.cells (us.map (Value.int .i64)).toArray 3)):=AI.alloc AC _;obtain⟨ys,hm,hd,ho,hf,hx⟩:=h;have Gr:(w.alloc (.cells (us.map (Value.int .i64)).toArray 3)).heap[w.heap.size]? =some (.cells (us.map (Value.int .i64)).toArray 3 (0,0)):=by show(w.heap.push _)[w.heap.size]? =_;simp
 refine⟨ys,hm.below hb,hd,?_,fun b hb'=> ?_,fun k hk=> ?_⟩
 .unfold Dk;refine⟨by simp,.inr ⟨w.heap.size,us.length,_,rfl,hm.ps.low.size,Gr,AC,by unfold maxLen;omega,by simp,?_⟩⟩;rw[Gl,List.toList_toArray];exact AO (by simp)
 .have e:w.heap.size=b:=by simpa[Value.ownBlock]using hb'
  subst e;exact⟨hm.but.size,fun hc=>by have:=(hm.ps.blkLt hc).1;omega⟩
 .obtain⟨a1,a2,a3,a4,a5,a6,a7⟩:=hx k hk;refine⟨a1,a2,by simp;omega,a4,a5,a6,fun e=> ?_⟩;have e':w.heap.size=k:=by simpa[Value.ownBlock]using e
  omega
def T8(Z:World)(p:Nat)(ta:Option Addr)(tn tc:Nat)(ts:List CO)(AJ:Nat)(q:Nat)(t:List AM)(r:B1):Prop:=∀w0 nd0 xs w nd,KT Z p ta tn tc AJ w0 nd0 xs [] [t] q w nd A3 []->xs.length+(Az [t]).length+4*(5000- q)<=100000->Calls prog 197 #[.pointer (some ⟨p,0,none⟩),.int .i64 (((xs.length+(Az [t]).length:Nat):Int)- 1)] w (BK Z p ta tn tc ts AJ w0 nd0 xs r)
def KT.tailR{f:Nat}{args:Array Value}{r:B1}(hR:BS Z p ta tn tc ts AJ f args i r)(h:KT Z p ta tn tc AJ w0 nd0 xs bx [] i w nd v zs)(AQ:xs.length+0+4*(5000- i)<=100000):Calls prog f args w fun e w'=>∃z v,e=.returned (.tuple #[.int .i64 z,v])/\BK Z p ta tn tc ts AJ w0 nd0 xs r (.returned (.tuple #[.int .i64 z,v])) w':=by obtain⟨ys,hm,hd,_⟩:=h;have hy:ys= []:=List.map_eq_nil_iff.1 hd;subst hy;exact BS.at hR hm AQ
end
section
variable {T:TypeId}{Z w w0 w1:World}{p i j:Nat}{v0 v2 v2' nd nd0 nd1:Value}{xs ys zs:List AW}
def BE.go2(h:BE T Z p v0 v2 w0 nd0 xs ys i w nd)(hm:BE T Z p v0 v2' w nd (xs++ys) zs j w1 nd1):BE T Z p v0 v2' w0 nd0 xs (ys++zs) j w1 nd1:=by
 have hz:=h.but.size;refine⟨by rw[<-Aj];exact hm.ps,h.but.trans h.at_ hm.but,?_,fun b hb=> ?_⟩
 .rcases hm.at_ with hn|hn
  .rcases h.at_ with h'|h'
   .exact .inl (hn.trans h')
   .exact .inr fun b e=>h' b (hn▸e)
  .exact .inr fun b e=>by have:=hn b e;omega
 .rw[DE]at hb;rcases Ak.1 hb with h'|h'
  .exact h.new b h'
  .have:=hm.new b h';omega
def PS.set2(h:PS T Z p v0 v2 w i nd xs)(u:Value):PS T Z p v0 u (w.setCell ⟨p,2,none⟩ u) i nd xs/\Gc p nd w (w.setCell ⟨p,2,none⟩ u):=by
 have hb:Gc p nd w (w.setCell ⟨p,2,none⟩ u):=(EF.refl _ w).setCell (.inl rfl) _;refine⟨⟨?_,BP h.own fun g hg=> ?_,fun x hx=>⟨h.keepI hb (h.lists x hx).1,h.keepI hb (h.lists x hx).2⟩,h.apart,h.low.setCell h.hp _,h.hp,h.ty⟩,hb⟩
 .rw[CX w p 2 _ _ _ h.box];simp
 .refine BZ w ⟨p,2,none⟩ g _ fun e=> ?_;obtain⟨cur,hh,_⟩:=Ag h.own hg;have e':g=p:=e;rw[e',h.box]at hh;have:=Ac hh;simp at this;exact h.ty.1 this.2
end
abbrev Fa(Z:World)(p:Nat)(ta:Option Addr)(tn tc:Nat)(b:Bool):World->Value->List AW->List AW->Nat->World->Value->Prop:=BE 81 Z p (.slice ta tn tc) (.bool b)
def KS(Z:World)(p:Nat)(ta:Option Addr)(tn tc:Nat)(w0:World)(nd0:Value)(xs:List AW)(bx:List Nat)(ns:List AM)(i:Nat)(b:Bool)(w:World)(nd v:Value)(zs:List Int):Prop:=∃ys,Fa Z p ta tn tc b w0 nd0 xs ys i w nd/\(xs++ys).map AW.d=ns/\Dk w Z.heap.size v zs/\(∀k,v.ownBlock=some k->w0.heap.size<=k/\k∉Bm (xs++ys))/\∀k∈bx,aS Z p w0 w nd v (xs++ys) k
section
variable {Z w w0 w1:World}{p i j q:Nat}{nd nd0 nd1 v:Value}{zs:List Int}{xs ys:List AW}{bx:List Nat}{ns:List AM}{ta:Option Addr}{tn tc:Nat}{ts:List CO}{b b' g:Bool}{t:List AM}
def KS.start(h:EV Z p ta tn tc b w i nd xs):KS Z p ta tn tc w nd xs [] (xs.map AW.d) i b w nd A3 []:=⟨[],BE.start h,by rw[A6],Ed _ _,(fun b hb=>by simp[Value.ownBlock]at hb),fun k hk=>by cases hk⟩
def KS.ps(h:KS Z p ta tn tc w0 nd0 xs bx ns i b w nd v zs):∃XS,EV Z p ta tn tc b w i nd XS/\XS.map AW.d=ns:=by obtain⟨ys,hm,hd,_⟩:=h;exact⟨xs++ys,hm.ps,hd⟩
def KS.low(h:KS Z p ta tn tc w0 nd0 xs bx ns i b w nd v zs):Below Z.heap.size Z w:=by obtain⟨XS,hX,_⟩:=h.ps;exact hX.low
def KS.all(h:KS Z p ta tn tc w0 nd0 xs bx ns i b w nd v zs):w.cell? ⟨p,0,none⟩=some (.slice ta tn tc)/\w.cell? ⟨p,1,none⟩=some (.int .i64 (i:Nat))/\w.cell? ⟨p,2,none⟩=some (.bool b)/\w.cell? ⟨p,3,none⟩=some nd/\w.frozen? ⟨p,0,none⟩=false/\w.frozen? ⟨p,1,none⟩=false/\w.frozen? ⟨p,2,none⟩=false/\w.frozen? ⟨p,3,none⟩=false/\p<w.heap.size:=by obtain⟨XS,hX,_⟩:=h.ps;exact hX.all
def KS.ownR(h:KS Z p ta tn tc w0 nd0 xs bx ns i b w nd v zs):w.ownsRow Z.heap.size 3 1 v zs.length (zs.map (Value.int .i64)):=by obtain⟨ys,_,_,ho,_⟩:=h;exact ho
def KS.slice(h:KS Z p ta tn tc w0 nd0 xs bx ns i b w nd v zs):∃a c,v=.slice a zs.length c:=EP h.ownR
def Oe{us:List AW}(hm:Fa Z p ta tn tc b w0 nd0 xs ys i w nd)(ho:Dk w Z.heap.size v zs)(hf:∀k,v.ownBlock=some k->w0.heap.size<=k/\k∉Bm (xs++ys))(hx:∀k∈bx,aS Z p w0 w nd v (xs++ys) k)(hu:Fa Z p ta tn tc b' w nd (xs++ys) us j w1 nd1):KS Z p ta tn tc w0 nd0 xs bx ((xs++ys++us).map AW.d) j b' w1 nd1 v zs/\Eh bx w w1:=by
 refine⟨⟨ys++us,hm.go2 hu,by rw[<-Aj],hm.ps.keepI hu.but ho,fun b hb=>⟨(hf b hb).1,?_⟩,fun k hk=> ?_⟩,fun k hk=> ?_⟩
 .rw[<-Aj,DE];intro hb';rcases Ak.1 hb' with h'|h'
  .exact(hf b hb).2 h'
  .have h1:=hu.new b h';obtain⟨cur,hh,_⟩:=Ag ho hb;have:=lt_of_block hh;omega
 .obtain⟨h1,h2,h3,h4,h5,h6,h7⟩:=hx k hk;refine⟨h1,h2,AX h3 hu.but.size,h4,fun e=> ?_,fun hc=> ?_,h7⟩
  .rcases hu.at_ with h'|h'
   .exact h5 (h'▸e)
   .have:=h' k e;omega
  .rw[<-Aj,DE]at hc;rcases Ak.1 hc with h'|h'
   .exact h6 h'
   .have:=hu.new k h';omega
 .obtain⟨h1,h2,h3,h4,h5,h6,h7⟩:=hx k hk;exact hu.but.block k h3 (by rintro(rfl|e);exact h4 rfl;exact h5 e)
def KS.move(h:KS Z p ta tn tc w0 nd0 xs bx ns i b w nd v zs)(hg:∀XS,EV Z p ta tn tc b w i nd XS->Fa Z p ta tn tc b' w nd XS [] j w1 nd):KS Z p ta tn tc w0 nd0 xs bx ns j b' w1 nd v zs/\Eh bx w w1:=by
 obtain⟨ys,hm,hd,ho,hf,hx⟩:=h;have:=Oe hm ho hf hx (hg _ hm.ps)
 rwa [A6,hd]at this
def KS.below(h:KS Z p ta tn tc w0 nd0 xs bx ns i b w nd v zs)(hb:Below w.heap.size w w1):KS Z p ta tn tc w0 nd0 xs bx ns i b w1 nd v zs:=(h.move fun _ hX=>(BE.start hX).below hb).1
def KS.step(h:KS Z p ta tn tc w0 nd0 xs bx ns i b w nd v zs)(d:Nat)(z:Int)(hz:z=(i:Int)+(d:Nat)):KS Z p ta tn tc w0 nd0 xs bx ns (i+d) b (w.setCell ⟨p,1,none⟩ (.int .i64 z)) nd v zs:=(h.move fun XS hX=>by
 have e:z=((i+d:Nat):Int):=by omega
 subst e;obtain⟨h1,h2⟩:=hX.setAt (i+d);exact⟨by rw[A6];exact h1,h2,.inl rfl,fun b hb=>by simp[Bm]at hb⟩).1
def KS.bad(h:KS Z p ta tn tc w0 nd0 xs bx ns i b w nd v zs):KS Z p ta tn tc w0 nd0 xs bx ns i true (w.setCell ⟨p,2,none⟩ (.bool true)) nd v zs:=(h.move fun XS hX=>by obtain⟨h1,h2⟩:=hX.set2 (.bool true);exact⟨by rw[A6];exact h1,h2,.inl rfl,fun b hb=>by simp[Bm]at hb⟩).1
def KS.via{f:Nat}{args:Array Value}{e0:Ending}(h:KS Z p ta tn tc w0 nd0 xs bx ns i b w nd v zs)(hf:∀XS,EV Z p ta tn tc b w i nd XS->Calls prog f args w fun e w'=>e=e0/\Fa Z p ta tn tc b' w nd XS [] j w' nd):Calls prog f args w fun e w'=>e=e0/\KS Z p ta tn tc w0 nd0 xs bx ns j b' w' nd v zs/\Eh bx w w':=by obtain⟨ys,hm,hd,ho,hf',hx⟩:=h;refine(hf (xs++ys) hm.ps).mono ?_;rintro e w'⟨he,hm'⟩;have:=Oe hm ho hf' hx hm';rw[A6,hd]at this;exact⟨he,this⟩
def Bf(Z:World)(p:Nat)(ta:Option Addr)(tn tc:Nat)(w0:World)(nd0:Value)(xs:List AW)(i:Nat)(g:Bool)(q:Nat)(t:List AM)(e:Ending)(w':World):Prop:=∃z nd' ns',e=.returned (.int .i64 z)/\KS Z p ta tn tc w0 nd0 xs [] ns' q (!g) w' nd' A3 []/\i<=q/\ns'.length<=xs.length+4*(q- i)/\(g=true->ns'.length+1<=xs.length+4*(q- i)/\∃e':Nat,z=e'/\A0 ns' e' t)
def BM(Z:World)(p:Nat)(ta:Option Addr)(tn tc:Nat)(f:Nat)(args:Array Value)(i:Nat)(g:Bool)(q:Nat)(t:List AM):Prop:=∀w nd xs,EV Z p ta tn tc false w i nd xs->xs.length+4*(5000- i)<=100000->Calls prog f args w (Bf Z p ta tn tc w nd xs i g q t)
def KS.read{f:Nat}{args:Array Value}(hR:BM Z p ta tn tc f args i g q t)(h:KS Z p ta tn tc w0 nd0 xs bx ns i false w nd v zs)(AQ:ns.length+4*(5000- i)<=100000):Calls prog f args w fun e w'=>∃z nd' ds,e=.returned (.int .i64 z)/\KS Z p ta tn tc w0 nd0 xs bx (ns++ds) q (!g) w' nd' v zs/\Eh bx w w'/\i<=q/\ds.length<=4*(q- i)/\(g=true->ds.length+1<=4*(q- i)/\∃e':Nat,z=e'/\A0 (ns++ds) e' t):=by
 obtain⟨ys,hm,hd,ho,hf,hx⟩:=h;have hl:(xs++ys).length=ns.length:=by rw[<-hd,AS]
 refine(hR w nd (xs++ys) hm.ps (by rw[hl];exact AQ)).mono ?_;rintro e w'⟨z,nd',ns',rfl,⟨us,hm',hd',_⟩,hiq,hln,ht⟩;have e1:ns'=ns++us.map AW.d:=by rw[<-hd',Ao,hd]
 have:=Oe hm ho hf hx hm';rw[Ao,hd]at this;have hln':=hln;rw[e1,AH,hl]at hln';refine⟨z,nd',us.map AW.d,rfl,this.1,this.2,hiq,by omega,fun hg=> ?_⟩;obtain⟨h1,h2⟩:=ht hg;rw[e1,AH,hl]at h1;exact⟨by omega,by rw[<-e1];exact h2⟩
def KS.gave{e:Ending}{z:Int}(h:KS Z p ta tn tc w0 nd0 xs bx ns q (!g) w nd v zs)(he:e=.returned (.int .i64 z))(hiq:i<=q)(hl:ns.length<=xs.length+4*(q- i))(ht:g=true->ns.length+1<=xs.length+4*(q- i)/\∃e':Nat,z=e'/\A0 ns e' t):Bf Z p ta tn tc w0 nd0 xs i g q t e w:=by obtain⟨ys,hm,hd,_⟩:=h;exact⟨z,nd,ns,he,⟨ys,hm,hd,Ed _ _,(fun b hb=>by simp[Value.ownBlock]at hb),fun k hk=>by cases hk⟩,hiq,hl,ht⟩
def KS.put{s2:Option Addr}{n2 c2:Nat}(h:KS Z p ta tn tc w0 nd0 xs bx ns i b w nd (.slice s2 n2 c2) zs)(k n m:Int)(s:AE)(Ae:ns.length<=1048576):Calls prog 45 #[.pointer (some ⟨p,0,none⟩),.agg #[.int .i64 k,.int .i64 n,.int .i64 m,.string s,.slice none 0 0,.slice s2 n2 c2]] w fun e w'=>e=.returned (.int .i64 (ns.length:Nat))/\∃nd',KS Z p ta tn tc w0 nd0 xs [] (ns++ [⟨k,n,m,s,[],zs⟩]) i b w' nd' A3 []:=by
 obtain⟨ys,hm,hd,ho,hf,_⟩:=h;have hl:(xs++ys).length=ns.length:=by rw[<-hd,AS]
 have hbl:∀k,k∈(Value.slice none 0 0).ownBlock.toList++(Value.slice s2 n2 c2).ownBlock.toList->(Value.slice s2 n2 c2).ownBlock=some k:=fun k hk=>by simpa[Value.ownBlock,Option.mem_toList]using hk
 refine(bT Z p _ _ w i nd (xs++ys) hm.ps k n m s [] zs none s2 0 0 n2 c2 ⟨Ed _ _,ho⟩ (fun k hk=>(hf k (hbl k hk)).2) ?_ (by rw[hl];exact Ae)).mono ?_
 .show((Value.slice none 0 0).ownBlock.toList++(Value.slice s2 n2 c2).ownBlock.toList).Nodup;cases h':(Value.slice s2 n2 c2).ownBlock with
  |none=>simp[Value.ownBlock]
  |some b=>simp[Value.ownBlock]
 .rintro e w'⟨rfl,nd',hs,hb,ha⟩;refine⟨by rw[hl],nd',_,hm.put hs hb ha (fun k hk=>(hf k (hbl k hk)).1),?_,Ed _ _,(fun b hb=>by simp[Value.ownBlock]at hb),fun k hk=>by cases hk⟩;rw[<-Aj,Ao,hd];rfl
def KS.putN{s1:Option Addr}{n1 c1:Nat}(h:KS Z p ta tn tc w0 nd0 xs bx ns i b w nd (.slice s1 n1 c1) zs)(k n m:Int)(s:AE)(Ae:ns.length<=1048576):Calls prog 45 #[.pointer (some ⟨p,0,none⟩),.agg #[.int .i64 k,.int .i64 n,.int .i64 m,.string s,.slice s1 n1 c1,.slice none 0 0]] w fun e w'=>e=.returned (.int .i64 (ns.length:Nat))/\∃nd',KS Z p ta tn tc w0 nd0 xs [] (ns++ [⟨k,n,m,s,zs,[]⟩]) i b w' nd' A3 []:=by
 obtain⟨ys,hm,hd,ho,hf,_⟩:=h;have hl:(xs++ys).length=ns.length:=by rw[<-hd,AS]
 have hbl:∀k,k∈(Value.slice s1 n1 c1).ownBlock.toList++(Value.slice none 0 0).ownBlock.toList->(Value.slice s1 n1 c1).ownBlock=some k:=fun k hk=>by simpa[Value.ownBlock,Option.mem_toList]using hk
 refine(bT Z p _ _ w i nd (xs++ys) hm.ps k n m s zs [] s1 none n1 c1 0 0 ⟨ho,Ed _ _⟩ (fun k hk=>(hf k (hbl k hk)).2) ?_ (by rw[hl];exact Ae)).mono ?_
 .show((Value.slice s1 n1 c1).ownBlock.toList++(Value.slice none 0 0).ownBlock.toList).Nodup;cases h':(Value.slice s1 n1 c1).ownBlock with
  |none=>simp[Value.ownBlock]
  |some b=>simp[Value.ownBlock]
 .rintro e w'⟨rfl,nd',hs,hb,ha⟩;refine⟨by rw[hl],nd',_,hm.put hs hb ha (fun k hk=>(hf k (hbl k hk)).1),?_,Ed _ _,(fun b hb=>by simp[Value.ownBlock]at hb),fun k hk=>by cases hk⟩;rw[<-Aj,Ao,hd];rfl
def KS.grow{w7:World}{g cap:Nat}{us:List Int}{n:Nat}(h:KS Z p ta tn tc w0 nd0 xs bx ns i b w nd v zs)(ET:Dk w7 Z.heap.size (.slice (some ⟨g,0,none⟩) n cap) us)(hg:w.grownBy w7 v.ownBlock)(hat:v.ownBlock=some g\/g=w.heap.size):KS Z p ta tn tc w0 nd0 xs bx ns i b w7 nd (.slice (some ⟨g,0,none⟩) n cap) us/\Eh bx w w7:=by
 obtain⟨ys,hm,hd,ho,hf,hx⟩:=h;have hb:EF (fun x=>v.ownBlock=some x) w w7:=⟨hg.os,hg.tape,hg.output,hg.size,fun k hk hn=>hg.block k hk (fun e=>hn e.symm)⟩
 have hty:∀k,v.ownBlock=some k->k≠p/\nd.ownBlock≠some k/\Z.heap.size<=k:=fun k hk=>by
  obtain⟨cur,hh,hB⟩:=Ag ho hk;refine⟨fun e=> ?_,fun e=> ?_,hB⟩
  .rw[e,hm.ps.box]at hh;have:=Ac hh;simp at this
  .obtain⟨cur',hh',_⟩:=Ag hm.ps.own e;rw[hh']at hh;have:=Ac hh;simp at this
 refine⟨⟨ys,hm.but_ hb fun k hk=>⟨(hf k hk).1,(hty k hk).2.2,(hty k hk).1,(hty k hk).2.1,(hf k hk).2⟩,hd,ET,fun b hb'=> ?_,fun k hk=> ?_⟩,fun k hk=> ?_⟩
 .have e:g=b:=by simpa[Value.ownBlock]using hb'
  subst e;rcases hat with h'|h'
  .exact hf g h'
  .refine⟨by rw[h'];exact hm.but.size,fun hc=> ?_⟩;have:=(hm.ps.blkLt hc).1;omega
 .obtain⟨h1,h2,h3,h4,h5,h6,h7⟩:=hx k hk;refine⟨h1,h2,AX h3 hg.size,h4,h5,h6,fun e=> ?_⟩;have e':g=k:=by simpa[Value.ownBlock]using e
  rcases hat with h'|h'
  .exact h7 (e'▸h')
  .omega
 .obtain⟨h1,h2,h3,h4,h5,h6,h7⟩:=hx k hk;exact hg.block k h3 (fun e=>h7 e.symm)
def KS.list(h:KS Z p ta tn tc w0 nd0 xs bx ns i b w nd v zs)(us:List Int)(hus:us.length<=100):KS Z p ta tn tc w0 nd0 xs bx ns i b (w.alloc (.cells (us.map (Value.int .i64)).toArray 3)) nd (.slice (some ⟨w.heap.size,0,none⟩) us.length us.length) us:=by
 have hb:Below w.heap.size w (w.alloc (.cells (us.map (Value.int .i64)).toArray 3)):=AI.alloc AC _;obtain⟨ys,hm,hd,ho,hf,hx⟩:=h;have Gr:(w.alloc (.cells (us.map (Value.int .i64)).toArray 3)).heap[w.heap.size]? =some (.cells (us.map (Value.int .i64)).toArray 3 (0,0)):=by show(w.heap.push _)[w.heap.size]? =_;simp
 refine⟨ys,hm.below hb,hd,?_,fun b hb'=> ?_,fun k hk=> ?_⟩
 .unfold Dk;refine⟨by simp,.inr ⟨w.heap.size,us.length,_,rfl,hm.ps.low.size,Gr,AC,by unfold maxLen;omega,by simp,?_⟩⟩;rw[Gl,List.toList_toArray];exact AO (by simp)
 .have e:w.heap.size=b:=by simpa[Value.ownBlock]using hb'
  subst e;exact⟨hm.but.size,fun hc=>by have:=(hm.ps.blkLt hc).1;omega⟩
 .obtain⟨a1,a2,a3,a4,a5,a6,a7⟩:=hx k hk;refine⟨a1,a2,by simp;omega,a4,a5,a6,fun e=> ?_⟩;have e':w.heap.size=k:=by simpa[Value.ownBlock]using e
  omega
def KS.box(h:KS Z p ta tn tc w0 nd0 xs bx ns i b w nd v zs)(o:Obj):KS Z p ta tn tc w0 nd0 xs (w.heap.size::bx) ns i b (w.alloc o) nd v zs:=by
 have hb:Below w.heap.size w (w.alloc o):=AI.alloc AC _;obtain⟨ys,hm,hd,ho,hf,hx⟩:=h;refine⟨ys,hm.below hb,hd,BP ho (fun g hg=>hb.block g ((Ag ho hg).elim fun _ hc=>lt_of_block hc.1)),hf,fun k hk=> ?_⟩;rcases DU.1 hk with rfl|hk
 .refine⟨hm.but.size,hm.ps.low.size,by simp,fun e=> ?_,fun e=> ?_,fun hc=> ?_,fun e=> ?_⟩
  .have:=lt_of_block hm.ps.box;omega
  .have:=hm.ps.ndLt e;omega
  .have:=(hm.ps.blkLt hc).1;omega
  .obtain⟨cur,hh,_⟩:=Ag ho e;have:=lt_of_block hh;omega
 .obtain⟨a1,a2,a3,a4⟩:=hx k hk;exact⟨a1,a2,by simp;omega,a4⟩
def KS.setBox{k q:Nat}{u:Value}(h:KS Z p ta tn tc w0 nd0 xs bx ns i b w nd v zs)(hk:k∈bx):KS Z p ta tn tc w0 nd0 xs bx ns i b (w.setCell ⟨k,q,none⟩ u) nd v zs:=by obtain⟨ys,hm,hd,ho,hf,hx⟩:=h;obtain⟨h1,h2,h3,h4,h5,h6,h7⟩:=hx k hk;have hb:EF (fun x=>x=k) w (w.setCell ⟨k,q,none⟩ u):=(EF.refl (fun x=>x=k) w).setCell (p:=⟨k,q,none⟩) rfl _;refine⟨ys,hm.but_ hb (fun j hj=>by subst hj;exact⟨h1,h2,h4,h5,h6⟩),hd,BP ho (fun g hg=>hb.block g ((Ag ho hg).elim fun _ hc=>lt_of_block hc.1) (fun e=>h7 (e▸hg))),hf,fun j hj=> ?_⟩;obtain⟨a1,a2,a3,a4⟩:=hx j hj;exact⟨a1,a2,by simpa using a3,a4⟩
end
def YU{s:AE}{i e j:Nat}(he:e<=s.size)(h:i+j<e):bt (s.extract i e) j=bt s (i+j):=by
 have h1:j<(s.extract i e).size:=by rw[BH];omega
 rw[Nh h1,Nh (by omega:i+j<s.size)];congr 1;exact ByteArray.getElem_extract h1
def O3{s:AE}:∀(F k:Nat)(out:List UInt8),out.length<=k->(BF s F k out).c=0->(BF s F k out).k=2/\(BF s F k out).t.size<=s.size
 |0,_,_,_,h=>by exact absurd h (by unfold BF Di;decide)
 |F+1,k,out,ho,h=>by
  unfold BF at h ⊢;by_cases hk:k<s.size
  .rw[AL hk]at h ⊢;by_cases h39:bt s k=39
   .rw[AL h39]at h ⊢;by_cases hq:Eo s k=true
    .rw[AL hq]at h ⊢;exact O3 F (k+2) _ (by rw[AH];show _+1<=_;omega) h
    .rw[AG hq]at h ⊢;refine⟨rfl,?_⟩;show out.toArray.size<=_;rw[Eu];omega
   .rw[AG h39]at h ⊢;by_cases hb:(Am s k).2=0\/bt s k=10
    .rw[AL hb]at h;exact absurd h (by unfold Di;decide)
    .rw[AG hb]at h ⊢;refine O3 F (k+(Am s k).2) _ ?_ h;rw[AH];have:(s.extract k (k+(Am s k).2)).data.toList.length<=(Am s k).2:=by rw[Array.length_toList];show(s.extract k (k+(Am s k).2)).size<=_;rw[BH];omega
     omega
  .rw[AG hk]at h;exact absurd h (by unfold Di;decide)
def MS(s:AE)(y:CO):Prop:=F0 y/\(y.k=3->∀hi,C8 y.t hi=(decide (bt y.t 0<=90)==hi))/\y.t.size<=s.size/\y.p<s.size
def Vz{s:AE}{i:Nat}(hi:i<s.size)(hc:(BO s i).c=0):MS s ⟨(BO s i).k,(BO s i).n,(BO s i).t,i⟩:=by
 have hp:(⟨(BO s i).k,(BO s i).n,(BO s i).t,i⟩:CO).p<s.size:=hi
 suffices h:F0 ⟨(BO s i).k,(BO s i).n,(BO s i).t,i⟩/\((BO s i).k=3->∀hi,C8 (BO s i).t hi=(decide (bt (BO s i).t 0<=90)==hi))/\(BO s i).t.size<=s.size from⟨h.1,h.2.1,h.2.2,hp⟩
 unfold BO at hc ⊢;by_cases h1:Es (bt s i)=true\/CM s i=true
 .rw[AL h1]at hc ⊢;unfold ED at hc ⊢;dsimp only at hc ⊢;generalize (if CM s i=true then i+2 else i)=f at hc ⊢;by_cases h2:Bb Es s f=f\/(Bb Es s f<s.size/\El (bt s (Bb Es s f))=true)\/CM s (Bb Es s f)=true
  .rw[AL h2]at hc;exact absurd hc (by unfold Di;decide)
  rw[AG h2]at hc ⊢;by_cases h3:1000000000000000<GE s f (Bb Es s f- f)
  .rw[AL h3]at hc;exact absurd hc (by unfold Di;decide)
  rw[AG h3]at hc ⊢;refine⟨.inl ⟨rfl,?_⟩,fun h=>absurd (show(1:Int)=3 from h) (by decide),AZ _⟩;unfold D8;refine AK ?_;dsimp only;split<;>omega
 rw[AG h1]at hc ⊢;by_cases h2:bt s i=39
 .rw[AL h2]at hc ⊢;obtain⟨k1,k2⟩:=O3 (s:=s) (s.size- i) (i+1) [] (AZ _) hc;exact⟨.inr (.inl k1),fun h=>absurd (k1.symm.trans h) (by decide),k2⟩
 rw[AG h2]at hc ⊢;by_cases h3:El (bt s i)=true
 .rw[AL h3]at hc ⊢;unfold Fm at hc ⊢;by_cases h4:20<Bb Bn s i- i
  .rw[AL h4]at hc;exact absurd hc (by unfold Di;decide)
  rw[AG h4]at hc ⊢;have hld:Bn (bt s i)=true:=by unfold Bn;rw[h3];rfl
  have he:i+1<=Bb Bn s i:=by rw[GB hi hld];exact IV _ _ _
  have hle:Bb Bn s i<=s.size:=He _ _ _ (by omega);have hsz:(s.extract i (Bb Bn s i)).size=Bb Bn s i- i:=by rw[BH];omega
  have hb0:bt (s.extract i (Bb Bn s i)) 0=bt s i:=YU hle (by omega);have hl:El (bt (s.extract i (Bb Bn s i)) 0)=true:=by rw[hb0];exact h3
  have hin:∀k,k<(s.extract i (Bb Bn s i)).size->Bn (bt (s.extract i (Bb Bn s i)) k)=true:=fun k hk=>by rw[hsz]at hk;rw[YU (j:=k) hle (by omega)];exact(LE (i:=i) (k:=i+k) (by omega) (by omega)).2
  refine⟨.inr (.inr (.inl ⟨rfl,?_,?_⟩)),fun _ hi=> ?_,?_⟩
  .show 0<(s.extract i (Bb Bn s i)).size;omega
  .show bt (s.extract i (Bb Bn s i)) 0<=90\/97<=bt (s.extract i (Bb Bn s i)) 0;rw[hb0];unfold El at h3;simp only[DG,As]at h3;omega
  .show C8 (s.extract i (Bb Bn s i)) hi=(decide (bt (s.extract i (Bb Bn s i)) 0<=90)==hi)
   unfold C8;rw[AK (show 1<=(s.extract i (Bb Bn s i)).size/\(s.extract i (Bb Bn s i)).size<=20/\El (bt (s.extract i (Bb Bn s i)) 0)=true/\∀k,k<(s.extract i (Bb Bn s i)).size->Bn (bt (s.extract i (Bb Bn s i)) k)=true from⟨by omega,by omega,hl,hin⟩)];rfl
  .show(s.extract i (Bb Bn s i)).size<=_;omega
 rw[AG h3]at hc ⊢;unfold Ea at hc ⊢;by_cases h4:0<(Am s i).2/\(Am s i).1∈Ar
 .rw[AL h4]at hc ⊢;refine⟨.inr (.inr (.inr ⟨rfl,(Am s i).1,h4.2,?_⟩)),fun h=>absurd (show(4:Int)=3 from h) (by decide),?_⟩
  .show s.extract i (i+(Am s i).2)=_;rw[<-Ml hi h4.1,Ty]
  .show(s.extract i (i+(Am s i).2)).size<=_;rw[BH];omega
 .rw[AG h4]at hc;exact absurd hc (by unfold Di;decide)
def Ld{s:AE}:∀(f i:Nat)(acc:List CO),(∀y∈acc,MS s y)->acc.length<=i->(∀y∈(FH s f i acc).1,MS s y)/\(FH s f i acc).1.length<=max s.size i
 |0,i,acc,h,hl=>⟨h,by show acc.length<=_;omega⟩
 |f+1,i,acc,h,hl=>by
  unfold FH;by_cases h1:i<s.size/\DX s i=false
  .rw[AL h1];by_cases h2:bt s i=32\/bt s i=9
   .rw[AL h2];obtain⟨k1,k2⟩:=Ld f (i+1) acc h (by omega);exact⟨k1,by omega⟩
   .rw[AG h2];by_cases h3:(BO s i).c≠0
    .rw[AL h3];exact⟨fun y hy=>(by cases hy),AZ _⟩
    .rw[AG h3];have hc:(BO s i).c=0:=Decidable.not_not.1 h3;obtain⟨he1,he2⟩:=Ic h1.1 hc;obtain⟨k1,k2⟩:=Ld f (BO s i).e (acc++ [⟨(BO s i).k,(BO s i).n,(BO s i).t,i⟩]) (fun y hy=>by
      rcases Ak.1 hy with hy|hy
      .exact h y hy
      .rw[AY]at hy;subst hy;exact Vz h1.1 hc) (by rw[AH];show _+1<=_;omega)
     exact⟨k1,by omega⟩
  .rw[AG h1];exact⟨h,by show acc.length<=_;omega⟩
def JK(s:AE):(∀y∈(Br s).1,MS s y/\y.t.size<=2000/\y.p<2000)/\(Br s).1.length<=2000:=by
 unfold Br;by_cases h:2000<s.size
 .rw[AL h];exact⟨fun y hy=>(by cases hy),AZ _⟩
 .rw[AG h];obtain⟨k1,k2⟩:=Ld (s:=s) (s.size+1) 0 [] (fun y hy=>by cases hy) AC;refine⟨fun y hy=> ?_,by omega⟩;have:=k1 y hy;obtain⟨_,_,h3,h4⟩:=id this;exact⟨this,by omega,by omega⟩
def Ef{T:AE->Bool}{k n m:Int}{s:AE}{nums kids:List Int}(h1:k≠1)(h2:k≠2)(h15:k≠15)(hn:nums.length=0)(hs:((k=3\/k=17\/(19<=k/\k<=22))/\C8 s (decide (k=17\/k=20))=true)\/(¬(k=3\/k=17\/(19<=k/\k<=22))/\s.size=0)):BT T ⟨k,n,m,s,nums,kids⟩=decide (n<=Er k/\(1<=n\/(Er k=0/\n=0))/\0<=m/\m<=D2 k):=by
 unfold BT;dsimp only;rw[AG h1,AG (show ¬ 0<nums.length by omega),AG h2];rcases hs with⟨a,b⟩|⟨a,b⟩
 .rw[AG (fun h=>by rw[b]at h;exact absurd h.2 (by decide)),AG (fun h=>h.1 a),AG h15]
 .rw[AG (fun h=>a h.1),AG (fun h=>h.2 b),AG h15]
def Pq{T:AE->Bool}{n m:Int}{s:AE}{nums kids:List Int}(hn:nums.length=0)(hs:s.size=0):BT T ⟨15,n,m,s,nums,kids⟩=decide (1<=n/\n<=16/\1<=m/\m<=16):=by unfold BT;dsimp only;rw[AG (show ¬(15:Int)=1 by decide),AG (show ¬ 0<nums.length by omega),AG (show ¬(15:Int)=2 by decide),AG (by rintro⟨h,-⟩;omega),AG (fun h=>h.2 hs),AL rfl]
def DY{T:AE->Bool}{k n m:Int}{s:AE}{nums kids:List Int}(h1:k≠1)(hn:0<nums.length):BT T ⟨k,n,m,s,nums,kids⟩=false:=by unfold BT;dsimp only;rw[AG h1,AL hn]
def II{T:AE->Bool}{k n m:Int}{s:AE}{nums kids:List Int}(h1:k≠1)(h2:k≠2)(hn:nums.length=0)(ha:k=3\/k=17\/(19<=k/\k<=22))(hb:C8 s (decide (k=17\/k=20))=false):BT T ⟨k,n,m,s,nums,kids⟩=false:=by unfold BT;dsimp only;rw[AG h1,AG (show ¬ 0<nums.length by omega),AG h2,AL ⟨ha,hb⟩]
def E7{T:AE->Bool}{k n m:Int}{s:AE}{nums kids:List Int}(h1:k≠1)(h2:k≠2)(hn:nums.length=0)(ha:¬(k=3\/k=17\/(19<=k/\k<=22)))(hb:s.size≠0):BT T ⟨k,n,m,s,nums,kids⟩=false:=by unfold BT;dsimp only;rw[AG h1,AG (show ¬ 0<nums.length by omega),AG h2,AG (fun h=>ha h.1),AL ⟨ha,hb⟩]
def Lc(s:AE)(hi r:Bool)(hs:s.size<=1048576)(h:C8 s hi=r)(W:World):Calls prog 56 #[.string s,.bool hi] W fun e w'=>e=.returned (.bool r)/\w'=W:=by rw[<-h];exact ND s hi W hs
def GC{s:AE}(h:s.size=0):s=⟨#[]⟩:=CJ (Gd h)
def Ie{s:AE}(h:s.size≠0):s.toList.isEmpty=false:=by
 rw[Lib.toList_data];cases hl:s.data.toList with
 |nil=>exact absurd (by rw[Lib.size_eq,hl];rfl) h
 |cons a r=>rfl
