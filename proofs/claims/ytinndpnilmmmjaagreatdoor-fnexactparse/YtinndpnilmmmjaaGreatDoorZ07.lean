import Derived.Test.YtinndpnilmmmjaaGreatDoorZ06
import Derived.Deep.RegionHeld
set_option maxHeartbeats 4000000
set_option linter.defProp false
namespace Go.Proofs.YtinndpnilmmmjaaGreatDoor
open Go.RowKit Tryz
def Ga(c:Nat)(k:Int)(hc:c=101\/c=112\/c=102\/c=98\/c=115\/c=105)(r:Bool)(hr:I2 c k=r)(W:World):Calls prog 53 #[.int .u8 (c:Nat),.int .i64 k] W fun e w'=>e=.returned (.bool r)/\w'=W:=by rw[<-hr];exact Qg c k W hc
def Rc(c:Nat)(a:Option Addr)(n cap:Nat)(zs:List Int)(W:World)(hc:c=101\/c=112\/c=102\/c=98\/c=115\/c=105)(h:Df W a n zs)(r:Bool)(hr:zs.all (I2 c)=r):Calls prog 54 #[.int .u8 (c:Nat),.slice a n cap] W fun e w'=>e=.returned (.bool r)/\w'=W:=by rw[<-hr];exact Pb c a n cap zs W hc h
def XR(b off n:Nat)(ks:List Int)(w:World)(h:Df w (some ⟨b,off,none⟩) n ks):Calls prog 25 #[.int .i64 7,.slice (some ⟨b,off,none⟩) n n] w fun e w'=>e=.returned (.bool (Bu 7 ks))/\Below w.heap.size w w':=by
 have Ae:=h.len;have hsm:=h.small;obtain⟨r,hr⟩:∃r,Bu 7 ks=r:=⟨_,rfl⟩
 rw[hr];have HR:Hid ((decide (2<=ks.length)&&(FQ (ks.getD 0 0)&&(ks.drop 1).all N4))=r):=hr;clear hr;by_cases hn:2<=n;case neg=>
  have hg:¬(1:Int)<(n:Int):=by omega
  have HE:Hid (false=r):=by show _=_;rw[<-AA HR,AD (by omega)];rfl
  go_enter func25,ntmps25;go_wp2_with fail;go_ret;exact⟨AN (AA HE),AI⟩
 have hg:(1:Int)<(n:Int):=by omega
 obtain⟨b',Hr,e',hbl,hc0⟩:=h.get (k:=0) (by omega);cases e';have hd:=h.drop rfl 1 (by omega);have HD:=AB hd;obtain⟨x,hx⟩:∃x,ks.getD 0 0=x:=⟨_,rfl⟩
 rw[hx]at hc0;rw[Ad]at hc0;rw[AK (show 2<=ks.length by omega),Ap,hx]at HR;obtain⟨zs,hzs⟩:∃zs,ks.drop 1=zs:=⟨_,rfl⟩
 rw[hzs]at HD HR;clear h hd hx hzs;have hcap:¬ n=1:=by omega
 have hcap1:(n:Int)- 1=((n- 1:Nat):Int):=by omega
 cases hE:FQ x with
 |false=>
  have HI:=AB (fun W=>Ga 101 x (.inl rfl) false hE W);have HE:Hid (false=r):=by show _=_;rw[<-AA HR,hE];rfl
  clear hE;go_enter func25,ntmps25;go_wp2_with(first|(go_at_call 53;refine(AA HI _).mono ?_;rintro e w1⟨rfl,rfl⟩));go_ret;exact⟨AN (AA HE),AI⟩
 |true=>
  have HI:=AB (fun W=>Ga 101 x (.inl rfl) true hE W);rw[hE,Ap]at HR;clear hE;have HA:=AB (Rc 112 (some ⟨b,off+1,none⟩) (n- 1) (n- 1) zs w (.inr (.inl rfl)) (AA HD) r (AA HR));go_enter func25,ntmps25;go_wp2_with(first|(go_at_call 53;refine(AA HI _).mono ?_;rintro e w1⟨rfl,rfl⟩)|(go_at_call 54;refine(AA HA).mono ?_;rintro e w1⟨rfl,rfl⟩));go_ret;exact⟨rfl,AI⟩
def U0(b off n:Nat)(ks:List Int)(w:World)(h:Df w (some ⟨b,off,none⟩) n ks):Calls prog 25 #[.int .i64 21,.slice (some ⟨b,off,none⟩) n n] w fun e w'=>e=.returned (.bool (Bu 21 ks))/\Below w.heap.size w w':=by
 have Ae:=h.len;have hsm:=h.small;obtain⟨r,hr⟩:∃r,Bu 21 ks=r:=⟨_,rfl⟩
 rw[hr];have HR:Hid ((decide (2<=ks.length)&&((ks.take (ks.length- 1)).all N4&&FQ (ks.getD (ks.length- 1) 0)))=r):=hr;clear hr;by_cases hn:2<=n;case neg=>
  have hg:¬(1:Int)<(n:Int):=by omega
  have HE:Hid (false=r):=by show _=_;rw[<-AA HR,AD (by omega)];rfl
  go_enter func25,ntmps25;go_wp2_with fail;go_ret;exact⟨AN (AA HE),AI⟩
 have hg:(1:Int)<(n:Int):=by omega
 obtain⟨b',Hr,e',hbl,hc0⟩:=h.get (k:=n- 1) (by omega);cases e';have hd:=h.take (n- 1) (by omega);have HD:=AB hd;obtain⟨x,hx⟩:∃x,ks.getD (n- 1) 0=x:=⟨_,rfl⟩
 rw[hx]at hc0;rw[AK (show 2<=ks.length by omega),Ap,Ae,hx]at HR;obtain⟨zs,hzs⟩:∃zs,ks.take (n- 1)=zs:=⟨_,rfl⟩
 rw[hzs]at HD HR;clear h hd hx hzs;obtain⟨m,hm⟩:∃m,n=m+1:=⟨n- 1,by omega⟩
 subst hm;rw[Nat.add_sub_cancel]at HD hc0;have hcap1:(((m+1:Nat):Int)- 1)=((m:Nat):Int):=by omega
 have hcap2:(((m:Nat):Int)+1- 1)=((m:Nat):Int):=by omega
 have hml:(m:Int)<=((m:Nat):Int)+1:=by omega
 cases hE:zs.all N4 with
 |false=>
  have HA:=AB (Rc 112 (some ⟨b,off,none⟩) m (m+1) zs w (.inr (.inl rfl)) (AA HD) false hE);have HE:Hid (false=r):=by show _=_;rw[<-AA HR,hE];rfl
  clear hE;go_enter func25,ntmps25;go_wp2_with(first|(go_at_call 54;refine(AA HA).mono ?_;rintro e w1⟨rfl,rfl⟩));go_ret;exact⟨AN (AA HE),AI⟩
 |true=>
  have HA:=AB (Rc 112 (some ⟨b,off,none⟩) m (m+1) zs w (.inr (.inl rfl)) (AA HD) true hE);rw[hE,Ap]at HR;clear hE;have HI:=AB (fun W=>Ga 101 x (.inl rfl) r (AA HR) W);go_enter func25,ntmps25;go_wp2_with(first|(go_at_call 53;refine(AA HI _).mono ?_;rintro e w1⟨rfl,rfl⟩)|(go_at_call 54;refine(AA HA).mono ?_;rintro e w1⟨rfl,rfl⟩));go_ret;exact⟨rfl,AI⟩
def U5(a:Option Addr)(n cap:Nat)(ks:List Int)(w:World)(h:Df w a n ks):Calls prog 25 #[.int .i64 16,.slice a n cap] w fun e w'=>e=.returned (.bool (Bu 16 ks))/\Below w.heap.size w w':=by have HA:=AB (Rc 105 a n cap ks w (.inr (.inr (.inr (.inr (.inr rfl))))) h (Bu 16 ks) rfl);clear h;go_enter func25,ntmps25;go_wp2_with(first|(go_at_call 54;refine(AA HA).mono ?_;rintro e w1⟨rfl,rfl⟩));go_ret;exact⟨rfl,AI⟩
def Uw(a:Option Addr)(n cap:Nat)(ks:List Int)(w:World)(h:Df w a n ks):Calls prog 25 #[.int .i64 25,.slice a n cap] w fun e w'=>e=.returned (.bool (Bu 25 ks))/\Below w.heap.size w w':=by have HA:=AB (Rc 115 a n cap ks w (.inr (.inr (.inr (.inr (.inl rfl))))) h (Bu 25 ks) rfl);clear h;go_enter func25,ntmps25;go_wp2_with(first|(go_at_call 54;refine(AA HA).mono ?_;rintro e w1⟨rfl,rfl⟩));go_ret;exact⟨rfl,AI⟩
def Dq:∀(cs:List Nat)(ks:List Int)(j:Nat),cs.length=ks.length->j<ks.length->B3 (cs.take j) (ks.take j)=true->I2 (cs.getD j 0) (ks.getD j 0)=true->B3 (cs.take (j+1)) (ks.take (j+1))=true
 | [],[],j,_,hj,_,_=>absurd hj (Bc _)
 |c::cs,k::ks,0,_,_,_,h=>by simp at h;simp[B3,h]
 |c::cs,k::ks,j+1,hl,hj,h1,h2=>by simp only[List.take_succ_cons,B3,An]at h1 ⊢;refine⟨h1.1,Dq cs ks j (by simpa using hl) (by simpa using hj) h1.2 (by simpa using h2)⟩
def EQ:∀(cs:List Nat)(ks:List Int)(j:Nat),j<ks.length->I2 (cs.getD j 0) (ks.getD j 0)=false->cs.length=ks.length->B3 cs ks=false
 | [],[],j,hj,_,_=>absurd hj (Bc _)
 |c::cs,k::ks,0,_,h,_=>by simp at h;simp[B3,h]
 |c::cs,k::ks,j+1,hj,h,hl=>by rw[B3,EQ cs ks j (by simpa using hj) (by simpa using h) (by simpa using hl),Da]
def Cn:∀(cs:List Nat)(ks:List Int),cs.length≠ks.length->B3 cs ks=false
 | [],[],h=>absurd rfl h
 | [],_::_,_=>rfl
 |_::_,[],_=>rfl
 |c::cs,k::ks,h=>by rw[B3,Cn cs ks (by simpa using h),Da]
def Uy(b off n cap:Nat)(ks:List Int)(w:World)(h:Df w (some ⟨b,off,none⟩) n ks):Calls prog 25 #[.int .i64 23,.slice (some ⟨b,off,none⟩) n cap] w fun e w'=>e=.returned (.bool (Bu 23 ks))/\Below w.heap.size w w':=by
 have Ae:=h.len;obtain⟨r,hr⟩:∃r,Bu 23 ks=r:=⟨_,rfl⟩
 rw[hr];have HR:Hid (B3 [101,101] ks=r):=hr;clear hr;by_cases hn:n=2;case neg=>
  have hg:((2:Int) !=(n:Int))=true:=by simp;omega
  have HE:Hid (false=r):=by show _=_;rw[<-AA HR];exact(Cn _ _ (by rw[Ae];exact fun e=>hn e.symm)).symm
  clear hn;go_enter func25,ntmps25;go_wp2_with fail;go_ret;exact⟨AN (AA HE),AI.alloc AC _⟩
 subst hn;have H:=AB h;clear h;go_enter func25,ntmps25;go_wp2_with fail;go_loopw[7] (fun i wr=>∃j:Nat,j<=2/\i=.int .i64 j/\Hid (B3 (List.take j [101,101]) (ks.take j)=true)/\Hid (Below w.heap.size w wr)) (fun i _=>2- (intOf i).toNat);case atStart=>exact⟨0,AZ _,rfl,rfl,AI.alloc AC _⟩
 case round=>
  obtain⟨j,hj,rfl,HA,HB⟩:=hrel;by_cases h0:j=0
  .subst h0;obtain⟨b',Hr,e',hbl,hc0⟩:=((AA H).below AC (AA HB)).get (k:=0) (by omega);cases e';obtain⟨x,hx⟩:∃x,ks.getD 0 0=x:=⟨_,rfl⟩
   rw[hx]at hc0;rw[Ad]at hc0;have HX:=AB hx;clear hx;cases hE:I2 101 x with
   |false=>
    have HI:=AB (fun W=>Ga 101 x (.inl rfl) false hE W);have HE:Hid (false=r):=by show _=_;rw[<-AA HR];exact(EQ [101,101] ks 0 (by omega) (by rw[AA HX];exact hE) Ae.symm).symm
    clear hE;go_wp2_with fail;go_quiet((go_at_call 53;exact Calls.quiet_of_same (AA HI _)));go_wp2_with fail;go_ret;exact⟨AN (AA HE),Below.drewN (AA HB) _⟩
   |true=>
    have HI:=AB (fun W=>Ga 101 x (.inl rfl) true hE W);have HT:Hid (B3 (List.take 1 [101,101]) (ks.take 1)=true):=Dq [101,101] ks 0 Ae.symm (by omega) (AA HA) (by rw[AA HX];exact hE);clear hE;go_wp2_with fail;go_quiet((go_at_call 53;exact Calls.quiet_of_same (AA HI _)));go_wp2_with fail;go_roundw;case rel=>exact⟨1,by omega,by go_num,HT,Below.drewN (AA HB) _⟩
    case measure=>simp[intOf]
  by_cases h1:j=1
  .subst h1;obtain⟨b',Hr,e',hbl,hc0⟩:=((AA H).below AC (AA HB)).get (k:=1) (by omega);cases e';obtain⟨x,hx⟩:∃x,ks.getD 1 0=x:=⟨_,rfl⟩
   rw[hx]at hc0;have HX:=AB hx;clear hx;cases hE:I2 101 x with
   |false=>
    have HI:=AB (fun W=>Ga 101 x (.inl rfl) false hE W);have HE:Hid (false=r):=by show _=_;rw[<-AA HR];exact(EQ [101,101] ks 1 (by omega) (by rw[AA HX];exact hE) Ae.symm).symm
    clear hE;go_wp2_with fail;go_quiet((go_at_call 53;exact Calls.quiet_of_same (AA HI _)));go_wp2_with fail;go_ret;exact⟨AN (AA HE),Below.drewN (AA HB) _⟩
   |true=>
    have HI:=AB (fun W=>Ga 101 x (.inl rfl) true hE W);have HT:Hid (B3 (List.take 2 [101,101]) (ks.take 2)=true):=Dq [101,101] ks 1 Ae.symm (by omega) (AA HA) (by rw[AA HX];exact hE);clear hE;go_wp2_with fail;go_quiet((go_at_call 53;exact Calls.quiet_of_same (AA HI _)));go_wp2_with fail;go_roundw;case rel=>exact⟨2,by omega,by go_num,HT,Below.drewN (AA HB) _⟩
    case measure=>simp[intOf]
  have hjn:j=2:=by omega
  subst hjn;have HE:Hid (true=r):=by show _=_;rw[<-AA HR];have:=AA HA;rw[AO (by simp),AO (by omega)]at this;exact this.symm
  go_wp2_with fail;go_ret;exact⟨AN (AA HE),AA HB⟩
def Ux(b off n cap:Nat)(ks:List Int)(w:World)(h:Df w (some ⟨b,off,none⟩) n ks):Calls prog 25 #[.int .i64 24,.slice (some ⟨b,off,none⟩) n cap] w fun e w'=>e=.returned (.bool (Bu 24 ks))/\Below w.heap.size w w':=by
 have Ae:=h.len;obtain⟨r,hr⟩:∃r,Bu 24 ks=r:=⟨_,rfl⟩
 rw[hr];have HR:Hid (B3 [101,101] ks=r):=hr;clear hr;by_cases hn:n=2;case neg=>
  have hg:((2:Int) !=(n:Int))=true:=by simp;omega
  have HE:Hid (false=r):=by show _=_;rw[<-AA HR];exact(Cn _ _ (by rw[Ae];exact fun e=>hn e.symm)).symm
  clear hn;go_enter func25,ntmps25;go_wp2_with fail;go_ret;exact⟨AN (AA HE),AI.alloc AC _⟩
 subst hn;have H:=AB h;clear h;go_enter func25,ntmps25;go_wp2_with fail;go_loopw[7] (fun i wr=>∃j:Nat,j<=2/\i=.int .i64 j/\Hid (B3 (List.take j [101,101]) (ks.take j)=true)/\Hid (Below w.heap.size w wr)) (fun i _=>2- (intOf i).toNat);case atStart=>exact⟨0,AZ _,rfl,rfl,AI.alloc AC _⟩
 case round=>
  obtain⟨j,hj,rfl,HA,HB⟩:=hrel;by_cases h0:j=0
  .subst h0;obtain⟨b',Hr,e',hbl,hc0⟩:=((AA H).below AC (AA HB)).get (k:=0) (by omega);cases e';obtain⟨x,hx⟩:∃x,ks.getD 0 0=x:=⟨_,rfl⟩
   rw[hx]at hc0;rw[Ad]at hc0;have HX:=AB hx;clear hx;cases hE:I2 101 x with
   |false=>
    have HI:=AB (fun W=>Ga 101 x (.inl rfl) false hE W);have HE:Hid (false=r):=by show _=_;rw[<-AA HR];exact(EQ [101,101] ks 0 (by omega) (by rw[AA HX];exact hE) Ae.symm).symm
    clear hE;go_wp2_with fail;go_quiet((go_at_call 53;exact Calls.quiet_of_same (AA HI _)));go_wp2_with fail;go_ret;exact⟨AN (AA HE),Below.drewN (AA HB) _⟩
   |true=>
    have HI:=AB (fun W=>Ga 101 x (.inl rfl) true hE W);have HT:Hid (B3 (List.take 1 [101,101]) (ks.take 1)=true):=Dq [101,101] ks 0 Ae.symm (by omega) (AA HA) (by rw[AA HX];exact hE);clear hE;go_wp2_with fail;go_quiet((go_at_call 53;exact Calls.quiet_of_same (AA HI _)));go_wp2_with fail;go_roundw;case rel=>exact⟨1,by omega,by go_num,HT,Below.drewN (AA HB) _⟩
    case measure=>simp[intOf]
  by_cases h1:j=1
  .subst h1;obtain⟨b',Hr,e',hbl,hc0⟩:=((AA H).below AC (AA HB)).get (k:=1) (by omega);cases e';obtain⟨x,hx⟩:∃x,ks.getD 1 0=x:=⟨_,rfl⟩
   rw[hx]at hc0;have HX:=AB hx;clear hx;cases hE:I2 101 x with
   |false=>
    have HI:=AB (fun W=>Ga 101 x (.inl rfl) false hE W);have HE:Hid (false=r):=by show _=_;rw[<-AA HR];exact(EQ [101,101] ks 1 (by omega) (by rw[AA HX];exact hE) Ae.symm).symm
    clear hE;go_wp2_with fail;go_quiet((go_at_call 53;exact Calls.quiet_of_same (AA HI _)));go_wp2_with fail;go_ret;exact⟨AN (AA HE),Below.drewN (AA HB) _⟩
   |true=>
    have HI:=AB (fun W=>Ga 101 x (.inl rfl) true hE W);have HT:Hid (B3 (List.take 2 [101,101]) (ks.take 2)=true):=Dq [101,101] ks 1 Ae.symm (by omega) (AA HA) (by rw[AA HX];exact hE);clear hE;go_wp2_with fail;go_quiet((go_at_call 53;exact Calls.quiet_of_same (AA HI _)));go_wp2_with fail;go_roundw;case rel=>exact⟨2,by omega,by go_num,HT,Below.drewN (AA HB) _⟩
    case measure=>simp[intOf]
  have hjn:j=2:=by omega
  subst hjn;have HE:Hid (true=r):=by show _=_;rw[<-AA HR];have:=AA HA;rw[AO (by simp),AO (by omega)]at this;exact this.symm
  go_wp2_with fail;go_ret;exact⟨AN (AA HE),AA HB⟩
def SL{w:World}{B e size n g cap:Nat}{xs:List Value}(h:w.ownsRow B e size (.slice (some ⟨g,0,none⟩) n cap) n xs):B<=g/\g<w.heap.size/\(∀i,i<n*size->w.cell? ⟨g,i,none⟩=xs[i]?)/\(∀i,w.frozen? ⟨g,i,none⟩=false):=by
 rcases h.2 with⟨h',_⟩|⟨g',CW,cur,h',hb,hg,_,_,hcs,ht⟩
 .simp at h'
 .cases h';refine⟨hb,lt_of_block hg,fun i hi=> ?_,fun i=>BJ w g i _ _ hg⟩;have e:cur.toList[i]? =xs[i]? :=by rw[<-ht,BN,AL hi]
  simpa[World.cell?,hg]using e
def Hx(a:Option Addr)(n cap:Nat)(zs:List Int)(w:World)(h:De w a n zs)(hsm:n<=1048576):Calls prog 19 #[.slice a n cap] w fun e w'=>∃g,e=.returned (.slice (some ⟨g,0,none⟩) n n)/\w.heap.size<=g/\g<w'.heap.size/\Rd w' w.heap.size (some ⟨g,0,none⟩) n zs/\Below w.heap.size w w':=by
 obtain⟨Ae,hat⟩:=h;obtain⟨i0,hi,hz0,hz1,hz2⟩:=info_parts Lj;go_enter func19,ntmps19;go_wp2_with(at_make;refine wpList_make_full _ rfl _ _ 33 rfl w.heap.size 5 i0 (.int .u8 0) 1 underlying33 hi hz0 hz1 _ _ _ _ n rfl rfl rfl rfl (by rw[hz2];omega) (by unfold maxLen;omega) AC ?_;intro w1 ET Au);obtain⟨_,hgl,hcc,hff⟩:=SL ET;have hxl:=ET.1;have hbel:Below w.heap.size w w1:=AI.grown Au AC (by simp);have HS0:Hid (∀i,i<n->(w1.cell? ⟨w.heap.size,i,none⟩).isSome=true):=fun i hi=>by rw[hcc i (by omega),AR (by omega)];rfl
 have HF0:Hid (∀i,i<n->w1.frozen? ⟨w.heap.size,i,none⟩=false):=fun i _=>hff i;clear ET Au hi hz0 hz1 hz2 hcc hff hxl
 go_wp2
 go_loopw[4] (fun i wr=>∃k:Nat,k<=n/\i=.int .i64 k/\w.heap.size<wr.heap.size/\Hid (∀i,i<k->wr.cell? ⟨w.heap.size,i,none⟩=some (.int .u8 (zs.getD i 0)))/\Hid (∀i,i<n->(wr.cell? ⟨w.heap.size,i,none⟩).isSome=true)/\Hid (∀i,i<n->wr.frozen? ⟨w.heap.size,i,none⟩=false)/\Hid (Below w.heap.size w wr)) (fun i _=>n- (intOf i).toNat);case atStart=>exact⟨0,AZ _,rfl,hgl,(fun i hi=>absurd hi (Bc _)),HS0,HF0,hbel⟩
 case round=>
  obtain⟨k,hk,rfl,hgz,HC,HS,HF,HB⟩:=hrel;clear HS0 HF0 hbel;by_cases hlt:k<n
  .have hat':∃b off,a=some ⟨b,off,none⟩/\wr.cell? ⟨b,off+k,none⟩=some (.int .u8 (zs.getD k 0)):=by
    rcases hat with h0|⟨b,off,rfl,hlt',hc⟩
    .omega
    .exact⟨b,off,rfl,((AA HB).cell (p:=⟨b,off+k,none⟩) hlt').trans (hc k hlt)⟩
   obtain⟨b,off,rfl,hc⟩:=hat';clear hat;obtain⟨x,hx⟩:∃x,x=zs.getD k 0:=⟨_,rfl⟩
   rw[<-hx]at hc;have HX:=AB hx;have hs1:=AA HS k hlt;have hf2:=AA HF k hlt;obtain⟨u,hc2⟩:=Fl.mp hs1;clear hx hs1
   go_wp2
   go_roundw;case rel=>
    refine⟨k+1,by omega,by go_num,by simpa using hgz,fun i hi=> ?_,fun i hi=> ?_,fun i hi=> ?_,(AA HB).setCell AC _⟩
    .by_cases hij:i=k
     .subst hij;rw[CQ _ _ _ hc2,AA HX]
     .rw[Co _ _ _ _ (by simp<;>omega)];exact AA HC i (by omega)
    .by_cases hij:i=k
     .subst hij;rw[CQ _ _ _ hc2];rfl
     .rw[Co _ _ _ _ (by simp<;>omega)];exact AA HS i hi
    .simpa using AA HF i hi
   case measure=>simp[intOf];omega
  .have hkn:k=n:=by omega
   subst hkn
   go_wp2
   go_ret;refine⟨_,rfl,AC,hgz,⟨Ae,by omega,.inr ⟨w.heap.size,0,rfl,AC,hgz,fun i hi=> ?_,fun i hi=> ?_⟩⟩,AA HB⟩
   .rw[BY];exact AA HC i hi
   .rw[BY];exact AA HF i hi
