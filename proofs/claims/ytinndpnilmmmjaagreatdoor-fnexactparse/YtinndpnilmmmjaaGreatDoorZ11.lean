import Derived.Test.YtinndpnilmmmjaaGreatDoorZ07
set_option maxHeartbeats 4000000
set_option linter.defProp false
namespace Go.Proofs.YtinndpnilmmmjaaGreatDoor
open Go.RowKit Tryz
def U4(b off n cap:Nat)(ks:List Int)(w:World)(h:Df w (some ⟨b,off,none⟩) n ks):Calls prog 25 #[.int .i64 17,.slice (some ⟨b,off,none⟩) n cap] w fun e w'=>e=.returned (.bool (Bu 17 ks))/\Below w.heap.size w w':=by
 have Ae:=h.len;obtain⟨r,hr⟩:∃r,Bu 17 ks=r:=⟨_,rfl⟩
 rw[hr];have HR:Hid (B3 [] ks=r):=hr;clear hr;by_cases hn:n=0;case neg=>
  have hg:((0:Int) !=(n:Int))=true:=by simp;omega
  have HE:Hid (false=r):=by show _=_;rw[<-AA HR];exact(Cn _ _ (by rw[Ae];exact fun e=>hn e.symm)).symm
  clear hn;go_enter func25,ntmps25;go_wp2_with fail;go_ret;exact⟨AN (AA HE),AI.alloc AC _⟩
 subst hn;have H:=AB h;clear h;go_enter func25,ntmps25;go_wp2_with fail;go_loopw[7] (fun i wr=>∃j:Nat,j<=0/\i=.int .i64 j/\Hid (B3 (List.take j []) (ks.take j)=true)/\Hid (Below w.heap.size w wr)) (fun i _=>0- (intOf i).toNat);case atStart=>exact⟨0,AZ _,rfl,rfl,AI.alloc AC _⟩
 case round=>
  obtain⟨j,hj,rfl,HA,HB⟩:=hrel;have hjn:j=0:=by omega
  subst hjn;have HE:Hid (true=r):=by show _=_;rw[<-AA HR];have:=AA HA;rw[AO (by simp),AO (by omega)]at this;exact this.symm
  go_wp2_with fail;go_ret;exact⟨AN (AA HE),AA HB⟩
def U3(b off n cap:Nat)(ks:List Int)(w:World)(h:Df w (some ⟨b,off,none⟩) n ks):Calls prog 25 #[.int .i64 18,.slice (some ⟨b,off,none⟩) n cap] w fun e w'=>e=.returned (.bool (Bu 18 ks))/\Below w.heap.size w w':=by
 have Ae:=h.len;obtain⟨r,hr⟩:∃r,Bu 18 ks=r:=⟨_,rfl⟩
 rw[hr];have HR:Hid (B3 [] ks=r):=hr;clear hr;by_cases hn:n=0;case neg=>
  have hg:((0:Int) !=(n:Int))=true:=by simp;omega
  have HE:Hid (false=r):=by show _=_;rw[<-AA HR];exact(Cn _ _ (by rw[Ae];exact fun e=>hn e.symm)).symm
  clear hn;go_enter func25,ntmps25;go_wp2_with fail;go_ret;exact⟨AN (AA HE),AI.alloc AC _⟩
 subst hn;have H:=AB h;clear h;go_enter func25,ntmps25;go_wp2_with fail;go_loopw[7] (fun i wr=>∃j:Nat,j<=0/\i=.int .i64 j/\Hid (B3 (List.take j []) (ks.take j)=true)/\Hid (Below w.heap.size w wr)) (fun i _=>0- (intOf i).toNat);case atStart=>exact⟨0,AZ _,rfl,rfl,AI.alloc AC _⟩
 case round=>
  obtain⟨j,hj,rfl,HA,HB⟩:=hrel;have hjn:j=0:=by omega
  subst hjn;have HE:Hid (true=r):=by show _=_;rw[<-AA HR];have:=AA HA;rw[AO (by simp),AO (by omega)]at this;exact this.symm
  go_wp2_with fail;go_ret;exact⟨AN (AA HE),AA HB⟩
def U2(b off n cap:Nat)(ks:List Int)(w:World)(h:Df w (some ⟨b,off,none⟩) n ks):Calls prog 25 #[.int .i64 19,.slice (some ⟨b,off,none⟩) n cap] w fun e w'=>e=.returned (.bool (Bu 19 ks))/\Below w.heap.size w w':=by
 have Ae:=h.len;obtain⟨r,hr⟩:∃r,Bu 19 ks=r:=⟨_,rfl⟩
 rw[hr];have HR:Hid (B3 [101] ks=r):=hr;clear hr;by_cases hn:n=1;case neg=>
  have hg:((1:Int) !=(n:Int))=true:=by simp;omega
  have HE:Hid (false=r):=by show _=_;rw[<-AA HR];exact(Cn _ _ (by rw[Ae];exact fun e=>hn e.symm)).symm
  clear hn;go_enter func25,ntmps25;go_wp2_with fail;go_ret;exact⟨AN (AA HE),AI.alloc AC _⟩
 subst hn;have H:=AB h;clear h;go_enter func25,ntmps25;go_wp2_with fail;go_loopw[7] (fun i wr=>∃j:Nat,j<=1/\i=.int .i64 j/\Hid (B3 (List.take j [101]) (ks.take j)=true)/\Hid (Below w.heap.size w wr)) (fun i _=>1- (intOf i).toNat);case atStart=>exact⟨0,AZ _,rfl,rfl,AI.alloc AC _⟩
 case round=>
  obtain⟨j,hj,rfl,HA,HB⟩:=hrel;by_cases h0:j=0
  .subst h0;obtain⟨b',Hr,e',hbl,hc0⟩:=((AA H).below AC (AA HB)).get (k:=0) (by omega);cases e';obtain⟨x,hx⟩:∃x,ks.getD 0 0=x:=⟨_,rfl⟩
   rw[hx]at hc0;rw[Ad]at hc0;have HX:=AB hx;clear hx;cases hE:I2 101 x with
   |false=>
    have HI:=AB (fun W=>Ga 101 x (.inl rfl) false hE W);have HE:Hid (false=r):=by show _=_;rw[<-AA HR];exact(EQ [101] ks 0 (by omega) (by rw[AA HX];exact hE) Ae.symm).symm
    clear hE;go_wp2_with fail;go_quiet((go_at_call 53;exact Calls.quiet_of_same (AA HI _)));go_wp2_with fail;go_ret;exact⟨AN (AA HE),Below.drewN (AA HB) _⟩
   |true=>
    have HI:=AB (fun W=>Ga 101 x (.inl rfl) true hE W);have HT:Hid (B3 (List.take 1 [101]) (ks.take 1)=true):=Dq [101] ks 0 Ae.symm (by omega) (AA HA) (by rw[AA HX];exact hE);clear hE;go_wp2_with fail;go_quiet((go_at_call 53;exact Calls.quiet_of_same (AA HI _)));go_wp2_with fail;go_roundw;case rel=>exact⟨1,by omega,by go_num,HT,Below.drewN (AA HB) _⟩
    case measure=>simp[intOf]
  have hjn:j=1:=by omega
  subst hjn;have HE:Hid (true=r):=by show _=_;rw[<-AA HR];have:=AA HA;rw[AO (by simp),AO (by omega)]at this;exact this.symm
  go_wp2_with fail;go_ret;exact⟨AN (AA HE),AA HB⟩
def U1(b off n cap:Nat)(ks:List Int)(w:World)(h:Df w (some ⟨b,off,none⟩) n ks):Calls prog 25 #[.int .i64 20,.slice (some ⟨b,off,none⟩) n cap] w fun e w'=>e=.returned (.bool (Bu 20 ks))/\Below w.heap.size w w':=by
 have Ae:=h.len;obtain⟨r,hr⟩:∃r,Bu 20 ks=r:=⟨_,rfl⟩
 rw[hr];have HR:Hid (B3 [98] ks=r):=hr;clear hr;by_cases hn:n=1;case neg=>
  have hg:((1:Int) !=(n:Int))=true:=by simp;omega
  have HE:Hid (false=r):=by show _=_;rw[<-AA HR];exact(Cn _ _ (by rw[Ae];exact fun e=>hn e.symm)).symm
  clear hn;go_enter func25,ntmps25;go_wp2_with fail;go_ret;exact⟨AN (AA HE),AI.alloc AC _⟩
 subst hn;have H:=AB h;clear h;go_enter func25,ntmps25;go_wp2_with fail;go_loopw[7] (fun i wr=>∃j:Nat,j<=1/\i=.int .i64 j/\Hid (B3 (List.take j [98]) (ks.take j)=true)/\Hid (Below w.heap.size w wr)) (fun i _=>1- (intOf i).toNat);case atStart=>exact⟨0,AZ _,rfl,rfl,AI.alloc AC _⟩
 case round=>
  obtain⟨j,hj,rfl,HA,HB⟩:=hrel;by_cases h0:j=0
  .subst h0;obtain⟨b',Hr,e',hbl,hc0⟩:=((AA H).below AC (AA HB)).get (k:=0) (by omega);cases e';obtain⟨x,hx⟩:∃x,ks.getD 0 0=x:=⟨_,rfl⟩
   rw[hx]at hc0;rw[Ad]at hc0;have HX:=AB hx;clear hx;cases hE:I2 98 x with
   |false=>
    have HI:=AB (fun W=>Ga 98 x (.inr (.inr (.inr (.inl rfl)))) false hE W);have HE:Hid (false=r):=by show _=_;rw[<-AA HR];exact(EQ [98] ks 0 (by omega) (by rw[AA HX];exact hE) Ae.symm).symm
    clear hE;go_wp2_with fail;go_quiet((go_at_call 53;exact Calls.quiet_of_same (AA HI _)));go_wp2_with fail;go_ret;exact⟨AN (AA HE),Below.drewN (AA HB) _⟩
   |true=>
    have HI:=AB (fun W=>Ga 98 x (.inr (.inr (.inr (.inl rfl)))) true hE W);have HT:Hid (B3 (List.take 1 [98]) (ks.take 1)=true):=Dq [98] ks 0 Ae.symm (by omega) (AA HA) (by rw[AA HX];exact hE);clear hE;go_wp2_with fail;go_quiet((go_at_call 53;exact Calls.quiet_of_same (AA HI _)));go_wp2_with fail;go_roundw;case rel=>exact⟨1,by omega,by go_num,HT,Below.drewN (AA HB) _⟩
    case measure=>simp[intOf]
  have hjn:j=1:=by omega
  subst hjn;have HE:Hid (true=r):=by show _=_;rw[<-AA HR];have:=AA HA;rw[AO (by simp),AO (by omega)]at this;exact this.symm
  go_wp2_with fail;go_ret;exact⟨AN (AA HE),AA HB⟩
def Uz(b off n cap:Nat)(ks:List Int)(w:World)(h:Df w (some ⟨b,off,none⟩) n ks):Calls prog 25 #[.int .i64 22,.slice (some ⟨b,off,none⟩) n cap] w fun e w'=>e=.returned (.bool (Bu 22 ks))/\Below w.heap.size w w':=by
 have Ae:=h.len;obtain⟨r,hr⟩:∃r,Bu 22 ks=r:=⟨_,rfl⟩
 rw[hr];have HR:Hid (B3 [101] ks=r):=hr;clear hr;by_cases hn:n=1;case neg=>
  have hg:((1:Int) !=(n:Int))=true:=by simp;omega
  have HE:Hid (false=r):=by show _=_;rw[<-AA HR];exact(Cn _ _ (by rw[Ae];exact fun e=>hn e.symm)).symm
  clear hn;go_enter func25,ntmps25;go_wp2_with fail;go_ret;exact⟨AN (AA HE),AI.alloc AC _⟩
 subst hn;have H:=AB h;clear h;go_enter func25,ntmps25;go_wp2_with fail;go_loopw[7] (fun i wr=>∃j:Nat,j<=1/\i=.int .i64 j/\Hid (B3 (List.take j [101]) (ks.take j)=true)/\Hid (Below w.heap.size w wr)) (fun i _=>1- (intOf i).toNat);case atStart=>exact⟨0,AZ _,rfl,rfl,AI.alloc AC _⟩
 case round=>
  obtain⟨j,hj,rfl,HA,HB⟩:=hrel;by_cases h0:j=0
  .subst h0;obtain⟨b',Hr,e',hbl,hc0⟩:=((AA H).below AC (AA HB)).get (k:=0) (by omega);cases e';obtain⟨x,hx⟩:∃x,ks.getD 0 0=x:=⟨_,rfl⟩
   rw[hx]at hc0;rw[Ad]at hc0;have HX:=AB hx;clear hx;cases hE:I2 101 x with
   |false=>
    have HI:=AB (fun W=>Ga 101 x (.inl rfl) false hE W);have HE:Hid (false=r):=by show _=_;rw[<-AA HR];exact(EQ [101] ks 0 (by omega) (by rw[AA HX];exact hE) Ae.symm).symm
    clear hE;go_wp2_with fail;go_quiet((go_at_call 53;exact Calls.quiet_of_same (AA HI _)));go_wp2_with fail;go_ret;exact⟨AN (AA HE),Below.drewN (AA HB) _⟩
   |true=>
    have HI:=AB (fun W=>Ga 101 x (.inl rfl) true hE W);have HT:Hid (B3 (List.take 1 [101]) (ks.take 1)=true):=Dq [101] ks 0 Ae.symm (by omega) (AA HA) (by rw[AA HX];exact hE);clear hE;go_wp2_with fail;go_quiet((go_at_call 53;exact Calls.quiet_of_same (AA HI _)));go_wp2_with fail;go_roundw;case rel=>exact⟨1,by omega,by go_num,HT,Below.drewN (AA HB) _⟩
    case measure=>simp[intOf]
  have hjn:j=1:=by omega
  subst hjn;have HE:Hid (true=r):=by show _=_;rw[<-AA HR];have:=AA HA;rw[AO (by simp),AO (by omega)]at this;exact this.symm
  go_wp2_with fail;go_ret;exact⟨AN (AA HE),AA HB⟩
