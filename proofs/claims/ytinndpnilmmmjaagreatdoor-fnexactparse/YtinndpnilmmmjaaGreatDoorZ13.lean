import Derived.Test.YtinndpnilmmmjaaGreatDoorZ07
set_option maxHeartbeats 4000000
set_option linter.defProp false
namespace Go.Proofs.YtinndpnilmmmjaaGreatDoor
open Go.RowKit Tryz
def XV(b off n cap:Nat)(ks:List Int)(w:World)(h:Df w (some ⟨b,off,none⟩) n ks):Calls prog 25 #[.int .i64 4,.slice (some ⟨b,off,none⟩) n cap] w fun e w'=>e=.returned (.bool (Bu 4 ks))/\Below w.heap.size w w':=by
 have Ae:=h.len;obtain⟨r,hr⟩:∃r,Bu 4 ks=r:=⟨_,rfl⟩
 rw[hr];have HR:Hid (B3 [] ks=r):=hr;clear hr;by_cases hn:n=0;case neg=>
  have hg:((0:Int) !=(n:Int))=true:=by simp;omega
  have HE:Hid (false=r):=by show _=_;rw[<-AA HR];exact(Cn _ _ (by rw[Ae];exact fun e=>hn e.symm)).symm
  clear hn;go_enter func25,ntmps25;go_wp2_with fail;go_ret;exact⟨AN (AA HE),AI.alloc AC _⟩
 subst hn;have H:=AB h;clear h;go_enter func25,ntmps25;go_wp2_with fail;go_loopw[7] (fun i wr=>∃j:Nat,j<=0/\i=.int .i64 j/\Hid (B3 (List.take j []) (ks.take j)=true)/\Hid (Below w.heap.size w wr)) (fun i _=>0- (intOf i).toNat);case atStart=>exact⟨0,AZ _,rfl,rfl,AI.alloc AC _⟩
 case round=>
  obtain⟨j,hj,rfl,HA,HB⟩:=hrel;have hjn:j=0:=by omega
  subst hjn;have HE:Hid (true=r):=by show _=_;rw[<-AA HR];have:=AA HA;rw[AO (by simp),AO (by omega)]at this;exact this.symm
  go_wp2_with fail;go_ret;exact⟨AN (AA HE),AA HB⟩
def XU(b off n cap:Nat)(ks:List Int)(w:World)(h:Df w (some ⟨b,off,none⟩) n ks):Calls prog 25 #[.int .i64 5,.slice (some ⟨b,off,none⟩) n cap] w fun e w'=>e=.returned (.bool (Bu 5 ks))/\Below w.heap.size w w':=by
 have Ae:=h.len;obtain⟨r,hr⟩:∃r,Bu 5 ks=r:=⟨_,rfl⟩
 rw[hr];have HR:Hid (B3 [] ks=r):=hr;clear hr;by_cases hn:n=0;case neg=>
  have hg:((0:Int) !=(n:Int))=true:=by simp;omega
  have HE:Hid (false=r):=by show _=_;rw[<-AA HR];exact(Cn _ _ (by rw[Ae];exact fun e=>hn e.symm)).symm
  clear hn;go_enter func25,ntmps25;go_wp2_with fail;go_ret;exact⟨AN (AA HE),AI.alloc AC _⟩
 subst hn;have H:=AB h;clear h;go_enter func25,ntmps25;go_wp2_with fail;go_loopw[7] (fun i wr=>∃j:Nat,j<=0/\i=.int .i64 j/\Hid (B3 (List.take j []) (ks.take j)=true)/\Hid (Below w.heap.size w wr)) (fun i _=>0- (intOf i).toNat);case atStart=>exact⟨0,AZ _,rfl,rfl,AI.alloc AC _⟩
 case round=>
  obtain⟨j,hj,rfl,HA,HB⟩:=hrel;have hjn:j=0:=by omega
  subst hjn;have HE:Hid (true=r):=by show _=_;rw[<-AA HR];have:=AA HA;rw[AO (by simp),AO (by omega)]at this;exact this.symm
  go_wp2_with fail;go_ret;exact⟨AN (AA HE),AA HB⟩
def XT(b off n cap:Nat)(ks:List Int)(w:World)(h:Df w (some ⟨b,off,none⟩) n ks):Calls prog 25 #[.int .i64 6,.slice (some ⟨b,off,none⟩) n cap] w fun e w'=>e=.returned (.bool (Bu 6 ks))/\Below w.heap.size w w':=by
 have Ae:=h.len;obtain⟨r,hr⟩:∃r,Bu 6 ks=r:=⟨_,rfl⟩
 rw[hr];have HR:Hid (B3 [] ks=r):=hr;clear hr;by_cases hn:n=0;case neg=>
  have hg:((0:Int) !=(n:Int))=true:=by simp;omega
  have HE:Hid (false=r):=by show _=_;rw[<-AA HR];exact(Cn _ _ (by rw[Ae];exact fun e=>hn e.symm)).symm
  clear hn;go_enter func25,ntmps25;go_wp2_with fail;go_ret;exact⟨AN (AA HE),AI.alloc AC _⟩
 subst hn;have H:=AB h;clear h;go_enter func25,ntmps25;go_wp2_with fail;go_loopw[7] (fun i wr=>∃j:Nat,j<=0/\i=.int .i64 j/\Hid (B3 (List.take j []) (ks.take j)=true)/\Hid (Below w.heap.size w wr)) (fun i _=>0- (intOf i).toNat);case atStart=>exact⟨0,AZ _,rfl,rfl,AI.alloc AC _⟩
 case round=>
  obtain⟨j,hj,rfl,HA,HB⟩:=hrel;have hjn:j=0:=by omega
  subst hjn;have HE:Hid (true=r):=by show _=_;rw[<-AA HR];have:=AA HA;rw[AO (by simp),AO (by omega)]at this;exact this.symm
  go_wp2_with fail;go_ret;exact⟨AN (AA HE),AA HB⟩
def XQ(b off n cap:Nat)(ks:List Int)(w:World)(h:Df w (some ⟨b,off,none⟩) n ks):Calls prog 25 #[.int .i64 8,.slice (some ⟨b,off,none⟩) n cap] w fun e w'=>e=.returned (.bool (Bu 8 ks))/\Below w.heap.size w w':=by
 have Ae:=h.len;obtain⟨r,hr⟩:∃r,Bu 8 ks=r:=⟨_,rfl⟩
 rw[hr];have HR:Hid (B3 [] ks=r):=hr;clear hr;by_cases hn:n=0;case neg=>
  have hg:((0:Int) !=(n:Int))=true:=by simp;omega
  have HE:Hid (false=r):=by show _=_;rw[<-AA HR];exact(Cn _ _ (by rw[Ae];exact fun e=>hn e.symm)).symm
  clear hn;go_enter func25,ntmps25;go_wp2_with fail;go_ret;exact⟨AN (AA HE),AI.alloc AC _⟩
 subst hn;have H:=AB h;clear h;go_enter func25,ntmps25;go_wp2_with fail;go_loopw[7] (fun i wr=>∃j:Nat,j<=0/\i=.int .i64 j/\Hid (B3 (List.take j []) (ks.take j)=true)/\Hid (Below w.heap.size w wr)) (fun i _=>0- (intOf i).toNat);case atStart=>exact⟨0,AZ _,rfl,rfl,AI.alloc AC _⟩
 case round=>
  obtain⟨j,hj,rfl,HA,HB⟩:=hrel;have hjn:j=0:=by omega
  subst hjn;have HE:Hid (true=r):=by show _=_;rw[<-AA HR];have:=AA HA;rw[AO (by simp),AO (by omega)]at this;exact this.symm
  go_wp2_with fail;go_ret;exact⟨AN (AA HE),AA HB⟩
def XP(b off n cap:Nat)(ks:List Int)(w:World)(h:Df w (some ⟨b,off,none⟩) n ks):Calls prog 25 #[.int .i64 9,.slice (some ⟨b,off,none⟩) n cap] w fun e w'=>e=.returned (.bool (Bu 9 ks))/\Below w.heap.size w w':=by
 have Ae:=h.len;obtain⟨r,hr⟩:∃r,Bu 9 ks=r:=⟨_,rfl⟩
 rw[hr];have HR:Hid (B3 [102,101] ks=r):=hr;clear hr;by_cases hn:n=2;case neg=>
  have hg:((2:Int) !=(n:Int))=true:=by simp;omega
  have HE:Hid (false=r):=by show _=_;rw[<-AA HR];exact(Cn _ _ (by rw[Ae];exact fun e=>hn e.symm)).symm
  clear hn;go_enter func25,ntmps25;go_wp2_with fail;go_ret;exact⟨AN (AA HE),AI.alloc AC _⟩
 subst hn;have H:=AB h;clear h;go_enter func25,ntmps25;go_wp2_with fail;go_loopw[7] (fun i wr=>∃j:Nat,j<=2/\i=.int .i64 j/\Hid (B3 (List.take j [102,101]) (ks.take j)=true)/\Hid (Below w.heap.size w wr)) (fun i _=>2- (intOf i).toNat);case atStart=>exact⟨0,AZ _,rfl,rfl,AI.alloc AC _⟩
 case round=>
  obtain⟨j,hj,rfl,HA,HB⟩:=hrel;by_cases h0:j=0
  .subst h0;obtain⟨b',Hr,e',hbl,hc0⟩:=((AA H).below AC (AA HB)).get (k:=0) (by omega);cases e';obtain⟨x,hx⟩:∃x,ks.getD 0 0=x:=⟨_,rfl⟩
   rw[hx]at hc0;rw[Ad]at hc0;have HX:=AB hx;clear hx;cases hE:I2 102 x with
   |false=>
    have HI:=AB (fun W=>Ga 102 x (.inr (.inr (.inl rfl))) false hE W);have HE:Hid (false=r):=by show _=_;rw[<-AA HR];exact(EQ [102,101] ks 0 (by omega) (by rw[AA HX];exact hE) Ae.symm).symm
    clear hE;go_wp2_with fail;go_quiet((go_at_call 53;exact Calls.quiet_of_same (AA HI _)));go_wp2_with fail;go_ret;exact⟨AN (AA HE),Below.drewN (AA HB) _⟩
   |true=>
    have HI:=AB (fun W=>Ga 102 x (.inr (.inr (.inl rfl))) true hE W);have HT:Hid (B3 (List.take 1 [102,101]) (ks.take 1)=true):=Dq [102,101] ks 0 Ae.symm (by omega) (AA HA) (by rw[AA HX];exact hE);clear hE;go_wp2_with fail;go_quiet((go_at_call 53;exact Calls.quiet_of_same (AA HI _)));go_wp2_with fail;go_roundw;case rel=>exact⟨1,by omega,by go_num,HT,Below.drewN (AA HB) _⟩
    case measure=>simp[intOf]
  by_cases h1:j=1
  .subst h1;obtain⟨b',Hr,e',hbl,hc0⟩:=((AA H).below AC (AA HB)).get (k:=1) (by omega);cases e';obtain⟨x,hx⟩:∃x,ks.getD 1 0=x:=⟨_,rfl⟩
   rw[hx]at hc0;have HX:=AB hx;clear hx;cases hE:I2 101 x with
   |false=>
    have HI:=AB (fun W=>Ga 101 x (.inl rfl) false hE W);have HE:Hid (false=r):=by show _=_;rw[<-AA HR];exact(EQ [102,101] ks 1 (by omega) (by rw[AA HX];exact hE) Ae.symm).symm
    clear hE;go_wp2_with fail;go_quiet((go_at_call 53;exact Calls.quiet_of_same (AA HI _)));go_wp2_with fail;go_ret;exact⟨AN (AA HE),Below.drewN (AA HB) _⟩
   |true=>
    have HI:=AB (fun W=>Ga 101 x (.inl rfl) true hE W);have HT:Hid (B3 (List.take 2 [102,101]) (ks.take 2)=true):=Dq [102,101] ks 1 Ae.symm (by omega) (AA HA) (by rw[AA HX];exact hE);clear hE;go_wp2_with fail;go_quiet((go_at_call 53;exact Calls.quiet_of_same (AA HI _)));go_wp2_with fail;go_roundw;case rel=>exact⟨2,by omega,by go_num,HT,Below.drewN (AA HB) _⟩
    case measure=>simp[intOf]
  have hjn:j=2:=by omega
  subst hjn;have HE:Hid (true=r):=by show _=_;rw[<-AA HR];have:=AA HA;rw[AO (by simp),AO (by omega)]at this;exact this.symm
  go_wp2_with fail;go_ret;exact⟨AN (AA HE),AA HB⟩
def VB(b off n cap:Nat)(ks:List Int)(w:World)(h:Df w (some ⟨b,off,none⟩) n ks):Calls prog 25 #[.int .i64 10,.slice (some ⟨b,off,none⟩) n cap] w fun e w'=>e=.returned (.bool (Bu 10 ks))/\Below w.heap.size w w':=by
 have Ae:=h.len;obtain⟨r,hr⟩:∃r,Bu 10 ks=r:=⟨_,rfl⟩
 rw[hr];have HR:Hid (B3 [101,102,101] ks=r):=hr;clear hr;by_cases hn:n=3;case neg=>
  have hg:((3:Int) !=(n:Int))=true:=by simp;omega
  have HE:Hid (false=r):=by show _=_;rw[<-AA HR];exact(Cn _ _ (by rw[Ae];exact fun e=>hn e.symm)).symm
  clear hn;go_enter func25,ntmps25;go_wp2_with fail;go_ret;exact⟨AN (AA HE),AI.alloc AC _⟩
 subst hn;have H:=AB h;clear h;go_enter func25,ntmps25;go_wp2_with fail;go_loopw[7] (fun i wr=>∃j:Nat,j<=3/\i=.int .i64 j/\Hid (B3 (List.take j [101,102,101]) (ks.take j)=true)/\Hid (Below w.heap.size w wr)) (fun i _=>3- (intOf i).toNat);case atStart=>exact⟨0,AZ _,rfl,rfl,AI.alloc AC _⟩
 case round=>
  obtain⟨j,hj,rfl,HA,HB⟩:=hrel;by_cases h0:j=0
  .subst h0;obtain⟨b',Hr,e',hbl,hc0⟩:=((AA H).below AC (AA HB)).get (k:=0) (by omega);cases e';obtain⟨x,hx⟩:∃x,ks.getD 0 0=x:=⟨_,rfl⟩
   rw[hx]at hc0;rw[Ad]at hc0;have HX:=AB hx;clear hx;cases hE:I2 101 x with
   |false=>
    have HI:=AB (fun W=>Ga 101 x (.inl rfl) false hE W);have HE:Hid (false=r):=by show _=_;rw[<-AA HR];exact(EQ [101,102,101] ks 0 (by omega) (by rw[AA HX];exact hE) Ae.symm).symm
    clear hE;go_wp2_with fail;go_quiet((go_at_call 53;exact Calls.quiet_of_same (AA HI _)));go_wp2_with fail;go_ret;exact⟨AN (AA HE),Below.drewN (AA HB) _⟩
   |true=>
    have HI:=AB (fun W=>Ga 101 x (.inl rfl) true hE W);have HT:Hid (B3 (List.take 1 [101,102,101]) (ks.take 1)=true):=Dq [101,102,101] ks 0 Ae.symm (by omega) (AA HA) (by rw[AA HX];exact hE);clear hE;go_wp2_with fail;go_quiet((go_at_call 53;exact Calls.quiet_of_same (AA HI _)));go_wp2_with fail;go_roundw;case rel=>exact⟨1,by omega,by go_num,HT,Below.drewN (AA HB) _⟩
    case measure=>simp[intOf]
  by_cases h1:j=1
  .subst h1;obtain⟨b',Hr,e',hbl,hc0⟩:=((AA H).below AC (AA HB)).get (k:=1) (by omega);cases e';obtain⟨x,hx⟩:∃x,ks.getD 1 0=x:=⟨_,rfl⟩
   rw[hx]at hc0;have HX:=AB hx;clear hx;cases hE:I2 102 x with
   |false=>
    have HI:=AB (fun W=>Ga 102 x (.inr (.inr (.inl rfl))) false hE W);have HE:Hid (false=r):=by show _=_;rw[<-AA HR];exact(EQ [101,102,101] ks 1 (by omega) (by rw[AA HX];exact hE) Ae.symm).symm
    clear hE;go_wp2_with fail;go_quiet((go_at_call 53;exact Calls.quiet_of_same (AA HI _)));go_wp2_with fail;go_ret;exact⟨AN (AA HE),Below.drewN (AA HB) _⟩
   |true=>
    have HI:=AB (fun W=>Ga 102 x (.inr (.inr (.inl rfl))) true hE W);have HT:Hid (B3 (List.take 2 [101,102,101]) (ks.take 2)=true):=Dq [101,102,101] ks 1 Ae.symm (by omega) (AA HA) (by rw[AA HX];exact hE);clear hE;go_wp2_with fail;go_quiet((go_at_call 53;exact Calls.quiet_of_same (AA HI _)));go_wp2_with fail;go_roundw;case rel=>exact⟨2,by omega,by go_num,HT,Below.drewN (AA HB) _⟩
    case measure=>simp[intOf]
  by_cases h2:j=2
  .subst h2;obtain⟨b',Hr,e',hbl,hc0⟩:=((AA H).below AC (AA HB)).get (k:=2) (by omega);cases e';obtain⟨x,hx⟩:∃x,ks.getD 2 0=x:=⟨_,rfl⟩
   rw[hx]at hc0;have HX:=AB hx;clear hx;cases hE:I2 101 x with
   |false=>
    have HI:=AB (fun W=>Ga 101 x (.inl rfl) false hE W);have HE:Hid (false=r):=by show _=_;rw[<-AA HR];exact(EQ [101,102,101] ks 2 (by omega) (by rw[AA HX];exact hE) Ae.symm).symm
    clear hE;go_wp2_with fail;go_quiet((go_at_call 53;exact Calls.quiet_of_same (AA HI _)));go_wp2_with fail;go_ret;exact⟨AN (AA HE),Below.drewN (AA HB) _⟩
   |true=>
    have HI:=AB (fun W=>Ga 101 x (.inl rfl) true hE W);have HT:Hid (B3 (List.take 3 [101,102,101]) (ks.take 3)=true):=Dq [101,102,101] ks 2 Ae.symm (by omega) (AA HA) (by rw[AA HX];exact hE);clear hE;go_wp2_with fail;go_quiet((go_at_call 53;exact Calls.quiet_of_same (AA HI _)));go_wp2_with fail;go_roundw;case rel=>exact⟨3,by omega,by go_num,HT,Below.drewN (AA HB) _⟩
    case measure=>simp[intOf]
  have hjn:j=3:=by omega
  subst hjn;have HE:Hid (true=r):=by show _=_;rw[<-AA HR];have:=AA HA;rw[AO (by simp),AO (by omega)]at this;exact this.symm
  go_wp2_with fail;go_ret;exact⟨AN (AA HE),AA HB⟩
