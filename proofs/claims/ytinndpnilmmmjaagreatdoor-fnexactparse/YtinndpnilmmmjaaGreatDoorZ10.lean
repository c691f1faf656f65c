import Derived.Test.YtinndpnilmmmjaaGreatDoorZ07
set_option maxHeartbeats 4000000
set_option linter.defProp false
namespace Go.Proofs.YtinndpnilmmmjaaGreatDoor
open Go.RowKit Tryz
def VA(b off n cap:Nat)(ks:List Int)(w:World)(h:Df w (some ⟨b,off,none⟩) n ks):Calls prog 25 #[.int .i64 11,.slice (some ⟨b,off,none⟩) n cap] w fun e w'=>e=.returned (.bool (Bu 11 ks))/\Below w.heap.size w w':=by
 have Ae:=h.len;obtain⟨r,hr⟩:∃r,Bu 11 ks=r:=⟨_,rfl⟩
 rw[hr];have HR:Hid (B3 [] ks=r):=hr;clear hr;by_cases hn:n=0;case neg=>
  have hg:((0:Int) !=(n:Int))=true:=by simp;omega
  have HE:Hid (false=r):=by show _=_;rw[<-AA HR];exact(Cn _ _ (by rw[Ae];exact fun e=>hn e.symm)).symm
  clear hn;go_enter func25,ntmps25;go_wp2_with fail;go_ret;exact⟨AN (AA HE),AI.alloc AC _⟩
 subst hn;have H:=AB h;clear h;go_enter func25,ntmps25;go_wp2_with fail;go_loopw[7] (fun i wr=>∃j:Nat,j<=0/\i=.int .i64 j/\Hid (B3 (List.take j []) (ks.take j)=true)/\Hid (Below w.heap.size w wr)) (fun i _=>0- (intOf i).toNat);case atStart=>exact⟨0,AZ _,rfl,rfl,AI.alloc AC _⟩
 case round=>
  obtain⟨j,hj,rfl,HA,HB⟩:=hrel;have hjn:j=0:=by omega
  subst hjn;have HE:Hid (true=r):=by show _=_;rw[<-AA HR];have:=AA HA;rw[AO (by simp),AO (by omega)]at this;exact this.symm
  go_wp2_with fail;go_ret;exact⟨AN (AA HE),AA HB⟩
def U9(b off n cap:Nat)(ks:List Int)(w:World)(h:Df w (some ⟨b,off,none⟩) n ks):Calls prog 25 #[.int .i64 12,.slice (some ⟨b,off,none⟩) n cap] w fun e w'=>e=.returned (.bool (Bu 12 ks))/\Below w.heap.size w w':=by
 have Ae:=h.len;obtain⟨r,hr⟩:∃r,Bu 12 ks=r:=⟨_,rfl⟩
 rw[hr];have HR:Hid (B3 [] ks=r):=hr;clear hr;by_cases hn:n=0;case neg=>
  have hg:((0:Int) !=(n:Int))=true:=by simp;omega
  have HE:Hid (false=r):=by show _=_;rw[<-AA HR];exact(Cn _ _ (by rw[Ae];exact fun e=>hn e.symm)).symm
  clear hn;go_enter func25,ntmps25;go_wp2_with fail;go_ret;exact⟨AN (AA HE),AI.alloc AC _⟩
 subst hn;have H:=AB h;clear h;go_enter func25,ntmps25;go_wp2_with fail;go_loopw[7] (fun i wr=>∃j:Nat,j<=0/\i=.int .i64 j/\Hid (B3 (List.take j []) (ks.take j)=true)/\Hid (Below w.heap.size w wr)) (fun i _=>0- (intOf i).toNat);case atStart=>exact⟨0,AZ _,rfl,rfl,AI.alloc AC _⟩
 case round=>
  obtain⟨j,hj,rfl,HA,HB⟩:=hrel;have hjn:j=0:=by omega
  subst hjn;have HE:Hid (true=r):=by show _=_;rw[<-AA HR];have:=AA HA;rw[AO (by simp),AO (by omega)]at this;exact this.symm
  go_wp2_with fail;go_ret;exact⟨AN (AA HE),AA HB⟩
def U8(b off n cap:Nat)(ks:List Int)(w:World)(h:Df w (some ⟨b,off,none⟩) n ks):Calls prog 25 #[.int .i64 13,.slice (some ⟨b,off,none⟩) n cap] w fun e w'=>e=.returned (.bool (Bu 13 ks))/\Below w.heap.size w w':=by
 have Ae:=h.len;obtain⟨r,hr⟩:∃r,Bu 13 ks=r:=⟨_,rfl⟩
 rw[hr];have HR:Hid (B3 [] ks=r):=hr;clear hr;by_cases hn:n=0;case neg=>
  have hg:((0:Int) !=(n:Int))=true:=by simp;omega
  have HE:Hid (false=r):=by show _=_;rw[<-AA HR];exact(Cn _ _ (by rw[Ae];exact fun e=>hn e.symm)).symm
  clear hn;go_enter func25,ntmps25;go_wp2_with fail;go_ret;exact⟨AN (AA HE),AI.alloc AC _⟩
 subst hn;have H:=AB h;clear h;go_enter func25,ntmps25;go_wp2_with fail;go_loopw[7] (fun i wr=>∃j:Nat,j<=0/\i=.int .i64 j/\Hid (B3 (List.take j []) (ks.take j)=true)/\Hid (Below w.heap.size w wr)) (fun i _=>0- (intOf i).toNat);case atStart=>exact⟨0,AZ _,rfl,rfl,AI.alloc AC _⟩
 case round=>
  obtain⟨j,hj,rfl,HA,HB⟩:=hrel;have hjn:j=0:=by omega
  subst hjn;have HE:Hid (true=r):=by show _=_;rw[<-AA HR];have:=AA HA;rw[AO (by simp),AO (by omega)]at this;exact this.symm
  go_wp2_with fail;go_ret;exact⟨AN (AA HE),AA HB⟩
def U7(b off n cap:Nat)(ks:List Int)(w:World)(h:Df w (some ⟨b,off,none⟩) n ks):Calls prog 25 #[.int .i64 14,.slice (some ⟨b,off,none⟩) n cap] w fun e w'=>e=.returned (.bool (Bu 14 ks))/\Below w.heap.size w w':=by
 have Ae:=h.len;obtain⟨r,hr⟩:∃r,Bu 14 ks=r:=⟨_,rfl⟩
 rw[hr];have HR:Hid (B3 [] ks=r):=hr;clear hr;by_cases hn:n=0;case neg=>
  have hg:((0:Int) !=(n:Int))=true:=by simp;omega
  have HE:Hid (false=r):=by show _=_;rw[<-AA HR];exact(Cn _ _ (by rw[Ae];exact fun e=>hn e.symm)).symm
  clear hn;go_enter func25,ntmps25;go_wp2_with fail;go_ret;exact⟨AN (AA HE),AI.alloc AC _⟩
 subst hn;have H:=AB h;clear h;go_enter func25,ntmps25;go_wp2_with fail;go_loopw[7] (fun i wr=>∃j:Nat,j<=0/\i=.int .i64 j/\Hid (B3 (List.take j []) (ks.take j)=true)/\Hid (Below w.heap.size w wr)) (fun i _=>0- (intOf i).toNat);case atStart=>exact⟨0,AZ _,rfl,rfl,AI.alloc AC _⟩
 case round=>
  obtain⟨j,hj,rfl,HA,HB⟩:=hrel;have hjn:j=0:=by omega
  subst hjn;have HE:Hid (true=r):=by show _=_;rw[<-AA HR];have:=AA HA;rw[AO (by simp),AO (by omega)]at this;exact this.symm
  go_wp2_with fail;go_ret;exact⟨AN (AA HE),AA HB⟩
def U6(b off n cap:Nat)(ks:List Int)(w:World)(h:Df w (some ⟨b,off,none⟩) n ks):Calls prog 25 #[.int .i64 15,.slice (some ⟨b,off,none⟩) n cap] w fun e w'=>e=.returned (.bool (Bu 15 ks))/\Below w.heap.size w w':=by
 have Ae:=h.len;obtain⟨r,hr⟩:∃r,Bu 15 ks=r:=⟨_,rfl⟩
 rw[hr];have HR:Hid (B3 [] ks=r):=hr;clear hr;by_cases hn:n=0;case neg=>
  have hg:((0:Int) !=(n:Int))=true:=by simp;omega
  have HE:Hid (false=r):=by show _=_;rw[<-AA HR];exact(Cn _ _ (by rw[Ae];exact fun e=>hn e.symm)).symm
  clear hn;go_enter func25,ntmps25;go_wp2_with fail;go_ret;exact⟨AN (AA HE),AI.alloc AC _⟩
 subst hn;have H:=AB h;clear h;go_enter func25,ntmps25;go_wp2_with fail;go_loopw[7] (fun i wr=>∃j:Nat,j<=0/\i=.int .i64 j/\Hid (B3 (List.take j []) (ks.take j)=true)/\Hid (Below w.heap.size w wr)) (fun i _=>0- (intOf i).toNat);case atStart=>exact⟨0,AZ _,rfl,rfl,AI.alloc AC _⟩
 case round=>
  obtain⟨j,hj,rfl,HA,HB⟩:=hrel;have hjn:j=0:=by omega
  subst hjn;have HE:Hid (true=r):=by show _=_;rw[<-AA HR];have:=AA HA;rw[AO (by simp),AO (by omega)]at this;exact this.symm
  go_wp2_with fail;go_ret;exact⟨AN (AA HE),AA HB⟩
