import Derived.Test.YtgjpchnkodnieaaGreatDoorZ05
set_option maxHeartbeats 1000000
set_option linter.defProp false
namespace Go.Proofs.YtgjpchnkodnieaaGreatDoor
open Go.RowKit Tryz
def Er(c:Bool)(a1 a2 b1 b2:Option Addr)(n1 n2 m1 m2 c1 c2 d1 d2:Nat)(sh dt:List Int)(w:World)(h1:AO w a1 n1 sh)(h2:AO w a2 n2 dt)(k1:AO w b1 m1 sh)(k2:AO w b2 m2 dt):Calls prog 13 #[.agg #[.bool c,.slice a1 n1 c1,.slice a2 n2 c2],.agg #[.bool c,.slice b1 m1 d1,.slice b2 m2 d2]] w fun e w'=>e=.returned (.bool true)/\Below w.heap.size w w':=by
 have:=Qx c c a1 a2 b1 b2 n1 n2 m1 m2 c1 c2 d1 d2 sh dt sh dt w h1 h2 k1 k2
 rwa [AL ⟨rfl,rfl,rfl⟩]at this
def PJ(v:Int)(w:World):Calls prog 49 #[.int .i64 v] w fun e w'=>e=.returned (.bool (EV v))/\w'=w:=by
 by_cases h1:0<=v
 .by_cases h2:v<=1114111
  .by_cases h3:v<55296
   .have HE:Hid (EV v=true):=AL ⟨h1,h2,.inl h3⟩;go_enter func49,ntmps49
    go_wp2
    go_ret;exact⟨Av HE.out.symm,rfl⟩
   .by_cases h4:57343<v
    .have HE:Hid (EV v=true):=AL ⟨h1,h2,.inr h4⟩;go_enter func49,ntmps49
     go_wp2
     go_ret;exact⟨Av HE.out.symm,rfl⟩
    .have HE:Hid (EV v=false):=AK (fun h=>by omega);go_enter func49,ntmps49
     go_wp2
     go_ret;exact⟨Av HE.out.symm,rfl⟩
  .have HE:Hid (EV v=false):=AK (fun h=>by omega);go_enter func49,ntmps49
   go_wp2
   go_ret;exact⟨Av HE.out.symm,rfl⟩
 .have HE:Hid (EV v=false):=AK (fun h=>by omega);go_enter func49,ntmps49
  go_wp2
  go_ret;exact⟨Av HE.out.symm,rfl⟩
def K0(v:Int)(w:World)(b:Bool)(h:Hid (EV v=b)):Calls prog 49 #[.int .i64 v] w fun e w'=>e=.returned (.bool b)/\w'=w:=by rw[<-h.out];exact PJ v w
def Xr{c:Bool}{sh dt:List Int}{n1:Nat}(hl:sh.length=n1)(h:5<n1):AJ c sh dt=false:=by unfold AJ;rw[AK (by omega)];rfl
def Og{c:Bool}{sh dt:List Int}{n2:Nat}(hl:dt.length=n2)(h:Ac sh≠n2):AJ c sh dt=false:=by unfold AJ;rw[AK (p:=Ac sh=_) (by rw[hl];exact h)];simp
def Xt{c:Bool}{sh dt:List Int}(h:dt.all (BY c)=false):AJ c sh dt=false:=by unfold AJ;rw[h];simp
def Xs{c:Bool}{sh dt:List Int}{n1 n2:Nat}(hl1:sh.length=n1)(hl2:dt.length=n2)(h5:n1<=5)(hc:Ac sh=n2)(h:dt.all (BY c)=true):AJ c sh dt=true:=by unfold AJ;rw[h,AL (by omega),AL (by rw[hl2];exact hc)];rfl
def Rc(c:Bool)(a1 a2:Option Addr)(n1 n2 c1 c2:Nat)(sh dt:List Int)(w:World)(h1:AO w a1 n1 sh)(h2:AO w a2 n2 dt):Calls prog 10 #[.agg #[.bool c,.slice a1 n1 c1,.slice a2 n2 c2]] w fun e w'=>e=.returned (.bool (AJ c sh dt))/\Below w.heap.size w w':=by
 have hl1:=AD h1.len;have hl2:=AD h2.len;have hs1:=h1.small;have hs2:=h2.small;have H1:=AD h1;have H2:=AD h2;clear h1 h2;have hW:∀o,Below w.heap.size w (w.alloc o):=fun o=>AG.alloc AC _;have hcb:=FV sh;obtain⟨hcb1,hcb2⟩:=hcb;by_cases h5:5<n1
 .have hd:decide ((5:Int)<(n1:Int))=true:=by simp;omega
  have HE:=AD (Xr (c:=c) (dt:=dt) (AA hl1) h5);go_enter func10,ntmps10
  go_wp2
  go_quiet(fail)
  go_wp2
  go_ret;exact⟨Av HE.out.symm,Below.drewN (hW _) _⟩
 .have hd:decide ((5:Int)<(n1:Int))=false:=by simp;omega
  obtain⟨cn,hcn⟩:∃cn,Ac sh=cn:=⟨_,rfl⟩
  rw[hcn]at hcb1 hcb2;have HC:=AD hcn;clear hcn;by_cases hcn:cn=n2
  .have hb:(cn !=(n2:Int))=false:=by simp[hcn]
   have HCN:=AD hcn;clear hcn;go_enter func10,ntmps10
   go_wp2
   go_quiet((go_at_call 48;exact Calls.quiet_of_same (EY _ _ _ sh _ (((AA H1).alloc _).drewN _) cn HC)))
   go_wp2
   go_loopw[3,4] (fun i v wr=>∃k:Nat,k<=n2/\i=.int .i64 k/\Hid ((dt.take k).all (BY c)=true)/\wr=(w.alloc (.cells #[.bool c,.slice a1 n1 c1,.slice a2 n2 c2] 25)).drewN nq) (fun i _ _=>n2- (intOf i).toNat);case atStart=>exact⟨0,AS _,rfl,rfl,rfl⟩
   case round=>
    obtain⟨k,hk,rfl,hall,rfl⟩:=hrel;by_cases hlt:k<n2
    .obtain⟨b,off,rfl,hblt,hc⟩:=(AA H2).get hlt;have hks:Hid (k<dt.length):=by show k<dt.length;rw[AA hl2];exact hlt
     obtain⟨x,hx⟩:∃x,x=dt.getD k 0:=⟨_,rfl⟩
     rw[<-hx]at hc;have HX:=AD hx;clear hx;have hN:∀ {r:Bool},BY c x=r->r=false->Hid (AJ c sh dt=false):=fun h1 h2=>Xt (Fk dt (BY c) k (AA hks) (by rw[<-AA HX,h1,h2]));have hY:∀ {r:Bool},BY c x=r->r=true->Hid ((dt.take (k+1)).all (BY c)=true):=fun h1 h2=>FX dt (BY c) k (AA hks) (AA hall) (by rw[<-AA HX,h1,h2]);cases c with
     |true=>
      cases hr:EV x with
      |true=>
       have hxb:=BB hr;have HR:=AD hr;have HA:=hY (show BY true x=true by unfold BY;rw[hr,AL (by omega)];rfl) rfl;have hx1:x<=1000000000000000:=by omega
       have hx2: -1000000000000000<=x:=by omega
       clear hr hxb hN hY;go_wp2_with(go_at_call 49;refine(K0 _ _ true HR).mono ?_;rintro e w'⟨rfl,rfl⟩);go_roundw;case rel=>exact⟨k+1,by omega,by go_num,HA,by first|exact trivial|rfl⟩
       case measure=>simp[intOf];omega
      |false=>
       have HR:=AD hr;have HE:=hN (show BY true x=false by unfold BY;rw[hr];rfl) rfl;clear hr hN hY;go_wp2_with(go_at_call 49;refine(K0 _ _ false HR).mono ?_;rintro e w'⟨rfl,rfl⟩);go_ret;exact⟨Av HE.out.symm,Below.drewN (hW _) _⟩
     |false=>
      by_cases hx1:1000000000000000<x
      .have HE:=hN (show BY false x=false by unfold BY;rw[AK (by omega)];rfl) rfl;clear hN hY
       go_wp2
       go_ret;exact⟨Av HE.out.symm,Below.drewN (hW _) _⟩
      .by_cases hx2:x< -1000000000000000
       .have HE:=hN (show BY false x=false by unfold BY;rw[AK (by omega)];rfl) rfl;clear hN hY
        go_wp2
        go_ret;exact⟨Av HE.out.symm,Below.drewN (hW _) _⟩
       .have HA:=hY (show BY false x=true by unfold BY;rw[AL (by omega)];rfl) rfl;clear hN hY
        go_wp2
        go_roundw;case rel=>exact⟨k+1,by omega,by go_num,HA,by first|exact trivial|rfl⟩
        case measure=>simp[intOf];omega
    .have HA:Hid (dt.all (BY c)=true):=by
      have:=AA hall
      rwa [AV (by rw[AA hl2];omega)]at this
     have HE:=AD (Xs (AA hl1) (AA hl2) (by omega) ((AA HC).trans (AA HCN)) (AA HA))
     go_wp2
     go_ret;exact⟨Av HE.out.symm,Below.drewN (hW _) _⟩
  .have hb:(cn !=(n2:Int))=true:=by simp[hcn]
   have HE:=AD (Og (c:=c) (sh:=sh) (AA hl2) (by rw[AA HC];exact hcn));clear hcn;go_enter func10,ntmps10
   go_wp2
   go_quiet((go_at_call 48;exact Calls.quiet_of_same (EY _ _ _ sh _ (((AA H1).alloc _).drewN _) cn HC)))
   go_wp2
   go_ret;exact⟨Av HE.out.symm,Below.drewN (hW _) _⟩
def A0(c:Bool)(a1 a2:Option Addr)(n1 n2 c1 c2:Nat)(sh dt:List Int)(w:World)(h1:AO w a1 n1 sh)(h2:AO w a2 n2 dt)(r:Bool)(hr:Hid (AJ c sh dt=r)):Calls prog 10 #[.agg #[.bool c,.slice a1 n1 c1,.slice a2 n2 c2]] w fun e w'=>e=.returned (.bool r)/\Below w.heap.size w w':=by rw[<-hr.out];exact Rc c a1 a2 n1 n2 c1 c2 sh dt w h1 h2
def Cj(v lo hi:Int):Bool:=decide (lo<=v/\v<=hi)
def Ji(v lo hi:Int)(w:World):Calls prog 50 #[.int .i64 v,.int .i64 lo,.int .i64 hi] w fun e w'=>e=.returned (.bool (Cj v lo hi))/\w'=w:=by
 by_cases h1:lo<=v
 .by_cases h2:v<=hi
  .have HE:Hid (Cj v lo hi=true):=AL ⟨h1,h2⟩;go_enter func50,ntmps50
   go_wp2
   go_ret;exact⟨Av HE.out.symm,rfl⟩
  .have HE:Hid (Cj v lo hi=false):=AK (fun h=>by omega);go_enter func50,ntmps50
   go_wp2
   go_ret;exact⟨Av HE.out.symm,rfl⟩
 .have HE:Hid (Cj v lo hi=false):=AK (fun h=>by omega);go_enter func50,ntmps50
  go_wp2
  go_ret;exact⟨Av HE.out.symm,rfl⟩
def CP(v lo hi:Int)(w:World)(b:Bool)(h:Hid (Cj v lo hi=b)):Calls prog 50 #[.int .i64 v,.int .i64 lo,.int .i64 hi] w fun e w'=>e=.returned (.bool b)/\w'=w:=by rw[<-h.out];exact Ji v lo hi w
def Py(a:Option Addr)(n cap:Nat)(sh:List Int)(w:World)(h:AO w a n sh):Calls prog 114 #[.slice a n cap] w fun e w'=>e=.returned (.bool (Am sh))/\w'=w:=by
 have Bq:=AD h.len;have hsm:=h.small;have H:=AD h;clear h;by_cases h5:5<n
 .have HE:=AD (MB (AA Bq) h5);go_enter func114,ntmps114
  go_wp2
  go_ret;exact⟨Av HE.out.symm,rfl⟩
 .go_enter func114,ntmps114
  go_wp2
  go_loop [3,5,11] (fun p _ i=>∃(k:Nat)(m:Int),k<=n/\i=.int .i64 k/\p=.int .i64 m/\Hid ((sh.take k).all Be=true)/\Hid (Aj (sh.take k) 1=some m)) (fun _ _ i=>n- (intOf i).toNat)
  case atStart=>exact⟨0,1,AS _,rfl,rfl,rfl,rfl⟩
  case round=>
   obtain⟨k,m,hk,rfl,rfl,hall,hp⟩:=hrel;have hmb:=D1 (sh.take k) 1 m (AA hall) (by omega) (by omega) (AA hp);obtain⟨hm1,hm2⟩:=hmb;by_cases hlt:k<n
   .obtain⟨b,off,rfl,hblt,hc⟩:=(AA H).get hlt;have hks:Hid (k<sh.length):=by show k<sh.length;rw[AA Bq];exact hlt
    obtain⟨x,hx⟩:∃x,x=sh.getD k 0:=⟨_,rfl⟩
    rw[<-hx]at hc;have HX:=AD hx;clear hx;by_cases hin:0<=x/\x<=10000
    .have HW:Hid (Cj x 0 10000=true):=AL hin;have HA:Hid ((sh.take (k+1)).all Be=true):=FX sh Be k (AA hks) (AA hall) (by rw[<-AA HX];exact AL hin);obtain⟨hx0,hx1⟩:=hin;by_cases h0:x=0
     .have HP:=AD (MI sh k (AA hks) m (AA hp) (by rw[<-AA HX];exact h0));subst h0;have hw:wrap64 (m*(if(0:Int)<1 then 1 else 0))=m:=by rw[AI (by omega),Int.mul_one];exact(by unfold wrap64;omega)
      have hv:wrap64 (m*max 0 1)=m:=hw;go_wp2_with(go_at_call 50;refine(CP _ _ _ _ true HW).mono ?_;rintro e w'⟨rfl,rfl⟩)
      go_round
      case rel=>exact⟨k+1,m,by omega,by go_num,(by first|rfl|rw[hv]),HA,HP⟩
      case measure=>simp[intOf];omega
     .have hx2:¬ x<1:=by omega
      have hmx:m*x<=10000*10000:=Int.mul_le_mul hm2 hx1 hx0 (by omega);have hmx0:0<=m*x:=Int.mul_nonneg (by omega) hx0;have hw:wrap64 (m*x)=m*x:=(by unfold wrap64;omega)
      have hv:max x 1=x:=by omega
      by_cases hbig:10000<m*x
      .have HE:Hid (Am sh=false):=N8 (Oe sh (OM sh k (AA hks) m (AA hp) (by rw[<-AA HX];exact h0) (by rw[<-AA HX];exact hbig)));clear h0;go_wp2_with(go_at_call 50;refine(CP _ _ _ _ true HW).mono ?_;rintro e w'⟨rfl,rfl⟩);go_ret;exact⟨Av HE.out.symm,rfl⟩
      .have HP:=AD (OK sh k (AA hks) m (AA hp) (by rw[<-AA HX];exact h0) (by rw[<-AA HX];omega));rw[<-AA HX]at HP;clear h0;go_wp2_with(go_at_call 50;refine(CP _ _ _ _ true HW).mono ?_;rintro e w'⟨rfl,rfl⟩)
       go_round
       case rel=>exact⟨k+1,m*x,by omega,by go_num,rfl,HA,HP⟩
       case measure=>simp[intOf];omega
    .have HW:Hid (Cj x 0 10000=false):=AK hin;have HE:Hid (Am sh=false):=N8 (Ka sh (Fk sh Be k (AA hks) (by rw[<-AA HX];exact AK hin)));clear hin;go_wp2_with(go_at_call 50;refine(CP _ _ _ _ false HW).mono ?_;rintro e w'⟨rfl,rfl⟩);go_ret;exact⟨Av HE.out.symm,rfl⟩
   .have htk:sh.take k=sh:=AV (by rw[AA Bq];omega);have HE:=AD (Ex (AA Bq) (by omega) m (by have:=AA hall;rwa [htk]at this) (by have:=AA hp;rwa [htk]at this));clear htk
    go_wp2
    go_ret;exact⟨Av HE.out.symm,rfl⟩
def CR(a:Option Addr)(n cap:Nat)(sh:List Int)(w:World)(h:AO w a n sh)(r:Bool)(hr:Hid (Am sh=r)):Calls prog 114 #[.slice a n cap] w fun e w'=>e=.returned (.bool r)/\w'=w:=by rw[<-hr.out];exact Py a n cap sh w h
def GK(a:Option Addr)(n cap:Nat)(sh:List Int)(w:World)(h:AO w a n sh)(hb:∀k,0<=AM (sh.take k)/\AM (sh.take k)<=10000):Calls prog 116 #[.slice a n cap] w fun e w'=>e=.returned (.int .i64 (AM sh))/\w'=w:=by
 have Bq:=AD h.len;have hsm:=h.small;have H:=AD h;have HB:=AD hb;clear h hb;go_enter func116,ntmps116
 go_wp2
 go_loop [3,5,8] (fun p _ i=>∃(k:Nat)(m:Int),k<=n/\i=.int .i64 k/\p=.int .i64 m/\Hid (AM (sh.take k)=m)) (fun _ _ i=>n- (intOf i).toNat)
 case atStart=>exact⟨0,1,AS _,rfl,rfl,rfl⟩
 case round=>
  obtain⟨k,m,hk,rfl,rfl,hp⟩:=hrel;by_cases hlt:k<n
  .obtain⟨b,off,rfl,hblt,hc⟩:=(AA H).get hlt;have hks:Hid (k<sh.length):=by show k<sh.length;rw[AA Bq];exact hlt
   obtain⟨x,hx⟩:∃x,x=sh.getD k 0:=⟨_,rfl⟩
   have HP:Hid (AM (sh.take (k+1))=m*x):=by show _=_;rw[Fh sh k (AA hks),AA hp,hx]
   have hpb:=AA HB (k+1);rw[AA HP]at hpb;obtain⟨hb0,hb1⟩:=hpb;rw[<-hx]at hc;clear hx
   go_wp2
   go_round
   case rel=>exact⟨k+1,m*x,by omega,by go_num,rfl,HP⟩
   case measure=>simp[intOf];omega
  .have HE:Hid (AM sh=m):=by have:=AA hp;rwa [AV (by rw[AA Bq];omega)]at this
   go_wp2
   go_ret;exact⟨BM HE.out.symm,rfl⟩
def Cn(a:Option Addr)(n cap:Nat)(sh:List Int)(w:World)(h:AO w a n sh)(hs:Am sh=true)(cn:Int)(hc:Hid (Ac sh=cn)):Calls prog 116 #[.slice a n cap] w fun e w'=>e=.returned (.int .i64 cn)/\w'=w:=by rw[<-hc.out,<-Bs sh hs];exact GK a n cap sh w h (Ey sh hs)
def Pn(n lo hi:Int)(w:World):Calls prog 50 #[.int .i64 n,.int .i64 lo,.int .i64 hi] w fun e w'=>e=.returned (.bool (decide (lo<=n/\n<=hi)))/\w'=w:=by
 obtain⟨r,hr⟩:∃r,decide (lo<=n/\n<=hi)=r:=⟨_,rfl⟩
 rw[hr];have HR:=AD hr;clear hr;by_cases h1:lo<=n
 .by_cases h2:n<=hi
  .have HE:Hid (true=r):=by show _=_;rw[<-AA HR,AL ⟨h1,h2⟩]
   go_enter func50,ntmps50
   go_wp2
   go_ret;refine⟨Av ?_,rfl⟩;first|exact AA HE|(rw[<-AA HE];simp;omega)
  .have HE:Hid (false=r):=by show _=_;rw[<-AA HR,AK (fun h=>h2 h.2)]
   go_enter func50,ntmps50
   go_wp2
   go_ret;refine⟨Av ?_,rfl⟩;first|exact AA HE|(rw[<-AA HE];simp;omega)
 .have HE:Hid (false=r):=by show _=_;rw[<-AA HR,AK (fun h=>h1 h.1)]
  go_enter func50,ntmps50
  go_wp2
  go_ret;refine⟨Av ?_,rfl⟩;first|exact AA HE|(rw[<-AA HE];simp;omega)
def I8(n lo hi:Int)(r:Bool)(h:decide (lo<=n/\n<=hi)=r)(w:World):Calls prog 50 #[.int .i64 n,.int .i64 lo,.int .i64 hi] w fun e w'=>e=.returned (.bool r)/\w'=w:=by rw[<-h];exact Pn n lo hi w
