import Derived.Test.YtgjpchnkodnieaaGreatDoorZ12
import Derived.Test.YtgjpchnkodnieaaGreatDoorZ11
set_option maxRecDepth 20000
set_option maxHeartbeats 2000000
set_option linter.defProp false
namespace Go.Proofs.YtgjpchnkodnieaaGreatDoor
open Go.RowKit Tryz
section
open Go.Shelf
def bV(w:World)(f:Nat->Int×Int)(n:Nat)(a1:Option Addr)(n1 c1:Nat)(e:Ending)(w':World):Prop:=((Ay f n=0/\∃p,w.heap.size<=p/\e=.returned (.tuple #[.agg #[.bool false,.slice a1 n1 c1,.slice (some ⟨p,0,none⟩) n n],.int .i64 0])/\BA w' p (Bg f n))\/(Ay f n≠0/\e=.returned (.tuple #[.agg #[.bool false,.slice none 0 0,.slice none 0 0],.int .i64 (Ay f n)])))/\Below w.heap.size w w'
def JS(a b:Addr)(g:Nat)(lb:Array Value)(eg:∀args w,(callFunc g args).run prog w=.ok (.enter g args) w)(f:Nat->Int×Int)(n:Nat)(a1:Option Addr)(n1 c1:Nat)(sh:List Int)(w:World)(h1:AO w a1 n1 sh)(hsh:Am sh=true)(hc:Ac sh=(n:Int))(hG:Gl w a b)(hf:∀k,k<n->G0 (f k).2)(hE:F8 a b g lb f n w):Calls prog 118 #[.slice a1 n1 c1,.func (.func g) #[] lb] w (bV w f n a1 n1 c1):=by
 have hn:n<=17592186044416:=by have:=(Ey sh hsh sh.length).2;rw[List.take_length,Bs sh hsh,hc]at this;omega
 have HE:Hid (∀o,F8 a b g lb f n (w.alloc o)):=fun o=>hE.low (AG.alloc AC _);have HF:=AD hf;have H1:=AD h1;have HS:=AD hsh;have HC:=AD hc;have HG:=AD hG;clear hE hf h1 hsh hc hG;have HW:Hid (∀o,Below w.heap.size w (w.alloc o)):=fun o=>AG.alloc AC _;by_cases h0:Ay f n=0
 .have HZ:=AD h0;clear h0;go_enter func118,ntmps118;go_wp2_with(first
   |(go_at_call 116;refine(Cn _ _ _ sh _ ((AA H1).alloc _) (AA HS) _ HC).mono ?_;rintro e w1⟨rfl,rfl⟩)
   |(go_at_call 121;refine(Gv a b g lb eg f n _ hn (AA HF) (AA HE _)).mono ?_;rintro e w2⟨hr,hb2⟩;obtain⟨_,rfl,DI⟩|⟨hne,_⟩:=hr;rotate_left;exact absurd (AA HZ) hne;have hB:=Ai.below (Ai.new w false (.slice none 0 0) (.slice none 0 0)) AC hb2;obtain⟨q0,q1,q2,q3,q4,q5,q6⟩:=hB.all;have HK:=AD DI;have HL:=AD ((AA HW _).trans (hb2.mono (by simp)));clear DI hb2 hB))
  refine bodyPost_ret (v:=.tuple #[.agg #[.bool false,.slice a1 n1 c1,.slice (some ⟨w.heap.size+1,0,none⟩) n n],.int .i64 0]) (by simp[results,results118,go_sem,q0,q1,q2]) rfl ?_;refine⟨.inl ⟨AA HZ,w.heap.size+1,by omega,rfl,?_⟩,(((AA HL).setCell AC _).setCell AC _).setCell AC _⟩;have hk:BA w2 (w.heap.size+1) (Bg f n):=by simpa using AA HK
  exact((hk.other (by simp) _).other (by simp) _).other (by simp) _
 .have HZ:=AD h0;clear h0;go_enter func118,ntmps118;go_wp2_with(first
   |(go_at_call 116;refine(Cn _ _ _ sh _ ((AA H1).alloc _) (AA HS) _ HC).mono ?_;rintro e w1⟨rfl,rfl⟩)
   |(go_at_call 121;refine(Gv a b g lb eg f n _ hn (AA HF) (AA HE _)).mono ?_;rintro e w2⟨hr,hb2⟩;obtain⟨hne,_⟩|⟨_,hci,rfl⟩:=hr;exact absurd hne (AA HZ);have hB:=Ai.below (Ai.new w false (.slice none 0 0) (.slice none 0 0)) AC hb2;obtain⟨q0,q1,q2,q3,q4,q5,q6⟩:=hB.all;have HI:=AD hci;have HL:=AD ((AA HW _).trans (hb2.mono (by simp)));clear hb2 hB hci;obtain⟨c,hcc⟩:∃c,c=Ay f n:=⟨_,rfl⟩;rw[<-hcc];have HCC:=AD hcc;clear hcc;obtain⟨ev,hev⟩:∃ev,ev=E3 a b c:=⟨_,rfl⟩;rw[<-hev];have hev2:∃p,ev=.iface 278 (.pointer (some p)):=(by rw[hev,AA HCC];rcases AA HI with h|h|h;exact absurd h (AA HZ);exact⟨a,by rw[h];rfl⟩;exact⟨b,by rw[h];rfl⟩);have HEV:=AD hev;clear hev;obtain⟨p,rfl⟩:=hev2)
   |(go_at_call 190;rw[AA HEV];refine(Su a b c _ ((AA HG).below (AA HL)) (by rw[AA HCC];exact AA HI) (by rw[AA HCC];exact AA HZ)).mono ?_;rintro e w3⟨rfl,rfl⟩))
  refine bodyPost_ret (v:=.tuple #[.agg #[.bool false,.slice none 0 0,.slice none 0 0],.int .i64 c]) (by simp[results,results118,go_sem,q0,q1,q2]) rfl ?_;exact⟨.inr ⟨AA HZ,by rw[<-AA HCC]⟩,(((AA HL).setCell AC _).setCell AC _).setCell AC _⟩
end
section
open Go.Shelf
def EZ(v:Int)(w:World)(r:Bool)(h:Hid (Cj v 0 1=r)):Calls prog 283 #[.int .i64 v] w fun e w'=>e=.returned (.bool r)/\w'=w:=by go_enter func283,ntmps283;go_wp2_with(go_at_call 50;refine(CP _ _ _ _ r h).mono ?_;rintro e w'⟨rfl,rfl⟩);go_ret;exact⟨rfl,rfl⟩
def NY(v:Int)(w:World)(hv: -1000000000000000<=v/\v<=1000000000000000):Calls prog 281 #[.int .i64 v] w fun e w'=>e=.returned (.int .i64 (if v<0 then-v else v))/\w'=w:=by
 obtain⟨h1,h2⟩:=hv;by_cases h:v<0
 .rw[AI h];go_enter func281,ntmps281
  go_wp2
  go_ret;exact⟨by first|rfl|(simp;omega),rfl⟩
 .rw[AH h];go_enter func281,ntmps281
  go_wp2
  go_ret;exact⟨by first|rfl|(simp;omega),rfl⟩
def ZX{a b:Addr}{r:Int×Int}{x c:Int}(h:r=(x,c)):Ending.returned (.tuple #[.int .i64 x,E3 a b c])=Ending.returned (.tuple #[.int .i64 r.1,E3 a b r.2]):=by rw[h]
end
def Fo(ad:Addr)(n cap:Nat)(zs:List Int)(w:World)(h:AO w (some ad) n zs):Calls prog 63 #[.slice (some ad) n cap] w fun e w'=>∃a' Ak,e=.returned (.slice a' n Ak)/\n<=Ak/\Bt w' w.heap.size a' n zs/\Below w.heap.size w w':=by
 have hl:=h.len;have hs:=h.small;have H:=AD h;clear h;obtain⟨i0,hi,hz0,hz1,hz2⟩:=info_parts A6;have qT:∀(w:World)(a:Option Addr)(n c n' c':Nat),(binOp .eql 23 (.slice a n c) (.slice none n' c')).run prog w=.ok (.bool a.isNone) w:=fun w a n c n' c'=>Lib.run_eql_slice_nil w _ _ a n c n' c' underlying23;go_enter func63,ntmps63;go_wp2_with(at_builtin;refine wpList_append_own _ rfl _ _ 23 rfl w.heap.size 3 i0 (.int .i64 0) 1 8 underlying23 hi hz0 hz1 hz2 rfl (by decide) _ _ _ rfl (Fs w) ad n cap (zs.map (Value.int .i64)) rfl (by simpa using hl) (Ct ((AA H).alloc _)) (DQ zs) (by unfold maxLen;omega) (by omega) (by simp) ?_;intro v1 w1 BJ An hnil);clear hnil;have BL:w1.ownsRow w.heap.size 3 1 v1 n (zs.map (Value.int .i64)):=by simpa using BJ
 obtain⟨a',Ak,rfl,ho⟩:=Bt.of_owns BL hs;have hbel:Below w.heap.size w w1:=(AG.alloc AC _).grown An (by simp) (by intro k hk;cases hk;exact AC);have hcap:n<=Ak:=by
  rcases BL.2 with⟨h',h0⟩|⟨g',c',cur,h',_,_,hle,_⟩
  .simp at h';omega
  .cases h';omega
 clear BJ An BL
 go_wp2
 go_ret;exact⟨_,_,rfl,hcap,ho,hbel⟩
def VQ(cap:Nat)(w:World):Calls prog 63 #[.slice none 0 cap] w fun e w'=>e=.returned (.slice none 0 0)/\w'=w:=by
 have qT:∀(w:World)(a:Option Addr)(n c n' c':Nat),(binOp .eql 23 (.slice a n c) (.slice none n' c')).run prog w=.ok (.bool a.isNone) w:=fun w a n c n' c'=>Lib.run_eql_slice_nil w _ _ a n c n' c' underlying23;go_enter func63,ntmps63
 go_wp2
 go_ret;exact⟨rfl,rfl⟩
def Gg(ad:Option Addr)(n cap:Nat)(zs:List Int)(w:World)(h:AO w ad n zs):Calls prog 63 #[.slice ad n cap] w fun e w'=>∃a' Ak,e=.returned (.slice a' n Ak)/\n<=Ak/\Bt w' w.heap.size a' n zs/\Below w.heap.size w w':=by
 cases ad with
 |some a=>exact Fo a n cap zs w h
 |none=>
  have h0:n=0:=by
   rcases Nat.eq_zero_or_pos n with h0|h0
   .exact h0
   .obtain⟨b,o,e,_⟩:=h.get h0;cases e
  have hl:=h.len;subst h0;obtain rfl:zs= []:=Af.1 hl;refine(VQ cap w).mono ?_;rintro e w'⟨rfl,rfl⟩;exact⟨none,0,rfl,AC,⟨rfl,by omega,.inl rfl⟩,AG⟩
def Mw(c:Bool)(a1 a2:Option Addr)(n1 n2 c1 c2:Nat)(dt:List Int)(w:World)(h2:AO w a2 n2 dt):Calls prog 136 #[.agg #[.bool c,.slice a1 n1 c1,.slice a2 n2 c2]] w fun e w'=>e=.returned (.bool (dt.all (BY c)))/\Below w.heap.size w w':=by
 have hl2:=AD h2.len;have hs2:=h2.small;have H2:=AD h2;clear h2;have hW:∀o,Below w.heap.size w (w.alloc o):=fun o=>AG.alloc AC _;cases c with
 |true=>
  go_enter func136,ntmps136
  go_wp2
  go_loop [5,11] (fun _ i=>∃k:Nat,k<=n2/\i=.int .i64 k/\Hid ((dt.take k).all (BY true)=true)) (fun _ i=>n2- (intOf i).toNat)
  case atStart=>exact⟨0,AS _,rfl,rfl⟩
  case round=>
   obtain⟨k,hk,rfl,hall⟩:=hrel;by_cases hlt:k<n2
   .obtain⟨b,off,rfl,hblt,hc⟩:=(AA H2).get hlt;have hks:Hid (k<dt.length):=by show k<dt.length;rw[AA hl2];exact hlt
    obtain⟨x,hx⟩:∃x,x=dt.getD k 0:=⟨_,rfl⟩
    rw[<-hx]at hc;have HX:=AD hx;clear hx;cases hr:BY true x with
    |true=>
     have HA:=AD (FX dt (BY true) k (AA hks) (AA hall) (by rw[<-AA HX,hr]));have HR:=AD hr;clear hr;go_wp2_with(go_at_call 216;refine(HH _ _).mono ?_;rintro e w'⟨rfl,rfl⟩;rw[AA HR])
     go_round
     case rel=>exact⟨k+1,by omega,by go_num,HA⟩
     case measure=>simp[intOf];omega
    |false=>
     have HE:=AD (Fk dt (BY true) k (AA hks) (by rw[<-AA HX,hr]));have HR:=AD hr;clear hr;go_wp2_with(go_at_call 216;refine(HH _ _).mono ?_;rintro e w'⟨rfl,rfl⟩;rw[AA HR]);go_ret;exact⟨Av HE.out.symm,hW _⟩
   .have HA:Hid (dt.all (BY true)=true):=by
     have:=AA hall
     rwa [AV (by rw[AA hl2];omega)]at this
    go_wp2
    go_ret;exact⟨Av HA.out.symm,hW _⟩
 |false=>
  go_enter func136,ntmps136
  go_wp2
  go_loop [5,11] (fun _ i=>∃k:Nat,k<=n2/\i=.int .i64 k/\Hid ((dt.take k).all (BY false)=true)) (fun _ i=>n2- (intOf i).toNat)
  case atStart=>exact⟨0,AS _,rfl,rfl⟩
  case round=>
   obtain⟨k,hk,rfl,hall⟩:=hrel;by_cases hlt:k<n2
   .obtain⟨b,off,rfl,hblt,hc⟩:=(AA H2).get hlt;have hks:Hid (k<dt.length):=by show k<dt.length;rw[AA hl2];exact hlt
    obtain⟨x,hx⟩:∃x,x=dt.getD k 0:=⟨_,rfl⟩
    rw[<-hx]at hc;have HX:=AD hx;clear hx;cases hr:BY false x with
    |true=>
     have HA:=AD (FX dt (BY false) k (AA hks) (AA hall) (by rw[<-AA HX,hr]));have HR:=AD hr;clear hr;go_wp2_with(go_at_call 215;refine(Fj _ _).mono ?_;rintro e w'⟨rfl,rfl⟩;rw[AA HR])
     go_round
     case rel=>exact⟨k+1,by omega,by go_num,HA⟩
     case measure=>simp[intOf];omega
    |false=>
     have HE:=AD (Fk dt (BY false) k (AA hks) (by rw[<-AA HX,hr]));have HR:=AD hr;clear hr;go_wp2_with(go_at_call 215;refine(Fj _ _).mono ?_;rintro e w'⟨rfl,rfl⟩;rw[AA HR]);go_ret;exact⟨Av HE.out.symm,hW _⟩
   .have HA:Hid (dt.all (BY false)=true):=by
     have:=AA hall
     rwa [AV (by rw[AA hl2];omega)]at this
    go_wp2
    go_ret;exact⟨Av HA.out.symm,hW _⟩
def No(c:Bool)(a1 a2:Option Addr)(n1 n2 c1 c2:Nat)(dt:List Int)(w:World)(h2:AO w a2 n2 dt)(r:Bool)(hr:Hid (dt.all (BY c)=r)):Calls prog 136 #[.agg #[.bool c,.slice a1 n1 c1,.slice a2 n2 c2]] w fun e w'=>e=.returned (.bool r)/\Below w.heap.size w w':=by rw[<-hr.out];exact Mw c a1 a2 n1 n2 c1 c2 dt w h2
def VB{c:Bool}{sh dt:List Int}(h:Am sh=false):AJ c sh dt=false:=by
 unfold AJ;unfold Am at h;by_cases h1:sh.length<=5
 .rw[AL h1]at h;have h2:¬ 0<=Ac sh:=by simpa using h
  rw[AK (p:=Ac sh=_) (by omega)];simp
 .rw[AK h1];rfl
def Le(c:Bool)(a1 a2:Option Addr)(n1 n2 c1 c2:Nat)(sh dt:List Int)(w:World)(h1:AO w a1 n1 sh)(h2:AO w a2 n2 dt):Calls prog 51 #[.agg #[.bool c,.slice a1 n1 c1,.slice a2 n2 c2]] w fun e w'=>e=.returned (.bool (AJ c sh dt))/\Below w.heap.size w w':=by
 have hl1:=AD h1.len;have hl2:=AD h2.len;have hs1:=h1.small;have hs2:=h2.small;have H1:=AD h1;have H2:=AD h2;clear h1 h2;have hW:∀o,Below w.heap.size w (w.alloc o):=fun o=>AG.alloc AC _;cases hsb:Am sh with
 |false=>
  have HS:=AD hsb;have HE:=AD (VB (c:=c) (dt:=dt) hsb);clear hsb;go_enter func51,ntmps51
  go_wp2
  go_quiet((go_at_call 114;exact Calls.quiet_of_same (CR _ _ _ sh _ (((AA H1).alloc _).drewN _) false HS)))
  go_wp2
  go_ret;exact⟨Av HE.out.symm,Below.drewN (hW _) _⟩
 |true=>
  have HS:=AD hsb;clear hsb;obtain⟨cn,hcn⟩:∃cn,Ac sh=cn:=⟨_,rfl⟩
  have HC:=AD hcn;clear hcn;by_cases hcn:cn=n2
  .have hb:((n2:Int)==cn)=true:=by simp[hcn]
   have HCN:=AD hcn;clear hcn;obtain⟨r,hr⟩:∃r,dt.all (BY c)=r:=⟨_,rfl⟩
   have HR:=AD hr;clear hr;have HE:Hid (AJ c sh dt=r):=by show _=_;have h5:=AA HS;unfold Am at h5;simp only[Ah,BC]at h5;unfold AJ;rw[AA HR,AL h5.1,AL (by rw[AA HC,AA HCN,AA hl2])];rfl
   go_enter func51,ntmps51;go_wp2_with fail;go_cut[2] (fun r' wr=>r'=.bool r/\Below w.heap.size w wr);case first=>
    go_region_with(first
     |(go_at_call 114;refine(CR _ _ _ sh _ (by first|exact((AA H1).alloc _).drew|exact(((AA H1).alloc _).drewN _)) true HS).mono ?_;rintro e w'⟨rfl,rfl⟩)
     |(go_at_call 116;refine(Cn _ _ _ sh _ (by first|exact((AA H1).alloc _).drew|exact(((AA H1).alloc _).drewN _)) (AA HS) cn HC).mono ?_;rintro e w'⟨rfl,rfl⟩)
     |(go_at_call 136;refine(No _ _ _ _ _ _ _ dt _ (by first|exact((AA H2).alloc _).drew|exact(((AA H2).alloc _).drewN _)) r HR).mono ?_;rintro e w'⟨rfl,hbe⟩))
    all_goals go_wp2_with fail
    all_goals(go_meet;case rel=>exact⟨rfl,(hW _).drew.trans (hbe.mono (by simp))⟩)
   case rest=>
    obtain⟨rfl,hbc⟩:=hcut
    go_wp2
    go_ret;exact⟨Av HE.out.symm,hbc⟩
  .have hb:((n2:Int)==cn)=false:=by simp;omega
   have HE:=AD (Og (c:=c) (sh:=sh) (AA hl2) (by rw[AA HC];exact hcn));clear hcn;go_enter func51,ntmps51
   go_wp2
   go_quiet(first|(go_at_call 114;exact Calls.quiet_of_same (CR _ _ _ sh _ (((AA H1).alloc _).drewN _) true HS))|(go_at_call 116;exact Calls.quiet_of_same (Cn _ _ _ sh _ (((AA H1).alloc _).drewN _) (AA HS) cn HC)))
   go_wp2
   go_ret;exact⟨Av HE.out.symm,Below.drewN (hW _) _⟩
def AR(c:Bool)(a1 a2:Option Addr)(n1 n2 c1 c2:Nat)(sh dt:List Int)(w:World)(h1:AO w a1 n1 sh)(h2:AO w a2 n2 dt)(r:Bool)(hr:Hid (AJ c sh dt=r)):Calls prog 51 #[.agg #[.bool c,.slice a1 n1 c1,.slice a2 n2 c2]] w fun e w'=>e=.returned (.bool r)/\Below w.heap.size w w':=by rw[<-hr.out];exact Le c a1 a2 n1 n2 c1 c2 sh dt w h1 h2
def BS.drewN{S:Nat->Prop}{w w':World}(h:BS S w w')(q:Nat):BS S w (w'.drewN q):=⟨h.os,h.tape,h.output,h.size,h.block⟩
def RR(g:Nat)(sa:Option Addr)(n c1 c2:Nat)(sh:List Int)(p:Int)(w:World)(h:BA w g (BK sh p))(hr:AO w sa n sh)(hne:¬ At sa n g)(hf:F0 sh)(hs:Aq sh):Calls prog 229 #[.slice (some ⟨g,0,none⟩) n c1,.slice sa n c2] w fun e w'=>(∃v,e=.returned v)/\BA w' g (BK sh (p+1))/\BS (fun k=>k=g) w w':=by
 have hl:=hr.len;have hsm:=hr.small;have H0:Hid (BA w g (SA sh p 0)):=by show BA _ _ _;rw[Wk];exact h
 have HR:=AD hr;have HF:=AD hf;have HS:=AD hs;have HNE:=AD hne;have HC0:=AD (Sx sh p);have HL:=AD hl;clear h hr hf hs hne;go_enter func229,ntmps229;go_wp2_with fail;go_loopw[4] (fun i wr=>∃j:Nat,j<=n/\i=.int .i64 ((n:Int)- 1- (j:Nat))/\Hid (Oh sh p j)/\Hid (BA wr g (SA sh p j))/\Hid (BS (fun k=>k=g) w wr)) (fun i _=>(intOf i+1).toNat);case atStart=>exact⟨0,AS _,by simp,HC0,H0,AD (BS.refl _ _)⟩
 case round=>
  obtain⟨j,hj,rfl,hc,hb,hbut⟩:=hrel;clear H0 HC0;by_cases hlt:j<n
  .obtain⟨i,hi⟩:∃i:Nat,i=n- 1- j:=⟨_,rfl⟩
   have e1:(n:Int)- 1- (j:Nat)=(i:Nat):=by omega
   rw[e1];obtain⟨d,hd⟩:∃d,d=Eu sh p i:=⟨_,rfl⟩
   obtain⟨s,hs'⟩:∃s,s=sh.getD i 0:=⟨_,rfl⟩
   have hin:i<n:=by omega
   have E2:=(hbut.out.row HR.out (by rintro k rfl;exact HNE.out))
   obtain⟨b,off,rfl,hblt,hcs⟩:=E2.get hin;have hbg:b≠g:=fun e=>HNE.out ⟨by omega,_,rfl,e⟩;rw[<-hs']at hcs;have hgi:sh.length- 1- j=i:=by omega
   have hcd:=hb.out.cell (i:=i) (by rw[Yb];omega);have hmg:=Yc sh p j (by omega);rw[hgi,<-hd]at hmg;rw[hmg]at hcd;have hfr:=hb.out.free i;have hdb:0<=d/\d<s:=by have hs0:=HF.out i (by omega);rw[hd,hs'];unfold Eu;exact⟨Int.emod_nonneg _ (by omega),Int.emod_lt_of_pos _ hs0⟩
   have hsb:s<=10000:=by rw[hs'];exact(HS.out.cell i).2
   have hw1:IntKind.i64.wrap (d+1)=d+1:=by rw[IntKind.wrap_i64];omega
   have HD:=AD hd;have HSS:=AD hs';have HI:=AD hi;have HGI:=AD hgi;clear hd hs' hi hgi hmg E2 e1;have hc2:(wr.setCell ⟨g,i,none⟩ (.int .i64 (d+1))).cell? ⟨g,i,none⟩=some (.int .i64 (d+1)):=World.cell?_setCell_same' _ _ _ (by rw[hcd];rfl);have hc3:(wr.setCell ⟨g,i,none⟩ (.int .i64 (d+1))).cell? ⟨b,off+i,none⟩=some (.int .i64 s):=(CE _ _ _ _ (by simp<;>omega)).trans hcs;have hf2:(wr.setCell ⟨g,i,none⟩ (.int .i64 (d+1))).frozen? ⟨g,i,none⟩=false:=by rw[World.frozen?_setCell];exact hfr
   by_cases hd1:d+1<s
   .go_upto_region 4 with fail;go_quiet(fail);go_wp2_with fail;refine bodyPost_ret (results_none rfl _ _ _) rfl ?_;refine⟨⟨_,rfl⟩,?_,?_⟩
    .have e:=hb.out.set i (d+1);have e2:=Sy HF.out hc.out (by omega) (by rw[HGI.out,<-HD.out,<-HSS.out];exact hd1);rw[HGI.out,<-HD.out]at e2;rw[e2]at e;exact e
    .exact(hbut.out.setCell (p:=⟨g,i,none⟩) rfl _).drewN _
   .go_upto_region 4 with fail;go_quiet(fail);go_wp2_with fail;go_roundw;case rel=>
     refine⟨j+1,by omega,by rw[HI.out];go_num,AD (Sz HF.out hc.out (by omega) (by rw[HGI.out,<-HD.out,<-HSS.out];exact hd1)),?_,AD (((hbut.out.setCell (p:=⟨g,i,none⟩) rfl _).drewN _).setCell (p:=⟨g,i,none⟩) rfl _)⟩;have e2:=Wl sh p j (by omega);rw[HGI.out]at e2;have e3:SA sh p (j+1)=((SA sh p j).set i (d+1)).set i 0:=by rw[List.set_set,e2]
     show BA _ _ _;rw[e3];exact BA.set (hb.out.set i (d+1)) i 0
    case measure=>simp[intOf]
  .have:j=n:=by omega
   subst this;have e1:(j:Int)- 1- (j:Nat)= -1:=by omega
   rw[e1];go_wp2_with fail
   go_end0
   refine⟨⟨_,rfl⟩,?_,hbut.out⟩;have e:=hb.out;rw[U9 hc.out (by rw[HL.out];exact AC)]at e;exact e
section
open Go.Shelf
def NH(a:Option Addr)(n cap:Nat)(sh:List Int)(w:World)(h:AO w a n sh)(hin:Aq sh)(N:Nat)(hr:Hid (AM sh=(N:Int))):Calls prog 116 #[.slice a n cap] w fun e w'=>e=.returned (.int .i64 (N:Int))/\w'=w:=by rw[<-hr.out];exact GK a n cap sh w h (fun k=>(hin.take k).bd)
end
def Nf(a:Option Addr)(n cap:Nat)(sh:List Int)(w:World)(h:AO w a n sh):Calls prog 158 #[.slice a n cap] w fun e w'=>e=.returned (.bool (Am sh))/\w'=w:=by
 have Bq:=AD h.len;have hsm:=h.small;have H:=AD h;clear h;by_cases h5:5<n
 .have HE:=AD (MB (AA Bq) h5);go_enter func158,ntmps158
  go_wp2
  go_ret;exact⟨Av HE.out.symm,rfl⟩
 .obtain⟨cn,hcn⟩:∃cn,Ac sh=cn:=⟨_,rfl⟩
  have HC:=AD hcn;have HE:Hid (Am sh=decide (0<=cn)):=by show _=_;unfold Am;rw[AL (by rw[AA Bq];omega),hcn];rfl
  clear hcn;go_enter func158,ntmps158;go_wp2_with(go_at_call 48;refine(EY _ _ _ sh _ (AA H) cn HC).mono ?_;rintro e w1⟨rfl,rfl⟩);go_ret;exact⟨Av HE.out.symm,rfl⟩
def Db(a:Option Addr)(n cap:Nat)(sh:List Int)(w:World)(h:AO w a n sh)(r:Bool)(hr:Hid (Am sh=r)):Calls prog 158 #[.slice a n cap] w fun e w'=>e=.returned (.bool r)/\w'=w:=by rw[<-hr.out];exact Nf a n cap sh w h
def Kx(a1:Option Addr)(n c1:Nat)(sh:List Int)(p:Int)(w:World)(h1:AO w a1 n sh)(hn:n<=10000)(hs:∀k,sh.getD k 0<=10000)(hf:F0 sh)(hp:0<=p)(hp2:p<=10000):Calls prog 55 #[.slice a1 n c1,.int .i64 p] w fun e w'=>e=.returned (.slice (some ⟨w.heap.size,0,none⟩) n n)/\BA w' w.heap.size (BK sh p)/\Below w.heap.size w w':=by
 have hl:=AD h1.len;have H1:=AD h1;have HS:=AD hs;have HF:=AD hf;have hdl:(BK sh p).length=n:=by rw[De];exact h1.len
 clear h1 hs hf;obtain⟨i0,hi,hz0,hz1,hz2⟩:=info_parts A6;go_enter func55,ntmps55;go_wp2_with(at_make;refine wpList_make_full _ rfl _ _ 23 rfl w.heap.size 3 i0 (.int .i64 0) 1 underlying23 hi hz0 hz1 _ _ _ _ n rfl rfl rfl rfl (by rw[hz2];omega) (by unfold maxLen;omega) AC ?_;intro w1 BJ An);have DI:BA w1 w.heap.size (List.replicate n 0++(BK sh p).drop n):=BA.of_owns (n:=n) (base:=w.heap.size) (by simpa[toList_madeCells_one,Value.cells,List.drop_of_length_le (Nat.le_of_eq hdl)]using BJ);have hbel:Below w.heap.size w w1:=AG.grown An AC (by simp);clear BJ An hi hz0 hz1 hz2;have HBK:=AD DI;have HBL:=AD hbel;have HDL:=AD hdl;clear DI hbel hdl
 go_wp2
 go_loopw[1,6] (fun q i wr=>∃m:Nat,m<=n/\i=.int .i64 ((m:Int)- 1)/\q=.int .i64 (Ci sh p (n- m))/\Hid (BA wr w.heap.size (List.replicate m 0++(BK sh p).drop m))/\Hid (Below w.heap.size w wr)) (fun _ i _=>(intOf i+1).toNat);case atStart=>exact⟨n,AC,by go_num,by simp[Ci],HBK,HBL⟩
 case round=>
  obtain⟨m,hm,rfl,rfl,hb,hbl⟩:=hrel;clear HBK HBL w1;rcases Nat.eq_zero_or_pos m with h0|h0
  .subst h0
   go_wp2
   go_ret;exact⟨rfl,by simpa using AA hb,AA hbl⟩
  .obtain⟨k,hk⟩:∃k,m=k+1:=⟨m- 1,by omega⟩
   subst hk;have hlt:k<n:=by omega
   obtain⟨b,off,rfl,hblt,hc⟩:=(AA H1).get hlt;have hcx:=((AA hbl).cell (p:=⟨b,off+k,none⟩) hblt).trans hc;have hsc:=AA HS k;have hsp:=AA HF k (by rw[AA hl];exact hlt);have hr:=P7 (AA HF) hp (n- (k+1)) (by rw[AA hl];omega);have e1:sh.length- 1- (n- (k+1))=k:=by have:=AA hl;omega
   have HR:Hid (Ci sh p (n- k)=Ci sh p (n- (k+1)) / sh.getD k 0):=by
    show _=_;have e:n- k=n- (k+1)+1:=by omega
    rw[e];show Ci sh p (n- (k+1)) / sh.getD (sh.length- 1- (n- (k+1))) 0=_;rw[e1]
   have HD:Hid ((BK sh p).getD k 0=Ci sh p (n- (k+1)) % sh.getD k 0):=by
    show _=_;rw[I1 sh p k (by rw[AA hl];exact hlt)];unfold Eu;have e3:sh.length- 1- k=n- (k+1):=by have:=AA hl;omega
    rw[e3]
   obtain⟨s,hse⟩:∃s,s=sh.getD k 0:=⟨_,rfl⟩
   obtain⟨r,hre⟩:∃r,r=Ci sh p (n- (k+1)):=⟨_,rfl⟩
   rw[<-hse]at hcx hsc hsp HR HD;rw[<-hre]at hr HR HD ⊢;have hbc:=(AA hb).cell (i:=k) (by simp;omega);have hbf:=(AA hb).free k;clear hse hre hc e1
   go_wp2
   go_roundw;case rel=>exact⟨k,by omega,by go_num,by rw[AA HR],by rw[<-XY (by rw[AA HDL];exact hlt),AA HD];exact(AA hb).set k _,(AA hbl).setCell AC _⟩
   case measure=>simp[intOf]
