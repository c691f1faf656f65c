import Derived.Test.YtgjpchnkodnieaaGreatDoorZ00
import Derived.Test.YtgjpchnkodnieaaGreatDoorZ03
set_option maxHeartbeats 4000000
set_option linter.defProp false
namespace Go.Proofs.YtgjpchnkodnieaaGreatDoor
open Go.RowKit Tryz
def Qg(b:Bool)(w:World):Calls prog 200 #[.bool b] w fun e w'=>e=.returned (.int .i64 (Bh b))/\w'=w:=by
 cases b;all_goals
  go_enter func200,ntmps200
  go_wp2
  go_ret;exact⟨rfl,rfl⟩
def Hr(a b:Int)(w:World)(ha: -1000000000000000<=a/\a<=1000000000000000)(hb: -1000000000000000<=b/\b<=1000000000000000):Calls prog 246 #[.int .i64 a,.int .i64 b] w fun e w'=>e=.returned (.int .i64 (Bk a b))/\w'=w:=by
 obtain⟨ha1,ha2⟩:=ha;obtain⟨hb1,hb2⟩:=hb;by_cases h0:a=0
 .subst h0;have HE:Hid (Bk 0 b=b):=rfl;go_enter func246,ntmps246
  go_wp2
  go_ret;exact⟨BM HE.out.symm,rfl⟩
 have q0:(a==0)=false:=by simp[h0]
 have hm: -1000000000000000<=b.tmod a/\b.tmod a<=1000000000000000:=by have:=Int.natAbs_tmod b a;have h3:b.natAbs % a.natAbs<=b.natAbs:=Nat.mod_le _ _;omega
 obtain⟨m,hm0⟩:∃m,b.tmod a=m:=⟨_,rfl⟩
 rw[hm0]at hm;obtain⟨hm1,hm2⟩:=hm;by_cases hz:m=0
 .subst hz;have HE:Hid (Bk a b=0):=by show _=_;unfold Bk;rw[AH h0,hm0];simp
  go_enter func246,ntmps246
  go_wp2
  go_ret;exact⟨BM HE.out.symm,rfl⟩
 have q1:(m !=0)=true:=by simp[hz]
 by_cases hs:m<0
 .by_cases ht:a<0
  .have HE:Hid (Bk a b=m):=by show _=_;unfold Bk;rw[AH h0,hm0];simp[hs,ht]
   clear hz;go_enter func246,ntmps246
   go_wp2
   go_ret;exact⟨BM HE.out.symm,rfl⟩
  .have HE:Hid (Bk a b=m+a):=by show _=_;unfold Bk;rw[AH h0,hm0];simp[hs,ht,hz]
   clear hz;go_enter func246,ntmps246
   go_wp2
   go_ret;exact⟨BM HE.out.symm,rfl⟩
 .by_cases ht:a<0
  .have HE:Hid (Bk a b=m+a):=by show _=_;unfold Bk;rw[AH h0,hm0];simp[hs,ht,hz]
   clear hz;go_enter func246,ntmps246
   go_wp2
   go_ret;exact⟨BM HE.out.symm,rfl⟩
  .have HE:Hid (Bk a b=m):=by show _=_;unfold Bk;rw[AH h0,hm0];simp[hs,ht]
   clear hz;go_enter func246,ntmps246
   go_wp2
   go_ret;exact⟨BM HE.out.symm,rfl⟩
def KN(a b:Int)(w:World)(ha: -1000000000000000<=a/\a<=1000000000000000)(hb: -1000000000000000<=b/\b<=1000000000000000):Calls prog 196 #[.int .i64 a,.int .i64 b] w fun e w'=>e=.returned (.int .i64 (Bk a b))/\w'=w:=by
 obtain⟨ha1,ha2⟩:=ha;obtain⟨hb1,hb2⟩:=hb;by_cases h0:a=0
 .subst h0;have HE:Hid (Bk 0 b=b):=rfl;go_enter func196,ntmps196
  go_wp2
  go_ret;exact⟨BM HE.out.symm,rfl⟩
 have q0:(a==0)=false:=by simp[h0]
 have hm: -1000000000000000<=b.tmod a/\b.tmod a<=1000000000000000:=by have:=Int.natAbs_tmod b a;have h3:b.natAbs % a.natAbs<=b.natAbs:=Nat.mod_le _ _;omega
 obtain⟨m,hm0⟩:∃m,b.tmod a=m:=⟨_,rfl⟩
 rw[hm0]at hm;obtain⟨hm1,hm2⟩:=hm;by_cases hz:m=0
 .subst hz;have HE:Hid (Bk a b=0):=by show _=_;unfold Bk;rw[AH h0,hm0];simp
  go_enter func196,ntmps196
  go_wp2
  go_ret;exact⟨BM HE.out.symm,rfl⟩
 have q1:(m !=0)=true:=by simp[hz]
 by_cases hs:m<0
 .by_cases ht:a<0
  .have HE:Hid (Bk a b=m):=by show _=_;unfold Bk;rw[AH h0,hm0];simp[hs,ht]
   clear hz;go_enter func196,ntmps196
   go_wp2
   go_ret;exact⟨BM HE.out.symm,rfl⟩
  .have HE:Hid (Bk a b=m+a):=by show _=_;unfold Bk;rw[AH h0,hm0];simp[hs,ht,hz]
   clear hz;go_enter func196,ntmps196
   go_wp2
   go_ret;exact⟨BM HE.out.symm,rfl⟩
 .by_cases ht:a<0
  .have HE:Hid (Bk a b=m+a):=by show _=_;unfold Bk;rw[AH h0,hm0];simp[hs,ht,hz]
   clear hz;go_enter func196,ntmps196
   go_wp2
   go_ret;exact⟨BM HE.out.symm,rfl⟩
  .have HE:Hid (Bk a b=m):=by show _=_;unfold Bk;rw[AH h0,hm0];simp[hs,ht]
   clear hz;go_enter func196,ntmps196
   go_wp2
   go_ret;exact⟨BM HE.out.symm,rfl⟩
def Dy(b:Bool)(w:World):Calls prog 200 #[.bool b] w fun e w'=>e=.returned (.int .i64 (Bh b))/\w'=w:=by
 cases b;all_goals
  go_enter func200,ntmps200
  go_wp2
  go_ret;exact⟨rfl,rfl⟩
def H7(v:Int)(w:World):Calls prog 202 #[.int .i64 v] w fun e w'=>e=.returned (.bool (Dv v))/\w'=w:=by
 by_cases h1:v<=1000000000000000
 .by_cases h2: -1000000000000000<=v
  .have HE:Hid (Dv v=true):=Ea h2 h1;go_enter func202,ntmps202
   go_wp2
   go_ret;exact⟨Av HE.out.symm,rfl⟩
  .have HE:Hid (Dv v=false):=Jk (by omega);go_enter func202,ntmps202
   go_wp2
   go_ret;exact⟨Av HE.out.symm,rfl⟩
 .have HE:Hid (Dv v=false):=Jk (by omega);go_enter func202,ntmps202
  go_wp2
  go_ret;exact⟨Av HE.out.symm,rfl⟩
def OL{a b x y:Int}(hx:x=a\/x= -a)(hy:y=b\/y= -b):x*y=a*b\/x*y= -(a*b):=by rcases hx with rfl|rfl<;>rcases hy with rfl|rfl<;>simp[Int.neg_mul,Int.mul_neg]
def Qh(a b:Int)(w:World)(ha: -1000000000000000<=a/\a<=1000000000000000)(hb: -1000000000000000<=b/\b<=1000000000000000):Calls prog 201 #[.int .i64 a,.int .i64 b] w fun e w'=>e=.returned (.tuple #[.int .i64 (Bo a b).1,.bool (Bo a b).2])/\w'=w:=by
 obtain⟨ha1,ha2⟩:=ha;obtain⟨hb1,hb2⟩:=hb;by_cases h0:a=0
 .subst h0;have HE:Hid (Bo 0 b=(0,true)):=by show _=_;simp[Bo,Dv]
  go_enter func201,ntmps201
  go_wp2
  go_ret2;exact⟨GP (by rw[AA HE]) (by rw[AA HE]),rfl⟩
 by_cases h1:b=0
 .subst h1;have HE:Hid (Bo a 0=(0,true)):=by show _=_;simp[Bo,Dv]
  have q0:(a==0)=false:=by simp[h0]
  clear h0;go_enter func201,ntmps201
  go_wp2
  go_ret2;exact⟨GP (by rw[AA HE]) (by rw[AA HE]),rfl⟩
 have q0:(a==0)=false:=by simp[h0]
 have q1:(b==0)=false:=by simp[h1]
 obtain⟨x,hx⟩:∃x,(if a<0 then-a else a)=x:=⟨_,rfl⟩
 obtain⟨y,hy⟩:∃y,(if b<0 then-b else b)=y:=⟨_,rfl⟩
 have hy0:0<y:=by rw[<-hy];split<;>omega
 have hyn:¬ y=0:=by omega
 have hxy:x*y=a*b\/x*y= -(a*b):=OL (by rw[<-hx];split<;>simp) (by rw[<-hy];split<;>simp);have hp0:0<=x*y:=Int.mul_nonneg (by rw[<-hx];split<;>omega) (by omega);have hq:(1000000000000000:Int).tdiv y<x↔1000000000000000<x*y:=Ol hy0;obtain⟨t,ht⟩:∃t,(1000000000000000:Int).tdiv y=t:=⟨_,rfl⟩
 have htb:0<=t/\t<=1000000000000000:=by rw[<-ht,DA (by omega)];exact⟨Int.ediv_nonneg (by omega) (by omega),Int.ediv_le_self _ (by omega)⟩
 obtain⟨ht1,ht2⟩:=htb;rw[ht]at hq;obtain⟨pr,hpr⟩:∃pr,a*b=pr:=⟨_,rfl⟩
 rw[hpr]at hxy;by_cases hbig:t<x
 .have HE:Hid (Bo a b=(0,false)):=GU (by rw[hpr];exact Jk (by have:=hq.mp hbig;omega));clear hq hxy hp0 h0 h1;by_cases hs:a<0;all_goals by_cases hu:b<0
  all_goals
   simp only[hs,hu,G3,Gh]at hx hy;subst hx hy;go_enter func201,ntmps201
   go_wp2
   go_ret2;exact⟨GP (by rw[AA HE]) (by rw[AA HE]),rfl⟩
 .have hle:x*y<=1000000000000000:=by
   by_cases h':1000000000000000<x*y
   .exact absurd (hq.mpr h') hbig
   .omega
  have hpb1: -1000000000000000<=pr:=by omega
  have hpb2:pr<=1000000000000000:=by omega
  have HE:Hid (Bo a b=(pr,true)):=by show _=_;rw[Hl (by rw[hpr];exact Ea hpb1 hpb2),hpr]
  clear hq hxy hp0 hle h0 h1;by_cases hs:a<0;all_goals by_cases hu:b<0
  all_goals
   simp only[hs,hu,G3,Gh]at hx hy;subst hx hy;go_enter func201,ntmps201
   go_wp2
   go_ret2;exact⟨GP (by rw[AA HE]) (by rw[AA HE]),rfl⟩
def D2(a b:Int)(w:World)(ha: -1000000000000000<=a/\a<=1000000000000000)(hb: -1000000000000000<=b/\b<=1000000000000000)(r1:Int)(r2:Bool)(hr:Hid (Bo a b=(r1,r2))):Calls prog 201 #[.int .i64 a,.int .i64 b] w fun e w'=>e=.returned (.tuple #[.int .i64 r1,.bool r2])/\w'=w:=by have:=Qh a b w ha hb;rw[AA hr]at this;exact this
def MK{a b:Int}(h:Dv (a ^ b.toNat)=true):Dj a b=(a ^ b.toNat,true):=by simp[Dj,h]
def TS{a b:Int}(h:Dv (a ^ b.toNat)=false):Dj a b=(0,false):=by simp[Dj,h]
def NU{b:Int}(h:0<b):Dj 0 b=(0,true):=by have:(0:Int) ^ b.toNat=0:=Int.zero_pow (by omega);rw[MK (by rw[this];rfl),this]
def NS:Dj 0 0=(1,true):=by simp[Dj,Dv]
def O4{b:Int}:Dj 1 b=(1,true):=by have:(1:Int) ^ b.toNat=1:=Int.one_pow;rw[MK (by rw[this];rfl),this]
def Hy(n:Nat):((-1:Int)) ^ n=1- (n % 2:Nat)*2:=by
 induction n with
 |zero=>rfl
 |succ n ih=>rw[Int.pow_succ,ih];omega
def QI{b:Int}(h:0<=b):Dj (-1) b=(1- b.tmod 2*2,true):=by
 have e:b.tmod 2=((b.toNat % 2:Nat):Int):=by rw[Au h];omega
 have:(-1:Int) ^ b.toNat=1- b.tmod 2*2:=by rw[Hy,e]
 rw[MK (by
   rw[this];have:0<=b.tmod 2/\b.tmod 2<=1:=by rw[e];omega
   exact Ea (by omega) (by omega)),this]
def Qi(a b:Int)(w:World)(ha: -1000000000000000<=a/\a<=1000000000000000)(hb0:0<=b)(hb:b<=1000000000000000):Calls prog 236 #[.int .i64 a,.int .i64 b] w fun e w'=>e=.returned (.tuple #[.int .i64 (Dj a b).1,.bool (Dj a b).2])/\w'=w:=by
 by_cases h0:a=0
 .subst h0;by_cases hz:b=0
  .subst hz;have HE:Hid (Dj 0 0=(Bh true,true)):=NS;go_enter func236,ntmps236;go_wp2_with(go_at_call 200;refine(Dy _ _).mono ?_;rintro e w1⟨rfl,rfl⟩);go_ret2;exact⟨GP (by rw[AA HE]) (by rw[AA HE]),rfl⟩
  .have HE:Hid (Dj 0 b=(Bh false,true)):=NU (by omega);have qz:(b==0)=false:=by simp[hz]
   go_enter func236,ntmps236;go_wp2_with(go_at_call 200;refine(Dy _ _).mono ?_;rintro e w1⟨rfl,rfl⟩);go_ret2;exact⟨GP (by rw[AA HE]) (by rw[AA HE]),rfl⟩
 by_cases h1:a=1
 .subst h1;have HE:Hid (Dj 1 b=(Bh true,true)):=O4;go_enter func236,ntmps236;go_wp2_with(go_at_call 200;refine(Dy _ _).mono ?_;rintro e w1⟨rfl,rfl⟩);go_ret2;exact⟨GP (by rw[AA HE]) (by rw[AA HE]),rfl⟩
 have q0:(a==0)=false:=by simp[h0]
 have q1:(a==1)=false:=by simp[h1]
 by_cases h2:a= -1
 .subst h2;have HE:=AD (QI hb0);have hm:0<=b.tmod 2/\b.tmod 2<=1:=by rw[Au hb0];omega
  obtain⟨m,hm0⟩:∃m,b.tmod 2=m:=⟨_,rfl⟩
  rw[hm0]at hm HE;obtain⟨hm1,hm2⟩:=hm;go_enter func236,ntmps236
  go_wp2
  go_ret2;exact⟨GP (by rw[AA HE]) (by rw[AA HE]),rfl⟩
 have q2:(a== -1)=false:=by simp[h2]
 have h3:=AD (TA h0 h1 h2);clear h0 h1 h2;obtain⟨n,hn⟩:∃n:Nat,b=n:=⟨b.toNat,by omega⟩
 subst hn;go_enter func236,ntmps236
 go_wp2
 go_loop [6,7] (fun v i=>∃(k:Nat)(x:Int),k<=n/\i=.int .i64 k/\v=.int .i64 x/\Hid (a ^ k=x)/\Hid (Dv (a ^ k)=true)) (fun _ i=>n- (intOf i).toNat)
 case atStart=>exact⟨0,1,AS _,rfl,rfl,AD (by simp),AD (by simp[Dv])⟩
 case round=>
  obtain⟨k,x,hk,rfl,rfl,hx,hin⟩:=hrel;have hxb: -1000000000000000<=x/\x<=1000000000000000:=by rw[<-AA hx];exact IB (AA hin)
  by_cases hlt:k<n
  .have hps:a ^ (k+1)=x*a:=by rw[Int.pow_succ,AA hx]
   by_cases hbig:Dv (x*a)=true
   .have HT:Hid (Bo x a=(x*a,true)):=Hl hbig;have hyb:=IB hbig;obtain⟨y,hy⟩:∃y,x*a=y:=⟨_,rfl⟩
    rw[hy]at HT hbig hyb hps;have HP:=AD hps;have HIN:Hid (Dv (a ^ (k+1))=true):=by show _=_;rw[hps];exact hbig
    clear hy hbig hps;go_wp2_with(go_at_call 201;refine(D2 _ _ _ hxb ha _ _ HT).mono ?_;rintro e w1⟨rfl,rfl⟩)
    go_round
    case rel=>exact⟨k+1,y,by omega,by go_num,rfl,HP,HIN⟩
    case measure=>simp[intOf];omega
   .have hb':Dv (x*a)=false:=by simpa using hbig
    have HT:Hid (Bo x a=(0,false)):=GU hb';have HE:Hid (Dj a n=(0,false)):=TS (JV (AA h3) (k+1) _ (by simp;omega) (by rw[hps];exact hb'));clear hbig hb' hps;go_wp2_with(go_at_call 201;refine(D2 _ _ _ hxb ha _ _ HT).mono ?_;rintro e w1⟨rfl,rfl⟩);go_ret2;exact⟨GP (by rw[AA HE]) (by rw[AA HE]),rfl⟩
  .have hkn:k=n:=by omega
   subst hkn;have HE:Hid (Dj a k=(x,true)):=by show _=_;rw[MK (by simpa using AA hin)];simpa using AA hx
   go_wp2
   go_ret2;exact⟨GP (by rw[AA HE]) (by rw[AA HE]),rfl⟩
def Qj(op a b:Int)(w:World)(hop:op=5\/op=6\/op=9\/op=10\/op=11\/op=12\/op=13\/op=14):Calls prog 237 #[.int .i64 op,.int .i64 a,.int .i64 b] w fun e w'=>e=.returned (.int .i64 (CL op a b))/\w'=w:=by
 have hcmp:a<b\/a=b\/b<a:=by omega
 rcases hcmp with h|h|h
 .have k1:(a==b)=false:=by simp;omega
  have k2:¬ b<a:=by omega
  have k3:a<=b:=by omega
  rcases hop with rfl|rfl|rfl|rfl|rfl|rfl|rfl|rfl;all_goals
   go_enter func237,ntmps237;go_wp2_with(go_at_call 200;refine(Dy _ _).mono ?_;rintro e w1⟨rfl,rfl⟩);go_ret;exact⟨BM (by simp[CL,Bh]<;>omega),rfl⟩
 .subst h;rcases hop with rfl|rfl|rfl|rfl|rfl|rfl|rfl|rfl;all_goals
   go_enter func237,ntmps237;go_wp2_with(go_at_call 200;refine(Dy _ _).mono ?_;rintro e w1⟨rfl,rfl⟩);go_ret;exact⟨BM (by simp[CL,Bh]),rfl⟩
 .have k1:(a==b)=false:=by simp;omega
  have k2:¬ a<b:=by omega
  have k3:b<=a:=by omega
  have k5:¬ a<=b:=by omega
  rcases hop with rfl|rfl|rfl|rfl|rfl|rfl|rfl|rfl;all_goals
   go_enter func237,ntmps237;go_wp2_with(go_at_call 200;refine(Dy _ _).mono ?_;rintro e w1⟨rfl,rfl⟩);go_ret;exact⟨BM (by simp[CL,Bh]<;>omega),rfl⟩
def EF(v:Int)(w:World)(r:Bool)(hr:Hid (Dv v=r)):Calls prog 202 #[.int .i64 v] w fun e w'=>e=.returned (.bool r)/\w'=w:=by rw[<-AA hr];exact H7 v w
def Qk(a b:Int)(w:World)(ha: -1000000000000000<=a/\a<=1000000000000000)(hb: -1000000000000000<=b/\b<=1000000000000000)(r:Int)(hr:Hid (Bk a b=r)):Calls prog 196 #[.int .i64 a,.int .i64 b] w fun e w'=>e=.returned (.int .i64 r)/\w'=w:=by rw[<-AA hr];exact KN a b w ha hb
def Iw(a b:Int)(w:World)(ha: -1000000000000000<=a/\a<=1000000000000000)(hb0:0<=b)(hb:b<=1000000000000000)(r1:Int)(r2:Bool)(hr:Hid (Dj a b=(r1,r2))):Calls prog 236 #[.int .i64 a,.int .i64 b] w fun e w'=>e=.returned (.tuple #[.int .i64 r1,.bool r2])/\w'=w:=by have:=Qi a b w ha hb0 hb;rw[AA hr]at this;exact this
def SD(op a b:Int)(w:World)(hop:op=5\/op=6\/op=9\/op=10\/op=11\/op=12\/op=13\/op=14)(r:Int)(hr:Hid (CL op a b=r)):Calls prog 237 #[.int .i64 op,.int .i64 a,.int .i64 b] w fun e w'=>e=.returned (.int .i64 r)/\w'=w:=by rw[<-AA hr];exact Qj op a b w hop
def E0{v:Int}(h:Dv v=true):BH (v,true)=(v,0):=by simp[BH,h]
def KL{v:Int}(h:Dv v=false):BH (v,true)=(0,7):=by simp[BH,h]
def Jf{v:Int}:BH (v,false)=(0,7):=by simp[BH]
def Pg(op a b:Int):Prop:=∀w:World,Calls prog 183 #[.int .i64 op,.int .i64 a,.int .i64 b] w fun e w'=>e=.returned (.tuple #[.int .i64 (BQ op a b).1,.int .i64 (BQ op a b).2])/\w'=w
def bn{a b:Int}(ha: -1000000000000000<=a/\a<=1000000000000000)(hb: -1000000000000000<=b/\b<=1000000000000000):Pg 1 a b:=by
 intro w;obtain⟨ha1,ha2⟩:=ha;obtain⟨hb1,hb2⟩:=hb;obtain⟨r,hr⟩:∃r,Dv (a+b)=r:=⟨_,rfl⟩
 have HR:=AD hr;cases r with
 |true=>
  have HE:Hid (BQ 1 a b=(a+b,0)):=E0 hr;clear hr;go_enter func183,ntmps183;go_wp2_with(go_at_call 202;refine(EF _ _ _ HR).mono ?_;rintro e w1⟨rfl,rfl⟩);go_ret2;exact⟨CH (by rw[AA HE]) (by rw[AA HE]),rfl⟩
 |false=>
  have HE:Hid (BQ 1 a b=(0,7)):=KL hr;clear hr;go_enter func183,ntmps183;go_wp2_with(go_at_call 202;refine(EF _ _ _ HR).mono ?_;rintro e w1⟨rfl,rfl⟩);go_ret2;exact⟨CH (by rw[AA HE]) (by rw[AA HE]),rfl⟩
def bm{a b:Int}(ha: -1000000000000000<=a/\a<=1000000000000000)(hb: -1000000000000000<=b/\b<=1000000000000000):Pg 2 a b:=by
 intro w;obtain⟨ha1,ha2⟩:=ha;obtain⟨hb1,hb2⟩:=hb;obtain⟨r,hr⟩:∃r,Dv (a- b)=r:=⟨_,rfl⟩
 have HR:=AD hr;cases r with
 |true=>
  have HE:Hid (BQ 2 a b=(a- b,0)):=E0 hr;clear hr;go_enter func183,ntmps183;go_wp2_with(go_at_call 202;refine(EF _ _ _ HR).mono ?_;rintro e w1⟨rfl,rfl⟩);go_ret2;exact⟨CH (by rw[AA HE]) (by rw[AA HE]),rfl⟩
 |false=>
  have HE:Hid (BQ 2 a b=(0,7)):=KL hr;clear hr;go_enter func183,ntmps183;go_wp2_with(go_at_call 202;refine(EF _ _ _ HR).mono ?_;rintro e w1⟨rfl,rfl⟩);go_ret2;exact⟨CH (by rw[AA HE]) (by rw[AA HE]),rfl⟩
def bj{a b:Int}(ha: -1000000000000000<=a/\a<=1000000000000000)(hb: -1000000000000000<=b/\b<=1000000000000000):Pg 3 a b:=by
 intro w;have HE:Hid (BQ 3 a b=BH (Bo a b)):=rfl;obtain⟨q,hq⟩:∃q,Bo a b=q:=⟨_,rfl⟩
 obtain⟨v,ok⟩:=q;have HQ:=AD hq;rw[hq]at HE;clear hq;cases ok with
 |false=>
  rw[Jf]at HE;go_enter func183,ntmps183;go_wp2_with(go_at_call 201;refine(D2 _ _ _ ha hb _ _ HQ).mono ?_;rintro e w1⟨rfl,rfl⟩);go_ret2;exact⟨CH (by rw[AA HE]) (by rw[AA HE]),rfl⟩
 |true=>
  obtain⟨r,hr⟩:∃r,Dv v=r:=⟨_,rfl⟩
  have HR:=AD hr;cases r with
  |true=>
   rw[E0 hr]at HE;clear hr;go_enter func183,ntmps183;go_wp2_with(first|(go_at_call 201;refine(D2 _ _ _ ha hb _ _ HQ).mono ?_;rintro e w1⟨rfl,rfl⟩)|(go_at_call 202;refine(EF _ _ _ HR).mono ?_;rintro e w1⟨rfl,rfl⟩));go_ret2;exact⟨CH (by rw[AA HE]) (by rw[AA HE]),rfl⟩
  |false=>
   rw[KL hr]at HE;clear hr;go_enter func183,ntmps183;go_wp2_with(first|(go_at_call 201;refine(D2 _ _ _ ha hb _ _ HQ).mono ?_;rintro e w1⟨rfl,rfl⟩)|(go_at_call 202;refine(EF _ _ _ HR).mono ?_;rintro e w1⟨rfl,rfl⟩));go_ret2;exact⟨CH (by rw[AA HE]) (by rw[AA HE]),rfl⟩
def bi{a b:Int}(ha: -1000000000000000<=a/\a<=1000000000000000)(hb: -1000000000000000<=b/\b<=1000000000000000):Pg 4 a b:=by
 intro w;obtain⟨ha1,ha2⟩:=ha;obtain⟨hb1,hb2⟩:=hb;have HE:Hid (BQ 4 a b=(if a=0/\b=0 then(1,0)else if b=0\/a.tmod b≠0 then(0,3)else BH (a.tdiv b,true))):=rfl;by_cases hz:b=0
 .subst hz;by_cases h0:a=0
  .subst h0;rw[AI ⟨rfl,rfl⟩]at HE;go_enter func183,ntmps183
   go_wp2
   go_ret2;exact⟨CH (by rw[AA HE]) (by rw[AA HE]),rfl⟩
  .rw[AH (fun h=>h0 h.1),AI (.inl rfl)]at HE;have q0:(a==0)=false:=by simp[h0]
   go_enter func183,ntmps183
   go_wp2
   go_ret2;exact⟨CH (by rw[AA HE]) (by rw[AA HE]),rfl⟩
 have qz:(b==0)=false:=by simp[hz]
 rw[AH (fun h=>hz h.2)]at HE;obtain⟨m,hm⟩:∃m,a.tmod b=m:=⟨_,rfl⟩
 rw[hm]at HE;by_cases hm0:m=0
 .subst hm0;rw[AH (by simp[hz])]at HE;have hd: -1000000000000000<=a.tdiv b/\a.tdiv b<=1000000000000000:=by have h1:=Int.natAbs_tdiv_le_natAbs a b;omega
  obtain⟨v,hv⟩:∃v,a.tdiv b=v:=⟨_,rfl⟩
  rw[hv]at HE hd;rw[E0 (Ea hd.1 hd.2)]at HE;obtain⟨hd1,hd2⟩:=hd;have HR:Hid (Dv v=true):=Ea hd1 hd2;by_cases h0:a=0
  .subst h0;have hv0:v=0:=by rw[<-hv];simp
   subst hv0;clear hv hm;go_enter func183,ntmps183;go_wp2_with(go_at_call 202;refine(EF _ _ _ HR).mono ?_;rintro e w1⟨rfl,rfl⟩);go_ret2;exact⟨CH (by rw[AA HE]) (by rw[AA HE]),rfl⟩
  .have q0:(a==0)=false:=by simp[h0]
   go_enter func183,ntmps183;go_wp2_with(go_at_call 202;refine(EF _ _ _ HR).mono ?_;rintro e w1⟨rfl,rfl⟩);go_ret2;exact⟨CH (by rw[AA HE]) (by rw[AA HE]),rfl⟩
 .rw[AI (.inr hm0)]at HE;have qm:(m !=0)=true:=by simp[hm0]
  have h0:¬ a=0:=by rintro rfl;simp at hm;exact hm0 hm.symm
  have q0:(a==0)=false:=by simp[h0]
  go_enter func183,ntmps183
  go_wp2
  go_ret2;exact⟨CH (by rw[AA HE]) (by rw[AA HE]),rfl⟩
def bh{a b:Int}(ha: -1000000000000000<=a/\a<=1000000000000000)(hb: -1000000000000000<=b/\b<=1000000000000000):Pg 7 a b:=by
 intro w;have HE:Hid (BQ 7 a b=BH (Bk a b,true)):=rfl;obtain⟨v,hv⟩:∃v,Bk a b=v:=⟨_,rfl⟩
 have HV:=AD hv;rw[hv]at HE;clear hv;obtain⟨r,hr⟩:∃r,Dv v=r:=⟨_,rfl⟩
 have HR:=AD hr;cases r with
 |true=>
  rw[E0 hr]at HE;clear hr;go_enter func183,ntmps183;go_wp2_with(first|(go_at_call 196;refine(Qk _ _ _ ha hb _ HV).mono ?_;rintro e w1⟨rfl,rfl⟩)|(go_at_call 202;refine(EF _ _ _ HR).mono ?_;rintro e w1⟨rfl,rfl⟩));go_ret2;exact⟨CH (by rw[AA HE]) (by rw[AA HE]),rfl⟩
 |false=>
  rw[KL hr]at HE;clear hr;go_enter func183,ntmps183;go_wp2_with(first|(go_at_call 196;refine(Qk _ _ _ ha hb _ HV).mono ?_;rintro e w1⟨rfl,rfl⟩)|(go_at_call 202;refine(EF _ _ _ HR).mono ?_;rintro e w1⟨rfl,rfl⟩));go_ret2;exact⟨CH (by rw[AA HE]) (by rw[AA HE]),rfl⟩
def bZ{a b:Int}(ha: -1000000000000000<=a/\a<=1000000000000000)(hb: -1000000000000000<=b/\b<=1000000000000000):Pg 8 a b:=by
 intro w;have HE:Hid (BQ 8 a b=(if b<0 then(0,3)else BH (Dj a b))):=rfl;by_cases hn:b<0
 .rw[AI hn]at HE;go_enter func183,ntmps183
  go_wp2
  go_ret2;exact⟨CH (by rw[AA HE]) (by rw[AA HE]),rfl⟩
 rw[AH hn]at HE;obtain⟨q,hq⟩:∃q,Dj a b=q:=⟨_,rfl⟩
 obtain⟨v,ok⟩:=q;have HQ:=AD hq;rw[hq]at HE;clear hq;cases ok with
 |false=>
  rw[Jf]at HE;go_enter func183,ntmps183;go_wp2_with(go_at_call 236;refine(Iw _ _ _ ha (by omega) hb.2 _ _ HQ).mono ?_;rintro e w1⟨rfl,rfl⟩);go_ret2;exact⟨CH (by rw[AA HE]) (by rw[AA HE]),rfl⟩
 |true=>
  obtain⟨r,hr⟩:∃r,Dv v=r:=⟨_,rfl⟩
  have HR:=AD hr;cases r with
  |true=>
   rw[E0 hr]at HE;clear hr;go_enter func183,ntmps183;go_wp2_with(first|(go_at_call 236;refine(Iw _ _ _ ha (by omega) hb.2 _ _ HQ).mono ?_;rintro e w1⟨rfl,rfl⟩)|(go_at_call 202;refine(EF _ _ _ HR).mono ?_;rintro e w1⟨rfl,rfl⟩));go_ret2;exact⟨CH (by rw[AA HE]) (by rw[AA HE]),rfl⟩
  |false=>
   rw[KL hr]at HE;clear hr;go_enter func183,ntmps183;go_wp2_with(first|(go_at_call 236;refine(Iw _ _ _ ha (by omega) hb.2 _ _ HQ).mono ?_;rintro e w1⟨rfl,rfl⟩)|(go_at_call 202;refine(EF _ _ _ HR).mono ?_;rintro e w1⟨rfl,rfl⟩));go_ret2;exact⟨CH (by rw[AA HE]) (by rw[AA HE]),rfl⟩
def Uj(x:Bool):Dv (Bh x)=true:=by cases x<;>rfl
def QQ{op a b:Int}(ha: -1000000000000000<=a/\a<=1000000000000000)(hb: -1000000000000000<=b/\b<=1000000000000000):Dv (CL op a b)=true:=by
 unfold CL
 repeat' split
 all_goals first|exact Uj _|exact Ea (by omega) (by omega)
def Cy{a b:Int}(ha: -1000000000000000<=a/\a<=1000000000000000)(hb: -1000000000000000<=b/\b<=1000000000000000)(op:Int)(hop:op=5\/op=6\/op=9\/op=10\/op=11\/op=12\/op=13\/op=14):BQ op a b=(CL op a b,0):=by
 have h:BQ op a b=BH (CL op a b,true):=by rcases hop with rfl|rfl|rfl|rfl|rfl|rfl|rfl|rfl<;>rfl
 rw[h,E0 (QQ ha hb)]
def T8{a b:Int}(ha: -1000000000000000<=a/\a<=1000000000000000)(hb: -1000000000000000<=b/\b<=1000000000000000)(op:Int)(hop:op=5\/op=6\/op=9\/op=10\/op=11\/op=12\/op=13\/op=14):Pg op a b:=by
 intro w;have HE:=AD (Cy ha hb op hop);have HR:=AD (QQ (op:=op) ha hb);obtain⟨v,hv⟩:∃v,CL op a b=v:=⟨_,rfl⟩
 have HV:=AD hv;rw[hv]at HE HR;clear hv;have hop':=hop;rcases hop with rfl|rfl|rfl|rfl|rfl|rfl|rfl|rfl;all_goals
  go_enter func183,ntmps183;go_wp2_with(first|(go_at_call 237;refine(SD _ _ _ _ hop' _ HV).mono ?_;rintro e w1⟨rfl,rfl⟩)|(go_at_call 202;refine(EF _ _ _ HR).mono ?_;rintro e w1⟨rfl,rfl⟩));go_ret2;exact⟨CH (by rw[AA HE]) (by rw[AA HE]),rfl⟩
def T9{a b:Int}(ha: -1000000000000000<=a/\a<=1000000000000000)(hb: -1000000000000000<=b/\b<=1000000000000000)(op:Int)(hop:op=15\/op=16):Pg op a b:=by
 intro w;obtain⟨ha1,ha2⟩:=ha;obtain⟨hb1,hb2⟩:=hb;by_cases hA:a=0\/a=1
 .by_cases hB:b=0\/b=1
  .rcases hA with rfl|rfl<;>rcases hB with rfl|rfl<;>rcases hop with rfl|rfl;all_goals
    go_enter func183,ntmps183;go_wp2_with(first|(go_at_call 200;refine(Dy _ _).mono ?_;rintro e w1⟨rfl,rfl⟩;simp only[Bh,G3,Gh,Bool.false_eq_true])|(go_at_call 202;refine(H7 _ _).mono ?_;rintro e w1⟨rfl,rfl⟩;simp only[Dv]));go_ret2;exact⟨CH (by decide) (by decide),rfl⟩
  .have u0:(b !=0)=true:=by simp;omega
   have u1:(b !=1)=true:=by simp;omega
   have HE:Hid (BQ op a b=(0,3)):=by show _=_;rcases hop with rfl|rfl<;>simp[BQ]<;>omega
   rcases hA with rfl|rfl<;>rcases hop with rfl|rfl;all_goals
    go_enter func183,ntmps183
    go_wp2
    go_ret2;exact⟨CH (by rw[AA HE]) (by rw[AA HE]),rfl⟩
 .have u0:(a !=0)=true:=by simp;omega
  have u1:(a !=1)=true:=by simp;omega
  have HE:Hid (BQ op a b=(0,3)):=by show _=_;rcases hop with rfl|rfl<;>simp[BQ]<;>omega
  rcases hop with rfl|rfl;all_goals
   go_enter func183,ntmps183
   go_wp2
   go_ret2;exact⟨CH (by rw[AA HE]) (by rw[AA HE]),rfl⟩
def Ug{a b:Int}(ha: -1000000000000000<=a/\a<=1000000000000000)(hb: -1000000000000000<=b/\b<=1000000000000000)(op:Int)(hop:1<=op/\op<=16):Pg op a b:=by
 have h:op=1\/op=2\/op=3\/op=4\/(op=5\/op=6\/op=9\/op=10\/op=11\/op=12\/op=13\/op=14)\/op=7\/op=8\/(op=15\/op=16):=by omega
 rcases h with rfl|rfl|rfl|rfl|h|rfl|rfl|h
 .exact bn ha hb
 .exact bm ha hb
 .exact bj ha hb
 .exact bi ha hb
 .exact T8 ha hb op h
 .exact bh ha hb
 .exact bZ ha hb
 .exact T9 ha hb op h
