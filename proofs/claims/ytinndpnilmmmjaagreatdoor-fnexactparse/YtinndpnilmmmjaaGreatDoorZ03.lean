import Derived.Test.YtinndpnilmmmjaaGreatDoorZ00
import Derived.Lib.Replace
import Derived.Shelf.Strconv.Itoa3
set_option maxRecDepth 20000
set_option maxHeartbeats 2000000
set_option linter.defProp false
namespace Go.Proofs.YtinndpnilmmmjaaGreatDoor
open Go.RowKit Tryz
def D6(s:AE)(i:Nat)(p:AE):Bool:=decide (i+p.size<=s.size)&&((s.extract i (i+p.size)).toList==p.toList)
def Cl{s:AE}{i:Nat}(h:i<s.size):bt s i=(s.data.toList.getD i 0).toNat:=by have h':i<s.data.size:=h;rw[Nh h,D1,AP,Dz,D3 h'];rfl
def Cq(s:AE)(i e:Nat):(s.extract i e).data.toList=(s.data.toList.drop i).take (e- i):=by rw[<-Lib.toList_data,Lib.extract_toList]
def EM{l:List UInt8}{i m:Nat}(h:i<l.length):(l.drop i).take (m+1)=l.getD i 0::(l.drop (i+1)).take m:=by rw[CL h,List.take_succ_cons];simp[List.getD_eq_getElem?_getD,h]
def aE(b:UInt8){a:Nat}(ha:a<256):(b==UInt8.ofNat a)=decide (b.toNat=a):=by
 by_cases h:b.toNat=a
 .rw[AK h];have:b=UInt8.ofNat a:=by rw[<-h];simp
  rw[this];simp
 .rw[AD h];have:b≠UInt8.ofNat a:=fun e=>h (by rw[e];exact Fk (by simpa[UInt8.size]using ha));simpa using this
def Ey{s:AE}{i m a:Nat}{q:List UInt8}(h:i<s.size)(ha:a<256):((s.data.toList.drop i).take (m+1)==UInt8.ofNat a::q)=(decide (bt s i=a)&&((s.data.toList.drop (i+1)).take m==q)):=by
 have hl:i<s.data.toList.length:=by rw[<-Lib.size_eq];exact h
 rw[EM hl,List.cons_beq_cons,aE _ ha,Cl h]
def Gg(s:AE)(i:Nat):D6 s i ⟨#[194,175]⟩=CM s i:=by
 unfold D6 CM;rw[show(ByteArray.mk #[194,175]).size=2 from rfl,Lib.extract_toList,show(ByteArray.mk #[194,175]).toList= [UInt8.ofNat 194,UInt8.ofNat 175] by rw[Lib.toList_data];rfl,show i+2- i=0+1+1 by omega];by_cases h:i+2<=s.size
 .rw[Ey (by omega) (by omega),Ey (by omega) (by omega)];simp[h]
 .rw[AD h,AD (fun hh=>h hh.1)];rfl
def Ns(s:AE)(i:Nat):D6 s i ⟨#[39,39]⟩=Eo s i:=by
 unfold D6 Eo;rw[show(ByteArray.mk #[39,39]).size=2 from rfl,Lib.extract_toList,show(ByteArray.mk #[39,39]).toList= [UInt8.ofNat 39,UInt8.ofNat 39] by rw[Lib.toList_data];rfl,show i+2- i=0+1+1 by omega];by_cases h:i+2<=s.size
 .rw[Ey (by omega) (by omega),Ey (by omega) (by omega)];simp[h]
 .rw[AD h,AD (fun hh=>h hh.1)];rfl
def Nr(s:AE)(i:Nat):D6 s i ⟨#[226,141,157]⟩=DX s i:=by
 unfold D6 DX;rw[show(ByteArray.mk #[226,141,157]).size=3 from rfl,Lib.extract_toList,show(ByteArray.mk #[226,141,157]).toList= [UInt8.ofNat 226,UInt8.ofNat 141,UInt8.ofNat 157] by rw[Lib.toList_data];rfl,show i+3- i=0+1+1+1 by omega];by_cases h:i+3<=s.size
 .rw[Ey (by omega) (by omega),Ey (by omega) (by omega),Ey (by omega) (by omega)];simp[h,Nat.add_assoc]
 .rw[AD h,AD (fun hh=>h hh.1)];rfl
def tl(s:AE)(j:Nat):Bool:=decide (j<s.size/\128<=bt s j/\bt s j<192)
def v2(s:AE)(i:Nat):Nat:=bt s i % 32*64+bt s (i+1) % 64
def v3(s:AE)(i:Nat):Nat:=bt s i % 16*4096+bt s (i+1) % 64*64+bt s (i+2) % 64
def v4(s:AE)(i:Nat):Nat:=bt s i % 8*262144+bt s (i+1) % 64*4096+bt s (i+2) % 64*64+bt s (i+3) % 64
def BX(s:AE)(i:Nat):Utf8.decode s i=if bt s i<128 then(bt s i,1)else if bt s i / 32=6/\tl s (i+1)=true then(if 128<=v2 s i then(v2 s i,2)else(65533,1))else if bt s i / 16=14/\tl s (i+1)=true/\tl s (i+2)=true then(if 2048<=v3 s i/\Utf8.valid (v3 s i:Nat)=true then(v3 s i,3)else(65533,1))else if bt s i / 8=30/\tl s (i+1)=true/\tl s (i+2)=true/\tl s (i+3)=true then(if 65536<=v4 s i/\Utf8.valid (v4 s i:Nat)=true then(v4 s i,4)else(65533,1))else(65533,1):=by
 have ht:∀k,(decide (i+k<s.size)&&(bt s (i+k) / 64==2))=tl s (i+k):=fun k=>by
  unfold tl;have:=GR s (i+k);by_cases h:i+k<s.size
  .by_cases h2:bt s (i+k) / 64=2
   .rw[AK h,AK (by omega)];simp[h2]
   .rw[AK h,AD (by omega)];simp[h2]
  .rw[AD h,AD (by omega)];rfl
 unfold Utf8.decode;have h1:=ht 1;have h2:=ht 2;have h3:=ht 3;simp only[show∀k,(s.get! k).toNat=bt s k from fun _=>rfl,Ad,h1,h2,h3,Hk,An,As,and_assoc,ge_iff_le,Utf8.runeError];rfl
def Ig{s:AE}{i:Nat}(h:bt s i<128):Am s i=(bt s i,1):=by
 have hd:Utf8.decode s i=(bt s i,1):=by rw[BX,AL h]
 unfold Am;rw[hd,AG (fun e=>by have:=AV Prod.fst e;simp at this;omega)]
def D4{s:AE}{i:Nat}(h:Utf8.decode s i=(65533,1)):Am s i=(0,0):=by unfold Am;rw[AL h]
def LT{s:AE}{i v n:Nat}(h:Utf8.decode s i=(v,n))(hn:1<n):Am s i=(v,n):=by unfold Am;rw[h,AG (fun e=>by have:=AV Prod.snd e;simp at this;omega)]
def PF{s:AE}{i:Nat}(h0:128<=bt s i)(h:bt s i<192\/248<=bt s i):Am s i=(0,0):=by have:=GR s i;refine D4 ?_;rw[BX,AG (by omega),AG (by omega),AG (by omega),AG (by omega)]
def Mo{s:AE}{i:Nat}(h0:192<=bt s i)(h1:bt s i<224):Am s i=if tl s (i+1)=true/\128<=v2 s i then(v2 s i,2)else(0,0):=by
 have hd:=BX s i;rw[AG (by omega)]at hd;by_cases ht:tl s (i+1)=true
 .rw[AL ⟨by omega,ht⟩]at hd;by_cases hv:128<=v2 s i
  .rw[AL hv]at hd;rw[AL ⟨ht,hv⟩];exact LT hd (by omega)
  .rw[AG hv]at hd;rw[AG (fun h=>hv h.2)];exact D4 hd
 .rw[AG (fun h=>ht h.2),AG (by omega),AG (by omega)]at hd;rw[AG (fun h=>ht h.1)];exact D4 hd
def Mn{s:AE}{i:Nat}(h0:224<=bt s i)(h1:bt s i<240):Am s i=if tl s (i+1)=true/\tl s (i+2)=true/\2048<=v3 s i/\Utf8.valid (v3 s i:Nat)=true then(v3 s i,3)else(0,0):=by
 have hd:=BX s i;rw[AG (by omega),AG (by omega)]at hd;by_cases ht:tl s (i+1)=true/\tl s (i+2)=true
 .rw[AL ⟨by omega,ht⟩]at hd;by_cases hv:2048<=v3 s i/\Utf8.valid (v3 s i:Nat)=true
  .rw[AL hv]at hd;rw[AL ⟨ht.1,ht.2,hv⟩];exact LT hd (by omega)
  .rw[AG hv]at hd;rw[AG (fun h=>hv h.2.2)];exact D4 hd
 .rw[AG (fun h=>ht h.2),AG (by omega)]at hd;rw[AG (fun h=>ht ⟨h.1,h.2.1⟩)];exact D4 hd
def Mm{s:AE}{i:Nat}(h0:240<=bt s i)(h1:bt s i<248):Am s i=if tl s (i+1)=true/\tl s (i+2)=true/\tl s (i+3)=true/\65536<=v4 s i/\Utf8.valid (v4 s i:Nat)=true then(v4 s i,4)else(0,0):=by
 have hd:=BX s i;rw[AG (by omega),AG (by omega),AG (by omega)]at hd;by_cases ht:tl s (i+1)=true/\tl s (i+2)=true/\tl s (i+3)=true
 .rw[AL ⟨by omega,ht⟩]at hd;by_cases hv:65536<=v4 s i/\Utf8.valid (v4 s i:Nat)=true
  .rw[AL hv]at hd;rw[AL ⟨ht.1,ht.2.1,ht.2.2,hv⟩];exact LT hd (by omega)
  .rw[AG hv]at hd;rw[AG (fun h=>hv h.2.2.2)];exact D4 hd
 .rw[AG (fun h=>ht h.2)]at hd;rw[AG (fun h=>ht ⟨h.1,h.2.1,h.2.2.1⟩)];exact D4 hd
def Ds(w:World):Calls prog 121 #[] w fun e w'=>e=.returned (.string ⟨#[194,175]⟩)/\w'=w:=by
 go_enter func121,ntmps121
 go_wp2
 go_ret;exact⟨rfl,rfl⟩
def E4(c:Nat)(w:World):Calls prog 116 #[.int .u8 (c:Nat)] w fun e w'=>e=.returned (.bool (Es c))/\w'=w:=by
 obtain⟨r,hr⟩:∃r,Es c=r:=⟨_,rfl⟩
 rw[hr];have HR:Hid (decide (48<=c/\c<=57)=r):=hr;clear hr;by_cases h1:48<=c
 .have h1i:(48:Int)<=(c:Int):=by omega
  go_enter func116,ntmps116
  go_wp2
  go_ret;refine⟨AN ?_,rfl⟩;rw[<-AA HR];by_cases h2:c<=57
  .rw[AK (by omega),AK ⟨h1,h2⟩]
  .rw[AD (by omega),AD (by omega)]
 .have h1i:¬(48:Int)<=(c:Int):=by omega
  go_enter func116,ntmps116
  go_wp2
  go_ret;refine⟨AN ?_,rfl⟩;rw[<-AA HR,AD (by omega)]
def FI(c:Nat)(w:World):Calls prog 115 #[.int .u8 (c:Nat)] w fun e w'=>e=.returned (.bool (El c))/\w'=w:=by
 obtain⟨r,hr⟩:∃r,El c=r:=⟨_,rfl⟩
 rw[hr];have HR:Hid ((decide (97<=c/\c<=122)||decide (65<=c/\c<=90))=r):=hr;clear hr;by_cases h1:97<=c
 .have h1i:(97:Int)<=(c:Int):=by omega
  by_cases h2:c<=122
  .have h2i:(c:Int)<=122:=by omega
   go_enter func115,ntmps115
   go_wp2
   go_ret;refine⟨AN ?_,rfl⟩;rw[<-AA HR,AK ⟨h1,h2⟩];rfl
  .have h2i:¬(c:Int)<=122:=by omega
   have h3i:(65:Int)<=(c:Int):=by omega
   have h4i:¬(c:Int)<=90:=by omega
   go_enter func115,ntmps115
   go_wp2
   go_ret;refine⟨AN ?_,rfl⟩;rw[<-AA HR,AD (by omega),AD (by omega)];rfl
 .have h1i:¬(97:Int)<=(c:Int):=by omega
  by_cases h3:65<=c
  .have h3i:(65:Int)<=(c:Int):=by omega
   by_cases h4:c<=90
   .have h4i:(c:Int)<=90:=by omega
    go_enter func115,ntmps115
    go_wp2
    go_ret;refine⟨AN ?_,rfl⟩;rw[<-AA HR,AD (by omega),AK ⟨h3,h4⟩];rfl
   .have h4i:¬(c:Int)<=90:=by omega
    go_enter func115,ntmps115
    go_wp2
    go_ret;refine⟨AN ?_,rfl⟩;rw[<-AA HR,AD (by omega),AD (by omega)];rfl
  .have h3i:¬(65:Int)<=(c:Int):=by omega
   go_enter func115,ntmps115
   go_wp2
   go_ret;refine⟨AN ?_,rfl⟩;rw[<-AA HR,AD (by omega),AD (by omega)];rfl
def F8(s p:AE)(i:Nat)(hi:i<=s.size)(hs:s.size<=17592186044416)(hp:p.size<=100)(w:World):Calls prog 88 #[.string s,.int .i64 (i:Nat),.string p] w fun e w'=>e=.returned (.bool (D6 s i p))/\w'=w:=by
 obtain⟨r,hr⟩:∃r,D6 s i p=r:=⟨_,rfl⟩
 rw[hr];have HR:Hid ((decide (i+p.size<=s.size)&&((s.extract i (i+p.size)).toList==p.toList))=r):=hr;clear hr;by_cases h:i+p.size<=s.size
 .have hI:(i:Int)+(p.size:Int)<=(s.size:Int):=by omega
  go_enter func88,ntmps88
  go_wp2
  go_ret;refine⟨AN ?_,rfl⟩;rw[<-AA HR,AK h];rfl
 .have hI:¬(i:Int)+(p.size:Int)<=(s.size:Int):=by omega
  go_enter func88,ntmps88
  go_wp2
  go_ret;refine⟨AN ?_,rfl⟩;rw[<-AA HR,AD h];rfl
def bz(s:AE):List Int:=s.data.toList.map fun b=>((b.toNat:Nat):Int)
def cR(s:AE):(bz s).length=s.size:=by unfold bz;rw[AS,<-Lib.size_eq]
def IK{s:AE}{i:Nat}(h:i<s.size):(bz s).getD i 0=(bt s i:Nat):=by
 have hl:i<s.data.toList.length:=by rw[<-Lib.size_eq];exact h
 rw[Cl h];unfold bz;rw[AP,AP,BV,AR hl];rfl
def De.get{w:World}{a:Option Addr}{n:Nat}{zs:List Int}(h:De w a n zs){k:Nat}(hk:k<n):∃b off,a=some ⟨b,off,none⟩/\b<w.heap.size/\w.cell? ⟨b,off+k,none⟩=some (.int .u8 (zs.getD k 0)):=by
 rcases h.at_ with h0|⟨b,off,rfl,hlt,hc⟩
 .omega
 .exact⟨b,off,rfl,hlt,hc k hk⟩
def KO(a:Option Addr)(cap:Nat)(s:AE)(i:Nat)(w:World)(h:De w a s.size (bz s)):Calls prog 178 #[.slice a s.size cap,.int .i64 (i:Nat)] w fun e w'=>e=.returned (.bool (tl s i))/\w'=w:=by
 obtain⟨r,hr⟩:∃r,tl s i=r:=⟨_,rfl⟩
 rw[hr];have HR:Hid (decide (i<s.size/\128<=bt s i/\bt s i<192)=r):=hr;clear hr;by_cases hi:i<s.size
 .have hii:(i:Int)<(s.size:Int):=by omega
  obtain⟨b,off,rfl,-,hc⟩:=h.get hi;rw[IK hi]at hc;obtain⟨c,hcc⟩:∃c,bt s i=c:=⟨_,rfl⟩
  rw[hcc]at hc HR;clear h hcc;by_cases h1:128<=c
  .have h1i:(128:Int)<=(c:Int):=by omega
   go_enter func178,ntmps178
   go_wp2
   go_ret;refine⟨AN ?_,rfl⟩;rw[<-AA HR];by_cases h2:c<192
   .rw[AK (by omega),AK ⟨hi,h1,h2⟩]
   .rw[AD (by omega),AD (by omega)]
  .have h1i:¬(128:Int)<=(c:Int):=by omega
   go_enter func178,ntmps178
   go_wp2
   go_ret;refine⟨AN ?_,rfl⟩;rw[<-AA HR,AD (by omega)]
 .have hii:¬(i:Int)<(s.size:Int):=by omega
  clear h;go_enter func178,ntmps178
  go_wp2
  go_ret;refine⟨AN ?_,rfl⟩;rw[<-AA HR,AD (by omega)]
def C5{s:AE}{k:Nat}(h:k<s.size)(W:World):(Instr.index 9 (.string s) (.int .i64 (k:Nat))).run prog W=.ok (.int .u8 (bt s k:Nat)) W:=by
 have h1:(k:Int)<(s.size:Int):=by omega
 have h2:=Nh h;rw[h2]
 go_simp
def EE(g:Vp):Value:=.agg #[.int .i64 g.k,.int .i64 g.n,.string g.t,.int .i64 0,.int .i64 (g.e:Nat),.int .i64 g.c]
def I4(w:World)(p:Nat)(v0 v1 v2 v3 v4 v5:Value):Prop:=w.heap[p]? =some (.cells #[v0,v1,v2,v3,v4,v5] 119 (0,0))
def I4.all{w:World}{p:Nat}{v0 v1 v2 v3 v4 v5:Value}(h:I4 w p v0 v1 v2 v3 v4 v5):w.cell? ⟨p,0,none⟩=some v0/\w.cell? ⟨p,1,none⟩=some v1/\w.cell? ⟨p,2,none⟩=some v2/\w.cell? ⟨p,3,none⟩=some v3/\w.cell? ⟨p,4,none⟩=some v4/\w.cell? ⟨p,5,none⟩=some v5/\(∀i,w.frozen? ⟨p,i,none⟩=false):=by unfold I4 at h;refine⟨?_,?_,?_,?_,?_,?_,fun i=>BJ w p i _ _ h⟩<;>simp[World.cell?,h]
def I4.lt{w:World}{p:Nat}{v0 v1 v2 v3 v4 v5:Value}(h:I4 w p v0 v1 v2 v3 v4 v5):p<w.heap.size:=lt_of_block h
def I4.below{w w':World}{p B:Nat}{v0 v1 v2 v3 v4 v5:Value}(h:I4 w p v0 v1 v2 v3 v4 v5)(hB:w.heap.size<=B)(hb:Below B w w'):I4 w' p v0 v1 v2 v3 v4 v5:=(hb.block p (AX h.lt hB)).trans h
def I4.new(w:World)(v0 v1 v2 v3 v4 v5:Value):I4 (w.alloc (.cells #[v0,v1,v2,v3,v4,v5] 119 (0,0))) w.heap.size v0 v1 v2 v3 v4 v5:=by show(w.heap.push _)[w.heap.size]? =_;simp
def LM(w:World)(g:Vp)(e:Ending)(w':World):Prop:=e=.returned (EE g)/\Below w.heap.size w w'
def JR{p:Nat->Bool}{s:AE}:∀(k f:Nat),(∀j,j<k->f+j<s.size/\p (bt s (f+j))=true)->¬(f+k<s.size/\p (bt s (f+k))=true)->Bb p s f=f+k
 |0,f,_,h=>E8 h
 |k+1,f,hk,h=>by have h0:f<s.size/\p (bt s f)=true:=hk 0 (by omega);rw[GB h0.1 h0.2,JR k (f+1) (fun j hj=>by have:=hk (j+1) (by omega);rwa [show f+1+j=f+(j+1) by omega]) (by rwa [show f+1+k=f+(k+1) by omega])];omega
def vP(s:AE)(i b:Nat):Nat->Nat
 |0=>b
 |k+1=>vP s i b k*64+(bt s (i+(k+1))- 128)
def I6(v:Nat):Utf8.valid (v:Nat)=E0 (v:Int):=by
 unfold Utf8.valid E0;by_cases h:0<=(v:Int)/\(v:Int)<=1114111/\((v:Int)<55296\/57343<(v:Int))
 .rw[AK h];simp;omega
 .rw[AD h];simp;omega
def Nb(v:Nat):(BW (v:Int)).length=if v<128 then 1 else if v<2048 then 2 else if v<65536 then 3 else 4:=by
 unfold BW;by_cases a:v<128
 .rw[AL a,AL (by omega)];rfl
 .rw[AG a,AG (by omega)];by_cases b:v<2048
  .rw[AL b,AL (by omega)];rfl
  .rw[AG b,AG (by omega)];by_cases d:v<65536
   .rw[AL d,AL (by omega)];rfl
   .rw[AG d,AG (by omega)];rfl
def EL{s:AE}{j:Nat}(h:tl s j=true):j<s.size/\128<=bt s j/\bt s j<192:=by unfold tl at h;simpa using h
def eM{s:AE}{i:Nat}(h0:192<=bt s i)(h1:bt s i<224)(t1:tl s (i+1)=true):vP s i (bt s i- 192) 1=v2 s i:=by have:=EL t1;show(bt s i- 192)*64+(bt s (i+1)- 128)=_;unfold v2;omega
def eL{s:AE}{i:Nat}(h0:224<=bt s i)(h1:bt s i<240)(t1:tl s (i+1)=true)(t2:tl s (i+2)=true):vP s i (bt s i- 224) 2=v3 s i:=by have:=EL t1;have:=EL t2;show((bt s i- 224)*64+(bt s (i+1)- 128))*64+(bt s (i+2)- 128)=_;unfold v3;omega
def eJ{s:AE}{i:Nat}(h0:240<=bt s i)(h1:bt s i<248)(t1:tl s (i+1)=true)(t2:tl s (i+2)=true)(t3:tl s (i+3)=true):vP s i (bt s i- 240) 3=v4 s i:=by have:=EL t1;have:=EL t2;have:=EL t3;show(((bt s i- 240)*64+(bt s (i+1)- 128))*64+(bt s (i+2)- 128))*64+(bt s (i+3)- 128)=_;unfold v4;omega
def YQ(c n b:Nat):Prop:=(n=2/\192<=c/\c<224/\b=c- 192)\/(n=3/\224<=c/\c<240/\b=c- 224)\/(n=4/\240<=c/\c<248/\b=c- 240)
def Mk{s:AE}{i n b k:Nat}(h:YQ (bt s i) n b)(hk:1<=k)(hn:k<n)(ht:tl s (i+k)=false):Am s i=(0,0):=by
 rcases h with⟨rfl,h0,h1,_⟩|⟨rfl,h0,h1,_⟩|⟨rfl,h0,h1,_⟩
 .obtain rfl:k=1:=by omega
  rw[Mo h0 h1,AG (fun h=>by rw[ht]at h;cases h.1)]
 .rw[Mn h0 h1,AG];rintro⟨t1,t2,_⟩;rcases(show k=1\/k=2 by omega)with rfl|rfl
  .rw[ht]at t1;cases t1
  .rw[ht]at t2;cases t2
 .rw[Mm h0 h1,AG];rintro⟨t1,t2,t3,_⟩;rcases(show k=1\/k=2\/k=3 by omega)with rfl|rfl|rfl
  .rw[ht]at t1;cases t1
  .rw[ht]at t2;cases t2
  .rw[ht]at t3;cases t3
def Mj{s:AE}{i n b:Nat}(h:YQ (bt s i) n b)(ht:∀k,1<=k->k<n->tl s (i+k)=true):vP s i b (n- 1)<=2097151/\Am s i=if(BW (vP s i b (n- 1):Nat)).length=n/\E0 (vP s i b (n- 1):Nat)=true then(vP s i b (n- 1),n)else(0,0):=by
 obtain⟨Z,hZ⟩:∃Z,Z=2097151:=⟨_,rfl⟩
 rw[<-hZ];rcases h with⟨hn,h0,h1,hb0⟩|⟨hn,h0,h1,hb0⟩|⟨hn,h0,h1,hb0⟩<;>subst hn<;>subst hb0
 .have t1:=ht 1 (by omega) (by omega);have hv:=eM h0 h1 t1;have hb:=EL t1;have hlt:v2 s i<2048:=by unfold v2;omega
  rw[show 2- 1=1 from rfl,hv];refine⟨by omega,?_⟩;rw[Mo h0 h1,Nb];by_cases hc:128<=v2 s i
  .rw[AL ⟨t1,hc⟩,AG (show ¬ v2 s i<128 by omega),AL hlt,AL ⟨rfl,AK (by omega)⟩]
  .rw[AG (fun h=>hc h.2),AL (show v2 s i<128 by omega),AG (fun h=>by have:=h.1;omega)]
 .have t1:=ht 1 (by omega) (by omega);have t2:=ht 2 (by omega) (by omega);have hv:=eL h0 h1 t1 t2;have hlt:v3 s i<65536:=by unfold v3;omega
  rw[show 3- 1=2 from rfl,hv];refine⟨by omega,?_⟩;rw[Mn h0 h1,Nb,I6];by_cases hc:2048<=v3 s i
  .rw[AG (show ¬ v3 s i<128 by omega),AG (show ¬ v3 s i<2048 by omega),AL hlt];by_cases ho:E0 (v3 s i:Nat)=true
   .rw[AL ⟨t1,t2,hc,ho⟩,AL ⟨rfl,ho⟩]
   .rw[AG (fun h=>ho h.2.2.2),AG (fun h=>ho h.2)]
  .rw[AG (fun h=>hc h.2.2.1),AG];rintro⟨h,_⟩;split at h
   .omega
   .rw[AL (by omega)]at h;omega
 .have t1:=ht 1 (by omega) (by omega);have t2:=ht 2 (by omega) (by omega);have t3:=ht 3 (by omega) (by omega);have hv:=eJ h0 h1 t1 t2 t3;have hlt:v4 s i<2097152:=by unfold v4;omega
  rw[show 4- 1=3 from rfl,hv];refine⟨by omega,?_⟩;rw[Mm h0 h1,Nb,I6];by_cases hc:65536<=v4 s i
  .rw[AG (show ¬ v4 s i<128 by omega),AG (show ¬ v4 s i<2048 by omega),AG (show ¬ v4 s i<65536 by omega)];by_cases ho:E0 (v4 s i:Nat)=true
   .rw[AL ⟨t1,t2,t3,hc,ho⟩,AL ⟨rfl,ho⟩]
   .rw[AG (fun h=>ho h.2.2.2.2),AG (fun h=>ho h.2)]
  .rw[AG (fun h=>hc h.2.2.2.1),AG];rintro⟨h,_⟩;split at h
   .omega
   .split at h
    .omega
    .rw[AL (by omega)]at h;omega
def DR(v:Nat)(w:World):Calls prog 151 #[.int .i32 (v:Nat)] w fun e w'=>e=.returned (.bool (Es v))/\w'=w:=by
 obtain⟨r,hr⟩:∃r,Es v=r:=⟨_,rfl⟩
 rw[hr];have HR:Hid (decide (48<=v/\v<=57)=r):=hr;clear hr;by_cases h1:48<=v
 .have h1i:(48:Int)<=(v:Int):=by omega
  go_enter func151,ntmps151
  go_wp2
  go_ret;refine⟨AN ?_,rfl⟩;rw[<-AA HR];by_cases h2:v<=57
  .rw[AK (by omega),AK ⟨h1,h2⟩]
  .rw[AD (by omega),AD (by omega)]
 .have h1i:¬(48:Int)<=(v:Int):=by omega
  go_enter func151,ntmps151
  go_wp2
  go_ret;refine⟨AN ?_,rfl⟩;rw[<-AA HR,AD (by omega)]
def DA(v:Nat)(w:World):Calls prog 154 #[.int .i32 (v:Nat)] w fun e w'=>e=.returned (.bool (El v))/\w'=w:=by
 obtain⟨r,hr⟩:∃r,El v=r:=⟨_,rfl⟩
 rw[hr];have HR:Hid ((decide (97<=v/\v<=122)||decide (65<=v/\v<=90))=r):=hr;clear hr;by_cases h1:65<=v
 .have h1i:(65:Int)<=(v:Int):=by omega
  by_cases h2:v<=90
  .have h2i:(v:Int)<=90:=by omega
   go_enter func154,ntmps154
   go_wp2
   go_ret;refine⟨AN ?_,rfl⟩;rw[<-AA HR,AD (by omega),AK ⟨h1,h2⟩];rfl
  .have h2i:¬(v:Int)<=90:=by omega
   by_cases h3:97<=v
   .have h3i:(97:Int)<=(v:Int):=by omega
    go_enter func154,ntmps154
    go_wp2
    go_ret;refine⟨AN ?_,rfl⟩;rw[<-AA HR];by_cases h4:v<=122
    .rw[AK (by omega),AK ⟨h3,h4⟩];rfl
    .rw[AD (by omega),AD (by omega),AD (by omega)];rfl
   .have h3i:¬(97:Int)<=(v:Int):=by omega
    go_enter func154,ntmps154
    go_wp2
    go_ret;refine⟨AN ?_,rfl⟩;rw[<-AA HR,AD (by omega),AD (by omega)];rfl
 .have h1i:¬(65:Int)<=(v:Int):=by omega
  have h3i:¬(97:Int)<=(v:Int):=by omega
  go_enter func154,ntmps154
  go_wp2
  go_ret;refine⟨AN ?_,rfl⟩;rw[<-AA HR,AD (by omega),AD (by omega)];rfl
def Si(v:Nat)(w:World):Calls prog 189 #[.int .i32 (v:Nat)] w fun e w'=>e=.returned (.bool (Bn v))/\w'=w:=by
 have HL:=AB (DA v w);have HD:=AB (DR v w);have HE:Hid (Bn v=(El v||Es v)):=rfl;cases hl:El v with
 |true=>
  rw[hl]at HL HE;go_enter func189,ntmps189;go_wp2_with(go_at_call 154;refine(AA HL).mono ?_;rintro e w1⟨rfl,hw⟩;obtain rfl:=hw.symm);go_ret;exact⟨AN (by rw[AA HE];rfl),rfl⟩
 |false=>
  rw[hl]at HL HE;go_enter func189,ntmps189;go_wp2_with(first|(go_at_call 154;refine(AA HL).mono ?_;rintro e w1⟨rfl,hw⟩;obtain rfl:=hw.symm)|(go_at_call 151;refine(AA HD).mono ?_;rintro e w1⟨rfl,hw⟩;obtain rfl:=hw.symm));go_ret;exact⟨AN (by rw[AA HE];rfl),rfl⟩
def N9(v:Nat)(w:World):Calls prog 99 #[.int .i32 (v:Nat)] w fun e w'=>e=.returned (.bool (decide (v=32\/v=9)))/\w'=w:=by
 obtain⟨r,hr⟩:∃r,decide (v=32\/v=9)=r:=⟨_,rfl⟩
 rw[hr];have HR:=AB hr;clear hr;by_cases h1:v=32
 .subst h1;go_enter func99,ntmps99
  go_wp2
  go_ret;exact⟨AN (by rw[<-AA HR];rfl),rfl⟩
 .have h1i:¬(v:Int)=32:=by omega
  go_enter func99,ntmps99
  go_wp2
  go_ret;refine⟨AN ?_,rfl⟩;rw[<-AA HR];by_cases h2:v=9
  .subst h2;rfl
  .rw[AD (show ¬(v=32\/v=9) by omega)];simp;omega
def Ek(p:Nat->Bool)(s:AE):Nat->Nat->Nat
 |0,_=>s.size
 |f+1,i=>if i<s.size then(if p (Utf8.decode s i).1=true then Ek p s f (i+(Utf8.decode s i).2)else i)else s.size
def Bp(p:Nat->Bool)(s:AE):Nat:=Ek p s (s.size+1) 0
def CR(g:Nat)(eg:∀args w,(callFunc g args).run prog w=.ok (.enter g args) w)(p:Nat->Bool)(hp:∀v W,Calls prog g #[.int .i32 ((v:Nat):Int)] W fun e w'=>e=.returned (.bool (p v))/\w'=W)(s:AE)(w:World)(hs:s.size<=17592186044416):Calls prog 183 #[.string s,.func (.func g) #[] #[]] w fun e w'=>e=.returned (.int .i64 (Bp p s:Nat))/\Below w.heap.size w w':=by
 have HP:=AB hp;clear hp;obtain⟨tgt,HU⟩:∃t,Ek p s (s.size+1) 0=t:=⟨_,rfl⟩
 have e:Bp p s=tgt:=HU;rw[e];have HT:=AB HU;clear e HU;go_enter func183,ntmps183;go_wp2_with fail;go_loopw[5] (fun _ w'=>∃(pos F:Nat),w'=w.iter s pos/\s.size- pos<F/\Hid (Ek p s F pos=tgt)) (fun _ w'=>s.size- w'.iterPos w.heap.size);case atStart=>exact⟨0,s.size+1,rfl,by omega,HT⟩
 case round=>
  obtain⟨pos,F,rfl,hF,HK⟩:=hrel;obtain⟨F',rfl⟩:∃f,F=f+1:=⟨F- 1,by omega⟩
  by_cases hlt:pos<s.size
  .have hnx:∀ty,(Instr.next (.pointer (some ⟨w.heap.size,0,none⟩)) true ty).run prog (w.iter s pos)=_:=fun ty=>run_next_any w s pos ty hlt;have hwd:=Lib.decode_width_pos s pos hlt;have HK2:Hid ((if p (Utf8.decode s pos).1=true then Ek p s F' (pos+(Utf8.decode s pos).2)else pos)=tgt):=by have:=AA HK;rw[Ek,AL hlt]at this;exact this
   have HC:=AB (fun W=>AA HP (Utf8.decode s pos).1 W);obtain⟨v,hv⟩:∃v,(Utf8.decode s pos).1=v:=⟨_,rfl⟩
   obtain⟨wd,hw⟩:∃n,(Utf8.decode s pos).2=n:=⟨_,rfl⟩
   rw[hv,hw]at hnx HK2;rw[hv]at HC;rw[hw]at hwd;clear HK hv hw;cases hq:p v with
   |true=>
    rw[hq]at HC HK2;rw[AL rfl]at HK2;go_wp2_with(go_at_fn g;refine(AA HC _).mono ?_;rintro e w1⟨rfl,hw⟩;obtain rfl:=hw.symm);go_roundw;case rel=>exact⟨pos+wd,F',rfl,by omega,HK2⟩
    case measure=>simp;omega
   |false=>
    rw[hq]at HC HK2;rw[AG (by decide)]at HK2;go_wp2_with(go_at_fn g;refine(AA HC _).mono ?_;rintro e w1⟨rfl,hw⟩;obtain rfl:=hw.symm);go_ret;exact⟨by rw[<-AA HK2];rfl,AI.alloc AC _⟩
  .have hnx:∀ty,(Instr.next (.pointer (some ⟨w.heap.size,0,none⟩)) true ty).run prog (w.iter s pos)=_:=fun ty=>run_next_end w s pos ty hlt;have HK2:Hid (s.size=tgt):=by have:=AA HK;rw[Ek,AG hlt]at this;exact this
   clear HK;go_wp2_with fail;go_ret;exact⟨by rw[<-AA HK2];rfl,AI.alloc AC _⟩
def A4(s:AE)(i:Nat):(s.extract i s.size).size=s.size- i:=by rw[Lib.size_eq,Cq,CF,DO,<-Lib.size_eq];omega
def EH{s:AE}{i j:Nat}(h:i+j<s.size):bt (s.extract i s.size) j=bt s (i+j):=by
 have h1:j<(s.extract i s.size).size:=by rw[A4];omega
 rw[Cl h1,Cl h,Cq];simp only[AP,BN,Dw];rw[AL (by omega)]
def O5(s:AE)(i j:Nat):tl (s.extract i s.size) j=tl s (i+j):=by
 unfold tl;by_cases h:i+j<s.size
 .rw[EH h,A4];congr 1;exact propext ⟨fun⟨a,b⟩=>⟨by omega,b⟩,fun⟨a,b⟩=>⟨by omega,b⟩⟩
 .rw[AD (by rw[A4];omega),AD (by omega)]
def Hy{s:AE}{i j:Nat}(h:i+j<s.size):Utf8.decode (s.extract i s.size) j=Utf8.decode s (i+j):=by
 rw[BX,BX];have t1:tl (s.extract i s.size) (j+1)=tl s (i+j+1):=by rw[O5];rfl
 have t2:tl (s.extract i s.size) (j+2)=tl s (i+j+2):=by rw[O5];rfl
 have t3:tl (s.extract i s.size) (j+3)=tl s (i+j+3):=by rw[O5];rfl
 have b:∀ {k},tl s (i+j+k)=true->bt (s.extract i s.size) (j+k)=bt s (i+j+k):=fun {k}hk=>by have:=(EL hk).1;rw[EH (by omega),<-Ci]
 rw[EH h,t1,t2,t3];by_cases c0:bt s (i+j)<128
 .rw[AL c0,AL c0]
 .rw[AG c0,AG c0];by_cases c1:bt s (i+j) / 32=6/\tl s (i+j+1)=true
  .rw[AL c1,AL c1];have:v2 (s.extract i s.size) j=v2 s (i+j):=by unfold v2;rw[EH h,b c1.2]
   rw[this]
  .rw[AG c1,AG c1];by_cases c2:bt s (i+j) / 16=14/\tl s (i+j+1)=true/\tl s (i+j+2)=true
   .rw[AL c2,AL c2];have:v3 (s.extract i s.size) j=v3 s (i+j):=by unfold v3;rw[EH h,b c2.2.1,b c2.2.2]
    rw[this]
   .rw[AG c2,AG c2];by_cases c3:bt s (i+j) / 8=30/\tl s (i+j+1)=true/\tl s (i+j+2)=true/\tl s (i+j+3)=true
    .rw[AL c3,AL c3];have:v4 (s.extract i s.size) j=v4 s (i+j):=by unfold v4;rw[EH h,b c3.2.1,b c3.2.2.1,b c3.2.2.2]
     rw[this]
    .rw[AG c3,AG c3]
def Jm{s:AE}{i:Nat}(h:¬ bt s i<128):128<=(Utf8.decode s i).1:=by
 rw[BX,AG h];split
 .split
  .assumption
  .decide
 .split
  .split
   .rename_i h';show 128<=v3 s i;have:=h'.1;omega
   .decide
  .split
   .split
    .rename_i h';show 128<=v4 s i;have:=h'.1;omega
    .decide
   .decide
def OO{p:Nat->Bool}(hp:∀v,p v=true->v<128){s:AE}:∀(F i:Nat),s.size- i<F->i<=s.size->Ek p s F i=Bb p s i
 |0,i,h,_=>by omega
 |F+1,i,h,hi=>by
  rw[Ek];by_cases h1:i<s.size
  .rw[AL h1];by_cases h2:bt s i<128
   .have hd:Utf8.decode s i=(bt s i,1):=by rw[BX,AL h2]
    rw[hd];by_cases h3:p (bt s i)=true
    .rw[AL h3,GB h1 h3];exact OO hp F (i+1) (by omega) (by omega)
    .rw[AG h3,E8 (fun h=>h3 h.2)]
   .have hge:=Jm (s:=s) (i:=i) h2;have h3:¬ p (Utf8.decode s i).1=true:=fun e=>by have:=hp _ e;omega
    have h4:¬ p (bt s i)=true:=fun e=>h2 (hp _ e);rw[AG h3,E8 (fun h=>h4 h.2)]
  .rw[AG h1,E8 (fun h=>h1 h.1)];omega
def Jk(v:Nat)(h:Es v=true):v<128:=by unfold Es at h;have:=AT h;omega
def Lh(v:Nat)(h:El v=true):v<128:=by unfold El at h;rcases DG _ _▸h with h|h<;>have:=AT h<;>omega
def NK(v:Nat)(h:Bn v=true):v<128:=by
 unfold Bn at h;rcases DG _ _▸h with h|h
 .exact Lh v h
 .exact Jk v h
def Na{p:Nat->Bool}{s:AE}{i:Nat}(hi:i<=s.size):∀(d j:Nat),s.size- (i+j)=d->i+j<=s.size->Bb p (s.extract i s.size) j+i=Bb p s (i+j)
 |d,j,hd,hj=>by
  by_cases h:i+j<s.size/\p (bt s (i+j))=true
  .rw[GB h.1 h.2,GB (s:=s.extract i s.size) (i:=j) (by rw[A4];omega) (by rw[EH h.1];exact h.2)]
   match d,hd with
   |0,hd=>omega
   |d+1,hd=>exact Na hi d (j+1) (by omega) (by omega)
  .rw[E8 h,E8 (s:=s.extract i s.size) (i:=j) (fun h'=>h (by
    have h1:i+j<s.size:=by have:=h'.1;rw[A4]at this;omega
    exact⟨h1,by rw[<-EH h1];exact h'.2⟩))]
   omega
def Id{p:Nat->Bool}(hp:∀v,p v=true->v<128){s:AE}{i:Nat}(hi:i<=s.size):Bp p (s.extract i s.size)+i=Bb p s i:=by unfold Bp;rw[OO hp _ 0 (by omega) (by omega)];exact Na hi _ 0 rfl hi
def Z5(v c:Nat)(hc:c<128):Utf8.encode (v:Int)=⟨#[UInt8.ofNat c]⟩↔v=c:=by
 constructor
 .intro h;have hsz:=AV (fun b:AE=>b.data.toList) h;by_cases hv:Utf8.valid (v:Int)=true
  .by_cases h1:v<128
   .unfold Utf8.encode at hsz;simp only[hv,FK,CZ,AL h1]at hsz;have e:=AV (fun l:List UInt8=>(l.headD 0).toNat) hsz;change (UInt8.ofNat v).toNat=(UInt8.ofNat c).toNat at e;rw[Cv,Cv]at e;omega
   .have:=(encode_facts v hv (by omega)).1;rw[h]at this;exact absurd this (by show ¬ 2<=1;omega)
  .unfold Utf8.encode at hsz;simp[hv,Utf8.runeError]at hsz
 .rintro rfl;have hv:Utf8.valid (v:Int)=true:=by unfold Utf8.valid;simp;omega
  unfold Utf8.encode;simp only[hv,FK,CZ,AL hc]
def YI(v:Nat):Utf8.encode (v:Int)=⟨#[194,175]⟩↔v=175:=by
 constructor
 .intro h;have hsz:=AV (fun b:AE=>b.data.toList) h;by_cases hv:Utf8.valid (v:Int)=true
  .unfold Utf8.encode at hsz;simp only[hv,FK,CZ]at hsz;by_cases h1:v<128
   .rw[AL h1]at hsz;simp at hsz
   .rw[AG h1]at hsz;by_cases h2:v<2048
    .rw[AL h2]at hsz;have a:=AV (fun l:List UInt8=>(l.headD 0).toNat) hsz;have b:=AV (fun l:List UInt8=>(l.tail.headD 0).toNat) hsz;change (UInt8.ofNat (192+v / 64)).toNat=194 at a;change (UInt8.ofNat (128+v % 64)).toNat=175 at b;rw[Cv]at a b;omega
    .rw[AG h2]at hsz;split at hsz<;>simp at hsz
  .unfold Utf8.encode at hsz;simp[hv,Utf8.runeError]at hsz
 .rintro rfl;decide
def zb(l:List Int):List UInt8:=l.map fun x=>x.toNat.toUInt8
def Vs(l m:List Int):zb (l++m)=zb l++zb m:=by simp[zb]
def Hf(u:Nat):Lib.decDigits u=zb (Gi u):=by
 induction u using Nat.strongRecOn with
 |_ u ih=>
  by_cases h:u<10
  .rw[Lib.decDigits,dif_pos h,E9 h];simp only[zb,En,FO];rw[show(48+(u:Int)).toNat=48+u by omega]
  .rw[Lib.decDigits,dif_neg h,IW h,Vs,ih (u / 10) (by omega)];simp only[zb,En,FO];rw[show(48+((u % 10:Nat):Int)).toNat=48+u % 10 by omega]
def Vr{l:List Int}(h:∀x∈l,48<=x/\x<=57):∀b∈zb l,48<=b.toNat/\b.toNat<=57:=by intro b hb;obtain⟨x,hx,rfl⟩:=DT.1 hb;have:=h x hx;show 48<=(UInt8.ofNat x.toNat).toNat/\_;rw[Fk (by simp[UInt8.size];omega)];omega
def Sh{l:List UInt8}(h:∀b∈l,48<=b.toNat/\b.toNat<=57):Lib.index l [45]= -1:=by
 induction l with
 |nil=>rfl
 |cons b l ih=>
  have hb:=h b (by simp);have hne:¬(45:UInt8)=b:=fun e=>by rw[<-e]at hb;exact absurd hb (by decide)
  rw[Lib.index,ih (fun x hx=>h x (by simp[hx]))];simp[List.isPrefixOf,hne]
def NM(l:List UInt8):Lib.index (45::l) [45]=((0:Nat):Int):=by rw[Lib.index];simp[List.isPrefixOf]
def Sz(l:List UInt8):1<=Lib.count (45::l) [45]:=by rw[Lib.count_hit (by simp) (NM l)];omega
def VD(n:Int):Lib.replace (Lib.itoa n) [45] [194,175] 1=zb (Fg n):=by
 unfold Lib.replace;rw[AG (by decide)];by_cases h:n<0
 .have hc:=Sz (Lib.decDigits n.natAbs);have e:Lib.itoa n=45::Lib.decDigits n.natAbs:=by rw[Lib.itoa,AL h]
  have Bz:Lib.replaceNum (45::Lib.decDigits n.natAbs) [45] 1=0+1:=by unfold Lib.replaceNum;rw[AG (by omega)];rfl
  rw[e,Bz,Lib.replaceK_hit _ _ _ _ _ (NM _)];unfold Fg;rw[AL h,Vs,<-Hf];simp[Lib.replaceK,zb]
 .have e:Lib.itoa n=Lib.decDigits n.natAbs:=by rw[Lib.itoa,AG h];congr 1;omega
  have hi:Lib.index (Lib.decDigits n.natAbs) [45]= -1:=by rw[Hf];exact Sh (Vr (VX _))
  have Bz:Lib.replaceNum (Lib.decDigits n.natAbs) [45] 1=0:=by unfold Lib.replaceNum;rw[Lib.count_miss hi,AL (by omega)]
  rw[e,Bz];unfold Fg;rw[AG h];simp[Lib.replaceK,Hf]
end Go.Proofs.YtinndpnilmmmjaaGreatDoor
namespace Go.Proofs
open Go.Shelf Tryz
def Tryz.itoaS_ren:Go.Shelf.Ren:=⟨fun|171=>125|243=>176|246=>207|283=>229|284=>230|285=>231|286=>232|129=>246|317=>245|318=>247|319=>248|320=>249|337=>253|338=>254|n=>n,fun|3=>3|9=>9|2=>2|4=>4|171=>211|0=>0|53=>212|37=>33|5=>5|173=>215|212=>227|51=>223|20=>20|213=>228|46=>207|232=>239|233=>240|n=>n,fun|17=>5|18=>8|19=>9|n=>n⟩
def Tryz.itoaS:Go.Proofs.LaysM.n171 prog Tryz.itoaS_ren:= {
 mixed:=by kernel_rfl
 f129:=func246.trans (congrArg some (by kernel_rfl))
 f171:=func125.trans (congrArg some (by kernel_rfl))
 f243:=func176.trans (congrArg some (by kernel_rfl))
 f246:=func207.trans (congrArg some (by kernel_rfl))
 f283:=func229.trans (congrArg some (by kernel_rfl))
 f284:=func230.trans (congrArg some (by kernel_rfl))
 f285:=func231.trans (congrArg some (by kernel_rfl))
 f286:=func232.trans (congrArg some (by kernel_rfl))
 f317:=func245.trans (congrArg some (by kernel_rfl))
 f318:=func247.trans (congrArg some (by kernel_rfl))
 f319:=func248.trans (congrArg some (by kernel_rfl))
 f320:=func249.trans (congrArg some (by kernel_rfl))
 f337:=func253.trans (congrArg some (by kernel_rfl))
 f338:=func254.trans (congrArg some (by kernel_rfl))
 t0:=underlying0
 a0:=isAgg0
 z0:=sizeOf0
 v0:=zeroValue0
 t2:=underlying2
 a2:=isAgg2
 z2:=sizeOf2
 v2:=zeroValue2
 t3:=underlying3
 a3:=isAgg3
 z3:=sizeOf3
 v3:=zeroValue3
 t4:=underlying4
 a4:=isAgg4
 z4:=sizeOf4
 v4:=zeroValue4
 t5:=underlying5
 a5:=isAgg5
 z5:=sizeOf5
 v5:=zeroValue5
 t9:=underlying9
 a9:=isAgg9
 z9:=sizeOf9
 v9:=zeroValue9
 t20:=underlying20
 a20:=isAgg20
 z20:=sizeOf20
 v20:=zeroValue20
 t37:=underlying33
 a37:=isAgg33
 z37:=sizeOf33
 v37:=zeroValue33
 t46:=underlying207
 a46:=isAgg207
 z46:=sizeOf207
 v46:=zeroValue207
 t51:=underlying223
 a51:=isAgg223
 z51:=sizeOf223
 v51:=zeroValue223
 t53:=underlying212
 a53:=isAgg212
 z53:=sizeOf212
 v53:=zeroValue212
 t171:=underlying211
 a171:=isAgg211
 z171:=sizeOf211
 v171:=zeroValue211
 t173:=underlying215
 a173:=isAgg215
 z173:=sizeOf215
 v173:=zeroValue215
 t212:=underlying227
 a212:=isAgg227
 z212:=sizeOf227
 v212:=zeroValue227
 t213:=underlying228
 a213:=isAgg228
 z213:=sizeOf228
 t232:=underlying239
 a232:=isAgg239
 z232:=sizeOf239
 v232:=zeroValue239
 t233:=underlying240
 a233:=isAgg240
 z233:=sizeOf240
 v233:=zeroValue240
 g17:=by kernel_rfl
 g18:=by kernel_rfl
 g19:=by kernel_rfl
 i0:=by kernel_rfl
 i2:=by kernel_rfl
 i3:=by kernel_rfl
 i4:=by kernel_rfl
 i5:=by kernel_rfl
 i9:=by kernel_rfl
 i20:=by kernel_rfl
 i37:=by kernel_rfl
 i46:=by kernel_rfl
 i51:=by kernel_rfl
 i53:=by kernel_rfl
 i171:=by kernel_rfl
 i173:=by kernel_rfl
 i212:=by kernel_rfl
 i232:=by kernel_rfl
 i233:=by kernel_rfl
 m17:=by kernel_rfl
 m18:=by kernel_rfl
 m19:=by kernel_rfl}
end Go.Proofs
namespace Go.Proofs.YtinndpnilmmmjaaGreatDoor
open Go.RowKit Tryz
def Kv(a:Option Addr)(n cap B:Nat)(zs:List Int)(k:Int)(w:World)(h:TE w B a n zs)(hk0:0<=k)(hk:k<=4611686018427387904):Calls prog 87 #[.slice a n cap,.int .i64 k] w fun e w'=>e=.returned (.int .i64 (k+n))/\TE w' B a n (GN k n)/\EF (At a n) w w':=by
 obtain⟨Ae,hsm,hat⟩:=h;go_enter func87,ntmps87
 go_wp2
 go_loopw[1,5] (fun c i wr=>∃j:Nat,j<=n/\i=.int .i64 j/\c=.int .i64 (k+j)/\EF (At a n) w wr/\(n=0\/∃g off,a=some ⟨g,off,none⟩/\B<=g/\g<wr.heap.size/\(∀i,i<j->wr.cell? ⟨g,off+i,none⟩=some (.int .i64 (k+i)))/\(∀i,i<n->(wr.cell? ⟨g,off+i,none⟩).isSome=true)/\(∀i,i<n->wr.frozen? ⟨g,off+i,none⟩=false))) (fun _ i _=>n- (intOf i).toNat);case atStart=>
  refine⟨0,AZ _,rfl,by simp,EF.refl _ _,?_⟩;rcases hat with h0|⟨g,off,rfl,hg,hlt,hc,hf⟩
  .exact .inl h0
  .exact .inr ⟨g,off,rfl,hg,hlt,fun i hi=>absurd hi (Bc _),fun i hi=>by rw[hc i hi];rfl,hf⟩
 case round=>
  obtain⟨j,hj,rfl,rfl,hbut,hst⟩:=hrel;by_cases hlt:j<n
  .rcases hst with h0|⟨g,off,rfl,hg,hgl,hc,hs,hf⟩
   .omega
   .clear hat;have hs1:=hs j hlt;have hf1:=hf j hlt;obtain⟨u,hu⟩:=Fl.mp hs1;have HB:=AB hbut;have HS:=AB hs;have HF:=AB hf;have HC:=AB hc;clear hbut hs hf hc
    go_wp2
    go_roundw;case rel=>
     refine⟨j+1,by omega,by go_num,by go_num,(AA HB).setCell (T3 (by omega)) _,.inr ⟨g,off,rfl,hg,by simpa using hgl,fun i hi=> ?_,fun i hi=> ?_,fun i hi=> ?_⟩⟩
     .by_cases hij:i=j
      .subst hij;exact CQ _ _ _ hu
      .rw[Co _ _ _ _ (by simp<;>omega)];exact AA HC i (by omega)
     .by_cases hij:i=j
      .subst hij;rw[CQ _ _ _ hu];rfl
      .rw[Co _ _ _ _ (by simp<;>omega)];exact AA HS i hi
     .simpa using AA HF i hi
    case measure=>simp[intOf];omega
  .have hjn:j=n:=by omega
   subst hjn;have HB:=AB hbut;have HT:=AB hst;clear hbut hst hat
   go_wp2
   go_ret;refine⟨rfl,⟨GW _ _,hsm,?_⟩,AA HB⟩;rcases AA HT with h0|⟨g,off,rfl,hg,hgl,hc,hs,hf⟩
   .exact .inl h0
   .exact .inr ⟨g,off,rfl,hg,hgl,fun i hi=>by rw[Oa _ _ _ hi];exact hc i hi,hf⟩
def JP(a:Option Addr)(n cap:Nat)(k:Int)(w:World)(h:Df w a n (GN k n))(hk0:0<=k)(hk:k<=4611686018427387904):Calls prog 109 #[.slice a n cap,.int .i64 k] w fun e w'=>e=.returned (.int .i64 (k+n))/\w'=w:=by
 obtain⟨Ae,hsm,hat⟩:=h;clear Ae;go_enter func109,ntmps109
 go_wp2
 go_loop [1,5] (fun c i=>∃j:Nat,j<=n/\i=.int .i64 j/\c=.int .i64 (k+j)) (fun _ i=>n- (intOf i).toNat)
 case atStart=>exact⟨0,AZ _,rfl,by simp⟩
 case round=>
  obtain⟨j,hj,rfl,rfl⟩:=hrel;by_cases hlt:j<n
  .have ha:∃b off,a=some ⟨b,off,none⟩/\w.cell? ⟨b,off+j,none⟩=some (.int .i64 (k+j)):=by
    rcases hat with h0|⟨b,off,rfl,hlt',hc⟩
    .omega
    .exact⟨b,off,rfl,by rw[<-Oa k n j hlt];exact hc j hlt⟩
   obtain⟨b,off,rfl,hc⟩:=ha;clear hat
   go_wp2
   go_round
   case rel=>exact⟨j+1,by omega,by go_num,by go_num⟩
   case measure=>simp[intOf];omega
  .have hjn:j=n:=by omega
   subst hjn;clear hat
   go_wp2
   go_ret;exact⟨rfl,rfl⟩
