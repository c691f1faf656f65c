import Derived.Test.YtinndpnilmmmjaaGreatDoorZ06
import Derived.Test.YtinndpnilmmmjaaGreatDoorZ09
import Derived.Test.YtinndpnilmmmjaaGreatDoorZ08
import Derived.Shelf.Strings.BuilderF
set_option maxRecDepth 100000
set_option maxHeartbeats 4000000
set_option linter.defProp false
namespace Go.Proofs.YtinndpnilmmmjaaGreatDoor
open Go.RowKit Tryz
def Lx(g:Vp)(i:Nat):Value:=Bx g.k g.n g.t (g.e- i) g.c
def Ms(s:AE)(i:Nat)(w:World)(hi:i<s.size)(hs:s.size<=17592186044416)(hR:Fo w):Calls prog 152 #[.string (s.extract i s.size)] w fun e w'=>e=.returned (Lx (ED s i) i)/\Below w.heap.size w w':=by
 have hts:(s.extract i s.size).size=s.size- i:=A4 s i;obtain⟨H,hH⟩:∃H,CM s i=H:=⟨_,rfl⟩
 have hHt:CM (s.extract i s.size) 0=H:=by rw[OM (by omega)];exact hH
 obtain⟨f,hf⟩:∃f,(if CM s i=true then i+2 else i)=f:=⟨_,rfl⟩
 have hfi:i<=f:=by rw[<-hf];split<;>omega
 have hfs:f<=s.size:=by
  rw[<-hf];split
  .rename_i h
   have:=AT h;omega
  .omega
 have hd:(if H=true then(s.extract i s.size).extract 2 (s.extract i s.size).size else s.extract i s.size)=s.extract f s.size:=by
  rw[<-hf,hH];by_cases h:H=true
  .rw[AL h,AL h,JZ]
  .rw[AG h,AG h]
 obtain⟨e,he⟩:∃e,Bb Es s f=e:=⟨_,rfl⟩
 have hfe:f<=e:=by rw[<-he];exact IV _ _ _
 have hes:e<=s.size:=by rw[<-he];exact He _ _ _ hfs
 have hc:Bp Es (s.extract f s.size)=e- f:=by have:=Id (p:=Es) Jk (s:=s) (i:=f) hfs;omega
 have hr:(s.extract f s.size).extract (e- f) (s.extract f s.size).size=s.extract e s.size:=by rw[JZ,show f+(e- f)=e by omega]
 obtain⟨l,hl⟩:∃l,Bp El (s.extract e s.size)=l:=⟨_,rfl⟩
 have hl2:l+e=Bb El s e:=by rw[<-hl];exact Id Lh hes
 have hlp:0<l↔e<s.size/\El (bt s e)=true:=by
  by_cases h:e<s.size/\El (bt s e)=true
  .rw[GB h.1 h.2]at hl2;have:=IV El s (e+1);exact⟨fun _=>h,fun _=>by omega⟩
  .rw[E8 h]at hl2;exact⟨fun h1=>by omega,fun h1=>absurd h1 h⟩
 have hhr:CM (s.extract e s.size) 0=CM s e:=OM hes;have hrs:(s.extract e s.size).size=s.size- e:=A4 s e;have hsz:(s.extract i s.size).size<=17592186044416:=by omega
 by_cases hb:e=f\/(e<s.size/\El (bt s e)=true)\/CM s e=true
 .rw[Ee hf he hb];show Calls _ _ _ _ fun e w'=>e=.returned (Bx 0 0 ⟨#[]⟩ (0- i) 1)/\_;rw[FL];by_cases h0:e=f
  .exact MC _ _ _ _ H _ l w hHt hd hc hr rfl hl hsz (by omega)
  .by_cases h1:0<l
   .exact Kl _ _ _ _ H _ l w hHt hd hc hr rfl hl hsz (by omega) h1
   .refine MD _ _ _ _ H _ l w hHt hd hc hr rfl hl hsz (by omega) (by omega) ?_;rw[hhr];rcases hb with hb|hb|hb
    .exact absurd hb h0
    .exact absurd (hlp.2 hb) h1
    .exact hb
 .have h0:e≠f:=fun h=>hb (Or.inl h);have h1:l=0:=by
   by_cases h:0<l
   .exact absurd (Or.inr (Or.inl (hlp.1 h))) hb
   .omega
  have h2:CM (s.extract e s.size) 0=false:=by
   rw[hhr];cases h:CM s e with
   |true=>exact absurd (Or.inr (Or.inr h)) hb
   |false=>rfl
  have hcd:e- f<=(s.extract f s.size).size:=by rw[A4];omega
  have hxl:((s.extract f s.size).extract 0 (e- f)).data.toList=(s.extract f s.size).data.toList.take (e- f):=LP _ _;have hdv:dv 0 ((s.extract f s.size).extract 0 (e- f)).data.toList=GE s f (e- f):=by rw[hxl,Ts _ _ hcd,ON _ (by omega),Ad]
  have hne:((s.extract f s.size).extract 0 (e- f)).data.toList≠ []:=by intro h;have h3:=AV List.length h;rw[hxl,CF,<-Lib.size_eq,A4]at h3;simp only[Fp]at h3;omega
  have hdg:∀c∈((s.extract f s.size).extract 0 (e- f)).data.toList,Es c.toNat=true:=by
   intro c hcm;rw[hxl]at hcm;obtain⟨j,hj,rfl⟩:=Gm.1 hcm;rw[CF,<-Lib.size_eq,A4]at hj;have hj2:j<(s.extract f s.size).size:=by rw[A4];omega
   have hb2:bt (s.extract f s.size) j=((s.extract f s.size).data.toList[j]'(by rw[<-Lib.size_eq];exact hj2)).toNat:=by rw[Cl hj2,AP,AR (by rw[<-Lib.size_eq];exact hj2)];rfl
   rw[List.getElem_take,<-hb2,EH (by omega)];exact(LE (p:=Es) (s:=s) (i:=f) (by omega) (by rw[he];omega)).2
  have hA:=RT _ hne hdg;rw[hdv]at hA;by_cases hv:1000000000000000<GE s f (e- f)
  .rw[Fq hf he hb hv];show Calls _ _ _ _ fun e w'=>e=.returned (Bx 0 0 ⟨#[]⟩ (0- i) 7)/\_;rw[FL];rcases hA with hA|⟨hA,-⟩
   .exact Mr _ _ _ _ H _ l _ w hHt hd hc hr rfl hl hsz (by omega) h1 h2 hA hv
   .exact LX _ _ _ _ H _ l w hHt hd hc hr rfl hl hsz (by omega) h1 h2 hA hR
  .rw[GV hf he hb hv];have hA':Lib.atoiAll ((s.extract f s.size).extract 0 (e- f)).data.toList=.ok ((GE s f (e- f):Nat):Int):=by
    rcases hA with hA|⟨-,hA⟩
    .exact hA
    .omega
   have hwd:e- i=(s.extract i s.size).size- (s.extract e s.size).size:=by rw[hts,hrs];omega
   cases hh:H with
   |true=>
    rw[hH,hh,AL rfl];show Calls _ _ _ _ fun q w'=>q=.returned (Bx 1 (-(GE s f (e- f):Int)) ⟨#[]⟩ (e- i) 0)/\_;rw[hwd];exact Mq _ _ _ _ H _ l _ w hHt hd hc hr rfl hl hsz (by omega) h1 h2 hA' (by omega) hh
   |false=>
    rw[hH,hh,AG (by decide)];show Calls _ _ _ _ fun q w'=>q=.returned (Bx 1 (GE s f (e- f):Int) ⟨#[]⟩ (e- i) 0)/\_;rw[hwd];exact N0 _ _ _ _ H _ l _ w hHt hd hc hr rfl hl hsz (by omega) h1 h2 hA' (by omega) hh
def QU(s:AE)(i:Nat)(w:World)(hi:i<s.size)(hs:s.size<=17592186044416):Calls prog 155 #[.string (s.extract i s.size)] w fun e w'=>e=.returned (Lx (if 20<Bb Bn s i- i then Di 1 else⟨3,0,s.extract i (Bb Bn s i),Bb Bn s i,0⟩) i)/\Below w.heap.size w w':=by
 have h:=PL (s.extract i s.size) w (by rw[A4];omega);have hst:=Id (p:=Bn) NK (s:=s) (i:=i) (by omega);have hc:Bp Bn (s.extract i s.size)=Bb Bn s i- i:=by omega
 have hle:=He Bn s i (by omega);rw[hc]at h;have hx:(s.extract i s.size).extract 0 (Bb Bn s i- i)=s.extract i (Bb Bn s i):=by refine CJ (CI.1 ?_);rw[LP,Fv,Cq]
 rw[hx]at h;by_cases h20:20<Bb Bn s i- i
 .rw[AL h20]at h ⊢;show Calls _ _ _ _ fun e w'=>e=.returned (Bx 0 0 ⟨#[]⟩ (0- i) 1)/\_;rw[FL];exact h
 .rw[AG h20]at h ⊢;exact h
def Nt(s:AE)(i:Nat):D6 s i ⟨#[39]⟩=Cd s i:=by
 unfold D6 Cd;rw[show(ByteArray.mk #[39]).size=1 from rfl,Lib.extract_toList,show(ByteArray.mk #[39]).toList= [UInt8.ofNat 39] by rw[Lib.toList_data];rfl,show i+1- i=0+1 by omega];by_cases h:i+1<=s.size
 .rw[Ey (by omega) (by omega)];simp[h]
 .rw[AD h,AD (fun hh=>h hh.1)];rfl
def QE{s:AE}{i:Nat}(h:i<=s.size):Cd (s.extract i s.size) 0=Cd s i:=by
 unfold Cd;rw[A4];by_cases h2:i+1<=s.size
 .rw[EH (by omega),Ad];exact BQ.2 ⟨fun⟨_,b⟩=>⟨h2,b⟩,fun⟨_,b⟩=>⟨by omega,b⟩⟩
 .rw[AD (fun hh=>h2 (by omega)),AD (fun hh=>h2 hh.1)]
def Sy(t:AE)(w:World):Calls prog 187 #[.string t,.string ⟨#[39]⟩] w fun e w'=>e=.returned (.tuple #[.string (if Cd t 0=true then t.extract 1 t.size else t),.bool (Cd t 0)])/\w'=w:=by have h:=Any.strings_CutPrefix Tryz.cutPreS t ⟨#[39]⟩ w;rw[Lr,Mx,Nt]at h;exact h
def Ot(s:AE)(i:Nat)(hi:i<=s.size)(w:World):Calls prog 187 #[.string (s.extract i s.size),.string ⟨#[39]⟩] w fun e w'=>e=.returned (.tuple #[.string (s.extract (if Cd s i=true then i+1 else i) s.size),.bool (Cd s i)])/\w'=w:=by
 have h:=Sy (s.extract i s.size) w;rw[QE hi]at h;have e:(if Cd s i=true then(s.extract i s.size).extract 1 (s.extract i s.size).size else s.extract i s.size)=s.extract (if Cd s i=true then i+1 else i) s.size:=by
  by_cases hq:Cd s i=true
  .rw[AL hq,AL hq,JZ]
  .rw[AG hq,AG hq]
 rw[e]at h;exact h
def Fu(w:World):Prop:=Lib.Utf8Tabs (Tryz.decodeS_ren.g 3) (Tryz.decodeS_ren.g 4) w
def Fu.below{w w':World}(h:Fu w)(hb:Below w.heap.size w w'):Fu w':=Utf8Tabs_below h hb
def Sw(t:AE)(h0:0<t.size)(w:World)(hT:Fu w):Calls prog 175 #[.string t] w fun e w'=>e=.returned (.tuple #[.int .i32 ((Utf8.decode t 0).1:Nat),.int .i64 ((Utf8.decode t 0).2:Nat)])/\Below w.heap.size w w':=by
 have h:=Any.utf8_DecodeRuneInString Tryz.decodeS t w hT;have e:Lib.decodeGo t=Utf8.decode t 0:=by unfold Lib.decodeGo;rw[AG (by omega)]
 rw[e]at h;exact h
def T9(t:AE)(hs:t.size<=17592186044416)(w:World)(hT:Fu w):Calls prog 188 #[.string t] w fun e w'=>e=.returned (.bool (Lib.validD t.data.toList))/\Below w.heap.size w w':=Any.utf8_ValidString Tryz.validS t w (by omega) hT
def Mt(s rs:AE)(L k:Nat):Prop:=L<=k/\k<s.size/\∀j,j<=L->bt s (k- j)=bt rs (L- j)
def RJ(s:AE)(c:Nat):Nat->Nat
 |0=>0
 |k+1=>RJ s c k+(if bt s k=c then 1 else 0)
def Nf(s:AE)(c k:Nat):∀d,RJ s c k<=RJ s c (k+d)
 |0=>AC
 |d+1=>by have:=Nf s c k d;rw[<-Ci,RJ];omega
def Tv{s:AE}{c k m:Nat}(h:k<=m)(hm:bt s m=c){f:Nat}(hf:f<=RJ s c k):f+1<=RJ s c (m+1):=by have:=Nf s c k (m- k);rw[show k+(m- k)=m by omega]at this;rw[RJ,AL hm];omega
def O6{s:AE}{k j:Nat}(h:k+j<s.size):(s.extract k s.size).data.toList[j]? =some (UInt8.ofNat (bt s (k+j))):=by
 rw[Fv,Dw];have hl:k+j<s.data.toList.length:=by rw[<-Lib.size_eq];exact h
 rw[AR hl,Cl h,AP,AR hl,Cz];simp
def Xy{s:AE}{k c:Nat}(h:Lib.indexByte (s.extract (k+1) s.size).data.toList (((c:Nat):Int).toNat.toUInt8)= -1)(m:Nat)(h1:k<m)(h2:m<s.size):bt s m≠c:=by intro e;have:=Lib.indexByte_none h (m- (k+1));rw[O6 (by omega),show k+1+(m- (k+1))=m by omega,e]at this;exact this (by simp)
def Xx{s:AE}{k c o:Nat}(hc:c<256)(ho:k+1+o<s.size)(h:Lib.indexByte (s.extract (k+1) s.size).data.toList (((c:Nat):Int).toNat.toUInt8)=o):bt s (k+1+o)=c/\∀m,k<m->m<k+1+o->bt s m≠c:=by
 obtain⟨h1,h2⟩:=Lib.indexByte_some h;constructor
 .rw[O6 ho]at h1;have h3:=AV UInt8.toNat (Ac h1);have:=GR s (k+1+o);rw[Cv,CZ]at h3;simp at h3;omega
 .intro m m1 m2 e;have:=h2 (m- (k+1)) (by omega);rw[O6 (by omega),show k+1+(m- (k+1))=m by omega,e]at this;exact this (by simp)
structure d6(v L:Nat):Prop where
 size:(Utf8.encode (v:Int)).size=L+1
 lo:1<=L
 hi:L<=3
 last:128<=bt (Utf8.encode (v:Int)) L/\bt (Utf8.encode (v:Int)) L<192
 reads:∀s i,i+L<s.size->(∀t,t<=L->bt s (i+t)=bt (Utf8.encode (v:Int)) t)->Utf8.decode s i=(v,L+1)
 len:(BW (v:Int)).length=L+1
 same:∀t,t<=L->bt (Utf8.encode (v:Int)) t=((BW (v:Int)).getD t 0).toNat
def Yl{x:Nat}(h:x<256):(UInt8.ofNat x).toNat=x:=by rw[Cv];omega
def Yr{v:Nat}(hv:Utf8.valid (v:Int)=true)(h:128<=v):∃L,d6 v L:=by
 have hlt:v<2097152:=by have:=I6 v;rw[hv]at this;unfold E0 at this;have:=AT this.symm;omega
 have n0:¬ v<128:=by omega
 have z0:¬(v:Int)<128:=by omega
 by_cases h2:v<2048
 .have e:Utf8.encode (v:Int)=⟨#[UInt8.ofNat (192+v / 64),UInt8.ofNat (128+v % 64)]⟩:=by unfold Utf8.encode;simp only[hv,FK,CZ,AG n0,AL h2]
  have b0:bt (Utf8.encode (v:Int)) 0=192+v / 64:=by rw[e];exact Yl (by omega)
  have b1:bt (Utf8.encode (v:Int)) 1=128+v % 64:=by rw[e];exact Yl (by omega)
  have ez:BW (v:Int)= [192+(v:Int) / 64,128+(v:Int) % 64]:=by unfold BW;rw[AG z0,AL (by omega)]
  refine⟨1,by rw[e];rfl,by omega,by omega,by rw[b1];omega,fun s i hi hb=> ?_,by rw[ez];rfl,fun t ht=> ?_⟩
  .have c0:=hb 0 (by omega);have c1:=hb 1 (by omega);rw[b0,Ad]at c0;rw[b1]at c1;have t1:tl s (i+1)=true:=by unfold tl;exact AK ⟨hi,by omega,by omega⟩
   have w:v2 s i=v:=by unfold v2;rw[c0,c1];omega
   rw[BX,AG (by omega),AL ⟨by omega,t1⟩,AL (by omega),w]
  .rw[ez];rcases(by omega:t=0\/t=1)with rfl|rfl
   .rw[b0];show _=(192+(v:Int) / 64).toNat;omega
   .rw[b1];show _=(128+(v:Int) % 64).toNat;omega
 by_cases h3:v<65536
 .have e:Utf8.encode (v:Int)=⟨#[UInt8.ofNat (224+v / 4096),UInt8.ofNat (128+v / 64 % 64),UInt8.ofNat (128+v % 64)]⟩:=by unfold Utf8.encode;simp only[hv,FK,CZ,AG n0,AG h2,AL h3]
  have b0:bt (Utf8.encode (v:Int)) 0=224+v / 4096:=by rw[e];exact Yl (by omega)
  have b1:bt (Utf8.encode (v:Int)) 1=128+v / 64 % 64:=by rw[e];exact Yl (by omega)
  have b2:bt (Utf8.encode (v:Int)) 2=128+v % 64:=by rw[e];exact Yl (by omega)
  have ez:BW (v:Int)= [224+(v:Int) / 4096,128+(v:Int) / 64 % 64,128+(v:Int) % 64]:=by unfold BW;rw[AG z0,AG (by omega),AL (by omega)]
  refine⟨2,by rw[e];rfl,by omega,by omega,by rw[b2];omega,fun s i hi hb=> ?_,by rw[ez];rfl,fun t ht=> ?_⟩
  .have c0:=hb 0 (by omega);have c1:=hb 1 (by omega);have c2:=hb 2 (by omega);rw[b0,Ad]at c0;rw[b1]at c1;rw[b2]at c2;have t1:tl s (i+1)=true:=by unfold tl;exact AK ⟨by omega,by omega,by omega⟩
   have t2:tl s (i+2)=true:=by unfold tl;exact AK ⟨hi,by omega,by omega⟩
   have w:v3 s i=v:=by unfold v3;rw[c0,c1,c2];omega
   rw[BX,AG (by omega),AG (by omega),AL ⟨by omega,t1,t2⟩,w,AL ⟨by omega,hv⟩]
  .rw[ez];rcases(by omega:t=0\/t=1\/t=2)with rfl|rfl|rfl
   .rw[b0];show _=(224+(v:Int) / 4096).toNat;omega
   .rw[b1];show _=(128+(v:Int) / 64 % 64).toNat;omega
   .rw[b2];show _=(128+(v:Int) % 64).toNat;omega
 .have e:Utf8.encode (v:Int)=⟨#[UInt8.ofNat (240+v / 262144),UInt8.ofNat (128+v / 4096 % 64),UInt8.ofNat (128+v / 64 % 64),UInt8.ofNat (128+v % 64)]⟩:=by unfold Utf8.encode;simp only[hv,FK,CZ,AG n0,AG h2,AG h3]
  have b0:bt (Utf8.encode (v:Int)) 0=240+v / 262144:=by rw[e];exact Yl (by omega)
  have b1:bt (Utf8.encode (v:Int)) 1=128+v / 4096 % 64:=by rw[e];exact Yl (by omega)
  have b2:bt (Utf8.encode (v:Int)) 2=128+v / 64 % 64:=by rw[e];exact Yl (by omega)
  have b3:bt (Utf8.encode (v:Int)) 3=128+v % 64:=by rw[e];exact Yl (by omega)
  have ez:BW (v:Int)= [240+(v:Int) / 262144,128+(v:Int) / 4096 % 64,128+(v:Int) / 64 % 64,128+(v:Int) % 64]:=by unfold BW;rw[AG z0,AG (by omega),AG (by omega)]
  refine⟨3,by rw[e];rfl,by omega,by omega,by rw[b3];omega,fun s i hi hb=> ?_,by rw[ez];rfl,fun t ht=> ?_⟩
  .have c0:=hb 0 (by omega);have c1:=hb 1 (by omega);have c2:=hb 2 (by omega);have c3:=hb 3 (by omega);rw[b0,Ad]at c0;rw[b1]at c1;rw[b2]at c2;rw[b3]at c3;have t1:tl s (i+1)=true:=by unfold tl;exact AK ⟨by omega,by omega,by omega⟩
   have t2:tl s (i+2)=true:=by unfold tl;exact AK ⟨by omega,by omega,by omega⟩
   have t3:tl s (i+3)=true:=by unfold tl;exact AK ⟨hi,by omega,by omega⟩
   have w:v4 s i=v:=by unfold v4;rw[c0,c1,c2,c3];omega
   rw[BX,AG (by omega),AG (by omega),AG (by omega),AL ⟨by omega,t1,t2,t3⟩,w,AL ⟨by omega,hv⟩]
  .rw[ez];rcases(by omega:t=0\/t=1\/t=2\/t=3)with rfl|rfl|rfl|rfl
   .rw[b0];show _=(240+(v:Int) / 262144).toNat;omega
   .rw[b1];show _=(128+(v:Int) / 4096 % 64).toNat;omega
   .rw[b2];show _=(128+(v:Int) / 64 % 64).toNat;omega
   .rw[b3];show _=(128+(v:Int) % 64).toNat;omega
def Pz(s:AE)(i:Nat):Utf8.valid ((Utf8.decode s i).1:Int)=true:=by
 have small:∀ {v:Nat},v<2048->Utf8.valid (v:Int)=true:=fun {v}h=>by rw[I6];unfold E0;exact AK (by omega)
 have hbad:Utf8.valid ((65533:Nat):Int)=true:=by decide
 rw[BX];by_cases c0:bt s i<128
 .rw[AL c0];exact small (by show bt s i<2048;omega)
 .rw[AG c0];by_cases c1:bt s i / 32=6/\tl s (i+1)=true
  .rw[AL c1];by_cases c:128<=v2 s i
   .rw[AL c];exact small (by show v2 s i<2048;unfold v2;omega)
   .rw[AG c];exact hbad
  .rw[AG c1];by_cases c2:bt s i / 16=14/\tl s (i+1)=true/\tl s (i+2)=true
   .rw[AL c2];by_cases c:2048<=v3 s i/\Utf8.valid (v3 s i:Nat)=true
    .rw[AL c];exact c.2
    .rw[AG c];exact hbad
   .rw[AG c2];by_cases c3:bt s i / 8=30/\tl s (i+1)=true/\tl s (i+2)=true/\tl s (i+3)=true
    .rw[AL c3];by_cases c:65536<=v4 s i/\Utf8.valid (v4 s i:Nat)=true
     .rw[AL c];exact c.2
     .rw[AG c];exact hbad
    .rw[AG c3];exact hbad
def PN(c:Nat):List UInt8->Nat->Nat->Bool
 | [],_,_=>true
 |b::t,i,n=>decide (n<=(i+16) / 8)&&PN c t (i+1) (n+if b.toNat=c then 1 else 0)
def Mz{s:AE}{c:Nat}:∀(d i:Nat),s.size- i=d->PN c (s.data.toList.drop i) i (RJ s c i)=true->∀j,i<=j->j<s.size->RJ s c j<=(j+16) / 8
 |0,i,hd,_,j,h1,h2=>by omega
 |d+1,i,hd,hp,j,h1,h2=>by
  have hl:i<s.data.toList.length:=by rw[<-Lib.size_eq];omega
  rw[CL hl,PN,An]at hp;by_cases e:j=i
  .rw[e];exact AT hp.1
  .refine Mz d (i+1) (by omega) ?_ j (by omega) h2;have hb:(s.data.toList[i]).toNat=bt s i:=by rw[Cl (by omega),AP,AR hl,Cz]
   rw[RJ,<-hb];exact hp.2
def R5:(List.range 64).all (fun d=>PN (128+d) Kf.data.toList 0 0)=true:=by kernel_rfl
def ZC{c:Nat}(h1:128<=c)(h2:c<192)(j:Nat)(hj:j<Kf.size):RJ Kf c j<=(j+16) / 8:=by have h:=Ax.1 R5 (c- 128) (DZ.2 (by omega));rw[show 128+(c- 128)=c by omega]at h;exact Mz (Kf.size- 0) 0 rfl h j (AZ _) hj
def UO:(List.range Kf.size).all (fun i=>decide ((Utf8.decode Kf i).1∈Ar)||decide ((Utf8.decode Kf i).1=65533))=true:=by kernel_rfl
def WK:Kf.data.toList=Ar.flatMap fun c=>(BW (c:Nat)).map fun x=>x.toNat.toUInt8:=rfl
def ZB{v L:Nat}(hW:d6 v L)(hne:v≠65533):(∃k,Mt Kf (Utf8.encode (v:Int)) L k)↔v∈Ar:=by
 constructor
 .rintro⟨k,h1,h2,h3⟩;have hd:Utf8.decode Kf (k- L)=(v,L+1):=hW.reads Kf (k- L) (by omega) fun t ht=>by have:=h3 (L- t) (by omega);rw[show k- (L- t)=k- L+t by omega,show L- (L- t)=t by omega]at this;exact this
  have:=Ax.1 UO (k- L) (DZ.2 (by omega));rw[hd]at this;rcases DG _ _▸this with h|h
  .exact AT h
  .exact absurd (AT h) hne
 .intro hm;obtain⟨l1,l2,hl⟩:=List.append_of_mem hm;have hs:Kf.data.toList=(l1.flatMap fun c=>(BW (c:Nat)).map fun x=>x.toNat.toUInt8)++((BW (v:Int)).map fun x=>x.toNat.toUInt8)++(l2.flatMap fun c=>(BW (c:Nat)).map fun x=>x.toNat.toUInt8):=by rw[WK,hl,DF,CY,Aj]
  generalize (l1.flatMap fun c=>(BW (c:Nat)).map fun x=>x.toNat.toUInt8)=A at hs;generalize (l2.flatMap fun c=>(BW (c:Nat)).map fun x=>x.toNat.toUInt8)=B at hs;have hsz:Kf.size=A.length+(L+1)+B.length:=by rw[Lib.size_eq,hs,AH,AH,AS,hW.len]
  refine⟨A.length+L,by omega,by omega,fun j hj=> ?_⟩;have hv:v<=2097151:=by
   have:v∈Ar:=hm;have h:∀x∈Ar,x<=2097151:=by decide
   exact h v this
  have hb:=Lm hv;have hx:L- j<(BW (v:Int)).length:=by rw[hW.len];omega
  rw[Cl (by omega),hs,hW.same (L- j) (by omega),AP,Bw (by rw[AH,AS,hW.len];omega),A5 (by omega),show A.length+L- j- A.length=L- j by omega,BV,AP,AR hx];have h2:=hb _ (By hx);simp only[Gt,Cz];generalize (BW (v:Int))[L- j]=y at h2;have:y.toNat<256:=by omega
  simp only[Nat.toUInt8];exact Yl this
def Oy(P:Nat->Bool):Prop:=∀(sg:AE)(v:Nat)(W:World),sg=Kf->Utf8.valid (v:Int)=true->Calls prog 190 #[.string sg,.int .i32 (v:Int)] W fun e w'=>e=.returned (.bool (P v))/\Below W.heap.size W w'
def QS(P:Nat->Bool)(hP:Oy P)(t:AE)(w:World)(h0:0<t.size)(hw:(Utf8.decode t 0).2<=t.size)(hT:Fu w):Calls prog 156 #[.string t] w fun e w'=>e=.returned (if P (Utf8.decode t 0).1=true then Bx 4 0 (t.extract 0 (Utf8.decode t 0).2) (Utf8.decode t 0).2 0 else Bx 0 0 ⟨#[]⟩ 0 1)/\Below w.heap.size w w':=by
 obtain⟨Q,hQ⟩:∃Q,Q=w.alloc (.cells #[.int .i64 0,.int .i64 0,.string ⟨#[]⟩,.int .i64 0] 64):=⟨_,rfl⟩
 have HQ:=AB hQ;have HBX:Hid (D9 Q w.heap.size (.int .i64 0) (.int .i64 0) (.string ⟨#[]⟩) (.int .i64 0)):=by rw[hQ];exact D9.new w _ _ _ _
 have HBQ:Hid (Below w.heap.size w Q):=by rw[hQ];exact AI.alloc AC _
 clear hQ;have HD:=AB (Sw t h0 Q (hT.below (AA HBQ)));have hsl:=fun W=>Fd (s:=t) (q:=(Utf8.decode t 0).2) hw W;have hva:=Pz t 0;obtain⟨v,hv⟩:∃v,(Utf8.decode t 0).1=v:=⟨_,rfl⟩
 rw[hv]at hva;obtain⟨c,hc⟩:∃c,(Utf8.decode t 0).2=c:=⟨_,rfl⟩
 rw[hv,hc]at HD ⊢;rw[hc]at hsl;obtain⟨x,hx⟩:∃x,t.extract 0 c=x:=⟨_,rfl⟩
 rw[hx]at hsl ⊢;have HP:Hid (∀(sg:AE)(W:World),sg=Kf->Calls prog 190 #[.string sg,.int .i32 (v:Int)] W fun e w'=>e=.returned (.bool (P v))/\Below W.heap.size W w'):=AB fun sg W h=>hP sg v W h hva;clear hva hv hc hx hw hT h0 hP;cases hp:P v with
 |true=>
  rw[hp]at HP;rw[AL rfl];go_enter func156,ntmps156;go_wp2_with(first|(go_at_call 175;rw[<-AA HQ];refine(AA HD).mono ?_;rintro e w5⟨rfl,hb5⟩;have HB5:=AB ((AA HBQ).trans (hb5.mono (AA HBQ).size));have HX5:=AB ((AA HBX).below AC hb5);clear hb5)|(go_at_call 190;refine(AA HP _ _ (by kernel_rfl)).mono ?_;rintro e w6⟨rfl,hb6⟩;have HB6:=AB ((AA HB5).trans (hb6.mono (AA HB5).size));obtain⟨q0,q1,q2,q3,f0,f1,f2,f3⟩:=((AA HX5).below AC hb6).all;clear hb6));refine bodyPost_ret (v:=Bx 4 0 x c 0) (by simp[results,results156,go_sem,q0,q1,q2,q3,Bx]) rfl ?_;exact⟨rfl,(((((AA HB6).setCell AC _).setCell AC _).setCell AC _).setCell AC _)⟩
 |false=>
  rw[hp]at HP;rw[AG (by decide)];go_enter func156,ntmps156;go_wp2_with(first|(go_at_call 175;rw[<-AA HQ];refine(AA HD).mono ?_;rintro e w5⟨rfl,hb5⟩;have HB5:=AB ((AA HBQ).trans (hb5.mono (AA HBQ).size));have HX5:=AB ((AA HBX).below AC hb5);clear hb5)|(go_at_call 190;refine(AA HP _ _ (by kernel_rfl)).mono ?_;rintro e w6⟨rfl,hb6⟩;have HB6:=AB ((AA HB5).trans (hb6.mono (AA HB5).size));obtain⟨q0,q1,q2,q3,f0,f1,f2,f3⟩:=((AA HX5).below AC hb6).all;clear hb6));refine bodyPost_ret (v:=Bx 0 0 ⟨#[]⟩ 0 1) (by simp[results,results156,go_sem,q0,q1,q2,q3,Bx]) rfl ?_;exact⟨rfl,(((((AA HB6).setCell AC _).setCell AC _).setCell AC _).setCell AC _)⟩
def RI(s:AE)(v:Nat)(n:Int)(W:World)(h:Calls prog 214 #[.string s,.int .i32 (v:Int)] W fun e w'=>e=.returned (.int .i64 n)/\Below W.heap.size W w'):Calls prog 190 #[.string s,.int .i32 (v:Int)] W fun e w'=>e=.returned (.bool (decide (0<=n)))/\Below W.heap.size W w':=by have H:=AB h;clear h;go_enter func190,ntmps190;go_wp2_with(go_at_call 214;refine(AA H).mono ?_;rintro e w5⟨rfl,hb5⟩;have HB5:=AB hb5;clear hb5);go_ret;exact⟨AN rfl,AA HB5⟩
def OY(s:AE):Nat->Nat->Bool
 |0,_=>true
 |f+1,i=>if i<s.size then !(decide ((Utf8.decode s i).1=65533))&&OY s f (i+(Utf8.decode s i).2)else true
def UP:OY Kf (Kf.size+1) 0=true:=by kernel_rfl
def N7(s:AE)(w:World)(hno:OY s (s.size+1) 0=true):Calls prog 214 #[.string s,.int .i32 65533] w fun e w'=>e=.returned (.int .i64 (-1))/\Below w.heap.size w w':=by
 have HN:=AB hno;clear hno;go_enter func214,ntmps214;go_wp2_with fail;go_loopw[5] (fun _ w'=>∃pos F:Nat,w'=w.iter s pos/\s.size- pos<F/\Hid (OY s F pos=true)) (fun _ w'=>s.size- w'.iterPos w.heap.size);case atStart=>exact⟨0,s.size+1,rfl,by omega,HN⟩
 case round=>
  obtain⟨pos,F,rfl,hF,HK⟩:=hrel;obtain⟨F',rfl⟩:∃f,F=f+1:=⟨F- 1,by omega⟩
  by_cases hlt:pos<s.size
  .have hnx:∀ty,(Instr.next (.pointer (some ⟨w.heap.size,0,none⟩)) true ty).run prog (w.iter s pos)=_:=fun ty=>run_next_any w s pos ty hlt;have hwd:=Lib.decode_width_pos s pos hlt;obtain⟨hne0,hk⟩:¬(Utf8.decode s pos).1=65533/\OY s F' (pos+(Utf8.decode s pos).2)=true:=by have:=AA HK;rw[OY,AL hlt,An]at this;exact⟨by simpa using this.1,this.2⟩
   have hne:¬(((Utf8.decode s pos).1:Nat):Int)=65533:=by omega
   clear hne0;have HK2:=AB hk;clear hk HK;obtain⟨v,hv⟩:∃v,(Utf8.decode s pos).1=v:=⟨_,rfl⟩
   obtain⟨wd,hw⟩:∃n,(Utf8.decode s pos).2=n:=⟨_,rfl⟩
   rw[hv,hw]at hnx;rw[hw]at hwd HK2;rw[hv]at hne;clear hv hw;go_wp2_with fail;go_roundw;case rel=>exact⟨pos+wd,F',rfl,by omega,HK2⟩
   case measure=>simp;omega
  .have hnx:∀ty,(Instr.next (.pointer (some ⟨w.heap.size,0,none⟩)) true ty).run prog (w.iter s pos)=_:=fun ty=>run_next_end w s pos ty hlt;go_wp2_with fail;go_ret;exact⟨rfl,AI.alloc AC _⟩
def UQ:(List.range 128).all (fun v=>decide (0<=Lib.indexByte Kf.data.toList v.toUInt8)==decide (v∈Ar))=true:=by kernel_rfl
def Ne(v:Nat)(hv:v<128)(W:World):Calls prog 190 #[.string Kf,.int .i32 (v:Int)] W fun e w'=>e=.returned (.bool (decide (v∈Ar)))/\Below W.heap.size W w':=by
 have hq:decide (0<=Lib.indexByte Kf.data.toList v.toUInt8)=decide (v∈Ar):=by simpa using Ax.1 UQ v (DZ.2 hv)
 refine(Any.strings_ContainsRune_ascii Tryz.containsS Kf (v:Int) W (by omega) (by omega)).mono ?_;rintro e w'⟨rfl,rfl⟩;rw[CZ,hq];exact⟨rfl,AI⟩
def P2(W:World):Calls prog 190 #[.string Kf,.int .i32 ((65533:Nat):Int)] W fun e w'=>e=.returned (.bool (decide ((65533:Nat)∈Ar)))/\Below W.heap.size W w':=by
 have h:=RI Kf 65533 (-1) W (N7 Kf W UP);have e:decide ((0:Int)≤-1)=decide ((65533:Nat)∈Ar):=by decide
 rw[e]at h;exact h
def J2:Builder.Extra prog Tryz.replaceS_ren where
 sizeBuilder:=by kernel_rfl
 liesBuilder:=by kernel_rfl
 t5:=underlying5
 a5:=isAgg5
 z5:=sizeOf5
 v5:=zeroValue5
 infoByte:=by kernel_rfl
 cellsByte:=by kernel_rfl
 sizeByte:=by kernel_rfl
 neB5:=by decide
def aR(w:World)(B b:Nat)(l:List UInt8):Prop:=Lib.IsBuilderF (Tryz.replaceS_ren.t 72) (Tryz.replaceS_ren.t 5) B b (Lib.byteCells l) w
def Hh(B b:Nat)(l:List UInt8)(s:AE)(w:World)(h:aR w B b l)(Ae:l.length+s.size<=17592186044416)(hBw:B<=w.heap.size):Calls prog 37 #[.pointer (some ⟨b,0,none⟩),.string s] w fun e w'=>e=.returned (.tuple #[.int .i64 s.size,.nilIface])/\aR w' B b (l++s.data.toList)/\Below B w w':=by
 refine(Any.Builder_WriteString_f {Tryz.replaceS with} J2 B b (Lib.byteCells l) s w h (by simp[Lib.byteCells];omega) hBw).mono ?_;rintro e w'⟨rfl,h1,h2⟩;refine⟨rfl,Or.inr ?_,h2⟩;have e:Lib.byteCells l++Lib.strCells s=Lib.byteCells (l++s.data.toList):=by simp[Lib.byteCells,Lib.strCells]
 rw[<-e];exact h1
def JV(B b:Nat)(l:List UInt8)(w:World)(h:aR w B b l)(hBw:B<=w.heap.size):Calls prog 40 #[.pointer (some ⟨b,0,none⟩)] w fun e w'=>e=.returned (.string ⟨l.toArray⟩)/\aR w' B b l/\Below B w w':=Any.Builder_String_any_f {Tryz.replaceS with} J2 B b l w h hBw
def aR.below{w w':World}{B b:Nat}{l:List UInt8}(h:aR w B b l)(hb:Below w.heap.size w w'):aR w' B b l:=by
 have one:∀ {p:Value},Lib.BuilderAtF (Tryz.replaceS_ren.t 72) (Tryz.replaceS_ren.t 5) B b p (Lib.byteCells l) w->Lib.BuilderAtF (Tryz.replaceS_ren.t 72) (Tryz.replaceS_ren.t 5) B b p (Lib.byteCells l) w':=by
  rintro p⟨h1,v,h2,⟨h3,h4⟩,h5⟩;refine⟨h1,v,(hb.block b (lt_of_block h2)).trans h2,⟨h3,?_⟩,h5⟩;rcases h4 with h4|⟨g,cap,cur,fz,e1,e2,e3,e4⟩
  .exact Or.inl h4
  .exact Or.inr ⟨g,cap,cur,fz,e1,e2,(hb.block g (lt_of_block e3)).trans e3,e4⟩
 rcases h with h|h
 .exact Or.inl (one h)
 .exact Or.inr (one h)
def D9.under{w w':World}{p B:Nat}{v0 v1 v2 v3:Value}(h:D9 w p v0 v1 v2 v3)(hp:p<B)(hb:Below B w w'):D9 w' p v0 v1 v2 v3:=(hb.block p hp).trans h
def aV:Option (Nat×List UInt8)->Value
 |none=>Bx 0 0 ⟨#[]⟩ 0 1
 |some (e,out)=>if Lib.validD out=true then Bx 2 0 ⟨out.toArray⟩ e 0 else Bx 0 0 ⟨#[]⟩ 0 1
def Yv:Value->Nat
 |.string x=>x.size
 |_=>0
def Xv{s:AE}{p:Nat}(h:p<=s.size):p<=E5 s p/\E5 s p<=s.size:=by have h1:Bp IG (s.extract p s.size)<=(s.extract p s.size).size:=DV _ _;rw[A4]at h1;unfold E5;omega
def Om{s:AE}{p c:Nat}:(s.extract p s.size).extract 0 c=s.extract p (p+c):=by refine CJ (CI.1 ?_);rw[LP,Fv,Cq,C1]
def PK(t:AE)(w:World)(h1:1<=t.size)(hs:t.size<=1000000000000)(hT:Fu w):Calls prog 153 #[.string t] w fun e w'=>e=.returned (aV (IL t (t.size+1) 1 []))/\Below w.heap.size w w':=by
 obtain⟨R,hR⟩:∃R,IL t (t.size+1) 1 []=R:=⟨_,rfl⟩
 rw[hR];have HR:=AB hR;clear hR;obtain⟨Q,hQ⟩:∃Q,Q=(w.alloc (.cells #[.int .i64 0,.int .i64 0,.string ⟨#[]⟩,.int .i64 0] 64)).alloc (.cells #[.pointer none,.slice none 0 0] 62):=⟨_,rfl⟩
 have HQ:=AB hQ;have HX0:Hid (D9 Q w.heap.size (.int .i64 0) (.int .i64 0) (.string ⟨#[]⟩) (.int .i64 0)):=by rw[hQ];exact(D9.new w _ _ _ _).below AC (AI.alloc AC _)
 have HB0:Hid (Below w.heap.size w Q):=by rw[hQ];exact(AI.alloc AC _).alloc (by simp) _
 have HI0:Hid (aR Q (w.heap.size+1) (w.heap.size+1) []):=by rw[hQ];have:=Lib.IsBuilderF.of (Lib.fresh_isBuilder (Tryz.replaceS_ren.t 72) (Tryz.replaceS_ren.t 5) (w.alloc (.cells #[.int .i64 0,.int .i64 0,.string ⟨#[]⟩,.int .i64 0] 64)));rw[show(w.alloc (.cells #[.int .i64 0,.int .i64 0,.string ⟨#[]⟩,.int .i64 0] 64)).heap.size=w.heap.size+1 by simp]at this;exact this
 have HS0:Hid (w.heap.size+1<=Q.heap.size):=by rw[hQ];show _<=_;simp
 clear hQ;have HTB:=AB hT;clear hT;have hs1:∀W,(Instr.slice 9 (.string t) (some (.int .i64 1)) none none).run prog W=.ok (.string (t.extract 1 t.size)) W:=fun W=>F7 (s:=t) (q:=1) h1 W;go_enter func153,ntmps153;go_wp2_with fail;rw[<-AA HQ];go_loopw[6] (fun a w'=>∃(p F:Nat)(out:List UInt8),a=.string (t.extract p t.size)/\p<=t.size/\t.size- p<F/\out.length<=p/\Hid (IL t F p out=R)/\Hid (D9 w' w.heap.size (.int .i64 0) (.int .i64 0) (.string ⟨#[]⟩) (.int .i64 0))/\Hid (Below w.heap.size w w')/\Hid (aR w' (w.heap.size+1) (w.heap.size+1) out)/\w.heap.size+1<=w'.heap.size) (fun a _=>Yv a);case atStart=>exact⟨1,t.size+1,[],rfl,h1,by omega,by simp,HR,HX0,HB0,HI0,AA HS0⟩
 case round=>
  obtain⟨p,F,out,rfl,hp,hF,ho,HK,HX,HB,HI,hsz⟩:=hrel;obtain⟨F',rfl⟩:∃f,F=f+1:=⟨F- 1,by omega⟩
  obtain⟨q,hq⟩:∃q,E5 t p=q:=⟨_,rfl⟩
  obtain⟨hpq,hqs⟩:=Xv hp;rw[hq]at hpq hqs;have hc:Bp IG (t.extract p t.size)=q- p:=by rw[<-hq];unfold E5;omega
  have HST:=AB (fun W=>CR 186 dy IG (fun v W=>NQ v W) (t.extract p t.size) W (by rw[A4];omega));rw[hc]at HST;have hts:(t.extract p t.size).size=t.size- p:=A4 t p;have hsl:=fun W=>Fd (s:=t.extract p t.size) (q:=q- p) (by omega) W;have hsr:=fun W=>F7 (s:=t.extract p t.size) (q:=q- p) (by omega) W;rw[Om,show p+(q- p)=q by omega]at hsl;rw[JZ,show p+(q- p)=q by omega]at hsr;have HK2:Hid ((if Cd t q=true then(if Cd t (q+1)=true then IL t F' (q+2) (out++(t.extract p q).data.toList++ [39])else some (q+1,out++(t.extract p q).data.toList))else none)=R):=by have:=AA HK;rw[IL,hq]at this;exact this
  have hxs:(t.extract p q).size=q- p:=by rw[Lib.size_eq,Cq,CF,DO,<-Lib.size_eq];omega
  have HC1:=AB (fun W=>Ot t q hqs W);obtain⟨c,hcc⟩:∃c,q- p=c:=⟨_,rfl⟩
  rw[hcc]at HST hsl hsr hxs;obtain⟨x,hx⟩:∃x,t.extract p q=x:=⟨_,rfl⟩
  rw[hx]at hsl HK2 hxs;clear HK hq hc hx;cases h1q:Cd t q with
  |false=>
   rw[h1q]at HC1 HK2;rw[AG (by decide)]at HK2 HC1;go_wp2_with(first|(go_at_call 183;refine(AA HST _).mono ?_;rintro e w5⟨rfl,hb5⟩;have HB5:=AB ((AA HB).trans (hb5.mono (AA HB).size));have HX5:=AB ((AA HX).below AC hb5);have HI5:=AB ((AA HI).below hb5);have hz5:=Aw hsz hb5.size;clear hb5)|(go_at_call 37;refine(Hh _ _ out x _ (AA HI5) (by omega) hz5).mono ?_;rintro e w6⟨rfl,hi6,hb6⟩;have HI6:=AB hi6;have HB6:=AB ((AA HB5).trans (hb6.mono (Cg _)));have HX6:=AB ((AA HX5).under (C0 _) hb6);have hz6:=Aw hz5 hb6.size;obtain⟨q0,q1,q2,q3,f0,f1,f2,f3⟩:=(AA HX6).all;clear hb6 hi6)|(go_at_call 187;refine(AA HC1 _).mono ?_;rintro e w1⟨rfl,hw⟩;obtain rfl:=hw.symm;have HM:=AB True.intro));refine bodyPost_ret (v:=Bx 0 0 ⟨#[]⟩ 0 1) (by simp[results,results153,go_sem,q0,q1,q2,q3,Bx]) rfl ?_;refine⟨?_,(((((AA HB6).setCell AC _).setCell AC _).setCell AC _).setCell AC _)⟩;rw[<-AA HK2];rfl
  |true=>
   rw[h1q]at HC1 HK2;rw[AL rfl]at HK2 HC1;have hq1:q+1<=t.size:=(AT h1q).1;have HC2:=AB (fun W=>Ot t (q+1) hq1 W);cases h2q:Cd t (q+1)with
   |true=>
    rw[h2q]at HC2 HK2;rw[AL rfl]at HK2 HC2;have hq2:q+1+1<=t.size:=(AT h2q).1;go_wp2_with(first|(go_at_call 183;refine(AA HST _).mono ?_;rintro e w5⟨rfl,hb5⟩;have HB5:=AB ((AA HB).trans (hb5.mono (AA HB).size));have HX5:=AB ((AA HX).below AC hb5);have HI5:=AB ((AA HI).below hb5);have hz5:=Aw hsz hb5.size;clear hb5)|(have hm:=HM;clear hm;go_at_call 37;refine(Hh _ _ (out++x.data.toList) ⟨#[39]⟩ _ (AA HI6) (by rw[AH,<-Lib.size_eq];show _+1<=_;omega) hz6).mono ?_;rintro e w7⟨rfl,hi7,hb7⟩;have HI7:=AB hi7;have HB7:=AB ((AA HB6).trans (hb7.mono (Cg _)));have HX7:=AB ((AA HX6).under (C0 _) hb7);have hz7:=Aw hz6 hb7.size;clear hb7 hi7)|(go_at_call 37;refine(Hh _ _ out x _ (AA HI5) (by omega) hz5).mono ?_;rintro e w6⟨rfl,hi6,hb6⟩;have HI6:=AB hi6;have HB6:=AB ((AA HB5).trans (hb6.mono (Cg _)));have HX6:=AB ((AA HX5).under (C0 _) hb6);have hz6:=Aw hz5 hb6.size;clear hb6 hi6)|(have hm:=HM;clear hm;go_at_call 187;refine(AA HC2 _).mono ?_;rintro e w1⟨rfl,hw⟩;obtain rfl:=hw.symm)|(go_at_call 187;refine(AA HC1 _).mono ?_;rintro e w1⟨rfl,hw⟩;obtain rfl:=hw.symm;have HM:=AB True.intro));go_roundw;case rel=>exact⟨q+2,F',_,rfl,by omega,by omega,by rw[AH,AH,<-Lib.size_eq];show _+1<=_;omega,HK2,HX7,HB7,HI7,hz7⟩
    case measure=>show(t.extract (q+1+1) t.size).size<(t.extract p t.size).size;rw[A4,A4];omega
   |false=>
    rw[h2q]at HC2 HK2;rw[AG (by decide)]at HK2 HC2;have hrs:(t.extract (q+1) t.size).size=t.size- (q+1):=A4 t (q+1);have HV:=AB (fun W(hb:Below w.heap.size w W)=>T9 ⟨(out++x.data.toList).toArray⟩ (by rw[Lib.size_eq];simp only[AH,<-Lib.size_eq];omega) W ((AA HTB).below hb));have HE:Hid (aV R=if Lib.validD (out++x.data.toList)=true then Bx 2 0 ⟨(out++x.data.toList).toArray⟩ (q+1) 0 else Bx 0 0 ⟨#[]⟩ 0 1):=by rw[<-AA HK2];exact AB rfl
    cases hv:Lib.validD (out++x.data.toList)with
    |true=>
     have HV2:Hid (∀W,Below w.heap.size w W->Calls prog 188 #[.string ⟨(out++x.data.toList).toArray⟩] W fun e w'=>e=.returned (.bool true)/\Below W.heap.size W w'):=by rw[<-hv];exact HV
     rw[hv,AL rfl]at HE;clear hv HV;go_wp2_with(first|(go_at_call 183;refine(AA HST _).mono ?_;rintro e w5⟨rfl,hb5⟩;have HB5:=AB ((AA HB).trans (hb5.mono (AA HB).size));have HX5:=AB ((AA HX).below AC hb5);have HI5:=AB ((AA HI).below hb5);have hz5:=Aw hsz hb5.size;clear hb5)|(go_at_call 37;refine(Hh _ _ out x _ (AA HI5) (by omega) hz5).mono ?_;rintro e w6⟨rfl,hi6,hb6⟩;have HI6:=AB hi6;have HB6:=AB ((AA HB5).trans (hb6.mono (Cg _)));have HX6:=AB ((AA HX5).under (C0 _) hb6);have hz6:=Aw hz5 hb6.size;clear hb6 hi6)|(have hm:=HM;clear hm;go_at_call 187;refine(AA HC2 _).mono ?_;rintro e w1⟨rfl,hw⟩;obtain rfl:=hw.symm)|(go_at_call 187;refine(AA HC1 _).mono ?_;rintro e w1⟨rfl,hw⟩;obtain rfl:=hw.symm;have HM:=AB True.intro)|(have hm:=HI8;clear hm;go_at_call 40;refine(JV _ _ (out++x.data.toList) _ (AA HI8) hz8).mono ?_;rintro e w9⟨rfl,hi9,hb9⟩;have HB9:=AB ((AA HB8).trans (hb9.mono (Cg _)));obtain⟨q0,q1,q2,q3,f0,f1,f2,f3⟩:=((AA HX8).under (C0 _) hb9).all;clear hb9 hi9)|(go_at_call 40;refine(JV _ _ (out++x.data.toList) _ (AA HI6) hz6).mono ?_;rintro e w7⟨rfl,hi7,hb7⟩;have HI7:=AB hi7;have HB7:=AB ((AA HB6).trans (hb7.mono (Cg _)));have HX7:=AB ((AA HX6).under (C0 _) hb7);have hz7:=Aw hz6 hb7.size;clear hb7 hi7)|(go_at_call 188;refine(AA HV2 _ (AA HB7)).mono ?_;rintro e w8⟨rfl,hb8⟩;have HB8:=AB ((AA HB7).trans (hb8.mono (AA HB7).size));have HX8:=AB ((AA HX7).below AC hb8);have HI8:=AB ((AA HI7).below hb8);have hz8:=Aw hz7 hb8.size;clear hb8));refine bodyPost_ret (v:=Bx 2 0 ⟨(out++x.data.toList).toArray⟩ (q+1) 0) (by simp[results,results153,go_sem,q0,q1,q2,q3,Bx];omega) rfl ?_;refine⟨?_,(((((AA HB9).setCell AC _).setCell AC _).setCell AC _).setCell AC _)⟩;exact AV Ending.returned (AA HE).symm
    |false=>
     have HV2:Hid (∀W,Below w.heap.size w W->Calls prog 188 #[.string ⟨(out++x.data.toList).toArray⟩] W fun e w'=>e=.returned (.bool false)/\Below W.heap.size W w'):=by rw[<-hv];exact HV
     rw[hv,AG (by decide)]at HE;clear hv HV;go_wp2_with(first|(go_at_call 183;refine(AA HST _).mono ?_;rintro e w5⟨rfl,hb5⟩;have HB5:=AB ((AA HB).trans (hb5.mono (AA HB).size));have HX5:=AB ((AA HX).below AC hb5);have HI5:=AB ((AA HI).below hb5);have hz5:=Aw hsz hb5.size;clear hb5)|(go_at_call 37;refine(Hh _ _ out x _ (AA HI5) (by omega) hz5).mono ?_;rintro e w6⟨rfl,hi6,hb6⟩;have HI6:=AB hi6;have HB6:=AB ((AA HB5).trans (hb6.mono (Cg _)));have HX6:=AB ((AA HX5).under (C0 _) hb6);have hz6:=Aw hz5 hb6.size;clear hb6 hi6)|(have hm:=HM;clear hm;go_at_call 187;refine(AA HC2 _).mono ?_;rintro e w1⟨rfl,hw⟩;obtain rfl:=hw.symm)|(go_at_call 187;refine(AA HC1 _).mono ?_;rintro e w1⟨rfl,hw⟩;obtain rfl:=hw.symm;have HM:=AB True.intro)|(go_at_call 40;refine(JV _ _ (out++x.data.toList) _ (AA HI6) hz6).mono ?_;rintro e w7⟨rfl,hi7,hb7⟩;have HI7:=AB hi7;have HB7:=AB ((AA HB6).trans (hb7.mono (Cg _)));have HX7:=AB ((AA HX6).under (C0 _) hb7);have hz7:=Aw hz6 hb7.size;clear hb7 hi7)|(go_at_call 188;refine(AA HV2 _ (AA HB7)).mono ?_;rintro e w8⟨rfl,hb8⟩;have HB8:=AB ((AA HB7).trans (hb8.mono (AA HB7).size));have HX8:=AB ((AA HX7).below AC hb8);have HI8:=AB ((AA HI7).below hb8);have hz8:=Aw hz7 hb8.size;clear hb8;obtain⟨q0,q1,q2,q3,f0,f1,f2,f3⟩:=(AA HX8).all));refine bodyPost_ret (v:=Bx 0 0 ⟨#[]⟩ 0 1) (by simp[results,results153,go_sem,q0,q1,q2,q3,Bx]) rfl ?_;refine⟨?_,(((((AA HB8).setCell AC _).setCell AC _).setCell AC _).setCell AC _)⟩;exact AV Ending.returned (AA HE).symm
