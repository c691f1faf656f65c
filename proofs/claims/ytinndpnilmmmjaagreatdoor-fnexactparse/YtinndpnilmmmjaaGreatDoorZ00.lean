import Derived.Test.YtinndpnilmmmjaaGreatDoorZ
import Derived.WalkSpells
import Derived.BigQuiet
import Derived.Deep.AppendLies
import Derived.Lib.RuneCount
import Derived.OrdersHeld
import Derived.Shelf.Strings.Runes
import Derived.Test.YtinndpnilmmmjaaGreatDoorProg
set_option linter.defProp false
namespace Go.Proofs.YtinndpnilmmmjaaGreatDoor
open Go.RowKit Tryz
structure Df(w:World)(a:Option Addr)(n:Nat)(zs:List Int):Prop where
 len:zs.length=n
 small:n<=17592186044416
 at_:n=0\/∃b off,a=some ⟨b,off,none⟩/\b<w.heap.size/\∀i,i<n->w.cell? ⟨b,off+i,none⟩=some (.int .i64 (zs.getD i 0))
def Df.below{w w':World}{a:Option Addr}{n:Nat}{zs:List Int}{B:Nat}(h:Df w a n zs)(hB:w.heap.size<=B)(hb:Below B w w'):Df w' a n zs:=by
 refine⟨h.len,h.small,?_⟩;rcases h.at_ with h0|⟨b,off,rfl,hlt,hc⟩
 .exact .inl h0
 .exact .inr ⟨b,off,rfl,AX hlt hb.size,fun i hi=>(hb.cell (p:=⟨b,off+i,none⟩) (AX hlt hB)).trans (hc i hi)⟩
def Hj(w:World)(g:Nat)(zs:List Int):Prop:=w.heap[g]? =some (.cells (zs.map (Value.int .i64)).toArray 3 (0,0))
def Hj.lt{w:World}{g:Nat}{zs:List Int}(h:Hj w g zs):g<w.heap.size:=lt_of_block h
def Hj.cell{w:World}{g:Nat}{zs:List Int}(h:Hj w g zs){i:Nat}(hi:i<zs.length):w.cell? ⟨g,i,none⟩=some (.int .i64 (zs.getD i 0)):=by unfold Hj at h;simp[World.cell?,h,hi]
def Hj.free{w:World}{g:Nat}{zs:List Int}(h:Hj w g zs)(i:Nat):w.frozen? ⟨g,i,none⟩=false:=BJ w g i _ _ h
def Hj.row{w:World}{g n:Nat}{zs:List Int}(h:Hj w g zs)(hn:zs.length=n)(hs:n<=17592186044416):Df w (some ⟨g,0,none⟩) n zs:=⟨hn,hs,.inr ⟨g,0,rfl,h.lt,fun i hi=>by simpa using h.cell (i:=i) (by omega)⟩⟩
def Hj.below{w w':World}{g:Nat}{zs:List Int}{B:Nat}(h:Hj w g zs)(hB:w.heap.size<=B)(hb:Below B w w'):Hj w' g zs:=(hb.block g (AX h.lt hB)).trans h
def Hj.set{w:World}{g:Nat}{zs:List Int}(h:Hj w g zs)(i:Nat)(x:Int):Hj (w.setCell ⟨g,i,none⟩ (.int .i64 x)) g (zs.set i x):=by unfold Hj at h ⊢;rw[CX w g i _ _ _ h];simp[List.map_set]
def Hj.of_owns{w:World}{base g n:Nat}{zs:List Int}(h:w.ownsRow base 3 1 (.slice (some ⟨g,0,none⟩) n n) n (zs.map (Value.int .i64))):Hj w g zs:=by
 rcases h.2 with⟨h',_⟩|⟨g',CW,cur,h',_,hg,_,_,hs,ht⟩
 .simp at h'
 .simp only[Value.slice.injEq,Option.some.injEq,Addr.mk.injEq,and_true,true_and]at h';obtain⟨rfl,rfl⟩:=h';unfold Hj;rw[hg,<-ht,AO (by simp;omega)]
def Hj.other{w:World}{g:Nat}{zs:List Int}(h:Hj w g zs){p:Addr}(hp:g≠p.block)(v:Value):Hj (w.setCell p v) g zs:=(BZ w p g v hp).trans h
def Hj.drew{w:World}{g:Nat}{zs:List Int}(h:Hj w g zs):Hj w.drew g zs:=h
def AB{p:Prop}(h:p):Hid p:=h
def AA{p:Prop}(h:Hid p):p:=h
def AN{a b:Bool}(h:a=b):Ending.returned (.bool a)=.returned (.bool b):=by rw[h]
def Dt:(prog.info? 3).map (fun i=>(i.zero,i.size,i.bytes))=some (some (.int .i64 0),1,8):=by kernel_rfl
def Df.alloc{w:World}{a:Option Addr}{n:Nat}{zs:List Int}(h:Df w a n zs)(o:Obj):Df (w.alloc o) a n zs:=h.below AC (AI.alloc AC _)
def Df.drewN{w:World}{a:Option Addr}{n:Nat}{zs:List Int}(h:Df w a n zs)(q:Nat):Df (w.drewN q) a n zs:=⟨h.len,h.small,h.at_⟩
def Below.drewN{B:Nat}{a w:World}(h:Below B a w)(q:Nat):Below B a (w.drewN q):=h.trans ⟨rfl,rfl,rfl,AC,fun _ _=>rfl⟩
def Df.get{w:World}{a:Option Addr}{n:Nat}{zs:List Int}(h:Df w a n zs){k:Nat}(hk:k<n):∃b off,a=some ⟨b,off,none⟩/\b<w.heap.size/\w.cell? ⟨b,off+k,none⟩=some (.int .i64 (zs.getD k 0)):=by
 rcases h.at_ with h0|⟨b,off,rfl,hlt,hc⟩
 .omega
 .exact⟨b,off,rfl,hlt,hc k hk⟩
def E0(v:Int):Bool:=decide (0<=v/\v<=1114111/\(v<55296\/57343<v))
def Gi(u:Nat):List Int:=if _h:u<10 then[48+(u:Int)]else Gi (u / 10)++ [48+((u % 10:Nat):Int)]
def E9{u:Nat}(h:u<10):Gi u= [48+(u:Int)]:=by rw[Gi,dif_pos h]
def IW{u:Nat}(h:¬ u<10):Gi u=Gi (u / 10)++ [48+((u % 10:Nat):Int)]:=by rw[Gi,dif_neg h]
def RG(u:Nat):1<=(Gi u).length:=by
 by_cases h:u<10
 .rw[E9 h];simp
 .rw[IW h];simp
def LF:∀(k u:Nat),u<10 ^ (k+1)->(Gi u).length<=k+1
 |0,u,h=>by rw[E9 (by simpa using h)];simp
 |k+1,u,h=>by
  by_cases hs:u<10
  .rw[E9 hs];simp
  .rw[IW hs];have:=LF k (u / 10) (by rw[Gy]at h;omega);simp;omega
def VX(u:Nat):∀x∈Gi u,48<=x/\x<=57:=by
 induction u using Nat.strongRecOn with
 |_ u ih=>
  intro x hx;by_cases h:u<10
  .rw[E9 h]at hx;simp at hx;omega
  .rw[IW h]at hx;rcases Ak.1 hx with hx|hx
   .exact ih (u / 10) (by omega) x hx
   .simp at hx;omega
def BW(r:Int):List Int:=if r<128 then[r]else if r<2048 then[192+r / 64,128+r % 64]else if r<65536 then[224+r / 4096,128+r / 64 % 64,128+r % 64]else[240+r / 262144,128+r / 4096 % 64,128+r / 64 % 64,128+r % 64]
def Fg(n:Int):List Int:=(if n<0 then[194,175]else[])++Gi n.natAbs
def EW{w w':World}{base e size n B:Nat}{v:Value}{xs:List Value}(h:w.ownsRow base e size v n xs)(hB:w.heap.size<=B)(hb:Below B w w'):w'.ownsRow base e size v n xs:=by
 obtain⟨h1,h2⟩:=h;refine⟨h1,?_⟩;rcases h2 with h2|⟨g,cap,cur,hv,hg,hh,r⟩
 .exact Or.inl h2
 .exact Or.inr ⟨g,cap,cur,hv,hg,(hb.block g (AX (lt_of_block hh) hB)).trans hh,r⟩
def Lj:(prog.info? 5).map (fun i=>(i.zero,i.size,i.bytes))=some (some (.int .u8 0),1,1):=by kernel_rfl
structure De(w:World)(a:Option Addr)(n:Nat)(zs:List Int):Prop where
 len:zs.length=n
 at_:n=0\/∃b off,a=some ⟨b,off,none⟩/\b<w.heap.size/\∀i,i<n->w.cell? ⟨b,off+i,none⟩=some (.int .u8 (zs.getD i 0))
def De.below{w w':World}{a:Option Addr}{n B:Nat}{zs:List Int}(h:De w a n zs)(hB:w.heap.size<=B)(hb:Below B w w'):De w' a n zs:=by
 refine⟨h.len,?_⟩;rcases h.at_ with h0|⟨b,off,rfl,hlt,hc⟩
 .exact .inl h0
 .exact .inr ⟨b,off,rfl,by have:=hb.size;omega,fun i hi=>(hb.cell (p:=⟨b,off+i,none⟩) (by show b<B;omega)).trans (hc i hi)⟩
def De.news{w:World}{b off n:Nat}{zs:List Int}(h:De w (some ⟨b,off,none⟩) n zs):∀(j:Nat)u,(zs.map (Value.int .u8))[j]? =some u->w.cell? ((⟨b,off,none⟩:Addr).add j)=some u:=by
 intro j u hj;have hl:=h.len;have hj':j<n:=by
  rcases Nat.lt_or_ge j n with h'|h'
  .exact h'
  .rw[CU (by simp;omega)]at hj;cases hj
 rcases h.at_ with h0|⟨b',Hr,e,_,hc⟩
 .omega
 .cases e;have hadd:(⟨b,off,none⟩:Addr).add j=⟨b,off+j,none⟩:=by by_cases h:j=0<;>simp[Addr.add,h]
  rw[hadd,hc j hj'];simpa[hl,hj']using hj
def De.new(w:World)(zs:List Int):De (w.alloc (.cells (zs.map (Value.int .u8)).toArray 5)) (some ⟨w.heap.size,0,none⟩) zs.length zs:=by
 refine⟨rfl,.inr ⟨w.heap.size,0,rfl,by simp,fun i hi=> ?_⟩⟩;have hh:(w.alloc (.cells (zs.map (Value.int .u8)).toArray 5)).heap[w.heap.size]? =some (.cells (zs.map (Value.int .u8)).toArray 5 (0,0)):=by show(w.heap.push _)[w.heap.size]? =_;simp
 obtain⟨W,hW⟩:∃W,w.alloc (.cells (zs.map (Value.int .u8)).toArray 5)=W:=⟨_,rfl⟩
 rw[hW]at hh ⊢;simp[World.cell?,hh,hi]
def G0(zs:List Int):∀u∈zs.map (Value.int .u8),u.oneCell'=true:=by intro u hu;obtain⟨x,_,rfl⟩:=DT.mp hu;rfl
structure Dv(Q w:World)(g cap j:Nat)(zs:List Int):Prop where
 own:w.ownsRow Q.heap.size 5 1 (.slice (some ⟨g,0,none⟩) j cap) j (zs.map (Value.int .u8))
 low:Below Q.heap.size Q w
def Dv.start(Q:World):Dv Q (Q.alloc (.cells #[] 5)) Q.heap.size 0 0 []:=by refine⟨⟨by simp,.inr ⟨Q.heap.size,0,#[],rfl,AC,?_,by simp,by unfold maxLen;omega,by simp,by simp⟩⟩,AI.alloc AC _⟩;show(Q.heap.push _)[Q.heap.size]? =_;simp
def Dv.len{Q w:World}{g cap j:Nat}{zs:List Int}(h:Dv Q w g cap j zs):zs.length=j:=by simpa using h.own.1
def Dv.ge{Q w:World}{g cap j:Nat}{zs:List Int}(h:Dv Q w g cap j zs):Q.heap.size<=g:=by
 rcases h.own.2 with⟨h',_⟩|⟨g',CW,cur,h',hb,_⟩
 .simp at h'
 .cases h';exact hb
def Dv.row{Q w:World}{g cap j:Nat}{zs:List Int}(h:Dv Q w g cap j zs):De w (some ⟨g,0,none⟩) j zs:=by
 refine⟨h.len,?_⟩;rcases h.own.2 with⟨h',_⟩|⟨g',CW,cur,h',_,hg,_,_,hcs,ht⟩
 .simp at h'
 .cases h';refine .inr ⟨g,0,rfl,lt_of_block hg,fun i hi=> ?_⟩;have hl:=h.len;have e:cur.toList[i]? =some (.int .u8 (zs.getD i 0)):=by
   have:(cur.toList.take (j*1))[i]? =(zs.map (Value.int .u8))[i]? :=by rw[ht]
   rw[BN,AL (by omega)]at this;rw[this];simp[hl,hi]
  simpa[World.cell?,hg]using e
def Dv.below{Q w w':World}{g cap j:Nat}{zs:List Int}(h:Dv Q w g cap j zs)(hb:Below w.heap.size w w'):Dv Q w' g cap j zs:=⟨EW h.own AC hb,h.low.trans (hb.mono h.low.size)⟩
def Dv.push{Q w w1:World}{g cap j m g' CW:Nat}{zs xs:List Int}(h:Dv Q w g cap j zs)(ET:w1.ownsRow Q.heap.size 5 1 (.slice (some ⟨g',0,none⟩) (j+m) CW) (j+m) (zs.map (Value.int .u8)++xs.map (Value.int .u8)))(hg:w.grownBy w1 (Value.ownBlock (.slice (some ⟨g,0,none⟩) j cap))):Dv Q w1 g' CW (j+m) (zs++xs):=by have hge:=h.ge;refine⟨by rw[Ao];exact ET,⟨hg.os.trans h.low.os,hg.tape.trans h.low.tape,hg.output.trans h.low.output,Aw h.low.size hg.size,fun k hk=>(hg.block k (by have:=h.low.size;omega) (fun e=>by have:=(Ac e:k=g);omega)).trans (h.low.block k hk)⟩⟩
structure TE(w:World)(B:Nat)(a:Option Addr)(n:Nat)(zs:List Int):Prop where
 len:zs.length=n
 small:n<=17592186044416
 at_:n=0\/∃g off,a=some ⟨g,off,none⟩/\B<=g/\g<w.heap.size/\(∀i,i<n->w.cell? ⟨g,off+i,none⟩=some (.int .i64 (zs.getD i 0)))/\(∀i,i<n->w.frozen? ⟨g,off+i,none⟩=false)
def TE.row{w:World}{B:Nat}{a:Option Addr}{n:Nat}{zs:List Int}(h:TE w B a n zs):Df w a n zs:=by
 refine⟨h.len,h.small,?_⟩;rcases h.at_ with h0|⟨g,off,rfl,_,hlt,hc,_⟩
 .exact .inl h0
 .exact .inr ⟨g,off,rfl,hlt,hc⟩
def At(a:Option Addr)(n k:Nat):Prop:=n≠0/\∃p,a=some p/\p.block=k
def T3{g off n:Nat}(h:n≠0):At (some ⟨g,off,none⟩) n g:=⟨h,_,rfl,rfl⟩
def ap{g off n k:Nat}(h:At (some ⟨g,off,none⟩) n k):g=k:=by obtain⟨_,p,hp,hk⟩:=h;cases hp;exact hk
structure EF(S:Nat->Prop)(w w':World):Prop where
 os:w'.os=w.os
 tape:w'.tape=w.tape
 output:w'.output=w.output
 size:w.heap.size<=w'.heap.size
 block:∀k,k<w.heap.size->¬ S k->w'.heap[k]? =w.heap[k]?
def EF.refl(S:Nat->Prop)(w:World):EF S w w:=⟨rfl,rfl,rfl,AC,fun _ _ _=>rfl⟩
def EF.trans{S T:Nat->Prop}{w w1 w2:World}(h:EF S w w1)(k:EF T w1 w2):EF (fun x=>S x\/T x) w w2:=⟨k.os.trans h.os,k.tape.trans h.tape,k.output.trans h.output,Aw h.size k.size,fun i hi hn=>(k.block i (AX hi h.size) (fun e=>hn (.inr e))).trans (h.block i hi (fun e=>hn (.inl e)))⟩
def EF.mono{S T:Nat->Prop}{w w1:World}(h:EF S w w1)(hs:∀k,S k->T k):EF T w w1:=⟨h.os,h.tape,h.output,h.size,fun k hk hn=>h.block k hk (fun e=>hn (hs k e))⟩
def EF.of_below{S:Nat->Prop}{w w':World}(h:Below w.heap.size w w'):EF S w w':=⟨h.os,h.tape,h.output,h.size,fun k hk _=>h.block k hk⟩
def EF.setCell{S:Nat->Prop}{w w':World}(h:EF S w w'){p:Addr}(hp:S p.block)(v:Value):EF S w (w'.setCell p v):=⟨h.os,h.tape,h.output,by simpa using h.size,fun k hk hn=>by rw[BZ w' p k v (fun e=>hn (by rw[e];exact hp))];exact h.block k hk hn⟩
def EF.below{S:Nat->Prop}{B:Nat}{w w':World}(h:EF S w w')(hB:B<=w.heap.size)(hs:∀k,S k->B<=k):Below B w w':=⟨h.os,h.tape,h.output,h.size,fun k hk=>h.block k (AX hk hB) (fun e=>by have:=hs k e;omega)⟩
def EF.own{S:Nat->Prop}{b:Option Addr}{m B:Nat}{w w':World}{ys:List Int}(h:EF S w w')(ho:TE w B b m ys)(hap:∀k,S k->¬ At b m k):TE w' B b m ys:=by
 refine⟨ho.len,ho.small,?_⟩;rcases ho.at_ with h0|⟨g,off,rfl,hg,hlt,hc,hf⟩
 .exact .inl h0
 .by_cases hm:m=0
  .exact .inl hm
  have hb:=h.block g hlt (fun e=>hap g e ⟨hm,_,rfl,rfl⟩);exact .inr ⟨g,off,rfl,hg,AX hlt h.size,fun i hi=>(World.cell?_of_block (w:=w) (a:=⟨g,off+i,none⟩) hb).trans (hc i hi),fun i hi=>(World.frozen?_of_block (w:=w) (a:=⟨g,off+i,none⟩) hb).trans (hf i hi)⟩
def EF.row{S:Nat->Prop}{b:Option Addr}{m:Nat}{w w':World}{ys:List Int}(h:EF S w w')(ho:Df w b m ys)(hap:∀k,S k->¬ At b m k):Df w' b m ys:=by
 refine⟨ho.len,ho.small,?_⟩;rcases ho.at_ with h0|⟨g,off,rfl,hlt,hc⟩
 .exact .inl h0
 .by_cases hm:m=0
  .exact .inl hm
  have hb:=h.block g hlt (fun e=>hap g e ⟨hm,_,rfl,rfl⟩);exact .inr ⟨g,off,rfl,AX hlt h.size,fun i hi=>(World.cell?_of_block (w:=w) (a:=⟨g,off+i,none⟩) hb).trans (hc i hi)⟩
def Df.hi{w:World}{a:Option Addr}{n:Nat}{zs:List Int}(h:Df w a n zs){k:Nat}(hk:At a n k):k<w.heap.size:=by
 rcases h.at_ with h0|⟨g,off,rfl,hg,_⟩
 .exact absurd h0 hk.1
 .have:=ap hk;omega
def GN(k:Int)(n:Nat):List Int:=(List.range n).map fun(i:Nat)=>k+(i:Int)
def GW(k:Int)(n:Nat):(GN k n).length=n:=by simp[GN]
def Oa(k:Int)(n i:Nat)(h:i<n):(GN k n).getD i 0=k+i:=by simp[GN,h]
def bt(s:AE)(i:Nat):Nat:=(s.get! i).toNat
def GR(s:AE)(i:Nat):bt s i<256:=(s.get! i).toNat_lt
def Nh{s:AE}{i:Nat}(h:i<s.size):bt s i=(s[i]'h).toNat:=by unfold bt;rw[ByteArray.get!,getElem!_pos s.data i h,D1]
def Es(b:Nat):Bool:=decide (48<=b/\b<=57)
def El(b:Nat):Bool:=decide (97<=b/\b<=122)||decide (65<=b/\b<=90)
def Bn(b:Nat):Bool:=El b||Es b
def Am(s:AE)(i:Nat):Nat×Nat:=if Utf8.decode s i=(65533,1)then(0,0)else Utf8.decode s i
def JG(p:Nat->Bool)(s:AE):Nat->Nat->Nat
 |0,i=>i
 |f+1,i=>if i<s.size/\p (bt s i)=true then JG p s f (i+1)else i
def Bb(p:Nat->Bool)(s:AE)(i:Nat):Nat:=JG p s (s.size- i) i
def GB{p:Nat->Bool}{s:AE}{i:Nat}(h:i<s.size)(hp:p (bt s i)=true):Bb p s i=Bb p s (i+1):=by unfold Bb;rw[show s.size- i=(s.size- (i+1))+1 by omega,JG,AL ⟨h,hp⟩]
def E8{p:Nat->Bool}{s:AE}{i:Nat}(h:¬(i<s.size/\p (bt s i)=true)):Bb p s i=i:=by
 unfold Bb;cases s.size- i with
 |zero=>rfl
 |succ f=>rw[JG,AG h]
def QN(p:Nat->Bool)(s:AE):∀f i,i<=JG p s f i
 |0,i=>AC
 |f+1,i=>by
  rw[JG];split
  .exact Aw (Cg i) (QN p s f (i+1))
  .exact AC
def IV(p:Nat->Bool)(s:AE)(i:Nat):i<=Bb p s i:=QN p s _ i
def QL(p:Nat->Bool)(s:AE):∀f i,i<=s.size->JG p s f i<=s.size
 |0,i,h=>h
 |f+1,i,h=>by
  rw[JG];split
  .rename_i h'
   exact QL p s f (i+1) (by omega)
  .exact h
def He(p:Nat->Bool)(s:AE)(i:Nat)(h:i<=s.size):Bb p s i<=s.size:=QL p s _ i h
def QM(p:Nat->Bool)(s:AE):∀f i k,i<=k->k<JG p s f i->k<s.size/\p (bt s k)=true
 |0,i,k,h1,h2=>by rw[JG]at h2;omega
 |f+1,i,k,h1,h2=>by
  rw[JG]at h2;split at h2
  .rename_i h'
   by_cases e:k=i
   .subst e;exact h'
   .exact QM p s f (i+1) k (by omega) h2
  .omega
def LE{p:Nat->Bool}{s:AE}{i k:Nat}(h1:i<=k)(h2:k<Bb p s i):k<s.size/\p (bt s k)=true:=QM p s _ i k h1 h2
def CM(s:AE)(i:Nat):Bool:=decide (i+2<=s.size/\bt s i=194/\bt s (i+1)=175)
def DX(s:AE)(i:Nat):Bool:=decide (i+3<=s.size/\bt s i=226/\bt s (i+1)=141/\bt s (i+2)=157)
def Eo(s:AE)(i:Nat):Bool:=decide (i+2<=s.size/\bt s i=39/\bt s (i+1)=39)
def GE(s:AE)(f:Nat):Nat->Nat
 |0=>0
 |k+1=>GE s f k*10+(bt s (f+k)- 48)
def JT(s:AE)(f:Nat):Nat->Nat
 |0=>0
 |k+1=>if JT s f k<=1000000000000000 then JT s f k*10+(bt s (f+k)- 48)else JT s f k
def LH(s:AE)(f:Nat):∀k,(JT s f k<=1000000000000000->JT s f k=GE s f k)/\(1000000000000000<JT s f k->1000000000000000<GE s f k)
 |0=>⟨fun _=>rfl,fun h=>by simp[JT]at h⟩
 |k+1=>by
  have ih:=LH s f k;rw[JT,GE];split
  .rename_i h
   rw[ih.1 h];exact⟨fun _=>rfl,fun h=>h⟩
  .rename_i h
   exact⟨fun h'=>absurd h' h,fun _=>by have:=ih.2 (by omega);omega⟩
def Tw(s:AE)(f:Nat)(h:∀j,bt s (f+j)- 48<=207):∀k,JT s f k<=10000000000000207
 |0=>by simp[JT]
 |k+1=>by
  have ih:=Tw s f h k;rw[JT];split
  .have:=h k;omega
  .exact ih
structure Vp where
 k:Int
 n:Int
 t:AE
 e:Nat
 c:Int
def Di(c:Int):Vp:=⟨0,0,⟨#[]⟩,0,c⟩
def ED(s:AE)(i:Nat):Vp:=
 let f:=if CM s i=true then i+2 else i
 let e:=Bb Es s f
 if e=f\/(e<s.size/\El (bt s e)=true)\/CM s e=true then Di 1
 else if 1000000000000000<GE s f (e- f)then Di 7
 else⟨1,if CM s i=true then-(GE s f (e- f):Int)else(GE s f (e- f):Int),⟨#[]⟩,e,0⟩
def BF(s:AE):Nat->Nat->List UInt8->Vp
 |0,_,_=>Di 1
 |f+1,e,out=>
  if e<s.size then
   if bt s e=39 then
    if Eo s e=true then BF s f (e+2) (out++ [39])else⟨2,0,⟨out.toArray⟩,e+1,0⟩
   else if(Am s e).2=0\/bt s e=10 then Di 1
   else BF s f (e+(Am s e).2) (out++(s.extract e (e+(Am s e).2)).data.toList)
  else Di 1
def Fm(s:AE)(i:Nat):Vp:=if 20<Bb Bn s i- i then Di 1 else⟨3,0,s.extract i (Bb Bn s i),Bb Bn s i,0⟩
def Ar:List Nat:= [43,45,215,247,8970,8968,124,42,61,8800,60,8804,8805,62,8743,8744,126,9076,9075,44,9021,8854,9033,8593,8595,9035,9042,8714,47,9023,92,9024,46,8728,8869,8868,8802,8592,91,93,59,40,41,123,125,9082,9077,8711,58,8900,9068]
def Ea(s:AE)(i:Nat):Vp:=if 0<(Am s i).2/\(Am s i).1∈Ar then⟨4,0,s.extract i (i+(Am s i).2),i+(Am s i).2,0⟩else Di 1
def BO(s:AE)(i:Nat):Vp:=if Es (bt s i)=true\/CM s i=true then ED s i else if bt s i=39 then BF s (s.size- i) (i+1) []else if El (bt s i)=true then Fm s i else Ea s i
structure CO where
 k:Int
 n:Int
 t:AE
 p:Nat
def FH(s:AE):Nat->Nat->List CO->(List CO×Int×Nat)
 |0,_,acc=>(acc,0,0)
 |f+1,i,acc=>
  if i<s.size/\DX s i=false then
   if bt s i=32\/bt s i=9 then FH s f (i+1) acc
   else if(BO s i).c≠0 then([],(BO s i).c,i)
   else FH s f (BO s i).e (acc++ [⟨(BO s i).k,(BO s i).n,(BO s i).t,i⟩])
  else(acc,0,0)
def Br(s:AE):List CO×Int×Nat:=if 2000<s.size then([],7,0)else FH s (s.size+1) 0 []
structure AM where
 k:Int
 n:Int
 m:Int
 s:AE
 nums:List Int
 kids:List Int
def XC:AM:=⟨0,0,0,⟨#[]⟩,[],[]⟩
def Af(ns:List AM)(i:Nat):AM:=ns.getD i XC
def Ca(k:Int):Int:=if(1<=k/\k<=7)\/k=9\/k=10 then 1 else if k=8 then 2 else if 11<=k/\k<=18 then 3 else if 19<=k/\k<=23 then 4 else if k=24 then 5 else if k=25 then 6 else 0
def FQ(k:Int):Bool:=decide (Ca k=1)
def N4(k:Int):Bool:=decide (Ca k=1\/Ca k=2)
def Pd(k:Int):Bool:=decide (Ca k=3)
def Yq(k:Int):Bool:=decide (k=16)
def Sc(k:Int):Bool:=decide (Ca k=1\/Ca k=4)
def Vn(k:Int):Bool:=decide (Ca k=1\/Ca k=4\/Ca k=5)
def I2(c:Nat):Int->Bool:=if c=101 then FQ else if c=112 then N4 else if c=102 then Pd else if c=98 then Yq else if c=115 then Sc else Vn
def BA(ns:List AM)(zs:List Int):List Int:=zs.map fun z=>(Af ns z.toNat).k
def JB(k:Int):List Nat:=if k=9 then[102,101]else if k=10 then[101,102,101]else if k=19\/k=22 then[101]else if k=20 then[98]else if k=23\/k=24 then[101,101]else[]
def B3:List Nat->List Int->Bool
 | [],[]=>true
 |c::cs,x::xs=>I2 c x&&B3 cs xs
 |_,_=>false
def Bu(k:Int)(ks:List Int):Bool:=if k=7 then decide (2<=ks.length)&&(FQ (ks.getD 0 0)&&(ks.drop 1).all N4)else if k=21 then decide (2<=ks.length)&&((ks.take (ks.length- 1)).all N4&&FQ (ks.getD (ks.length- 1) 0))else if k=16 then ks.all Vn else if k=25 then ks.all Sc else B3 (JB k) ks
def Dp(k:Int)(ks:List Int)(sel:Bool):Bool:=if k=7 then decide (2<=ks.length)&&((ks.take 1).all FQ&&(ks.drop 1).all N4)else if k=9 then decide (ks.length=2)&&((ks.take 1).all Pd&&(ks.drop 1).all FQ)else if k=10 then decide (ks.length=3)&&((ks.take 1).all FQ&&(((ks.take 2).drop 1).all Pd&&(ks.drop 2).all FQ))else if k=16 then ks.all Vn else if k=19\/k=22 then decide (ks.length=1)&&ks.all FQ else if k=20 then decide (ks.length=1)&&ks.all Yq else if k=21 then decide (2<=ks.length)&&((ks.take (ks.length- 1)).all N4&&(ks.drop (ks.length- 1)).all FQ)else if k=23 then decide (ks.length=2)&&(sel&&(ks.drop 1).all FQ)else if k=24 then decide (ks.length=2)&&ks.all FQ else if k=25 then ks.all Sc else decide (ks.length=0)
def dc(ks:List Int):B3 [] ks=decide (ks.length=0):=by cases ks<;>simp[B3]
def ag(c:Nat)(ks:List Int):B3 [c] ks=(decide (ks.length=1)&&ks.all (I2 c)):=by
 match ks with
 | []=>rfl
 | [a]=>simp[B3]
 |a::b::r=>simp[B3]
def Qn(c d:Nat)(ks:List Int):B3 [c,d] ks=(decide (ks.length=2)&&((ks.take 1).all (I2 c)&&(ks.drop 1).all (I2 d))):=by
 match ks with
 | []=>rfl
 | [a]=>simp[B3]
 | [a,b]=>simp[B3]
 |a::b::e::r=>simp[B3]
def af(c d e:Nat)(ks:List Int):B3 [c,d,e] ks=(decide (ks.length=3)&&((ks.take 1).all (I2 c)&&(((ks.take 2).drop 1).all (I2 d)&&(ks.drop 2).all (I2 e)))):=by
 match ks with
 | []=>rfl
 | [a]=>simp[B3]
 | [a,b]=>simp[B3]
 | [a,b,x]=>simp[B3]
 |a::b::x::y::r=>simp[B3]
def Qq:I2 101=FQ:=rfl
def aj:I2 102=Pd:=rfl
def dh:I2 98=Yq:=rfl
def J3(ks:List Int)(p:Int->Bool)(h:2<=ks.length):(ks.drop (ks.length- 1)).all p=p (ks.getD (ks.length- 1) 0):=by
 have e:ks.drop (ks.length- 1)= [ks[ks.length- 1]]:=by rw[CL (by omega),show ks.length- 1+1=ks.length by omega,List.drop_length]
 rw[e];simp[List.getD_eq_getElem?_getD,show ks.length- 1<ks.length by omega]
def Zd{k:Int}{ks:List Int}{sel:Bool}(hs:sel=true->ks.length=2->FQ (ks.getD 0 0)=true):Dp k ks sel=(Bu k ks&&(decide (k≠23)||sel)):=by
 unfold Dp Bu;by_cases h7:k=7
 .subst h7;simp only[FK]
  match ks with
  | []=>rfl
  |a::r=>simp
 rw[AG h7,AG h7];by_cases h9:k=9
 .subst h9;simp only[FK,show ¬(9:Int)=21 by decide,show ¬(9:Int)=16 by decide,show ¬(9:Int)=25 by decide,Ia,JB,Qn,aj,Qq];simp
 rw[AG h9];by_cases h10:k=10
 .subst h10;simp only[FK,show ¬(10:Int)=21 by decide,show ¬(10:Int)=16 by decide,show ¬(10:Int)=25 by decide,show ¬(10:Int)=9 by decide,Ia,JB,af,aj,Qq];simp
 rw[AG h10];by_cases h16:k=16
 .subst h16;simp
 rw[AG h16,AG h16];by_cases h19:k=19\/k=22
 .have h21:¬ k=21:=by omega
  have h25:¬ k=25:=by omega
  have h23:k≠23:=by omega
  rw[AL h19,AG h21,AG h25,JB,AG h9,AG h10,AL h19,ag,Qq,AK h23];simp
 rw[AG h19];by_cases h20:k=20
 .subst h20;simp only[FK,show ¬(20:Int)=21 by decide,show ¬(20:Int)=25 by decide,show ¬(20:Int)=9 by decide,show ¬(20:Int)=10 by decide,Ia,JB,show ¬((20:Int)=19\/(20:Int)=22) by decide,ag,dh];simp
 rw[AG h20];by_cases h21:k=21
 .subst h21;simp only[FK];by_cases hl:2<=ks.length
  .rw[J3 ks FQ hl];simp
  .rw[AD hl];simp
 rw[AG h21,AG h21];by_cases h23:k=23
 .subst h23;simp only[FK,show ¬(23:Int)=25 by decide,Ia,show JB 23= [101,101]from rfl,Qn,Qq]
  match ks,hs with
  | [],_=>simp
  | [a],_=>simp
  | [a,b],hs=>
   have:=fun h=>hs h rfl;cases sel
   .simp
   .have e:=this rfl;simp at e;simp[e]
  |a::b::e::r,_=>simp
 rw[AG h23];by_cases h24:k=24
 .subst h24;simp only[FK,show ¬(24:Int)=25 by decide,Ia,show JB 24= [101,101]from rfl,Qn,Qq]
  match ks with
  | []=>simp
  | [a]=>simp
  | [a,b]=>simp
  |a::b::e::r=>simp
 rw[AG h24];by_cases h25:k=25
 .subst h25;simp
 rw[AG h25,AG h25,JB,AG h9,AG h10,AG h19,AG h20,AG (by omega),dc,AK h23];simp
def C8(s:AE)(hi:Bool):Bool:=decide (1<=s.size/\s.size<=20/\El (bt s 0)=true/\∀i,i<s.size->Bn (bt s i)=true)&&(decide (bt s 0<=90)==hi)
def D8(z:Int):Bool:=decide (-1000000000000000<=z/\z<=1000000000000000)
def Er(k:Int):Int:=if k=11 then 33 else if(12<=k/\k<=15)\/k=22 then 16 else 0
def D2(k:Int):Int:=if k=12\/k=13 then 1 else 0
def BT(T:AE->Bool)(x:AM):Bool:=if x.k=1 then x.nums.all D8&&decide (0<x.nums.length/\x.n=0/\x.m=0/\x.s.size=0)else if 0<x.nums.length then false else if x.k=2 then decide (x.n=0/\x.m=0)&&T x.s else if(x.k=3\/x.k=17\/(19<=x.k/\x.k<=22))/\C8 x.s (decide (x.k=17\/x.k=20))=false then false else if ¬(x.k=3\/x.k=17\/(19<=x.k/\x.k<=22))/\x.s.size≠0 then false else if x.k=15 then decide (1<=x.n/\x.n<=16/\1<=x.m/\x.m<=16)else decide (x.n<=Er x.k/\(1<=x.n\/(Er x.k=0/\x.n=0))/\0<=x.m/\x.m<=D2 x.k)
def IT(n:Int):Bool:=decide (1<=n/\n<=16)
def Vl(x:AM):Bool:=if x.k=22\/(12<=x.k/\x.k<=15)then IT x.n else if x.k=11 then decide (1<=x.n/\x.n<=33)else decide (x.n=0)
def Vm(x:AM):Bool:=if x.k=12\/x.k=13 then decide (0<=x.m/\x.m<=1)else if x.k=15 then IT x.m else decide (x.m=0)
def Vk(T:AE->Bool)(x:AM):Bool:=if x.k=2 then T x.s else if x.k=3\/x.k=19\/x.k=21\/x.k=22 then C8 x.s false else if x.k=17\/x.k=20 then C8 x.s true else decide (x.s.size=0)
def Gq(x:AM):Bool:=if x.k=1 then x.nums.all D8&&decide (0<x.nums.length)else decide (x.nums.length=0)
def Bq(T:AE->Bool)(x:AM):Bool:=Vl x&&(Vm x&&(Vk T x&&Gq x))
def VO(T:AE->Bool)(x:AM):Bq T x=BT T x:=by
 obtain⟨k,n,m,s,nums,kids⟩:=x;unfold Bq BT Vl Vm Vk Gq;dsimp only;by_cases h1:k=1
 .subst h1;simp;cases nums.all D8<;>cases h:decide (0<nums.length)<;>simp_all<;>grind
 by_cases h2:k=2
 .subst h2;cases T s<;>simp<;>by_cases hn:nums.length=0<;>simp_all<;>grind
 rw[AG h1,AG h1,AG h2,AG h2];by_cases hn:nums.length=0;case neg=>rw[AL (show 0<nums.length by omega),AD hn];simp
 rw[AG (show ¬ 0<nums.length by omega),AK hn,Bool.and_true];by_cases hm:k=3\/k=17\/(19<=k/\k<=22)
 .have e:(if k=3\/k=19\/k=21\/k=22 then C8 s false else if k=17\/k=20 then C8 s true else decide (s.size=0))=C8 s (decide (k=17\/k=20)):=by
   by_cases hc:k=17\/k=20
   .rw[AG (by omega),AL hc,AK hc]
   .rw[AL (by omega),AD hc]
  rw[e];generalize C8 s (decide (k=17\/k=20))=b;cases b
  .rw[AL (show(k=3\/k=17\/(19<=k/\k<=22))/\false=false from⟨hm,rfl⟩)];simp
  .rw[AG (show ¬((k=3\/k=17\/(19<=k/\k<=22))/\true=false)from fun h=>absurd h.2 (by decide)),AG (show ¬(¬(k=3\/k=17\/(19<=k/\k<=22))/\s.size≠0)from fun h=>h.1 hm),AG (show ¬ k=15 by omega),AG (show ¬ k=15 by omega),AG (show ¬(k=12\/k=13) by omega)];unfold Er D2 IT;rw[AG (show ¬ k=11 by omega),AG (show ¬ k=11 by omega),AG (show ¬(k=12\/k=13) by omega)];by_cases h22:k=22
   .rw[AL (show k=22\/(12<=k/\k<=15)from .inl h22),AL (show(12<=k/\k<=15)\/k=22 from .inr h22)];rw[Cj];simp;omega
   .rw[AG (show ¬(k=22\/(12<=k/\k<=15)) by omega),AG (show ¬((12<=k/\k<=15)\/k=22) by omega)];rw[Cj];simp;omega
 .rw[AG (show ¬((k=3\/k=17\/(19<=k/\k<=22))/\C8 s (decide (k=17\/k=20))=false)from fun h=>hm h.1),AG (show ¬(k=3\/k=19\/k=21\/k=22) by omega),AG (show ¬(k=17\/k=20) by omega)];by_cases hs:s.size=0;case neg=>rw[AL (show ¬(k=3\/k=17\/(19<=k/\k<=22))/\s.size≠0 from⟨hm,hs⟩),AD hs];simp
  rw[AG (show ¬(¬(k=3\/k=17\/(19<=k/\k<=22))/\s.size≠0)from fun h=>h.2 hs),AK hs,Bool.and_true];unfold Er D2 IT;by_cases h15:k=15
  .subst h15;rw[Cj];simp;omega
  rw[AG h15,AG h15];by_cases h11:k=11
  .subst h11;rw[Cj];simp;omega
  rw[AG h11,AG h11];by_cases h12:k=12\/k=13
  .rw[AL h12,AL h12,AL (show k=22\/(12<=k/\k<=15) by omega),AL (show(12<=k/\k<=15)\/k=22 by omega)];rw[Cj];simp;omega
  rw[AG h12,AG h12];by_cases h14:k=14
  .subst h14;rw[Cj];simp;omega
  rw[AG (show ¬(k=22\/(12<=k/\k<=15)) by omega),AG (show ¬((12<=k/\k<=15)\/k=22) by omega)];rw[Cj];simp;omega
def ME(st:List (Nat×Nat))(kids:List Int):Nat->Nat->Nat->Option (Nat×Nat)
 |0,a,hi=>some (a,hi)
 |k+1,a,hi=>if 1<=a/\kids.getD k 0=(a:Int)- 1 then ME st kids k (st.getD (a- 1) (0,0)).1 (max hi ((st.getD (a- 1) (0,0)).2+1))else none
def EG(ns:List AM):Nat->Option (List (Nat×Nat))
 |0=>some []
 |i+1=>match EG ns i with
  |none=>none
  |some st=>match ME st (Af ns i).kids (Af ns i).kids.length i 0 with
   |none=>none
   |some p=>some (st++ [p])
def Ko{ns:List AM}{i:Nat}{st:List (Nat×Nat)}(h:EG ns i=some st):EG ns (i+1)=(ME st (Af ns i).kids (Af ns i).kids.length i 0).map (fun p=>st++ [p]):=by rw[EG,h];dsimp only;cases ME st (Af ns i).kids (Af ns i).kids.length i 0<;>rfl
def M3{ns:List AM}{i:Nat}(h:EG ns i=none):∀d,EG ns (i+d)=none
 |0=>h
 |d+1=>by rw[<-Ci,EG,M3 h d]
def Gw{ns:List AM}:∀ {i:Nat}{st:List (Nat×Nat)},EG ns i=some st->st.length=i
 |0,st,h=>by rw[EG]at h;cases h;rfl
 |i+1,st,h=>by
  cases h1:EG ns i with
  |none=>rw[EG,h1]at h;cases h
  |some st1=>
   rw[Ko h1]at h;obtain⟨p,_,e⟩:=Option.map_eq_some_iff.1 h;rw[<-e,AH,Gw h1];rfl
def Kp{ns:List AM}{i:Nat}{st:List (Nat×Nat)}(h:EG ns (i+1)=some st):EG ns i=some (st.take i)/\ME (st.take i) (Af ns i).kids (Af ns i).kids.length i 0=some (st.getD i (0,0)):=by
 cases h1:EG ns i with
 |none=>rw[EG,h1]at h;cases h
 |some st1=>
  rw[Ko h1]at h;obtain⟨p,hp,e⟩:=Option.map_eq_some_iff.1 h;have hl:=Gw h1;subst e;have e1:(st1++ [p]).take i=st1:=by rw[<-hl];simp
  have e2:(st1++ [p]).getD i (0,0)=p:=by rw[<-hl];simp
  rw[e1,e2];exact⟨rfl,hp⟩
def M2{ns:List AM}{i:Nat}:∀(d:Nat){st:List (Nat×Nat)},EG ns (i+d)=some st->EG ns i=some (st.take i)
 |0,st,h=>by have:=Gw h;rw[AO (by omega)];exact h
 |d+1,st,h=>by have:=M2 d (Kp (i:=i+d) h).1;rw[List.take_take,Nat.min_eq_left (by omega)]at this;exact this
def Wu{ns:List AM}{n i:Nat}{st:List (Nat×Nat)}(h:EG ns n=some st)(hi:i<n):ME (st.take i) (Af ns i).kids (Af ns i).kids.length i 0=some (st.getD i (0,0)):=by have h1:EG ns (i+1)=some (st.take (i+1)):=M2 (n- (i+1)) (by rw[show i+1+(n- (i+1))=n by omega];exact h);have h2:=(Kp h1).2;rw[List.take_take,Nat.min_eq_left (by omega)]at h2;rw[h2];simp[List.getD_eq_getElem?_getD]
def ML{st:List (Nat×Nat)}{kids:List Int}(hst:∀j,j<st.length->(st.getD j (0,0)).1<=j):∀(k a hi:Nat)(r:Nat×Nat),a<=st.length->ME st kids k a hi=some r->r.1<=a/\hi<=r.2/\(∀q,q<k->0<=kids.getD q 0/\kids.getD q 0<a)/\∀j,r.1<=j->j<a->∃q z,q<k/\kids.getD q 0=((z:Nat):Int)/\(st.getD z (0,0)).1<=j/\j<=z/\z<a/\(st.getD z (0,0)).2+1<=r.2
 |0,a,hi,r,ha,h=>by
  rw[ME]at h;cases h;exact⟨AC,AC,fun q hq=>by omega,fun j h1 h2=>by have:a<=j:=h1;omega⟩
 |k+1,a,hi,r,ha,h=>by
  rw[ME]at h;by_cases hc:1<=a/\kids.getD k 0=(a:Int)- 1
  .rw[AL hc]at h;have hle:=hst (a- 1) (by omega);obtain⟨i1,i2,i3,i4⟩:=ML hst k _ _ r (by omega) h;refine⟨by omega,by omega,fun q hq=> ?_,fun j h1 h2=> ?_⟩
   .by_cases e:q=k
    .subst e;rw[hc.2];omega
    .have:=i3 q (by omega);omega
   .by_cases hj:j<(st.getD (a- 1) (0,0)).1
    .obtain⟨q,z,a1,a2,a3,a4,a5,a6⟩:=i4 j h1 hj;exact⟨q,z,by omega,a2,a3,a4,by omega,a6⟩
    .exact⟨k,a- 1,by omega,by rw[hc.2];omega,by omega,by omega,by omega,by omega⟩
  .rw[AG hc]at h;cases h
def Lb{ns:List AM}:∀(n:Nat){st:List (Nat×Nat)},EG ns n=some st->∀j,j<n->(st.getD j (0,0)).1<=j
 |0,st,h,j,hj=>by omega
 |n+1,st,h,j,hj=>by
  have hl:=Gw h;have hp:=Kp h;have ih:=Lb n hp.1;have e:∀j,j<n->(st.take n).getD j (0,0)=st.getD j (0,0):=fun j hj=>by simp[List.getD_eq_getElem?_getD,hj]
  by_cases hjn:j<n
  .rw[<-e j hjn];exact ih j hjn
  .have hjn':j=n:=by omega
   subst hjn';exact(ML (fun i hi=>ih i (by simp at hi;omega)) _ _ _ _ (by simp;omega) hp.2).1
def Kq{ns:List AM}{n i:Nat}{st:List (Nat×Nat)}(h:EG ns n=some st)(hi:i<n):∀q,q<(Af ns i).kids.length->0<=(Af ns i).kids.getD q 0/\(Af ns i).kids.getD q 0<i:=by
 have hl:=Gw h;have hle:=Lb n h;exact(ML (st:=st.take i) (fun j hj=>by
  have:j<i:=by simp at hj;omega
  simp[List.getD_eq_getElem?_getD,this];have:=hle j (by omega);simpa[List.getD_eq_getElem?_getD]using this) _ _ _ _ (by simp;omega) (Wu h hi)).2.2.1
def La{ns:List AM}{n:Nat}{st:List (Nat×Nat)}(h:EG ns n=some st):∀(B i:Nat),i<B->i<n->∀j,(st.getD i (0,0)).1<=j->j<i->(∃p q,p<n/\q<(Af ns p).kids.length/\(Af ns p).kids.getD q 0=((j:Nat):Int))/\(st.getD j (0,0)).2<(st.getD i (0,0)).2
 |0,i,hB,_,j,_,_=>by omega
 |B+1,i,hB,hi,j,h1,h2=>by
  have hl:=Gw h;have hle:=Lb n h;have e:∀j,j<i->(st.take i).getD j (0,0)=st.getD j (0,0):=fun j hj=>by simp[List.getD_eq_getElem?_getD,hj]
  obtain⟨q,z,a1,a2,a3,a4,a5,a6⟩:=(ML (st:=st.take i) (fun j hj=>by
   have hji:j<i:=by simp at hj;omega
   rw[e j hji];exact hle j (by omega)) _ _ _ _ (by simp;omega) (Wu h hi)).2.2.2 j h1 h2
  rw[e z a5]at a3 a6;by_cases hz:j=z
  .subst hz;exact⟨⟨i,q,hi,a1,a2⟩,by omega⟩
  .obtain⟨b1,b2⟩:=La h B z (by omega) (by omega) j a3 (by omega);exact⟨b1,by omega⟩
def D0(x:AM)(lo hi:Int):Bool:=decide (x.k=11/\lo<=x.n/\x.n<=hi)
def CV(x:AM)(q:Nat):Nat:=(x.kids.getD q 0).toNat
def Fy(ns:List AM)(i:Nat):Option Nat:=if(Af ns i).k=7 then some (CV (Af ns i) 0)else if(Af ns i).k=9/\D0 (Af ns (CV (Af ns i) 0)) 20 23=true then some (CV (Af ns i) 1)else if(Af ns i).k=10/\D0 (Af ns (CV (Af ns i) 1)) 21 25=true then some (CV (Af ns i) 2)else none
def IP(ns:List AM):Nat->Nat->Bool
 |0,_=>false
 |f+1,i=>if(Af ns i).k=3 then true else match Fy ns i with
  |none=>false
  |some j=>IP ns f j
def Dh(ns:List AM)(i:Nat):Bool:=decide ((Af ns i).k≠3)&&IP ns (i+1) i
def ZF{ns:List AM}{i:Nat}(h:Dh ns i=true):FQ (Af ns i).k=true:=by
 unfold Dh at h;rw[An,As]at h;obtain⟨h3,h⟩:=h;rw[IP,AG h3]at h;have:(Af ns i).k=7\/(Af ns i).k=9\/(Af ns i).k=10:=by
  unfold Fy at h;by_cases a:(Af ns i).k=7
  .exact .inl a
  rw[AG a]at h;by_cases b:(Af ns i).k=9/\D0 (Af ns (CV (Af ns i) 0)) 20 23=true
  .exact .inr (.inl b.1)
  rw[AG b]at h;by_cases c:(Af ns i).k=10/\D0 (Af ns (CV (Af ns i) 1)) 21 25=true
  .exact .inr (.inr c.1)
  rw[AG c]at h;cases h
 unfold FQ Ca;rw[AL (by omega)];rfl
def Fi(T:AE->Bool)(ns:List AM)(st:List (Nat×Nat))(i:Nat):Bool:=
 decide (Ca (Af ns i).k≠0/\((Af ns i).k=25↔i+1=ns.length))&&(Bu (Af ns i).k (BA ns (Af ns i).kids)&&(BT T (Af ns i)&&(decide ((st.getD i (0,0)).2<=40)&&(decide ((Af ns i).k≠23)||Dh ns (CV (Af ns i) 0)))))
def F5(T:AE->Bool)(ns:List AM):Bool:=
 decide (1<=ns.length/\ns.length<=600)&&match EG ns ns.length with
  |none=>false
  |some st=>(List.range ns.length).all (Fi T ns st)&&decide ((st.getD (ns.length- 1) (0,0)).1=0)
def JI(T:AE->Bool)(ns:List AM)(i:Nat):Bool:=Bq T (Af ns i)&&Dp (Af ns i).k (BA ns (Af ns i).kids) (Dh ns (CV (Af ns i) 0))
def G4(ns:List AM):Bool:=match EG ns ns.length with
 |none=>false
 |some st=>decide ((st.getD (ns.length- 1) (0,0)).1=0/\(st.getD (ns.length- 1) (0,0)).2<=40)
def I7(T:AE->Bool)(ns:List AM):Bool:=
 decide (1<=ns.length/\ns.length<=600)&&(G4 ns&&((List.range ns.length).all (JI T ns)&&decide ((Af ns (ns.length- 1)).k=25)))
def MI(T:AE->Bool)(ns:List AM)(i:Nat):JI T ns i=(Bu (Af ns i).k (BA ns (Af ns i).kids)&&(BT T (Af ns i)&&(decide ((Af ns i).k≠23)||Dh ns (CV (Af ns i) 0)))):=by
 unfold JI;rw[VO,Zd (fun hs hl=> ?_)]
 .cases BT T (Af ns i)<;>simp
 .have e:(BA ns (Af ns i).kids).getD 0 0=(Af ns (CV (Af ns i) 0)).k:=by unfold BA CV;unfold BA at hl;rw[AS]at hl;simp[List.getD_eq_getElem?_getD,show 0<(Af ns i).kids.length by omega]
  rw[e];exact ZF hs
def GZ{x:Int}(h:FQ x=true\/N4 x=true\/Pd x=true\/Yq x=true\/Sc x=true\/Vn x=true):Ca x≠0/\x≠25:=by
 have h25:Ca 25=6:=rfl;have h16:Ca 16=3:=rfl;unfold FQ N4 Pd Yq Sc Vn at h;simp only[As]at h;constructor
 .intro e;rw[e]at h;rcases h with h|h|h|h|h|h
  .omega
  .omega
  .omega
  .subst h;omega
  .omega
  .omega
 .intro e;subst e;rw[h25]at h;omega
def Xs{c:Nat}{x:Int}(h:I2 c x=true):Ca x≠0/\x≠25:=by
 refine GZ ?_;unfold I2 at h;split at h
 .exact .inl h
 split at h
 .exact .inr (.inl h)
 split at h
 .exact .inr (.inr (.inl h))
 split at h
 .exact .inr (.inr (.inr (.inl h)))
 split at h
 .exact .inr (.inr (.inr (.inr (.inl h))))
 .exact .inr (.inr (.inr (.inr (.inr h))))
def Oq:∀(cs:List Nat)(ks:List Int),B3 cs ks=true->∀x∈ks,Ca x≠0/\x≠25
 | [],[],_,x,hx=>by cases hx
 | [],_::_,h,_,_=>by simp[B3]at h
 |_::_,[],h,_,_=>by simp[B3]at h
 |c::cs,a::r,h,x,hx=>by
  rw[B3,An]at h;rcases DU.1 hx with e|e
  .subst e;exact Xs h.1
  .exact Oq cs r h.2 x e
def Uv{k:Int}{ks:List Int}(h:Bu k ks=true):∀x∈ks,Ca x≠0/\x≠25:=by
 intro x hx;unfold Bu at h;by_cases h7:k=7
 .rw[AL h7,An,An]at h
  match ks,hx,h with
  |a::r,hx,h=>
   rcases DU.1 hx with e|e
   .subst e;exact GZ (.inl (by simpa using h.2.1))
   .exact GZ (.inr (.inl (Ax.1 h.2.2 x (by simpa using e))))
 rw[AG h7]at h;by_cases h21:k=21
 .rw[AL h21,An,An,As]at h;rw[<-GU (ks.length- 1) ks]at hx;rcases Ak.1 hx with e|e
  .exact GZ (.inr (.inl (Ax.1 h.2.1 x e)))
  .have:=h.2.2;rw[<-J3 ks FQ h.1]at this;exact GZ (.inl (Ax.1 this x e))
 rw[AG h21]at h;by_cases h16:k=16
 .rw[AL h16]at h;exact GZ (.inr (.inr (.inr (.inr (.inr (Ax.1 h x hx))))))
 rw[AG h16]at h;by_cases h25:k=25
 .rw[AL h25]at h;exact GZ (.inr (.inr (.inr (.inr (.inl (Ax.1 h x hx))))))
 rw[AG h25]at h;exact Oq _ _ h x hx
def Yt(T:AE->Bool)(ns:List AM):I7 T ns=F5 T ns:=by
 unfold I7 F5 G4;by_cases hn:1<=ns.length/\ns.length<=600;case neg=>rw[AD hn];rfl
 rw[AK hn,Ap,Ap];cases h:EG ns ns.length with
 |none=>rfl
 |some st=>
  dsimp only;rw[Cj];simp only[An,As,Ax,DZ];constructor
  .rintro⟨⟨h0,h40⟩,hall,Iz⟩;refine⟨fun i hi=> ?_,h0⟩;have hi':=hall i hi;rw[MI]at hi';simp only[An]at hi';unfold Fi;simp only[An,As];refine⟨?_,hi'.1,hi'.2.1,?_,hi'.2.2⟩
   .by_cases e:i+1=ns.length
    .have e':ns.length- 1=i:=by omega
     rw[e']at Iz;rw[Iz];exact⟨by decide,by simp[e]⟩
    .obtain⟨⟨p,q,hp,hq,hk⟩,_⟩:=La h ns.length (ns.length- 1) (by omega) (by omega) i (by omega) (by omega);have hp':=hall p hp;rw[MI]at hp';simp only[An]at hp';have hm:(Af ns i).k∈BA ns (Af ns p).kids:=by unfold BA;refine DT.2 ⟨(Af ns p).kids.getD q 0,?_,by rw[hk];rfl⟩;rw[AP,AR hq];exact By hq
     have:=Uv hp'.1 _ hm;exact⟨this.1,fun x=>absurd x this.2,fun x=>absurd x e⟩
   .by_cases e:i+1=ns.length
    .have e':ns.length- 1=i:=by omega
     rw[e']at h40;exact h40
    .have:=(La h ns.length (ns.length- 1) (by omega) (by omega) i (by omega) (by omega)).2;omega
  .rintro⟨hall,h0⟩;have hl:=hall (ns.length- 1) (by omega);have hl':=hl;unfold Fi at hl';simp only[An,As]at hl';refine⟨⟨h0,hl'.2.2.2.1⟩,fun i hi=> ?_,hl'.1.2.2 (by omega)⟩;have:=hall i hi;unfold Fi at this;simp only[An,As]at this;rw[MI];simp only[An];exact⟨this.2.1,this.2.2.1,this.2.2.2.2⟩
section
variable {P:Program}{ops:Array Oper}{Q:Exit->Act->World->Prop}{md:Region.Mode}{S:World->Prop}{st:Nat}
def dN{K:Act->World->Prop}{a:Act}{w:World}{i:Nat}{o:Oper}(hi:ops[i]? =some o)(hg:Region.wanted o (yielded ops a.tmps)=true)(h:o.wp P a w K Q):wpOp P ops Q i K a w:=by
 unfold wpOp;rw[hi];show if Region.wanted o (yielded ops a.tmps)=true then _ else _
 rw[AL hg];exact .inl h
def Aq{a:Act}{d e:Nat}{v:Value}(h:d≠e):(a.put (some d) v).eval (.tmp e)=a.eval (.tmp e):=Act.eval_put (dst:=some d) (x:=.tmp e) (by simp;exact fun hy=>h hy.symm)
def DS{a:Act}{d:Nat}{v:Value}(h:d<a.tmps.size):(a.put (some d) v).eval (.tmp d)=v:=by simp[Act.eval,Act.put,h]
def AU{a:Act}{d:Nat}{v:Value}:(a.put (some d) v).tmps.size=a.tmps.size:=by simp[Act.put]
end
end Go.Proofs.YtinndpnilmmmjaaGreatDoor
namespace Go.Proofs
open Go.Shelf Tryz
def Tryz.containsS_ren:Go.Shelf.Ren:=⟨fun|151=>190|152=>214|137=>238|119=>239|224=>227|225=>226|217=>225|266=>243|n=>n,fun|9=>9|21=>21|4=>4|3=>3|5=>5|0=>0|46=>207|n=>n,fun|n=>n⟩
def Tryz.containsS:Go.Proofs.Lays.n151 prog Tryz.containsS_ren:= {
 mixed:=by kernel_rfl
 f119:=func239.trans (congrArg some (by kernel_rfl))
 f137:=func238.trans (congrArg some (by kernel_rfl))
 f151:=func190.trans (congrArg some (by kernel_rfl))
 f152:=func214.trans (congrArg some (by kernel_rfl))
 f217:=func225.trans (congrArg some (by kernel_rfl))
 f224:=func227.trans (congrArg some (by kernel_rfl))
 f225:=func226.trans (congrArg some (by kernel_rfl))
 f266:=func243.trans (congrArg some (by kernel_rfl))
 t0:=underlying0
 a0:=isAgg0
 z0:=sizeOf0
 v0:=zeroValue0
 t3:=underlying3
 a3:=isAgg3
 z3:=sizeOf3
 v3:=zeroValue3
 t4:=underlying4
 a4:=isAgg4
 z4:=sizeOf4
 v4:=zeroValue4
 t5:=underlying5
 a5:=isAgg5
 z5:=sizeOf5
 v5:=zeroValue5
 t9:=underlying9
 a9:=isAgg9
 z9:=sizeOf9
 v9:=zeroValue9
 t21:=underlying21
 a21:=isAgg21
 z21:=sizeOf21
 v21:=zeroValue21
 t46:=underlying207
 a46:=isAgg207
 z46:=sizeOf207
 v46:=zeroValue207}
end Go.Proofs
