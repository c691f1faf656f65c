import Derived.Test.YtgjpchnkodnieaaGreatDoorZ05
set_option maxHeartbeats 1000000
set_option linter.defProp false
namespace Go.Proofs.YtgjpchnkodnieaaGreatDoor
open Go.RowKit Tryz
def Jc(a:Option Addr)(n cap B:Nat)(zs:List Int)(k:Int)(w:World)(h:Bt w B a n zs)(hk0:0<=k)(hk:k<=4611686018427387904):Calls prog 77 #[.slice a n cap,.int .i64 k] w fun e w'=>e=.returned (.int .i64 (k+n))/\Bt w' B a n (Hz k n)/\BS (At a n) w w':=by
 obtain⟨Bq,hsm,hat⟩:=h;go_enter func77,ntmps77
 go_wp2
 go_loopw[1,5] (fun c i wr=>∃j:Nat,j<=n/\i=.int .i64 j/\c=.int .i64 (k+j)/\BS (At a n) w wr/\(n=0\/∃g off,a=some ⟨g,off,none⟩/\B<=g/\g<wr.heap.size/\(∀i,i<j->wr.cell? ⟨g,off+i,none⟩=some (.int .i64 (k+i)))/\(∀i,i<n->(wr.cell? ⟨g,off+i,none⟩).isSome=true)/\(∀i,i<n->wr.frozen? ⟨g,off+i,none⟩=false))) (fun _ i _=>n- (intOf i).toNat);case atStart=>
  refine⟨0,AS _,rfl,by simp,BS.refl _ _,?_⟩;rcases hat with h0|⟨g,off,rfl,hg,hlt,hc,hf⟩
  .exact .inl h0
  .exact .inr ⟨g,off,rfl,hg,hlt,fun i hi=>absurd hi (ET _),fun i hi=>by rw[hc i hi];rfl,hf⟩
 case round=>
  obtain⟨j,hj,rfl,rfl,hbut,hst⟩:=hrel;by_cases hlt:j<n
  .rcases hst with h0|⟨g,off,rfl,hg,hgl,hc,hs,hf⟩
   .omega
   .clear hat;have hs1:=hs j hlt;have hf1:=hf j hlt;obtain⟨u,hu⟩:=Option.isSome_iff_exists.mp hs1;have HB:=AD hbut;have HS:=AD hs;have HF:=AD hf;have HC:=AD hc;clear hbut hs hf hc
    go_wp2
    go_roundw;case rel=>
     refine⟨j+1,by omega,by go_num,by go_num,(AA HB).setCell (DK (by omega)) _,.inr ⟨g,off,rfl,hg,by simpa using hgl,fun i hi=> ?_,fun i hi=> ?_,fun i hi=> ?_⟩⟩
     .by_cases hij:i=j
      .subst hij;exact DN _ _ _ hu
      .rw[CE _ _ _ _ (by simp<;>omega)];exact AA HC i (by omega)
     .by_cases hij:i=j
      .subst hij;rw[DN _ _ _ hu];rfl
      .rw[CE _ _ _ _ (by simp<;>omega)];exact AA HS i hi
     .simpa using AA HF i hi
    case measure=>simp[intOf];omega
  .have hjn:j=n:=by omega
   subst hjn;have HB:=AD hbut;have HT:=AD hst;clear hbut hst hat
   go_wp2
   go_ret;refine⟨rfl,⟨Ua _ _,hsm,?_⟩,AA HB⟩;rcases AA HT with h0|⟨g,off,rfl,hg,hgl,hc,hs,hf⟩
   .exact .inl h0
   .exact .inr ⟨g,off,rfl,hg,hgl,fun i hi=>by rw[OT _ _ _ hi];exact hc i hi,hf⟩
def IC(a:Option Addr)(n cap:Nat)(k:Int)(w:World)(h:AO w a n (Hz k n))(hk0:0<=k)(hk:k<=4611686018427387904):Calls prog 78 #[.slice a n cap,.int .i64 k] w fun e w'=>e=.returned (.int .i64 (k+n))/\w'=w:=by
 obtain⟨Bq,hsm,hat⟩:=h;clear Bq;go_enter func78,ntmps78
 go_wp2
 go_loop [1,5] (fun c i=>∃j:Nat,j<=n/\i=.int .i64 j/\c=.int .i64 (k+j)) (fun _ i=>n- (intOf i).toNat)
 case atStart=>exact⟨0,AS _,rfl,by simp⟩
 case round=>
  obtain⟨j,hj,rfl,rfl⟩:=hrel;by_cases hlt:j<n
  .have ha:∃b off,a=some ⟨b,off,none⟩/\w.cell? ⟨b,off+j,none⟩=some (.int .i64 (k+j)):=by
    rcases hat with h0|⟨b,off,rfl,hlt',hc⟩
    .omega
    .exact⟨b,off,rfl,by rw[<-OT k n j hlt];exact hc j hlt⟩
   obtain⟨b,off,rfl,hc⟩:=ha;clear hat
   go_wp2
   go_round
   case rel=>exact⟨j+1,by omega,by go_num,by go_num⟩
   case measure=>simp[intOf];omega
  .have hjn:j=n:=by omega
   subst hjn;clear hat
   go_wp2
   go_ret;exact⟨rfl,rfl⟩
def Bt.alloc{w:World}{B:Nat}{a:Option Addr}{n:Nat}{zs:List Int}(h:Bt w B a n zs)(o:Obj):Bt (w.alloc o) B a n zs:=h.below AC (AG.alloc AC _)
def Bt.of_owns{w:World}{base n:Nat}{v:Value}{zs:List Int}(h:w.ownsRow base 3 1 v n (zs.map (Value.int .i64)))(hs:n<=17592186044416):∃a cap,v=.slice a n cap/\Bt w base a n zs:=by
 have hl:zs.length=n:=by simpa using h.1
 rcases h.2 with⟨rfl,h0⟩|⟨g,cap,cur,rfl,hb,hg,_,_,hcs,ht⟩
 .exact⟨none,0,by rw[h0],hl,hs,.inl h0⟩
 .refine⟨some ⟨g,0,none⟩,cap,rfl,hl,hs,.inr ⟨g,0,rfl,hb,lt_of_block hg,fun i hi=> ?_,fun i hi=>CB w g _ _ _ hg⟩⟩;have e:cur.toList[i]? =some (.int .i64 (zs.getD i 0)):=by
   have:(cur.toList.take (n*1))[i]? =(zs.map (Value.int .i64))[i]? :=by rw[ht]
   rw[List.getElem?_take,AI (by omega)]at this;rw[this];simp[hl,hi]
  simpa[World.cell?,hg]using e
def Ct{w:World}{ad:Addr}{n:Nat}{zs:List Int}(h:AO w (some ad) n zs):∀(j:Nat)u,(zs.map (Value.int .i64))[j]? =some u->w.cell? (ad.add j)=some u:=by
 intro j u hj;have hl:=h.len;have hj':j<n:=by
  rcases Bz j n with h'|h'
  .exact h'
  .rw[Hf (by simp;omega)]at hj;cases hj
 obtain⟨b,off,hab,hblt,hc⟩:=h.get hj';cases hab;have hadd:(⟨b,off,none⟩:Addr).add j=⟨b,off+j,none⟩:=by by_cases h:j=0<;>simp[Addr.add,h]
 rw[hadd,hc];simpa[hl,hj']using hj
def DQ(zs:List Int):∀u∈zs.map (Value.int .i64),u.oneCell'=true:=by intro u hu;obtain⟨x,_,rfl⟩:=List.mem_map.mp hu;rfl
def Fs(w:World):(w.alloc (.cells #[] 3)).ownsRow w.heap.size 3 1 (.slice (some ⟨w.heap.size,0,none⟩) 0 0) 0 []:=by refine⟨by simp,.inr ⟨w.heap.size,0,#[],rfl,AC,?_,by simp,by unfold maxLen;omega,by simp,by simp⟩⟩;show(w.heap.push _)[w.heap.size]? =_;simp
def FT(ad:Addr)(n cap:Nat)(zs:List Int)(w:World)(h:AO w (some ad) n zs):Calls prog 71 #[.slice (some ad) n cap] w fun e w'=>∃a' Ak,e=.returned (.slice a' n Ak)/\w'.ownsRow w.heap.size 3 1 (.slice a' n Ak) n (zs.map (Value.int .i64))/\Below w.heap.size w w':=by
 have hl:=h.len;have hs:=h.small;have H:=AD h;clear h;obtain⟨i0,hi,hz0,hz1,hz2⟩:=info_parts A6;go_enter func71,ntmps71;go_wp2_with(at_builtin;refine wpList_append_own _ rfl _ _ 23 rfl w.heap.size 3 i0 (.int .i64 0) 1 8 underlying23 hi hz0 hz1 hz2 rfl (by decide) _ _ _ rfl (Fs w) ad n cap (zs.map (Value.int .i64)) rfl (by simpa using hl) (Ct ((AA H).alloc _)) (DQ zs) (by unfold maxLen;omega) (by omega) (by simp) ?_;intro v1 w1 BJ An hnil);clear hnil;have BL:w1.ownsRow w.heap.size 3 1 v1 n (zs.map (Value.int .i64)):=by simpa using BJ
 obtain⟨a',Ak,rfl,ho⟩:=Bt.of_owns BL hs;have hbel:Below w.heap.size w w1:=(AG.alloc AC _).grown An (by simp) (by intro k hk;cases hk;exact AC);clear BJ An ho
 go_wp2
 go_ret;exact⟨_,_,rfl,BL,hbel⟩
def D3(ad:Addr)(n cap:Nat)(zs:List Int)(w:World)(h:AO w (some ad) n zs):Calls prog 71 #[.slice (some ad) n cap] w fun e w'=>∃a' Ak,e=.returned (.slice a' n Ak)/\Bt w' w.heap.size a' n zs/\Below w.heap.size w w':=by refine(FT ad n cap zs w h).mono ?_;rintro e w'⟨a',Ak,rfl,ho,hb⟩;obtain⟨a2,c2,e2,ho2⟩:=Bt.of_owns ho h.small;cases e2;exact⟨a',Ak,rfl,ho2,hb⟩
def Bt.low'{w w':World}{a:Option Addr}{n:Nat}{zs:List Int}{B C:Nat}(h:Bt w C a n zs)(ha:∀k,At a n k->k<B)(hb:Below B w w'):Bt w' C a n zs:=by
 refine⟨h.len,h.small,?_⟩;rcases h.at_ with h0|⟨g,off,rfl,hg,hlt,hc,hf⟩
 .exact .inl h0
 .by_cases h0:n=0
  .exact .inl h0
  have hgB:=ha g (DK h0);exact .inr ⟨g,off,rfl,hg,AZ hlt hb.size,fun i hi=>(hb.cell (p:=⟨g,off+i,none⟩) hgB).trans (hc i hi),fun i hi=>(hb.frozen (p:=⟨g,off+i,none⟩) hgB).trans (hf i hi)⟩
def Bt.other{w:World}{a:Option Addr}{n C:Nat}{zs:List Int}(h:Bt w C a n zs){q:Addr}(ha:∀k,At a n k->k≠q.block)(v:Value):Bt (w.setCell q v) C a n zs:=((BS.refl (fun k=>k=q.block) w).setCell rfl v).own h (fun k hk hk'=>ha k hk' hk)
def Co{w w1:World}{base n:Nat}{v:Value}{xs:List Value}(o:Obj)(BJ:w.ownsRow base 3 1 v n xs)(hb:base<=w.heap.size)(hg:(w.alloc o).grownBy w1 v.ownBlock):Below base w w1:=(AG.alloc hb _).grown hg (by simp;omega) (by
  intro k hk;rcases BJ.2 with⟨rfl,_⟩|⟨g,cap,cur,rfl,hbg,_⟩
  .cases hk
  .cases hk;exact hbg)
def CU{w:World}{base e size n:Nat}{v:Value}{xs:List Value}(h:w.ownsRow base e size v n xs):∃a cap,v=.slice a n cap:=by
 rcases h.2 with⟨rfl,h0⟩|⟨g,cap,cur,rfl,_⟩
 .exact⟨none,0,by rw[h0]⟩
 .exact⟨_,_,rfl⟩
def AP(w:World)(a:Option Addr):AO w a 0 []:=⟨rfl,by omega,.inl rfl⟩
def Bp(w:World)(x:Int):∀(j:Nat)u,([.int .i64 x]:List Value)[j]? =some u->(w.alloc (.cells #[.int .i64 x] 3)).cell? ((⟨w.heap.size,0,none⟩:Addr).add j)=some u:=by
 intro j u hj
 match j,hj with
 |0,hj=>simp at hj;subst hj;simp[Addr.add]
def CD(x:Int):∀u∈([.int .i64 x]:List Value),u.oneCell'=true:=by intro u hu;simp at hu;subst hu;rfl
def BN{w w':World}{base e size n B:Nat}{v:Value}{xs:List Value}(h:w.ownsRow base e size v n xs)(hB:w.heap.size<=B)(hb:Below B w w'):w'.ownsRow base e size v n xs:=by
 obtain⟨h1,h2⟩:=h;refine⟨h1,?_⟩;rcases h2 with h2|⟨g,cap,cur,hv,hg,hh,r⟩
 .exact Or.inl h2
 .exact Or.inr ⟨g,cap,cur,hv,hg,(hb.block g (AZ (lt_of_block hh) hB)).trans hh,r⟩
def CC{w:World}{base n p o:Nat}{v:Value}{xs:List Value}(h:w.ownsRow base 3 1 v n xs)(hp:p<base)(u:Value):(w.setCell ⟨p,o,none⟩ u).ownsRow base 3 1 v n xs:=by
 obtain⟨h1,h2⟩:=h;refine⟨h1,?_⟩;rcases h2 with h2|⟨g,cap,cur,hv,hg,hh,r⟩
 .exact Or.inl h2
 .refine Or.inr ⟨g,cap,cur,hv,hg,?_,r⟩;rw[Below.heap_setCell _ _ _ _ (by intro e;have e':g=p:=e;omega)];exact hh
def GI{w:World}{base e size n g:Nat}{v:Value}{xs:List Value}(h:w.ownsRow base e size v n xs)(hg:v.ownBlock=some g):g<w.heap.size:=by
 rcases h.2 with⟨rfl,_⟩|⟨g',cap,cur,rfl,_,hh,_⟩
 .cases hg
 .cases hg;exact lt_of_block hh
def Bt.grownO{w w1:World}{B n:Nat}{a:Option Addr}{zs:List Int}(h:Bt w B a n zs)(o:Obj){ob:Option Nat}(hg:(w.alloc o).grownBy w1 ob)(hne:∀x,At a n x->ob≠some x):Bt w1 B a n zs:=by
 refine⟨h.len,h.small,?_⟩;rcases h.at_ with h0|⟨b,off,rfl,hb,hlt,hc,hf⟩
 .exact .inl h0
 .by_cases hn:n=0
  .exact .inl hn
  have hk:w1.heap[b]? =w.heap[b]? :=(hg.block b (by simp;omega) (fun e=>hne b (DK hn) e.symm)).trans (Ab w o b hlt);refine .inr ⟨b,off,rfl,hb,?_,fun i hi=>(World.cell?_of_block (w:=w) (a:=⟨b,off+i,none⟩) hk).trans (hc i hi),fun i hi=>(World.frozen?_of_block (w:=w) (a:=⟨b,off+i,none⟩) hk).trans (hf i hi)⟩;rcases Bz b w1.heap.size with h1|h1
  .exact h1
  .rw[Array.getElem?_eq_none h1,EJ hlt]at hk;cases hk
def DG{w:World}{base base' e size n:Nat}{v:Value}{xs:List Value}(h:w.ownsRow base e size v n xs)(hb:base'<=base):w.ownsRow base' e size v n xs:=by
 obtain⟨h1,h2⟩:=h;refine⟨h1,?_⟩;rcases h2 with h2|⟨g,cap,cur,hv,hg,hh,r⟩
 .exact Or.inl h2
 .exact Or.inr ⟨g,cap,cur,hv,by omega,hh,r⟩
def MP{w w1:World}{base base' n g g2 cap:Nat}{xs:List Value}(h:w.ownsRow base 3 1 (.slice (some ⟨g,0,none⟩) n cap) n xs)(o:Obj)(hg:(w.alloc o).grownBy w1 (some g2))(hne:g≠g2)(hb:base'<=base):w1.ownsRow base' 3 1 (.slice (some ⟨g,0,none⟩) n cap) n xs:=by
 obtain⟨h1,h2⟩:=h;refine⟨h1,?_⟩;rcases h2 with⟨h2,_⟩|⟨g',Ak,cur,hv,hg',hh,r⟩
 .simp at h2
 .have e:g=g':=by simp at hv;exact hv.1
  subst e;refine Or.inr ⟨g,Ak,cur,hv,by omega,?_,r⟩;have hlt:=lt_of_block hh;exact(hg.block g (by simp;omega) (fun e=>hne (by simpa using e))).trans ((Ab w o g hlt).trans hh)
def Bt.set{w:World}{B g off n k:Nat}{zs:List Int}(h:Bt w B (some ⟨g,off,none⟩) n zs)(hk:k<n)(x:Int):Bt (w.setCell ⟨g,off+k,none⟩ (.int .i64 x)) B (some ⟨g,off,none⟩) n (zs.set k x):=by
 refine⟨by rw[List.length_set];exact h.len,h.small,?_⟩;rcases h.at_ with h0|⟨g',aq,e,hg,hlt,hc,hf⟩
 .omega
 .cases e;refine .inr ⟨g,off,rfl,hg,by simpa using hlt,fun i hi=> ?_,fun i hi=> ?_⟩
  .by_cases e:i=k
   .subst e;rw[DN _ _ _ (hc i hi)];have hl:=h.len;simp[List.getD,hl,hk]
   .rw[CE _ _ _ _ (by simp<;>omega),hc i hi];simp[List.getD,List.getElem?_set_ne (Ne.symm e)]
  .simpa using hf i hi
def BS.drew{S:Nat->Prop}{w w':World}(h:BS S w w'):BS S w w'.drew:=⟨h.os,h.tape,h.output,h.size,h.block⟩
def BS.cellAt{S:Nat->Prop}{w w':World}(h:BS S w w'){b o:Nat}(hb:b<w.heap.size)(hn:¬ S b):w'.cell? ⟨b,o,none⟩=w.cell? ⟨b,o,none⟩:=World.cell?_of_block (w:=w) (a:=⟨b,o,none⟩) (h.block b hb hn)
def GR(c:Bool)(a1 a2:Option Addr)(n1 n2 c1 c2 B:Nat)(sh dt:List Int)(k:Int)(w:World)(h1:Bt w B a1 n1 sh)(h2:Bt w B a2 n2 dt)(hap:Ip a1 n1 a2 n2)(hk0:0<=k)(hk:k<=2305843009213693952):Calls prog 22 #[.agg #[.bool c,.slice a1 n1 c1,.slice a2 n2 c2],.int .i64 k] w fun e w'=>e=.returned (.int .i64 (k+n1+n2))/\Bt w' B a1 n1 (Hz k n1)/\Bt w' B a2 n2 (Hz (k+n1) n2)/\BS (fun x=>At a1 n1 x\/At a2 n2 x) w w':=by
 have hs1:=h1.small;have hs2:=h2.small;have hi1:Hid (∀x,At a1 n1 x->x<w.heap.size):=fun x hx=>h1.row.hi hx;have H1:=AD h1;have H2:=AD h2;have HA:=AD hap;clear h1 h2 hap;go_enter func22,ntmps22;go_wp2_with fail;refine(Jc _ _ _ B sh _ _ (by exact(AA H1).below AC (AG.alloc AC _)) (by omega) (by omega)).mono ?_;rintro e w1⟨rfl,ho1,hb1⟩;have hz1:=hb1.size;have Ff:w1.heap[w.heap.size]? =_:=hb1.block w.heap.size (by simp) (fun hx=>by have:=AA hi1 _ hx;omega);have hc0:=World.cell?_of_block (a:=⟨w.heap.size,0,none⟩) Ff;have hc1:=World.cell?_of_block (a:=⟨w.heap.size,1,none⟩) Ff;have hc2:=World.cell?_of_block (a:=⟨w.heap.size,2,none⟩) Ff;have hf:=fun o=>World.frozen?_of_block (a:=⟨w.heap.size,o,none⟩) Ff;simp at hc0 hc1 hc2 hz1;have ho2:Bt w1 B a2 n2 dt:=hb1.own ((AA H2).below AC (AG.alloc AC _)) (AA HA);have HO1:=AD ho1;have HB1:=AD hb1;clear Ff hf ho1 hb1;go_wp2_with fail;refine(Jc _ _ _ B dt _ _ ho2 (by omega) (by omega)).mono ?_;rintro e w2⟨rfl,ho3,hb2⟩;have HO3:=AD ho3;have HB2:=AD hb2;have ho4:Hid (Bt w2 B a1 n1 (Hz k n1)):=hb2.own (AA HO1) (AA HA).symm;clear ho3 hb2
 go_wp2
 go_ret;exact⟨rfl,AA ho4,AA HO3,(((BS.refl _ _).alloc _).trans ((AA HB1).trans (AA HB2))).mono (fun x hx=>by rcases hx with hx|hx;exact absurd hx id;exact hx)⟩
def Lg(c:Bool)(a1 a2:Option Addr)(n1 n2 c1 c2:Nat)(k:Int)(w:World)(h1:AO w a1 n1 (Hz k n1))(h2:AO w a2 n2 (Hz (k+n1) n2))(hk0:0<=k)(hk:k<=2305843009213693952):Calls prog 23 #[.agg #[.bool c,.slice a1 n1 c1,.slice a2 n2 c2],.int .i64 k] w fun e w'=>e=.returned (.int .i64 (k+n1+n2))/\Below w.heap.size w w':=by
 have hs1:=h1.small;have hs2:=h2.small;have H1:=AD h1;have H2:=AD h2;clear h1 h2;go_enter func23,ntmps23;go_wp2_with fail;refine(IC _ _ _ _ _ (by exact(AA H1).below AC (AG.alloc AC _)) (by omega) (by omega)).mono ?_;rintro e w1⟨rfl,rfl⟩;go_wp2_with fail;refine(IC _ _ _ _ _ (by exact(AA H2).below AC (AG.alloc AC _)) (by omega) (by omega)).mono ?_;rintro e w1⟨rfl,rfl⟩
 go_wp2
 go_ret;exact⟨rfl,AG.alloc AC _⟩
