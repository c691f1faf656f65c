import Derived.Test.YtgjpchnkodnieaaGreatDoorZ00
import Derived.BigQuiet
import Derived.Test.YtgjpchnkodnieaaGreatDoorZ03
import Derived.Deep.RegionWith
import Derived.Deep.DeepCutAuto
set_option maxHeartbeats 1000000
set_option linter.defProp false
namespace Go.Proofs.YtgjpchnkodnieaaGreatDoor
open Go.RowKit Tryz
def A6:(prog.info? 3).map (fun i=>(i.zero,i.size,i.bytes))=some (some (.int .i64 0),1,8):=by kernel_rfl
def VY(zs:List Int)(m k:Nat)(h:k<zs.length):(zs.take k++List.replicate (m+1) (0:Int)).set k (zs.getD k 0)=zs.take (k+1)++List.replicate m 0:=by
 have hk:(zs.take k).length=k:=by simp;omega
 have hx:zs.getD k 0=zs[k]:=by simp[h]
 rw[List.replicate_succ,DC _ _ (by omega),hk,Nat.sub_self,List.set_cons_zero,hx,B7 h,CY];rfl
def L0(a:Option Addr)(n cap:Nat)(left:Int)(w:World)(hn:n<=9223372036854775807)(hl:0<=left)(hl2:left<=1048576)(h:left<n):Calls prog 67 #[.slice a n cap,.int .i64 left] w fun e w'=>e=.returned (.int .i64 (-1))/\w'=w:=by
 go_enter func67,ntmps67
 go_wp2
 go_ret;exact⟨rfl,rfl⟩
def KA(a:Option Addr)(n cap:Nat)(left:Int)(w:World)(hl2:left<=1048576)(h:n<=left):Calls prog 67 #[.slice a n cap,.int .i64 left] w fun e w'=>e=.returned (.int .i64 (left- n))/\w'=w:=by
 go_enter func67,ntmps67
 go_wp2
 go_ret;exact⟨rfl,rfl⟩
def Ly(a:Option Addr)(n cap:Nat)(zs:List Int)(w:World)(h:AO w a n zs):Calls prog 76 #[.slice a n cap] w fun e w'=>∃g,e=.returned (.slice (some ⟨g,0,none⟩) n n)/\w.heap.size<=g/\BA w' g zs/\Below w.heap.size w w':=by
 obtain⟨Bq,hsm,hat⟩:=h;obtain⟨i0,hi,hz0,hz1,hz2⟩:=info_parts A6;go_enter func76,ntmps76;go_wp2_with(at_make;refine wpList_make_full _ rfl _ _ 23 rfl w.heap.size 3 i0 (.int .i64 0) 1 underlying23 hi hz0 hz1 _ _ _ _ n rfl rfl rfl rfl (by rw[hz2];omega) (by unfold maxLen;omega) AC ?_;intro w1 BJ An);have DI:BA w1 w.heap.size (zs.take 0++List.replicate (n- 0) 0):=BA.of_owns (n:=n) (base:=w.heap.size) (by simpa[toList_madeCells_one,Value.cells]using BJ);have hbel:Below w.heap.size w w1:=AG.grown An AC (by simp);clear BJ An hi hz0 hz1 hz2
 go_wp2
 go_loopw[4] (fun i wr=>∃k:Nat,k<=n/\i=.int .i64 k/\BA wr w.heap.size (zs.take k++List.replicate (n- k) 0)/\Below w.heap.size w wr) (fun i _=>n- (intOf i).toNat);case atStart=>exact⟨0,AS _,rfl,DI,hbel⟩
 case round=>
  obtain⟨k,hk,rfl,hb,hbl⟩:=hrel;clear DI hbel;by_cases hlt:k<n
  .have hat':∃b off,a=some ⟨b,off,none⟩/\wr.cell? ⟨b,off+k,none⟩=some (.int .i64 (zs.getD k 0)):=by
    rcases hat with h0|⟨b,off,rfl,hlt',hc⟩
    .omega
    .exact⟨b,off,rfl,(hbl.cell (p:=⟨b,off+k,none⟩) hlt').trans (hc k hlt)⟩
   obtain⟨b,off,rfl,hc⟩:=hat';clear hat;obtain⟨x,hx⟩:∃x,x=zs.getD k 0:=⟨_,rfl⟩
   rw[<-hx]at hc;have hc2:=hb.cell (i:=k) (by simp;omega);have hf2:=hb.free k;have hs:=hb.set k x;have HR:Hid (BA (wr.setCell ⟨w.heap.size,k,none⟩ (.int .i64 x)) w.heap.size (zs.take (k+1)++List.replicate (n- (k+1)) 0)):=by
    have e:n- k=n- (k+1)+1:=by omega
    rw[e,hx,VY zs _ k (by omega)]at hs;rw[hx];exact hs
   clear hs hb hx
   go_wp2
   go_roundw;case rel=>exact⟨k+1,by omega,by go_num,HR.out,hbl.setCell AC _⟩
   case measure=>simp[intOf];omega
  .have hkn:k=n:=by omega
   subst hkn
   go_wp2
   go_ret;exact⟨_,rfl,AC,by simpa[List.take_of_length_le (Nat.le_of_eq Bq)]using hb,hbl⟩
def J8{xs ys:List Int}{n k:Nat}(hx:xs.length=n)(hy:ys.length=n)(hk:k<n)(h:xs.take k=ys.take k)(he:xs.getD k 0=ys.getD k 0):xs.take (k+1)=ys.take (k+1):=by
 have e1:xs.getD k 0=xs[k]:=by simp[hx,hk]
 have e2:ys.getD k 0=ys[k]:=by simp[hy,hk]
 rw[B7 (by omega),B7 (by omega),h,<-e1,<-e2,he]
def Fw(a b:Option Addr)(n m ca cb:Nat)(xs ys:List Int)(w:World)(hx:AO w a n xs)(hy:AO w b m ys):Calls prog 28 #[.slice a n ca,.slice b m cb] w fun e w'=>e=.returned (.bool (decide (xs=ys)))/\∃q,w'=w.drewN q:=by
 obtain⟨hxl,hxs,hxa⟩:=hx;obtain⟨hyl,hys,hya⟩:=hy;by_cases hne:n=m
 .subst hne;have hn:((n:Int) !=(n:Int))=false:=by simp
  go_enter func28,ntmps28
  go_wp2
  go_loopw[5] (fun i wr=>∃k:Nat,k<=n/\i=.int .i64 k/\xs.take k=ys.take k/\∃q,wr=w.drewN q) (fun i _=>n- (intOf i).toNat);case atStart=>exact⟨0,AS _,rfl,rfl,0,rfl⟩
  case round=>
   obtain⟨k,hk,rfl,htk,q,rfl⟩:=hrel;by_cases hlt:k<n
   .have ha:∃b off,a=some ⟨b,off,none⟩/\w.cell? ⟨b,off+k,none⟩=some (.int .i64 (xs.getD k 0)):=by
     rcases hxa with h0|⟨b,off,rfl,hlt',hc⟩
     .omega
     .exact⟨b,off,rfl,hc k hlt⟩
    have hb:∃b' off,b=some ⟨b',off,none⟩/\w.cell? ⟨b',off+k,none⟩=some (.int .i64 (ys.getD k 0)):=by
     rcases hya with h0|⟨b,off,rfl,hlt',hc⟩
     .omega
     .exact⟨b,off,rfl,hc k hlt⟩
    obtain⟨b1,o1,rfl,hc1⟩:=ha;obtain⟨b2,o2,rfl,hc2⟩:=hb;clear hxa hya;obtain⟨x,hx⟩:∃x,x=xs.getD k 0:=⟨_,rfl⟩
    obtain⟨y,hy⟩:∃y,y=ys.getD k 0:=⟨_,rfl⟩
    rw[<-hx]at hc1;rw[<-hy]at hc2;have HX:Hid (x=xs.getD k 0):=hx;have HY:Hid (y=ys.getD k 0):=hy;have HT:Hid (xs.take k=ys.take k):=htk;have HL:Hid (xs.length=n/\ys.length=n):=⟨hxl,hyl⟩
    clear hx hy htk hxl hyl;by_cases hxy:x=y
    .have hb:(x !=y)=false:=by simp[hxy]
     have HXY:Hid (x=y):=hxy;clear hxy
     go_wp2
     go_quiet(fail)
     go_wp2
     go_roundw;case rel=>exact⟨k+1,by omega,by go_num,J8 HL.out.1 HL.out.2 hlt HT.out (HX.out.symm.trans (HXY.out.trans HY.out)),_,by first|rfl|exact World.drewN_drewN _ _ _⟩
     case measure=>simp[intOf];omega
    .have hb:(x !=y)=true:=by simp[hxy]
     have HN:Hid (¬ xs=ys):=fun e=>hxy (by rw[HX.out,HY.out,e]);clear hxy
     go_wp2
     go_quiet(fail)
     go_wp2
     go_ret;exact⟨Av (AK HN.out).symm,_,World.drewN_drewN _ _ _⟩
   .have hkn:k=n:=by omega
    have HE:Hid (xs=ys):=by
     show xs=ys
     rwa [AV (by omega),AV (by omega)]at htk
    clear htk;subst hkn
    go_wp2
    go_ret;exact⟨Av (AL HE.out).symm,_,rfl⟩
 .have hn:((n:Int) !=(m:Int))=true:=by simp;omega
  have HN:Hid (¬ xs=ys):=fun e=>hne (by rw[<-hxl,<-hyl,e]);clear hne;go_enter func28,ntmps28
  go_wp2
  go_ret;exact⟨Av (AK HN.out).symm,0,rfl⟩
def AO.alloc{w:World}{a:Option Addr}{n:Nat}{zs:List Int}(h:AO w a n zs)(o:Obj):AO (w.alloc o) a n zs:=h.below AC (AG.alloc AC _)
def AO.drewN{w:World}{a:Option Addr}{n:Nat}{zs:List Int}(h:AO w a n zs)(q:Nat):AO (w.drewN q) a n zs:=⟨h.len,h.small,h.at_⟩
def Below.drewN{B:Nat}{a w:World}(h:Below B a w)(q:Nat):Below B a (w.drewN q):=h.trans ⟨rfl,rfl,rfl,AC,fun _ _=>rfl⟩
def AO.get{w:World}{a:Option Addr}{n:Nat}{zs:List Int}(h:AO w a n zs){k:Nat}(hk:k<n):∃b off,a=some ⟨b,off,none⟩/\b<w.heap.size/\w.cell? ⟨b,off+k,none⟩=some (.int .i64 (zs.getD k 0)):=by
 rcases h.at_ with h0|⟨b,off,rfl,hlt,hc⟩
 .omega
 .exact⟨b,off,rfl,hlt,hc k hk⟩
def Kk(c:Bool)(a1 a2:Option Addr)(n1 n2 c1 c2:Nat)(left:Int)(w:World)(h1:n1<=9223372036854775807)(h2:n2<=9223372036854775807)(hl:0<=left)(hl2:left<=1048576)(hA:left<n1+n2):Calls prog 19 #[.agg #[.bool c,.slice a1 n1 c1,.slice a2 n2 c2],.int .i64 left] w fun e w'=>e=.returned (.int .i64 (-1))/\Below w.heap.size w w':=by
 by_cases hB:left<n1
 .go_enter func19,ntmps19;go_wp2_with fail;refine(L0 _ _ _ _ _ h1 hl hl2 hB).mono ?_;rintro e w'⟨rfl,rfl⟩
  go_wp2
  go_ret;exact⟨rfl,AG.alloc AC _⟩
 .go_enter func19,ntmps19;go_wp2_with fail;refine(KA _ _ _ _ _ hl2 (by omega)).mono ?_;rintro e w'⟨rfl,rfl⟩;go_wp2_with fail;refine(L0 _ _ _ _ _ h2 (by omega) (by omega) (by omega)).mono ?_;rintro e w'⟨rfl,rfl⟩
  go_wp2
  go_ret;exact⟨rfl,AG.alloc AC _⟩
def Ir(c:Bool)(a1 a2:Option Addr)(n1 n2 c1 c2:Nat)(left:Int)(w:World)(hl2:left<=1048576)(hA:n1+n2<=left):Calls prog 19 #[.agg #[.bool c,.slice a1 n1 c1,.slice a2 n2 c2],.int .i64 left] w fun e w'=>e=.returned (.int .i64 (left- n1- n2))/\Below w.heap.size w w':=by
 go_enter func19,ntmps19;go_wp2_with fail;refine(KA _ _ _ _ _ hl2 (by omega)).mono ?_;rintro e w'⟨rfl,rfl⟩;go_wp2_with fail;refine(KA _ _ _ _ _ (by omega) (by omega)).mono ?_;rintro e w'⟨rfl,rfl⟩
 go_wp2
 go_ret;exact⟨rfl,AG.alloc AC _⟩
def DX(c:Bool)(a1 a2:Option Addr)(n1 n2 c1 c2:Nat)(sh dt:List Int)(w:World)(h1:AO w a1 n1 sh)(h2:AO w a2 n2 dt):Calls prog 21 #[.agg #[.bool c,.slice a1 n1 c1,.slice a2 n2 c2]] w fun e w'=>∃g1 g2,e=.returned (.agg #[.bool c,.slice (some ⟨g1,0,none⟩) n1 n1,.slice (some ⟨g2,0,none⟩) n2 n2])/\w.heap.size<=g1/\g1<g2/\BA w' g1 sh/\BA w' g2 dt/\Below w.heap.size w w':=by
 go_enter func21,ntmps21;go_wp2_with fail;refine(Ly _ _ _ sh _ (by exact h1.below AC (by repeat(first|exact AG|refine BD ?_ (by simp<;>omega) _)))).mono ?_;rintro e w1⟨g1,rfl,hg1,hb1,hbe1⟩;obtain⟨hc,hf⟩:=Tw hbe1;have hz:=hbe1.size;have hbW:Below w.heap.size w w1:=DZ (by repeat(first|exact AG|refine BD ?_ (by simp<;>omega) _)) (hbe1.mono (by simp<;>omega));simp at hc hf hz hg1;have hz0:w.heap.size<w1.heap.size:=by omega
 have hz1:w.heap.size+1<w1.heap.size:=by omega
 have hz3:w.heap.size+1+1<w1.heap.size:=by omega
 clear hbe1;go_wp2_with fail;refine(Ly _ _ _ dt _ (by exact h2.below AC (hbW.setCell (by simp<;>omega) _))).mono ?_;rintro e w2⟨g2,rfl,hg2,hb2,hbe2⟩;obtain⟨hc2,hf2⟩:=Tw hbe2;have hz2:=hbe2.size;have hbW2:Below w.heap.size w w2:=(hbW.setCell (p:=⟨w.heap.size+1+1,1,none⟩) (by simp<;>omega) _).trans (hbe2.mono (by simp<;>omega));have hb1':BA w2 g1 sh:=(hb1.other (p:=⟨w.heap.size+1+1,1,none⟩) (by simp;omega) _).below AC hbe2;simp at hc2 hf2 hz2 hg2;clear hbe2
 go_wp2
 refine bodyPost_ret (v:=.agg #[.bool c,.slice (some ⟨g1,0,none⟩) n1 n1,.slice (some ⟨g2,0,none⟩) n2 n2]) (by simp[results,results21,go_sem,hc2,hc,hz1]) rfl ⟨g1,g2,rfl,by omega,?_,?_,?_,?_⟩
 .have:=hb1.lt;omega
 .exact(((hb1'.other (by simp;omega) _).other (by simp;omega) _).other (by simp;omega) _).other (by simp;omega) _
 .exact(((hb2.other (by simp;omega) _).other (by simp;omega) _).other (by simp;omega) _).other (by simp;omega) _
 .exact(((hbW2.setCell (by simp<;>omega) _).setCell (by simp) _).setCell (by simp) _).setCell (by simp) _
def Qx(c d:Bool)(a1 a2 b1 b2:Option Addr)(n1 n2 m1 m2 c1 c2 d1 d2:Nat)(sh dt sh' dt':List Int)(w:World)(h1:AO w a1 n1 sh)(h2:AO w a2 n2 dt)(k1:AO w b1 m1 sh')(k2:AO w b2 m2 dt'):Calls prog 13 #[.agg #[.bool c,.slice a1 n1 c1,.slice a2 n2 c2],.agg #[.bool d,.slice b1 m1 d1,.slice b2 m2 d2]] w fun e w'=>e=.returned (.bool (decide (c=d/\sh=sh'/\dt=dt')))/\Below w.heap.size w w':=by
 have hW:∀o1 o2,Below w.heap.size w ((w.alloc o1).alloc o2):=fun o1 o2=>(AG.alloc AC _).alloc (by simp) _;by_cases hcd:c=d
 .subst hcd;have hb:(c==c)=true:=by simp
  by_cases hs:sh=sh'
  .have HS:=hs;have hd1:decide (sh=sh')=true:=by simp[hs]
   clear hs;by_cases ht:dt=dt'
   .have hd2:decide (dt=dt')=true:=by simp[ht]
    have HE:Hid (decide (c=c/\sh=sh'/\dt=dt')=true):=AL ⟨rfl,HS,ht⟩;clear ht HS;go_enter func13,ntmps13;go_wp2_with fail;refine(Fw _ _ _ _ _ _ sh sh' _ ((h1.alloc _).alloc _) ((k1.alloc _).alloc _)).mono ?_;rintro e w1⟨rfl,q,rfl⟩;rw[hd1];go_wp2_with fail;refine(Fw _ _ _ _ _ _ dt dt' _ (((h2.alloc _).alloc _).drewN _) (((k2.alloc _).alloc _).drewN _)).mono ?_;rintro e w1⟨rfl,q,rfl⟩;rw[hd2]
    go_wp2
    go_ret;exact⟨Av HE.out.symm,Below.drewN (hW _ _) _⟩
   .have hd2:decide (dt=dt')=false:=by simp[ht]
    have HE:Hid (decide (c=c/\sh=sh'/\dt=dt')=false):=AK (fun h=>ht h.2.2);clear ht HS;go_enter func13,ntmps13;go_wp2_with fail;refine(Fw _ _ _ _ _ _ sh sh' _ ((h1.alloc _).alloc _) ((k1.alloc _).alloc _)).mono ?_;rintro e w1⟨rfl,q,rfl⟩;rw[hd1];go_wp2_with fail;refine(Fw _ _ _ _ _ _ dt dt' _ (((h2.alloc _).alloc _).drewN _) (((k2.alloc _).alloc _).drewN _)).mono ?_;rintro e w1⟨rfl,q,rfl⟩;rw[hd2]
    go_wp2
    go_ret;exact⟨Av HE.out.symm,Below.drewN (hW _ _) _⟩
  .have hd1:decide (sh=sh')=false:=by simp[hs]
   have HE:Hid (decide (c=c/\sh=sh'/\dt=dt')=false):=AK (fun h=>hs h.2.1);clear hs;go_enter func13,ntmps13;go_wp2_with fail;refine(Fw _ _ _ _ _ _ sh sh' _ ((h1.alloc _).alloc _) ((k1.alloc _).alloc _)).mono ?_;rintro e w1⟨rfl,q,rfl⟩;rw[hd1]
   go_wp2
   go_ret;exact⟨Av HE.out.symm,Below.drewN (hW _ _) _⟩
 .have hb:(c==d)=false:=by simp[hcd]
  have HE:Hid (decide (c=d/\sh=sh'/\dt=dt')=false):=AK (fun h=>hcd h.1);clear hcd;go_enter func13,ntmps13
  go_wp2
  go_ret;exact⟨Av HE.out.symm,hW _ _⟩
structure Bt(w:World)(B:Nat)(a:Option Addr)(n:Nat)(zs:List Int):Prop where
 len:zs.length=n
 small:n<=17592186044416
 at_:n=0\/∃g off,a=some ⟨g,off,none⟩/\B<=g/\g<w.heap.size/\(∀i,i<n->w.cell? ⟨g,off+i,none⟩=some (.int .i64 (zs.getD i 0)))/\(∀i,i<n->w.frozen? ⟨g,off+i,none⟩=false)
def Bt.row{w:World}{B:Nat}{a:Option Addr}{n:Nat}{zs:List Int}(h:Bt w B a n zs):AO w a n zs:=by
 refine⟨h.len,h.small,?_⟩;rcases h.at_ with h0|⟨g,off,rfl,_,hlt,hc,_⟩
 .exact .inl h0
 .exact .inr ⟨g,off,rfl,hlt,hc⟩
def Bt.mono{w:World}{B B':Nat}{a:Option Addr}{n:Nat}{zs:List Int}(h:Bt w B a n zs)(hB:B'<=B):Bt w B' a n zs:=by
 refine⟨h.len,h.small,?_⟩;rcases h.at_ with h0|⟨g,off,rfl,hg,r⟩
 .exact .inl h0
 .exact .inr ⟨g,off,rfl,by omega,r⟩
def Bt.below{w w':World}{a:Option Addr}{n:Nat}{zs:List Int}{B C:Nat}(h:Bt w C a n zs)(hB:w.heap.size<=B)(hb:Below B w w'):Bt w' C a n zs:=by
 refine⟨h.len,h.small,?_⟩;rcases h.at_ with h0|⟨g,off,rfl,hg,hlt,hc,hf⟩
 .exact .inl h0
 .exact .inr ⟨g,off,rfl,hg,AZ hlt hb.size,fun i hi=>(hb.cell (p:=⟨g,off+i,none⟩) (AZ hlt hB)).trans (hc i hi),fun i hi=>(hb.frozen (p:=⟨g,off+i,none⟩) (AZ hlt hB)).trans (hf i hi)⟩
def BA.own{w:World}{B g n:Nat}{zs:List Int}(h:BA w g zs)(hn:zs.length=n)(hs:n<=17592186044416)(hg:B<=g):Bt w B (some ⟨g,0,none⟩) n zs:=⟨hn,hs,.inr ⟨g,0,rfl,hg,h.lt,fun i hi=>by simpa using h.cell (i:=i) (by omega),fun i hi=>h.free _⟩⟩
def At(a:Option Addr)(n k:Nat):Prop:=n≠0/\∃p,a=some p/\p.block=k
def DK{g off n:Nat}(h:n≠0):At (some ⟨g,off,none⟩) n g:=⟨h,_,rfl,rfl⟩
def DT{g off n k:Nat}(h:At (some ⟨g,off,none⟩) n k):g=k:=by obtain⟨_,p,hp,hk⟩:=h;cases hp;exact hk
structure BS(S:Nat->Prop)(w w':World):Prop where
 os:w'.os=w.os
 tape:w'.tape=w.tape
 output:w'.output=w.output
 size:w.heap.size<=w'.heap.size
 block:∀k,k<w.heap.size->¬ S k->w'.heap[k]? =w.heap[k]?
def BS.refl(S:Nat->Prop)(w:World):BS S w w:=⟨rfl,rfl,rfl,AC,fun _ _ _=>rfl⟩
def BS.trans{S T:Nat->Prop}{w w1 w2:World}(h:BS S w w1)(k:BS T w1 w2):BS (fun x=>S x\/T x) w w2:=⟨k.os.trans h.os,k.tape.trans h.tape,k.output.trans h.output,Dg h.size k.size,fun i hi hn=>(k.block i (AZ hi h.size) (fun e=>hn (.inr e))).trans (h.block i hi (fun e=>hn (.inl e)))⟩
def BS.mono{S T:Nat->Prop}{w w1:World}(h:BS S w w1)(hs:∀k,S k->T k):BS T w w1:=⟨h.os,h.tape,h.output,h.size,fun k hk hn=>h.block k hk (fun e=>hn (hs k e))⟩
def BS.of_below{S:Nat->Prop}{w w':World}(h:Below w.heap.size w w'):BS S w w':=⟨h.os,h.tape,h.output,h.size,fun k hk _=>h.block k hk⟩
def BS.setCell{S:Nat->Prop}{w w':World}(h:BS S w w'){p:Addr}(hp:S p.block)(v:Value):BS S w (w'.setCell p v):=⟨h.os,h.tape,h.output,by simpa using h.size,fun k hk hn=>by rw[Cg w' p k v (fun e=>hn (by rw[e];exact hp))];exact h.block k hk hn⟩
def BS.alloc{S:Nat->Prop}{w w':World}(h:BS S w w')(o:Obj):BS S w (w'.alloc o):=⟨h.os,h.tape,h.output,by have:=h.size;simp;omega,fun k hk hn=>(Ab w' o k (AZ hk h.size)).trans (h.block k hk hn)⟩
def BS.below{S:Nat->Prop}{B:Nat}{w w':World}(h:BS S w w')(hB:B<=w.heap.size)(hs:∀k,S k->B<=k):Below B w w':=⟨h.os,h.tape,h.output,h.size,fun k hk=>h.block k (AZ hk hB) (fun e=>by have:=hs k e;omega)⟩
def Ip(a:Option Addr)(n:Nat)(b:Option Addr)(m:Nat):Prop:=∀k,At a n k->¬ At b m k
def Ip.symm{a b:Option Addr}{n m:Nat}(h:Ip a n b m):Ip b m a n:=fun k h1 h2=>h k h2 h1
def BS.own{S:Nat->Prop}{b:Option Addr}{m B:Nat}{w w':World}{ys:List Int}(h:BS S w w')(ho:Bt w B b m ys)(hap:∀k,S k->¬ At b m k):Bt w' B b m ys:=by
 refine⟨ho.len,ho.small,?_⟩;rcases ho.at_ with h0|⟨g,off,rfl,hg,hlt,hc,hf⟩
 .exact .inl h0
 .by_cases hm:m=0
  .exact .inl hm
  have hb:=h.block g hlt (fun e=>hap g e ⟨hm,_,rfl,rfl⟩);exact .inr ⟨g,off,rfl,hg,AZ hlt h.size,fun i hi=>(World.cell?_of_block (w:=w) (a:=⟨g,off+i,none⟩) hb).trans (hc i hi),fun i hi=>(World.frozen?_of_block (w:=w) (a:=⟨g,off+i,none⟩) hb).trans (hf i hi)⟩
def BS.row{S:Nat->Prop}{b:Option Addr}{m:Nat}{w w':World}{ys:List Int}(h:BS S w w')(ho:AO w b m ys)(hap:∀k,S k->¬ At b m k):AO w' b m ys:=by
 refine⟨ho.len,ho.small,?_⟩;rcases ho.at_ with h0|⟨g,off,rfl,hlt,hc⟩
 .exact .inl h0
 .by_cases hm:m=0
  .exact .inl hm
  have hb:=h.block g hlt (fun e=>hap g e ⟨hm,_,rfl,rfl⟩);exact .inr ⟨g,off,rfl,AZ hlt h.size,fun i hi=>(World.cell?_of_block (w:=w) (a:=⟨g,off+i,none⟩) hb).trans (hc i hi)⟩
def Bt.low{w:World}{B:Nat}{a:Option Addr}{n:Nat}{zs:List Int}(h:Bt w B a n zs){k:Nat}(hk:At a n k):B<=k:=by
 rcases h.at_ with h0|⟨g,off,rfl,hg,_⟩
 .exact absurd h0 hk.1
 .have:=DT hk;omega
def AO.hi{w:World}{a:Option Addr}{n:Nat}{zs:List Int}(h:AO w a n zs){k:Nat}(hk:At a n k):k<w.heap.size:=by
 rcases h.at_ with h0|⟨g,off,rfl,hg,_⟩
 .exact absurd h0 hk.1
 .have:=DT hk;omega
def Hz(k:Int)(n:Nat):List Int:=(List.range n).map fun(i:Nat)=>k+(i:Int)
def Ua(k:Int)(n:Nat):(Hz k n).length=n:=by simp[Hz]
def OT(k:Int)(n i:Nat)(h:i<n):(Hz k n).getD i 0=k+i:=by simp[Hz,h]
def Qm(a:Option Addr)(n cap:Nat)(sh:List Int)(w:World)(h:AO w a n sh):Calls prog 48 #[.slice a n cap] w fun e w'=>e=.returned (.int .i64 (Ac sh))/\w'=w:=by
 have Bq:=AD h.len;have hsm:=h.small;have H:=AD h;clear h;go_enter func48,ntmps48
 go_wp2
 go_loop [4] (fun i=>∃k:Nat,k<=n/\i=.int .i64 k/\Hid ((sh.take k).all Be=true)) (fun i=>n- (intOf i).toNat)
 case atStart=>exact⟨0,AS _,rfl,rfl⟩
 case round=>
  obtain⟨k,hk,rfl,hall⟩:=hrel;by_cases hlt:k<n
  .obtain⟨b,off,rfl,hblt,hc⟩:=(AA H).get hlt;have hks:Hid (k<sh.length):=by show k<sh.length;rw[AA Bq];exact hlt
   obtain⟨x,hx⟩:∃x,x=sh.getD k 0:=⟨_,rfl⟩
   rw[<-hx]at hc;have HX:=AD hx;clear hx;by_cases hneg:x<0
   .have HE:Hid (Ac sh= -1):=Ka sh (Fk sh Be k (AA hks) (by rw[<-AA HX];exact AK (by omega)))
    go_wp2
    go_ret;exact⟨BM HE.out.symm,rfl⟩
   .by_cases hbig:10000<x
    .have HE:Hid (Ac sh= -1):=Ka sh (Fk sh Be k (AA hks) (by rw[<-AA HX];exact AK (by omega)))
     go_wp2
     go_ret;exact⟨BM HE.out.symm,rfl⟩
    .have HA:Hid ((sh.take (k+1)).all Be=true):=FX sh Be k (AA hks) (AA hall) (by rw[<-AA HX];exact AL (by omega))
     go_wp2
     go_round
     case rel=>exact⟨k+1,by omega,by go_num,HA⟩
     case measure=>simp[intOf];omega
  .have HA:Hid (sh.all Be=true):=by
    have:=AA hall
    rwa [AV (by rw[AA Bq];omega)]at this
   clear hall
   go_wp2
   go_loop [3,5,6] (fun p z i=>∃(k:Nat)(m:Int),k<=n/\i=.int .i64 k/\p=.int .i64 m/\Hid (Aj (sh.take k) 1=some m)/\z=.bool (decide (0∈sh.take k))) (fun _ _ i=>n- (intOf i).toNat)
   case atStart=>exact⟨0,1,AS _,rfl,rfl,rfl,rfl⟩
   case round=>
    obtain⟨k,m,hk,rfl,rfl,hp,rfl⟩:=hrel;have hmb:=D1 (sh.take k) 1 m (by rw[A7];exact fun x hx=>A7.1 (AA HA) x (List.mem_of_mem_take hx)) (by omega) (by omega) (AA hp);obtain⟨hm1,hm2⟩:=hmb;by_cases hlt:k<n
    .obtain⟨b,off,rfl,hblt,hc⟩:=(AA H).get hlt;have hks:Hid (k<sh.length):=by show k<sh.length;rw[AA Bq];exact hlt
     have hxb:0<=sh.getD k 0/\sh.getD k 0<=10000:=BB (A7.1 (AA HA) (sh.getD k 0) (by simp[AA hks]));have HZ:=AD (T2 sh k (AA hks));obtain⟨x,hx⟩:∃x,x=sh.getD k 0:=⟨_,rfl⟩
     rw[<-hx]at hc hxb;obtain⟨hx0,hx1⟩:=hxb;have HX:=AD hx;clear hx;generalize decide (0∈sh.take k)=z0 at*;by_cases h0:x=0
     .have hb:(x==0)=true:=by simp[h0]
      have HP:=AD (MI sh k (AA hks) m (AA hp) (by rw[<-AA HX];exact h0));have HZ2:Hid (true=decide (0∈sh.take (k+1))):=by show _=_;rw[AA HZ,<-AA HX,AL h0,Bool.or_true]
      clear h0 HZ
      go_wp2
      go_round
      case rel=>exact⟨k+1,m,by omega,by go_num,rfl,HP,by rw[<-AA HZ2]⟩
      case measure=>simp[intOf];omega
     .have hb:(x==0)=false:=by simp[h0]
      have HZ2:Hid (z0=decide (0∈sh.take (k+1))):=by show _=_;rw[AA HZ,<-AA HX,AK h0,Bool.or_false]
      have hmx:m*x<=10000*10000:=Int.mul_le_mul hm2 hx1 hx0 (by omega);have hmx0:0<=m*x:=Int.mul_nonneg (by omega) hx0;by_cases hbig:10000<m*x
      .have HE:Hid (Ac sh= -1):=Oe sh (OM sh k (AA hks) m (AA hp) (by rw[<-AA HX];exact h0) (by rw[<-AA HX];exact hbig));clear h0 HZ
       go_wp2
       go_ret;exact⟨BM HE.out.symm,rfl⟩
      .have HP:=AD (OK sh k (AA hks) m (AA hp) (by rw[<-AA HX];exact h0) (by rw[<-AA HX];omega));rw[<-AA HX]at HP;clear h0 HZ
       go_wp2
       go_round
       case rel=>exact⟨k+1,m*x,by omega,by go_num,rfl,HP,by rw[<-AA HZ2]⟩
       case measure=>simp[intOf];omega
    .have HP:Hid (Aj sh 1=some m):=by
      have:=AA hp
      rwa [AV (by rw[AA Bq];omega)]at this
     rw[AV (by rw[AA Bq];omega)];by_cases hz:0∈sh
     .have hd:decide (0∈sh)=true:=AL hz;have HE:=AD (NB sh m (AA HA) (AA HP) hd);clear hz;rw[hd]
      go_wp2
      go_ret;exact⟨BM HE.out.symm,rfl⟩
     .have hd:decide (0∈sh)=false:=AK hz;have HE:=AD (Tr sh m (AA HA) (AA HP) hd);clear hz;rw[hd]
      go_wp2
      go_ret;exact⟨BM HE.out.symm,rfl⟩
def EY(a:Option Addr)(n cap:Nat)(sh:List Int)(w:World)(h:AO w a n sh)(cn:Int)(hc:Hid (Ac sh=cn)):Calls prog 48 #[.slice a n cap] w fun e w'=>e=.returned (.int .i64 cn)/\w'=w:=by rw[<-hc.out];exact Qm a n cap sh w h
def Xo{w wr:World}{o1 o2:Obj}(hK:Below (w.heap.size+2) ((w.alloc o1).alloc o2) wr):Below w.heap.size w wr/\w.heap.size+2<=wr.heap.size/\(∀b o,b<w.heap.size+2->wr.cell? ⟨b,o,none⟩=((w.alloc o1).alloc o2).cell? ⟨b,o,none⟩):=⟨((AG.alloc AC _).alloc (by simp) _).trans (hK.mono (by omega)),by have:=hK.size;simp at this;omega,fun b o hb=>hK.cell (p:=⟨b,o,none⟩) hb⟩
structure Y1(w:World)(a:Option Addr)(n:Nat)(zs:List Int):Prop where
 len:zs.length=n
 max:n<=9223372036854775807
 at_:n=0\/∃b off,a=some ⟨b,off,none⟩/\b<w.heap.size/\∀i,i<n->w.cell? ⟨b,off+i,none⟩=some (.int .i64 (zs.getD i 0))
def Y1.row{w:World}{a:Option Addr}{n:Nat}{zs:List Int}(h:Y1 w a n zs)(hn:n<=17592186044416):AO w a n zs:=⟨h.len,hn,h.at_⟩
def Ai(w:World)(p:Nat)(c:Bool)(v1 v2:Value):Prop:=w.heap[p]? =some (.cells #[.bool c,v1,v2] 25 (0,0))
def Ai.lt{w:World}{p:Nat}{c:Bool}{v1 v2:Value}(h:Ai w p c v1 v2):p<w.heap.size:=lt_of_block h
def Ai.cells{w:World}{p:Nat}{c:Bool}{v1 v2:Value}(h:Ai w p c v1 v2):w.cell? ⟨p,0,none⟩=some (.bool c)/\w.cell? ⟨p,1,none⟩=some v1/\w.cell? ⟨p,2,none⟩=some v2:=by unfold Ai at h;simp[World.cell?,h]
def Ai.below{w w':World}{p B:Nat}{c:Bool}{v1 v2:Value}(h:Ai w p c v1 v2)(hB:w.heap.size<=B)(hb:Below B w w'):Ai w' p c v1 v2:=(hb.block p (AZ h.lt hB)).trans h
def Ai.but{S:Nat->Prop}{w w':World}{p:Nat}{c:Bool}{v1 v2:Value}(h:Ai w p c v1 v2)(hb:BS S w w')(hn:¬ S p):Ai w' p c v1 v2:=(hb.block p h.lt hn).trans h
def Ai.alloc{w:World}{p:Nat}{c:Bool}{v1 v2:Value}(h:Ai w p c v1 v2)(o:Obj):Ai (w.alloc o) p c v1 v2:=(Ab w o p h.lt).trans h
def Ai.drew{w:World}{p:Nat}{c:Bool}{v1 v2:Value}(h:Ai w p c v1 v2):Ai w.drew p c v1 v2:=h
def Ai.new(w:World)(c:Bool)(v1 v2:Value):Ai (w.alloc (.cells #[.bool c,v1,v2] 25 (0,0))) w.heap.size c v1 v2:=by show(w.heap.push _)[w.heap.size]? =_;simp
