import Derived.Test.YtinndpnilmmmjaaGreatDoorZ00
import Derived.Deep.DeepCutAuto
set_option maxHeartbeats 2000000
set_option linter.defProp false
namespace Go.Proofs.YtinndpnilmmmjaaGreatDoor
open Go.RowKit Tryz
def OK{T:AE->Bool}{ns:List AM}(h:¬(1<=ns.length/\ns.length<=600)):F5 T ns=false:=by unfold F5;rw[AD h];rfl
def UD{T:AE->Bool}{ns:List AM}{i:Nat}(h:EG ns (i+1)=none)(hi:i<ns.length):F5 T ns=false:=by have:=M3 h (ns.length- (i+1));rw[show i+1+(ns.length- (i+1))=ns.length by omega]at this;unfold F5;rw[this];exact Da _
def OX{T:AE->Bool}{ns:List AM}{st st':List (Nat×Nat)}{j:Nat}(h:st.getD j (0,0)=st'.getD j (0,0)):Fi T ns st j=Fi T ns st' j:=by unfold Fi;rw[h]
def Vw{T:AE->Bool}{ns:List AM}{i:Nat}{st:List (Nat×Nat)}(h:EG ns (i+1)=some st)(hi:i<ns.length)(hb:Fi T ns st i=false):F5 T ns=false:=by
 unfold F5;cases hS:EG ns ns.length with
 |none=>exact Da _
 |some S=>
  have ht:=M2 (i:=i+1) (ns.length- (i+1)) (st:=S) (by rw[show i+1+(ns.length- (i+1))=ns.length by omega];exact hS);rw[h]at ht;have e:st.getD i (0,0)=S.getD i (0,0):=by rw[Ac ht];simp[List.getD_eq_getElem?_getD]
  rw[OX e]at hb;have:(List.range ns.length).all (Fi T ns S)=false:=Ev.2 ⟨i,DZ.2 hi,by rw[hb];decide⟩;dsimp only;rw[this];simp
def UE{T:AE->Bool}{ns:List AM}{st:List (Nat×Nat)}(h:EG ns ns.length=some st)(hs:1<=ns.length/\ns.length<=600)(ha:∀j,j<ns.length->Fi T ns st j=true):F5 T ns=decide ((st.getD (ns.length- 1) (0,0)).1=0):=by unfold F5;rw[AK hs,h];have:(List.range ns.length).all (Fi T ns st)=true:=Ax.2 fun j hj=>ha j (DZ.1 hj);dsimp only;rw[this];rfl
def SS{T:AE->Bool}{ns:List AM}{i:Nat}{st:List (Nat×Nat)}{p:Nat×Nat}(hl:st.length=i)(h:∀j,j<i->Fi T ns st j=true)(hp:Fi T ns (st++ [p]) i=true):∀j,j<i+1->Fi T ns (st++ [p]) j=true:=fun j hj=>by
 by_cases e:j=i
 .subst e;exact hp
 .rw[OX (st':=st)]
  .exact h j (by omega)
  .simp[List.getD_eq_getElem?_getD,List.getElem?_append_left (show j<st.length by omega)]
def Ql{k:Int}{ks:List Int}(h:Bu k ks=true):(k=7->1<=ks.length)/\(k=9->2<=ks.length)/\(k=10->3<=ks.length):=by
 refine⟨fun e=> ?_,fun e=> ?_,fun e=> ?_⟩
 .subst e;unfold Bu at h;rw[AL rfl,An,As]at h;omega
 .subst e;have h':B3 [102,101] ks=true:=h;rw[Qn,An,As]at h';omega
 .subst e;have h':B3 [101,102,101] ks=true:=h;rw[af,An,As]at h';omega
def MK{st:List (Nat×Nat)}{kids:List Int}{k a hi:Nat}(h:¬(1<=a/\kids.getD k 0=(a:Int)- 1)):ME st kids (k+1) a hi=none:=by rw[ME,AG h]
def X0{st:List (Nat×Nat)}{kids:List Int}{k y hi:Nat}(h:kids.getD k 0=((y:Nat):Int)):ME st kids (k+1) (y+1) hi=ME st kids k (st.getD y (0,0)).1 (max hi ((st.getD y (0,0)).2+1)):=by rw[ME,AL ⟨by omega,by rw[h];omega⟩];rfl
def H8(ks:List Int)(k:Nat):List Int:=List.replicate k 0++ks.drop k
def VM{ks:List Int}{k:Nat}(h:k<=ks.length):(H8 ks k).length=ks.length:=by unfold H8;simp;omega
def Q2(ks:List Int):H8 ks ks.length=List.replicate ks.length 0:=by unfold H8;simp
def VN(ks:List Int):H8 ks 0=ks:=by unfold H8;simp
def VL{ks:List Int}{k:Nat}(h:k<ks.length):(H8 ks (k+1)).set k (ks.getD k 0)=H8 ks k:=by unfold H8;rw[List.replicate_succ',Aj,List.set_append_right _ _ (by simp),List.length_replicate,FM];rw[CL (i:=k) h];simp[List.getD_eq_getElem?_getD,h]
def DD(ns:List AM)(zs:List Int):(BA ns zs).length=zs.length:=by unfold BA;simp
def Of{ns:List AM}{zs:List Int}{k:Nat}(h:k<zs.length):(BA ns zs).getD k 0=(Af ns (zs.getD k 0).toNat).k:=by unfold BA;simp[List.getD_eq_getElem?_getD,h]
def X1{st:List (Nat×Nat)}{kids:List Int}(hst:∀j,j<st.length->(st.getD j (0,0)).1<=j/\(st.getD j (0,0)).2<=j):∀(k a hi:Nat)(r:Nat×Nat),a<=st.length->ME st kids k a hi=some r->r.2<=max hi a
 |0,a,hi,r,ha,h=>by rw[ME]at h;cases h;exact Nat.le_max_left _ _
 |k+1,a,hi,r,ha,h=>by
  rw[ME]at h;by_cases hc:1<=a/\kids.getD k 0=(a:Int)- 1
  .rw[AL hc]at h;have hle:=hst (a- 1) (by omega);have:=X1 hst k _ _ r (by omega) h;omega
  .rw[AG hc]at h;cases h
def SP{ns:List AM}:∀(n:Nat){st:List (Nat×Nat)},EG ns n=some st->∀j,j<n->(st.getD j (0,0)).2<=j
 |0,st,h,j,hj=>by omega
 |n+1,st,h,j,hj=>by
  have hl:=Gw h;have hp:=Kp h;have ih:=SP n hp.1;have ih1:=Lb n hp.1;have e:∀j,j<n->(st.take n).getD j (0,0)=st.getD j (0,0):=fun j hj=>by simp[List.getD_eq_getElem?_getD,hj]
  by_cases hjn:j<n
  .rw[<-e j hjn];exact ih j hjn
  .have hjn':j=n:=by omega
   subst hjn';have:=X1 (fun i hi=>⟨ih1 i (by simp at hi;omega),ih i (by simp at hi;omega)⟩) _ _ _ _ (by simp;omega) hp.2;omega
def Ra{w w1:World}{base n:Nat}{v:Value}{xs:List Value}(o:Obj)(ET:w.ownsRow base 3 1 v n xs)(hb:base<=w.heap.size)(hg:(w.alloc o).grownBy w1 v.ownBlock):Below base w w1:=(AI.alloc hb _).grown hg (by simp;omega) (by
  intro k hk;rcases ET.2 with⟨rfl,_⟩|⟨g,cap,cur,rfl,hbg,_⟩
  .cases hk
  .cases hk;exact hbg)
def Qc(w:World)(x:Int):∀(j:Nat)u,([.int .i64 x]:List Value)[j]? =some u->(w.alloc (.cells #[.int .i64 x] 3)).cell? ((⟨w.heap.size,0,none⟩:Addr).add j)=some u:=by
 intro j u hj
 match j,hj with
 |0,hj=>simp at hj;subst hj;simp[Addr.add]
def W8(x:Int):∀u∈([.int .i64 x]:List Value),u.oneCell'=true:=by intro u hu;simp at hu;subst hu;rfl
def Wr{w:World}{base e size n g:Nat}{v:Value}{xs:List Value}(h:w.ownsRow base e size v n xs)(hg:v.ownBlock=some g):g<w.heap.size:=by
 rcases h.2 with⟨rfl,_⟩|⟨g',cap,cur,rfl,_,hh,_⟩
 .cases hg
 .cases hg;exact lt_of_block hh
def QY{w w1:World}{base base' n g g2 cap:Nat}{xs:List Value}(h:w.ownsRow base 3 1 (.slice (some ⟨g,0,none⟩) n cap) n xs)(o:Obj)(hg:(w.alloc o).grownBy w1 (some g2))(hne:g≠g2)(hb:base'<=base):w1.ownsRow base' 3 1 (.slice (some ⟨g,0,none⟩) n cap) n xs:=by
 obtain⟨h1,h2⟩:=h;refine⟨h1,?_⟩;rcases h2 with⟨h2,_⟩|⟨g',CW,cur,hv,hg',hh,r⟩
 .simp at h2
 .have e:g=g':=by simp at hv;exact hv.1
  subst e;refine Or.inr ⟨g,CW,cur,hv,by omega,?_,r⟩;have hlt:=lt_of_block hh;exact(hg.block g (by simp;omega) (fun e=>hne (by simpa using e))).trans ((Cm w o g hlt).trans hh)
structure Jw(W wr:World)(k1:Nat)(xs:List Int)(k2:Nat)(ys:List Int)(g1 p1 g2 p2:Nat):Prop where
 o1:wr.ownsRow W.heap.size 3 1 (.slice (some ⟨g1,0,none⟩) k1 p1) k1 (xs.map (Value.int .i64))
 o2:wr.ownsRow W.heap.size 3 1 (.slice (some ⟨g2,0,none⟩) k2 p2) k2 (ys.map (Value.int .i64))
 ne:g1≠g2
 low:Below W.heap.size W wr
def Jw.below{W wr w':World}{k1 k2:Nat}{xs ys:List Int}{g1 p1 g2 p2:Nat}(h:Jw W wr k1 xs k2 ys g1 p1 g2 p2)(hb:Below wr.heap.size wr w'):Jw W w' k1 xs k2 ys g1 p1 g2 p2:=⟨EW h.o1 AC hb,EW h.o2 AC hb,h.ne,h.low.trans (hb.mono h.low.size)⟩
def Ws{S:Nat->Prop}{w w':World}{base e size n g cap:Nat}{xs:List Value}(h:w.ownsRow base e size (.slice (some ⟨g,0,none⟩) n cap) n xs)(hb:EF S w w')(hg:¬ S g):w'.ownsRow base e size (.slice (some ⟨g,0,none⟩) n cap) n xs:=by
 obtain⟨h1,h2⟩:=h;refine⟨h1,?_⟩;rcases h2 with h2|⟨g',CW,cur,hv,hg',hh,r⟩
 .exact Or.inl h2
 .have e:g=g':=by simp at hv;exact hv.1
  subst e;exact Or.inr ⟨g,CW,cur,hv,hg',(hb.block g (lt_of_block hh) hg).trans hh,r⟩
def Jw.but{S:Nat->Prop}{W wr w':World}{k1 k2:Nat}{xs ys:List Int}{g1 p1 g2 p2:Nat}(h:Jw W wr k1 xs k2 ys g1 p1 g2 p2)(hb:EF S wr w')(h1:¬ S g1)(h2:¬ S g2)(hS:∀k,S k->W.heap.size<=k):Jw W w' k1 xs k2 ys g1 p1 g2 p2:=⟨Ws h.o1 hb h1,Ws h.o2 hb h2,h.ne,h.low.trans (hb.below h.low.size hS)⟩
def Jw.start(W:World):Jw W ((W.alloc (.cells #[] 3)).alloc (.cells #[] 3)) 0 [] 0 [] W.heap.size 0 (W.heap.size+1) 0:=by
 refine⟨⟨by simp,.inr ⟨W.heap.size,0,#[],rfl,AC,?_,by simp,by unfold maxLen;omega,by simp,by simp⟩⟩,⟨by simp,.inr ⟨W.heap.size+1,0,#[],rfl,by omega,?_,by simp,by unfold maxLen;omega,by simp,by simp⟩⟩,by omega,(AI.alloc AC _).alloc (by simp) _⟩
 .refine(Cm _ _ _ (by simp)).trans ?_;show(W.heap.push _)[W.heap.size]? =_;simp
 .have h2:((W.alloc (.cells #[] 3)).heap.push (.cells #[] 3))[(W.alloc (.cells #[] 3)).heap.size]? =some (.cells #[] 3):=Array.getElem?_push_size;rw[World.size_alloc]at h2;exact h2
def Jw.push1{W wr w7:World}{k1 k2:Nat}{xs ys:List Int}{g1 p1 g2 p2 g' p':Nat}{x:Int}(o:Obj)(h:Jw W wr k1 xs k2 ys g1 p1 g2 p2)(ET:w7.ownsRow W.heap.size 3 1 (.slice (some ⟨g',0,none⟩) (k1+1) p') (k1+1) (xs.map (Value.int .i64)++ [.int .i64 x]))(hg:(wr.alloc o).grownBy w7 (Value.ownBlock (.slice (some ⟨g1,0,none⟩) k1 p1)))(hat:Value.ownBlock (.slice (some ⟨g1,0,none⟩) k1 p1)=some g'\/g'=wr.heap.size+1):Jw W w7 (k1+1) (xs++ [x]) k2 ys g' p' g2 p2:=by
 have hg1:(wr.alloc o).grownBy w7 (some g1):=hg;refine⟨?_,QY h.o2 o hg1 (fun e=>h.ne e.symm) AC,?_,h.low.trans (Ra o h.o1 h.low.size hg)⟩
 .rw[Ao];simpa using ET
 .rcases hat with e|e
  .have e':g1=g':=by simpa[Value.ownBlock]using e
   rw[<-e'];exact h.ne
  .have:=Wr h.o2 (g:=g2) rfl;omega
def Jw.push2{W wr w7:World}{k1 k2:Nat}{xs ys:List Int}{g1 p1 g2 p2 g' p':Nat}{x:Int}(o:Obj)(h:Jw W wr k1 xs k2 ys g1 p1 g2 p2)(ET:w7.ownsRow W.heap.size 3 1 (.slice (some ⟨g',0,none⟩) (k2+1) p') (k2+1) (ys.map (Value.int .i64)++ [.int .i64 x]))(hg:(wr.alloc o).grownBy w7 (Value.ownBlock (.slice (some ⟨g2,0,none⟩) k2 p2)))(hat:Value.ownBlock (.slice (some ⟨g2,0,none⟩) k2 p2)=some g'\/g'=wr.heap.size+1):Jw W w7 k1 xs (k2+1) (ys++ [x]) g1 p1 g' p':=by
 have hg1:(wr.alloc o).grownBy w7 (some g2):=hg;refine⟨QY h.o1 o hg1 h.ne AC,?_,?_,h.low.trans (Ra o h.o2 h.low.size hg)⟩
 .rw[Ao];simpa using ET
 .rcases hat with e|e
  .have e':g2=g':=by simpa[Value.ownBlock]using e
   rw[<-e'];exact h.ne
  .have:=Wr h.o1 (g:=g1) rfl;omega
def ci(st:List (Nat×Nat)):List Int:=st.map fun p=>((p.1:Nat):Int)
def cf(st:List (Nat×Nat)):List Int:=st.map fun p=>((p.2:Nat):Int)
def T2{st:List (Nat×Nat)}{y:Nat}(h:y<st.length):(ci st).getD y 0=(((st.getD y (0,0)).1:Nat):Int):=by unfold ci;simp[List.getD_eq_getElem?_getD,h]
def Yu{st:List (Nat×Nat)}{y:Nat}(h:y<st.length):(cf st).getD y 0=(((st.getD y (0,0)).2:Nat):Int):=by unfold cf;simp[List.getD_eq_getElem?_getD,h]
def YY(st:List (Nat×Nat))(p:Nat×Nat):ci (st++ [p])=ci st++ [((p.1:Nat):Int)]:=by unfold ci;simp
def V0(st:List (Nat×Nat))(p:Nat×Nat):cf (st++ [p])=cf st++ [((p.2:Nat):Int)]:=by unfold cf;simp
def M1{w:World}{B n g cap:Nat}{xs:List Int}(h:w.ownsRow B 3 1 (.slice (some ⟨g,0,none⟩) n cap) n (xs.map (Value.int .i64))){i:Nat}(hi:i<n):w.cell? ⟨g,i,none⟩=some (.int .i64 (xs.getD i 0))/\g<w.heap.size/\B<=g:=by
 have hl:xs.length=n:=by simpa using h.1
 rcases h.2 with⟨h',_⟩|⟨g',CW,cur,h',hb,hg,_,_,hcs,ht⟩
 .simp at h'
 .cases h';refine⟨?_,lt_of_block hg,hb⟩;have e:cur.toList[i]? =(xs.map (Value.int .i64))[i]? :=by rw[<-ht,BN,AL (by omega)]
  have e2:(xs.map (Value.int .i64))[i]? =some (.int .i64 (xs.getD i 0)):=by rw[BV,AR (by omega)];simp[List.getD_eq_getElem?_getD,show i<xs.length by omega]
  rw[e2]at e;simpa[World.cell?,hg]using e
def UI{xs ys:List Int}{n k:Nat}(hx:xs.length=n)(hy:ys.length=n)(hk:k<n)(h:xs.take k=ys.take k)(he:xs.getD k 0=ys.getD k 0):xs.take (k+1)=ys.take (k+1):=by
 have e1:xs.getD k 0=xs[k]:=by simp[hx,hk]
 have e2:ys.getD k 0=ys[k]:=by simp[hy,hk]
 rw[A9 (by omega),A9 (by omega),h,<-e1,<-e2,he]
def Ss(a b:Option Addr)(n m ca cb:Nat)(xs ys:List Int)(w:World)(hx:Df w a n xs)(hy:Df w b m ys):Calls prog 120 #[.slice a n ca,.slice b m cb] w fun e w'=>e=.returned (.bool (decide (xs=ys)))/\∃q,w'=w.drewN q:=by
 obtain⟨hxl,hxs,hxa⟩:=hx;obtain⟨hyl,hys,hya⟩:=hy;by_cases hne:n=m
 .subst hne;have hn:((n:Int) !=(n:Int))=false:=by simp
  go_enter func120,ntmps120
  go_wp2
  go_loopw[5] (fun i wr=>∃k:Nat,k<=n/\i=.int .i64 k/\xs.take k=ys.take k/\∃q,wr=w.drewN q) (fun i _=>n- (intOf i).toNat);case atStart=>exact⟨0,AZ _,rfl,rfl,0,rfl⟩
  case round=>
   obtain⟨k,hk,rfl,htk,q,rfl⟩:=hrel;by_cases hlt:k<n
   .have ha:∃b off,a=some ⟨b,off,none⟩/\w.cell? ⟨b,off+k,none⟩=some (.int .i64 (xs.getD k 0)):=by
     rcases hxa with h0|⟨b,off,rfl,hlt',hc⟩
     .omega
     .exact⟨b,off,rfl,hc k hlt⟩
    have hb:∃b' off,b=some ⟨b',off,none⟩/\w.cell? ⟨b',off+k,none⟩=some (.int .i64 (ys.getD k 0)):=by
     rcases hya with h0|⟨b,off,rfl,hlt',hc⟩
     .omega
     .exact⟨b,off,rfl,hc k hlt⟩
    obtain⟨b1,o1,rfl,hc1⟩:=ha;obtain⟨b2,o2,rfl,hc2⟩:=hb;clear hxa hya;obtain⟨x,hx⟩:∃x,x=xs.getD k 0:=⟨_,rfl⟩
    obtain⟨y,hy⟩:∃y,y=ys.getD k 0:=⟨_,rfl⟩
    rw[<-hx]at hc1;rw[<-hy]at hc2;have HX:Hid (x=xs.getD k 0):=hx;have HY:Hid (y=ys.getD k 0):=hy;have HT:Hid (xs.take k=ys.take k):=htk;have HL:Hid (xs.length=n/\ys.length=n):=⟨hxl,hyl⟩
    clear hx hy htk hxl hyl;by_cases hxy:x=y
    .have hb:(x !=y)=false:=by simp[hxy]
     have HXY:Hid (x=y):=hxy;clear hxy
     go_wp2
     go_quiet(fail)
     go_wp2
     go_roundw;case rel=>exact⟨k+1,by omega,by go_num,UI HL.out.1 HL.out.2 hlt HT.out (HX.out.symm.trans (HXY.out.trans HY.out)),_,by first|rfl|exact World.drewN_drewN _ _ _⟩
     case measure=>simp[intOf];omega
    .have hb:(x !=y)=true:=by simp[hxy]
     have HN:Hid (¬ xs=ys):=fun e=>hxy (by rw[HX.out,HY.out,e]);clear hxy
     go_wp2
     go_quiet(fail)
     go_wp2
     go_ret;exact⟨AN (AD HN.out).symm,_,World.drewN_drewN _ _ _⟩
   .have hkn:k=n:=by omega
    have HE:Hid (xs=ys):=by
     show xs=ys
     rwa [AO (by omega),AO (by omega)]at htk
    clear htk;subst hkn
    go_wp2
    go_ret;exact⟨AN (AK HE.out).symm,_,rfl⟩
 .have hn:((n:Int) !=(m:Int))=true:=by simp;omega
  have HN:Hid (¬ xs=ys):=fun e=>hne (by rw[<-hxl,<-hyl,e]);clear hne;go_enter func120,ntmps120
  go_wp2
  go_ret;exact⟨AN (AD HN.out).symm,0,rfl⟩
def aq(R:World->Option Addr->Nat->List Int->Prop)(w:World)(b off:Nat)(x:AM):Prop:=∃s1 n1 c1 s2 n2 c2,w.cell? ⟨b,off,none⟩=some (.int .i64 x.k)/\w.cell? ⟨b,off+1,none⟩=some (.int .i64 x.n)/\w.cell? ⟨b,off+2,none⟩=some (.int .i64 x.m)/\w.cell? ⟨b,off+3,none⟩=some (.string x.s)/\w.cell? ⟨b,off+4,none⟩=some (.slice s1 n1 c1)/\w.cell? ⟨b,off+5,none⟩=some (.slice s2 n2 c2)/\R w s1 n1 x.nums/\R w s2 n2 x.kids
structure Db(w:World)(a:Option Addr)(n:Nat)(ns:List AM):Prop where
 len:ns.length=n
 small:n<=1048576
 at_:n=0\/∃b off,a=some ⟨b,off,none⟩/\b<w.heap.size/\∀i,i<n->aq Df w b (off+i*6) (Af ns i)
def aq.below{R:World->Option Addr->Nat->List Int->Prop}{w w':World}{b off B:Nat}{x:AM}(h:aq R w b off x)(hR:∀a n zs,R w a n zs->R w' a n zs)(hlt:b<B)(hb:Below B w w'):aq R w' b off x:=by obtain⟨s1,n1,c1,s2,n2,c2,e0,e1,e2,e3,e4,e5,r1,r2⟩:=h;exact⟨s1,n1,c1,s2,n2,c2,(hb.cell (p:=⟨b,off,none⟩) hlt).trans e0,(hb.cell (p:=⟨b,off+1,none⟩) hlt).trans e1,(hb.cell (p:=⟨b,off+2,none⟩) hlt).trans e2,(hb.cell (p:=⟨b,off+3,none⟩) hlt).trans e3,(hb.cell (p:=⟨b,off+4,none⟩) hlt).trans e4,(hb.cell (p:=⟨b,off+5,none⟩) hlt).trans e5,hR _ _ _ r1,hR _ _ _ r2⟩
def Db.below{w w':World}{a:Option Addr}{n:Nat}{ns:List AM}{B:Nat}(h:Db w a n ns)(hB:w.heap.size<=B)(hb:Below B w w'):Db w' a n ns:=by
 refine⟨h.len,h.small,?_⟩;rcases h.at_ with h0|⟨b,off,rfl,hlt,hc⟩
 .exact .inl h0
 .exact .inr ⟨b,off,rfl,AX hlt hb.size,fun i hi=>(hc i hi).below (fun _ _ _ hr=>hr.below hB hb) (AX hlt hB) hb⟩
def Db.alloc{w:World}{a:Option Addr}{n:Nat}{ns:List AM}(h:Db w a n ns)(o:Obj):Db (w.alloc o) a n ns:=h.below AC (AI.alloc AC _)
def Db.get{w:World}{a:Option Addr}{n:Nat}{ns:List AM}(h:Db w a n ns){k:Nat}(hk:k<n):∃b off,a=some ⟨b,off,none⟩/\b<w.heap.size/\aq Df w b (off+k*6) (Af ns k):=by
 rcases h.at_ with h0|⟨b,off,rfl,hlt,hc⟩
 .omega
 .exact⟨b,off,rfl,hlt,hc k hk⟩
def P9(ns:List AM)(k:Nat):Prop:=∀i,i<k->(Af ns i).s.size<=1048576/\(Af ns i).nums.length<=1048576/\(Af ns i).kids.length<=1048576
structure DN where
 cl:Nat->Nat
 nv:Nat->Int
 sv:Nat->AE
 len:Nat
def B0(b:Nat)(l:List AM):List AM:=l.map fun x=> {x with kids:=x.kids.map (·+(b:Int))}
def Az:List (List AM)->List AM
 | []=> []
 |l::ls=>l++B0 l.length (Az ls)
def DW:List (List AM)->List Int
 | []=> []
 |l::ls=>((l.length:Int)- 1)::(DW ls).map (·+(l.length:Int))
def Ay(k n m:Int)(s:AE)(nums:List Int)(ls:List (List AM)):List AM:=Az ls++ [⟨k,n,m,s,nums,DW ls⟩]
def E2:AE:=⟨#[]⟩
def Ck(k n m:Int):List AM:=Ay k n m E2 [] []
def Gh(k:Int)(s:AE):List AM:=Ay k 0 0 s [] []
def Wi:List Nat:= [43,45,215,247,8970,8968,124,42,61,8800,60,8804,8805,62,8743,8744,126,9076,9075,44,9021,8854,9033,8593,8595,9035,9042,8714,47,9023,8869,8868,8802]
def Bd(c:Nat):Nat:=if c∈Wi then Wi.idxOf c+1 else 0
def Ah(c:Nat):Nat:=if Bd c<=16 then Bd c else 0
def LN(c:Nat):Bool:=decide (0<Bd c\/c=4\/c=8728\/c=123\/c=8711)
abbrev B1:Type:=Bool×Nat×List (List AM)
def C4(q:Nat)(l:List (List AM)):Option B1:=some (true,q,l)
def Cp(q:Nat):Option B1:=some (false,q,[])
def A7(x:Option B1)(k:Nat->List (List AM)->Option B1):Option B1:=match x with
 |none=>none
 |some (false,q,_)=>Cp q
 |some (true,q,l)=>k q l
def C6(l:List AM):Int:=(l.getLast?.getD XC).k
section
variable (X:DN)
def Ct:Nat->Nat->List Int
 |0,_=> []
 |f+1,i=>if X.cl i=1 then X.nv i::Ct f (i+1)else[]
def GF:Nat->Nat->Nat->Option Nat
 |0,_,_=>none
 |f+1,i,d=>
  if i<X.len then
   let d':=if X.cl i=91 then d+1 else if X.cl i=93 then d- 1 else d
   if d'=0 then some i else GF f (i+1) d'
  else none
def LJ(i:Nat):Bool:=match GF X (X.len+1) i 0 with
 |some q=>decide (X.cl (q+1)=8592)
 |none=>false
section
variable (R:Nat->Nat->List AM->Option B1)
def Ff(q:Nat)(a:List AM):Option B1:=if LN (X.cl q)=true then A7 (R 3 q []) fun q2 g=>A7 (R 0 q2 []) fun q3 b=>C4 q3 [Ay 10 0 0 E2 [] (a::(g++b))]else C4 q [a]
def Gu(q:Nat)(a:List AM):Option B1:=A7 (R 1 q a) fun q2 l=>Ff X R q2 (l.headD [])
def Dj(i:Nat):Option B1:=if X.cl i=1 then C4 (i+(Ct X (X.len+1) i).length) [Ay 1 0 0 E2 (Ct X (X.len+1) i) []]else if X.cl i=40 then A7 (R 0 (i+1) []) fun q l=>if X.cl q=41 then C4 (q+1) l else Cp q else if X.cl i=2 then C4 (i+1) [Gh 2 (X.sv i)]else if X.cl i=3 then C4 (i+1) [Gh 3 (X.sv i)]else if X.cl i=9082 then C4 (i+1) [Ck 4 0 0]else if X.cl i=9077 then C4 (i+1) [Ck 5 0 0]else if X.cl i=9068 then C4 (i+1) [Ck 6 0 0]else Cp i
def Hd(i:Nat):Option B1:=if LN (X.cl i)=true then A7 (R 3 i []) fun q g=>A7 (R 0 q []) fun q2 b=>C4 q2 [Ay 9 0 0 E2 [] (g++b)]else A7 (Dj X R i) fun q l=>Gu X R q (l.headD [])
def Jt(i:Nat)(a:List AM):Option B1:=if X.cl i=91 then A7 (R 2 (i+1) []) fun q l=>if X.cl q=93 then R 1 (q+1) (Ay 7 0 0 E2 [] (a::l))else Cp q else C4 i [a]
def Ik(i:Nat):Option B1:=A7 (if X.cl i=59\/X.cl i=93 then C4 i [Ck 8 0 0]else R 0 i []) fun q l=>
  if X.cl q=59 then A7 (R 2 (q+1) []) fun q2 l2=>C4 q2 (l++l2)else C4 q l
def Jy(i:Nat)(n:Nat):Option B1:=if X.cl i=47 then C4 (i+1) [Ck 12 (n:Nat) 0]else if X.cl i=9023 then C4 (i+1) [Ck 12 (n:Nat) 1]else if X.cl i=92 then C4 (i+1) [Ck 13 (n:Nat) 0]else if X.cl i=9024 then C4 (i+1) [Ck 13 (n:Nat) 1]else if X.cl i=46 then(if 0<Ah (X.cl (i+1))then C4 (i+2) [Ck 15 (n:Nat) (Ah (X.cl (i+1)):Nat)]else Cp (i+1))else C4 i [Ck 11 (n:Nat) 0]
def EJ(i:Nat):Option B1:=if X.cl (i+1)=125 then C4 (i+2) [Ck 16 0 0]else A7 (R 4 (i+1) []) fun q l=>if X.cl q=125 then C4 (q+1) [Ay 16 0 0 E2 [] l]else Cp q
def Vo(i:Nat):Option B1:=if 0<Ah (X.cl i)then Jy X (i+1) (Ah (X.cl i))else if X.cl i=8728 then(if X.cl (i+1)=46 then(if 0<Ah (X.cl (i+2))then C4 (i+3) [Ck 14 (Ah (X.cl (i+2)):Nat) 0]else Cp (i+2))else Cp (i+1))else if X.cl i=123 then EJ X R i else if X.cl i=4 then C4 (i+1) [Gh 17 (X.sv i)]else if X.cl i=8711 then C4 (i+1) [Ck 18 0 0]else if 0<Bd (X.cl i)then C4 (i+1) [Ck 11 (Bd (X.cl i):Nat) 0]else Cp i
def Sa(i:Nat):Option B1:=A7 (R 6 i []) fun q l=>if X.cl q=8900 then A7 (R 4 (q+1) []) fun q2 l2=>C4 q2 (l++l2)else C4 q l
def Ix(i:Nat):Option B1:=A7 (R 5 i []) fun q l=>if FQ (C6 (l.headD []))=true/\X.cl q=58 then A7 (R 0 (q+1) []) fun q2 b=>C4 q2 [Ay 24 0 0 E2 [] (l++b)]else C4 q l
def Rv(i:Nat):Option B1:=A7 (R 5 i []) fun q l=>if X.cl q=8900 then A7 (R 7 (q+1) []) fun q2 l2=>C4 q2 (l++l2)else C4 q l
def F4(k n:Int)(s:AE)(ls:List (List AM))(i:Nat):Option B1:=A7 (R 0 i []) fun q b=>C4 q [Ay k n 0 s [] (ls++b)]
def J8(l:List AM):Bool:=Dh l (l.length- 1)
def Hz(i:Nat):Option B1:=if X.cl i=4/\X.cl (i+1)=8592 then(if X.cl (i+2)=123 then A7 (EJ X R (i+2)) fun q l=>C4 q [Ay 20 0 0 (X.sv i) [] l]else Cp (i+2))else if X.cl i=3/\X.cl (i+1)=8592 then F4 R 19 0 (X.sv i) [] (i+2)else if X.cl i=3/\0<Ah (X.cl (i+1))/\X.cl (i+2)=8592 then F4 R 22 (Ah (X.cl (i+1)):Nat) (X.sv i) [] (i+3)else if X.cl i=3/\X.cl (i+1)=91/\LJ X (i+1)=true then
  A7 (R 2 (i+2) []) fun q l=>if X.cl q=93 then(if X.cl (q+1)=8592 then F4 R 21 0 (X.sv i) l (q+2)else Cp (q+1))else Cp q
 else if X.cl i=40 then
  A7 (R 0 (i+1) []) fun q l=>if X.cl q=41 then(if X.cl (q+1)=8592 then(if J8 (l.headD [])=true then F4 R 23 0 E2 l (q+2)else Cp (q+1))else Gu X R (q+1) (l.headD []))else Cp q
 else R 0 i []
end
def Bh:Nat->Nat->Nat->List AM->Option B1
 |0,_,_,_=>none
 |f+1,m,i,a=>
  if m=0 then Hd X (Bh f) i
  else if m=1 then Jt X (Bh f) i a
  else if m=2 then Ik X (Bh f) i
  else if m=3 then Vo X (Bh f) i
  else if m=4 then Sa X (Bh f) i
  else if m=5 then Hz X (Bh f) i
  else if m=6 then Ix X (Bh f) i
  else Rv X (Bh f) i
end
def CP(x y:Option B1):Prop:=∀r,x=some r->y=some r
def CP.refl(x:Option B1):CP x x:=fun _ h=>h
def CP.none(y:Option B1):CP none y:=fun _ h=>by cases h
def CP.bind{x y:Option B1}{k k':Nat->List (List AM)->Option B1}(h:CP x y)(hk:∀q l,CP (k q l) (k' q l)):CP (A7 x k) (A7 y k'):=by
 cases x with
 |none=>exact CP.none _
 |some r=>
  rw[h r rfl];obtain⟨b,q,l⟩:=r;cases b with
  |false=>exact CP.refl _
  |true=>exact hk q l
section
variable {X:DN}{R R':Nat->Nat->List AM->Option B1}
def CP.ite{c:Prop} [Decidable c]{x y x' y':Option B1}(h1:CP x x')(h2:CP y y'):CP (if c then x else y) (if c then x' else y'):=by
 split
 .exact h1
 .exact h2
def Wb(h:∀m i a,CP (R m i a) (R' m i a))(q:Nat)(a:List AM):CP (Ff X R q a) (Ff X R' q a):=CP.ite (CP.bind (h _ _ _) fun _ _=>CP.bind (h _ _ _) fun _ _=>CP.refl _) (CP.refl _)
def Qy(h:∀m i a,CP (R m i a) (R' m i a))(q:Nat)(a:List AM):CP (Gu X R q a) (Gu X R' q a):=CP.bind (h _ _ _) fun _ _=>Wb h _ _
def Yb(h:∀m i a,CP (R m i a) (R' m i a))(i:Nat):CP (Dj X R i) (Dj X R' i):=CP.ite (CP.refl _) (CP.ite (CP.bind (h _ _ _) fun _ _=>CP.refl _) (CP.refl _))
def YB(h:∀m i a,CP (R m i a) (R' m i a))(i:Nat):CP (Hd X R i) (Hd X R' i):=CP.ite (CP.bind (h _ _ _) fun _ _=>CP.bind (h _ _ _) fun _ _=>CP.refl _) (CP.bind (Yb h _) fun _ _=>Qy h _ _)
def Zk(h:∀m i a,CP (R m i a) (R' m i a))(i:Nat)(a:List AM):CP (Jt X R i a) (Jt X R' i a):=CP.ite (CP.bind (h _ _ _) fun _ _=>CP.ite (h _ _ _) (CP.refl _)) (CP.refl _)
def Ub(h:∀m i a,CP (R m i a) (R' m i a))(i:Nat):CP (Ik X R i) (Ik X R' i):=CP.bind (CP.ite (CP.refl _) (h _ _ _)) fun _ _=>CP.ite (CP.bind (h _ _ _) fun _ _=>CP.refl _) (CP.refl _)
def Ni(h:∀m i a,CP (R m i a) (R' m i a))(i:Nat):CP (EJ X R i) (EJ X R' i):=CP.ite (CP.refl _) (CP.bind (h _ _ _) fun _ _=>CP.refl _)
def b8(h:∀m i a,CP (R m i a) (R' m i a))(i:Nat):CP (Vo X R i) (Vo X R' i):=CP.ite (CP.refl _) (CP.ite (CP.refl _) (CP.ite (Ni h _) (CP.refl _)))
def VE(h:∀m i a,CP (R m i a) (R' m i a))(i:Nat):CP (Sa X R i) (Sa X R' i):=CP.bind (h _ _ _) fun _ _=>CP.ite (CP.bind (h _ _ _) fun _ _=>CP.refl _) (CP.refl _)
def Xj(h:∀m i a,CP (R m i a) (R' m i a))(i:Nat):CP (Ix X R i) (Ix X R' i):=CP.bind (h _ _ _) fun _ _=>CP.ite (CP.bind (h _ _ _) fun _ _=>CP.refl _) (CP.refl _)
def UJ(h:∀m i a,CP (R m i a) (R' m i a))(i:Nat):CP (Rv X R i) (Rv X R' i):=CP.bind (h _ _ _) fun _ _=>CP.ite (CP.bind (h _ _ _) fun _ _=>CP.refl _) (CP.refl _)
def MM(h:∀m i a,CP (R m i a) (R' m i a))(k n:Int)(s:AE)(ls:List (List AM))(i:Nat):CP (F4 R k n s ls i) (F4 R' k n s ls i):=CP.bind (h _ _ _) fun _ _=>CP.refl _
def V6(h:∀m i a,CP (R m i a) (R' m i a))(i:Nat):CP (Hz X R i) (Hz X R' i):=CP.ite (CP.ite (CP.bind (Ni h _) fun _ _=>CP.refl _) (CP.refl _)) (CP.ite (MM h _ _ _ _ _) (CP.ite (MM h _ _ _ _ _) (CP.ite (CP.bind (h _ _ _) fun _ _=>CP.ite (CP.ite (MM h _ _ _ _ _) (CP.refl _)) (CP.refl _)) (CP.ite (CP.bind (h _ _ _) fun _ _=>CP.ite (CP.ite (CP.ite (MM h _ _ _ _ _) (CP.refl _)) (Qy h _ _)) (CP.refl _)) (h _ _ _)))))
end
def QV(X:DN):∀(f m i:Nat)(a:List AM),CP (Bh X f m i a) (Bh X (f+1) m i a)
 |0,_,_,_=>CP.none _
 |f+1,m,i,a=>by have h:=QV X f;rw[Bh,Bh];exact CP.ite (YB h i) (CP.ite (Zk h i a) (CP.ite (Ub h i) (CP.ite (b8 h i) (CP.ite (VE h i) (CP.ite (V6 h i) (CP.ite (Xj h i) (UJ h i)))))))
def ZR(X:DN)(f d m i:Nat)(a:List AM):CP (Bh X f m i a) (Bh X (f+d) m i a):=by
 induction d with
 |zero=>exact CP.refl _
 |succ d ih=>exact fun r h=>QV X (f+d) m i a r (ih r h)
def DN.Ends(X:DN):Prop:=∀i,X.cl i≠0->i<X.len
def CB(X:DN)(i d:Nat)(x:Option B1):Prop:=∀b q l,x=some (b,q,l)->i<=q/\q<=X.len/\(b=true->i+d<=q/\0<l.length)
section
variable {X:DN}
def CB.ok{i d q:Nat}{l:List (List AM)}(h1:i+d<=q)(h2:q<=X.len)(h3:0<l.length):CB X i d (C4 q l):=fun b q' l' e=>by unfold C4 at e;cases e;exact⟨by omega,h2,fun _=>⟨h1,h3⟩⟩
def CB.bad{i d q:Nat}(h1:i<=q)(h2:q<=X.len):CB X i d (Cp q):=fun b q' l' e=>by unfold Cp at e;cases e;exact⟨h1,h2,fun h=>by cases h⟩
def CB.bind{i d j dj:Nat}{x:Option B1}{k:Nat->List (List AM)->Option B1}(hij:i<=j)(h:CB X j dj x)(hk:∀q l,j+dj<=q->q<=X.len->0<l.length->CB X i d (k q l)):CB X i d (A7 x k):=by
 cases x with
 |none=>intro b q l e;cases e
 |some r=>
  obtain⟨b,q,l⟩:=r;obtain⟨h1,h2,h3⟩:=h b q l rfl;cases b with
  |false=>exact CB.bad (by omega) h2
  |true=>exact hk q l (h3 rfl).1 h2 (h3 rfl).2
def CB.ite{c:Prop} [Decidable c]{i d:Nat}{x y:Option B1}(h1:c->CB X i d x)(h2:¬ c->CB X i d y):CB X i d (if c then x else y):=by
 split
 .exact h1 ‹_›
 .exact h2 ‹_›
def CB.weak{i d d':Nat}{x:Option B1}(h:CB X i d x)(hd:d'<=d):CB X i d' x:=fun b q l e=>by obtain⟨h1,h2,h3⟩:=h b q l e;exact⟨h1,h2,fun hb=>⟨by have:=(h3 hb).1;omega,(h3 hb).2⟩⟩
def CB.back{i j d d':Nat}{x:Option B1}(h:CB X j d x)(hi:i<=j)(hd:i+d'<=j+d):CB X i d' x:=fun b q l e=>by obtain⟨h1,h2,h3⟩:=h b q l e;exact⟨by omega,h2,fun hb=>⟨by have:=(h3 hb).1;omega,(h3 hb).2⟩⟩
def Jh(hE:X.Ends):∀(f i:Nat),i<=X.len->i+(Ct X f i).length<=X.len
 |0,i,h=>by simpa[Ct]using h
 |f+1,i,h=>by
  rw[Ct];split
  .rename_i h1
   have hi:=hE i (by omega);have:=Jh hE f (i+1) (by omega);rw[Ba];omega
  .simpa using h
def M6{i:Nat}(h:X.cl i=1)(f:Nat):1<=(Ct X (f+1) i).length:=by rw[Ct,AL h,Ba];omega
def C3(m:Nat):Nat:=if m=1\/m=2 then 0 else 1
def Gz(hE:X.Ends){i:Nat}(h:0<Ah (X.cl i)):i<X.len:=by refine hE i fun e=> ?_;rw[e]at h;exact absurd h (by decide)
def OT(hE:X.Ends){i:Nat}(h:0<Bd (X.cl i)):i<X.len:=by refine hE i fun e=> ?_;rw[e]at h;exact absurd h (by decide)
section
variable {R:Nat->Nat->List AM->Option B1}
def Wg(hR:∀m i a,i<=X.len->CB X i (C3 m) (R m i a)){i d q:Nat}(a:List AM)(hi:i+d<=q)(hq:q<=X.len):CB X i d (Ff X R q a):=CB.ite (fun _=>CB.bind (by omega) (hR 3 q [] hq) fun q2 l2 h2 h2' _=>CB.bind (by omega) (hR 0 q2 [] h2') fun q3 l3 h3 h3' _=>CB.ok (by omega) h3' (by simp)) (fun _=>CB.ok hi hq (by simp))
def Q1(hR:∀m i a,i<=X.len->CB X i (C3 m) (R m i a)){i d q:Nat}(a:List AM)(hi:i+d<=q)(hq:q<=X.len):CB X i d (Gu X R q a):=CB.bind (by omega) (hR 1 q a hq) fun q2 l2 h2 h2' _=>Wg hR _ (by omega) h2'
def JW(hE:X.Ends)(hR:∀m i a,i<=X.len->CB X i (C3 m) (R m i a)){i:Nat}(hi:i<=X.len):CB X i 1 (Dj X R i):=by
 have one:∀ {c:Nat}{l:List (List AM)},X.cl i=c->c≠0->0<l.length->CB X i 1 (C4 (i+1) l):=fun {c l}h hc hl=>CB.ok AC (hE i (by rw[h];exact hc)) hl;refine CB.ite (fun h1=> ?_) fun _=>CB.ite (fun h40=> ?_) fun _=>CB.ite (fun h=>one h (by decide) (by simp)) fun _=>CB.ite (fun h=>one h (by decide) (by simp)) fun _=>CB.ite (fun h=>one h (by decide) (by simp)) fun _=>CB.ite (fun h=>one h (by decide) (by simp)) fun _=>CB.ite (fun h=>one h (by decide) (by simp)) fun _=>CB.bad AC hi
 .have:=M6 h1 X.len;exact CB.ok (by omega) (Jh hE _ _ hi) (by simp)
 .have hl:=hE i (by rw[h40];decide);exact CB.bind (by omega) (hR 0 (i+1) [] hl) fun q l hq hq' hl'=>CB.ite (fun h41=>CB.ok (by omega) (hE q (by rw[h41];decide)) hl') fun _=>CB.bad (by omega) hq'
def YE(hE:X.Ends)(hR:∀m i a,i<=X.len->CB X i (C3 m) (R m i a)){i:Nat}(hi:i<=X.len):CB X i 1 (Hd X R i):=by
 refine CB.ite (fun h1=> ?_) fun _=> ?_
 .exact CB.bind AC (hR 3 i [] hi) fun q l hq hq' _=>CB.bind (by omega) (hR 0 q [] hq') fun q2 l2 h2 h2' _=>CB.ok (by have:C3 3=1:=rfl;omega) h2' (by simp)
 .exact CB.bind AC (JW hE hR hi) fun q l hq hq' _=>Q1 hR _ hq hq'
def Zn(hE:X.Ends)(hR:∀m i a,i<=X.len->CB X i (C3 m) (R m i a)){i:Nat}(a:List AM)(hi:i<=X.len):CB X i 0 (Jt X R i a):=by refine CB.ite (fun h1=> ?_) fun _=>CB.ok AC hi (by simp);have hl:=hE i (by rw[h1];decide);exact CB.bind (by omega) (hR 2 (i+1) [] hl) fun q l hq hq' _=>CB.ite (fun h=>(hR 1 (q+1) _ (hE q (by rw[h];decide))).back (by omega) (by omega)) fun _=>CB.bad (by omega) hq'
def Uf(hE:X.Ends)(hR:∀m i a,i<=X.len->CB X i (C3 m) (R m i a)){i:Nat}(hi:i<=X.len):CB X i 0 (Ik X R i):=by refine CB.bind AC (dj:=0) (CB.ite (fun _=>CB.ok AC hi (by simp)) fun _=>(hR 0 i [] hi).weak (by omega)) fun q l hq hq' hl=>CB.ite (fun h=> ?_) fun _=>CB.ok hq hq' hl;have h2:=hE q (by rw[h];decide);exact CB.bind (by omega) (hR 2 (q+1) [] h2) fun q2 l2 h3 h3' hl2=>CB.ok (by omega) h3' (by rw[AH];omega)
def WV(hE:X.Ends){i n:Nat}(hi:i+1<=X.len):CB X i 1 (Jy X (i+1) n):=by have one:∀ {c:Nat}{l:List (List AM)},X.cl (i+1)=c->c≠0->0<l.length->CB X i 1 (C4 (i+1+1) l):=fun {c l}h hc hl=>CB.ok (by omega) (hE (i+1) (by rw[h];exact hc)) hl;refine CB.ite (fun h=>one h (by decide) (by simp)) fun _=>CB.ite (fun h=>one h (by decide) (by simp)) fun _=>CB.ite (fun h=>one h (by decide) (by simp)) fun _=>CB.ite (fun h=>one h (by decide) (by simp)) fun _=>CB.ite (fun h=> ?_) fun _=>CB.ok AC hi (by simp);have h2:=hE (i+1) (by rw[h];decide);exact CB.ite (fun h3=>CB.ok (by omega) (Gz hE h3) (by simp)) fun _=>CB.bad (by omega) h2
def Iq(hE:X.Ends)(hR:∀m i a,i<=X.len->CB X i (C3 m) (R m i a)){i:Nat}(hi:X.cl i=123):CB X i 1 (EJ X R i):=by have hl:=hE i (by rw[hi];decide);refine CB.ite (fun h=>CB.ok (by omega) (hE (i+1) (by rw[h];decide)) (by simp)) fun _=> ?_;exact CB.bind (by omega) (hR 4 (i+1) [] hl) fun q l hq hq' _=>CB.ite (fun h=>CB.ok (by omega) (hE q (by rw[h];decide)) (by simp)) fun _=>CB.bad (by omega) hq'
def cD(hE:X.Ends)(hR:∀m i a,i<=X.len->CB X i (C3 m) (R m i a)){i:Nat}(hi:i<=X.len):CB X i 1 (Vo X R i):=by refine CB.ite (fun h=>WV hE (Gz hE h)) fun _=>CB.ite (fun h=> ?_) fun _=>CB.ite (fun h=>Iq hE hR h) fun _=>CB.ite (fun h=>CB.ok AC (hE i (by rw[h];decide)) (by simp)) fun _=>CB.ite (fun h=>CB.ok AC (hE i (by rw[h];decide)) (by simp)) fun _=>CB.ite (fun h=>CB.ok AC (OT hE h) (by simp)) fun _=>CB.bad AC hi;have h1:=hE i (by rw[h];decide);refine CB.ite (fun h2=> ?_) fun _=>CB.bad (by omega) h1;have h3:=hE (i+1) (by rw[h2];decide);exact CB.ite (fun h4=>CB.ok (by omega) (Gz hE h4) (by simp)) fun _=>CB.bad (by omega) h3
def Oi(hE:X.Ends)(hR:∀m i a,i<=X.len->CB X i (C3 m) (R m i a))(m m':Nat)(hm:C3 m=1){i:Nat}(hi:i<=X.len):CB X i 1 (A7 (R m i []) fun q l=>if X.cl q=8900 then A7 (R m' (q+1) []) fun q2 l2=>C4 q2 (l++l2)else C4 q l):=by refine CB.bind AC (hR m i [] hi) fun q l hq hq' hl=>CB.ite (fun h=> ?_) fun _=>CB.ok (by omega) hq' hl;have h2:=hE q (by rw[h];decide);exact CB.bind (by omega) (hR m' (q+1) [] h2) fun q2 l2 h3 h3' hl2=>CB.ok (by omega) h3' (by rw[AH];omega)
def Xo(hE:X.Ends)(hR:∀m i a,i<=X.len->CB X i (C3 m) (R m i a)){i:Nat}(hi:i<=X.len):CB X i 1 (Ix X R i):=by have h5:C3 5=1:=rfl;refine CB.bind AC (hR 5 i [] hi) fun q l hq hq' hl=>CB.ite (fun h=> ?_) fun _=>CB.ok (by omega) hq' hl;have h2:=hE q (by rw[h.2];decide);exact CB.bind (by omega) (hR 0 (q+1) [] h2) fun q2 l2 h3 h3' hl2=>CB.ok (by omega) h3' (by simp)
def MP(hR:∀m i a,i<=X.len->CB X i (C3 m) (R m i a)){i j:Nat}(k n:Int)(s:AE)(ls:List (List AM))(hij:i<j)(hj:j<=X.len):CB X i 1 (F4 R k n s ls j):=CB.bind (by omega) (hR 0 j [] hj) fun q l hq hq' _=>CB.ok (by omega) hq' (by simp)
def V9(hE:X.Ends)(hR:∀m i a,i<=X.len->CB X i (C3 m) (R m i a)){i:Nat}(hi:i<=X.len):CB X i 1 (Hz X R i):=by
 refine CB.ite (fun h=> ?_) fun _=>CB.ite (fun h=> ?_) fun _=>CB.ite (fun h=> ?_) fun _=>CB.ite (fun h=> ?_) fun _=>CB.ite (fun h=> ?_) fun _=>hR 0 i [] hi
 .have h1:=hE (i+1) (by rw[h.2];decide);refine CB.ite (fun h2=> ?_) fun _=>CB.bad (by omega) h1;exact CB.bind (by omega) (Iq hE hR h2) fun q l hq hq' _=>CB.ok (by omega) hq' (by simp)
 .exact MP hR _ _ _ _ (by omega) (hE (i+1) (by rw[h.2];decide))
 .exact MP hR _ _ _ _ (by omega) (hE (i+2) (by rw[h.2.2];decide))
 .have h1:=hE (i+1) (by rw[h.2.1];decide);refine CB.bind (by omega) (hR 2 (i+2) [] h1) fun q l hq hq' _=>CB.ite (fun h2=> ?_) fun _=>CB.bad (by omega) hq';have h3:=hE q (by rw[h2];decide);exact CB.ite (fun h4=>MP hR _ _ _ _ (by omega) (hE (q+1) (by rw[h4];decide))) fun _=>CB.bad (by omega) h3
 .have h1:=hE i (by rw[h];decide);refine CB.bind (by omega) (hR 0 (i+1) [] h1) fun q l hq hq' _=>CB.ite (fun h2=> ?_) fun _=>CB.bad (by omega) hq';have h3:=hE q (by rw[h2];decide);exact CB.ite (fun h4=>CB.ite (fun _=>MP hR _ _ _ _ (by omega) (hE (q+1) (by rw[h4];decide))) fun _=>CB.bad (by omega) h3) fun _=>Q1 hR _ (by omega) h3
end
def Cc(hE:X.Ends):∀(f m i:Nat)(a:List AM),i<=X.len->CB X i (C3 m) (Bh X f m i a)
 |0,_,_,_,_=>fun _ _ _ e=>by cases e
 |f+1,m,i,a,hi=>by
  have hR:=Cc hE f;rw[Bh];by_cases h0:m=0
  .rw[AL h0,h0];exact YE hE hR hi
  rw[AG h0];by_cases h1:m=1
  .rw[AL h1,h1];exact Zn hE hR a hi
  rw[AG h1];by_cases h2:m=2
  .rw[AL h2,h2];exact Uf hE hR hi
  rw[AG h2];have hs:C3 m=1:=by unfold C3;rw[AG (by omega)]
  rw[hs];by_cases h3:m=3
  .rw[AL h3];exact cD hE hR hi
  rw[AG h3];by_cases h4:m=4
  .rw[AL h4];exact Oi hE hR 6 4 rfl hi
  rw[AG h4];by_cases h5:m=5
  .rw[AL h5];exact V9 hE hR hi
  rw[AG h5];by_cases h6:m=6
  .rw[AL h6];exact Xo hE hR hi
  rw[AG h6];exact Oi hE hR 5 7 rfl hi
end
def CT(x:Option B1):Prop:=∃r,x=some r
def CT.ok(q:Nat)(l:List (List AM)):CT (C4 q l):=⟨_,rfl⟩
def CT.bad(q:Nat):CT (Cp q):=⟨_,rfl⟩
def CT.bind{x:Option B1}{k:Nat->List (List AM)->Option B1}(h:CT x)(hk:∀q l,x=some (true,q,l)->CT (k q l)):CT (A7 x k):=by
 obtain⟨⟨b,q,l⟩,rfl⟩:=h;cases b with
 |false=>exact CT.bad q
 |true=>exact hk q l rfl
def CT.ite{c:Prop} [Decidable c]{x y:Option B1}(h1:c->CT x)(h2:¬ c->CT y):CT (if c then x else y):=by
 split
 .exact h1 ‹_›
 .exact h2 ‹_›
def JH(m:Nat):Nat:=if m=0\/m=1 then 1 else if m=2 then 2 else if m=3 then 0 else if m=4 then 4 else if m=5 then 2 else if m=6 then 3 else 3
section
variable {X:DN}{R:Nat->Nat->List AM->Option B1}
def CB.q{i d q:Nat}{x:Option B1}{l:List (List AM)}(h:CB X i d x)(e:x=some (true,q,l)):i+d<=q/\q<=X.len:=by obtain⟨_,h2,h3⟩:=h _ _ _ e;exact⟨(h3 rfl).1,h2⟩
def Wc(hA:∀m i a,i<=X.len->CB X i (C3 m) (R m i a)){i q:Nat}(hR:∀m j a,i<j->j<=X.len->CT (R m j a))(a:List AM)(hi:i<q)(hq:q<=X.len):CT (Ff X R q a):=CT.ite (fun _=>CT.bind (hR 3 q [] hi hq) fun q2 l2 e2=>by have h2:=(hA 3 q [] hq).q e2;exact CT.bind (hR 0 q2 [] (by omega) h2.2) fun _ _ _=>CT.ok _ _) fun _=>CT.ok _ _
def Qz(hA:∀m i a,i<=X.len->CB X i (C3 m) (R m i a)){i q:Nat}(hR:∀m j a,i<j->j<=X.len->CT (R m j a))(a:List AM)(hi:i<q)(hq:q<=X.len):CT (Gu X R q a):=CT.bind (hR 1 q a hi hq) fun q2 l2 e2=>by have h2:=(hA 1 q a hq).q e2;exact Wc hA hR _ (by omega) h2.2
def Yc(hE:X.Ends){i:Nat}(hR:∀m j a,i<j->j<=X.len->CT (R m j a)):CT (Dj X R i):=by refine CT.ite (fun _=>CT.ok _ _) fun _=>CT.ite (fun h=> ?_) fun _=>CT.ite (fun _=>CT.ok _ _) fun _=>CT.ite (fun _=>CT.ok _ _) fun _=>CT.ite (fun _=>CT.ok _ _) fun _=>CT.ite (fun _=>CT.ok _ _) fun _=>CT.ite (fun _=>CT.ok _ _) fun _=>CT.bad _;exact CT.bind (hR 0 (i+1) [] (by omega) (hE i (by rw[h];decide))) fun _ _ _=>CT.ite (fun _=>CT.ok _ _) fun _=>CT.bad _
def YC(hE:X.Ends)(hA:∀m i a,i<=X.len->CB X i (C3 m) (R m i a)){i:Nat}(hi:i<=X.len)(h3:CT (R 3 i []))(hR:∀m j a,i<j->j<=X.len->CT (R m j a)):CT (Hd X R i):=by
 refine CT.ite (fun _=>CT.bind h3 fun q l e=> ?_) fun _=>CT.bind (Yc hE hR) fun q l e=> ?_
 .have h2:=(hA 3 i [] hi).q e;have hs:C3 3=1:=rfl;exact CT.bind (hR 0 q [] (by omega) h2.2) fun _ _ _=>CT.ok _ _
 .have h2:=(JW hE hA hi).q e;exact Qz hA hR _ (by omega) h2.2
def Zl(hE:X.Ends)(hA:∀m i a,i<=X.len->CB X i (C3 m) (R m i a)){i:Nat}(a:List AM)(hR:∀m j a,i<j->j<=X.len->CT (R m j a)):CT (Jt X R i a):=by refine CT.ite (fun h=> ?_) fun _=>CT.ok _ _;have hl:=hE i (by rw[h];decide);refine CT.bind (hR 2 (i+1) [] (by omega) hl) fun q l e=>CT.ite (fun h2=> ?_) fun _=>CT.bad _;have h3:=(hA 2 (i+1) [] hl).q e;exact hR 1 (q+1) _ (by omega) (hE q (by rw[h2];decide))
def Uc(hE:X.Ends)(hA:∀m i a,i<=X.len->CB X i (C3 m) (R m i a)){i:Nat}(hi:i<=X.len)(h0:CT (R 0 i []))(hR:∀m j a,i<j->j<=X.len->CT (R m j a)):CT (Ik X R i):=by
 refine CT.bind (CT.ite (fun _=>CT.ok _ _) fun _=>h0) fun q l e=>CT.ite (fun h=> ?_) fun _=>CT.ok _ _;have hq:i<=q:=by
  split at e
  .unfold C4 at e;cases e;exact AC
  .have:=(hA 0 i [] hi).q e;omega
 exact CT.bind (hR 2 (q+1) [] (by omega) (hE q (by rw[h];decide))) fun _ _ _=>CT.ok _ _
def Nj(hE:X.Ends){i:Nat}(h1:X.cl i=123)(hR:∀m j a,i<j->j<=X.len->CT (R m j a)):CT (EJ X R i):=by refine CT.ite (fun _=>CT.ok _ _) fun _=> ?_;exact CT.bind (hR 4 (i+1) [] (by omega) (hE i (by rw[h1];decide))) fun _ _ _=>CT.ite (fun _=>CT.ok _ _) fun _=>CT.bad _
def WT{i n:Nat}:CT (Jy X i n):=by refine CT.ite (fun _=>CT.ok _ _) fun _=>CT.ite (fun _=>CT.ok _ _) fun _=>CT.ite (fun _=>CT.ok _ _) fun _=>CT.ite (fun _=>CT.ok _ _) fun _=>CT.ite (fun _=>CT.ite (fun _=>CT.ok _ _) fun _=>CT.bad _) fun _=>CT.ok _ _
def b9(hE:X.Ends){i:Nat}(hR:∀m j a,i<j->j<=X.len->CT (R m j a)):CT (Vo X R i):=by refine CT.ite (fun _=>WT) fun _=>CT.ite (fun _=>CT.ite (fun _=>CT.ite (fun _=>CT.ok _ _) fun _=>CT.bad _) fun _=>CT.bad _) fun _=>CT.ite (fun h=>Nj hE h hR) fun _=>CT.ite (fun _=>CT.ok _ _) fun _=>CT.ite (fun _=>CT.ok _ _) fun _=>CT.ite (fun _=>CT.ok _ _) fun _=>CT.bad _
def Oh(hE:X.Ends)(hA:∀m i a,i<=X.len->CB X i (C3 m) (R m i a))(m m':Nat){i:Nat}(hi:i<=X.len)(h6:CT (R m i []))(hR:∀m j a,i<j->j<=X.len->CT (R m j a)):CT (A7 (R m i []) fun q l=>if X.cl q=8900 then A7 (R m' (q+1) []) fun q2 l2=>C4 q2 (l++l2)else C4 q l):=by refine CT.bind h6 fun q l e=>CT.ite (fun h=> ?_) fun _=>CT.ok _ _;have h2:=(hA m i [] hi).q e;exact CT.bind (hR m' (q+1) [] (by omega) (hE q (by rw[h];decide))) fun _ _ _=>CT.ok _ _
def Xk(hE:X.Ends)(hA:∀m i a,i<=X.len->CB X i (C3 m) (R m i a)){i:Nat}(hi:i<=X.len)(h5:CT (R 5 i []))(hR:∀m j a,i<j->j<=X.len->CT (R m j a)):CT (Ix X R i):=by refine CT.bind h5 fun q l e=>CT.ite (fun h=> ?_) fun _=>CT.ok _ _;have h2:=(hA 5 i [] hi).q e;exact CT.bind (hR 0 (q+1) [] (by omega) (hE q (by rw[h.2];decide))) fun _ _ _=>CT.ok _ _
def MN{i j:Nat}(k n:Int)(s:AE)(ls:List (List AM))(hR:∀m j a,i<j->j<=X.len->CT (R m j a))(hij:i<j)(hj:j<=X.len):CT (F4 R k n s ls j):=CT.bind (hR 0 j [] hij hj) fun _ _ _=>CT.ok _ _
def V7(hE:X.Ends)(hA:∀m i a,i<=X.len->CB X i (C3 m) (R m i a)){i:Nat}(h0:CT (R 0 i []))(hR:∀m j a,i<j->j<=X.len->CT (R m j a)):CT (Hz X R i):=by
 refine CT.ite (fun h=> ?_) fun _=>CT.ite (fun h=> ?_) fun _=>CT.ite (fun h=> ?_) fun _=>CT.ite (fun h=> ?_) fun _=>CT.ite (fun h=> ?_) fun _=>h0
 .exact CT.ite (fun h2=>CT.bind (Nj hE h2 (fun m j a hj=>hR m j a (by omega))) fun _ _ _=>CT.ok _ _) fun _=>CT.bad _
 .exact MN _ _ _ _ hR (by omega) (hE (i+1) (by rw[h.2];decide))
 .exact MN _ _ _ _ hR (by omega) (hE (i+2) (by rw[h.2.2];decide))
 .have h1:=hE (i+1) (by rw[h.2.1];decide);refine CT.bind (hR 2 (i+2) [] (by omega) h1) fun q l e=>CT.ite (fun _=>CT.ite (fun h4=> ?_) fun _=>CT.bad _) fun _=>CT.bad _;have h2:=(hA 2 (i+2) [] h1).q e;exact MN _ _ _ _ hR (by omega) (hE (q+1) (by rw[h4];decide))
 .have h1:=hE i (by rw[h];decide);refine CT.bind (hR 0 (i+1) [] (by omega) h1) fun q l e=>CT.ite (fun h2=> ?_) fun _=>CT.bad _;have h3:=(hA 0 (i+1) [] h1).q e;have h4:=hE q (by rw[h2];decide);exact CT.ite (fun h5=>CT.ite (fun _=>MN _ _ _ _ hR (by omega) (hE (q+1) (by rw[h5];decide))) fun _=>CT.bad _) fun _=>Qz hA hR _ (by omega) h4
end
def H3{X:DN}(hE:X.Ends):∀(f m i:Nat)(a:List AM),i<=X.len->6*(X.len- i)+JH m<f->CT (Bh X f m i a)
 |0,_,_,_,_,h=>absurd h (Bc _)
 |f+1,m,i,a,hi,hf=>by
  have hA:=Cc hE f;have hR:∀m j a,i<j->j<=X.len->CT (Bh X f m j a):=fun m' j a' hj hjl=>H3 hE f m' j a' hjl (by
   have:JH m'<=4:=by unfold JH;split<;>(try split)<;>(try split)<;>(try split)<;>(try split)<;>(try split)<;>omega
   omega)
  rw[Bh];by_cases h0:m=0
  .rw[AL h0];subst h0;exact YC hE hA hi (H3 hE f 3 i [] hi (by simp[JH]at hf ⊢;omega)) hR
  rw[AG h0];by_cases h1:m=1
  .rw[AL h1];exact Zl hE hA a hR
  rw[AG h1];by_cases h2:m=2
  .rw[AL h2];subst h2;exact Uc hE hA hi (H3 hE f 0 i [] hi (by simp[JH]at hf ⊢;omega)) hR
  rw[AG h2];by_cases h3:m=3
  .rw[AL h3];exact b9 hE hR
  rw[AG h3];by_cases h4:m=4
  .rw[AL h4];subst h4;exact Oh hE hA 6 4 hi (H3 hE f 6 i [] hi (by simp[JH]at hf ⊢;omega)) hR
  rw[AG h4];by_cases h5:m=5
  .rw[AL h5];subst h5;exact V7 hE hA (H3 hE f 0 i [] hi (by simp[JH]at hf ⊢;omega)) hR
  rw[AG h5];by_cases h6:m=6
  .rw[AL h6];subst h6;exact Xk hE hA hi (H3 hE f 5 i [] hi (by simp[JH]at hf ⊢;omega)) hR
  rw[AG h6];have hr:JH m=3:=by unfold JH;simp[h0,h1,h2,h3,h4,h5,h6]
  exact Oh hE hA 5 7 hi (H3 hE f 5 i [] hi (by rw[hr]at hf;simp[JH];omega)) hR
def Il(v:Int)(w:World):Calls prog 180 #[.int .i64 v] w fun e w'=>e=.returned (.bool (E0 v))/\w'=w:=by
 by_cases h1:0<=v
 .by_cases h2:v<=1114111
  .by_cases h3:v<55296
   .have HE:Hid (E0 v=true):=AK ⟨h1,h2,.inl h3⟩;go_enter func180,ntmps180
    go_wp2
    go_ret;exact⟨AN HE.out.symm,rfl⟩
   .by_cases h4:57343<v
    .have HE:Hid (E0 v=true):=AK ⟨h1,h2,.inr h4⟩;go_enter func180,ntmps180
     go_wp2
     go_ret;exact⟨AN HE.out.symm,rfl⟩
    .have HE:Hid (E0 v=false):=AD (fun h=>by omega);go_enter func180,ntmps180
     go_wp2
     go_ret;exact⟨AN HE.out.symm,rfl⟩
  .have HE:Hid (E0 v=false):=AD (fun h=>by omega);go_enter func180,ntmps180
   go_wp2
   go_ret;exact⟨AN HE.out.symm,rfl⟩
 .have HE:Hid (E0 v=false):=AD (fun h=>by omega);go_enter func180,ntmps180
  go_wp2
  go_ret;exact⟨AN HE.out.symm,rfl⟩
def Yk(w:World)(zs:List Int)(e:Ending)(w':World):Prop:=∃g,e=.returned (.slice (some ⟨g,0,none⟩) zs.length zs.length)/\De w' (some ⟨g,0,none⟩) zs.length zs/\Below w.heap.size w w'
def Ip(w:World)(zs:List Int):Yk w zs (.returned (.slice (some ⟨w.heap.size,0,none⟩) zs.length zs.length)) (w.alloc (.cells (zs.map (Value.int .u8)).toArray 5)):=⟨w.heap.size,rfl,De.new w zs,AI.alloc AC _⟩
def JU{a:Int}{b:Nat}(h:a=(b:Int))(hb:b<256):IntKind.u8.wrap a=(b:Int):=by subst h;unfold IntKind.wrap;simp[IntKind.bits,IntKind.signed];omega
def JN(x:Nat)(hx:x<=2097151)(w:World):Calls prog 179 #[.int .i64 (x:Nat)] w (Yk w (BW x)):=by
 by_cases h1:x<128
 .have e:BW (x:Int)= [(x:Int)]:=by unfold BW;rw[AL (by omega)]
  rw[e];have k1:(x:Int)<128:=by omega
  have w1:IntKind.u8.wrap (x:Int)=(x:Int):=JU rfl (by omega);clear e;go_enter func179,ntmps179;go_wp2_with fail;go_ret;exact Ip w [(x:Int)]
 .have k1:¬(x:Int)<128:=by omega
  by_cases h2:x<2048
  .have k2:(x:Int)<2048:=by omega
   obtain⟨a,ha⟩:∃a,x / 64=a:=⟨_,rfl⟩
   obtain⟨b,hb⟩:∃b,x % 64=b:=⟨_,rfl⟩
   have e:BW (x:Int)= [((192+a:Nat):Int),((128+b:Nat):Int)]:=by unfold BW;rw[AG k1,AL k2,show 192+(x:Int) / 64=((192+a:Nat):Int) by omega,show 128+(x:Int) % 64=((128+b:Nat):Int) by omega]
   rw[e];clear e;obtain⟨A,hA⟩:∃A,192+a=A:=⟨_,rfl⟩
   obtain⟨B,hB⟩:∃B,128+b=B:=⟨_,rfl⟩
   rw[hA,hB];have q1:(x:Int).tdiv 64=(a:Int):=by rw[CH (by omega)];omega
   have q1':(x:Int) / 64=(a:Int):=by omega
   have q2:(x:Int).tmod 64=(b:Int):=by rw[CG (by omega)];omega
   have q2':(x:Int) % 64=(b:Int):=by omega
   have s1:192+(a:Int)=(A:Int):=by omega
   have s2:128+(b:Int)=(B:Int):=by omega
   have w1:IntKind.u8.wrap (A:Int)=(A:Int):=JU rfl (by omega);have w2:IntKind.u8.wrap (B:Int)=(B:Int):=JU rfl (by omega);clear ha hb hA hB;go_enter func179,ntmps179;go_wp2_with fail;go_ret;exact Ip w [(A:Int),(B:Int)]
  .have k2:¬(x:Int)<2048:=by omega
   by_cases h3:x<65536
   .have k3:(x:Int)<65536:=by omega
    obtain⟨a,ha⟩:∃a,x / 4096=a:=⟨_,rfl⟩
    obtain⟨m,hm⟩:∃m,x / 64=m:=⟨_,rfl⟩
    obtain⟨b,hb⟩:∃b,m % 64=b:=⟨_,rfl⟩
    obtain⟨c,hc⟩:∃c,x % 64=c:=⟨_,rfl⟩
    have e:BW (x:Int)= [((224+a:Nat):Int),((128+b:Nat):Int),((128+c:Nat):Int)]:=by unfold BW;rw[AG k1,AG k2,AL k3,show 224+(x:Int) / 4096=((224+a:Nat):Int) by omega,show 128+(x:Int) / 64 % 64=((128+b:Nat):Int) by omega,show 128+(x:Int) % 64=((128+c:Nat):Int) by omega]
    rw[e];clear e;obtain⟨A,hA⟩:∃A,224+a=A:=⟨_,rfl⟩
    obtain⟨B,hB⟩:∃B,128+b=B:=⟨_,rfl⟩
    obtain⟨C,hC⟩:∃C,128+c=C:=⟨_,rfl⟩
    rw[hA,hB,hC];have q1:(x:Int).tdiv 4096=(a:Int):=by rw[CH (by omega)];omega
    have q1':(x:Int) / 4096=(a:Int):=by omega
    have q3:(x:Int).tdiv 64=(m:Int):=by rw[CH (by omega)];omega
    have q3':(x:Int) / 64=(m:Int):=by omega
    have q4:(m:Int).tmod 64=(b:Int):=by rw[CG (by omega)];omega
    have q4':(m:Int) % 64=(b:Int):=by omega
    have q2:(x:Int).tmod 64=(c:Int):=by rw[CG (by omega)];omega
    have q2':(x:Int) % 64=(c:Int):=by omega
    have s1:224+(a:Int)=(A:Int):=by omega
    have s2:128+(b:Int)=(B:Int):=by omega
    have s3:128+(c:Int)=(C:Int):=by omega
    have w1:IntKind.u8.wrap (A:Int)=(A:Int):=JU rfl (by omega);have w2:IntKind.u8.wrap (B:Int)=(B:Int):=JU rfl (by omega);have w3:IntKind.u8.wrap (C:Int)=(C:Int):=JU rfl (by omega);clear ha hb hc hm hA hB hC;go_enter func179,ntmps179;go_wp2_with fail;go_ret;exact Ip w [(A:Int),(B:Int),(C:Int)]
   .have k3:¬(x:Int)<65536:=by omega
    obtain⟨a,ha⟩:∃a,x / 262144=a:=⟨_,rfl⟩
    obtain⟨l,hl⟩:∃l,x / 4096=l:=⟨_,rfl⟩
    obtain⟨b,hb⟩:∃b,l % 64=b:=⟨_,rfl⟩
    obtain⟨m,hm⟩:∃m,x / 64=m:=⟨_,rfl⟩
    obtain⟨c,hc⟩:∃c,m % 64=c:=⟨_,rfl⟩
    obtain⟨d,hd⟩:∃d,x % 64=d:=⟨_,rfl⟩
    have e:BW (x:Int)= [((240+a:Nat):Int),((128+b:Nat):Int),((128+c:Nat):Int),((128+d:Nat):Int)]:=by unfold BW;rw[AG k1,AG k2,AG k3,show 240+(x:Int) / 262144=((240+a:Nat):Int) by omega,show 128+(x:Int) / 4096 % 64=((128+b:Nat):Int) by omega,show 128+(x:Int) / 64 % 64=((128+c:Nat):Int) by omega,show 128+(x:Int) % 64=((128+d:Nat):Int) by omega]
    rw[e];clear e;obtain⟨A,hA⟩:∃A,240+a=A:=⟨_,rfl⟩
    obtain⟨B,hB⟩:∃B,128+b=B:=⟨_,rfl⟩
    obtain⟨C,hC⟩:∃C,128+c=C:=⟨_,rfl⟩
    obtain⟨E,hE⟩:∃E,128+d=E:=⟨_,rfl⟩
    rw[hA,hB,hC,hE];have q1:(x:Int).tdiv 262144=(a:Int):=by rw[CH (by omega)];omega
    have q1':(x:Int) / 262144=(a:Int):=by omega
    have q5:(x:Int).tdiv 4096=(l:Int):=by rw[CH (by omega)];omega
    have q5':(x:Int) / 4096=(l:Int):=by omega
    have q6:(l:Int).tmod 64=(b:Int):=by rw[CG (by omega)];omega
    have q6':(l:Int) % 64=(b:Int):=by omega
    have q3:(x:Int).tdiv 64=(m:Int):=by rw[CH (by omega)];omega
    have q3':(x:Int) / 64=(m:Int):=by omega
    have q4:(m:Int).tmod 64=(c:Int):=by rw[CG (by omega)];omega
    have q4':(m:Int) % 64=(c:Int):=by omega
    have q2:(x:Int).tmod 64=(d:Int):=by rw[CG (by omega)];omega
    have q2':(x:Int) % 64=(d:Int):=by omega
    have s1:240+(a:Int)=(A:Int):=by omega
    have s2:128+(b:Int)=(B:Int):=by omega
    have s3:128+(c:Int)=(C:Int):=by omega
    have s4:128+(d:Int)=(E:Int):=by omega
    have w1:IntKind.u8.wrap (A:Int)=(A:Int):=JU rfl (by omega);have w2:IntKind.u8.wrap (B:Int)=(B:Int):=JU rfl (by omega);have w3:IntKind.u8.wrap (C:Int)=(C:Int):=JU rfl (by omega);have w4:IntKind.u8.wrap (E:Int)=(E:Int):=JU rfl (by omega);clear ha hb hc hd hm hl hA hB hC hE;go_enter func179,ntmps179;go_wp2_with fail;go_ret;exact Ip w [(A:Int),(B:Int),(C:Int),(E:Int)]
def BU(l:List Int):AE:=⟨(l.map fun x=>x.toNat.toUInt8).toArray⟩
def RM(l m:List Int):BU l++BU m=BU (l++m):=by unfold BU;rw[Ao];apply CJ;simp
def Fz(l:List Int):(BU l).size=l.length:=by simp[BU,ByteArray.size]
def YP(w:World)(a:Nat)(ha:a<256):(convert 33 9 (.slice (some ⟨w.heap.size,0,none⟩) 1 1)).run prog (w.alloc (.cells #[.int .u8 (a:Nat)] 5))=.ok (.string (BU [(a:Int)])) (w.alloc (.cells #[.int .u8 (a:Nat)] 5)):=by
 have h:=run_convert_bytes_back (P:=prog) (w.alloc (.cells #[.int .u8 (a:Nat)] 5)) 33 9 5 ⟨w.heap.size,0,none⟩ 1 [a.toUInt8] underlying33 underlying5 underlying9 (fun j hj=>by
  have hj0:j=0:=by simp at hj;exact hj
  subst hj0;have hr:=De.new w [(a:Int)];rcases hr.at_ with h0|⟨b,off,e,_,hc⟩
  .simp at h0
  .cases e;have h1:=hc 0 (by simp);have h2:(⟨w.heap.size,0,none⟩:Addr).add 0=⟨w.heap.size,0+0,none⟩:=by simp[Addr.add]
   rw[h2];refine Eq.trans h1 ?_;simp[Nat.mod_eq_of_lt ha])
 exact h
def Hv(w:World)(p:Nat)(v0 v1 v2 v3 v4 v5:Value):Prop:=w.heap[p]? =some (.cells #[v0,v1,v2,v3,v4,v5] 47 (0,0))
def Hv.all{w:World}{p:Nat}{v0 v1 v2 v3 v4 v5:Value}(h:Hv w p v0 v1 v2 v3 v4 v5):w.cell? ⟨p,0,none⟩=some v0/\w.cell? ⟨p,1,none⟩=some v1/\w.cell? ⟨p,2,none⟩=some v2/\w.cell? ⟨p,3,none⟩=some v3/\w.cell? ⟨p,4,none⟩=some v4/\w.cell? ⟨p,5,none⟩=some v5:=by unfold Hv at h;refine⟨?_,?_,?_,?_,?_,?_⟩<;>simp[World.cell?,h]
def Hv.lt{w:World}{p:Nat}{v0 v1 v2 v3 v4 v5:Value}(h:Hv w p v0 v1 v2 v3 v4 v5):p<w.heap.size:=lt_of_block h
def Hv.below{w w':World}{p B:Nat}{v0 v1 v2 v3 v4 v5:Value}(h:Hv w p v0 v1 v2 v3 v4 v5)(hp:p<B)(hb:Below B w w'):Hv w' p v0 v1 v2 v3 v4 v5:=(hb.block p hp).trans h
def Hv.but{S:Nat->Prop}{w w':World}{p:Nat}{v0 v1 v2 v3 v4 v5:Value}(h:Hv w p v0 v1 v2 v3 v4 v5)(hb:EF S w w')(hp:¬ S p):Hv w' p v0 v1 v2 v3 v4 v5:=(hb.block p h.lt hp).trans h
def Hv.new(w:World)(v0 v1 v2 v3 v4 v5:Value):Hv (w.alloc (.cells #[v0,v1,v2,v3,v4,v5] 47)) w.heap.size v0 v1 v2 v3 v4 v5:=by show(w.heap.push _)[w.heap.size]? =_;simp
def Db.butN{S:Nat->Prop}{w w1 w':World}{a:Option Addr}{n:Nat}{ns:List AM}(h:Db w a n ns)(hb1:Below w.heap.size w w1)(hb:EF S w1 w')(hS:∀k,k<w.heap.size->¬ S k):Db w' a n ns:=by
 refine⟨h.len,h.small,?_⟩;rcases h.at_ with h0|⟨b,off,e,hlt,hc⟩
 .exact .inl h0
 .refine .inr ⟨b,off,e,by have:=hb1.size;have:=hb.size;omega,fun i hi=> ?_⟩;obtain⟨s1,n1,c1,s2,n2,c2,e0,e1,e2,e3,e4,e5,r1,r2⟩:=hc i hi;have hcc:∀o,w'.cell? ⟨b,o,none⟩=w.cell? ⟨b,o,none⟩:=fun o=>(World.cell?_of_block (hb.block b (by have:=hb1.size;omega) (hS b hlt))).trans (hb1.cell (p:=⟨b,o,none⟩) hlt);exact⟨s1,n1,c1,s2,n2,c2,(hcc _).trans e0,(hcc _).trans e1,(hcc _).trans e2,(hcc _).trans e3,(hcc _).trans e4,(hcc _).trans e5,hb.row (r1.below AC hb1) (fun k hk hk'=>hS k (r1.hi hk') hk),hb.row (r2.below AC hb1) (fun k hk hk'=>hS k (r2.hi hk') hk)⟩
def NH(k:Int):k<1\/25<k\/k=1\/k=2\/k=3\/k=4\/k=5\/k=6\/k=7\/k=8\/k=9\/k=10\/k=11\/k=12\/k=13\/k=14\/k=15\/k=16\/k=17\/k=18\/k=19\/k=20\/k=21\/k=22\/k=23\/k=24\/k=25:=by omega
def Ai{a b:Int}(h:a≠b):(a==b)=false:=by simpa using h
def G7(k:Int)(w:World):Calls prog 24 #[.int .i64 k] w fun e w'=>e=.returned (.int .i64 (Ca k))/\w'=w:=by
 rcases NH k with h|h|h|h|h|h|h|h|h|h|h|h|h|h|h|h|h|h|h|h|h|h|h|h|h|h|h
 .have hs:Ca k=0:=by unfold Ca;rw[AG (by omega),AG (by omega),AG (by omega),AG (by omega),AG (by omega),AG (by omega)]
  rw[hs];have a1:¬(1:Int)<=k:=by omega
  have a2:¬(11:Int)<=k:=by omega
  have a3:¬(19:Int)<=k:=by omega
  have e8:=Ai (show k≠8 by omega);have e9:=Ai (show k≠9 by omega);have e10:=Ai (show k≠10 by omega);have e24:=Ai (show k≠24 by omega);have e25:=Ai (show k≠25 by omega);clear h hs;go_enter func24,ntmps24
  go_wp2
  go_ret;exact⟨rfl,rfl⟩
 .have hs:Ca k=0:=by unfold Ca;rw[AG (by omega),AG (by omega),AG (by omega),AG (by omega),AG (by omega),AG (by omega)]
  rw[hs];have a1:(1:Int)<=k:=by omega
  have a2:(11:Int)<=k:=by omega
  have a3:(19:Int)<=k:=by omega
  have b1:¬ k<=7:=by omega
  have b2:¬ k<=18:=by omega
  have b3:¬ k<=23:=by omega
  have e8:=Ai (show k≠8 by omega);have e9:=Ai (show k≠9 by omega);have e10:=Ai (show k≠10 by omega);have e24:=Ai (show k≠24 by omega);have e25:=Ai (show k≠25 by omega);clear h hs;go_enter func24,ntmps24
  go_wp2
  go_ret;exact⟨rfl,rfl⟩
 all_goals
  subst h;go_enter func24,ntmps24
  go_wp2
  go_ret;exact⟨rfl,rfl⟩
structure OJ(w:World)(a:Option Addr)(n:Nat)(zs:List Int):Prop where
 len:zs.length=n
 at_:n=0\/∃b off,a=some ⟨b,off,none⟩/\b<w.heap.size/\∀i,i<n->w.cell? ⟨b,off+i,none⟩=some (.int .i64 (zs.getD i 0))
structure I1(w:World)(a:Option Addr)(n:Nat)(ns:List AM):Prop where
 len:ns.length=n
 small:n<=1048576
 at_:n=0\/∃b off,a=some ⟨b,off,none⟩/\b<w.heap.size/\∀i,i<n->aq OJ w b (off+i*6) (Af ns i)
section
variable {w w':World}{a:Option Addr}{n:Nat}{zs:List Int}{ns:List AM}
def Df.weak(h:Df w a n zs):OJ w a n zs:=⟨h.len,h.at_⟩
def OJ.below{B:Nat}(h:OJ w a n zs)(hB:w.heap.size<=B)(hb:Below B w w'):OJ w' a n zs:=by
 refine⟨h.len,?_⟩;rcases h.at_ with h0|⟨b,off,rfl,hlt,hc⟩
 .exact .inl h0
 .exact .inr ⟨b,off,rfl,AX hlt hb.size,fun i hi=>(hb.cell (p:=⟨b,off+i,none⟩) (AX hlt hB)).trans (hc i hi)⟩
def OJ.get(h:OJ w a n zs){k:Nat}(hk:k<n):∃b off,a=some ⟨b,off,none⟩/\b<w.heap.size/\w.cell? ⟨b,off+k,none⟩=some (.int .i64 (zs.getD k 0)):=by
 rcases h.at_ with h0|⟨b,off,rfl,hlt,hc⟩
 .omega
 .exact⟨b,off,rfl,hlt,hc k hk⟩
def Db.weak(h:Db w a n ns):I1 w a n ns:=by
 refine⟨h.len,h.small,?_⟩;rcases h.at_ with h0|⟨b,off,rfl,hlt,hc⟩
 .exact .inl h0
 .refine .inr ⟨b,off,rfl,hlt,fun i hi=> ?_⟩;obtain⟨s1,n1,c1,s2,n2,c2,e0,e1,e2,e3,e4,e5,r1,r2⟩:=hc i hi;exact⟨s1,n1,c1,s2,n2,c2,e0,e1,e2,e3,e4,e5,r1.weak,r2.weak⟩
def I1.below{B:Nat}(h:I1 w a n ns)(hB:w.heap.size<=B)(hb:Below B w w'):I1 w' a n ns:=by
 refine⟨h.len,h.small,?_⟩;rcases h.at_ with h0|⟨b,off,rfl,hlt,hc⟩
 .exact .inl h0
 .exact .inr ⟨b,off,rfl,AX hlt hb.size,fun i hi=>(hc i hi).below (fun _ _ _ r=>r.below hB hb) (AX hlt hB) hb⟩
def I1.get(h:I1 w a n ns){k:Nat}(hk:k<n):∃b off,a=some ⟨b,off,none⟩/\b<w.heap.size/\aq OJ w b (off+k*6) (Af ns k):=by
 rcases h.at_ with h0|⟨b,off,rfl,hlt,hc⟩
 .omega
 .exact⟨b,off,rfl,hlt,hc k hk⟩
end
