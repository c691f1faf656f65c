import Derived.Test.YtgjpchnkodnieaaGreatDoorZ12
import Derived.Deep.OwnRows
set_option maxHeartbeats 1000000
set_option linter.defProp false
namespace Go.Proofs.YtgjpchnkodnieaaGreatDoor
open Go.RowKit Tryz
def Ag(w:World)(r:Ic)(e:Ending)(w':World):Prop:=∃b1 m1 d1 b2 m2 d2,e=.returned (.tuple #[.agg #[.bool r.c,.slice b1 m1 d1,.slice b2 m2 d2],.int .i64 r.code])/\Bt w' w.heap.size b1 m1 r.sh/\Bt w' w.heap.size b2 m2 r.dt/\Ip b1 m1 b2 m2/\Below w.heap.size w w'
def Hv(w:World)(B:Nat)(a:Option Addr):Bt w B a 0 []:=⟨rfl,by omega,.inl rfl⟩
def As{w w':World}{code:Int}(h:Below w.heap.size w w'):Ag w (AT code) (.returned (.tuple #[.agg #[.bool false,.slice none 0 0,.slice none 0 0],.int .i64 code])) w':=⟨none,0,0,none,0,0,rfl,Hv _ _ _,Hv _ _ _,fun _ h=>absurd rfl h.1,h⟩
def Fn{c:Bool}{sh dt:List Int}(h:AJ c sh dt=true):Am sh=true/\Ac sh=(dt.length:Int):=by unfold AJ at h;simp only[Ah,BC]at h;refine⟨?_,h.2.1⟩;unfold Am;rw[AL h.1,AL (by omega)];rfl
def Fv{f:Nat->Int×Int}{n:Nat}:Ay f n=0↔∀k,k<n->(f k).2=0:=by
 induction n with
 |zero=>exact⟨fun _ k hk=>absurd hk (ET _),fun _=>rfl⟩
 |succ n ih=>
  constructor
  .intro h;have h0:Ay f n=0:=by
    by_cases h0:Ay f n=0
    .exact h0
    .simp only[Ay,AH h0]at h;exact h
   have h1:(f n).2=0:=by simpa only[Ay,AI h0]using h
   intro k hk;by_cases hkn:k=n
   .subst hkn;exact h1
   .exact ih.mp h0 k (by omega)
  .intro h;exact Ia (ih.mpr fun k hk=>h k (by omega)) (h n (by omega))
def Aa(w:World):Calls prog 53 #[] w fun e w'=>e=.returned (.agg #[.bool false,.slice none 0 0,.slice none 0 0])/\Below w.heap.size w w':=by
 go_enter func53,ntmps53
 go_wp2
 exact bodyPost_ret (v:=.agg #[.bool false,.slice none 0 0,.slice none 0 0]) (by simp[results,results53,go_sem]) rfl ⟨rfl,AG.alloc AC _⟩
def CJ(w:World)(r:Ic)(e:Ending)(w':World):Prop:=∃b1 m1 d1 b2 m2 d2,e=.returned (.tuple #[.agg #[.bool r.c,.slice b1 m1 d1,.slice b2 m2 d2],.int .i64 r.code])/\AO w' b1 m1 r.sh/\AO w' b2 m2 r.dt/\Below w.heap.size w w'
def Bl{c:Bool}{sh dt:List Int}(h:AJ c sh dt=true){k:Nat}(hk:k<dt.length): -1000000000000000<=dt.getD k 0/\dt.getD k 0<=1000000000000000:=by
 have h1:dt.all (BY c)=true:=by simp[AJ]at h;simpa using h.2.2
 have h2:=A7.mp h1 (dt.getD k 0) (by simp[hk]);simp[BY]at h2;simpa using h2.2
def aW{w w1:World}{c:Bool}{v1 v2:Value}(hb:Below ((w.alloc (.cells #[.bool c,v1,v2] 25)).alloc (.cells #[.bool false,.slice none 0 0,.slice none 0 0] 25)).heap.size ((w.alloc (.cells #[.bool c,v1,v2] 25)).alloc (.cells #[.bool false,.slice none 0 0,.slice none 0 0] 25)) w1):Ai w1 w.heap.size c v1 v2/\Ai w1 (w.heap.size+1) false (.slice none 0 0) (.slice none 0 0)/\Below w.heap.size w w1:=by
 have e:(w.alloc (.cells #[.bool c,v1,v2] 25)).heap.size=w.heap.size+1:=by simp
 refine⟨((Ai.new w c v1 v2).alloc _).below AC hb,?_,((AG.alloc AC _).alloc (by simp) _).trans (hb.mono (by simp;omega))⟩;have:=(Ai.new (w.alloc (.cells #[.bool c,v1,v2] 25)) false (.slice none 0 0) (.slice none 0 0)).below AC hb
 rwa [e]at this
def Az{w w1:World}{c d:Bool}{v1 v2 u1 u2:Value}(hb:Below (((w.alloc (.cells #[.bool c,v1,v2] 25)).alloc (.cells #[.bool d,u1,u2] 25)).alloc (.cells #[.bool false,.slice none 0 0,.slice none 0 0] 25)).heap.size (((w.alloc (.cells #[.bool c,v1,v2] 25)).alloc (.cells #[.bool d,u1,u2] 25)).alloc (.cells #[.bool false,.slice none 0 0,.slice none 0 0] 25)) w1):Ai w1 w.heap.size c v1 v2/\Ai w1 (w.heap.size+1) d u1 u2/\Ai w1 (w.heap.size+2) false (.slice none 0 0) (.slice none 0 0)/\Below w.heap.size w w1:=by
 have e1:(w.alloc (.cells #[.bool c,v1,v2] 25)).heap.size=w.heap.size+1:=by simp
 have e2:((w.alloc (.cells #[.bool c,v1,v2] 25)).alloc (.cells #[.bool d,u1,u2] 25)).heap.size=w.heap.size+2:=by simp
 refine⟨(((Ai.new w c v1 v2).alloc _).alloc _).below AC hb,?_,?_,(((AG.alloc AC _).alloc (by simp) _).alloc (by simp<;>omega) _).trans (hb.mono (by simp;omega))⟩
 .have:=((Ai.new (w.alloc (.cells #[.bool c,v1,v2] 25)) d u1 u2).alloc _).below AC hb
  rwa [e1]at this
 .have:=(Ai.new ((w.alloc (.cells #[.bool c,v1,v2] 25)).alloc (.cells #[.bool d,u1,u2] 25)) false (.slice none 0 0) (.slice none 0 0)).below AC hb
  rwa [e2]at this
def Je(z:Value)(n:Nat):madeCells #[z] n=(List.replicate n z).toArray:=by apply Array.toList_inj.mp;simpa using toList_madeCells_one z n
def BA.made(w:World)(n g:Nat)(hg:g=w.heap.size):BA (w.alloc (.cells (madeCells #[.int .i64 0] n) 3)) g (List.replicate n 0):=by subst hg;show(w.heap.push _)[w.heap.size]? =_;rw[Je];simp
def Ai.free'{w:World}{p:Nat}{c:Bool}{v1 v2:Value}(h:Ai w p c v1 v2):w.cell? ⟨p,0,none⟩=some (.bool c)/\w.cell? ⟨p,1,none⟩=some v1/\w.cell? ⟨p,2,none⟩=some v2/\w.frozen? ⟨p,0,none⟩=false/\w.frozen? ⟨p,1,none⟩=false/\w.frozen? ⟨p,2,none⟩=false/\p<w.heap.size:=⟨h.cells.1,h.cells.2.1,h.cells.2.2,CB w p _ _ _ h,CB w p _ _ _ h,CB w p _ _ _ h,h.lt⟩
def Ai.sets{w:World}{p:Nat}{c c':Bool}{v1 v2 u1 u2:Value}(h:Ai w p c v1 v2):Ai (((w.setCell ⟨p,0,none⟩ (.bool c')).setCell ⟨p,1,none⟩ u1).setCell ⟨p,2,none⟩ u2) p c' u1 u2:=by unfold Ai at h ⊢;have h1:=Bj w p 0 _ _ (.bool c') h;have h2:=Bj _ p 1 _ _ u1 h1;have h3:=Bj _ p 2 _ _ u2 h2;simpa using h3
def AO.notBox{w:World}{a:Option Addr}{n p:Nat}{zs:List Int}{c:Bool}{a1 a2:Option Addr}{l1 l2 c1 c2:Nat}(h:AO w a n zs)(hb:Ai w p c (.slice a1 l1 c1) (.slice a2 l2 c2)){k:Nat}(hk:At a n k):k≠p:=by
 rcases h.at_ with h0|⟨g,off,rfl,hg,hc⟩
 .exact absurd h0 hk.1
 .have e:=DT hk;subst e;rintro rfl;have h1:=hc 0 (by have:=hk.1;omega);unfold Ai at hb;simp only[World.cell?,hb]at h1;simp at h1
  match off,h1 with
  |0,h1=>simp at h1
  |1,h1=>simp at h1
  |2,h1=>simp at h1
def AO.otherB{w:World}{a:Option Addr}{n:Nat}{zs:List Int}(h:AO w a n zs){q:Addr}(ha:∀k,At a n k->k≠q.block)(v:Value):AO (w.setCell q v) a n zs:=((BS.refl (fun k=>k=q.block) w).setCell rfl v).row h (fun k hk hk'=>ha k hk' hk)
def AO.sets{w:World}{a:Option Addr}{n p:Nat}{zs:List Int}{c:Bool}{a1 a2:Option Addr}{l1 l2 c1 c2:Nat}(h:AO w a n zs)(hb:Ai w p c (.slice a1 l1 c1) (.slice a2 l2 c2))(u0 u1 u2:Value):AO (((w.setCell ⟨p,0,none⟩ u0).setCell ⟨p,1,none⟩ u1).setCell ⟨p,2,none⟩ u2) a n zs:=((h.otherB (fun _ hk=>h.notBox hb hk) _).otherB (fun _ hk=>h.notBox hb hk) _).otherB (fun _ hk=>h.notBox hb hk) _
def I3(w:World)(d:Bool)(zs ys:List Int)(n N box:Nat)(wx:World):Prop:=∃ash csh gd,Ai wx box d (.slice ash n csh) (.slice (some ⟨gd,0,none⟩) N N)/\Bt wx w.heap.size ash n zs/\w.heap.size<=gd/\BA wx gd ys/\¬ At ash n gd/\Below w.heap.size w wx
def I3.set{w W:World}{d:Bool}{zs ys:List Int}{n N box gd csh:Nat}{ash:Option Addr}{v1 v2:Value}{c:Bool}(hb:Ai W box c v1 v2)(hO:Bt W w.heap.size ash n zs)(hg:w.heap.size<=gd)(hB:BA W gd ys)(hne:¬ At ash n gd)(hbl:Below w.heap.size w W)(hb1:¬ At ash n box)(hb2:gd≠box)(hw:w.heap.size<=box):I3 w d zs ys n N box (((W.setCell ⟨box,0,none⟩ (.bool d)).setCell ⟨box,1,none⟩ (.slice ash n csh)).setCell ⟨box,2,none⟩ (.slice (some ⟨gd,0,none⟩) N N)):=by have hk:∀k,At ash n k->k≠box:=fun k hk e=>hb1 (e▸hk);exact⟨ash,csh,gd,hb.sets,((hO.other (q:=⟨box,0,none⟩) hk _).other (q:=⟨box,1,none⟩) hk _).other (q:=⟨box,2,none⟩) hk _,hg,((hB.other (p:=⟨box,0,none⟩) hb2 _).other (p:=⟨box,1,none⟩) hb2 _).other (p:=⟨box,2,none⟩) hb2 _,hne,((hbl.setCell (p:=⟨box,0,none⟩) hw _).setCell (p:=⟨box,1,none⟩) hw _).setCell (p:=⟨box,2,none⟩) hw _⟩
def Ej{w wx:World}{d:Bool}{zs ys:List Int}{n N gd csh:Nat}{ash:Option Addr}(hl:ys.length=N)(hN:N<=17592186044416)(hO:Bt wx w.heap.size ash n zs)(hg:w.heap.size<=gd)(hB:BA wx gd ys)(hne:¬ At ash n gd)(hbl:Below w.heap.size w wx):Ag w ⟨d,zs,ys,0⟩ (.returned (.tuple #[.agg #[.bool d,.slice ash n csh,.slice (some ⟨gd,0,none⟩) N N],.int .i64 0])) wx:=⟨ash,n,csh,some ⟨gd,0,none⟩,N,N,rfl,hO,hB.own hl hN hg,fun k h1 h2=>by have:=DT h2;subst this;exact hne h1,hbl⟩
structure VK(w:World)(a b:Addr):Prop where
 big:w.cell? ⟨1,0,none⟩=some (.iface 278 (.pointer (some b)))
def VK.below{w w':World}{a b:Addr}(h:VK w a b)(hb:Below w.heap.size w w'):VK w' a b:=⟨(hb.cell (p:=⟨1,0,none⟩) (AU _ _ h.big)).trans h.big⟩
def UJ{a b c a' b' c':Int}(ha:a=a')(hb:b=b')(hc:c=c'):Ending.returned (.tuple #[.int .i64 a,.int .i64 b,.int .i64 c])=.returned (.tuple #[.int .i64 a',.int .i64 b',.int .i64 c']):=by rw[ha,hb,hc]
def U1(sh:List Int)(k i:Nat)(h:k<sh.length)(hi:i<=k):(sh.take (k+1)).drop i=(sh.take k).drop i++ [sh.getD k 0]:=by rw[C3 sh k h,List.drop_append_of_le_length (by simp;omega)]
def Kr(xs:List Int)(x:Int):AM (xs++ [x])=AM xs*x:=by simp[AM]
def Fq(sh:List Int)(t k:Nat):Int:=AM (sh.take (min k t))
def Fr(sh:List Int)(t k:Nat):Int:=AM ((sh.take k).drop (t+1))
def V2{sh:List Int}{t k:Nat}(hk:k<sh.length)(h:k<t):Fq sh t (k+1)=Fq sh t k*sh.getD k 0:=by unfold Fq;rw[Nat.min_eq_left (by omega),Nat.min_eq_left (by omega),C3 sh k hk,Kr]
def QL{sh:List Int}{t k:Nat}(h:t<=k):Fq sh t (k+1)=Fq sh t k:=by unfold Fq;rw[Nat.min_eq_right (by omega),Nat.min_eq_right (by omega)]
def V4{sh:List Int}{t k:Nat}(hk:k<sh.length)(h:t<k):Fr sh t (k+1)=Fr sh t k*sh.getD k 0:=by unfold Fr;rw[U1 sh k (t+1) hk (by omega),Kr]
def QM{sh:List Int}{t k:Nat}(h:k<=t):Fr sh t (k+1)=Fr sh t k:=by unfold Fr;rw[List.drop_eq_nil_of_le (by simp;omega),List.drop_eq_nil_of_le (by simp;omega)]
def V3{sh:List Int}(h:Aq sh)(t k:Nat):0<=Fq sh t k/\Fq sh t k<=10000:=(h.take _).bd
def V5{sh:List Int}(h:Aq sh)(t k:Nat):0<=Fr sh t k/\Fr sh t k<=10000:=((h.take _).drop _).bd
def Gw(a:Option Addr)(n cap:Nat)(sh:List Int)(first:Bool)(w:World)(h:AO w a n sh)(hS:Aq sh)(hn:0<n):Calls prog 106 #[.slice a n cap,.bool first] w fun e w'=>e=.returned (.tuple #[.int .i64 (GL sh first),.int .i64 (EP sh first),.int .i64 (Ev sh first)])/\Below w.heap.size w w':=by
 have Bq:=AD h.len;have hsm:=h.small;have H:=AD h;have HS:=AD hS;clear h hS;obtain⟨t,ht⟩:∃t,CO sh first=t:=⟨_,rfl⟩
 have htn:t<n:=by rw[<-ht];unfold CO;rw[AA Bq];split<;>omega
 have HT:=AD ht;have HB:Hid (GL sh first=Fq sh t n):=by show _=_;unfold GL Fq;rw[ht,Nat.min_eq_right (by omega)]
 have HA:Hid (Ev sh first=Fr sh t n):=by show _=_;unfold Ev Fr;rw[ht,AV (by rw[AA Bq];exact AC)]
 have HN:Hid (EP sh first=sh.getD t 0):=by show _=_;unfold EP;rw[ht]
 obtain⟨bt,ot,hat,hltt,hct⟩:=(AA H).get htn;subst hat;have Ff:Hid (∀k,k<n->w.cell? ⟨bt,ot+k,none⟩=some (.int .i64 (sh.getD k 0))):=by intro k hk;obtain⟨b',o',e',_,hc'⟩:=(AA H).get hk;cases e';exact hc'
 have hft:(first=true/\t=0)\/(first=false/\(n:Int)- 1=(t:Int)):=by
  have:=AA HT;unfold CO at this;rw[AA Bq]at this;cases first
  .exact .inr ⟨rfl,by simp at this;omega⟩
  .exact .inl ⟨rfl,by simp at this;omega⟩
 clear ht;go_enter func106,ntmps106
 go_upto_if 14 with fail
 go_cut[7] (fun b wx=>w=wx/\b=.int .i64 t);case first=>
  rcases hft with⟨rfl,rfl⟩|⟨rfl,hnt⟩
  .go_wp2
   go_meet
   case rel=>exact⟨rfl,rfl⟩
  .go_wp2
   go_meet
   case rel=>exact⟨rfl,by rw[<-hnt]⟩
 case rest=>
  obtain⟨rfl,rfl⟩:=hcut;clear hft
  go_wp2
  go_loop [8,9,10] (fun p q i=>∃(k:Nat)(x y:Int),k<=n/\i=.int .i64 k/\p=.int .i64 x/\q=.int .i64 y/\Hid (Fq sh t k=x)/\Hid (Fr sh t k=y)) (fun _ _ i=>n- (intOf i).toNat)
  case atStart=>exact⟨0,1,1,AS _,rfl,rfl,rfl,by show _=_;simp[Fq,AM],by show _=_;simp[Fr,AM]⟩
  case round=>
   obtain⟨k,x,y,hk,rfl,rfl,rfl,hx,hy⟩:=hrel;by_cases hlt:k<n
   .have hc:=AA Ff k hlt;have hks:Hid (k<sh.length):=by show k<sh.length;rw[AA Bq];exact hlt
    obtain⟨z,hz⟩:∃z,z=sh.getD k 0:=⟨_,rfl⟩
    rw[<-hz]at hc;have HZ:=AD hz;clear hz;by_cases h1:k<t
    .have HX:Hid (Fq sh t (k+1)=x*z):=by show _=_;rw[V2 (AA hks) h1,AA hx,AA HZ]
     have HY:Hid (Fr sh t (k+1)=y):=by show _=_;rw[QM (by omega),AA hy]
     have hb:=V3 (AA HS) t (k+1);rw[AA HX]at hb;obtain⟨hb0,hb1⟩:=hb
     go_wp2
     go_round
     case rel=>exact⟨k+1,x*z,y,by omega,by go_num,rfl,rfl,HX,HY⟩
     case measure=>simp[intOf];omega
    .by_cases h2:t<k
     .have HX:Hid (Fq sh t (k+1)=x):=by show _=_;rw[QL (by omega),AA hx]
      have HY:Hid (Fr sh t (k+1)=y*z):=by show _=_;rw[V4 (AA hks) h2,AA hy,AA HZ]
      have hb:=V5 (AA HS) t (k+1);rw[AA HY]at hb;obtain⟨hb0,hb1⟩:=hb
      go_wp2
      go_round
      case rel=>exact⟨k+1,x,y*z,by omega,by go_num,rfl,rfl,HX,HY⟩
      case measure=>simp[intOf];omega
     .have HX:Hid (Fq sh t (k+1)=x):=by show _=_;rw[QL (by omega),AA hx]
      have HY:Hid (Fr sh t (k+1)=y):=by show _=_;rw[QM (by omega),AA hy]
      go_wp2
      go_round
      case rel=>exact⟨k+1,x,y,by omega,by go_num,rfl,rfl,HX,HY⟩
      case measure=>simp[intOf];omega
   .have hkn:k=n:=by omega
    subst hkn
    go_wp2
    go_quiet(fail)
    go_wp2
    refine bodyPost_ret (v:=.tuple #[.int .i64 x,.int .i64 (sh.getD t 0),.int .i64 y]) (by simp[results,results106,go_sem]) rfl ?_;exact⟨UJ ((AA HB).trans (AA hx)).symm (AA HN).symm ((AA HA).trans (AA hy)).symm,Below.drewN AG _⟩
def Vh{w:World}{b off n:Nat}{zs:List Int}(h:AO w (some ⟨b,off,none⟩) n zs)(hn:0<n):AO w (some ⟨b,off+1,none⟩) (n- 1) (zs.drop 1):=by
 refine⟨by rw[Gj,h.len],by have:=h.small;omega,?_⟩;rcases h.at_ with h0|⟨b',o',e,hlt,hc⟩
 .omega
 .cases e;refine .inr ⟨b,off+1,rfl,hlt,fun i hi=> ?_⟩;have:=hc (i+1) (by omega);rw[show off+1+i=off+(i+1) by omega,this];simp[List.getD]
def P3{w:World}{a:Option Addr}{n m:Nat}{zs:List Int}(h:AO w a n zs)(hm:m<=n):AO w a m (zs.take m):=by
 refine⟨by rw[FE,h.len];omega,by have:=h.small;omega,?_⟩;rcases h.at_ with h0|⟨b',o',e,hlt,hc⟩
 .exact .inl (by omega)
 .refine .inr ⟨b',o',e,hlt,fun i hi=> ?_⟩;rw[hc i (by omega)];simp[List.getD,hi]
def SE(a b:Option Addr)(n m ca cb:Nat)(xs ys:List Int)(w:World)(hx:AO w a n xs)(hy:AO w b m ys):Calls prog 179 #[.slice a n ca,.slice b m cb] w fun e w'=>e=.returned (.bool (decide (xs=ys)))/\∃q,w'=w.drewN q:=by
 obtain⟨hxl,hxs,hxa⟩:=hx;obtain⟨hyl,hys,hya⟩:=hy;by_cases hne:n=m
 .subst hne;have hn:((n:Int) !=(n:Int))=false:=by simp
  go_enter func179,ntmps179
  go_wp2
  go_loopw[5] (fun i wr=>∃k:Nat,k<=n/\i=.int .i64 k/\xs.take k=ys.take k/\∃q,wr=w.drewN q) (fun i _=>n- (intOf i).toNat);case atStart=>exact⟨0,AS _,rfl,rfl,0,rfl⟩
  case round=>
   obtain⟨k,hk,rfl,htk,q,rfl⟩:=hrel;by_cases hlt:k<n
   .have ha:∃b off,a=some ⟨b,off,none⟩/\w.cell? ⟨b,off+k,none⟩=some (.int .i64 (xs.getD k 0)):=by
     rcases hxa with h0|⟨b,off,rfl,hlt',hc⟩
     .omega
     .exact⟨b,off,rfl,hc k hlt⟩
    have hb:∃b' off,b=some ⟨b',off,none⟩/\w.cell? ⟨b',off+k,none⟩=some (.int .i64 (ys.getD k 0)):=by
     rcases hya with h0|⟨b,off,rfl,hlt',hc⟩
     .omega
     .exact⟨b,off,rfl,hc k hlt⟩
    obtain⟨b1,o1,rfl,hc1⟩:=ha;obtain⟨b2,o2,rfl,hc2⟩:=hb;clear hxa hya;obtain⟨x,hx⟩:∃x,x=xs.getD k 0:=⟨_,rfl⟩
    obtain⟨y,hy⟩:∃y,y=ys.getD k 0:=⟨_,rfl⟩
    rw[<-hx]at hc1;rw[<-hy]at hc2;have HX:Hid (x=xs.getD k 0):=hx;have HY:Hid (y=ys.getD k 0):=hy;have HT:Hid (xs.take k=ys.take k):=htk;have HL:Hid (xs.length=n/\ys.length=n):=⟨hxl,hyl⟩
    clear hx hy htk hxl hyl;by_cases hxy:x=y
    .have hb:(x !=y)=false:=by simp[hxy]
     have HXY:Hid (x=y):=hxy;clear hxy
     go_wp2
     go_quiet(fail)
     go_wp2
     go_roundw;case rel=>exact⟨k+1,by omega,by go_num,J8 HL.out.1 HL.out.2 hlt HT.out (HX.out.symm.trans (HXY.out.trans HY.out)),_,by first|rfl|exact World.drewN_drewN _ _ _⟩
     case measure=>simp[intOf];omega
    .have hb:(x !=y)=true:=by simp[hxy]
     have HN:Hid (¬ xs=ys):=fun e=>hxy (by rw[HX.out,HY.out,e]);clear hxy
     go_wp2
     go_quiet(fail)
     go_wp2
     go_ret;exact⟨Av (AK HN.out).symm,_,World.drewN_drewN _ _ _⟩
   .have hkn:k=n:=by omega
    have HE:Hid (xs=ys):=by
     show xs=ys
     rwa [AV (by omega),AV (by omega)]at htk
    clear htk;subst hkn
    go_wp2
    go_ret;exact⟨Av (AL HE.out).symm,_,rfl⟩
 .have hn:((n:Int) !=(m:Int))=true:=by simp;omega
  have HN:Hid (¬ xs=ys):=fun e=>hne (by rw[<-hxl,<-hyl,e]);clear hne;go_enter func179,ntmps179
  go_wp2
  go_ret;exact⟨Av (AK HN.out).symm,0,rfl⟩
def OV(a b:Option Addr)(n m ca cb:Nat)(xs ys:List Int)(w:World)(hx:AO w a n xs)(hy:AO w b m ys)(r:Bool)(hr:Hid (decide (xs=ys)=r)):Calls prog 179 #[.slice a n ca,.slice b m cb] w fun e w'=>e=.returned (.bool r)/\∃q,w'=w.drewN q:=by rw[<-hr.out];exact SE a b n m ca cb xs ys w hx hy
def SK:(prog.info? 4).map (fun i=>(i.zero,i.size,i.bytes))=some (some (.bool false),1,1):=by kernel_rfl
def He(w:World)(g:Nat)(bs:List Bool):Prop:=w.heap[g]? =some (.cells (bs.map Value.bool).toArray 4 (0,0))
def He.cell{w:World}{g:Nat}{bs:List Bool}(h:He w g bs){i:Nat}(hi:i<bs.length):w.cell? ⟨g,i,none⟩=some (.bool (bs.getD i false)):=by unfold He at h;simp[World.cell?,h,hi]
def He.free{w:World}{g:Nat}{bs:List Bool}(h:He w g bs)(i:Nat):w.frozen? ⟨g,i,none⟩=false:=CB w g i _ _ h
def He.set{w:World}{g:Nat}{bs:List Bool}(h:He w g bs)(i:Nat)(x:Bool):He (w.setCell ⟨g,i,none⟩ (.bool x)) g (bs.set i x):=by unfold He at h ⊢;rw[Bj w g i _ _ _ h];simp[List.map_set]
def He.other{w:World}{g:Nat}{bs:List Bool}(h:He w g bs){p:Addr}(hp:g≠p.block)(v:Value):He (w.setCell p v) g bs:=(Cg w p g v hp).trans h
def He.made(w:World)(n g:Nat)(hg:g=w.heap.size):He (w.alloc (.cells (madeCells #[.bool false] n) 4)) g (List.replicate n false):=by subst hg;show(w.heap.push _)[w.heap.size]? =_;rw[Je];simp
