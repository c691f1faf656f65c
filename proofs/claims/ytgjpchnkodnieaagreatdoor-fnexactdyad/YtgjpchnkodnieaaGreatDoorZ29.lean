import Derived.Test.YtgjpchnkodnieaaGreatDoorZ18
import Derived.Deep.AppendLies
import Derived.Test.YtgjpchnkodnieaaGreatDoorZ21
import Derived.Test.YtgjpchnkodnieaaGreatDoorZ16
set_option maxRecDepth 20000
set_option maxHeartbeats 4000000
set_option linter.defProp false
namespace Go.Proofs.YtgjpchnkodnieaaGreatDoor
open Go.RowKit Tryz
def BA.new(w:World):BA (w.alloc (.cells #[] 3)) w.heap.size []:=by show(w.heap.push _)[w.heap.size]? =_;simp
def BA.owns{w:World}{g base:Nat}(h:BA w g [])(hb:base<=g):w.ownsRow base 3 1 (.slice (some ⟨g,0,none⟩) 0 0) 0 []:=⟨by simp,.inr ⟨g,0,#[],rfl,hb,h,by simp,by unfold maxLen;omega,by simp,by simp⟩⟩
def Bt.grown{w w1:World}{B g n:Nat}{a:Option Addr}{zs:List Int}(h:Bt w B a n zs)(o:Obj)(hg:(w.alloc o).grownBy w1 (some g))(hne:∀x,At a n x->x≠g):Bt w1 B a n zs:=by
 refine⟨h.len,h.small,?_⟩;rcases h.at_ with h0|⟨b,off,rfl,hb,hlt,hc,hf⟩
 .exact .inl h0
 .by_cases hn:n=0
  .exact .inl hn
  have hk:w1.heap[b]? =w.heap[b]? :=(hg.block b (by simp;omega) (fun e=>hne b (DK hn) (by simpa using e))).trans (Ab w o b hlt);refine .inr ⟨b,off,rfl,hb,?_,fun i hi=>(World.cell?_of_block (w:=w) (a:=⟨b,off+i,none⟩) hk).trans (hc i hi),fun i hi=>(World.frozen?_of_block (w:=w) (a:=⟨b,off+i,none⟩) hk).trans (hf i hi)⟩;rcases Bz b w1.heap.size with h1|h1
  .exact h1
  .rw[Array.getElem?_eq_none h1,EJ hlt]at hk;cases hk
def TE(w2:World)(c:Bool)(m:Nat)(zs:List Int)(r:Value)(wx:World):Prop:=∃p g ash csh,r=.pointer (some ⟨p,0,none⟩)/\Ai wx p c (.slice ash m csh) (.slice (some ⟨g,0,none⟩) 0 0)/\BA wx g []/\Bt wx w2.heap.size ash m zs/\Below w2.heap.size w2 wx/\w2.heap.size<=p/\w2.heap.size<=g/\∀x,At ash m x->x≠g
def Jg{w2 wA:World}{c:Bool}{m csh:Nat}{zs:List Int}{ash:Option Addr}(hO:Bt wA w2.heap.size ash m zs)(hK:Below w2.heap.size w2 wA):TE w2 c m zs (.pointer (some ⟨wA.heap.size+1,0,none⟩)) ((wA.alloc (.cells #[] 3)).alloc (.cells #[.bool c,.slice ash m csh,.slice (some ⟨wA.heap.size,0,none⟩) 0 0] 25)):=by have hs:=hK.size;refine⟨wA.heap.size+1,wA.heap.size,ash,csh,rfl,?_,(BA.new wA).alloc _,(hO.alloc _).alloc _,(hK.alloc hs _).alloc (by simp;omega) _,by omega,by omega,fun x hx=>by have:=hO.row.hi hx;omega⟩;have:=Ai.new (wA.alloc (.cells #[] 3)) c (.slice ash m csh) (.slice (some ⟨wA.heap.size,0,none⟩) 0 0);simpa using this
def Qd{w2 wA:World}{c:Bool}{m csh:Nat}{zs:List Int}{ash:Option Addr}(hO:Bt wA w2.heap.size ash m zs)(hK:Below w2.heap.size w2 wA):TE w2 c m zs (.pointer (some ⟨wA.heap.size,0,none⟩)) ((wA.alloc (.cells #[.bool c,.slice ash m csh,.slice (some ⟨wA.heap.size+1,0,none⟩) 0 0] 25)).alloc (.cells #[] 3)):=by have hs:=hK.size;refine⟨wA.heap.size,wA.heap.size+1,ash,csh,rfl,(Ai.new _ _ _ _).alloc _,?_,(hO.alloc _).alloc _,(hK.alloc hs _).alloc (by simp;omega) _,by omega,by omega,fun x hx=>by have:=hO.row.hi hx;omega⟩;have:=BA.new (wA.alloc (.cells #[.bool c,.slice ash m csh,.slice (some ⟨wA.heap.size+1,0,none⟩) 0 0] 25));simpa using this
def Qe{w2 wA:World}{c:Bool}{m csh:Nat}{zs:List Int}{ash:Option Addr}{g:Nat}(hO:Bt wA w2.heap.size ash m zs)(hK:Below w2.heap.size w2 wA)(hQ:BA wA g [])(hg:w2.heap.size<=g)(hne:∀x,At ash m x->x≠g):TE w2 c m zs (.pointer (some ⟨wA.heap.size,0,none⟩)) (wA.alloc (.cells #[.bool c,.slice ash m csh,.slice (some ⟨g,0,none⟩) 0 0] 25)):=⟨wA.heap.size,g,ash,csh,rfl,Ai.new _ _ _ _,hQ.alloc _,hO.alloc _,hK.alloc hK.size _,hK.size,hg,hne⟩
def BA.notBox{w:World}{g p:Nat}{c:Bool}{v1 v2:Value}(h:BA w g [])(hb:Ai w p c v1 v2):g≠p:=by rintro rfl;unfold BA at h;unfold Ai at hb;rw[h]at hb;simp at hb
def Tj{w2 wA:World}{c:Bool}{m csh:Nat}{zs:List Int}{ash:Option Addr}{g p:Nat}{c':Bool}{a1 a2:Option Addr}{l1 l2 k1 k2:Nat}(hO:Bt wA w2.heap.size ash m zs)(hK:Below w2.heap.size w2 wA)(hP:Ai wA p c' (.slice a1 l1 k1) (.slice a2 l2 k2))(hp:w2.heap.size<=p)(hQ:BA wA g [])(hg:w2.heap.size<=g)(hne:∀x,At ash m x->x≠g):TE w2 c m zs (.pointer (some ⟨p,0,none⟩)) (((wA.setCell ⟨p,0,none⟩ (.bool c)).setCell ⟨p,1,none⟩ (.slice ash m csh)).setCell ⟨p,2,none⟩ (.slice (some ⟨g,0,none⟩) 0 0)):=by have hn:∀x,At ash m x->x≠p:=fun x hx=>hO.row.notBox hP hx;have hgp:=hQ.notBox hP;exact⟨p,g,ash,csh,rfl,hP.sets,((hQ.other hgp _).other hgp _).other hgp _,((hO.other hn _).other hn _).other hn _,((hK.setCell hp _).setCell hp _).setCell hp _,hp,hg,hne⟩
def Qc{w2 wA:World}{c:Bool}{m csh:Nat}{zs:List Int}{ash:Option Addr}{p:Nat}{c':Bool}{a1 a2:Option Addr}{l1 l2 k1 k2:Nat}(hO:Bt wA w2.heap.size ash m zs)(hK:Below w2.heap.size w2 wA)(hP:Ai wA p c' (.slice a1 l1 k1) (.slice a2 l2 k2))(hp:w2.heap.size<=p):TE w2 c m zs (.pointer (some ⟨p,0,none⟩)) ((((wA.setCell ⟨p,0,none⟩ (.bool c)).setCell ⟨p,1,none⟩ (.slice ash m csh)).setCell ⟨p,2,none⟩ (.slice (some ⟨wA.heap.size,0,none⟩) 0 0)).alloc (.cells #[] 3)):=by have hn:∀x,At ash m x->x≠p:=fun x hx=>hO.row.notBox hP hx;refine⟨p,wA.heap.size,ash,csh,rfl,hP.sets.alloc _,?_,(((hO.other hn _).other hn _).other hn _).alloc _,(((hK.setCell hp _).setCell hp _).setCell hp _).alloc (by simpa using hK.size) _,hp,hK.size,fun x hx=>by have:=hO.row.hi hx;omega⟩;have:=BA.new (((wA.setCell ⟨p,0,none⟩ (.bool c)).setCell ⟨p,1,none⟩ (.slice ash m csh)).setCell ⟨p,2,none⟩ (.slice (some ⟨wA.heap.size,0,none⟩) 0 0));simpa using this
structure Es(w2:World)(p:Nat)(c:Bool)(ash:Option Addr)(m csh:Nat)(zs:List Int)(f:Nat->Int×Int)(k:Nat)(wr:World)(g cap:Nat):Prop where
 box:Ai wr p c (.slice ash m csh) (.slice (some ⟨g,0,none⟩) k cap)
 owns:wr.ownsRow w2.heap.size 3 1 (.slice (some ⟨g,0,none⟩) k cap) k ((Bg f k).map (Value.int .i64))
 own:Bt wr w2.heap.size ash m zs
 ne:∀x,At ash m x->x≠g
 low:Below w2.heap.size w2 wr
 code:Ay f k=0
 place:w2.heap.size<=p
def Es.start{w2 wx:World}{p g:Nat}{c:Bool}{ash:Option Addr}{m csh:Nat}{zs:List Int}(f:Nat->Int×Int)(h1:Ai wx p c (.slice ash m csh) (.slice (some ⟨g,0,none⟩) 0 0))(h2:BA wx g [])(h3:Bt wx w2.heap.size ash m zs)(h4:Below w2.heap.size w2 wx)(h7:w2.heap.size<=p)(h5:w2.heap.size<=g)(h6:∀x,At ash m x->x≠g):Es w2 p c ash m csh zs f 0 wx g 0:=⟨h1,h2.owns h5,h3,h6,h4,rfl,h7⟩
def Es.below{w2 wr w5:World}{p g cap k:Nat}{c:Bool}{ash:Option Addr}{m csh:Nat}{zs:List Int}{f:Nat->Int×Int}(h:Es w2 p c ash m csh zs f k wr g cap)(hb:Below wr.heap.size wr w5):Es w2 p c ash m csh zs f k w5 g cap:=⟨h.box.below AC hb,BN h.owns AC hb,h.own.below AC hb,h.ne,h.low.trans (hb.mono h.low.size),h.code,h.place⟩
def Es.drew{w2 wr:World}{p g cap k:Nat}{c:Bool}{ash:Option Addr}{m csh:Nat}{zs:List Int}{f:Nat->Int×Int}(h:Es w2 p c ash m csh zs f k wr g cap):Es w2 p c ash m csh zs f k wr.drew g cap:=h.below AG.drew
def Es.push{w2 w5 w6:World}{p g g' cap Ak k:Nat}{c:Bool}{ash:Option Addr}{m csh:Nat}{zs:List Int}{f:Nat->Int×Int}{r1:Int}(o:Obj)(h:Es w2 p c ash m csh zs f k w5 g cap)(hf:f k=(r1,0))(BJ:w6.ownsRow w2.heap.size 3 1 (.slice (some ⟨g',0,none⟩) (k+1) Ak) (k+1) ((Bg f k).map (Value.int .i64)++ [.int .i64 r1]))(hg:(w5.alloc o).grownBy w6 (Value.ownBlock (.slice (some ⟨g,0,none⟩) k cap)))(hat:Value.ownBlock (.slice (some ⟨g,0,none⟩) k cap)=some g'\/g'=w5.heap.size+1):Ai w6 p c (.slice ash m csh) (.slice (some ⟨g,0,none⟩) k cap)/\Es w2 p c ash m csh zs f (k+1) (w6.setCell ⟨p,2,none⟩ (.slice (some ⟨g',0,none⟩) (k+1) Ak)) g' Ak:=by
 have hb6:=h.box.grown h.owns o hg;have hg':(w5.alloc o).grownBy w6 (some g):=hg;have ho6:=h.own.grown o hg' h.ne;have Ck:=h.low.trans (Co o h.owns h.low.size hg);have hne':∀x,At ash m x->x≠g':=by
  intro x hx;rcases hat with e|e
  .have e':g=g':=by simpa[Value.ownBlock]using e
   rw[<-e'];exact h.ne x hx
  .have:=h.own.row.hi hx;omega
 refine⟨hb6,hb6.set2 _,?_,ho6.other (fun x hx=>ho6.row.notBox hb6 hx) _,hne',Ck.setCell h.place _,Ia h.code (by rw[hf]),h.place⟩
 .rw[J3,hf];exact Eq BJ hb6 _ _
section
variable {P:Program}(w:World)
def LK(t ty:TypeId)(base:Nat)(e:TypeId)(i:TypeInfo)(z:Value)(size IJ:Nat)(ht:P.underlying t=some (.slice e))(hi:P.info? e=some i)(hz:i.zero=some z)(hsize:i.size=size)(hby:i.bytes=IJ)(hzs:z.cells.size=size)(hsz:0<size)(g0 n cap0:Nat)(xs:List Value)(BJ:w.ownsRow base e size (.slice (some ⟨g0,0,none⟩) n cap0) n xs)(ad:Addr)(m c:Nat)(news:List Value)(hl:news.length=m*size)(hnews:∀j u,news[j]? =some u->w.cell? (ad.add j)=some u)(h1:∀u∈news,u.oneCell'=true)(h63:n+m<=maxLen)(hbytes:(n+m)*IJ<=140737488355328)(hbase:base<=w.heap.size):∃g cap w',(Builtin.append_ #[t,t] ty #[.slice (some ⟨g0,0,none⟩) n cap0,.slice (some ad) m c]).run P w=.ok (.slice (some ⟨g,0,none⟩) (n+m) cap) w'/\w'.ownsRow base e size (.slice (some ⟨g,0,none⟩) (n+m) cap) (n+m) (xs++news)/\w.grownBy w' (some g0)/\(g=g0\/g=w.heap.size):=by
 obtain⟨v',w',hr,h2,h3,h4,h5⟩:=run_append_own_at (P:=P) w base t ty e i z size IJ ht hi hz hsize hby hzs hsz _ n xs BJ ad m c news hl hnews h1 h63 hbytes hbase;have hf:∃g cap,v'=.slice (some ⟨g,0,none⟩) (n+m) cap:=by
  rcases h2.2 with⟨e0,e1⟩|⟨g,cap,cur,hv,_⟩
  .exact absurd (h4.1 e0).1 (by simp)
  .exact⟨g,cap,hv⟩
 obtain⟨g,cap,rfl⟩:=hf;refine⟨g,cap,w',hr,h2,h3,?_⟩;rcases h5 with h5|h5
 .left;simpa[Value.ownBlock]using h5
 .right;simpa[Value.ownBlock]using h5
def Hg{o:Oper}{a:Act}{K:Act->World->Prop}{Q:Exit->Act->World->Prop}(s x:Operand)(t:TypeId)(ho:o.op=.call {callee:=.builtin .append,args:= #[s,x],argTypes:= #[t,t]})(base:Nat)(e:TypeId)(i:TypeInfo)(z:Value)(size IJ:Nat)(ht:P.underlying t=some (.slice e))(hi:P.info? e=some i)(hz:i.zero=some z)(hsize:i.size=size)(hby:i.bytes=IJ)(hzs:z.cells.size=size)(hsz:0<size)(g0 n cap0:Nat)(xs:List Value)(hs:a.eval s=.slice (some ⟨g0,0,none⟩) n cap0)(BJ:w.ownsRow base e size (.slice (some ⟨g0,0,none⟩) n cap0) n xs)(ad:Addr)(m c:Nat)(news:List Value)(hx:a.eval x=.slice (some ad) m c)(hl:news.length=m*size)(hnews:∀j u,news[j]? =some u->w.cell? (ad.add j)=some u)(h1:∀u∈news,u.oneCell'=true)(h63:n+m<=maxLen)(hbytes:(n+m)*IJ<=140737488355328)(hbase:base<=w.heap.size)(h:∀g cap w',w'.ownsRow base e size (.slice (some ⟨g,0,none⟩) (n+m) cap) (n+m) (xs++news)->w.grownBy w' (some g0)->(g=g0\/g=w.heap.size)->K (a.put o.dst (.slice (some ⟨g,0,none⟩) (n+m) cap)) w'):o.wp P a w K Q:=by obtain⟨g,cap,w',hr,h2,h3,h4⟩:=LK (P:=P) w t o.type base e i z size IJ ht hi hz hsize hby hzs hsz g0 n cap0 xs BJ ad m c news hl hnews h1 h63 hbytes hbase;unfold Oper.wp execOp;simp only[ho,resolve,invoke,builtin,Sem.run_bind,Sem.run_pure,Result.andThen_ok,List.map_toArray,List.map_cons,List.map_nil,hs,hx,hr];exact h g cap w' h2 h3 h4
end
def Ai.grown0{w w1:World}{p base n g cap:Nat}{c:Bool}{v1 v2:Value}{xs:List Value}(h:Ai w p c v1 v2)(BJ:w.ownsRow base 3 1 (.slice (some ⟨g,0,none⟩) n cap) n xs)(hg:w.grownBy w1 (some g)):Ai w1 p c v1 v2:=by
 refine(hg.block p h.lt ?_).trans h;rcases BJ.2 with⟨e,_⟩|⟨g',Ak,cur,e,_,hh,_⟩
 .cases e
 .cases e;intro e;cases e;unfold Ai at h;rw[h]at hh;have:=Gi (fun o=>match o with|some (.cells _ t _)=>t|_=>0) hh;simp at this
def Bt.grown0{w w1:World}{B g n:Nat}{a:Option Addr}{zs:List Int}(h:Bt w B a n zs)(hg:w.grownBy w1 (some g))(hne:∀x,At a n x->x≠g):Bt w1 B a n zs:=by
 refine⟨h.len,h.small,?_⟩;rcases h.at_ with h0|⟨b,off,rfl,hb,hlt,hc,hf⟩
 .exact .inl h0
 .by_cases hn:n=0
  .exact .inl hn
  have hk:w1.heap[b]? =w.heap[b]? :=hg.block b hlt (fun e=>hne b (DK hn) (by simpa using e));refine .inr ⟨b,off,rfl,hb,AZ hlt hg.size,fun i hi=> ?_,fun i hi=> ?_⟩
  .exact(World.cell?_of_block hk).trans (hc i hi)
  .exact(World.frozen?_of_block hk).trans (hf i hi)
structure GO(w2:World)(p:Nat)(c:Bool)(ash:Option Addr)(m csh:Nat)(zs l:List Int)(n:Nat)(wr:World)(g cap:Nat):Prop where
 box:Ai wr p c (.slice ash m csh) (.slice (some ⟨g,0,none⟩) n cap)
 owns:wr.ownsRow w2.heap.size 3 1 (.slice (some ⟨g,0,none⟩) n cap) n (l.map (Value.int .i64))
 own:Bt wr w2.heap.size ash m zs
 ne:∀x,At ash m x->x≠g
 low:Below w2.heap.size w2 wr
 place:w2.heap.size<=p
def GO.len{w2 wr:World}{p g cap n:Nat}{c:Bool}{ash:Option Addr}{m csh:Nat}{zs l:List Int}(h:GO w2 p c ash m csh zs l n wr g cap):l.length=n:=by have:=h.owns.1;simpa using this
def GO.drew{w2 wr:World}{p g cap n:Nat}{c:Bool}{ash:Option Addr}{m csh:Nat}{zs l:List Int}(h:GO w2 p c ash m csh zs l n wr g cap):GO w2 p c ash m csh zs l n wr.drew g cap:=
 have hb:Below wr.heap.size wr wr.drew:=AG.drew
 ⟨h.box.below AC hb,BN h.owns AC hb,h.own.below AC hb,h.ne,h.low.trans (hb.mono h.low.size),h.place⟩
def GO.push{w2 w5 w6:World}{p g g' cap Ak n k:Nat}{c:Bool}{ash:Option Addr}{m csh:Nat}{zs l r:List Int}(h:GO w2 p c ash m csh zs l n w5 g cap)(BJ:w6.ownsRow w2.heap.size 3 1 (.slice (some ⟨g',0,none⟩) (n+k) Ak) (n+k) (l.map (Value.int .i64)++r.map (Value.int .i64)))(hg:w5.grownBy w6 (some g))(hat:g'=g\/g'=w5.heap.size):(Ai w6 p c (.slice ash m csh) (.slice (some ⟨g,0,none⟩) n cap)/\Below w2.heap.size w2 w6)/\GO w2 p c ash m csh zs (l++r) (n+k) (w6.setCell ⟨p,2,none⟩ (.slice (some ⟨g',0,none⟩) (n+k) Ak)) g' Ak:=by
 have hb6:=h.box.grown0 h.owns hg;have ho6:=h.own.grown0 hg h.ne;have hge:w2.heap.size<=g:=by
  rcases h.owns.2 with⟨e,_⟩|⟨g1,_,_,e,hb,_⟩
  .cases e
  .cases e;exact hb
 have Ck:Below w2.heap.size w2 w6:=h.low.grown hg h.low.size (by intro k hk;cases hk;exact hge);have hne':∀x,At ash m x->x≠g':=by
  intro x hx;rcases hat with e|e
  .rw[e];exact h.ne x hx
  .have:=h.own.row.hi hx;omega
 refine⟨⟨hb6,Ck⟩,hb6.set2 _,?_,ho6.other (fun x hx=>ho6.row.notBox hb6 hx) _,hne',Ck.setCell h.place _,h.place⟩;rw[Bf];exact Eq BJ hb6 _ _
def Kd(b o k:Nat):(⟨b,o,none⟩:Addr).add k=⟨b,o+k,none⟩:=by
 unfold Addr.add;split
 .simp
 .rfl
def Mn{wx:World}{p b:Nat}{c d:Bool}{v1 v2 u1 u2:Value}(h:Ai wx p c v1 v2)(hb:Ai wx b d u1 u2):wx.cell? ⟨p,2,none⟩=some v2/\wx.cell? ⟨b,2,none⟩=some u2/\wx.frozen? ⟨p,2,none⟩=false:=by obtain⟨x0,x1,x2,x3,x4,x5,x6⟩:=h.all;exact⟨x2,hb.cells.2.2,by assumption⟩
def GO.holds{w2 wr:World}{p g cap n b:Nat}{c d:Bool}{ash:Option Addr}{m csh:Nat}{zs l:List Int}{u1 u2:Value}(h:GO w2 p c ash m csh zs l n wr g cap)(hb:Ai wr b d u1 u2):wr.cell? ⟨p,2,none⟩=some (.slice (some ⟨g,0,none⟩) n cap)/\wr.cell? ⟨b,2,none⟩=some u2/\wr.frozen? ⟨p,2,none⟩=false:=Mn h.box hb
def GO.grew{w2 w5 w6:World}{p g cap n:Nat}{c:Bool}{ash:Option Addr}{m csh:Nat}{zs l:List Int}(h:GO w2 p c ash m csh zs l n w5 g cap)(hg:w5.grownBy w6 (some g)):Ai w6 p c (.slice ash m csh) (.slice (some ⟨g,0,none⟩) n cap)/\Below w2.heap.size w2 w6:=by
 have hge:w2.heap.size<=g:=by
  rcases h.owns.2 with⟨e,_⟩|⟨g1,_,_,e,hb,_⟩
  .cases e
  .cases e;exact hb
 exact⟨h.box.grown0 h.owns hg,h.low.grown hg h.low.size (by intro k hk;cases hk;exact hge)⟩
def UE{w:World}{a:Addr}{n u m:Nat}{zs:List Int}(h:AO w (some a) n zs)(hu:u+m<=n):∀(j:Nat)v,(((zs.drop u).take m).map (Value.int .i64))[j]? =some v->w.cell? ((a.add u).add j)=some v:=by
 intro j v hj;have Bq:=h.len;have hjm:j<m:=by
  rcases Bz j m with h'|h'
  .exact h'
  .rw[Hf (by simp;omega)]at hj;cases hj
 obtain⟨b,o,e,_,_⟩:=h.get (show 0<n by omega);cases e;have hc:=Ct h (u+j) v (by rw[<-hj];simp only[List.getElem?_map,List.getElem?_take_of_lt hjm,F9]);rw[Kd]at hc;rw[Kd,Kd,FK];exact hc
def L3{w:World}{a A:Addr}{n u m e:Nat}{zs:List Int}(hA:(if e=u then some a else some (a.add u))=some A)(h:AO w (some a) n zs)(hu:u+m<=n)(hn:n<=e):∀(j:Nat)v,(((zs.drop u).take m).map (Value.int .i64))[j]? =some v->w.cell? (A.add j)=some v:=by
 by_cases he:e=u
 .intro j v hj;have:m=0:=by omega
  subst this;simp at hj
 .rw[AH he]at hA;cases hA;exact UE h hu
def TL{n u m:Nat}{zs:List Int}(h:zs.length=n)(hu:u+m<=n):(((zs.drop u).take m).map (Value.int .i64)).length=m*1:=by simp;omega
def Sv{k B x y p q n:Nat}(hk:k<B)(hp:B*x=p)(hq:B*y=q)(hn:n<=k*(x+y)):k*x+x<=p/\k*y+y<=q/\n+x+y<=p+q:=by have h1:(k+1)*x<=B*x:=Nat.mul_le_mul_right _ hk;have h2:(k+1)*y<=B*y:=Nat.mul_le_mul_right _ hk;rw[Nat.add_mul,Nat.one_mul]at h1 h2;rw[Nat.mul_add]at hn;omega
def Xj{k x y n:Nat}(hn:n<=k*(x+y)):n+x+y<=(k+1)*(x+y):=by rw[Nat.add_mul,Nat.one_mul];omega
section
open Go.Shelf
def Ti{v:Int}(h:Dv v=true):BH (v,true)=(v,0):=by simp[BH,h]
def Ye{v:Int}(h:Dv v=false):BH (v,true)=(0,7):=by simp[BH,h]
def Wt{v:Int}:BH (v,false)=(0,7):=by simp[BH]
def Ru{a b x y:Int}(hx:x=a\/x= -a)(hy:y=b\/y= -b):x*y=a*b\/x*y= -(a*b):=by rcases hx with rfl|rfl<;>rcases hy with rfl|rfl<;>simp[Int.neg_mul,Int.mul_neg]
def MW(v:Int)(w:World)(hv: -1000000000000000<=v/\v<=1000000000000000):Calls prog 281 #[.int .i64 v] w fun e w'=>e=.returned (.int .i64 (if v<0 then-v else v))/\w'=w:=by
 obtain⟨h1,h2⟩:=hv;by_cases h:v<0
 .rw[AI h];go_enter func281,ntmps281
  go_wp2
  go_ret;exact⟨by first|rfl|(simp;omega),rfl⟩
 .rw[AH h];go_enter func281,ntmps281
  go_wp2
  go_ret;exact⟨by first|rfl|(simp;omega),rfl⟩
def YJ{a b:Addr}{r:Int×Int}{x c:Int}(h:r=(x,c)):Ending.returned (.tuple #[.int .i64 x,E3 a b c])=Ending.returned (.tuple #[.int .i64 r.1,E3 a b r.2]):=by rw[h]
def NN(ga gb:Addr)(r:Int×Int)(w:World)(e:Ending)(w':World):Prop:=e=.returned (.tuple #[.int .i64 r.1,E3 ga gb r.2])/\∃q,w'=w.drewN q
def Gd{ga gb:Addr}{r:Int×Int}{x c:Int}{w w':World}{q:Nat}(h:r=(x,c))(hw:w'=w.drewN q):NN ga gb r w (.returned (.tuple #[.int .i64 x,E3 ga gb c])) w':=⟨YJ h,q,hw⟩
def Jj(v:Int)(w:World)(r:Bool)(h:Hid (Dv v=r)):Calls prog 215 #[.int .i64 v] w fun e w'=>e=.returned (.bool r)/\w'=w:=by
 have e:BY false v=r:=by rw[<-AA h];simp[BY,Dv]
 rw[<-e];exact Fj v w
def FH(v:Int)(w:World)(hv: -1000000000000000<=v/\v<=1000000000000000)(m:Int)(h:Hid ((if v<0 then-v else v)=m)):Calls prog 281 #[.int .i64 v] w fun e w'=>e=.returned (.int .i64 m)/\w'=w:=by rw[<-AA h];exact MW v w hv
end
section
open Go.Shelf
def PE(v:Int)(ga gb:Addr)(w:World)(hG:VK w ga gb):Calls prog 239 #[.int .i64 v] w (NN ga gb (BH (v,true)) w):=by
 have hc:=hG.big;clear hG;by_cases h:Dv v=true
 .have HE:=AD (Ti h);have HT:=AD h;clear h;go_enter func239,ntmps239;go_wp2_with(go_at_call 215;refine(Jj _ _ _ HT).mono ?_;rintro e w'⟨rfl,rfl⟩);go_ret2;exact Gd (c:=0) (q:=0) HE.out rfl
 .have h':Dv v=false:=by simpa using h
  have HE:=AD (Ye h');have HT:=AD h';clear h h';go_enter func239,ntmps239;go_wp2_with(go_at_call 215;refine(Jj _ _ _ HT).mono ?_;rintro e w'⟨rfl,rfl⟩);go_quiet(fail)
  go_wp2
  go_ret2;exact Gd (c:=7) HE.out rfl
def Zk(a b:Int)(ga gb:Addr)(w:World)(hG:VK w ga gb)(ha: -1000000000000000<=a/\a<=1000000000000000)(hb: -1000000000000000<=b/\b<=1000000000000000):Calls prog 241 #[.int .i64 a,.int .i64 b] w (NN ga gb (BQ 3 a b) w):=by
 have hc:=hG.big;clear hG;have HA:=AD ha;have HB:=AD hb;obtain⟨ha1,ha2⟩:=ha;obtain⟨hb1,hb2⟩:=hb;by_cases h0:a=0
 .subst h0;have HE:Hid (BQ 3 0 b=(0,0)):=by show _=_;simp[BQ,Bo,Dv,BH]
  go_enter func241,ntmps241
  go_wp2
  go_ret2;exact Gd (c:=0) (q:=0) HE.out rfl
 have q0:(a !=0)=true:=by simp[h0]
 obtain⟨x,hx⟩:∃x,(if b<0 then-b else b)=x:=⟨_,rfl⟩
 obtain⟨y,hy⟩:∃y,(if a<0 then-a else a)=y:=⟨_,rfl⟩
 have HX:=AD hx;have HY:=AD hy;have hy0:0<y:=by rw[<-hy];split<;>omega
 have hyn:¬ y=0:=by omega
 have hyb:y<=1000000000000000:=by rw[<-hy];split<;>omega
 have hx0:0<=x:=by rw[<-hx];split<;>omega
 have hxb:x<=1000000000000000:=by rw[<-hx];split<;>omega
 have hxy:x*y=b*a\/x*y= -(b*a):=Ru (by rw[<-hx];split<;>simp) (by rw[<-hy];split<;>simp);rw[Int.mul_comm b a]at hxy;have hp0:0<=x*y:=Int.mul_nonneg (by omega) (by omega);have hq:(1000000000000000:Int).tdiv y<x↔1000000000000000<x*y:=Ol hy0;obtain⟨t,ht⟩:∃t,(1000000000000000:Int).tdiv y=t:=⟨_,rfl⟩
 have htb:0<=t/\t<=1000000000000000:=by rw[<-ht,DA (by omega)];exact⟨Int.ediv_nonneg (by omega) (by omega),Int.ediv_le_self _ (by omega)⟩
 obtain⟨ht1,ht2⟩:=htb;rw[ht]at hq;obtain⟨pr,hpr⟩:∃pr,a*b=pr:=⟨_,rfl⟩
 rw[hpr]at hxy;have HT:Hid (BQ 3 a b=BH (Bo a b)):=rfl;by_cases hbig:t<x
 .rw[GU (by rw[hpr];exact Jk (by have:=hq.mp hbig;omega)),Wt]at HT;clear hq hxy hp0 h0 hx hy hpr;go_enter func241,ntmps241;go_wp2_with(first
   |(go_at_call_of 281 (Value.int .i64 b);refine(FH _ _ (AA HB) _ HX).mono ?_;rintro e w1⟨rfl,rfl⟩)
   |(go_at_call_of 281 (Value.int .i64 a);refine(FH _ _ (AA HA) _ HY).mono ?_;rintro e w1⟨rfl,rfl⟩))
  go_quiet(fail)
  go_wp2
  go_ret2;exact Gd (c:=7) HT.out rfl
 .have hle:x*y<=1000000000000000:=by
   by_cases h':1000000000000000<x*y
   .exact absurd (hq.mpr h') hbig
   .omega
  have hpb1: -1000000000000000<=pr:=by omega
  have hpb2:pr<=1000000000000000:=by omega
  rw[Hl (by rw[hpr];exact Ea hpb1 hpb2),hpr,Ti (Ea hpb1 hpb2)]at HT;clear hq hxy hp0 hle h0 hx hy;go_enter func241,ntmps241;go_wp2_with(first
   |(go_at_call_of 281 (Value.int .i64 b);refine(FH _ _ (AA HB) _ HX).mono ?_;rintro e w1⟨rfl,rfl⟩)
   |(go_at_call_of 281 (Value.int .i64 a);refine(FH _ _ (AA HA) _ HY).mono ?_;rintro e w1⟨rfl,rfl⟩))
  go_ret2;exact Gd (c:=0) (q:=0) HT.out rfl
def Ys(a b:Addr)(w:World)(hG:VK w a b):Calls prog 190 #[E3 a b 7] w fun e w'=>e=.returned (.int .i64 7)/\w'=w:=by have hc:=hG.big;rw[ID];go_enter func190,ntmps190;go_wp2_with(go_at_call 258;refine(Tl b _).mono ?_;rintro e w'⟨rfl,rfl⟩);go_ret;exact⟨rfl,rfl⟩
end
section
variable {o:Oper}{a:Act}
def aY(x:Operand)(b:Nat)(ho:o.op=.fieldAddr 25 x 2)(hx:a.eval x=.pointer (some ⟨b,0,none⟩))(w:World):(execOp a.eval o).run prog w=.ok (.value (.pointer (some ⟨b,2,none⟩))) w:=by
 unfold execOp;simp only[ho,hx]
 go_simp
def bY(x:Operand)(p:Addr){s:Option Addr}{l c:Nat}(ho:o.op=.load 23 x)(hx:a.eval x=.pointer (some p))(w:World)(hc:w.cell? p=some (.slice s l c)):(execOp a.eval o).run prog w=.ok (.value (.slice s l c)) w:=by
 unfold execOp;simp only[ho,hx]
 go_simp
def X8(x:Operand){v:Value}(ho:o.op=.move x)(hx:a.eval x=v)(w:World):(execOp a.eval o).run prog w=.ok (.value v) w:=by
 unfold execOp;simp only[ho,hx]
 go_simp
def TQ(x y:Operand){i j k:Int}(ho:o.op=.binOp .mul 3 x y 3)(hx:a.eval x=.int .i64 i)(hy:a.eval y=.int .i64 j)(hk:IntKind.i64.wrap (i*j)=k)(w:World):(execOp a.eval o).run prog w=.ok (.value (.int .i64 k)) w:=by
 unfold execOp;simp only[ho,hx,hy]
 go_simp
def Y4(x y:Operand){i j k:Int}(ho:o.op=.binOp .add 3 x y 3)(hx:a.eval x=.int .i64 i)(hy:a.eval y=.int .i64 j)(hk:IntKind.i64.wrap (i+j)=k)(w:World):(execOp a.eval o).run prog w=.ok (.value (.int .i64 k)) w:=by
 unfold execOp;simp only[ho,hx,hy]
 go_simp
def af(x:Operand)(ty tz:Nat){A AX:Addr}{l e u v m:Nat}(ho:o.op=.slice 23 x (some (.tmp ty)) (some (.tmp tz)) none)(hx:a.eval x=.slice (some A) l e)(hy:a.eval (.tmp ty)=.int .i64 (u:Nat))(hz:a.eval (.tmp tz)=.int .i64 (v:Nat))(hle:v<=e)(huv:u<=v)(hm:v- u=m)(hA:(if e=u then some A else some (A.add u))=some AX)(w:World):(execOp a.eval o).run prog w=.ok (.value (.slice (some AX) m (e- u))) w:=by
 have h1:(v:Int)<=(e:Int):=by omega
 have hy':a.tmps[ty]?.getD undef=.int .i64 (u:Nat):=by simpa[Act.eval]using hy
 have hz':a.tmps[tz]?.getD undef=.int .i64 (v:Nat):=by simpa[Act.eval]using hz
 unfold execOp;simp only[ho,hx]
 go_simp
def cZ(x y:Operand)(p:Nat){v1:Value}{s:Option Addr}{l c:Nat}(ho:o.op=.store 23 x y)(hx:a.eval x=.pointer (some ⟨p,2,none⟩))(hy:a.eval y=.slice s l c)(w:World)(hc:w.cell? ⟨p,2,none⟩=some v1)(hf:w.frozen? ⟨p,2,none⟩=false):(execOp a.eval o).run prog w=.ok .skip (w.setCell ⟨p,2,none⟩ (.slice s l c)):=by
 unfold execOp;simp only[ho,hx,hy]
 go_simp
def QH{a:Act}{v:Value}:a.put none v=a:=rfl
def A4{o:Oper}{y:Nat->Option Bool}(h:o.guard=none):Region.wanted o y=true:=by simp[Region.wanted,h]
end
def Wh:Oper:= {dst:=some 143,op:=Op.fieldAddr 25 (Operand.tmp 14) 2,type:=0,pos:= "l5_shape.go:97",after:= #[],guard:=none}
def Wg:Oper:= {dst:=some 144,op:=Op.load 23 (Operand.tmp 143),type:=23,pos:= "l5_shape.go:97",after:= #[{on:=0,ground:=Ground.data}],guard:=none}
def Wf:Oper:= {dst:=some 145,op:=Op.fieldAddr 25 (Operand.tmp 2) 2,type:=0,pos:= "l5_shape.go:97",after:= #[],guard:=none}
def We:Oper:= {dst:=some 146,op:=Op.load 23 (Operand.tmp 145),type:=23,pos:= "l5_shape.go:97",after:= #[{on:=2,ground:=Ground.data}],guard:=none}
def Wd:Oper:= {dst:=some 147,op:=Op.move (Operand.tmp 15),type:=3,pos:= "l5_shape.go:97",after:= #[],guard:=none}
def Wc:Oper:= {dst:=some 148,op:=Op.move (Operand.tmp 9),type:=3,pos:= "l5_shape.go:97",after:= #[],guard:=none}
def Wb:Oper:= {dst:=some 149,op:=Op.binOp BinOp.mul 3 (Operand.tmp 147) (Operand.tmp 148) 3,type:=3,pos:= "l5_shape.go:97",after:= #[{on:=4,ground:=Ground.data},{on:=5,ground:=Ground.data}],guard:=none}
def Wa:Oper:= {dst:=some 150,op:=Op.move (Operand.tmp 15),type:=3,pos:= "l5_shape.go:97",after:= #[],guard:=none}
def WZ:Oper:= {dst:=some 151,op:=Op.move (Operand.tmp 9),type:=3,pos:= "l5_shape.go:97",after:= #[],guard:=none}
def WY:Oper:= {dst:=some 152,op:=Op.binOp BinOp.mul 3 (Operand.tmp 150) (Operand.tmp 151) 3,type:=3,pos:= "l5_shape.go:97",after:= #[{on:=7,ground:=Ground.data},{on:=8,ground:=Ground.data}],guard:=none}
def Th:Oper:= {dst:=some 153,op:=Op.move (Operand.tmp 9),type:=3,pos:= "l5_shape.go:97",after:= #[],guard:=none}
def Tg:Oper:= {dst:=some 154,op:=Op.binOp BinOp.add 3 (Operand.tmp 152) (Operand.tmp 153) 3,type:=3,pos:= "l5_shape.go:97",after:= #[{on:=9,ground:=Ground.data},{on:=10,ground:=Ground.data}],guard:=none}
def Tf:Oper:= {dst:=some 155,op:=Op.slice 23 (Operand.tmp 146) (some (Operand.tmp 149)) (some (Operand.tmp 154)) none,type:=23,pos:= "l5_shape.go:97",after:= #[{on:=3,ground:=Ground.data},{on:=6,ground:=Ground.data},{on:=11,ground:=Ground.data}],guard:=none}
def Te:Oper:= {dst:=some 156,op:=Op.call {callee:=Callee.builtin Builtin.append,args:= #[Operand.tmp 144,Operand.tmp 155],argTypes:= #[23,23]},type:=23,pos:= "l5_shape.go:97",after:= #[{on:=1,ground:=Ground.data},{on:=12,ground:=Ground.data}],guard:=none}
def Td:Oper:= {dst:=some 157,op:=Op.fieldAddr 25 (Operand.tmp 14) 2,type:=0,pos:= "l5_shape.go:97",after:= #[{on:=0,ground:=Ground.phase},{on:=1,ground:=Ground.phase},{on:=2,ground:=Ground.phase},{on:=3,ground:=Ground.phase},{on:=4,ground:=Ground.phase},{on:=5,ground:=Ground.phase},{on:=6,ground:=Ground.phase},{on:=7,ground:=Ground.phase},{on:=8,ground:=Ground.phase},{on:=9,ground:=Ground.phase},{on:=10,ground:=Ground.phase},{on:=11,ground:=Ground.phase},{on:=12,ground:=Ground.phase},{on:=13,ground:=Ground.phase}],guard:=none}
def Lp:Oper:= {dst:=none,op:=Op.store 23 (Operand.tmp 157) (Operand.tmp 156),type:=0,pos:= "l5_shape.go:97",after:= #[{on:=14,ground:=Ground.data},{on:=13,ground:=Ground.data},{on:=13,ground:=Ground.chain},{on:=0,ground:=Ground.phase},{on:=1,ground:=Ground.phase},{on:=2,ground:=Ground.phase},{on:=3,ground:=Ground.phase},{on:=4,ground:=Ground.phase},{on:=5,ground:=Ground.phase},{on:=6,ground:=Ground.phase},{on:=7,ground:=Ground.phase},{on:=8,ground:=Ground.phase},{on:=9,ground:=Ground.phase},{on:=10,ground:=Ground.phase},{on:=11,ground:=Ground.phase},{on:=12,ground:=Ground.phase},{on:=13,ground:=Ground.phase}],guard:=none}
def Zi:Array Oper:= #[Wh,Wg,Wf,We,Wd,Wc,Wb,Wa,WZ,WY,Th,Tg,Tf,Te,Td,Lp]
def Rx(a:Act)(p q g n cap:Nat)(A AX:Addr)(l e k xn u v:Nat)(v':Value):Act:=(((((((((((((((a.put (some 143) (.pointer (some ⟨p,2,none⟩))).put (some 144) (.slice (some ⟨g,0,none⟩) n cap)).put (some 145) (.pointer (some ⟨q,2,none⟩))).put (some 146) (.slice (some A) l e)).put (some 147) (.int .i64 (k:Nat))).put (some 148) (.int .i64 (xn:Nat))).put (some 149) (.int .i64 (u:Nat))).put (some 150) (.int .i64 (k:Nat))).put (some 151) (.int .i64 (xn:Nat))).put (some 152) (.int .i64 (u:Nat))).put (some 153) (.int .i64 (xn:Nat))).put (some 154) (.int .i64 (v:Nat))).put (some 155) (.slice (some AX) xn (e- u))).put (some 156) (v')).put (some 157) (.pointer (some ⟨p,2,none⟩)))
def UQ{Q:Exit->Act->World->Prop}(a:Act)(W:World)(hsz:174<=a.tmps.size)(p q:Nat)(h14:a.eval (.tmp 14)=.pointer (some ⟨p,0,none⟩))(hq:a.eval (.tmp 2)=.pointer (some ⟨q,0,none⟩))(k xn u v:Nat)(h15:a.eval (.tmp 15)=.int .i64 (k:Nat))(hM:a.eval (.tmp 9)=.int .i64 (xn:Nat))(hmul:IntKind.i64.wrap ((k:Int)*(xn:Int))=(u:Int))(hadd:IntKind.i64.wrap ((u:Int)+(xn:Int))=(v:Int))(g n cap:Nat)(xs news:List Value)(A AX:Addr)(l e:Nat)(hle:v<=e)(huv':u<=v)(huv:v- u=xn)(hAX:(if e=u then some A else some (A.add u))=some AX)(hl:news.length=xn*1)(h1:∀u∈news,u.oneCell'=true)(hnews:∀j u,news[j]? =some u->W.drew.cell? (AX.add j)=some u)(base:Nat)(BJ:W.drew.ownsRow base 3 1 (.slice (some ⟨g,0,none⟩) n cap) n xs)(hn:n+xn<=1000000)(hbase:base<=W.heap.size)(S:World->Prop)(hS:∀wx,S wx->wx.cell? ⟨p,2,none⟩=some (.slice (some ⟨g,0,none⟩) n cap)/\wx.cell? ⟨q,2,none⟩=some (.slice (some A) l e)/\wx.frozen? ⟨p,2,none⟩=false)(hS0:S W.drew)(HA:∀w7,W.drew.grownBy w7 (some g)->S w7)(hQ:∀c a(d:Nat)v w,Q (.panic c) (a.put (some d) v) w->Q (.panic c) a w)(hend:∀g' Ak w7,w7.ownsRow base 3 1 (.slice (some ⟨g',0,none⟩) (n+xn) Ak) (n+xn) (xs++news)->W.drew.grownBy w7 (some g)->(g'=g\/g'=W.drew.heap.size)->Q .normal (Rx a p q g n cap A AX l e k xn u v (.slice (some ⟨g',0,none⟩) (n+xn) Ak)) (w7.setCell ⟨p,2,none⟩ (.slice (some ⟨g',0,none⟩) (n+xn) Ak))):(Code.region 32 Zi true).wp prog Q a W:=by obtain⟨i0,hi,hz0,hz1,hz2⟩:=info_parts A6;refine FL S 15 (by kernel_rfl) ?_;show CN _ _ _ _ _ _ (15+1) _ _ W.drew;refine AQ 0 143 (.pointer (some ⟨p,2,none⟩)) (oi:=Wh) rfl rfl (by kernel_rfl) (by kernel_rfl) (by kernel_rfl) (by kernel_rfl) hQ (A4 rfl) (fun w _=>aY (.tmp 14) p rfl h14 w) hS0 ?_;refine AQ 1 144 (.slice (some ⟨g,0,none⟩) n cap) (oi:=Wg) rfl rfl (by kernel_rfl) (by kernel_rfl) (by kernel_rfl) (by kernel_rfl) hQ (A4 rfl) (fun w hw=>bY (.tmp 143) _ rfl (Ad (by omega)) w (hS w hw).1) hS0 ?_;refine AQ 2 145 (.pointer (some ⟨q,2,none⟩)) (oi:=Wf) rfl rfl (by kernel_rfl) (by kernel_rfl) (by kernel_rfl) (by kernel_rfl) hQ (A4 rfl) (fun w _=>aY (.tmp 2) q rfl (by rw[AF (by decide),AF (by decide)];exact hq) w) hS0 ?_;refine AQ 3 146 (.slice (some A) l e) (oi:=We) rfl rfl (by kernel_rfl) (by kernel_rfl) (by kernel_rfl) (by kernel_rfl) hQ (A4 rfl) (fun w hw=>bY (.tmp 145) _ rfl (Ad (by rw[AE,AE];omega)) w (hS w hw).2.1) hS0 ?_;refine AQ 4 147 (.int .i64 (k:Nat)) (oi:=Wd) rfl rfl (by kernel_rfl) (by kernel_rfl) (by kernel_rfl) (by kernel_rfl) hQ (A4 rfl) (fun w _=>X8 (.tmp 15) rfl (by rw[AF (by decide),AF (by decide),AF (by decide),AF (by decide)];exact h15) w) hS0 ?_;refine AQ 5 148 (.int .i64 (xn:Nat)) (oi:=Wc) rfl rfl (by kernel_rfl) (by kernel_rfl) (by kernel_rfl) (by kernel_rfl) hQ (A4 rfl) (fun w _=>X8 (.tmp 9) rfl (by rw[AF (by decide),AF (by decide),AF (by decide),AF (by decide),AF (by decide)];exact hM) w) hS0 ?_;refine AQ 6 149 (.int .i64 (u:Nat)) (oi:=Wb) rfl rfl (by kernel_rfl) (by kernel_rfl) (by kernel_rfl) (by kernel_rfl) hQ (A4 rfl) (fun w _=>TQ (.tmp 147) (.tmp 148) rfl (by rw[AF (by decide)];exact Ad (by rw[AE,AE,AE,AE];omega)) (Ad (by rw[AE,AE,AE,AE,AE];omega)) hmul w) hS0 ?_;refine AQ 7 150 (.int .i64 (k:Nat)) (oi:=Wa) rfl rfl (by kernel_rfl) (by kernel_rfl) (by kernel_rfl) (by kernel_rfl) hQ (A4 rfl) (fun w _=>X8 (.tmp 15) rfl (by rw[AF (by decide),AF (by decide),AF (by decide),AF (by decide),AF (by decide),AF (by decide),AF (by decide)];exact h15) w) hS0 ?_;refine AQ 8 151 (.int .i64 (xn:Nat)) (oi:=WZ) rfl rfl (by kernel_rfl) (by kernel_rfl) (by kernel_rfl) (by kernel_rfl) hQ (A4 rfl) (fun w _=>X8 (.tmp 9) rfl (by rw[AF (by decide),AF (by decide),AF (by decide),AF (by decide),AF (by decide),AF (by decide),AF (by decide),AF (by decide)];exact hM) w) hS0 ?_;refine AQ 9 152 (.int .i64 (u:Nat)) (oi:=WY) rfl rfl (by kernel_rfl) (by kernel_rfl) (by kernel_rfl) (by kernel_rfl) hQ (A4 rfl) (fun w _=>TQ (.tmp 150) (.tmp 151) rfl (by rw[AF (by decide)];exact Ad (by rw[AE,AE,AE,AE,AE,AE,AE];omega)) (Ad (by rw[AE,AE,AE,AE,AE,AE,AE,AE];omega)) hmul w) hS0 ?_;refine AQ 10 153 (.int .i64 (xn:Nat)) (oi:=Th) rfl rfl (by kernel_rfl) (by kernel_rfl) (by kernel_rfl) (by kernel_rfl) hQ (A4 rfl) (fun w _=>X8 (.tmp 9) rfl (by rw[AF (by decide),AF (by decide),AF (by decide),AF (by decide),AF (by decide),AF (by decide),AF (by decide),AF (by decide),AF (by decide),AF (by decide)];exact hM) w) hS0 ?_;refine AQ 11 154 (.int .i64 (v:Nat)) (oi:=Tg) rfl rfl (by kernel_rfl) (by kernel_rfl) (by kernel_rfl) (by kernel_rfl) hQ (A4 rfl) (fun w _=>Y4 (.tmp 152) (.tmp 153) rfl (by rw[AF (by decide)];exact Ad (by rw[AE,AE,AE,AE,AE,AE,AE,AE,AE];omega)) (Ad (by rw[AE,AE,AE,AE,AE,AE,AE,AE,AE,AE];omega)) hadd w) hS0 ?_;refine AQ 12 155 (.slice (some AX) xn (e- u)) (oi:=Tf) rfl rfl (by kernel_rfl) (by kernel_rfl) (by kernel_rfl) (by kernel_rfl) hQ (A4 rfl) (fun w _=>af (.tmp 146) 149 154 rfl (by rw[AF (by decide),AF (by decide),AF (by decide),AF (by decide),AF (by decide),AF (by decide),AF (by decide),AF (by decide)];exact Ad (by rw[AE,AE,AE];omega)) (by rw[AF (by decide),AF (by decide),AF (by decide),AF (by decide),AF (by decide)];exact Ad (by rw[AE,AE,AE,AE,AE,AE];omega)) (Ad (by rw[AE,AE,AE,AE,AE,AE,AE,AE,AE,AE,AE];omega)) hle huv' huv hAX w) hS0 ?_;refine B9 (i:=13) (by kernel_rfl) ?_;refine FP (o:=Te) rfl (A4 rfl) ?_;refine Hg _ (.tmp 144) (.tmp 155) 23 rfl base 3 i0 (.int .i64 0) 1 8 underlying23 hi hz0 hz1 hz2 rfl (by decide) g n cap xs (by rw[AF (by decide),AF (by decide),AF (by decide),AF (by decide),AF (by decide),AF (by decide),AF (by decide),AF (by decide),AF (by decide),AF (by decide),AF (by decide)];exact Ad (by rw[AE];omega)) BJ AX xn (e- u) news (Ad (by rw[AE,AE,AE,AE,AE,AE,AE,AE,AE,AE,AE,AE];omega)) hl hnews h1 (by unfold maxLen;omega) (by omega) (by simpa using hbase) ?_;intro g' Ak w7 hown7 An hat;have hS7:=HA w7 An;refine⟨fun _=>hS7,?_⟩;show CN _ _ _ _ _ _ (1+1) _ (Act.put _ (some 156) _) _;refine AQ 14 157 (.pointer (some ⟨p,2,none⟩)) (oi:=Td) rfl rfl (by kernel_rfl) (by kernel_rfl) (by kernel_rfl) (by kernel_rfl) hQ (A4 rfl) (fun w _=>aY (.tmp 14) p rfl (by rw[AF (by decide),AF (by decide),AF (by decide),AF (by decide),AF (by decide),AF (by decide),AF (by decide),AF (by decide),AF (by decide),AF (by decide),AF (by decide),AF (by decide),AF (by decide),AF (by decide)];exact h14) w) hS7 ?_;refine B9 (i:=15) (by kernel_rfl) ?_;refine FP (o:=Lp) rfl (A4 rfl) ?_;unfold Oper.wp;rw[cZ (o:=Lp) (.tmp 157) (.tmp 156) p (s:=some ⟨g',0,none⟩) (l:=n+xn) (c:=Ak) rfl (Ad (by rw[AE,AE,AE,AE,AE,AE,AE,AE,AE,AE,AE,AE,AE,AE];omega)) (by rw[AF (by decide)];exact Ad (by rw[AE,AE,AE,AE,AE,AE,AE,AE,AE,AE,AE,AE,AE];omega)) w7 (hS w7 hS7).1 (hS w7 hS7).2.2];refine⟨fun h=>absurd rfl h,?_⟩;refine Eh (by kernel_rfl) ?_ _;have h:=hend g' Ak w7 hown7 An hat;unfold Rx at h;rw[show Lp.dst=none from rfl,QH];exact h
def WW:Oper:= {dst:=some 158,op:=Op.fieldAddr 25 (Operand.tmp 14) 2,type:=0,pos:= "l5_shape.go:98",after:= #[],guard:=none}
def WV:Oper:= {dst:=some 159,op:=Op.load 23 (Operand.tmp 158),type:=23,pos:= "l5_shape.go:98",after:= #[{on:=0,ground:=Ground.data}],guard:=none}
def WU:Oper:= {dst:=some 160,op:=Op.fieldAddr 25 (Operand.tmp 3) 2,type:=0,pos:= "l5_shape.go:98",after:= #[],guard:=none}
def WT:Oper:= {dst:=some 161,op:=Op.load 23 (Operand.tmp 160),type:=23,pos:= "l5_shape.go:98",after:= #[{on:=2,ground:=Ground.data}],guard:=none}
def WS:Oper:= {dst:=some 162,op:=Op.move (Operand.tmp 15),type:=3,pos:= "l5_shape.go:98",after:= #[],guard:=none}
def WR:Oper:= {dst:=some 163,op:=Op.move (Operand.tmp 12),type:=3,pos:= "l5_shape.go:98",after:= #[],guard:=none}
def WQ:Oper:= {dst:=some 164,op:=Op.binOp BinOp.mul 3 (Operand.tmp 162) (Operand.tmp 163) 3,type:=3,pos:= "l5_shape.go:98",after:= #[{on:=4,ground:=Ground.data},{on:=5,ground:=Ground.data}],guard:=none}
def WP:Oper:= {dst:=some 165,op:=Op.move (Operand.tmp 15),type:=3,pos:= "l5_shape.go:98",after:= #[],guard:=none}
def WO:Oper:= {dst:=some 166,op:=Op.move (Operand.tmp 12),type:=3,pos:= "l5_shape.go:98",after:= #[],guard:=none}
def WN:Oper:= {dst:=some 167,op:=Op.binOp BinOp.mul 3 (Operand.tmp 165) (Operand.tmp 166) 3,type:=3,pos:= "l5_shape.go:98",after:= #[{on:=7,ground:=Ground.data},{on:=8,ground:=Ground.data}],guard:=none}
def Tc:Oper:= {dst:=some 168,op:=Op.move (Operand.tmp 12),type:=3,pos:= "l5_shape.go:98",after:= #[],guard:=none}
def Tb:Oper:= {dst:=some 169,op:=Op.binOp BinOp.add 3 (Operand.tmp 167) (Operand.tmp 168) 3,type:=3,pos:= "l5_shape.go:98",after:= #[{on:=9,ground:=Ground.data},{on:=10,ground:=Ground.data}],guard:=none}
def Ta:Oper:= {dst:=some 170,op:=Op.slice 23 (Operand.tmp 161) (some (Operand.tmp 164)) (some (Operand.tmp 169)) none,type:=23,pos:= "l5_shape.go:98",after:= #[{on:=3,ground:=Ground.data},{on:=6,ground:=Ground.data},{on:=11,ground:=Ground.data}],guard:=none}
def TZ:Oper:= {dst:=some 171,op:=Op.call {callee:=Callee.builtin Builtin.append,args:= #[Operand.tmp 159,Operand.tmp 170],argTypes:= #[23,23]},type:=23,pos:= "l5_shape.go:98",after:= #[{on:=1,ground:=Ground.data},{on:=12,ground:=Ground.data}],guard:=none}
def TY:Oper:= {dst:=some 172,op:=Op.fieldAddr 25 (Operand.tmp 14) 2,type:=0,pos:= "l5_shape.go:98",after:= #[{on:=0,ground:=Ground.phase},{on:=1,ground:=Ground.phase},{on:=2,ground:=Ground.phase},{on:=3,ground:=Ground.phase},{on:=4,ground:=Ground.phase},{on:=5,ground:=Ground.phase},{on:=6,ground:=Ground.phase},{on:=7,ground:=Ground.phase},{on:=8,ground:=Ground.phase},{on:=9,ground:=Ground.phase},{on:=10,ground:=Ground.phase},{on:=11,ground:=Ground.phase},{on:=12,ground:=Ground.phase},{on:=13,ground:=Ground.phase}],guard:=none}
def Lo:Oper:= {dst:=none,op:=Op.store 23 (Operand.tmp 172) (Operand.tmp 171),type:=0,pos:= "l5_shape.go:98",after:= #[{on:=14,ground:=Ground.data},{on:=13,ground:=Ground.data},{on:=13,ground:=Ground.chain},{on:=0,ground:=Ground.phase},{on:=1,ground:=Ground.phase},{on:=2,ground:=Ground.phase},{on:=3,ground:=Ground.phase},{on:=4,ground:=Ground.phase},{on:=5,ground:=Ground.phase},{on:=6,ground:=Ground.phase},{on:=7,ground:=Ground.phase},{on:=8,ground:=Ground.phase},{on:=9,ground:=Ground.phase},{on:=10,ground:=Ground.phase},{on:=11,ground:=Ground.phase},{on:=12,ground:=Ground.phase},{on:=13,ground:=Ground.phase}],guard:=none}
def Zh:Array Oper:= #[WW,WV,WU,WT,WS,WR,WQ,WP,WO,WN,Tc,Tb,Ta,TZ,TY,Lo]
def Rw(a:Act)(p q g n cap:Nat)(A AX:Addr)(l e k xn u v:Nat)(v':Value):Act:=(((((((((((((((a.put (some 158) (.pointer (some ⟨p,2,none⟩))).put (some 159) (.slice (some ⟨g,0,none⟩) n cap)).put (some 160) (.pointer (some ⟨q,2,none⟩))).put (some 161) (.slice (some A) l e)).put (some 162) (.int .i64 (k:Nat))).put (some 163) (.int .i64 (xn:Nat))).put (some 164) (.int .i64 (u:Nat))).put (some 165) (.int .i64 (k:Nat))).put (some 166) (.int .i64 (xn:Nat))).put (some 167) (.int .i64 (u:Nat))).put (some 168) (.int .i64 (xn:Nat))).put (some 169) (.int .i64 (v:Nat))).put (some 170) (.slice (some AX) xn (e- u))).put (some 171) (v')).put (some 172) (.pointer (some ⟨p,2,none⟩)))
def UP{Q:Exit->Act->World->Prop}(a:Act)(W:World)(hsz:174<=a.tmps.size)(p q:Nat)(h14:a.eval (.tmp 14)=.pointer (some ⟨p,0,none⟩))(hq:a.eval (.tmp 3)=.pointer (some ⟨q,0,none⟩))(k xn u v:Nat)(h15:a.eval (.tmp 15)=.int .i64 (k:Nat))(hM:a.eval (.tmp 12)=.int .i64 (xn:Nat))(hmul:IntKind.i64.wrap ((k:Int)*(xn:Int))=(u:Int))(hadd:IntKind.i64.wrap ((u:Int)+(xn:Int))=(v:Int))(g n cap:Nat)(xs news:List Value)(A AX:Addr)(l e:Nat)(hle:v<=e)(huv':u<=v)(huv:v- u=xn)(hAX:(if e=u then some A else some (A.add u))=some AX)(hl:news.length=xn*1)(h1:∀u∈news,u.oneCell'=true)(hnews:∀j u,news[j]? =some u->W.drew.cell? (AX.add j)=some u)(base:Nat)(BJ:W.drew.ownsRow base 3 1 (.slice (some ⟨g,0,none⟩) n cap) n xs)(hn:n+xn<=1000000)(hbase:base<=W.heap.size)(S:World->Prop)(hS:∀wx,S wx->wx.cell? ⟨p,2,none⟩=some (.slice (some ⟨g,0,none⟩) n cap)/\wx.cell? ⟨q,2,none⟩=some (.slice (some A) l e)/\wx.frozen? ⟨p,2,none⟩=false)(hS0:S W.drew)(HA:∀w7,W.drew.grownBy w7 (some g)->S w7)(hQ:∀c a(d:Nat)v w,Q (.panic c) (a.put (some d) v) w->Q (.panic c) a w)(hend:∀g' Ak w7,w7.ownsRow base 3 1 (.slice (some ⟨g',0,none⟩) (n+xn) Ak) (n+xn) (xs++news)->W.drew.grownBy w7 (some g)->(g'=g\/g'=W.drew.heap.size)->Q .normal (Rw a p q g n cap A AX l e k xn u v (.slice (some ⟨g',0,none⟩) (n+xn) Ak)) (w7.setCell ⟨p,2,none⟩ (.slice (some ⟨g',0,none⟩) (n+xn) Ak))):(Code.region 33 Zh true).wp prog Q a W:=by obtain⟨i0,hi,hz0,hz1,hz2⟩:=info_parts A6;refine FL S 15 (by kernel_rfl) ?_;show CN _ _ _ _ _ _ (15+1) _ _ W.drew;refine AQ 0 158 (.pointer (some ⟨p,2,none⟩)) (oi:=WW) rfl rfl (by kernel_rfl) (by kernel_rfl) (by kernel_rfl) (by kernel_rfl) hQ (A4 rfl) (fun w _=>aY (.tmp 14) p rfl h14 w) hS0 ?_;refine AQ 1 159 (.slice (some ⟨g,0,none⟩) n cap) (oi:=WV) rfl rfl (by kernel_rfl) (by kernel_rfl) (by kernel_rfl) (by kernel_rfl) hQ (A4 rfl) (fun w hw=>bY (.tmp 158) _ rfl (Ad (by omega)) w (hS w hw).1) hS0 ?_;refine AQ 2 160 (.pointer (some ⟨q,2,none⟩)) (oi:=WU) rfl rfl (by kernel_rfl) (by kernel_rfl) (by kernel_rfl) (by kernel_rfl) hQ (A4 rfl) (fun w _=>aY (.tmp 3) q rfl (by rw[AF (by decide),AF (by decide)];exact hq) w) hS0 ?_;refine AQ 3 161 (.slice (some A) l e) (oi:=WT) rfl rfl (by kernel_rfl) (by kernel_rfl) (by kernel_rfl) (by kernel_rfl) hQ (A4 rfl) (fun w hw=>bY (.tmp 160) _ rfl (Ad (by rw[AE,AE];omega)) w (hS w hw).2.1) hS0 ?_;refine AQ 4 162 (.int .i64 (k:Nat)) (oi:=WS) rfl rfl (by kernel_rfl) (by kernel_rfl) (by kernel_rfl) (by kernel_rfl) hQ (A4 rfl) (fun w _=>X8 (.tmp 15) rfl (by rw[AF (by decide),AF (by decide),AF (by decide),AF (by decide)];exact h15) w) hS0 ?_;refine AQ 5 163 (.int .i64 (xn:Nat)) (oi:=WR) rfl rfl (by kernel_rfl) (by kernel_rfl) (by kernel_rfl) (by kernel_rfl) hQ (A4 rfl) (fun w _=>X8 (.tmp 12) rfl (by rw[AF (by decide),AF (by decide),AF (by decide),AF (by decide),AF (by decide)];exact hM) w) hS0 ?_;refine AQ 6 164 (.int .i64 (u:Nat)) (oi:=WQ) rfl rfl (by kernel_rfl) (by kernel_rfl) (by kernel_rfl) (by kernel_rfl) hQ (A4 rfl) (fun w _=>TQ (.tmp 162) (.tmp 163) rfl (by rw[AF (by decide)];exact Ad (by rw[AE,AE,AE,AE];omega)) (Ad (by rw[AE,AE,AE,AE,AE];omega)) hmul w) hS0 ?_;refine AQ 7 165 (.int .i64 (k:Nat)) (oi:=WP) rfl rfl (by kernel_rfl) (by kernel_rfl) (by kernel_rfl) (by kernel_rfl) hQ (A4 rfl) (fun w _=>X8 (.tmp 15) rfl (by rw[AF (by decide),AF (by decide),AF (by decide),AF (by decide),AF (by decide),AF (by decide),AF (by decide)];exact h15) w) hS0 ?_;refine AQ 8 166 (.int .i64 (xn:Nat)) (oi:=WO) rfl rfl (by kernel_rfl) (by kernel_rfl) (by kernel_rfl) (by kernel_rfl) hQ (A4 rfl) (fun w _=>X8 (.tmp 12) rfl (by rw[AF (by decide),AF (by decide),AF (by decide),AF (by decide),AF (by decide),AF (by decide),AF (by decide),AF (by decide)];exact hM) w) hS0 ?_;refine AQ 9 167 (.int .i64 (u:Nat)) (oi:=WN) rfl rfl (by kernel_rfl) (by kernel_rfl) (by kernel_rfl) (by kernel_rfl) hQ (A4 rfl) (fun w _=>TQ (.tmp 165) (.tmp 166) rfl (by rw[AF (by decide)];exact Ad (by rw[AE,AE,AE,AE,AE,AE,AE];omega)) (Ad (by rw[AE,AE,AE,AE,AE,AE,AE,AE];omega)) hmul w) hS0 ?_;refine AQ 10 168 (.int .i64 (xn:Nat)) (oi:=Tc) rfl rfl (by kernel_rfl) (by kernel_rfl) (by kernel_rfl) (by kernel_rfl) hQ (A4 rfl) (fun w _=>X8 (.tmp 12) rfl (by rw[AF (by decide),AF (by decide),AF (by decide),AF (by decide),AF (by decide),AF (by decide),AF (by decide),AF (by decide),AF (by decide),AF (by decide)];exact hM) w) hS0 ?_;refine AQ 11 169 (.int .i64 (v:Nat)) (oi:=Tb) rfl rfl (by kernel_rfl) (by kernel_rfl) (by kernel_rfl) (by kernel_rfl) hQ (A4 rfl) (fun w _=>Y4 (.tmp 167) (.tmp 168) rfl (by rw[AF (by decide)];exact Ad (by rw[AE,AE,AE,AE,AE,AE,AE,AE,AE];omega)) (Ad (by rw[AE,AE,AE,AE,AE,AE,AE,AE,AE,AE];omega)) hadd w) hS0 ?_;refine AQ 12 170 (.slice (some AX) xn (e- u)) (oi:=Ta) rfl rfl (by kernel_rfl) (by kernel_rfl) (by kernel_rfl) (by kernel_rfl) hQ (A4 rfl) (fun w _=>af (.tmp 161) 164 169 rfl (by rw[AF (by decide),AF (by decide),AF (by decide),AF (by decide),AF (by decide),AF (by decide),AF (by decide),AF (by decide)];exact Ad (by rw[AE,AE,AE];omega)) (by rw[AF (by decide),AF (by decide),AF (by decide),AF (by decide),AF (by decide)];exact Ad (by rw[AE,AE,AE,AE,AE,AE];omega)) (Ad (by rw[AE,AE,AE,AE,AE,AE,AE,AE,AE,AE,AE];omega)) hle huv' huv hAX w) hS0 ?_;refine B9 (i:=13) (by kernel_rfl) ?_;refine FP (o:=TZ) rfl (A4 rfl) ?_;refine Hg _ (.tmp 159) (.tmp 170) 23 rfl base 3 i0 (.int .i64 0) 1 8 underlying23 hi hz0 hz1 hz2 rfl (by decide) g n cap xs (by rw[AF (by decide),AF (by decide),AF (by decide),AF (by decide),AF (by decide),AF (by decide),AF (by decide),AF (by decide),AF (by decide),AF (by decide),AF (by decide)];exact Ad (by rw[AE];omega)) BJ AX xn (e- u) news (Ad (by rw[AE,AE,AE,AE,AE,AE,AE,AE,AE,AE,AE,AE];omega)) hl hnews h1 (by unfold maxLen;omega) (by omega) (by simpa using hbase) ?_;intro g' Ak w7 hown7 An hat;have hS7:=HA w7 An;refine⟨fun _=>hS7,?_⟩;show CN _ _ _ _ _ _ (1+1) _ (Act.put _ (some 171) _) _;refine AQ 14 172 (.pointer (some ⟨p,2,none⟩)) (oi:=TY) rfl rfl (by kernel_rfl) (by kernel_rfl) (by kernel_rfl) (by kernel_rfl) hQ (A4 rfl) (fun w _=>aY (.tmp 14) p rfl (by rw[AF (by decide),AF (by decide),AF (by decide),AF (by decide),AF (by decide),AF (by decide),AF (by decide),AF (by decide),AF (by decide),AF (by decide),AF (by decide),AF (by decide),AF (by decide),AF (by decide)];exact h14) w) hS7 ?_;refine B9 (i:=15) (by kernel_rfl) ?_;refine FP (o:=Lo) rfl (A4 rfl) ?_;unfold Oper.wp;rw[cZ (o:=Lo) (.tmp 172) (.tmp 171) p (s:=some ⟨g',0,none⟩) (l:=n+xn) (c:=Ak) rfl (Ad (by rw[AE,AE,AE,AE,AE,AE,AE,AE,AE,AE,AE,AE,AE,AE];omega)) (by rw[AF (by decide)];exact Ad (by rw[AE,AE,AE,AE,AE,AE,AE,AE,AE,AE,AE,AE,AE];omega)) w7 (hS w7 hS7).1 (hS w7 hS7).2.2];refine⟨fun h=>absurd rfl h,?_⟩;refine Eh (by kernel_rfl) ?_ _;have h:=hend g' Ak w7 hown7 An hat;unfold Rw at h;rw[show Lo.dst=none from rfl,QH];exact h
section
variable {w2 W w7:World}{p g g' cap Ak n:Nat}{c:Bool}{ash:Option Addr}{m csh:Nat}{zs l:List Int}
def GO.alloc(h:GO w2 p c ash m csh zs l n W g cap)(o:Obj):GO w2 p c ash m csh zs l n (W.alloc o) g cap:=
 have hb:Below W.heap.size W (W.alloc o):=AG.alloc AC _
 ⟨h.box.below AC hb,BN h.owns AC hb,h.own.below AC hb,h.ne,h.low.trans (hb.mono h.low.size),h.place⟩
def GO.below{W':World}(h:GO w2 p c ash m csh zs l n W g cap)(hb:Below W.heap.size W W'):GO w2 p c ash m csh zs l n W' g cap:=⟨h.box.below AC hb,BN h.owns AC hb,h.own.below AC hb,h.ne,h.low.trans (hb.mono h.low.size),h.place⟩
def GO.grew1(h:GO w2 p c ash m csh zs l n W g cap){x:Int}(hg:(W.drew.alloc (.cells #[.int .i64 x] 3)).grownBy w7 (some g)):Ai w7 p c (.slice ash m csh) (.slice (some ⟨g,0,none⟩) n cap)/\Below w2.heap.size w2 w7:=(h.drew.alloc _).grew hg
def GO.push1(h:GO w2 p c ash m csh zs l n W g cap){x:Int}(BJ:w7.ownsRow w2.heap.size 3 1 (.slice (some ⟨g',0,none⟩) (n+1) Ak) (n+1) (l.map (Value.int .i64)++ [.int .i64 x]))(hg:(W.drew.alloc (.cells #[.int .i64 x] 3)).grownBy w7 (Value.ownBlock (.slice (some ⟨g,0,none⟩) n cap)))(hat:Value.ownBlock (.slice (some ⟨g,0,none⟩) n cap)=some g'\/g'=W.drew.heap.size+1):GO w2 p c ash m csh zs (l++ [x]) (n+1) (w7.setCell ⟨p,2,none⟩ (.slice (some ⟨g',0,none⟩) (n+1) Ak)) g' Ak:=by
 refine((h.drew.alloc (.cells #[.int .i64 x] 3)).push (r:= [x]) BJ hg ?_).2;rcases hat with e|e
 .left;have e':g=g':=by simpa[Value.ownBlock]using e
  exact e'.symm
 .right;rw[e];simp
end
