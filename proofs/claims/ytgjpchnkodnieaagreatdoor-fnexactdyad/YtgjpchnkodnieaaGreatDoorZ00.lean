import Derived.Test.YtgjpchnkodnieaaGreatDoorZ
import Derived.WalkSpells
set_option linter.defProp false
namespace Go.Proofs.YtgjpchnkodnieaaGreatDoor
open Go.RowKit Tryz
structure AO(w:World)(a:Option Addr)(n:Nat)(zs:List Int):Prop where
 len:zs.length=n
 small:n<=17592186044416
 at_:n=0\/∃b off,a=some ⟨b,off,none⟩/\b<w.heap.size/\∀i,i<n->w.cell? ⟨b,off+i,none⟩=some (.int .i64 (zs.getD i 0))
def AO.below{w w':World}{a:Option Addr}{n:Nat}{zs:List Int}{B:Nat}(h:AO w a n zs)(hB:w.heap.size<=B)(hb:Below B w w'):AO w' a n zs:=by
 refine⟨h.len,h.small,?_⟩;rcases h.at_ with h0|⟨b,off,rfl,hlt,hc⟩
 .exact .inl h0
 .exact .inr ⟨b,off,rfl,AZ hlt hb.size,fun i hi=>(hb.cell (p:=⟨b,off+i,none⟩) (AZ hlt hB)).trans (hc i hi)⟩
def BA(w:World)(g:Nat)(zs:List Int):Prop:=w.heap[g]? =some (.cells (zs.map (Value.int .i64)).toArray 3 (0,0))
def BA.lt{w:World}{g:Nat}{zs:List Int}(h:BA w g zs):g<w.heap.size:=lt_of_block h
def BA.cell{w:World}{g:Nat}{zs:List Int}(h:BA w g zs){i:Nat}(hi:i<zs.length):w.cell? ⟨g,i,none⟩=some (.int .i64 (zs.getD i 0)):=by unfold BA at h;simp[World.cell?,h,hi]
def BA.free{w:World}{g:Nat}{zs:List Int}(h:BA w g zs)(i:Nat):w.frozen? ⟨g,i,none⟩=false:=CB w g i _ _ h
def BA.row{w:World}{g n:Nat}{zs:List Int}(h:BA w g zs)(hn:zs.length=n)(hs:n<=17592186044416):AO w (some ⟨g,0,none⟩) n zs:=⟨hn,hs,.inr ⟨g,0,rfl,h.lt,fun i hi=>by simpa using h.cell (i:=i) (by omega)⟩⟩
def BA.below{w w':World}{g:Nat}{zs:List Int}{B:Nat}(h:BA w g zs)(hB:w.heap.size<=B)(hb:Below B w w'):BA w' g zs:=(hb.block g (AZ h.lt hB)).trans h
def BA.set{w:World}{g:Nat}{zs:List Int}(h:BA w g zs)(i:Nat)(x:Int):BA (w.setCell ⟨g,i,none⟩ (.int .i64 x)) g (zs.set i x):=by unfold BA at h ⊢;rw[Bj w g i _ _ _ h];simp[List.map_set]
def BA.of_owns{w:World}{base g n:Nat}{zs:List Int}(h:w.ownsRow base 3 1 (.slice (some ⟨g,0,none⟩) n n) n (zs.map (Value.int .i64))):BA w g zs:=by
 rcases h.2 with⟨h',_⟩|⟨g',Ak,cur,h',_,hg,_,_,hs,ht⟩
 .simp at h'
 .simp only[Value.slice.injEq,Option.some.injEq,Addr.mk.injEq,and_true,true_and]at h';obtain⟨rfl,rfl⟩:=h';unfold BA;rw[hg,<-ht,AV (by simp;omega)]
def BA.other{w:World}{g:Nat}{zs:List Int}(h:BA w g zs){p:Addr}(hp:g≠p.block)(v:Value):BA (w.setCell p v) g zs:=(Cg w p g v hp).trans h
def BA.drew{w:World}{g:Nat}{zs:List Int}(h:BA w g zs):BA w.drew g zs:=h
def BA.alloc{w:World}{g:Nat}{zs:List Int}(h:BA w g zs)(o:Obj):BA (w.alloc o) g zs:=(Ab w o g h.lt).trans h
def Tw{W w1:World}(hb:Below W.heap.size W w1):(∀b o,b<W.heap.size->w1.cell? ⟨b,o,none⟩=W.cell? ⟨b,o,none⟩)/\(∀b o,b<W.heap.size->w1.frozen? ⟨b,o,none⟩=W.frozen? ⟨b,o,none⟩):=⟨fun b o h=>hb.cell (p:=⟨b,o,none⟩) h,fun b o h=>hb.frozen (p:=⟨b,o,none⟩) h⟩
def AD{p:Prop}(h:p):Hid p:=h
def AA{p:Prop}(h:Hid p):p:=h
def Av{a b:Bool}(h:a=b):Ending.returned (.bool a)=.returned (.bool b):=by rw[h]
def BM{k:IntKind}{a b:Int}(h:a=b):Ending.returned (.int k a)=.returned (.int k b):=by rw[h]
def GP{a a':Int}{b b':Bool}(ha:a=a')(hb:b=b'):Ending.returned (.tuple #[.int .i64 a,.bool b])=.returned (.tuple #[.int .i64 a',.bool b']):=by rw[ha,hb]
def CH{a b a' b':Int}(ha:a=a')(hb:b=b'):Ending.returned (.tuple #[.int .i64 a,.int .i64 b])=.returned (.tuple #[.int .i64 a',.int .i64 b']):=by rw[ha,hb]
