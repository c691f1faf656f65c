import Derived.Test.YtgjpchnkodnieaaGreatDoorRows
import Derived.Lib.SmallJoins
import Derived.Test.YtgjpchnkodnieaaGreatDoorZ12
import Derived.LaidMore
import Derived.Stop.LaidTwo
import Derived.Stop.Joined
set_option maxRecDepth 100000
set_option linter.defProp false
namespace Go.Proofs.YtgjpchnkodnieaaGreatDoor
open Go.RowKit Go.Proofs.Tryz
section
open Go.ChangeShapes Go.WideShapes Go.ChangeAt Go.Joins
def own:ownKnob prog.godebug=none:=by kernel_rfl
def PF:laidOutB prog=true:=by kernel_rfl
def Xg:prog.cellsOf 3=1:=by kernel_rfl
def Xi:prog.cellsOf 40=3:=by kernel_rfl
def TT{H:Type}{enc:TypeId×Value->H}{W:World}{fuel:Nat}{v:Value}{x:DataW H×List MemPlace}(h:DataW.trod enc prog W 0 (fun _=>true) true fuel 23 [v]=some x):∃a n cap zs,v=.slice a n cap/\Y1 W a n zs:=by
 rcases open_ints underlying23 underlying3 Xg h with⟨hcs,_⟩|⟨a,len,cap,zs,hcs,_,hl,hm,hz,_,Ff,_⟩
 .simp at hcs;exact⟨none,0,0,[],hcs,⟨rfl,by omega,.inl rfl⟩⟩
 .simp at hcs hz;unfold maxLen at hm;refine⟨some a,len,cap,zs.take len,hcs,⟨by simp;omega,by omega,?_⟩⟩;by_cases h0:len=0
  .exact .inl h0
  .right;obtain⟨b,off,spot⟩:=a;have hc0:=Ff 0 (by omega);have hspot:spot=none:=by simpa[Addr.add]using World.cell?_spot hc0
   subst hspot;refine⟨b,off,rfl,AU W _ hc0,fun i hi=> ?_⟩;have hadd:(⟨b,off,none⟩:Addr).add i=⟨b,off+i,none⟩:=by by_cases h:i=0<;>simp[Addr.add,h]
   rw[<-hadd,Ff i (by omega)];simp[hi]
def TU{H:Type}{enc:TypeId×Value->H}{W:World}{r:Reach}{b0:Nat}{v:Value}{d:DataW H}{p:List MemPlace}(hv:Value.okWide prog W r b0 40 v)(h:DataW.Trod enc prog W 0 (fun _=>true) true 40 v d p):∃c a1 n1 c1 sh a2 n2 c2 dt,v=.agg #[.bool c,.slice a1 n1 c1,.slice a2 n2 c2]/\Y1 W a1 n1 sh/\Y1 W a2 n2 dt:=by obtain⟨v0,v1,v2,y0,y1,y2,n,rfl,_,_,h0,h1,h2⟩:=open_agg3 underlying40 (by kernel_rfl) Xi hv h;obtain⟨c,hc,_⟩:=DataW.trod_bool underlying4 h0;obtain⟨a1,n1,c1,sh,rfl,r1⟩:=TT h1;obtain⟨a2,n2,c2,dt,rfl,r2⟩:=TT h2;simp at hc;subst hc;exact⟨c,a1,n1,c1,sh,a2,n2,c2,dt,rfl,r1,r2⟩
end
section
open Go.ChangeShapes Go.WideShapes Go.ChangeAt Go.Joins
def cS:prog.globalNamed "loop.example/s02542/impl.errNoResult"=some 2:=by kernel_rfl
def Z4:prog.globalNamed "loop.example/s02542/impl.errTooGreat"=some 1:=by kernel_rfl
def cX:(prog.globals[2]?).map (·.type)=some 143:=by kernel_rfl
def aZ:(prog.globals[1]?).map (·.type)=some 143:=by kernel_rfl
def ab: "*"++ "errors.errorString"= "*errors.errorString":=by decide
def ZT(u:TypeId)(h:prog.typeName? 3 u=some "*errors.errorString"):u=278:=typeName_ptr_named (nm:= "errors.errorString") (by rw[ab];kernel_rfl) (by kernel_rfl) (by decide) u (by rw[ab];exact h)
def Xh:prog.cellsOf 302=1:=by kernel_rfl
def Xf:prog.cellsOf 9=1:=by kernel_rfl
def SS{W:World}{r:List (String×DataW Unit)}(h:laidMet prog (("loop.example/s02542/impl.errNoResult",Rows.laid_loop_example_s02542_impl_errNoResult)::("loop.example/s02542/impl.errTooGreat",Rows.laid_loop_example_s02542_impl_errTooGreat)::r) W):∃a b,Gl W a b/\W.var? prog "loop.example/s02542/impl.errNoResult"=some #[.iface 278 (.pointer (some a))]/\W.var? prog "loop.example/s02542/impl.errTooGreat"=some #[.iface 278 (.pointer (some b))]:=by obtain⟨a0,a1,s0,s1,c0,c1,t0,t1,hv0,hv1,hc0,hs0,hz0,hc1,hs1,hz1,hne,hb0,hb1⟩:=laid_sentinels2 h cS cX Z4 aZ underlying143 ZT underlying278 underlying302 rfl rfl underlying9 Xh Xf;exact⟨a0,a1,⟨by simpa using World.var?_cell cS hv0 0,by simpa using World.var?_cell Z4 hv1 0,hne,⟨c0,t0,hb0⟩,⟨c1,t1,hb1⟩⟩,hv0,hv1⟩
def Ny{W W':World}{n:String}{cs:Array Value}(h:W.var? prog n=some cs)(hb:Below W.heap.size W W'):W'.var? prog n=some cs:=by
 unfold World.var? at h ⊢;cases hg:prog.globalNamed n with
 |none=>simp[hg]at h
 |some g=>
  simp only[hg,Option.bind_some]at h ⊢;have hlt:g<W.heap.size:=by
   cases hh:W.heap[g]? with
   |none=>rw[hh]at h;cases h
   |some o=>exact(BW.1 hh).1
  rw[hb.block g hlt];exact h
end
