import Derived.RangeFuncNested
import Derived.Test.YtgjpchnkodnieaaGreatDoorZ09
import Derived.Test.YtgjpchnkodnieaaGreatDoorZ04
set_option maxRecDepth 20000
set_option maxHeartbeats 4000000
set_option linter.defProp false
namespace Go.Proofs.YtgjpchnkodnieaaGreatDoor
open Go.RowKit Tryz
def RT(m:Nat)(P:Program)(g:Nat)(lb:Array Value)(N:Nat)(H:Nat->Value->World->Prop)(T:Nat->Prop)(w0:World):Prop:=∀(l:Nat)(J:Nat->World->Prop)(W:World),Below w0.heap.size w0 W->w0.heap.size+2<=W.heap.size->(∀k,T k->k<W.heap.size)->(∀k A B,J k A->Below W.heap.size A B->J k B)->(∀k v W1,k<N->J k W1->H k v W1->YieldAt Fence.wide (m- 1) P l #[.int .i64 (k:Nat),v] W1 fun e W'=>e=.returned (.bool true)/\J (k+1) W'/\BS T W1 W')->J 0 W->CallsIn Fence.wide m P g (#[.func (.yield l) #[] #[]]++lb) W fun e W'=>(∃v,e=.returned v)/\J N W'
def Vj(S:Nat->Prop)(I:World->Prop)(W:World):Exit->Act->World->Prop
 |.normal,_,W'=>BS S W W'/\I W'
 |_,_,_=>False
def BS.putObj{S:Nat->Prop}(W:World){l:Nat}(hl:S l)(o:Obj):BS S W (W.putObj l o):=⟨rfl,rfl,rfl,by simp,fun k _ hn=>World.putObj_heap_other (fun e=>hn (e▸hl))⟩
def C0{B:Nat}(W:World){l:Nat}(hl:B<=l)(o:Obj):Below B W (W.putObj l o):=⟨rfl,rfl,rfl,by simp,fun k hk=>World.putObj_heap_other (by omega)⟩
def Kq{P:Program}{m N:Nat}{g:Operand}{ps:Array Tmp}{assign body:Code}{Q:Exit->Act->World->Prop}{a:Act}{w:World}{gf:Nat}{lb:Array Value}(hg:a.eval g=.func (.func gf) #[] lb)(eg:∀args w,(callFunc gf args).run P w=.ok (.enter gf args) w)(hps:ps.size=2){H:Nat->Value->World->Prop}(S:Nat->Prop)(hS:∀k,S k->k<w.heap.size)(hseq:RT (m- 1) P gf lb N H (fun k=>S k\/k=w.heap.size+1) w)(hH:∀k v A o,H k v A->w.heap.size+1<A.heap.size->H k v (A.putObj (w.heap.size+1) o))(I:Nat->World->Prop)(hI:∀k A B,I k A->Below w.heap.size A B->I k B)(h0:I 0 w)(a₁:Nat->Value->Act)(hassign:∀(l k:Nat)(v:Value)(W:World)(K:Act->World->Prop),K (a₁ k v) W->assign.wpIn (Fence.wide.inRound l) (m- 1- 1) P (Exit.then K (fun _ _ _=>False)) {tmps:=(ps.zip #[.int .i64 (k:Nat),v]).foldl (fun t(p,v)=>t.setIfInBounds p v) a.tmps,defers:= []} W)(hbody:∀(l k:Nat)(v:Value)(W:World),k<N->I k W->H k v W->w.heap.size<=W.heap.size->body.wpIn (Fence.wide.inRound l) (m- 1- 1) P (Vj S (I (k+1)) W) (a₁ k v) W)(hdone:∀(D:Nat)(W:World),w.heap.size<=D->I N W->W.heap[D]? =some (.deferred (some []))->Q .normal {a with defers:= {target:=.collected D,args:= #[]}::a.defers} W):(Code.rangeFunc g ps assign body).wpIn Fence.wide m P Q a w:=by
 refine wpIn_rangeFunc ?_;intro fn hfn;obtain⟨rec,hrec⟩:∃rec:LoopState->Loop,rec=fun st=> {state:=st,pending:=none,fn,tmps:=a.tmps,params:=ps,assign,body,defers:=w.heap.size}:=⟨_,rfl⟩
 obtain⟨W1,hW1⟩:∃W1,(w.alloc (.deferred (some []))).alloc (.loop (rec .ready))=W1:=⟨_,rfl⟩
 have hL1:W1.heap[w.heap.size+1]? =some (.loop (rec .ready)):=by rw[<-hW1];have:=World.alloc_heap_new (w.alloc (.deferred (some []))) (.loop (rec .ready));rwa [World.size_alloc]at this
 have hK1:W1.heap[w.heap.size]? =some (.deferred (some [])):=by rw[<-hW1];exact(Ab _ _ _ (by simp)).trans (World.alloc_heap_new w _)
 have hb1:Below w.heap.size w W1:=by rw[<-hW1];exact((AN _ w).alloc AC _).alloc (by simp) _
 have hz1:W1.heap.size=w.heap.size+2:=by rw[<-hW1];simp
 refine⟨w.heap.size+1,[{target:=.collected w.heap.size,args:= #[]}],W1,{target:=.fn (.func gf) lb,args:= #[.func (.yield (w.heap.size+1)) #[] #[]]},W1,gf,#[.func (.yield (w.heap.size+1)) #[] #[]]++lb,W1,?_,?_,?_,?_,?_,?_⟩
 .rw[<-hW1,hrec];exact run_enterLoop_outer _ _ _ _ _
 .simp only[resolve,hg];simp[go_sem]
 .intro _ _;exact trivial
 .simp[invoke,go_sem,eg]
 .intro h;simp[Fence.wide]at h
 .refine(hseq (w.heap.size+1) (fun k W=>I k W/\W.heap[w.heap.size+1]? =some (.loop (rec .ready))/\W.heap[w.heap.size]? =some (.deferred (some []))) W1 hb1 (by omega) (by rintro k(h|rfl);exact AZ (hS k h) (by omega);omega) ?_ ?_ ⟨hI _ _ _ h0 hb1,hL1,hK1⟩).mono ?_
  .rintro k A B⟨i,l,d⟩hb;rw[hz1]at hb;exact⟨hI _ _ _ i (hb.mono (by omega)),(hb.block _ (by omega)).trans l,(hb.block _ (by omega)).trans d⟩
  .rintro k v W hk⟨hi,hl,hd⟩hh;have hlt:w.heap.size+1<W.heap.size:=(BW.1 hl).1;have hy:=run_yield (P:=P) (args:= #[.int .i64 (k:Nat),v]) hl (by rw[hrec];simp[hps]);rw[hrec]at hy;refine⟨fn,_,assign,body,hy,roundIn_of_wpIn hfn (hassign _ k v W _ ⟨_,run_beginRound hl (by rw[hrec]),?_⟩)⟩;refine wpIn_mono (hbody _ k v _ hk (hI _ _ _ hi (C0 W (by omega) _)) (hH _ _ _ _ hh hlt) (by simp;omega)) ?_;rintro e a3 W3 hp;cases e with
   |normal=>
    obtain⟨hbut,hi3⟩:=hp;have hne:¬ S (w.heap.size+1):=fun h=>by have:=hS _ h;omega
    have hnd:¬ S w.heap.size:=fun h=>by have:=hS _ h;omega
    have hl3:=(hbut.block (w.heap.size+1) (by simpa using hlt) hne).trans (World.putObj_heap_same hlt);have hd3:=(hbut.block w.heap.size (by simp;omega) hnd).trans ((World.putObj_heap_other (by omega)).trans hd);have hr:=run_endRound (P:=P) none hl3;have hlt3:w.heap.size+1<W3.heap.size:=(BW.1 hl3).1;refine⟨_,_,hr,rfl,⟨hI _ _ _ hi3 (C0 W3 (by omega) _),?_,(World.putObj_heap_other (by omega)).trans hd3⟩,?_⟩
    .rw[World.putObj_heap_same hlt3,hrec];rfl
    .exact(((BS.putObj (S:=fun k=>S k\/k=w.heap.size+1) W (.inr rfl) _).trans (hbut.mono (T:=fun k=>S k\/k=w.heap.size+1) (fun k hk=>Or.inl hk))).trans (BS.putObj (S:=fun k=>S k\/k=w.heap.size+1) W3 (.inr rfl) _)).mono (by rintro k((h|h)|h)<;>exact h)
   |ret=>exact hp.elim
   |exit id=>exact hp.elim
   |goto t=>exact hp.elim
   |panic ch=>exact hp.elim
   |outgrown=>exact hp.elim
  .rintro e W2⟨⟨v,rfl⟩,hi,hl,hd⟩;refine⟨none,_,by have:=run_endLoop (P:=P) hl (by rw[hrec];simp);rw[hrec]at this;exact this,hdone w.heap.size _ AC (hI _ _ _ hi (C0 W2 (by omega) _)) ((World.putObj_heap_other (by omega)).trans hd)⟩
def Ph(m:Nat)(P:Program)(g:Nat)(lb:Array Value)(N:Nat)(ar:Nat->Array Value)(R:World->Prop):Prop:=∀(l:Nat)(J:Nat->World->Prop)(W:World),(∀k A,J k A->R A)->(∀k W1,k<N->J k W1->YieldAt Fence.wide (m- 1) P l (ar k) W1 fun e W'=>e=.returned (.bool true)/\J (k+1) W')->J 0 W->CallsIn Fence.wide m P g (#[.func (.yield l) #[] #[]]++lb) W fun e W'=>(∃v,e=.returned v)/\J N W'
def OF(B:Nat)(I:World->Prop)(W:World):Exit->Act->World->Prop
 |.normal,_,W'=>KeepsFrom B W W'/\I W'
 |_,_,_=>False
def It{P:Program}{m N:Nat}{g:Operand}{ps:Array Tmp}{assign body:Code}{Q:Exit->Act->World->Prop}{a:Act}{w:World}{R:World->Prop}{gf:Nat}{lb:Array Value}(hg:a.eval g=.func (.func gf) #[] lb)(eg:∀args w,(callFunc gf args).run P w=.ok (.enter gf args) w){ar:Nat->Array Value}(hps:∀k,(ar k).size=ps.size)(hseq:Ph (m- 1) P gf lb N ar R)(I:Nat->World->Prop)(hI:∀k A,I k A->R A)(hIp:∀k A l o o',I k A->w.heap.size<=l->A.heap[l]? =some o->o.isCells=false->I k (A.putObj l o'))(h0:∀o o',I 0 ((w.alloc o).alloc o'))(a₁:Nat->Act)(hassign:∀(l k:Nat)(W:World)(K:Act->World->Prop),K (a₁ k) W->assign.wpIn (Fence.wide.inRound l) (m- 1- 1) P (Exit.then K (fun _ _ _=>False)) {tmps:=(ps.zip (ar k)).foldl (fun t(p,v)=>t.setIfInBounds p v) a.tmps,defers:= []} W)(hbody:∀(l k:Nat)(W:World),k<N->I k W->body.wpIn (Fence.wide.inRound l) (m- 1- 1) P (OF w.heap.size (I (k+1)) W) (a₁ k) W)(hdone:∀(D:Nat)(W:World),w.heap.size<=D->I N W->W.heap[D]? =some (.deferred (some []))->Q .normal {a with defers:= {target:=.collected D,args:= #[]}::a.defers} W):(Code.rangeFunc g ps assign body).wpIn Fence.wide m P Q a w:=by
 refine wpIn_rangeFunc ?_;intro fn hfn;obtain⟨rec,hrec⟩:∃rec:LoopState->Loop,rec=fun st=> {state:=st,pending:=none,fn,tmps:=a.tmps,params:=ps,assign,body,defers:=w.heap.size}:=⟨_,rfl⟩
 obtain⟨W1,hW1⟩:∃W1,(w.alloc (.deferred (some []))).alloc (.loop (rec .ready))=W1:=⟨_,rfl⟩
 have hL1:W1.heap[w.heap.size+1]? =some (.loop (rec .ready)):=by rw[<-hW1];have:=World.alloc_heap_new (w.alloc (.deferred (some []))) (.loop (rec .ready));rwa [World.size_alloc]at this
 have hK1:W1.heap[w.heap.size]? =some (.deferred (some [])):=by rw[<-hW1];exact(Ab _ _ _ (by simp)).trans (World.alloc_heap_new w _)
 refine⟨w.heap.size+1,[{target:=.collected w.heap.size,args:= #[]}],W1,{target:=.fn (.func gf) lb,args:= #[.func (.yield (w.heap.size+1)) #[] #[]]},W1,gf,#[.func (.yield (w.heap.size+1)) #[] #[]]++lb,W1,?_,?_,?_,?_,?_,?_⟩
 .rw[<-hW1,hrec];exact run_enterLoop_outer _ _ _ _ _
 .simp only[resolve,hg];simp[go_sem]
 .intro _ _;exact trivial
 .simp[invoke,go_sem,eg]
 .intro h;simp[Fence.wide]at h
 .refine(hseq (w.heap.size+1) (fun k W=>I k W/\W.heap[w.heap.size+1]? =some (.loop (rec .ready))/\W.heap[w.heap.size]? =some (.deferred (some []))) W1 (fun k A h=>hI k A h.1) ?_ ⟨by rw[<-hW1];exact h0 _ _,hL1,hK1⟩).mono ?_
  .rintro k W hk⟨hi,hl,hd⟩;have hlt:w.heap.size+1<W.heap.size:=(BW.1 hl).1;have hy:=run_yield (P:=P) (args:=ar k) hl (by rw[hrec];exact hps k);rw[hrec]at hy;refine⟨fn,_,assign,body,hy,roundIn_of_wpIn hfn (hassign _ k W _ ⟨_,run_beginRound hl (by rw[hrec]),?_⟩)⟩;refine wpIn_mono (hbody _ k _ hk (hIp _ _ _ _ _ hi (by omega) hl rfl)) ?_;rintro e a3 W3 hp;cases e with
   |normal=>
    obtain⟨hkeep,hi3⟩:=hp;have hl3:=hkeep.same _ _ (by omega) (World.putObj_heap_same (o:=.loop {rec .ready with state:=.busy}) hlt) rfl;have hd3:=hkeep.same _ _ AC ((World.putObj_heap_other (r:=w.heap.size+1) (by omega)).trans hd) rfl;have hr:=run_endRound (P:=P) none hl3;have hlt3:w.heap.size+1<W3.heap.size:=(BW.1 hl3).1;refine⟨_,_,hr,rfl,hIp _ _ _ _ _ hi3 (by omega) hl3 rfl,?_,(World.putObj_heap_other (by omega)).trans hd3⟩;rw[World.putObj_heap_same hlt3,hrec];rfl
   |ret=>exact hp.elim
   |exit id=>exact hp.elim
   |goto t=>exact hp.elim
   |panic ch=>exact hp.elim
   |outgrown=>exact hp.elim
  .rintro e W2⟨⟨v,rfl⟩,hi,hl,hd⟩;refine⟨none,_,by have:=run_endLoop (P:=P) hl (by rw[hrec];simp);rw[hrec]at this;exact this,hdone w.heap.size _ AC (hIp _ _ _ _ _ hi (by omega) hl rfl) ((World.putObj_heap_other (by omega)).trans hd)⟩
abbrev RS(m:Nat)(P:Program)(g:Nat)(lb:Array Value)(N:Nat)(ar:Nat->Array Value)(w0:World):Prop:=Ph m P g lb N ar (Below w0.heap.size w0)
def OE(I:World->Prop)(W:World):Exit->Act->World->Prop
 |.normal,_,W'=>KeepsOthers W W'/\I W'
 |_,_,_=>False
def P4{B:Nat}{I:World->Prop}{W:World}:∀(e:Exit)(a:Act)(W':World),OE I W e a W'->OF B I W e a W'
 |.normal,_,_,h=>⟨h.1.from B,h.2⟩
 |.ret,_,_,h=>h
 |.exit _,_,_,h=>h
 |.goto _,_,_,h=>h
 |.panic _,_,_,h=>h
 |.outgrown,_,_,h=>h
def QE{P:Program}{m N:Nat}{g:Operand}{ps:Array Tmp}{assign body:Code}{Q:Exit->Act->World->Prop}{a:Act}{w w0:World}{gf:Nat}{lb:Array Value}(hg:a.eval g=.func (.func gf) #[] lb)(eg:∀args w,(callFunc gf args).run P w=.ok (.enter gf args) w){ar:Nat->Array Value}(hps:∀k,(ar k).size=ps.size)(hseq:RS (m- 1) P gf lb N ar w0)(I:Nat->World->Prop)(hI:∀k A,I k A->Below w0.heap.size w0 A)(hIp:∀k A l o o',I k A->w.heap.size<=l->A.heap[l]? =some o->o.isCells=false->I k (A.putObj l o'))(h0:∀o o',I 0 ((w.alloc o).alloc o'))(a₁:Nat->Act)(hassign:∀(l k:Nat)(W:World)(K:Act->World->Prop),K (a₁ k) W->assign.wpIn (Fence.wide.inRound l) (m- 1- 1) P (Exit.then K (fun _ _ _=>False)) {tmps:=(ps.zip (ar k)).foldl (fun t(p,v)=>t.setIfInBounds p v) a.tmps,defers:= []} W)(hbody:∀(l k:Nat)(W:World),k<N->I k W->body.wpIn (Fence.wide.inRound l) (m- 1- 1) P (OE (I (k+1)) W) (a₁ k) W)(hdone:∀(D:Nat)(W:World),w.heap.size<=D->I N W->W.heap[D]? =some (.deferred (some []))->Q .normal {a with defers:= {target:=.collected D,args:= #[]}::a.defers} W):(Code.rangeFunc g ps assign body).wpIn Fence.wide m P Q a w:=by exact It hg eg hps hseq I hI hIp h0 a₁ hassign (fun l k W hk hi=>wpIn_mono (hbody l k W hk hi) P4) hdone
section
variable {o:Oper}{a:Act}
def rL(x:Operand)(p:Addr){s:Option Addr}{l c:Nat}(ho:o.op=.load 23 x)(hx:a.eval x=.pointer (some p))(w:World)(hc:w.cell? p=some (.slice s l c)):(execOp a.eval o).run prog w=.ok (.value (.slice s l c)) w:=by
 unfold execOp;simp only[ho,hx]
 go_simp
def rI(x:Operand)(p:Addr){z:Int}(ho:o.op=.load 3 x)(hx:a.eval x=.pointer (some p))(w:World)(hc:w.cell? p=some (.int .i64 z)):(execOp a.eval o).run prog w=.ok (.value (.int .i64 z)) w:=by
 unfold execOp;simp only[ho,hx]
 go_simp
def rM(x:Operand){v:Value}(ho:o.op=.move x)(hx:a.eval x=v)(w:World):(execOp a.eval o).run prog w=.ok (.value v) w:=by
 unfold execOp;simp only[ho,hx]
 go_simp
def rX(x y:Operand){b off m c J:Nat}(ho:o.op=.indexAddr 23 x y)(hx:a.eval x=.slice (some ⟨b,off,none⟩) m c)(hy:a.eval y=.int .i64 (J:Nat))(hJ:J<m)(w:World):(execOp a.eval o).run prog w=.ok (.value (.pointer (some ⟨b,off+J,none⟩))) w:=by
 have h1:(J:Int)<(m:Int):=by omega
 unfold execOp;simp only[ho,hx,hy]
 go_simp
def cA(x y:Operand){u v r:Int}(ho:o.op=.binOp .sub 3 x y 3)(hx:a.eval x=.int .i64 u)(hy:a.eval y=.int .i64 v)(hr:IntKind.i64.wrap (u- v)=r)(w:World):(execOp a.eval o).run prog w=.ok (.value (.int .i64 r)) w:=by
 unfold execOp;simp only[ho,hx,hy]
 go_simp
def cB(x y:Operand){u v r:Int}(ho:o.op=.binOp .quo 3 x y 3)(hx:a.eval x=.int .i64 u)(hy:a.eval y=.int .i64 v)(h0:¬ v=0)(hr:u.tdiv v=r)(hr1: -1000000000000000<=r)(hr2:r<=1000000000000000)(w:World):(execOp a.eval o).run prog w=.ok (.value (.int .i64 r)) w:=by
 unfold execOp;simp only[ho,hx,hy]
 go_simp
 rw[IntKind.wrap_i64];omega
def cC(t:Nat){u r:Int}(ho:o.op=.call {callee:=.builtin .max,args:= #[.tmp t,.const (.int .i64 1)],argTypes:= #[3,3]})(hx:a.eval (.tmp t)=.int .i64 u)(hr:(if u<1 then 1 else u)=r)(w:World):(execOp a.eval o).run prog w=.ok (.value (.int .i64 r)) w:=by
 have hx':a.tmps[t]?.getD undef=.int .i64 u:=by simpa[Act.eval]using hx
 have hv:max u 1=r:=by rw[<-hr];split<;>omega
 unfold execOp;simp only[ho]
 go_simp
def rS(x y:Operand)(p:Addr){v1:Value}{z:Int}(ho:o.op=.store 3 x y)(hx:a.eval x=.pointer (some p))(hy:a.eval y=.int .i64 z)(w:World)(hc:w.cell? p=some v1)(hf:w.frozen? p=false):(execOp a.eval o).run prog w=.ok .skip (w.setCell p (.int .i64 z)):=by
 unfold execOp;simp only[ho,hx,hy]
 go_simp
end
def cJ:Array Oper:= #[{dst:=some 21,op:=Op.load 3 (Operand.tmp 2),type:=3,pos:= "l6_prim.go:219",after:= #[],guard:=none},{dst:=some 22,op:=Op.load 23 (Operand.tmp 5),type:=23,pos:= "l6_prim.go:219",after:= #[],guard:=none},{dst:=some 23,op:=Op.move (Operand.tmp 6),type:=3,pos:= "l6_prim.go:219",after:= #[],guard:=none},{dst:=some 24,op:=Op.indexAddr 23 (Operand.tmp 22) (Operand.tmp 23),type:=0,pos:= "l6_prim.go:219",after:= #[{on:=1,ground:=Ground.data},{on:=2,ground:=Ground.data}],guard:=none},{dst:=some 25,op:=Op.load 3 (Operand.tmp 24),type:=3,pos:= "l6_prim.go:219",after:= #[{on:=3,ground:=Ground.data}],guard:=none},{dst:=some 26,op:=Op.binOp BinOp.sub 3 (Operand.tmp 21) (Operand.tmp 25) 3,type:=3,pos:= "l6_prim.go:219",after:= #[{on:=0,ground:=Ground.data},{on:=4,ground:=Ground.data}],guard:=none},{dst:=some 27,op:=Op.move (Operand.tmp 7),type:=3,pos:= "l6_prim.go:219",after:= #[],guard:=none},{dst:=some 28,op:=Op.call {callee:=Callee.builtin Builtin.max,args:= #[Operand.tmp 27,Operand.const (Value.int IntKind.i64 1)],argTypes:= #[3,3]},type:=3,pos:= "l6_prim.go:219",after:= #[{on:=6,ground:=Ground.data}],guard:=none},{dst:=some 29,op:=Op.binOp BinOp.quo 3 (Operand.tmp 26) (Operand.tmp 28) 3,type:=3,pos:= "l6_prim.go:219",after:= #[{on:=5,ground:=Ground.data},{on:=7,ground:=Ground.data}],guard:=none},{dst:=none,op:=Op.store 3 (Operand.tmp 2) (Operand.tmp 29),type:=0,pos:= "l6_prim.go:219",after:= #[{on:=8,ground:=Ground.data},{on:=0,ground:=Ground.phase},{on:=1,ground:=Ground.phase},{on:=2,ground:=Ground.phase},{on:=3,ground:=Ground.phase},{on:=4,ground:=Ground.phase},{on:=5,ground:=Ground.phase},{on:=6,ground:=Ground.phase},{on:=7,ground:=Ground.phase},{on:=8,ground:=Ground.phase}],guard:=none}]
def cE(a:Act)(p j n:Nat)(x d u aa mx y:Int):Act:=(((((((((a.put (some 21) (.int .i64 x)).put (some 22) (.slice (some ⟨p+1,0,none⟩) n n)).put (some 23) (.int .i64 (j:Nat))).put (some 24) (.pointer (some ⟨p+1,0+j,none⟩))).put (some 25) (.int .i64 d)).put (some 26) (.int .i64 u)).put (some 27) (.int .i64 aa)).put (some 28) (.int .i64 mx)).put (some 29) (.int .i64 y)).put none undef
def YR{Q:Exit->Act->World->Prop}{l m:Nat}(a:Act)(W:World)(hsz:31<=a.tmps.size)(p j n:Nat)(x d u aa mx y:Int)(h2:a.eval (.tmp 2)=.pointer (some ⟨p,0,none⟩))(h5:a.eval (.tmp 5)=.pointer (some ⟨p+1+1,0,none⟩))(h6:a.eval (.tmp 6)=.int .i64 (j:Nat))(h7:a.eval (.tmp 7)=.int .i64 aa)(hj:j<n)(hu:IntKind.i64.wrap (x- d)=u)(hmx:(if aa<1 then 1 else aa)=mx)(h0:¬ mx=0)(hy:u.tdiv mx=y)(hyb: -1000000000000000<=y/\y<=1000000000000000)(c1:W.cell? ⟨p+1,j,none⟩=some (.int .i64 d))(c2:W.cell? ⟨p,0,none⟩=some (.int .i64 x))(c3:W.frozen? ⟨p,0,none⟩=false)(c4:W.cell? ⟨p+1+1,0,none⟩=some (.slice (some ⟨p+1,0,none⟩) n n))(hQ:∀c a(d:Nat)v w,Q (.panic c) (a.put (some d) v) w->Q (.panic c) a w)(hno:¬ LetsOut Q)(hend:Q .normal (cE a p j n x d u aa mx y) (W.drew.setCell ⟨p,0,none⟩ (.int .i64 y))):(Code.region 6 cJ true).wpIn (Fence.wide.inRound l) m prog Q a W:=by
 refine NP (fun wx=>wx.cell? ⟨p+1,j,none⟩=some (.int .i64 d)/\wx.cell? ⟨p,0,none⟩=some (.int .i64 x)/\wx.frozen? ⟨p,0,none⟩=false/\wx.cell? ⟨p+1+1,0,none⟩=some (.slice (some ⟨p+1,0,none⟩) n n)) 9 (by kernel_rfl) (by kernel_rfl) hno ?_;have hS0:(W.drew.cell? ⟨p+1,j,none⟩=some (.int .i64 d)/\W.drew.cell? ⟨p,0,none⟩=some (.int .i64 x)/\W.drew.frozen? ⟨p,0,none⟩=false/\W.drew.cell? ⟨p+1+1,0,none⟩=some (.slice (some ⟨p+1,0,none⟩) n n)):=⟨c1,c2,c3,c4⟩
 show CN _ _ _ _ _ _ (9+1) _ _ _;refine AQ 0 21 (.int .i64 x) rfl rfl (by kernel_rfl) (by kernel_rfl) (by kernel_rfl) (by kernel_rfl) hQ rfl (fun w hw=>rI (.tmp 2) _ rfl h2 w hw.2.1) hS0 ?_;refine AQ 1 22 (.slice (some ⟨p+1,0,none⟩) n n) rfl rfl (by kernel_rfl) (by kernel_rfl) (by kernel_rfl) (by kernel_rfl) hQ rfl (fun w hw=>rL (.tmp 5) _ rfl (by rw[AF (by decide)];exact h5) w hw.2.2.2) hS0 ?_;refine AQ 2 23 (.int .i64 (j:Nat)) rfl rfl (by kernel_rfl) (by kernel_rfl) (by kernel_rfl) (by kernel_rfl) hQ rfl (fun w hw=>rM (.tmp 6) rfl (by rw[AF (by decide),AF (by decide)];exact h6) w) hS0 ?_;refine AQ 3 24 (.pointer (some ⟨p+1,0+j,none⟩)) rfl rfl (by kernel_rfl) (by kernel_rfl) (by kernel_rfl) (by kernel_rfl) hQ rfl (fun w hw=>rX (.tmp 22) (.tmp 23) rfl (by rw[AF (by decide)];exact Ad (by rw[AE];omega)) (Ad (by rw[AE,AE];omega)) hj w) hS0 ?_;refine AQ 4 25 (.int .i64 d) rfl rfl (by kernel_rfl) (by kernel_rfl) (by kernel_rfl) (by kernel_rfl) hQ rfl (fun w hw=>rI (.tmp 24) _ rfl (Ad (by rw[AE,AE,AE];omega)) w (by rw[Cq];exact hw.1)) hS0 ?_;refine AQ 5 26 (.int .i64 u) rfl rfl (by kernel_rfl) (by kernel_rfl) (by kernel_rfl) (by kernel_rfl) hQ rfl (fun w hw=>cA (.tmp 21) (.tmp 25) rfl (by rw[AF (by decide),AF (by decide),AF (by decide),AF (by decide)];exact Ad (by omega)) (Ad (by rw[AE,AE,AE,AE];omega)) hu w) hS0 ?_;refine AQ 6 27 (.int .i64 aa) rfl rfl (by kernel_rfl) (by kernel_rfl) (by kernel_rfl) (by kernel_rfl) hQ rfl (fun w hw=>rM (.tmp 7) rfl (by rw[AF (by decide),AF (by decide),AF (by decide),AF (by decide),AF (by decide),AF (by decide)];exact h7) w) hS0 ?_;refine AQ 7 28 (.int .i64 mx) rfl rfl (by kernel_rfl) (by kernel_rfl) (by kernel_rfl) (by kernel_rfl) hQ rfl (fun w hw=>cC 27 rfl (Ad (by rw[AE,AE,AE,AE,AE,AE];omega)) hmx w) hS0 ?_;refine AQ 8 29 (.int .i64 y) rfl rfl (by kernel_rfl) (by kernel_rfl) (by kernel_rfl) (by kernel_rfl) hQ rfl (fun w hw=>cB (.tmp 26) (.tmp 28) rfl (by rw[AF (by decide),AF (by decide)];exact Ad (by rw[AE,AE,AE,AE,AE];omega)) (Ad (by rw[AE,AE,AE,AE,AE,AE,AE];omega)) h0 hy hyb.1 hyb.2 w) hS0 ?_;refine B9 (i:=9) (by kernel_rfl) ?_;refine FP rfl rfl ?_;unfold Oper.wp;rw[rS (.tmp 2) (.tmp 29) ⟨p,0,none⟩ rfl (by rw[AF (by decide),AF (by decide),AF (by decide),AF (by decide),AF (by decide),AF (by decide),AF (by decide),AF (by decide),AF (by decide)];exact h2) (Ad (by rw[AE,AE,AE,AE,AE,AE,AE,AE];omega)) W.drew hS0.2.1 hS0.2.2.1];refine⟨fun h=>absurd rfl h,?_⟩;refine Eh (by kernel_rfl) ?_ _;exact hend
