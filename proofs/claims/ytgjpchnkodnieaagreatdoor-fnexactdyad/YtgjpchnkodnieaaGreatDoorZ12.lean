import Derived.Test.YtgjpchnkodnieaaGreatDoorZ09
import Derived.Test.YtgjpchnkodnieaaGreatDoorZ08
import Derived.Test.YtgjpchnkodnieaaGreatDoorZ06
import Derived.Stop.Asserts
import Derived.RowKitTokens
import Derived.Shelf.Abstract
import Derived.Laws.AppendOwnNone
set_option maxHeartbeats 2000000
set_option linter.defProp false
namespace Go.Proofs.YtgjpchnkodnieaaGreatDoor
open Go.RowKit Tryz
def Ai.free{w:World}{p:Nat}{c:Bool}{v1 v2:Value}(h:Ai w p c v1 v2)(o:Nat):w.frozen? ⟨p,o,none⟩=false:=CB w p o _ _ h
def Ai.all{w:World}{p:Nat}{c:Bool}{v1 v2:Value}(h:Ai w p c v1 v2):w.cell? ⟨p,0,none⟩=some (.bool c)/\w.cell? ⟨p,1,none⟩=some v1/\w.cell? ⟨p,2,none⟩=some v2/\w.frozen? ⟨p,0,none⟩=false/\w.frozen? ⟨p,1,none⟩=false/\w.frozen? ⟨p,2,none⟩=false/\p<w.heap.size:=⟨h.cells.1,h.cells.2.1,h.cells.2.2,h.free _,h.free _,h.free _,h.lt⟩
def Ai.set2{w:World}{p:Nat}{c:Bool}{v1 v2:Value}(h:Ai w p c v1 v2)(v:Value):Ai (w.setCell ⟨p,2,none⟩ v) p c v1 v:=by unfold Ai at h ⊢;rw[Bj w p 2 _ _ _ h];simp
def Ai.other{w:World}{p:Nat}{c:Bool}{v1 v2:Value}(h:Ai w p c v1 v2){q:Addr}(hq:p≠q.block)(v:Value):Ai (w.setCell q v) p c v1 v2:=(Cg w q p v hq).trans h
def Ai.low{w w':World}{p B:Nat}{c:Bool}{v1 v2:Value}(h:Ai w p c v1 v2)(hp:p<B)(hb:Below B w w'):Ai w' p c v1 v2:=(hb.block p hp).trans h
def Ai.grown{w w1:World}{p base n:Nat}{c:Bool}{v1 v2 v:Value}{xs:List Value}(h:Ai w p c v1 v2)(BJ:w.ownsRow base 3 1 v n xs)(o:Obj)(hg:(w.alloc o).grownBy w1 v.ownBlock):Ai w1 p c v1 v2:=by
 refine(hg.block p (by have:=h.lt;simp;omega) ?_).trans (h.alloc o);rcases BJ.2 with⟨rfl,_⟩|⟨g,cap,cur,rfl,_,hh,_⟩
 .exact fun e=>by cases e
 .intro e;have e':p=g:=by simpa[Value.ownBlock]using e
  subst e';unfold Ai at h;rw[hh]at h;simp at h
def Eq{w:World}{base n p:Nat}{v:Value}{xs:List Value}{c:Bool}{v1 v2:Value}(h:w.ownsRow base 3 1 v n xs)(hb:Ai w p c v1 v2)(o:Nat)(u:Value):(w.setCell ⟨p,o,none⟩ u).ownsRow base 3 1 v n xs:=by
 obtain⟨h1,h2⟩:=h;refine⟨h1,?_⟩;rcases h2 with h2|⟨g,cap,cur,hv,hg,hh,r⟩
 .exact Or.inl h2
 .refine Or.inr ⟨g,cap,cur,hv,hg,?_,r⟩;rw[Below.heap_setCell _ _ _ _ (by intro e;have e':g=p:=e;subst e';unfold Ai at hb;rw[hh]at hb;simp at hb)];exact hh
structure Gl(w:World)(a b:Addr):Prop where
 no:w.cell? ⟨2,0,none⟩=some (.iface 278 (.pointer (some a)))
 big:w.cell? ⟨1,0,none⟩=some (.iface 278 (.pointer (some b)))
 ne:a≠b
 rowA:∃ca ta,w.heap[a.block]? =some (.cells ca ta (0,0))
 rowB:∃cb tb,w.heap[b.block]? =some (.cells cb tb (0,0))
def Gl.below{w w':World}{a b:Addr}(h:Gl w a b)(hb:Below w.heap.size w w'):Gl w' a b:=by obtain⟨h1,h2,h3,⟨ca,ta,h4⟩,⟨cb,tb,h5⟩⟩:=h;exact⟨(hb.cell (p:=⟨2,0,none⟩) (AU _ _ h1)).trans h1,(hb.cell (p:=⟨1,0,none⟩) (AU _ _ h2)).trans h2,h3,⟨ca,ta,(hb.block _ (lt_of_block h4)).trans h4⟩,⟨cb,tb,(hb.block _ (lt_of_block h5)).trans h5⟩⟩
def Gl.alloc{w:World}{a b:Addr}(h:Gl w a b)(o:Obj):Gl (w.alloc o) a b:=h.below (AG.alloc AC _)
def Gl.drewN{w:World}{a b:Addr}(h:Gl w a b)(q:Nat):Gl (w.drewN q) a b:=h.below (Below.drewN AG _)
def E3(a b:Addr)(code:Int):Value:=if code=0 then .nilIface else if code=7 then .iface 278 (.pointer (some b))else .iface 278 (.pointer (some a))
def IE(a b:Addr):E3 a b 0=.nilIface:=rfl
def ID(a b:Addr):E3 a b 7=.iface 278 (.pointer (some b)):=rfl
def aM(a b:Addr):E3 a b 3=.iface 278 (.pointer (some a)):=rfl
def G0(code:Int):Prop:=code=0\/code=3\/code=7
section
open Go.Extern.Stop Go.Stop Go.Extern
def OW(v:Value)(w:World):(Extern.ReflectliteType.typeOf #[.iface 278 v]).run prog w=.ok (.iface 253 (.agg #[.pointer (some ⟨3,278,none⟩)])) w:=by kernel_rfl
def NG:Array Value->Sem Value:=Extern.ReflectliteType.method fun t=>do Extern.Rtype.noPackHeld "Comparable" t;pure (.bool (<-typeInfo t).comparable)
def Ij(w:World):(NG #[.agg #[.pointer (some ⟨3,278,none⟩)]]).run prog w=.ok (.bool true) w:=by kernel_rfl
def Fe(v:Value)(w:World):(Go.method 414 253 v "Comparable").run prog w=.ok (358,v) w:=by kernel_rfl
def Tm:(prog.info? 278).map (·.comparable)=some true:=by kernel_rfl
def Tk:(prog.info? 302).map (·.size)=some 1:=by kernel_rfl
def Yi(v:Value)(xT:TypeId)(w:World):(Instr.typeAssert (.iface 278 v) xT 255 true).run prog w=.ok (.tuple #[.nilIface,.bool false]) w:=run_typeAssert_lacksB underlying255 (by kernel_rfl) (by kernel_rfl) v xT w
def Qo(v:Value)(xT:TypeId)(w:World):(Instr.typeAssert (.iface 278 v) xT 258 true).run prog w=.ok (.tuple #[.nilIface,.bool false]) w:=run_typeAssert_lacksB underlying258 (by kernel_rfl) (by kernel_rfl) v xT w
def PL(v:Value)(xT:TypeId)(w:World):(Instr.typeAssert (.iface 278 v) xT 260 true).run prog w=.ok (.tuple #[.nilIface,.bool false]) w:=run_typeAssert_lacksB underlying260 (by kernel_rfl) (by kernel_rfl) v xT w
def Tl(a:Addr)(w:World):Calls prog 258 #[.iface 278 (.pointer (some a)),.iface 278 (.pointer (some a))] w fun e w'=>e=.returned (.bool true)/\w'=w:=by
 obtain⟨i,hi,hcmp⟩:=Df.1 Tm;obtain⟨j,hj,hjs⟩:=Df.1 Tk;have h8:= @run_callFunc_extern prog 284 _ Extern.ReflectliteType.typeOf func284 (by kernel_rfl) (by kernel_rfl) (by kernel_rfl) (by kernel_rfl);have h32:= @run_callFunc_extern prog 358 _ NG func358 (by kernel_rfl) (by kernel_rfl) (by kernel_rfl) (by kernel_rfl);have tT:=OW;have cT:=Ij;have mR:=Fe;have heq:=run_eql_iface_ptr_same (P:=prog) w a underlying143 underlying278 hi hcmp hj;go_enter func258,ntmps258
 go_wp2
 refine wp_loop_rounds 1 ?_;rw[rounds_succ]
 go_wp2
 go_ret;exact⟨rfl,rfl⟩
def Wz(a b:Addr)(ca cb:Array Value)(ta tb:TypeId)(w:World)(hne:a≠b)(ha:w.heap[a.block]? =some (.cells ca ta (0,0)))(hb:w.heap[b.block]? =some (.cells cb tb (0,0))):Calls prog 258 #[.iface 278 (.pointer (some a)),.iface 278 (.pointer (some b))] w fun e w'=>e=.returned (.bool false)/\w'=w:=by
 obtain⟨i,hi,hcmp⟩:=Df.1 Tm;obtain⟨j,hj,hjs⟩:=Df.1 Tk;have h8:= @run_callFunc_extern prog 284 _ Extern.ReflectliteType.typeOf func284 (by kernel_rfl) (by kernel_rfl) (by kernel_rfl) (by kernel_rfl);have h32:= @run_callFunc_extern prog 358 _ NG func358 (by kernel_rfl) (by kernel_rfl) (by kernel_rfl) (by kernel_rfl);have tT:=OW;have cT:=Ij;have mR:=Fe;have nE:=Yi;have uE:=Qo;have vE:=PL;have heq:=run_eql_iface_ptr_other (P:=prog) w underlying143 underlying278 hi hcmp hj (by rw[hjs];decide) hne ha hb;go_enter func258,ntmps258
 go_wp2
 refine wp_loop_rounds 1 ?_;rw[rounds_succ]
 go_wp2
 go_ret;exact⟨rfl,rfl⟩
def St(a b:Addr)(w:World)(hG:Gl w a b):Calls prog 190 #[E3 a b 7] w fun e w'=>e=.returned (.int .i64 7)/\w'=w:=by have hc:=hG.big;rw[ID];go_enter func190,ntmps190;go_wp2_with(go_at_call 258;refine(Tl b _).mono ?_;rintro e w'⟨rfl,rfl⟩);go_ret;exact⟨rfl,rfl⟩
def U7(a b:Addr)(w:World)(hG:Gl w a b):Calls prog 190 #[E3 a b 3] w fun e w'=>e=.returned (.int .i64 3)/\w'=w:=by have hc:=hG.big;obtain⟨ca,ta,h4⟩:=hG.rowA;obtain⟨cb,tb,h5⟩:=hG.rowB;have HN:=AD hG.ne;have H4:=AD h4;have H5:=AD h5;clear h4 h5 hG;rw[aM];go_enter func190,ntmps190;go_wp2_with(go_at_call 258;refine(Wz a b _ _ _ _ _ (AA HN) (AA H4) (AA H5)).mono ?_;rintro e w'⟨rfl,rfl⟩);go_ret;exact⟨rfl,rfl⟩
def Su(a b:Addr)(code:Int)(w:World)(hG:Gl w a b)(hc:G0 code)(h0:code≠0):Calls prog 190 #[E3 a b code] w fun e w'=>e=.returned (.int .i64 code)/\w'=w:=by
 rcases hc with h|rfl|rfl
 .exact absurd h h0
 .exact U7 a b w hG
 .exact St a b w hG
end
section
open Go.Shelf
def F8(a b:Addr)(g:Nat)(lb:Array Value)(f:Nat->Int×Int)(n:Nat)(w:World):Prop:=∀k,k<n->∀W,Below w.heap.size w W->Calls prog g (#[.int .i64 (k:Nat)]++lb) W fun e w'=>e=.returned (.tuple #[.int .i64 (f k).1,E3 a b (f k).2])/\Below W.heap.size W w'
def F8.low{a b:Addr}{g:Nat}{lb:Array Value}{f:Nat->Int×Int}{n:Nat}{w w1:World}(h:F8 a b g lb f n w)(hb:Below w.heap.size w w1):F8 a b g lb f n w1:=fun k hk W hW=>h k hk W (hb.trans (hW.mono hb.size))
def Ku(w:World):(binOp .neq 143 .nilIface .nilIface).run prog w=.ok (.bool false) w:=by kernel_rfl
def Gv(a b:Addr)(g:Nat)(lb:Array Value)(eg:∀args w,(callFunc g args).run prog w=.ok (.enter g args) w)(f:Nat->Int×Int)(n:Nat)(w:World)(hn:n<=17592186044416)(hf:∀k,k<n->G0 (f k).2)(hE:F8 a b g lb f n w):Calls prog 121 #[.int .i64 (n:Nat),.func (.func g) #[] lb] w fun e w'=>
   ((Ay f n=0/\e=.returned (.tuple #[.slice (some ⟨w.heap.size,0,none⟩) n n,.nilIface])/\BA w' w.heap.size (Bg f n))\/(Ay f n≠0/\G0 (Ay f n)/\e=.returned (.tuple #[.slice none 0 0,E3 a b (Ay f n)])))/\Below w.heap.size w w':=by
 have HE:=AD hE;have HF:=AD hf;clear hE hf;obtain⟨i0,hi,hz0,hz1,hz2⟩:=info_parts A6;go_enter func121,ntmps121;go_wp2_with(at_make;refine wpList_make_full _ rfl _ _ 23 rfl w.heap.size 3 i0 (.int .i64 0) 1 underlying23 hi hz0 hz1 _ _ _ _ n rfl rfl rfl rfl (by rw[hz2];omega) (by unfold maxLen;omega) AC ?_;intro w1 BJ An);have DI:BA w1 w.heap.size (Bg f 0++List.replicate (n- 0) 0):=BA.of_owns (n:=n) (base:=w.heap.size) (by simpa[toList_madeCells_one,Value.cells,Bg]using BJ);have hbel:Below w.heap.size w w1:=AG.grown An AC (by simp);clear BJ An hi hz0 hz1 hz2;have HBK:=AD DI;have HBL:=AD hbel;clear DI hbel
 go_wp2
 go_loopw[7,8,9,14] (fun _ _ _ i wr=>∃k:Nat,k<=n/\i=.int .i64 k/\Hid (BA wr w.heap.size (Bg f k++List.replicate (n- k) 0))/\Hid (Below w.heap.size w wr)/\Hid (Ay f k=0)) (fun _ _ _ i _=>n- (intOf i).toNat);case atStart=>exact⟨0,AS _,rfl,HBK,HBL,rfl⟩
 case round=>
  obtain⟨k,hk,rfl,hb,hbl,hfc⟩:=hrel;clear HBK HBL w1;by_cases hlt:k<n
  .obtain⟨r,hr⟩:∃r,r=f k:=⟨_,rfl⟩
   obtain⟨r1,r2⟩:=r;have hcall:=AA HE k hlt wr (AA hbl);rw[<-hr]at hcall;have hcode:=AA HF k hlt;rw[<-hr]at hcode;have HR:=AD hr;clear hr;by_cases h0:r2=0
   .subst h0;clear hcode;rw[IE]at hcall;have hnn:=Ku;go_wp2_with(go_at_fn g;refine hcall.mono ?_;rintro e w2⟨rfl,hb2⟩;have HB:=AD ((AA hb).below AC hb2);have HL:=AD ((AA hbl).trans (hb2.mono (AA hbl).size));have hc2:=(AA HB).cell (i:=k) (by simp[I9];omega);have hf2:=(AA HB).free k;clear hb2);have HS:Hid (BA (w2.setCell ⟨w.heap.size,k,none⟩ (.int .i64 r1)) w.heap.size (Bg f (k+1)++List.replicate (n- (k+1)) 0)):=by
     have hs:=(AA HB).set k r1;have e:n- k=n- (k+1)+1:=by omega
     have e1:r1=(f k).1:=by rw[<-AA HR]
     rw[e]at hs;rw[e1]at hs ⊢;rw[VS]at hs;exact hs
    go_roundw;case rel=>exact⟨k+1,by omega,by go_num,HS,(AA HL).setCell AC _,Ia (AA hfc) (by rw[<-AA HR])⟩
    case measure=>simp[intOf];omega
   .have HC:Hid (Ay f n=r2):=by
     show _=_;have e2:(f k).2=r2:=by rw[<-AA HR]
     rw[ND (AA hfc) hlt (by rw[e2];exact h0),e2]
    have HI:=AD hcode;have HZ:=AD h0;have hrv:∃p,E3 a b r2=.iface 278 (.pointer (some p)):=by
     rcases hcode with h|rfl|rfl
     .exact absurd h h0
     .exact⟨a,rfl⟩
     .exact⟨b,rfl⟩
    obtain⟨p,hp⟩:=hrv;rw[hp]at hcall;have HP:=AD hp;clear hcode h0 hp;go_wp2_with(go_at_fn g;refine hcall.mono ?_;rintro e w2⟨rfl,hb2⟩;have HL:=AD ((AA hbl).trans (hb2.mono (AA hbl).size));clear hb2);go_ret2;refine⟨.inr ⟨by rw[AA HC];exact AA HZ,by rw[AA HC];exact AA HI,?_⟩,AA HL⟩;rw[AA HC,AA HP];rfl
  .have hkn:k=n:=by omega
   subst hkn
   go_wp2
   go_ret2;exact⟨.inl ⟨AA hfc,rfl,by simpa using AA hb⟩,AA hbl⟩
end
def Fj(v:Int)(w:World):Calls prog 215 #[.int .i64 v] w fun e w'=>e=.returned (.bool (BY false v))/\w'=w:=by
 have HE:Hid (BY false v=Cj v (-1000000000000000) 1000000000000000):=by show _=_;unfold BY Cj;simp
 go_enter func215,ntmps215;go_wp2_with(go_at_call 50;refine(Ji _ _ _ _).mono ?_;rintro e w'⟨rfl,rfl⟩);go_ret;exact⟨Av HE.out.symm,rfl⟩
def Nu(v:Int)(w:World)(h0:0<=v)(h1:v<=1114111):Calls prog 266 #[.int .i32 v] w fun e w'=>e=.returned (.bool (EV v))/\w'=w:=by
 by_cases h3:v<55296
 .have HE:Hid (EV v=true):=AL ⟨h0,h1,.inl h3⟩;go_enter func266,ntmps266
  go_wp2
  go_ret;exact⟨Av HE.out.symm,rfl⟩
 .by_cases h4:57343<v
  .have HE:Hid (EV v=true):=AL ⟨h0,h1,.inr h4⟩;go_enter func266,ntmps266
   go_wp2
   go_ret;exact⟨Av HE.out.symm,rfl⟩
  .have HE:Hid (EV v=false):=AK (fun h=>by omega);go_enter func266,ntmps266
   go_wp2
   go_ret;exact⟨Av HE.out.symm,rfl⟩
def ZN(v:Int)(h0:0<=v)(h1:v<=1114111):IntKind.i32.wrap v=v:=by unfold IntKind.wrap;simp[IntKind.bits,IntKind.signed];omega
def HH(v:Int)(w:World):Calls prog 216 #[.int .i64 v] w fun e w'=>e=.returned (.bool (BY true v))/\w'=w:=by
 by_cases h:0<=v/\v<=1114111
 .obtain⟨h0,h1⟩:=h;have HE:Hid (BY true v=EV v):=by show _=_;unfold BY;rw[AL (by omega)];simp
  have HW:Hid (Cj v 0 1114111=true):=AL ⟨h0,h1⟩;have hw:=ZN v h0 h1;go_enter func216,ntmps216;go_wp2_with(first|(go_at_call 50;refine(CP _ _ _ _ true HW).mono ?_;rintro e w'⟨rfl,rfl⟩)|(go_at_call 266;refine(Nu _ _ h0 h1).mono ?_;rintro e w'⟨rfl,rfl⟩));go_ret;exact⟨Av HE.out.symm,rfl⟩
 .have HE:Hid (BY true v=false):=by show _=_;unfold BY EV;rw[AK (p:=0<=v/\_/\_) (by omega)];simp
  have HW:Hid (Cj v 0 1114111=false):=AK h;clear h;go_enter func216,ntmps216;go_wp2_with(go_at_call 50;refine(CP _ _ _ _ false HW).mono ?_;rintro e w'⟨rfl,rfl⟩);go_ret;exact⟨Av HE.out.symm,rfl⟩
def Kf(a b:Option Addr)(n m ca cb:Nat)(xs ys:List Int)(w:World)(hx:AO w a n xs)(hy:AO w b m ys):Calls prog 324 #[.slice a n ca,.slice b m cb] w fun e w'=>e=.returned (.bool (decide (xs=ys)))/\∃q,w'=w.drewN q:=by
 obtain⟨hxl,hxs,hxa⟩:=hx;obtain⟨hyl,hys,hya⟩:=hy;by_cases hne:n=m
 .subst hne;have hn:((n:Int) !=(n:Int))=false:=by simp
  go_enter func324,ntmps324
  go_wp2
  go_loopw[5,13] (fun _ i wr=>∃k:Nat,k<=n/\i=.int .i64 k/\xs.take k=ys.take k/\∃q,wr=w.drewN q) (fun _ i _=>n- (intOf i).toNat);case atStart=>exact⟨0,AS _,rfl,rfl,0,rfl⟩
  case round=>
   obtain⟨k,hk,rfl,htk,q,rfl⟩:=hrel;by_cases hlt:k<n
   .have ha:∃b off,a=some ⟨b,off,none⟩/\w.cell? ⟨b,off+k,none⟩=some (.int .i64 (xs.getD k 0)):=by
     rcases hxa with h0|⟨b,off,rfl,hlt',hc⟩
     .omega
     .exact⟨b,off,rfl,hc k hlt⟩
    have hb:∃b' off,b=some ⟨b',off,none⟩/\w.cell? ⟨b',off+k,none⟩=some (.int .i64 (ys.getD k 0)):=by
     rcases hya with h0|⟨b,off,rfl,hlt',hc⟩
     .omega
     .exact⟨b,off,rfl,hc k hlt⟩
    obtain⟨b1,o1,rfl,hc1⟩:=ha;obtain⟨b2,o2,rfl,hc2⟩:=hb;clear hxa hya;obtain⟨x,hx⟩:∃x,x=xs.getD k 0:=⟨_,rfl⟩
    obtain⟨y,hy⟩:∃y,y=ys.getD k 0:=⟨_,rfl⟩
    rw[<-hx]at hc1;rw[<-hy]at hc2;have HX:Hid (x=xs.getD k 0):=hx;have HY:Hid (y=ys.getD k 0):=hy;have HT:Hid (xs.take k=ys.take k):=htk;have HL:Hid (xs.length=n/\ys.length=n):=⟨hxl,hyl⟩
    clear hx hy htk hxl hyl;by_cases hxy:x=y
    .have hb:(x !=y)=false:=by simp[hxy]
     have HXY:Hid (x=y):=hxy;clear hxy
     go_wp2
     go_quiet(fail)
     go_wp2
     go_roundw;case rel=>exact⟨k+1,by omega,by go_num,J8 HL.out.1 HL.out.2 hlt HT.out (HX.out.symm.trans (HXY.out.trans HY.out)),_,by first|rfl|exact World.drewN_drewN _ _ _⟩
     case measure=>simp[intOf];omega
    .have hb:(x !=y)=true:=by simp[hxy]
     have HN:Hid (¬ xs=ys):=fun e=>hxy (by rw[HX.out,HY.out,e]);clear hxy
     go_wp2
     go_quiet(fail)
     go_wp2
     go_ret;exact⟨Av (AK HN.out).symm,_,World.drewN_drewN _ _ _⟩
   .have hkn:k=n:=by omega
    have HE:Hid (xs=ys):=by
     show xs=ys
     rwa [AV (by omega),AV (by omega)]at htk
    clear htk;subst hkn
    go_wp2
    go_ret;exact⟨Av (AL HE.out).symm,_,rfl⟩
 .have hn:((n:Int) !=(m:Int))=true:=by simp;omega
  have HN:Hid (¬ xs=ys):=fun e=>hne (by rw[<-hxl,<-hyl,e]);clear hne;go_enter func324,ntmps324
  go_wp2
  go_ret;exact⟨Av (AK HN.out).symm,0,rfl⟩
def X3(a b:Option Addr)(n m ca cb:Nat)(xs ys:List Int)(w:World)(hx:AO w a n xs)(hy:AO w b m ys)(r:Bool)(hr:Hid (decide (xs=ys)=r)):Calls prog 324 #[.slice a n ca,.slice b m cb] w fun e w'=>e=.returned (.bool r)/\∃q,w'=w.drewN q:=by rw[<-hr.out];exact Kf a b n m ca cb xs ys w hx hy
def Hp{w:World}{n:Nat}{zs:List Int}(h:AO w none n zs):n=0/\zs= []:=by
 obtain⟨hl,_,h0|⟨b,off,hb,_⟩⟩:=h
 .subst h0;exact⟨rfl,Af.mp hl⟩
 .cases hb
def KC{P:Program}{w:World}(base:Nat)(t ty e:TypeId)(i:TypeInfo)(size:Nat)(ht:P.underlying t=some (.slice e))(hi:P.info? e=some i)(v:Value)(n:Nat)(xs:List Value)(BJ:w.ownsRow base e size v n xs)(c:Nat):(Builtin.append_ #[t,t] ty #[v,.slice none 0 c]).run P w=.ok v w:=by
 rcases BJ.2 with⟨rfl,rfl⟩|⟨g,cap,cur,rfl,_,_,hnc,_⟩
 .simp[Builtin.append_,run_underlying ht,sizeOf,typeInfo,hi,Builtin.lenOf,Builtin.firstCells]
 .simp[Builtin.append_,run_underlying ht,sizeOf,typeInfo,hi,Builtin.lenOf,Builtin.firstCells,hnc,storeCells]
def Cw{P:Program}{w:World}{ops:Array Oper}{rest:List Oper}{o:Oper}{a:Act}{Q:Exit->Act->World->Prop}(hgd:o.guard=none)(s x:Operand)(t:TypeId)(ho:o.op=.call {callee:=.builtin .append,args:= #[s,x],argTypes:= #[t,t]})(base:Nat)(e:TypeId)(i:TypeInfo)(size:Nat)(ht:P.underlying t=some (.slice e))(hi:P.info? e=some i)(v:Value)(n:Nat)(xs:List Value)(hs:a.eval s=v)(BJ:w.ownsRow base e size v n xs)(k:Nat)(hk:k=0)(c:Nat)(hx:a.eval x=.slice none k c)(h:wpList P ops Q rest (a.put o.dst v) w):wpList P ops Q (o::rest) a w:=by subst hk;refine wpList_plain hgd fun K hK=> ?_;have hrun:=KC (P:=P) (w:=w) base t o.type e i size ht hi v n xs BJ c;unfold Oper.wp;simp[execOp,ho,resolve,invoke,builtin,hs,hx,hrun,Result.andThen];exact hK _ _ h
