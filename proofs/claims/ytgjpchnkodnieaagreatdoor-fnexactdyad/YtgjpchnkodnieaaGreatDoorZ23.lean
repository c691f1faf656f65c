import Derived.Test.YtgjpchnkodnieaaGreatDoorZ10
import Derived.Test.YtgjpchnkodnieaaGreatDoorZ18
import Derived.Test.YtgjpchnkodnieaaGreatDoorZ16
import Derived.RangeFuncBound
import Derived.Shelf.RegionOpen
import Derived.LoopNIn
import Derived.Maps.OwnIn
import Derived.Test.YtgjpchnkodnieaaGreatDoorZ07
import Derived.Sort.CutIn
set_option maxRecDepth 100000
set_option maxHeartbeats 4000000
set_option linter.defProp false
namespace Go.Proofs.YtgjpchnkodnieaaGreatDoor
open Go.RowKit Tryz
section
open Go.Shelf
attribute [local go_sem] Oper.semAt_some
def bJ(n:Nat)(sh:List Int)(lo:Nat)(k:Nat)(v:Value)(W:World):Prop:=∃g,lo<=g/\v=.slice (some ⟨g,0,none⟩) n n/\BA W g (BK sh k)
def Ik(sa:Option Addr)(n cap:Nat)(w:World):Calls prog 150 #[.slice sa n cap] w fun e w'=>e=.returned (.func (.func 228) #[] #[.pointer (some ⟨w.heap.size,0,none⟩)])/\w'=w.alloc (.cells #[.slice sa n cap] 23):=by
 go_enter func150,ntmps150
 go_wp2
 go_ret;exact⟨rfl,rfl⟩
def FA(a:Option Addr)(n cap:Nat)(sh:List Int)(w:World)(h:AO w a n sh)(hin:Aq sh)(N:Nat)(hr:Hid (AM sh=(N:Int))):Calls prog 116 #[.slice a n cap] w fun e w'=>e=.returned (.int .i64 (N:Int))/\w'=w:=by rw[<-hr.out];exact GK a n cap sh w h (fun k=>(hin.take k).bd)
def IA(m Bn:Nat)(sa:Option Addr)(n cap:Nat)(sh:List Int)(w0:World)(N:Nat)(T:Nat->Prop)(hBox:w0.cell? ⟨Bn,0,none⟩=some (.slice sa n cap))(hBn:Bn<w0.heap.size)(hr:AO w0 sa n sh)(h5:n<=5)(hs:Aq sh)(hN:AM sh=(N:Int))(hT1:¬ T Bn)(hT2:∀k,T k->¬ At sa n k):RT m prog 228 #[.pointer (some ⟨Bn,0,none⟩)] N (bJ n sh (w0.heap.size+2)) T w0:=by
 intro l J W hW hz hTl hJ hY h0;have hl:=hr.len;have hsm:=hr.small;have hNb:N<=10000:=by have:=hs.bd;omega
 have hBW:Bn<W.heap.size:=by omega
 have hRW:AO W sa n sh:=hr.below AC hW;have hbox:=(hW.cell (p:=⟨Bn,0,none⟩) hBn).trans hBox;have hbox2:(W.alloc (.cells (madeCells #[.int .i64 0] n) 3)).cell? ⟨Bn,0,none⟩=some (.slice sa n cap):=(((AN _ W).alloc AC _).cell (p:=⟨Bn,0,none⟩) hBW).trans hbox;have hmk:=run_make_row' (P:=prog) 23 3 (.int .i64 0) 8 underlying23 A6 rfl .i64 .i64 n (by omega) (by omega);have HRW:=AD hRW;have HS:=AD hs;have HN:=AD hN;have HY:Hid (∀k v W1,k<N->J k W1->bJ n sh (w0.heap.size+2) k v W1->YieldAt Fence.wide (m- 1) prog l #[.int .i64 (k:Nat),v] W1 fun e W'=>e=.returned (.bool true)/\J (k+1) W'/\BS T W1 W'):=hY;have HJ:Hid (∀k A B,J k A->Below W.heap.size A B->J k B):=hJ;have HTL:Hid (∀k,T k->k<W.heap.size):=hTl;have HT1:=AD hT1;have HT2:Hid (∀k,T k->¬ At sa n k):=hT2;have H0:=AD h0;have HL:=AD hl;clear hRW hs hN hY hJ hTl hT1 hT2 h0 hl hr hBox hW;refine callsIn_of_wp func228 rfl trivial ?_ rfl;simp only[ntmps228,CX,Ch,Cv,Nat.reduceAdd,Nat.reduceSub,Array.replicate_succ,Array.replicate_zero,List.push_toArray,List.append_toArray,A8,Ax]
 gi_wp2_with (refine⟨trivial,fun h=>(by simp[Fence.wide]at h),?_⟩;gi_at_call 116;refine(callsIn_wide.2 (FA _ _ _ sh _ ((AA HRW).alloc _) (AA HS) N HN)).mono ?_;rintro e w1⟨rfl,rfl⟩)
 gi_loopw [10] (fun i wr=>∃k:Nat,k<=N/\i=.int .i64 (k:Nat)/\Hid (J k wr)/\Hid (BA wr W.heap.size (BK sh k))/\Hid (BS T W wr)) (fun i _=>N- (intOf i).toNat)
 case atStart=>
  refine⟨0,AS _,rfl,AD (HJ.out _ _ _ H0.out (AG.alloc AC _)),?_,AD ((BS.refl _ _).alloc _)⟩;show BA _ _ _;rw[show((0:Nat):Int)=0 from rfl,Q5,HL.out];exact BA.made _ _ _ rfl
 case round=>
  obtain⟨k,hk,rfl,hj,hb,hbut⟩:=hrel;clear hbox2 hmk H0;by_cases hlt:k<N
  .have HF:Hid (F0 sh):=FI HS.out (by rw[HN.out];omega);obtain⟨fn,tmps,assign,body,hy,hR⟩:=HY.out k _ wr hlt hj.out ⟨W.heap.size,hz,rfl,hb.out⟩
   gi_wp2
   refine⟨fun h=>(by simp[Fence.wide]at h),hR.mono ?_⟩;rintro e W3⟨rfl,hJ3,hbut3⟩;have hbt:BS T W W3:=(hbut.out.trans hbut3).mono (by rintro x(h|h)<;>exact h);have hb3:BA W3 W.heap.size (BK sh k):=(hbut3.block _ hb.out.lt (fun h=>by have:=HTL.out _ h;omega)).trans hb.out;have hr3:=AD (hbt.row HRW.out HT2.out);have hx3:W3.cell? ⟨Bn,0,none⟩=some (.slice sa n cap):=(hbt.cellAt hBW HT1.out).trans hbox;have HBT:=AD hbt;have HB3:=AD hb3;have HJ3:=AD hJ3;have hgs:¬ At sa n W.heap.size:=fun h=>by have:=HRW.out.hi h;omega
   clear hR hy hb3 hbt hbut3 hJ3 hj hb hbut
   gi_wp2_with (refine⟨trivial,fun h=>(by simp[Fence.wide]at h),?_⟩;gi_at_call 229;refine(callsIn_wide.2 (RR _ _ _ _ _ sh k _ HB3.out hr3.out hgs HF.out HS.out)).mono ?_;rintro e w4⟨⟨v,rfl⟩,hb4,hbut4⟩)
   go_roundw;case rel=>
    refine⟨k+1,by omega,by go_num,AD (HJ.out _ _ _ HJ3.out (hbut4.below HBT.out.size (by rintro x rfl;exact AC))),?_,?_⟩
    .show BA _ _ _;rw[show((k+1:Nat):Int)=(k:Int)+1 by omega];exact hb4
    .exact AD ⟨hbut4.os.trans HBT.out.os,hbut4.tape.trans HBT.out.tape,hbut4.output.trans HBT.out.output,Dg HBT.out.size hbut4.size,fun x hx hn=>(hbut4.block x (AZ hx HBT.out.size) (by omega)).trans (HBT.out.block x hx hn)⟩
   case measure=>simp[intOf];go_num
  .have:k=N:=by omega
   subst this
   gi_wp2
   go_end0
   exact⟨⟨_,rfl⟩,hj.out⟩
end
section
open Go.Shelf
attribute [local go_sem] Oper.semAt_some
def TB(sa:Option Addr)(n cap:Nat)(w:World):Calls prog 147 #[.slice sa n cap] w fun e w'=>e=.returned (.func (.func 226) #[] #[.pointer (some ⟨w.heap.size,0,none⟩)])/\w'=w.alloc (.cells #[.slice sa n cap] 23):=by
 go_enter func147,ntmps147
 go_wp2
 go_ret;exact⟨rfl,rfl⟩
def Pp(m Bn:Nat)(sa:Option Addr)(n cap:Nat)(zs:List Int)(w0:World)(hBox:w0.cell? ⟨Bn,0,none⟩=some (.slice sa n cap))(hBn:Bn<w0.heap.size)(hr:AO w0 sa n zs):RS m prog 226 #[.pointer (some ⟨Bn,0,none⟩)] n (fun k=> #[.int .i64 (zs.getD k 0)]) w0:=by
 intro l J W hJ hY h0;have hsm:=hr.small;have hbox:=((hJ _ _ h0).cell (p:=⟨Bn,0,none⟩) hBn).trans hBox;have HJ:Hid (∀k A,J k A->Below w0.heap.size w0 A):=hJ;have HY:Hid (∀k W1,k<n->J k W1->YieldAt Fence.wide (m- 1) prog l #[.int .i64 (zs.getD k 0)] W1 fun e W'=>e=.returned (.bool true)/\J (k+1) W'):=hY;have H0:=AD h0;have HR:=AD hr;clear hJ hY h0 hr hBox;refine callsIn_of_wp func226 rfl trivial ?_ rfl;simp only[ntmps226,CX,Ch,Cv,Nat.reduceAdd,Nat.reduceSub,Array.replicate_succ,Array.replicate_zero,List.push_toArray,List.append_toArray,A8,Ax]
 gi_wp2
 gi_loopw [7] (fun i wr=>∃k:Nat,k<=n/\i=.int .i64 (k:Nat)/\Hid (J k wr)) (fun i _=>n- (intOf i).toNat)
 case atStart=>exact⟨0,AS _,rfl,H0⟩
 case round=>
  obtain⟨k,hk,rfl,hj⟩:=hrel;clear H0 hbox;by_cases hlt:k<n
  .obtain⟨b,off,rfl,hblt,hc⟩:=(HR.out.below AC (HJ.out _ _ hj.out)).get hlt;obtain⟨fn,tmps,assign,body,hy,hRr⟩:=HY.out k wr hlt hj.out;obtain⟨x,hx⟩:∃x,x=zs.getD k 0:=⟨_,rfl⟩
   rw[<-hx]at hc hy;clear hx
   gi_wp2
   refine⟨fun h=>(by simp[Fence.wide]at h),hRr.mono ?_⟩;rintro e W3⟨rfl,hJ3⟩;have HJ3:=AD hJ3;clear hRr hy hJ3 hc
   gi_wp2
   go_roundw;case rel=>exact⟨k+1,by omega,by go_num,HJ3⟩
   case measure=>simp[intOf];omega
  .have:k=n:=by omega
   subst this
   gi_wp2
   go_end0
   exact⟨⟨_,rfl⟩,hj.out⟩
def Rb(w0:World)(pb:Nat)(zs:List Int)(k:Nat)(W:World):Prop:=(∃v,Boxed W pb 23 v/\W.ownsRow w0.heap.size 3 1 v k ((zs.take k).map (Value.int .i64))/\(v=.slice none 0 0↔k=0))/\Below w0.heap.size w0 W
def Rb.putObj{w0:World}{pb:Nat}{zs:List Int}{k:Nat}{A:World}{l:Nat}{o:Obj}(h:Rb w0 pb zs k A)(hl:w0.heap.size<=l)(ho:A.heap[l]? =some o)(hc:o.isCells=false)(o':Obj):Rb w0 pb zs k (A.putObj l o'):=by
 obtain⟨⟨v,hb,hr,hn⟩,hbl⟩:=h;refine⟨⟨v,?_,?_,hn⟩,hbl.trans (C0 A hl o')⟩
 .have hne:pb≠l:=fun e=>by subst e;rw[show A.heap[pb]? =_ from hb]at ho;cases ho;cases hc
  exact(World.putObj_heap_other hne).trans hb
 .rcases hr with⟨h1,h2⟩;refine⟨h1,?_⟩;rcases h2 with h|⟨g,cap,cur,hv,hg,hgb,rest⟩
  .exact .inl h
  .have hne:g≠l:=fun e=>by subst e;rw[hgb]at ho;cases ho;cases hc
   exact .inr ⟨g,cap,cur,hv,hg,(World.putObj_heap_other hne).trans hgb,rest⟩
def Rb.alloc{w0:World}{pb:Nat}{zs:List Int}{k:Nat}{A:World}(h:Rb w0 pb zs k A)(o:Obj):Rb w0 pb zs k (A.alloc o):=by obtain⟨⟨v,hb,hr,hn⟩,hbl⟩:=h;exact⟨⟨v,hb.alloc o,hr.alloc o,hn⟩,hbl.alloc hbl.size o⟩
def Yo:∀args w,(callFunc 226 args).run prog w=.ok (.enter 226 args) w:=enters_of func226 (by kernel_rfl) rfl
def Nt(Bn:Nat)(sa:Option Addr)(n cap:Nat)(zs:List Int)(w:World)(hBox:w.cell? ⟨Bn,0,none⟩=some (.slice sa n cap))(hBn:Bn<w.heap.size)(hr:AO w sa n zs)(hn:n<=10000):Calls prog 272 #[.slice none 0 0,.func (.func 226) #[] #[.pointer (some ⟨Bn,0,none⟩)]] w fun e w'=>∃v,e=.returned v/\w'.ownsRow w.heap.size 3 1 v n (zs.map (Value.int .i64))/\(v=.slice none 0 0↔n=0)/\Below w.heap.size w w':=by
 refine(callsIn_wide (n:=9)).1 ?_;obtain⟨i0,hi,hz0,hz1,hz2⟩:=info_parts A6;refine callsIn_of_wp_marks func272 rfl trivial ?_ rfl;simp only[ntmps272,CX,Ch,Cv,Nat.reduceAdd,Nat.reduceSub,Array.replicate_succ,Array.replicate_zero,List.push_toArray,List.append_toArray,A8,Ax]
 gi_wp2
 have Bq:=hr.len;obtain⟨W,hW⟩:∃W,W=w.alloc (.cells #[.slice none 0 0] 23):=⟨_,rfl⟩
 have h0:Rb w w.heap.size zs 0 W:=by rw[hW];exact⟨⟨.slice none 0 0,Boxed.new w _ _,by simpa using World.ownsRow_nil _ _ _ _,by simp⟩,(AN _ w).alloc AC _⟩
 have hz:W.heap.size=w.heap.size+1:=by rw[hW];simp
 rw[<-hW];refine QE (w0:=w) (gf:=226) (lb:= #[.pointer (some ⟨Bn,0,none⟩)]) rfl Yo (ar:=fun k=> #[.int .i64 (zs.getD k 0)]) (fun _=>rfl) (Pp _ Bn sa n cap zs w hBox hBn hr) (Rb w w.heap.size zs) (fun _ _ h=>h.2) (fun k A l o o' h hl ho hc=>h.putObj (by omega) ho hc o') (fun o o'=>(h0.alloc o).alloc o') (fun k=> {tmps:= #[.slice none 0 0,.func (.func 226) #[] #[.pointer (some ⟨Bn,0,none⟩)],.pointer (some ⟨w.heap.size,0,none⟩),undef,.slice none 0 0,.int .i64 (zs.getD k 0),.func (.func 226) #[] #[.pointer (some ⟨Bn,0,none⟩)],.int .i64 (zs.getD k 0),undef,undef,undef,undef,undef],defers:= []}) ?assign ?body ?done;case assign=>
  intro l k A K hK
  gi_wp2
  exact hK
 case body=>
  rintro l k A hk⟨⟨v,hv,E2,hnil⟩,hB⟩;obtain⟨x,hx⟩:∃x,x=zs.getD k 0:=⟨_,rfl⟩
  have hts:(zs.take (k+1)).map (Value.int .i64)=(zs.take k).map (Value.int .i64)++ [.int .i64 x]:=by rw[C3 zs k (by omega),<-hx];simp
  have HTS:=AD hts;rw[<-hx];have hc:=hv.cell;have hf:=hv.frozen;clear hx hts h0 hnil
  gi_wp2_with (gi_at_builtin;refine wpListIn_append_own _ rfl _ _ 23 rfl w.heap.size 3 i0 (.int .i64 0) 1 8 underlying23 hi hz0 hz1 hz2 rfl (by decide) _ _ _ rfl (E2.alloc _) ⟨A.heap.size,0,none⟩ 1 1 [.int .i64 x] rfl rfl (cell_one_new _ _ _) (by simp[Value.oneCell']) (by unfold maxLen;omega) (by omega) (by have:=hB.size;simp;omega) ?_;intro v' w1 BL An _;obtain⟨g',Ak,rfl⟩:=ownsRow_succ BL;obtain⟨hv1,hv2,hr2,hk2,hb2⟩:=hv.appended (by decide) E2 hB.size AC BL An;have hc1:=hv1.cell;have hf1:=hv1.frozen)
  exact⟨hk2,⟨_,hv2,by rw[HTS.out];exact hr2,by simp⟩,hB.trans hb2⟩
 case done=>
  rintro D A hD⟨⟨v,hv,E2,hnil⟩,hB⟩hK;have hc:=hv.cell;have hall:zs.take n=zs:=AV (by omega);have HALL:=AD hall;clear hall h0
  gi_wp2
  refine⟨by simp,.inl ⟨_,_,rfl,run_takeDeferred hK,?_⟩⟩;refine⟨_,results_tmp rfl _ _ _,v,rfl,?_,hnil,hB.trans (C0 A (by omega) _)⟩;have h:=ownsRow_putObj E2 (.deferred none) hK rfl;rw[HALL.out]at h;exact h
end
section
open Go.Shelf
attribute [local go_sem] Oper.semAt_some
def Jy(sa:Option Addr)(n cap:Nat)(w:World):Calls prog 325 #[.slice sa n cap] w fun e w'=>e=.returned (.func (.func 333) #[] #[.pointer (some ⟨w.heap.size,0,none⟩)])/\w'=w.alloc (.cells #[.slice sa n cap] 23):=by
 go_enter func325,ntmps325
 go_wp2
 go_ret;exact⟨rfl,rfl⟩
def Tq:∀args w,(callFunc 333 args).run prog w=.ok (.enter 333 args) w:=enters_of func333 (by kernel_rfl) rfl
def I2(n:Nat)(zs:List Int)(k:Nat):Array Value:= #[.int .i64 ((n- 1- k:Nat):Int),.int .i64 (zs.getD (n- 1- k) 0)]
def Of(m Bn:Nat)(sa:Option Addr)(n cap:Nat)(zs:List Int)(hsm:n<=17592186044416):Ph m prog 333 #[.pointer (some ⟨Bn,0,none⟩)] n (I2 n zs) (fun A=>A.cell? ⟨Bn,0,none⟩=some (.slice sa n cap)/\AO A sa n zs):=by
 intro l J W hJ hY h0;have hbox:=(hJ _ _ h0).1;have HBOX:Hid (∀k A,J k A->A.cell? ⟨Bn,0,none⟩=some (.slice sa n cap)):=fun k A h=>(hJ _ _ h).1;have HJ:Hid (∀k A,J k A->AO A sa n zs):=fun k A h=>(hJ _ _ h).2;have HY:Hid (∀k W1,k<n->J k W1->YieldAt Fence.wide (m- 1) prog l (I2 n zs k) W1 fun e W'=>e=.returned (.bool true)/\J (k+1) W'):=hY;have H0:=AD h0;clear hJ hY h0;refine callsIn_of_wp func333 rfl trivial ?_ rfl;simp only[ntmps333,CX,Ch,Cv,Nat.reduceAdd,Nat.reduceSub,Array.replicate_succ,Array.replicate_zero,List.push_toArray,List.append_toArray,A8,Ax]
 gi_wp2
 gi_loopw [3] (fun i wr=>∃k:Nat,k<=n/\i=.int .i64 ((n:Int)- 1- (k:Nat))/\Hid (J k wr)) (fun i _=>(intOf i+1).toNat)
 case atStart=>exact⟨0,AS _,by go_num,H0⟩
 case round=>
  obtain⟨k,hk,rfl,hj⟩:=hrel;clear H0 hbox;by_cases hlt:k<n
  .obtain⟨j,hjn⟩:∃j:Nat,j=n- 1- k:=⟨_,rfl⟩
   have hji:(n:Int)- 1- (k:Nat)=(j:Nat):=by omega
   have hjlt:j<n:=by omega
   obtain⟨b,off,rfl,hblt,hc⟩:=(HJ.out _ _ hj.out).get hjlt;have hbx:=HBOX.out _ _ hj.out;obtain⟨fn,tmps,assign,body,hy,hRr⟩:=HY.out k wr hlt hj.out;obtain⟨x,hx⟩:∃x,x=zs.getD j 0:=⟨_,rfl⟩
   unfold I2 at hy;rw[<-hjn,<-hx]at hy;rw[<-hx]at hc;rw[hji];have HJN:=AD hjn;have HJI:=AD hji;clear hx hjn hji
   gi_wp2
   refine⟨fun h=>(by simp[Fence.wide]at h),hRr.mono ?_⟩;rintro e W3⟨rfl,hJ3⟩;have HJ3:=AD hJ3;clear hRr hy hJ3 hc
   gi_wp2
   go_roundw;case rel=>
    have:=HJI.out;exact⟨k+1,by omega,by go_num,HJ3⟩
   case measure=>
    have:=HJI.out
    (simp[intOf]<;>omega)
  .have:k=n:=by omega
   subst this;have e1:(k:Int)- 1- (k:Nat)= -1:=by omega
   rw[e1];clear e1
   gi_wp2
   go_end0
   exact⟨⟨_,rfl⟩,hj.out⟩
end
section
open Go.Shelf Go.Maps
attribute [local go_sem] Oper.semAt_some
def Ww:Keyed prog 3:=int_keyed underlying3
def YA(w:World):(zeroValue 3).run prog w=.ok (.int .i64 0) w:=by kernel_rfl
def ZO(n:Int)(w:World):(Instr.makeMap 263 (some (.int .i64 n))).run prog w=.ok (.map (some w.heap.size)) (w.alloc (.map #[] 0)):=by simp[Instr.makeMap,run_underlying underlying263,asInt,asIntOf,Result.andThen]
def Pj(zs:List Int)(p:Nat)(W:World)(k:Nat)(A:World):Prop:=A.ownsMap prog 3 (plainElem prog 3) p k (Ep zs k)/\BS (fun x=>x=p) W A
def Hu{w:World}{p k l:Nat}{D:DataW Unit}(h:w.ownsMap prog 3 (plainElem prog 3) p k D)(hl:p≠l)(o:Obj):(w.putObj l o).ownsMap prog 3 (plainElem prog 3) p k D:=by obtain⟨es,clock,hb,r⟩:=h;exact⟨es,clock,(World.putObj_heap_other hl).trans hb,r⟩
def Pj.putObj{zs:List Int}{p:Nat}{W:World}{k:Nat}{A:World}{l:Nat}(h:Pj zs p W k A)(hl:W.heap.size<=l)(hp:p<l)(o':Obj):Pj zs p W k (A.putObj l o'):=by obtain⟨h1,h3⟩:=h;have hb:=C0 A hl o';exact⟨Hu h1 (by omega) o',hb.os.trans h3.os,hb.tape.trans h3.tape,hb.output.trans h3.output,Dg h3.size hb.size,fun x hx hn=>(hb.block x hx).trans (h3.block x hx hn)⟩
def Pj.alloc{zs:List Int}{p:Nat}{W:World}{k:Nat}{A:World}(h:Pj zs p W k A)(o:Obj):Pj zs p W k (A.alloc o):=⟨h.1.alloc o,h.2.alloc o⟩
def BS.of_grown{S:Nat->Prop}{A B:World}{p:Nat}(h:A.grownBy B (some p))(hp:S p):BS S A B:=⟨h.os,h.tape,h.output,h.size,fun k hk hn=>h.block k hk (fun e=>by cases e;exact hn hp)⟩
def Mr(sa:Option Addr)(n cap:Nat)(zs:List Int)(w:World)(h:AO w sa n zs)(hn:n<=10000)(hd:∀k,k<zs.length→-1000000000000000<=zs.getD k 0/\zs.getD k 0<=1000000000000000):CallsIn Fence.wide 9 prog 323 #[.slice sa n cap] w fun e w'=>∃B,e=.returned (.map (some B))/\w.heap.size<=B/\w'.ownsMap prog 3 (plainElem prog 3) B n (Ep zs n)/\Below w.heap.size w w':=by
 have Bq:=h.len;have H:=AD h;have HD:=AD hd;have HAT:Hid (∀k,At sa n k->k<w.heap.size):=fun k hk=>h.hi hk;clear h hd;have hmm:=ZO;refine callsIn_of_wp_marks func323 rfl trivial ?_ rfl;simp only[ntmps323,CX,Ch,Cv,Nat.reduceAdd,Nat.reduceSub,Array.replicate_succ,Array.replicate_zero,List.push_toArray,List.append_toArray,A8,Ax]
 gi_wp2_with (refine⟨trivial,?_⟩;gi_at_call 325;refine(callsIn_wide.2 (Jy _ _ _ _)).mono ?_;rintro e wI⟨rfl,hwI⟩;obtain rfl:=hwI.symm)
 clear hmm;obtain⟨p,hp⟩:∃p,p=w.heap.size:=⟨_,rfl⟩
 obtain⟨W,hW⟩:∃W,W=((w.alloc (.map #[] 0)).alloc (.cells #[.map (some w.heap.size)] 263)).alloc (.cells #[.slice sa n cap] 23):=⟨_,rfl⟩
 have hzW:W.heap.size=p+1+1+1:=by rw[hW,hp];simp
 have HBW:Hid (Below p w W):=by rw[hW,hp];exact(((AN _ w).alloc AC _).alloc (by simp) _).alloc (by simp;omega) _
 have HY0:Hid (W.ownsMap prog 3 (plainElem prog 3) p 0 (Ep zs 0)):=by rw[hW,hp];exact((World.ownsMap_made w _ _ _).alloc _).alloc _
 have HY1:Hid (W.heap[p+1]? =some (.cells #[.map (some p)] 263 (0,0))):=by rw[hW,hp];have:=World.alloc_heap_new (w.alloc (.map #[] 0)) (.cells #[.map (some w.heap.size)] 263);exact(Ab _ _ _ (by simp)).trans (by simpa using this)
 have HY2:Hid (W.heap[p+1+1]? =some (.cells #[.slice sa n cap] 23 (0,0))):=by
  rw[hW,hp];have:=World.alloc_heap_new ((w.alloc (.map #[] 0)).alloc (.cells #[.map (some w.heap.size)] 263)) (.cells #[.slice sa n cap] 23)
  rwa [World.size_alloc,World.size_alloc]at this
 have HW:=AD (H.out.below (by omega) HBW.out);rw[<-hW,<-hp];have HAT':Hid (∀k,At sa n k->k<p):=by rw[hp];exact HAT
 have HP:=AD hp;clear hW hp HAT H hwI;have h0:Pj zs p W 0 W:=⟨HY0.out,BS.refl _ _⟩
 have HC3:Hid (∀k A,Pj zs p W k A->A.cell? ⟨p+1+1,0,none⟩=some (.slice sa n cap)/\AO A sa n zs):=fun k A hA=>by obtain⟨_,hbut⟩:=hA;refine⟨?_,hbut.row HW.out (by rintro x rfl hx;have:=HAT'.out _ hx;omega)⟩;have h3:=(hbut.block (p+1+1) (by omega) (by omega)).trans HY2.out;simp[World.cell?,h3]
 refine It (gf:=333) (lb:= #[.pointer (some ⟨p+1+1,0,none⟩)]) rfl Tq (ar:=I2 n zs) (fun _=>rfl) (Of _ (p+1+1) sa n cap zs (by omega)) (Pj zs p W) HC3.out (fun k A l o o' h hl ho hc=>h.putObj (by omega) (by omega) o') (fun o o'=>(h0.alloc o).alloc o') (fun k=> {tmps:= #[.slice sa n cap,undef,.map none,.pointer (some ⟨p+1,0,none⟩),.int .i64 ((n- 1- k:Nat):Int),.int .i64 (zs.getD (n- 1- k) 0),.slice sa n cap,.int .i64 (n:Nat),.map (some p),.slice sa n cap,.func (.func 333) #[] #[.pointer (some ⟨p+1+1,0,none⟩)],.int .i64 ((n- 1- k:Nat):Int),.int .i64 (zs.getD (n- 1- k) 0),undef,undef,undef,undef,undef],defers:= []}) ?assign ?body ?done;case assign=>
  intro l k A K hK;unfold I2
  gi_wp2
  exact hK
 case body=>
  rintro l k A hk⟨hM,hbut⟩;clear h0 HC3;obtain⟨j,hj⟩:∃j:Nat,j=n- 1- k:=⟨_,rfl⟩
  obtain⟨a,ha⟩:∃a,a=zs.getD j 0:=⟨_,rfl⟩
  have hab:=HD.out j (by omega);rw[<-ha]at hab;have HPD:Hid (Ep zs (k+1)=(Ep zs k).put (.int .i64 a) (.lit (.int .i64 ((j:Int)+1)))):=by show _=_;rw[Ep,Bq,<-hj,<-ha]
  rw[<-hj,<-ha];have h3:=(hbut.block (p+1) (by omega) (by omega)).trans HY1.out;have cP:A.cell? ⟨p+1,0,none⟩=some (.map (some p)):=by simp[World.cell?,h3]
  have hj1:j<10000:=by omega
  have hkey:keyOf prog 3 (.int .i64 a)=some (.int .i64 a):=keyOf_int_mk underlying3 (WalkArith.wf_i64 (by omega));have HM:=AD hM;have HBT:=AD hbut;clear h3 hj ha hM hbut
  gi_wp2_with (gi_at_mapUpdate;refine wpListIn_mapUpdate_own _ rfl _ _ _ 263 rfl 3 3 Ww underlying263 _ p k _ rfl HM.out (by unfold maxLen;omega) _ _ _ rfl rfl hkey (.lit (.int .i64 ((j:Int)+1))) [] (plainElem_int underlying3 (WalkArith.wf_i64 (by omega))) ?_;intro w1 hown1 hgrow1)
  refine⟨KeepsFrom.of_grownBy hgrow1 (by intro q e;cases e;omega),?_,?_⟩
  .rw[HPD.out];exact hown1
  .exact(HBT.out.trans (BS.of_grown (S:=fun x=>x=p) hgrow1 rfl)).mono (by rintro x(h|h)<;>exact h)
 case done=>
  rintro D A hD⟨hM,hbut⟩hK;have h3:=(hbut.block (p+1) (by omega) (by omega)).trans HY1.out;have cP:A.cell? ⟨p+1,0,none⟩=some (.map (some p)):=by simp[World.cell?,h3]
  have HBT:=AD hbut;have HM:=AD hM;clear hM hbut h3 h0
  gi_wp2
  refine⟨by simp,.inl ⟨_,_,rfl,run_takeDeferred hK,?_⟩⟩;refine⟨_,results_tmp rfl _ _ _,p,rfl,by rw[<-HP.out];exact AC,Hu HM.out (by omega) _,?_⟩;rw[<-HP.out];exact(HBW.out.trans (HBT.out.below (B:=p) (by omega) (by rintro x rfl;omega))).trans (C0 A (by omega) _)
def Li(sa:Option Addr)(n cap:Nat)(zs:List Int)(w:World)(h:AO w sa n zs)(hn:n<=10000)(hd:∀k,k<zs.length→-1000000000000000<=zs.getD k 0/\zs.getD k 0<=1000000000000000):Calls prog 323 #[.slice sa n cap] w fun e w'=>∃B,e=.returned (.map (some B))/\w.heap.size<=B/\w'.ownsMap prog 3 (plainElem prog 3) B n (Ep zs n)/\Below w.heap.size w w':=callsIn_wide.1 (Mr sa n cap zs w h hn hd)
end
section
open Go.Shelf
attribute [local go_sem] Oper.semAt_some
def Kg(dt:List Int)(b:Int)(pn gd:Nat)(W:World)(k:Nat)(A:World):Prop:=BA A gd (Ll dt b k)/\A.heap[pn]? =some (.cells #[.int .i64 (Cm dt b k)] 3 (0,0))/\BS (fun x=>x=gd\/x=pn) W A
def Kg.putObj{dt:List Int}{b:Int}{pn gd:Nat}{W:World}{k:Nat}{A:World}{l:Nat}{o:Obj}(h:Kg dt b pn gd W k A)(hl:W.heap.size<=l)(ho:A.heap[l]? =some o)(hc:o.isCells=false)(o':Obj):Kg dt b pn gd W k (A.putObj l o'):=by
 obtain⟨h1,h2,h3⟩:=h;have n1:gd≠l:=fun e=>by subst e;rw[show A.heap[gd]? =_ from h1]at ho;cases ho;cases hc
 have n2:pn≠l:=fun e=>by subst e;rw[h2]at ho;cases ho;cases hc
 have hb:=C0 A hl o';exact⟨(World.putObj_heap_other n1).trans h1,(World.putObj_heap_other n2).trans h2,hb.os.trans h3.os,hb.tape.trans h3.tape,hb.output.trans h3.output,Dg h3.size hb.size,fun x hx hn=>(hb.block x hx).trans (h3.block x hx hn)⟩
def Kg.alloc{dt:List Int}{b:Int}{pn gd:Nat}{W:World}{k:Nat}{A:World}(h:Kg dt b pn gd W k A)(o:Obj):Kg dt b pn gd W k (A.alloc o):=by obtain⟨h1,h2,h3⟩:=h;exact⟨h1.alloc o,(Ab A o pn (BW.1 h2).1).trans h2,h3.alloc o⟩
def Kg.drew{dt:List Int}{b:Int}{pn gd:Nat}{W:World}{k:Nat}{A:World}(h:Kg dt b pn gd W k A):Kg dt b pn gd W k A.drew:=⟨h.1,h.2.1,h.2.2.drew⟩
def Q7(b:Int)(sa:Option Addr)(n cap:Nat)(dt:List Int)(w:World)(h:AO w sa n dt)(hd:∀k,k<dt.length->0<=dt.getD k 0/\dt.getD k 0<=1000000000000000)(hb: -1000000000000000<=b/\b<=1000000000000000):CallsIn Fence.wide 9 prog 303 #[.int .i64 b,.slice sa n cap] w fun e w'=>∃gd,e=.returned (.slice (some ⟨gd,0,none⟩) n n)/\w.heap.size<=gd/\BA w' gd ((List.range dt.length).map (Cd dt b))/\Below w.heap.size w w':=by
 have Bq:=h.len;have hsm:=h.small;have H:=AD h;have HD:=AD hd;have HBD:=AD hb;have HAT:Hid (∀k,At sa n k->k<w.heap.size):=fun k hk=>h.hi hk;clear h hd hb;have hmk:=run_make_row' (P:=prog) 23 3 (.int .i64 0) 8 underlying23 A6 rfl .i64 .i64 n (by omega) (by omega);refine callsIn_of_wp_marks func303 rfl trivial ?_ rfl;simp only[ntmps303,CX,Ch,Cv,Nat.reduceAdd,Nat.reduceSub,Array.replicate_succ,Array.replicate_zero,List.push_toArray,List.append_toArray,A8,Ax]
 gi_wp2_with (refine⟨trivial,?_⟩;gi_at_call 325;refine(callsIn_wide.2 (Jy _ _ _ _)).mono ?_;rintro e wI⟨rfl,hwI⟩;obtain rfl:=hwI.symm)
 obtain⟨p,hp⟩:∃p,p=w.heap.size:=⟨_,rfl⟩
 obtain⟨W,hW⟩:∃W,W=(((w.alloc (.cells #[.int .i64 b] 3)).alloc (.cells (madeCells #[.int .i64 0] n) 3)).alloc (.cells #[.slice (some ⟨w.heap.size+1,0,none⟩) n n] 23)).alloc (.cells #[.slice sa n cap] 23):=⟨_,rfl⟩
 have hzW:W.heap.size=p+1+1+1+1:=by rw[hW,hp];simp
 have HBW:Hid (Below p w W):=by rw[hW,hp];exact((((AN _ w).alloc AC _).alloc (by simp) _).alloc (by simp;omega) _).alloc (by simp;omega) _
 have HY0:Hid (W.heap[p]? =some (.cells #[.int .i64 b] 3 (0,0))):=by rw[hW,hp];exact(Ab _ _ _ (by simp;omega)).trans ((Ab _ _ _ (by simp;omega)).trans ((Ab _ _ _ (by simp)).trans (World.alloc_heap_new w _)))
 have HY1:Hid (BA W (p+1) (List.replicate n 0)):=by rw[hW,hp];exact((BA.made _ n _ (by simp)).alloc _).alloc _
 have HY2:Hid (W.heap[p+1+1]? =some (.cells #[.slice (some ⟨p+1,0,none⟩) n n] 23 (0,0))):=by rw[hW,hp];have:=World.alloc_heap_new ((w.alloc (.cells #[.int .i64 b] 3)).alloc (.cells (madeCells #[.int .i64 0] n) 3)) (.cells #[.slice (some ⟨w.heap.size+1,0,none⟩) n n] 23);exact(Ab _ _ _ (by simp)).trans (by simpa using this)
 have HY3:Hid (W.heap[p+1+1+1]? =some (.cells #[.slice sa n cap] 23 (0,0))):=by
  rw[hW,hp];have:=World.alloc_heap_new (((w.alloc (.cells #[.int .i64 b] 3)).alloc (.cells (madeCells #[.int .i64 0] n) 3)).alloc (.cells #[.slice (some ⟨w.heap.size+1,0,none⟩) n n] 23)) (.cells #[.slice sa n cap] 23)
  rwa [World.size_alloc,World.size_alloc,World.size_alloc]at this
 have HW:=AD (H.out.below (by omega) HBW.out);rw[<-hW,<-hp];have HAT':Hid (∀k,At sa n k->k<p):=by rw[hp];exact HAT
 have HP:=AD hp;clear hW hp HAT H hwI;have h0:Kg dt b p (p+1) W 0 W:=⟨by rw[U3,Bq];exact HY1.out,HY0.out,BS.refl _ _⟩
 have HC3:Hid (∀k A,Kg dt b p (p+1) W k A->A.cell? ⟨p+1+1+1,0,none⟩=some (.slice sa n cap)/\AO A sa n dt):=fun k A hA=>by obtain⟨_,_,hbut⟩:=hA;refine⟨?_,hbut.row HW.out (by rintro x(rfl|rfl)hx<;>have:=HAT'.out _ hx<;>omega)⟩;have h3:=(hbut.block (p+1+1+1) (by omega) (by omega)).trans HY3.out;simp[World.cell?,h3]
 refine It (gf:=333) (lb:= #[.pointer (some ⟨p+1+1+1,0,none⟩)]) rfl Tq (ar:=I2 n dt) (fun _=>rfl) (Of _ (p+1+1+1) sa n cap dt hsm) (Kg dt b p (p+1) W) HC3.out (fun k A l o o' h hl ho hc=>h.putObj (by omega) ho hc o') (fun o o'=>(h0.alloc o).alloc o') (fun k=> {tmps:= #[.int .i64 b,.slice sa n cap,.pointer (some ⟨p,0,none⟩),undef,.slice none 0 0,.pointer (some ⟨p+1+1,0,none⟩),.int .i64 ((n- 1- k:Nat):Int),.int .i64 (dt.getD (n- 1- k) 0),.slice sa n cap,.int .i64 (n:Nat),.slice (some ⟨p+1,0,none⟩) n n,.slice sa n cap,.func (.func 333) #[] #[.pointer (some ⟨p+1+1+1,0,none⟩)],.int .i64 ((n- 1- k:Nat):Int),.int .i64 (dt.getD (n- 1- k) 0),undef,undef,undef,undef,undef,undef,undef,undef,undef,undef,undef,undef,undef,undef,undef,undef],defers:= []}) ?assign ?body ?done;case assign=>
  intro l k A K hK;unfold I2
  gi_wp2
  exact hK
 case body=>
  rintro l k A hk⟨hB,hN,hbut⟩;clear h0 HC3;have hmx:prog.follows .mixedOrders=true:=by kernel_rfl
  obtain⟨j,hj⟩:∃j:Nat,j=n- 1- k:=⟨_,rfl⟩
  obtain⟨a,ha⟩:∃a,a=dt.getD j 0:=⟨_,rfl⟩
  obtain⟨x,hx⟩:∃x,x=Cm dt b k:=⟨_,rfl⟩
  obtain⟨d,hd⟩:∃d,d=Bk a x:=⟨_,rfl⟩
  have hjn:j<n:=by omega
  have hab:=HD.out j (by omega);rw[<-ha]at hab;have hxb:=Gx (fun q hq=>(HD.out q hq).1) HBD.out k (by omega);have hyb:=Gx (fun q hq=>(HD.out q hq).1) HBD.out (k+1) (by omega);have hst:=PU (dt:=dt) (b:=b) (k:=k) (by rw[Bq,<-hj,<-ha];exact hab.1);rw[Bq,<-hj,<-ha,<-hx,<-hd]at hst;rw[<-hx]at hxb;obtain⟨y,hy⟩:∃y,y=Cm dt b (k+1):=⟨_,rfl⟩
  rw[<-hy]at hst hyb;have hgs:(Ll dt b k).set j d=Ll dt b (k+1):=by have h1:=U4 dt b (k:=k) (by omega);rw[Nn (by omega),Bq,<-hj,<-ha,<-hx,<-hd]at h1;exact h1
  have hdb: -1000000000000000<=d/\d<=1000000000000000:=by
   rw[hd];by_cases h0:a=0
   .subst h0;simp[Bk];exact hxb
   .have h1:=M1 (x:=x) (a:=a) (by omega);unfold Bk;rw[AH h0];have h2:=Int.tmod_lt_of_pos x (show 0<a by omega);have h3: -a<x.tmod a:=Int.lt_tmod_of_pos x (by omega);split
    .rename_i h
     have h4:x.tmod a<0:=by
      by_cases h4:x.tmod a<0
      .exact h4
      .exfalso;apply h.2;rw[AK h4,AK (by omega)]
     omega
    .omega
  rw[<-hj,<-ha];rw[<-hx]at hN;have cN:A.cell? ⟨p,0,none⟩=some (.int .i64 x):=by simp[World.cell?,hN]
  have cP:A.cell? ⟨p+1+1,0,none⟩=some (.slice (some ⟨p+1,0,none⟩) n n):=by have h3:=(hbut.block (p+1+1) (by omega) (by omega)).trans HY2.out;simp[World.cell?,h3]
  have fG:=hB.free j;have hzA:p+1+1+1<A.heap.size:=by have:=hbut.size;omega
  have hBs:=hB.set j d;rw[hgs]at hBs;have hNs:(A.setCell ⟨p+1,j,none⟩ (.int .i64 d)).heap[p]? =some (.cells #[.int .i64 x] 3 (0,0)):=(Cg A _ p _ (by show p≠p+1;omega)).trans hN;have hbs:BS (fun x=>x=p+1\/x=p) A (A.setCell ⟨p+1,j,none⟩ (.int .i64 d)):=(BS.refl _ A).setCell (p:=⟨p+1,j,none⟩) (.inl rfl) _;have HA:Hid (BS (fun x=>x=p+1\/x=p) W A):=hbut;obtain⟨A1,hA1⟩:∃A1,A1=A.setCell ⟨p+1,j,none⟩ (.int .i64 d):=⟨_,rfl⟩
  rw[<-hA1]at hBs hNs hbs;have HB1:=AD hBs;have HN1:=AD hNs;have HA1:=AD hbs;have HRES:=AD (Hr a x A (by omega) (by omega));rw[<-hd]at HRES;have HST:=AD hst;have HGS:=AD hgs;have HX:=AD hx;have HY:=AD hy;have HDD:=AD hd;have HBB:=AD hB;have hwz:(Ll dt b k).length=n:=by rw[M2,Bq]
  have cG:=hB.cell (i:=j) (by rw[hwz];exact hjn);clear hst hgs hx hy hd hB hN hbut hBs hNs hbs ha hj hwz;have HC1:Hid (A1.cell? ⟨p+1,j,none⟩=some (.int .i64 d)/\A1.cell? ⟨p,0,none⟩=some (.int .i64 x)/\A1.frozen? ⟨p,0,none⟩=false/\A1.cell? ⟨p+1+1,0,none⟩=some (.slice (some ⟨p+1,0,none⟩) n n)):=by
   have hG1:=HB1.out.cell (i:=j) (by rw[M2,Bq];exact hjn);rw[<-HGS.out]at hG1;have h3:=(HA1.out.block (p+1+1) (by omega) (by omega)).trans ((HA.out.block (p+1+1) (by omega) (by omega)).trans HY2.out);refine⟨?_,?_,CB A1 p 0 _ _ HN1.out,?_⟩
   .rw[hG1];simp[List.getD,show j<(Ll dt b k).length from by rw[M2,Bq];exact hjn]
   .simp[World.cell?,HN1.out]
   .simp[World.cell?,h3]
  have HK:Hid (KeepsOthers A (A1.setCell ⟨p,0,none⟩ (.int .i64 y))):=by rw[hA1];exact(KeepsOthers.setCell _ _ _).trans (KeepsOthers.setCell _ _ _)
  have HX2:Hid (Kg dt b p (p+1) W (k+1) (A1.setCell ⟨p,0,none⟩ (.int .i64 y))):=by
   refine⟨HB1.out.other (p:=⟨p,0,none⟩) (by show p+1≠p;omega) _,?_,?_⟩
   .rw[<-HY.out,Bj A1 p 0 _ _ _ HN1.out];simp
   .exact((HA.out.trans HA1.out).mono (by rintro q(h|h)<;>exact h)).setCell (p:=⟨p,0,none⟩) (.inr rfl) _
  have HZA1:Hid (p+1+1+1<A1.heap.size):=AZ hzA HA1.out.size;have HE1:=AD hA1;clear hA1 HB1 HN1 HA1 HA HBB HRES HGS;obtain⟨mx,hm2⟩:∃mx,(if a<1 then 1 else a)=mx:=⟨_,rfl⟩
  have hq0:¬ mx=0:=by rw[<-hm2];split<;>omega
  obtain⟨u,hu⟩:∃u,u=x- d:=⟨_,rfl⟩
  have HUS:Hid (IntKind.i64.wrap (x- d)=u/\x- d=u/\u.tdiv mx=y∧-2000000000000000<=u/\u<=2000000000000000/\(if a<1 then 1 else a)=mx):=⟨by rw[IntKind.wrap_i64,hu];omega,hu.symm,by have h1:=HST.out;rw[hm2,<-hu]at h1;exact h1.symm,by omega,by omega,hm2⟩
  clear hu HST HY hm2
  gi_wp2_with fail
  gi_cut []from 15 (fun wx=>A1.drew=wx)
  case first=>
   rename_i J K' hRJ hMK
   gi_region_with_o (first|(refine⟨trivial,?_⟩;gi_at_call 246;refine(CallsIn.inRound l (callsIn_wide.2 (Hr a x _ (by omega) (by omega)))).mono ?_;rintro e wP⟨rfl,hwP⟩;obtain rfl:=hwP.symm;rw[<-HDD.out]))
   all_goals(refine hMK _ _ (Met.intro (hRJ _ _ ?_));(repeat apply Exists.intro);exact⟨by rw[HE1.out],rfl⟩)
  case rest=>
   subst hcut;clear cN cP fG cG hzA HE1;obtain⟨cG1,cN1,fN1,cP1⟩:=HC1.out;have hzA1:=HZA1.out;obtain⟨hus,hxd,hut,hu1,hu2,hm2⟩:=HUS.out;clear HC1 HZA1 HDD HUS
   gi_wp2_with fail
   refine YR _ A1.drew (by simp) p j n x d u a mx y rfl rfl rfl rfl hjn hus hm2 hq0 hut hyb cG1 cN1 fN1 cP1 (fun _ _ _ _ _ h=>h) (by rintro⟨_,_,h⟩;exact h) ?_;exact⟨(HK.out.trans ((KeepsOthers.drew _).trans (KeepsOthers.drew _))).from _,HX2.out.drew.drew⟩
 case done=>
  rintro D A hD⟨hB,hN,hbut⟩hK;have h3:=(hbut.block (p+1+1) (by omega) (by omega)).trans HY2.out;have cP:A.cell? ⟨p+1+1,0,none⟩=some (.slice (some ⟨p+1,0,none⟩) n n):=by simp[World.cell?,h3]
  have HBT:=AD hbut;have HB:=AD hB;clear hB hN hbut h3 h0
  gi_wp2
  refine⟨by simp,.inl ⟨_,_,rfl,run_takeDeferred hK,?_⟩⟩;refine⟨_,results_tmp rfl _ _ _,p+1,rfl,by rw[<-HP.out];omega,?_,?_⟩
  .rw[<-Xa,Bq];have hlB:=HB.out;have hne:p+1≠D:=by omega
   exact(World.putObj_heap_other hne).trans hlB
  .rw[<-HP.out];exact(HBW.out.trans (HBT.out.below (B:=p) (by omega) (by rintro x(rfl|rfl)<;>omega))).trans (C0 A (by omega) _)
def Pa(b:Int)(sa:Option Addr)(n cap:Nat)(dt:List Int)(w:World)(h:AO w sa n dt)(hd:∀k,k<dt.length->0<=dt.getD k 0/\dt.getD k 0<=1000000000000000)(hb: -1000000000000000<=b/\b<=1000000000000000):Calls prog 303 #[.int .i64 b,.slice sa n cap] w fun e w'=>∃gd,e=.returned (.slice (some ⟨gd,0,none⟩) n n)/\w.heap.size<=gd/\BA w' gd ((List.range dt.length).map (Cd dt b))/\Below w.heap.size w w':=callsIn_wide.1 (Q7 b sa n cap dt w h hd hb)
end
