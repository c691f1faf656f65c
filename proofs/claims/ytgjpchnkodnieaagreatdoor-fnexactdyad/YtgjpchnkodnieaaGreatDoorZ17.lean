import Derived.RangeFuncRecord
import Derived.Test.YtgjpchnkodnieaaGreatDoorZ15
set_option maxRecDepth 100000
set_option maxHeartbeats 8000000
set_option linter.defProp false
namespace Go.Proofs.YtgjpchnkodnieaaGreatDoor
open Go.RowKit Tryz
section
open Go.Shelf
def Kb(w:World)(em:Bool)(k:Int):(Instr.checkKey em 10000 3 (.int .i64 k)).run prog w=.ok () w:=MapKept.run_checkKey underlying3 (by simp[MapKept.IsKey]) em 9999
def Ms(w:World)(k:Int)(es:List MapEntry)(r:Option (Nat×Value))(hf:Instr.findNow (.int .i64) (.int .i64 k) es 0=some r):(Instr.findKey 3 (.int .i64 k) es).run prog w=.ok r w:=by unfold Instr.findKey;simp only[Sem.run_bind,run_underlying underlying3,Result.andThen,hf];rfl
def DH(T E:TypeId)(hT:prog.underlying T=some (.map 3 E))(w:World)(es:List MapEntry)(c:Nat)(k:Int)(v:Value)(hf:Instr.findNow (.int .i64) (.int .i64 k) es 0=some none):(Instr.mapUpdate T (.map (some w.heap.size)) (.int .i64 k) v).run prog (w.alloc (.map es.toArray c))=.ok () (w.alloc (.map (es++ [(⟨.int .i64 k,v,c⟩:MapEntry)]).toArray (c+1))):=by
 have hb:=World.alloc_heap_new w (.map es.toArray c);have e:(w.heap.push (Obj.map es.toArray c)).setIfInBounds w.heap.size (Obj.map (es++ [(⟨.int .i64 k,v,c⟩:MapEntry)]).toArray (c+1))=w.heap.push (Obj.map (es++ [(⟨.int .i64 k,v,c⟩:MapEntry)]).toArray (c+1)):=by apply Array.ext';simp
 unfold Instr.mapUpdate;simp only[Sem.run_bind,run_underlying hT,Result.andThen,MapKept.run_getObj_map hb,Kb,Ms _ _ _ _ hf];rw[show(es.toArray.push ({key:=Value.int IntKind.i64 k,val:=v,born:=c}:MapEntry))=(es++ [(⟨.int .i64 k,v,c⟩:MapEntry)]).toArray by simp];rw[MapKept.run_setObj_map _ hb];exact Gi (fun h=>Result.ok () ({w with heap:=h}:World)) e
def Wp(T E:TypeId)(hT:prog.underlying T=some (.map 3 E))(w:World)(p:Nat)(es:List MapEntry)(c i:Nat)(k:Int)(v:Value)(hb:w.heap[p]? =some (.map es.toArray c))(hf:Instr.findNow (.int .i64) (.int .i64 k) es 0=some (some (i,v))):(Instr.lookup T (.map (some p)) (.int .i64 k) true).run prog w=.ok (.tuple #[v,.bool true]) w:=by simp[Instr.lookup,run_underlying hT,MapKept.run_getObj_map hb,Kb,Ms _ _ _ _ hf,Result.andThen]
def Ub(T E:TypeId)(hT:prog.underlying T=some (.map 3 E))(w:World)(p:Nat)(es:List MapEntry)(c:Nat)(k:Int)(z:Value)(hz:(zeroValue E).run prog w=.ok z w)(hb:w.heap[p]? =some (.map es.toArray c))(hf:Instr.findNow (.int .i64) (.int .i64 k) es 0=some none):(Instr.lookup T (.map (some p)) (.int .i64 k) true).run prog w=.ok (.tuple #[z,.bool false]) w:=by simp[Instr.lookup,run_underlying hT,MapKept.run_getObj_map hb,Kb,Ms _ _ _ _ hf,hz,Result.andThen]
def Wo(T:TypeId)(w:World):(Instr.makeMap T none).run prog w=.ok (.map (some w.heap.size)) (w.alloc (.map #[] 0)):=by simp[Instr.makeMap,Result.andThen]
end
section
open Go.Shelf
def XU(op:Int):List MapEntry:= [⟨.int .i64 18,.func (.func 203) #[.int .i64 op] #[],0⟩,⟨.int .i64 19,.func (.func 204) #[.int .i64 op] #[],1⟩,⟨.int .i64 20,.func (.func 205) #[.int .i64 op] #[],2⟩,⟨.int .i64 21,.func (.func 206) #[.int .i64 op] #[],3⟩,⟨.int .i64 22,.func (.func 206) #[.int .i64 op] #[],4⟩,⟨.int .i64 23,.func (.func 207) #[.int .i64 op] #[],5⟩,⟨.int .i64 24,.func (.func 208) #[.int .i64 op] #[],6⟩,⟨.int .i64 25,.func (.func 209) #[.int .i64 op] #[],7⟩,⟨.int .i64 28,.func (.func 210) #[.int .i64 op] #[],8⟩,⟨.int .i64 29,.func (.func 211) #[.int .i64 op] #[],9⟩,⟨.int .i64 30,.func (.func 211) #[.int .i64 op] #[],10⟩,⟨.int .i64 31,.func (.func 212) #[.int .i64 op] #[],11⟩,⟨.int .i64 32,.func (.func 213) #[.int .i64 op] #[],12⟩]
def PY(op:Int)(k:Nat):List MapEntry:=XU op++(List.range k).map fun i=>⟨.int .i64 ((i:Int)+1),.func (.func 214) #[.int .i64 op] #[],13+i⟩
def OX(k:Int):∀(es:List MapEntry)(i:Nat),(∀e∈es,∃j,e.key=.int .i64 j/\j≠k)->Instr.findNow (.int .i64) (.int .i64 k) es i=some none
 | [],_,_=>rfl
 |e::es,i,h=>by
  obtain⟨j,hj,hne⟩:=h e (by simp);have ih:=OX k es (i+1) (fun x hx=>h x (by simp[hx]));unfold Instr.findNow;rw[hj];have:Instr.sameNow (.int .i64) (.int .i64 k) (.int .i64 j)=some false:=by simp[Instr.sameNow];exact fun e=>hne e.symm
  rw[this];exact ih
def XW(op:Int)(k:Nat)(hk:k<16):Instr.findNow (.int .i64) (.int .i64 ((k:Int)+1)) (PY op k) 0=some none:=by
 apply OX;intro e he;unfold PY XU at he;rcases List.mem_append.1 he with h|h
 .simp only[List.mem_cons,List.not_mem_nil,or_false]at h;rcases h with rfl|rfl|rfl|rfl|rfl|rfl|rfl|rfl|rfl|rfl|rfl|rfl|rfl;all_goals exact⟨_,rfl,by omega⟩
 .obtain⟨i,hi,rfl⟩:=List.mem_map.1 h;have:=List.mem_range.1 hi;exact⟨_,rfl,by omega⟩
def XV(op:Int)(k:Nat):PY op k++ [(⟨.int .i64 ((k:Int)+1),.func (.func 214) #[.int .i64 op] #[],13+k⟩:MapEntry)]=PY op (k+1):=by unfold PY;rw[List.range_succ,Bf,<-CY];rfl
def Oa(op:Int)(w:World):Calls prog 133 #[.int .i64 op] w fun e w'=>e=.returned (.map (some w.heap.size))/\w'=w.alloc (.map (PY op 16).toArray 29):=by
 have i0:=DH 154 _ underlying154 w [] 0 18 (.func (.func 203) #[.int .i64 op] #[]) (by rfl);simp only[A8,Nat.reduceAdd]at i0;have i1:=DH 154 _ underlying154 w [⟨.int .i64 18,.func (.func 203) #[.int .i64 op] #[],0⟩] 1 19 (.func (.func 204) #[.int .i64 op] #[]) (by rfl);simp only[Ax,A8,Nat.reduceAdd]at i1;have i2:=DH 154 _ underlying154 w [⟨.int .i64 18,.func (.func 203) #[.int .i64 op] #[],0⟩,⟨.int .i64 19,.func (.func 204) #[.int .i64 op] #[],1⟩] 2 20 (.func (.func 205) #[.int .i64 op] #[]) (by rfl);simp only[Ax,A8,Nat.reduceAdd]at i2;have i3:=DH 154 _ underlying154 w [⟨.int .i64 18,.func (.func 203) #[.int .i64 op] #[],0⟩,⟨.int .i64 19,.func (.func 204) #[.int .i64 op] #[],1⟩,⟨.int .i64 20,.func (.func 205) #[.int .i64 op] #[],2⟩] 3 21 (.func (.func 206) #[.int .i64 op] #[]) (by rfl);simp only[Ax,A8,Nat.reduceAdd]at i3;have i4:=DH 154 _ underlying154 w [⟨.int .i64 18,.func (.func 203) #[.int .i64 op] #[],0⟩,⟨.int .i64 19,.func (.func 204) #[.int .i64 op] #[],1⟩,⟨.int .i64 20,.func (.func 205) #[.int .i64 op] #[],2⟩,⟨.int .i64 21,.func (.func 206) #[.int .i64 op] #[],3⟩] 4 22 (.func (.func 206) #[.int .i64 op] #[]) (by rfl);simp only[Ax,A8,Nat.reduceAdd]at i4;have i5:=DH 154 _ underlying154 w [⟨.int .i64 18,.func (.func 203) #[.int .i64 op] #[],0⟩,⟨.int .i64 19,.func (.func 204) #[.int .i64 op] #[],1⟩,⟨.int .i64 20,.func (.func 205) #[.int .i64 op] #[],2⟩,⟨.int .i64 21,.func (.func 206) #[.int .i64 op] #[],3⟩,⟨.int .i64 22,.func (.func 206) #[.int .i64 op] #[],4⟩] 5 23 (.func (.func 207) #[.int .i64 op] #[]) (by rfl);simp only[Ax,A8,Nat.reduceAdd]at i5;have i6:=DH 154 _ underlying154 w [⟨.int .i64 18,.func (.func 203) #[.int .i64 op] #[],0⟩,⟨.int .i64 19,.func (.func 204) #[.int .i64 op] #[],1⟩,⟨.int .i64 20,.func (.func 205) #[.int .i64 op] #[],2⟩,⟨.int .i64 21,.func (.func 206) #[.int .i64 op] #[],3⟩,⟨.int .i64 22,.func (.func 206) #[.int .i64 op] #[],4⟩,⟨.int .i64 23,.func (.func 207) #[.int .i64 op] #[],5⟩] 6 24 (.func (.func 208) #[.int .i64 op] #[]) (by rfl);simp only[Ax,A8,Nat.reduceAdd]at i6;have i7:=DH 154 _ underlying154 w [⟨.int .i64 18,.func (.func 203) #[.int .i64 op] #[],0⟩,⟨.int .i64 19,.func (.func 204) #[.int .i64 op] #[],1⟩,⟨.int .i64 20,.func (.func 205) #[.int .i64 op] #[],2⟩,⟨.int .i64 21,.func (.func 206) #[.int .i64 op] #[],3⟩,⟨.int .i64 22,.func (.func 206) #[.int .i64 op] #[],4⟩,⟨.int .i64 23,.func (.func 207) #[.int .i64 op] #[],5⟩,⟨.int .i64 24,.func (.func 208) #[.int .i64 op] #[],6⟩] 7 25 (.func (.func 209) #[.int .i64 op] #[]) (by rfl);simp only[Ax,A8,Nat.reduceAdd]at i7;have i8:=DH 154 _ underlying154 w [⟨.int .i64 18,.func (.func 203) #[.int .i64 op] #[],0⟩,⟨.int .i64 19,.func (.func 204) #[.int .i64 op] #[],1⟩,⟨.int .i64 20,.func (.func 205) #[.int .i64 op] #[],2⟩,⟨.int .i64 21,.func (.func 206) #[.int .i64 op] #[],3⟩,⟨.int .i64 22,.func (.func 206) #[.int .i64 op] #[],4⟩,⟨.int .i64 23,.func (.func 207) #[.int .i64 op] #[],5⟩,⟨.int .i64 24,.func (.func 208) #[.int .i64 op] #[],6⟩,⟨.int .i64 25,.func (.func 209) #[.int .i64 op] #[],7⟩] 8 28 (.func (.func 210) #[.int .i64 op] #[]) (by rfl);simp only[Ax,A8,Nat.reduceAdd]at i8;have i9:=DH 154 _ underlying154 w [⟨.int .i64 18,.func (.func 203) #[.int .i64 op] #[],0⟩,⟨.int .i64 19,.func (.func 204) #[.int .i64 op] #[],1⟩,⟨.int .i64 20,.func (.func 205) #[.int .i64 op] #[],2⟩,⟨.int .i64 21,.func (.func 206) #[.int .i64 op] #[],3⟩,⟨.int .i64 22,.func (.func 206) #[.int .i64 op] #[],4⟩,⟨.int .i64 23,.func (.func 207) #[.int .i64 op] #[],5⟩,⟨.int .i64 24,.func (.func 208) #[.int .i64 op] #[],6⟩,⟨.int .i64 25,.func (.func 209) #[.int .i64 op] #[],7⟩,⟨.int .i64 28,.func (.func 210) #[.int .i64 op] #[],8⟩] 9 29 (.func (.func 211) #[.int .i64 op] #[]) (by rfl);simp only[Ax,A8,Nat.reduceAdd]at i9;have i10:=DH 154 _ underlying154 w [⟨.int .i64 18,.func (.func 203) #[.int .i64 op] #[],0⟩,⟨.int .i64 19,.func (.func 204) #[.int .i64 op] #[],1⟩,⟨.int .i64 20,.func (.func 205) #[.int .i64 op] #[],2⟩,⟨.int .i64 21,.func (.func 206) #[.int .i64 op] #[],3⟩,⟨.int .i64 22,.func (.func 206) #[.int .i64 op] #[],4⟩,⟨.int .i64 23,.func (.func 207) #[.int .i64 op] #[],5⟩,⟨.int .i64 24,.func (.func 208) #[.int .i64 op] #[],6⟩,⟨.int .i64 25,.func (.func 209) #[.int .i64 op] #[],7⟩,⟨.int .i64 28,.func (.func 210) #[.int .i64 op] #[],8⟩,⟨.int .i64 29,.func (.func 211) #[.int .i64 op] #[],9⟩] 10 30 (.func (.func 211) #[.int .i64 op] #[]) (by rfl);simp only[Ax,A8,Nat.reduceAdd]at i10;have i11:=DH 154 _ underlying154 w [⟨.int .i64 18,.func (.func 203) #[.int .i64 op] #[],0⟩,⟨.int .i64 19,.func (.func 204) #[.int .i64 op] #[],1⟩,⟨.int .i64 20,.func (.func 205) #[.int .i64 op] #[],2⟩,⟨.int .i64 21,.func (.func 206) #[.int .i64 op] #[],3⟩,⟨.int .i64 22,.func (.func 206) #[.int .i64 op] #[],4⟩,⟨.int .i64 23,.func (.func 207) #[.int .i64 op] #[],5⟩,⟨.int .i64 24,.func (.func 208) #[.int .i64 op] #[],6⟩,⟨.int .i64 25,.func (.func 209) #[.int .i64 op] #[],7⟩,⟨.int .i64 28,.func (.func 210) #[.int .i64 op] #[],8⟩,⟨.int .i64 29,.func (.func 211) #[.int .i64 op] #[],9⟩,⟨.int .i64 30,.func (.func 211) #[.int .i64 op] #[],10⟩] 11 31 (.func (.func 212) #[.int .i64 op] #[]) (by rfl);simp only[Ax,A8,Nat.reduceAdd]at i11;have i12:=DH 154 _ underlying154 w [⟨.int .i64 18,.func (.func 203) #[.int .i64 op] #[],0⟩,⟨.int .i64 19,.func (.func 204) #[.int .i64 op] #[],1⟩,⟨.int .i64 20,.func (.func 205) #[.int .i64 op] #[],2⟩,⟨.int .i64 21,.func (.func 206) #[.int .i64 op] #[],3⟩,⟨.int .i64 22,.func (.func 206) #[.int .i64 op] #[],4⟩,⟨.int .i64 23,.func (.func 207) #[.int .i64 op] #[],5⟩,⟨.int .i64 24,.func (.func 208) #[.int .i64 op] #[],6⟩,⟨.int .i64 25,.func (.func 209) #[.int .i64 op] #[],7⟩,⟨.int .i64 28,.func (.func 210) #[.int .i64 op] #[],8⟩,⟨.int .i64 29,.func (.func 211) #[.int .i64 op] #[],9⟩,⟨.int .i64 30,.func (.func 211) #[.int .i64 op] #[],10⟩,⟨.int .i64 31,.func (.func 212) #[.int .i64 op] #[],11⟩] 12 32 (.func (.func 213) #[.int .i64 op] #[]) (by rfl);simp only[Ax,A8,Nat.reduceAdd]at i12;have hmm:=Wo 154 w;go_enter func133,ntmps133;go_wp2_with fail;clear hmm i0 i1 i2 i3 i4 i5 i6 i7 i8 i9 i10 i11 i12;go_loopw[4] (fun v wr=>∃k:Nat,k<=16/\v=.int .i64 ((k:Int)+1)/\wr=w.alloc (.map (PY op k).toArray (13+k))) (fun v _=>17- (intOf v).toNat);case atStart=>exact⟨0,by omega,rfl,by first|rfl|simp[PY,XU]⟩
 case round=>
  obtain⟨k,hk,rfl,hwr⟩:=hrel;by_cases hlt:k<16
  .have hin:=DH 154 _ underlying154 w (PY op k) (13+k) ((k:Int)+1) (.func (.func 214) #[.int .i64 op] #[]) (XW op k hlt);rw[XV,<-hwr]at hin;have g0:decide ((k:Int)+1<=16)=true:=by simp;omega
   obtain⟨w2,hw2⟩:∃x,x=w.alloc (.map (PY op (k+1)).toArray (13+k+1)):=⟨_,rfl⟩
   rw[<-hw2]at hin;clear hwr;go_wp2_with fail;refine⟨⟨k+1,by omega,by go_num,by first|exact hw2|rfl|rw[FK]|(rw[hw2,FK])⟩,?_⟩;simp[intOf];omega
  .have hk16:k=16:=by omega
   subst hk16;go_wp2_with fail;go_ret;exact⟨rfl,by first|exact hwr|rfl⟩
end
section
open Go.Shelf
def Pl(b n:Int)(w:World)(hn:0<n/\n<=10000):Calls prog 66 #[.int .i64 b,.int .i64 n] w fun e w'=>e=.returned (.int .i64 (b % n))/\w'=w:=by
 have HE:=AD (T3 hn.1 b);have h1:=Int.tmod_lt_of_pos b hn.1;have h2: -n<b.tmod n:=Int.lt_tmod_of_pos b hn.1;obtain⟨m,hm⟩:∃m,b.tmod n=m:=⟨_,rfl⟩
 rw[hm]at HE h1 h2;obtain⟨r,hr⟩:∃r,(m+n).tmod n=r:=⟨_,rfl⟩
 have h3:=Int.tmod_lt_of_pos (m+n) hn.1;have h4: -n<(m+n).tmod n:=Int.lt_tmod_of_pos (m+n) hn.1;rw[hr]at HE h3 h4;have q0:(n==0)=false:=by simp;omega
 have w1:IntKind.i64.wrap m=m:=by rw[IntKind.wrap_i64];omega
 have w2:IntKind.i64.wrap (m+n)=m+n:=by rw[IntKind.wrap_i64];omega
 have w3:IntKind.i64.wrap r=r:=by rw[IntKind.wrap_i64];omega
 have hnz:¬ n=0:=by omega
 go_enter func66,ntmps66
 go_wp2
 go_ret;exact⟨BM HE.out,rfl⟩
def aN:∀args w,(callFunc 65 args).run prog w=.ok (.enter 65 args) w:=enters_of func65 (by kernel_rfl) rfl
def R5(a:Int)(v:Value)(w:World)(g:Nat)(lb:Array Value)(hv:v=.func (.func g) #[] lb):Calls prog 64 #[.int .i64 a,v] w fun e w'=>e=.returned (.func (.func 152) #[] #[.pointer (some ⟨w.heap.size,0,none⟩),.pointer (some ⟨w.heap.size+1,0,none⟩)])/\w'=(w.alloc (.cells #[.int .i64 a] 3)).alloc (.cells #[v] 92):=by
 subst hv;go_enter func64,ntmps64
 go_wp2
 go_ret;exact⟨rfl,rfl⟩
def S8(a:Option Addr)(n cap:Nat)(fl:Bool)(w:World)(hs:n<=10000)(z:Int)(hz:Hid ((if fl then 0 else(n:Int)- 1)=z)):Calls prog 62 #[.slice a n cap,.bool fl] w fun e w'=>e=.returned (.int .i64 z)/\w'=w:=by
 cases fl with
 |true=>
  have e:z=0:=by have:=AA hz;simp at this;omega
  subst e;clear hz;go_enter func62,ntmps62
  go_wp2
  go_ret;exact⟨rfl,rfl⟩
 |false=>
  have e:(n:Int)- 1=z:=by have:=AA hz;simpa using this
  have h1:IntKind.i64.wrap ((n:Int)- 1)=z:=by rw[IntKind.wrap_i64];omega
  clear hz;go_enter func62,ntmps62
  go_wp2
  go_ret;exact⟨by first|rfl|rw[e],rfl⟩
def Lx(w:World)(u v:Value):((w.alloc (.cells #[u] 3)).alloc (.cells #[v] 92)).cell? ⟨w.heap.size,0,none⟩=some u/\((w.alloc (.cells #[u] 3)).alloc (.cells #[v] 92)).cell? ⟨w.heap.size+1,0,none⟩=some v:=by have h1:(w.alloc (.cells #[u] 3)).heap[w.heap.size]? =some (.cells #[u] 3 (0,0)):=World.alloc_heap_new w _;have h2:=World.alloc_heap_new (w.alloc (.cells #[u] 3)) (.cells #[v] 92);rw[World.size_alloc]at h2;have h3:=Ab (w.alloc (.cells #[u] 3)) (.cells #[v] 92) w.heap.size (by simp);rw[h1]at h3;exact⟨by simp[World.cell?,h3],by simp only[World.cell?];rw[h2];rfl⟩
def Vl(pt pk pa a:Nat)(v x s:Int)(ck ca:Bool)(vk va:Value)(kd b1:Option Addr)(dk m1 d1:Nat)(sh kk:List Int)(W:World)(ht:W.cell? ⟨pt,0,none⟩=some (.int .i64 (a:Nat)))(hpk:Ai W pk ck vk (.slice kd 1 dk))(hpa:Ai W pa ca (.slice b1 m1 d1) va)(hk:AO W kd 1 kk)(hx:kk.getD 0 0=x)(hxb: -1000000000000000<=x/\x<=1000000000000000)(hr:AO W b1 m1 sh)(ham:a<m1)(hs:sh.getD a 0=s)(hv:0<=v/\v<s)(hsb:s<=10000):Calls prog 65 #[.int .i64 v,.pointer (some ⟨pk,0,none⟩),.pointer (some ⟨pa,0,none⟩),.pointer (some ⟨pt,0,none⟩)] W fun e w'=>e=.returned (.int .i64 ((v+x) % s))/\∃q,w'=W.drewN q:=by
 obtain⟨k0,k1,k2,_,_,_⟩:=hpk.all;obtain⟨a0,a1,a2,_,_,_⟩:=hpa.all;obtain⟨bk,ok,rfl,_,ck0⟩:=hk.get (show 0<1 by omega);obtain⟨bs,os,rfl,_,cs⟩:=hr.get ham;rw[hx]at ck0;rw[hs]at cs;simp only[G7]at ck0;have hw1:IntKind.i64.wrap (v+x)=v+x:=by rw[IntKind.wrap_i64];omega
 have hamz:(a:Int)<(m1:Int):=by omega
 clear hpk hpa hk hr hx hs k0 k1 a0 a2;go_enter func65,ntmps65;go_wp2_with fail;go_quiet((go_at_call 66;exact Calls.quiet_of_same (Pl _ _ _ (by omega))));go_wp2_with fail;go_ret;exact⟨rfl,_,rfl⟩
def ZU(pa' pf pt pk pa:Nat)(z x:Int)(ck ca:Bool)(vk va:Value)(kd b1:Option Addr)(dk m1 d1:Nat)(sh kk:List Int)(w:World)(h1:w.cell? ⟨pa',0,none⟩=some (.int .i64 z))(h2:w.cell? ⟨pf,0,none⟩=some (.func (.func 65) #[] #[.pointer (some ⟨pk,0,none⟩),.pointer (some ⟨pa,0,none⟩),.pointer (some ⟨pt,0,none⟩)]))(ht:w.cell? ⟨pt,0,none⟩=some (.int .i64 z))(hz:0<m1->0<=z/\z<m1)(hpk:Ai w pk ck vk (.slice kd 1 dk))(hpa:Ai w pa ca (.slice b1 m1 d1) va)(hk:AO w kd 1 kk)(hx:kk.getD 0 0=x)(hxb: -1000000000000000<=x/\x<=1000000000000000)(hr:AO w b1 m1 sh)(hs:Aq sh):Fz 152 #[.pointer (some ⟨pa',0,none⟩),.pointer (some ⟨pf,0,none⟩)] (KD sh z x) sh m1 w:=by
 have hl:=hr.len;by_cases hm:0<m1
 .obtain⟨hz0,hz1⟩:=hz hm;obtain⟨a,rfl⟩:∃a:Nat,z=a:=⟨z.toNat,by omega⟩
  have hc:=Ty sh m1 pa' pf a 65 #[.pointer (some ⟨pk,0,none⟩),.pointer (some ⟨pa,0,none⟩),.pointer (some ⟨pt,0,none⟩)] aN (fun v=>(v+x) % sh.getD a 0) w (by omega) (by omega) h1 h2 (fun v hv0 hv1 W hW=>Vl pt pk pa a v x _ ck ca vk va kd b1 dk m1 d1 sh kk W ((hW.cell (p:=⟨pt,0,none⟩) (AU _ _ ht)).trans ht) (hpk.below AC hW) (hpa.below AC hW) (hk.below AC hW) hx hxb (hr.below AC hW) (by omega) rfl ⟨hv0,hv1⟩ (hs.cell a).2);intro D hD hDl k hkk ib W hW hB;have:=hc D hD hDl k hkk ib W hW hB;have e:RP a (fun v=>(v+x) % sh.getD a 0) D k=KD sh (a:Int) x D k:=by
   unfold RP KD;by_cases h:k=a
   .subst h;rw[AI rfl,AI rfl]
   .rw[AH h,AH (by omega)]
  rwa [e]at this
 .intro D _ _ k hkk;omega
end
