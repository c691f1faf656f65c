import Derived.Test.YtgjpchnkodnieaaGreatDoorZ14
import Derived.Test.YtgjpchnkodnieaaGreatDoorZ29
import Derived.Test.YtgjpchnkodnieaaGreatDoorZ34
set_option maxRecDepth 20000
set_option maxHeartbeats 4000000
set_option linter.defProp false
namespace Go.Proofs.YtgjpchnkodnieaaGreatDoor
open Go.RowKit Tryz
section
open Go.Shelf
def Dd(c:Bool)(a1 a2:Option Addr)(n1 n2 c1 c2 cnt:Nat)(hn:n2<=17592186044416)(w:World):Calls prog 292 #[.agg #[.bool c,.slice a1 n1 c1,.slice a2 n2 c2],.int .i64 (cnt:Nat)] w fun e w'=>e=.returned (.agg #[.slice a2 n2 c2,.int .i64 (0:Nat),.int .i64 ((if n2=1 then 0 else 1:Nat):Int),.int .i64 (cnt:Nat)])/\Below w.heap.size w w':=by
 by_cases h:n2=1
 .subst h;rw[AI rfl];go_enter func292,ntmps292
  go_wp2
  refine bodyPost_ret (v:=.agg #[.slice a2 1 c2,.int .i64 (0:Nat),.int .i64 ((0:Nat):Int),.int .i64 (cnt:Nat)]) (by simp[results,results292,go_sem]) rfl ?_;exact⟨rfl,(AG.alloc AC _).alloc (by simp) _⟩
 .rw[AH h];have q1:((n2:Int)==1)=false:=by simp;omega
  clear h;go_enter func292,ntmps292
  go_wp2
  refine bodyPost_ret (v:=.agg #[.slice a2 n2 c2,.int .i64 (0:Nat),.int .i64 ((1:Nat):Int),.int .i64 (cnt:Nat)]) (by simp[results,results292,go_sem]) rfl ?_;exact⟨rfl,(AG.alloc AC _).alloc (by simp) _⟩
end
section
open Go.Shelf
def MQ(x y:Int):Int:=if x≠0 then x else y
def O6(x y:Int)(g:Nat)(w:World)(h0:w.cell? ⟨g,0,none⟩=some (.int .i64 x))(h1:w.cell? ⟨g,1,none⟩=some (.int .i64 y)):Calls prog 300 #[.slice (some ⟨g,0,none⟩) 2 2] w fun e w'=>e=.returned (.int .i64 (MQ x y))/\w'=w:=by
 by_cases hx:x=0
 .subst hx;by_cases hy:y=0
  .subst hy;go_enter func300,ntmps300
   go_wp2
   refine wp_loop_rounds 3 ?_;rw[rounds_succ]
   go_wp2
   rw[rounds_succ]
   go_wp2
   rw[rounds_succ]
   go_wp2
   go_ret;exact⟨rfl,rfl⟩
  .have q:(y !=0)=true:=by simp[hy]
   have HE:Hid (MQ 0 y=y):=by show _=_;simp[MQ]
   clear hy;go_enter func300,ntmps300
   go_wp2
   refine wp_loop_rounds 2 ?_;rw[rounds_succ]
   go_wp2
   rw[rounds_succ]
   go_wp2
   go_ret;exact⟨by rw[AA HE];rfl,rfl⟩
 .have q:(x !=0)=true:=by simp[hx]
  have HE:Hid (MQ x y=x):=by show _=_;simp[MQ,hx]
  clear hx;go_enter func300,ntmps300
  go_wp2
  refine wp_loop_rounds 1 ?_;rw[rounds_succ]
  go_wp2
  go_ret;exact⟨by rw[AA HE];rfl,rfl⟩
def Xb{dt dt':List Int}{n2 m2 k:Nat}{v:Int}(h:Bw dt dt' n2 m2 k=some v):((∃r,BQ 3 v (dt.getD (k % n2) 0)=(r,0)∧-1000000000000000<=r/\r<=1000000000000000/\((BH (r+dt'.getD (k % m2) 0,true)=(r+dt'.getD (k % m2) 0,0)/\Bw dt dt' n2 m2 (k+1)=some (r+dt'.getD (k % m2) 0)/\Dv (r+dt'.getD (k % m2) 0)=true)\/(BH (r+dt'.getD (k % m2) 0,true)=(0,7)/\Bw dt dt' n2 m2 (k+1)=none)))\/(BQ 3 v (dt.getD (k % n2) 0)=(0,7)/\Bw dt dt' n2 m2 (k+1)=none)):=by
 obtain⟨r1,r2,hr⟩:∃r1 r2,Bo v (dt.getD (k % n2) 0)=(r1,r2):=⟨_,_,rfl⟩
 have hs:=RB h hr;have hb:=Pt hr;have e3:BQ 3 v (dt.getD (k % n2) 0)=BH (Bo v (dt.getD (k % n2) 0)):=rfl;rw[hs,e3,hr];cases r2 with
 |false=>exact .inr ⟨by unfold BH;simp,by simp⟩
 |true=>
  refine .inl ⟨r1,?_,hb.1,hb.2,?_⟩
  .unfold BH;rw[AI ⟨rfl,Ea hb.1 hb.2⟩]
  .cases hm:Dv (r1+dt'.getD (k % m2) 0)with
   |true=>exact .inl ⟨by unfold BH;rw[AI ⟨rfl,hm⟩],by simp,rfl⟩
   |false=>exact .inr ⟨by unfold BH;rw[AH (fun hh=>by have h2:Dv (r1+dt'.getD (k % m2) 0)=true:=hh.2;rw[hm]at h2;cases h2)],by simp⟩
def aU{dt dt':List Int}{n2 m2:Nat}:∀ {k:Nat}{v:Int},Bw dt dt' n2 m2 k=some v->Dv v=true
 |0,v,h=>by cases h;rfl
 |k+1,v,h=>by
  rw[Bw]at h;cases hd:Bw dt dt' n2 m2 k with
  |none=>rw[hd]at h;cases h
  |some u=>
   rw[hd]at h;dsimp only at h;split at h
   .rename_i hc;cases h;exact hc.2
   .cases h
def M7(r:Option Int):Int×Int:=match r with|some v=>(v,0)|none=>(0,7)
def Q8(ga gb:Addr)(a2 b2:Option Addr)(n2 m2 c2 d2 z s1 s2 m:Nat)(dt dt':List Int)(w:World)(h2:AO w a2 n2 dt)(k2:AO w b2 m2 dt')(hG:VK w ga gb)(hm:m<=10000)(ht:∀k,k<m->z+k*s1<n2/\dt.getD (z+k*s1) 0=dt.getD (k % n2) 0)(ht':∀k,k<m->z+k*s2<m2/\dt'.getD (z+k*s2) 0=dt'.getD (k % m2) 0)(hb:∀k,-1000000000000000<=dt.getD k 0/\dt.getD k 0<=1000000000000000)(hb':∀k,-1000000000000000<=dt'.getD k 0/\dt'.getD k 0<=1000000000000000):Calls prog 302 #[.agg #[.slice a2 n2 c2,.int .i64 (z:Nat),.int .i64 (s1:Nat),.int .i64 (m:Nat)],.agg #[.slice b2 m2 d2,.int .i64 (z:Nat),.int .i64 (s2:Nat),.int .i64 (m:Nat)]] w fun e w'=>e=.returned (.tuple #[.int .i64 (M7 (Bw dt dt' n2 m2 m)).1,E3 ga gb (M7 (Bw dt dt' n2 m2 m)).2])/\Below w.heap.size w w':=by
 have H2:=AD h2;have K2:=AD k2;have HG:=AD hG;have HT:=AD ht;have HT':=AD ht';have HBD:=AD hb;have HBD':=AD hb';clear h2 k2 hG ht ht' hb hb';obtain⟨W,hW⟩:∃W,W=(w.alloc (.cells #[.slice a2 n2 c2,.int .i64 (z:Nat),.int .i64 (s1:Nat),.int .i64 (m:Nat)] 145)).alloc (.cells #[.slice b2 m2 d2,.int .i64 (z:Nat),.int .i64 (s2:Nat),.int .i64 (m:Nat)] 145):=⟨_,rfl⟩
 have HX:Hid (Dt W w.heap.size a2 n2 c2 z s1 m):=by rw[hW];exact(Dt.new w _ _ _ _ _ _).alloc _
 have HY:Hid (Dt W (w.heap.size+1) b2 m2 d2 z s2 m):=by rw[hW];have:=Dt.new (w.alloc (.cells #[.slice a2 n2 c2,.int .i64 (z:Nat),.int .i64 (s1:Nat),.int .i64 (m:Nat)] 145)) b2 m2 d2 z s2 m;exact AD (by simpa using this)
 have HB0:Hid (Below w.heap.size w W):=by rw[hW];exact((AN _ w).alloc AC _).alloc (by simp) _
 go_enter func302,ntmps302;go_wp2_with fail;rw[<-hW];clear hW;obtain⟨z0,z1,z2,z3⟩:=(AA HX).cells;go_wp2_with fail;clear z0 z1 z2 z3;go_loopw[6,12] (fun v i wr=>∃(k:Nat)(x:Int),k<=m/\i=.int .i64 (k:Nat)/\v=.int .i64 x/\Hid (Bw dt dt' n2 m2 k=some x)/\Hid (Below W.heap.size W wr)) (fun _ i _=>m- (intOf i).toNat);case atStart=>exact⟨0,0,AS _,rfl,rfl,rfl,AD AG⟩
 case round=>
  obtain⟨k,x,hk,rfl,rfl,hst,hbr⟩:=hrel;have hBw:=AD ((AA HB0).trans ((AA hbr).mono (AA HB0).size));by_cases hlt:k<m
  .obtain⟨x0,x1,x2,x3⟩:=((AA HX).below AC (AA hbr)).cells;obtain⟨y0,y1,y2,y3⟩:=((AA HY).below AC (AA hbr)).cells;obtain⟨t1,t2⟩:=AA HT k hlt;obtain⟨u1,u2⟩:=AA HT' k hlt;have hxl:=((AA HX).below AC (AA hbr)).lt;have hyl:=((AA HY).below AC (AA hbr)).lt;have hkz:(k:Int)<(m:Int):=by omega
   have hxin:=IB (aU (AA hst));have hcall:=fun V(hV:Below wr.heap.size wr V)=>IM a2 n2 c2 z s1 m k dt V ((AA H2).below AC ((AA hBw).trans (hV.mono (AA hBw).size))) t1;have hcall':=fun V(hV:Below wr.heap.size wr V)=>IM b2 m2 d2 z s2 m k dt' V ((AA K2).below AC ((AA hBw).trans (hV.mono (AA hBw).size))) u1;have hmul:=fun V(hV:Below wr.heap.size wr V)=>Zk x (dt.getD (k % n2) 0) ga gb V ((AA HG).below ((AA hBw).trans (hV.mono (AA hBw).size))) hxin (AA HBD _);have hlim:=fun V(hV:Below wr.heap.size wr V)(y:Int)=>PE y ga gb V ((AA HG).below ((AA hBw).trans (hV.mono (AA hBw).size)));have hbk':=AA HBD' (k % m2);have hnx:=Xb (AA hst);rw[t2]at hcall;rw[u2]at hcall';obtain⟨B,hB⟩:∃B,dt.getD (k % n2) 0=B:=⟨_,rfl⟩
   obtain⟨D,hD⟩:∃D,dt'.getD (k % m2) 0=D:=⟨_,rfl⟩
   rw[hB]at hcall hmul hnx;rw[hD]at hcall' hbk' hnx;have HC:=AD hcall;have HC':=AD hcall';have HM:=AD hmul;have HL:=AD hlim;clear hcall hcall' hmul hlim t1 t2 u1 u2 hB hD;rcases hnx with⟨r,h3,hr1,hr2,hnx⟩|⟨h3,hnone⟩
   .have hw1:IntKind.i64.wrap (r+D)=r+D:=by rw[IntKind.wrap_i64];omega
    have H3:=AD h3;rcases hnx with⟨hlm,hsome,_⟩|⟨hlm,hnone⟩
    .have HLM:=AD hlm;have HSM:=AD hsome;clear h3 hlm hsome;go_wp2_with(first
      |(go_at_call_of 192 (Value.slice a2 n2 c2);refine(AA HC wr AG).mono ?_;rintro e w3⟨rfl,hb3⟩;have hy3:=((AA HY).below AC ((AA hbr).trans (hb3.mono (AA hbr).size))).cells;obtain⟨y0,y1,y2,y3⟩:=hy3;have HB3:=AD hb3;clear hb3)
      |(go_at_call 241;refine(AA HM _ (AA HB3)).mono ?_;rw[AA H3];rintro e w4⟨rfl,q4,rfl⟩;simp only[IE];have HB4:=AD (Below.drewN (AA HB3) q4))
      |(go_at_call_of 192 (Value.slice b2 m2 d2);refine(AA HC' _ (AA HB4)).mono ?_;rintro e w5⟨rfl,hb5⟩;have HB5:=AD ((AA HB4).trans (hb5.mono (AA HB4).size));clear hb5)
      |(go_at_call 239;refine(AA HL _ (AA HB5) _).mono ?_;rw[AA HLM];rintro e w6⟨rfl,q6,rfl⟩;simp only[IE];have HB6:=AD ((AA hbr).trans ((Below.drewN (AA HB5) q6).mono (AA hbr).size))))
     go_roundw;case rel=>exact⟨k+1,r+D,by omega,by go_num,rfl,HSM,HB6⟩
     case measure=>simp[intOf];omega
    .have HLM:=AD hlm;have HSM:=AD (Jt hnone (by omega:k+1<=m));clear h3 hlm hnone;go_wp2_with(first
      |(go_at_call_of 192 (Value.slice a2 n2 c2);refine(AA HC wr AG).mono ?_;rintro e w3⟨rfl,hb3⟩;have hy3:=((AA HY).below AC ((AA hbr).trans (hb3.mono (AA hbr).size))).cells;obtain⟨y0,y1,y2,y3⟩:=hy3;have HB3:=AD hb3;clear hb3)
      |(go_at_call 241;refine(AA HM _ (AA HB3)).mono ?_;rw[AA H3];rintro e w4⟨rfl,q4,rfl⟩;simp only[IE];have HB4:=AD (Below.drewN (AA HB3) q4))
      |(go_at_call_of 192 (Value.slice b2 m2 d2);refine(AA HC' _ (AA HB4)).mono ?_;rintro e w5⟨rfl,hb5⟩;have HB5:=AD ((AA HB4).trans (hb5.mono (AA HB4).size));clear hb5)
      |(go_at_call 239;refine(AA HL _ (AA HB5) _).mono ?_;rw[AA HLM];rintro e w6⟨rfl,q6,rfl⟩;simp only[ID];have HB6:=AD ((AA hBw).trans ((Below.drewN (AA HB5) q6).mono (AA hBw).size))))
     go_ret2;rw[AA HSM];exact⟨rfl,AA HB6⟩
   .have H3:=AD h3;have HSM:=AD (Jt hnone (by omega:k+1<=m));clear h3 hnone;go_wp2_with(first
     |(go_at_call_of 192 (Value.slice a2 n2 c2);refine(AA HC wr AG).mono ?_;rintro e w3⟨rfl,hb3⟩;have HB3:=AD hb3;clear hb3)
     |(go_at_call 241;refine(AA HM _ (AA HB3)).mono ?_;rw[AA H3];rintro e w4⟨rfl,q4,rfl⟩;simp only[ID];have HB4:=AD ((AA hBw).trans ((Below.drewN (AA HB3) q4).mono (AA hBw).size))))
    go_ret2;rw[AA HSM];exact⟨rfl,AA HB4⟩
  .have e:k=m:=by omega
   subst k;clear hlt;go_wp2_with fail;go_ret2;rw[AA hst];exact⟨rfl,AA hBw⟩
end
