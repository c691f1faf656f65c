import Derived.Test.YtinndpnilmmmjaaGreatDoorZ06
import Derived.Test.YtinndpnilmmmjaaGreatDoorZ04
set_option maxRecDepth 20000
set_option maxHeartbeats 8000000
set_option linter.defProp false
namespace Go.Proofs.YtinndpnilmmmjaaGreatDoor
open Go.RowKit Tryz
def Wm(a:Option Addr)(n cap:Nat)(ns:List AM)(w:World)(h:I1 w a n ns)(z:Nat)(hz:z<n)(lo hi:Int)(r:Bool)(hr:D0 (Af ns z) lo hi=r):Calls prog 119 #[.agg #[.slice a n cap],.int .i64 (z:Nat),.int .i64 lo,.int .i64 hi] w fun e w'=>e=.returned (.bool r)/\Below w.heap.size w w':=by rw[<-hr];exact Sd a n cap ns w h z hz lo hi
def Oj(a:Option Addr)(n cap:Nat)(ns:List AM)(w:World)(h:I1 w a n ns)(i:Nat)(hi:i<n)(hok:GT ns i):Calls prog 69 #[.agg #[.slice a n cap],.int .i64 (i:Nat)] w fun e w'=>e=.returned (.bool (Dh ns i))/\Below w.heap.size w w':=by
 obtain⟨r,hr⟩:∃r,Dh ns i=r:=⟨_,rfl⟩
 rw[hr];have hn1:=h.small;have hni:(i:Int)<(n:Int):=by omega
 obtain⟨Q,hQ⟩:∃Q,Q=w.alloc (.cells #[.slice a n cap] 29):=⟨_,rfl⟩
 have HQ:=AB hQ;have HBQ:Hid (Below w.heap.size w Q):=by rw[hQ];exact AI.alloc AC _
 have hQlt:w.heap.size<Q.heap.size:=by rw[hQ];simp
 have HQC:Hid (Q.cell? ⟨w.heap.size,0,none⟩=some (.slice a n cap)):=by rw[hQ];show(w.alloc _).cell? _=_;simp
 have H:=AB h;have HOK:=AB hok;obtain⟨b0,off0,ha0,hbl0,s10,n10,c10,s20,n20,c20,y0,_,_,_,_,_,_,_⟩:=h.get hi;clear h hok hQ;by_cases h3:(Af ns i).k=3
 .rw[h3]at y0;have HE:Hid (false=r):=by show _=_;rw[<-hr];unfold Dh;rw[h3];rfl
  subst ha0;clear hr h3;go_enter func69,ntmps69;go_wp2_with fail;rw[<-AA HQ];go_ret;exact⟨AN (AA HE),AA HBQ⟩
 have HR:Hid (IP ns (i+1) i=r):=by show _=_;rw[<-hr];unfold Dh;rw[AK h3];rfl
 obtain⟨x3,hx3⟩:∃x,(Af ns i).k=x:=⟨_,rfl⟩
 rw[hx3]at y0 h3;have h3f:=Ai h3;subst ha0;clear hr h3 hx3;go_enter func69,ntmps69;go_wp2_with fail;rw[<-AA HQ];clear y0 h3f hbl0;go_loopw[1] (fun v wr=>∃(j f:Nat),v=.int .i64 j/\j<=i/\j<f/\Hid (IP ns f j=r)/\Hid (Below Q.heap.size Q wr)/\Hid (GT ns j)) (fun v _=>(intOf v).toNat);case atStart=>exact⟨i,i+1,rfl,AC,by omega,HR,AI,HOK⟩
 case round=>
  obtain⟨j,f,rfl,hj,hf,HX,HBL,HOJ⟩:=hrel;clear HR HOK;obtain⟨f',rfl⟩:∃f',f=f'+1:=⟨f- 1,by omega⟩
  have hbW:=(AA HBQ).trans ((AA HBL).mono (by omega));have hNR:=(AA H).below AC hbW;have HBW:=AB hbW;obtain⟨b,off,eab,hbl,s1,n1,c1,s2,n2,c2,e0,e1,e2,e3,e4,e5,r1,r2⟩:=hNR.get (k:=j) (by omega);cases eab;have HNR:=AB hNR;have HR2:=AB r2;have hl2:=r2.len;have hjn:(j:Int)<(n:Int):=by omega
  have ct:wr.cell? ⟨w.heap.size,0,none⟩=some (.slice (some ⟨b0,off0,none⟩) n cap):=((AA HBL).cell (p:=⟨w.heap.size,0,none⟩) hQlt).trans (AA HQC);have hws:w.heap.size<wr.heap.size:=by have:=(AA HBL).size;omega
  have HBX:Hid (∀o:Obj,Below Q.heap.size Q (wr.alloc o)):=fun o=>(AA HBL).alloc (AA HBL).size _;have HBXW:Hid (∀o:Obj,Below w.heap.size w (wr.alloc o)):=fun o=>(AA HBW).alloc (AA HBW).size _;clear r1 r2 hNR hbW;obtain⟨xn,hxn⟩:∃x,x=(Af ns j).n:=⟨_,rfl⟩
  obtain⟨xm,hxm⟩:∃x,x=(Af ns j).m:=⟨_,rfl⟩
  obtain⟨xs,hxs⟩:∃x,x=(Af ns j).s:=⟨_,rfl⟩
  rw[<-hxn]at e1;rw[<-hxm]at e2;rw[<-hxs]at e3;clear hxn hxm hxs;by_cases h3:(Af ns j).k=3
  .rw[h3]at e0;have HE:Hid (true=r):=by show _=_;rw[<-AA HX,Je h3]
   clear HX h3;go_wp2_with fail;go_ret;exact⟨AN (AA HE),AA HBW⟩
  have HN:Hid (Fy ns j=none->false=r):=fun hh=>by rw[<-AA HX,Fw h3 hh]
  have HS:Hid (∀j',Fy ns j=some j'->IP ns f' j'=r):=fun j' hh=>by rw[<-AA HX,Fx h3 hh]
  clear HX;by_cases h7:(Af ns j).k=7
  .have Ae:=(AA HOJ).at.2.1 h7;rw[h7]at e0;obtain⟨pv,plt,pok⟩:=(AA HOJ).kid (q:=0) (by omega);obtain⟨pb,po,pe,pl,pc⟩:=(AA HR2).get (k:=0) (by omega);rw[pv]at pc;rw[Ad]at pc;cases pe;have HT:=AB (AA HS _ (Ta h7));obtain⟨z,hz⟩:∃z,CV (Af ns j) 0=z:=⟨_,rfl⟩
   rw[hz]at pc plt HT pok;have HPO:=AB pok;clear pok;have hb0:(0:Int)<(n2:Int):=by omega
   clear hz HS HN h3 h7 pv HNR HR2 Ae hl2;go_wp2_with fail;go_roundw;case rel=>exact⟨z,f',rfl,by omega,by omega,HT,AA HBX _,HPO⟩
   case measure=>simp[intOf];omega
  by_cases h9:(Af ns j).k=9
  .have Ae:=(AA HOJ).at.2.2.1 h9;rw[h9]at e0;obtain⟨pv,plt,pok⟩:=(AA HOJ).kid (q:=0) (by omega);obtain⟨pb,po,pe,pl,pc⟩:=(AA HR2).get (k:=0) (by omega);rw[pv]at pc;rw[Ad]at pc;cases pe;obtain⟨uv,ult,uok⟩:=(AA HOJ).kid (q:=1) (by omega);obtain⟨ub,uo,ue,ul,uc⟩:=(AA HR2).get (k:=1) (by omega);rw[uv]at uc;cases ue;have HT:Hid (D0 (Af ns (CV (Af ns j) 0)) 20 23=true->_):=fun hh=>AA HS _ (TZ h9 hh);have HF:Hid (D0 (Af ns (CV (Af ns j) 0)) 20 23=false->false=r):=fun hh=>AA HN (PW h9 hh);obtain⟨z,hz⟩:∃z,CV (Af ns j) 0=z:=⟨_,rfl⟩
   rw[hz]at pc plt HT HF;obtain⟨z',hz'⟩:∃z',CV (Af ns j) 1=z':=⟨_,rfl⟩
   rw[hz']at uc ult HT uok;have HUO:=AB uok;clear uok pok;have hb0:(0:Int)<(n2:Int):=by omega
   have hb1:(1:Int)<(n2:Int):=by omega
   have hzn:z<n:=by omega
   have HPC:Hid (∀(v:World)(rr:Bool),Below wr.heap.size wr v->D0 (Af ns z) 20 23=rr->Calls prog 119 #[.agg #[.slice (some ⟨b0,off0,none⟩) n cap],.int .i64 (z:Nat),.int .i64 20,.int .i64 23] v fun e w'=>e=.returned (.bool rr)/\Below v.heap.size v w'):=fun v rr hv hrr=>Wm _ n cap ns _ ((AA HNR).below AC hv) z hzn 20 23 rr hrr;obtain⟨ob,hob⟩:∃x:Obj,x=.cells #[.int .i64 9,.int .i64 xn,.int .i64 xm,.string xs,.slice s1 n1 c1,.slice (some ⟨pb,po,none⟩) n2 c2] 47:=⟨_,rfl⟩
   have HOB:=AB hob;have HP5:Hid (∀(v:World),Below (wr.heap.size+1) (wr.alloc ob) v->Below Q.heap.size Q v/\Below w.heap.size w v/\v.cell? ⟨wr.heap.size,0,none⟩=some (.int .i64 9)/\v.cell? ⟨wr.heap.size,5,none⟩=some (.slice (some ⟨pb,po,none⟩) n2 c2)/\v.cell? ⟨pb,po+1,none⟩=some (.int .i64 (z':Nat))):=fun v hv=>⟨(AA HBX ob).trans (hv.mono (by have:=(AA HBL).size;omega)),(AA HBXW ob).trans (hv.mono (by have:=(AA HBW).size;omega)),(hv.cell (p:=⟨wr.heap.size,0,none⟩) (by show wr.heap.size<_;omega)).trans (by rw[hob];show(wr.alloc _).cell? _=_;simp),(hv.cell (p:=⟨wr.heap.size,5,none⟩) (by show wr.heap.size<_;omega)).trans (by rw[hob];show(wr.alloc _).cell? _=_;simp),(hv.cell (p:=⟨pb,po+1,none⟩) (by show pb<_;omega)).trans (((AI.alloc AC _).cell (p:=⟨pb,po+1,none⟩) ul).trans uc)⟩
   clear hz hz' HS HN h3 h7 pv uv Ae hl2 h9 HR2 hob;cases hq:D0 (Af ns z) 20 23 with
   |false=>
    have HPD:=AB (fun v hv=>AA HPC v false hv hq);have HE:Hid (false=r):=AA HF hq;clear hq HT HF HPC HNR;go_wp2_with fail;go_region_with(go_at_call 119;refine(AA HPD _ (by repeat(first|exact AI|refine Aa ?_|refine Below.drewN ?_ _|refine F3 ?_ AC _))).mono ?_;rintro e w7⟨rfl,hb7⟩;obtain⟨hq1,hq2,f0,f5,fu⟩:=AA HP5 w7 (BI (by rw[AA HOB];repeat(first|exact AI|refine Aa ?_|refine Below.drewN ?_ _)) (hb7.mono (by simp)));have HBQ7:=AB hq1;have HBW7:=AB hq2;clear hb7 hq1 hq2);all_goals go_wp2_with fail
    all_goals go_quiet(fail)
    all_goals go_wp2_with fail
    all_goals go_ret
    all_goals exact⟨AN (AA HE),(by repeat(first|exact AA HBW7|refine Below.drewN ?_ _))⟩
   |true=>
    have HPD:=AB (fun v hv=>AA HPC v true hv hq);have HTT:=AB (AA HT hq);clear hq HT HF HPC HNR;go_wp2_with fail;go_region_with(go_at_call 119;refine(AA HPD _ (by repeat(first|exact AI|refine Aa ?_|refine Below.drewN ?_ _|refine F3 ?_ AC _))).mono ?_;rintro e w7⟨rfl,hb7⟩;obtain⟨hq1,hq2,f0,f5,fu⟩:=AA HP5 w7 (BI (by rw[AA HOB];repeat(first|exact AI|refine Aa ?_|refine Below.drewN ?_ _)) (hb7.mono (by simp)));have HBQ7:=AB hq1;have HBW7:=AB hq2;clear hb7 hq1 hq2);all_goals go_wp2_with fail
    all_goals(go_roundw;(case rel=>exact⟨z',f',rfl,by omega,by omega,HTT,HBQ7,HUO⟩);(case measure=>simp[intOf];omega))
  by_cases h10:(Af ns j).k=10
  .have Ae:=(AA HOJ).at.2.2.2 h10;rw[h10]at e0;obtain⟨pv,plt,pok⟩:=(AA HOJ).kid (q:=1) (by omega);obtain⟨pb,po,pe,pl,pc⟩:=(AA HR2).get (k:=1) (by omega);rw[pv]at pc;cases pe;obtain⟨uv,ult,uok⟩:=(AA HOJ).kid (q:=2) (by omega);obtain⟨ub,uo,ue,ul,uc⟩:=(AA HR2).get (k:=2) (by omega);rw[uv]at uc;cases ue;have HT:Hid (D0 (Af ns (CV (Af ns j) 1)) 21 25=true->_):=fun hh=>AA HS _ (PX h10 hh);have HF:Hid (D0 (Af ns (CV (Af ns j) 1)) 21 25=false->false=r):=fun hh=>AA HN (MJ h10 hh);obtain⟨z,hz⟩:∃z,CV (Af ns j) 1=z:=⟨_,rfl⟩
   rw[hz]at pc plt HT HF;obtain⟨z',hz'⟩:∃z',CV (Af ns j) 2=z':=⟨_,rfl⟩
   rw[hz']at uc ult HT uok;have HUO:=AB uok;clear uok pok;have hb0:(1:Int)<(n2:Int):=by omega
   have hb1:(2:Int)<(n2:Int):=by omega
   have hzn:z<n:=by omega
   have HPC:Hid (∀(v:World)(rr:Bool),Below wr.heap.size wr v->D0 (Af ns z) 21 25=rr->Calls prog 119 #[.agg #[.slice (some ⟨b0,off0,none⟩) n cap],.int .i64 (z:Nat),.int .i64 21,.int .i64 25] v fun e w'=>e=.returned (.bool rr)/\Below v.heap.size v w'):=fun v rr hv hrr=>Wm _ n cap ns _ ((AA HNR).below AC hv) z hzn 21 25 rr hrr;obtain⟨ob,hob⟩:∃x:Obj,x=.cells #[.int .i64 10,.int .i64 xn,.int .i64 xm,.string xs,.slice s1 n1 c1,.slice (some ⟨pb,po,none⟩) n2 c2] 47:=⟨_,rfl⟩
   have HOB:=AB hob;have HP5:Hid (∀(v:World),Below (wr.heap.size+1) (wr.alloc ob) v->Below Q.heap.size Q v/\Below w.heap.size w v/\v.cell? ⟨wr.heap.size,0,none⟩=some (.int .i64 10)/\v.cell? ⟨wr.heap.size,5,none⟩=some (.slice (some ⟨pb,po,none⟩) n2 c2)/\v.cell? ⟨pb,po+2,none⟩=some (.int .i64 (z':Nat))):=fun v hv=>⟨(AA HBX ob).trans (hv.mono (by have:=(AA HBL).size;omega)),(AA HBXW ob).trans (hv.mono (by have:=(AA HBW).size;omega)),(hv.cell (p:=⟨wr.heap.size,0,none⟩) (by show wr.heap.size<_;omega)).trans (by rw[hob];show(wr.alloc _).cell? _=_;simp),(hv.cell (p:=⟨wr.heap.size,5,none⟩) (by show wr.heap.size<_;omega)).trans (by rw[hob];show(wr.alloc _).cell? _=_;simp),(hv.cell (p:=⟨pb,po+2,none⟩) (by show pb<_;omega)).trans (((AI.alloc AC _).cell (p:=⟨pb,po+2,none⟩) ul).trans uc)⟩
   clear hz hz' HS HN h3 h7 pv uv Ae hl2 h10 HR2 hob;cases hq:D0 (Af ns z) 21 25 with
   |false=>
    have HPD:=AB (fun v hv=>AA HPC v false hv hq);have HE:Hid (false=r):=AA HF hq;clear hq HT HF HPC HNR;go_wp2_with fail;go_quiet(fail);go_wp2_with fail;go_region_with(go_at_call 119;refine(AA HPD _ (by repeat(first|exact AI|refine Aa ?_|refine Below.drewN ?_ _|refine F3 ?_ AC _))).mono ?_;rintro e w7⟨rfl,hb7⟩;obtain⟨hq1,hq2,f0,f5,fu⟩:=AA HP5 w7 (BI (by rw[AA HOB];repeat(first|exact AI|refine Aa ?_|refine Below.drewN ?_ _)) (hb7.mono (by simp)));have HBQ7:=AB hq1;have HBW7:=AB hq2;clear hb7 hq1 hq2);all_goals go_wp2_with fail
    all_goals go_ret
    all_goals exact⟨AN (AA HE),(by repeat(first|exact AA HBW7|refine Below.drewN ?_ _))⟩
   |true=>
    have HPD:=AB (fun v hv=>AA HPC v true hv hq);have HTT:=AB (AA HT hq);clear hq HT HF HPC HNR;go_wp2_with fail;go_quiet(fail);go_wp2_with fail;go_region_with(go_at_call 119;refine(AA HPD _ (by repeat(first|exact AI|refine Aa ?_|refine Below.drewN ?_ _|refine F3 ?_ AC _))).mono ?_;rintro e w7⟨rfl,hb7⟩;obtain⟨hq1,hq2,f0,f5,fu⟩:=AA HP5 w7 (BI (by rw[AA HOB];repeat(first|exact AI|refine Aa ?_|refine Below.drewN ?_ _)) (hb7.mono (by simp)));have HBQ7:=AB hq1;have HBW7:=AB hq2;clear hb7 hq1 hq2);all_goals go_wp2_with fail
    all_goals(go_roundw;(case rel=>exact⟨z',f',rfl,by omega,by omega,HTT,HBQ7,HUO⟩);(case measure=>simp[intOf];omega))
  obtain⟨xk,hxk⟩:∃x,(Af ns j).k=x:=⟨_,rfl⟩
  have HE:Hid (false=r):=AA HN (TY h7 h9 h10);rw[hxk]at e0 h3 h7 h9 h10;have q3:(xk !=3)=true:=by simpa using h3
  have q7:=Ai h7;have q9:=Ai h9;have q10:=Ai h10;clear hxk HN HS h3 h7 h9 h10 HNR HR2;go_wp2_with fail;go_quiet(fail);go_wp2_with fail;go_quiet(fail);go_wp2_with fail;go_ret;exact⟨AN (AA HE),(by repeat(first|exact AA HBXW _|refine Below.drewN ?_ _))⟩
def aT(w:World)(a:Option Addr)(n cap:Nat)(ns:List AM):Prop:=∀(g:Nat)(_:∀args w,(callFunc g args).run prog w=.ok (.enter g args) w)(p:Int->Bool)(_:Fj g p)(b:Option Addr)(m c:Nat)(zs:List Int)(v:World)(_:Below w.heap.size w v)(_:Df w b m zs)(_:∀q,q<m->0<=zs.getD q 0/\zs.getD q 0<n)(r:Bool)(_:(BA ns zs).all p=r),Calls prog 63 #[.agg #[.slice a n cap],.slice b m c,.func (.func g) #[] #[]] v fun e w'=>e=.returned (.bool r)/\Below v.heap.size v w'
def Fn{w:World}{a:Option Addr}{n:Nat}(cap:Nat){ns:List AM}(h:Db w a n ns):aT w a n cap ns:=fun g eg p hp b m c zs v hv hb hz r hr=>dz g eg p hp a n cap ns b m c zs v (h.below AC hv) (hb.below AC hv) hz r hr
def G8(ns:List AM)(zs:List Int)(k:Nat):(BA ns zs).take k=BA ns (zs.take k):=by unfold BA;rw[List.map_take]
def GY(ns:List AM)(zs:List Int)(k:Nat):(BA ns zs).drop k=BA ns (zs.drop k):=by unfold BA;rw[List.map_drop]
def Gx{zs:List Int}{m n k:Nat}(h:∀q,q<m->0<=zs.getD q 0/\zs.getD q 0<(n:Int))(hk:k<=m):∀q,q<k->0<=(zs.take k).getD q 0/\(zs.take k).getD q 0<(n:Int):=fun q hq=>by have:=h q (by omega);rw[show(zs.take k).getD q 0=zs.getD q 0 by simp[List.getD_eq_getElem?_getD,hq]];exact this
def In{zs:List Int}{m n:Nat}(h:∀q,q<m->0<=zs.getD q 0/\zs.getD q 0<(n:Int))(k l:Nat)(hk:k+l<=m):∀q,q<l->0<=(zs.drop k).getD q 0/\(zs.drop k).getD q 0<(n:Int):=fun q hq=>by have:=h (k+q) (by omega);rw[show(zs.drop k).getD q 0=zs.getD (k+q) 0 by simp[List.getD_eq_getElem?_getD]];exact this
def eE(w Q:World)(v1:Value):Prop:=∀v:World,Below Q.heap.size Q v->v.cell? ⟨w.heap.size,0,none⟩=some v1/\Below w.heap.size w v
def Em(w:World)(v1:Value)(o:Obj):eE w ((w.alloc (.cells #[v1] 29)).alloc o) v1:=fun v hv=>by
 have hs:((w.alloc (.cells #[v1] 29)).alloc o).heap.size=w.heap.size+1+1:=by simp
 refine⟨(hv.cell (p:=⟨w.heap.size,0,none⟩) (by rw[hs];show w.heap.size<_;omega)).trans ?_,((AI.alloc AC _).alloc (by simp) _).trans (hv.mono (by rw[hs];omega))⟩;simp
