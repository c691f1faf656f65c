import Derived.Test.YtinndpnilmmmjaaGreatDoorZ40
import Derived.Test.YtinndpnilmmmjaaGreatDoorZ29
set_option maxRecDepth 20000
set_option maxHeartbeats 8000000
set_option linter.defProp false
namespace Go.Proofs.YtinndpnilmmmjaaGreatDoor
open Go.RowKit Go.Proofs.Tryz
section
variable {Z w w0 w1:World}{p i j q:Nat}{nd nd0 nd1 v:Value}{zs:List Int}{xs ys:List AW}{bx:List Nat}{ns:List AM}{ta:Option Addr}{tn tc:Nat}{ts:List CO}{b b' g:Bool}{t:List AM}
def KS.plc(h:KS Z p ta tn tc w0 nd0 xs bx ns i b w nd v zs):Ym p w=i:=by obtain⟨_,h1,_⟩:=h.all;unfold Ym;rw[h1];simp
def KS.grew{w7:World}{g cap:Nat}{z:Int}{a:Option Addr}{c:Nat}(h:KS Z p ta tn tc w0 nd0 xs bx ns i b w nd (.slice a zs.length c) zs)(ET:w7.ownsRow Z.heap.size 3 1 (.slice (some ⟨g,0,none⟩) (zs.length+1) cap) (zs.length+1) (zs.map (Value.int .i64)++ [.int .i64 z]))(hg:w.grownBy w7 (Value.slice a zs.length c).ownBlock){H:Nat}(hat:(Value.slice a zs.length c).ownBlock=some g\/g=H)(hH:H=w.heap.size):KS Z p ta tn tc w0 nd0 xs bx ns i b w7 nd (.slice (some ⟨g,0,none⟩) (zs.length+1) cap) (zs++ [z])/\Eh bx w w7:=h.grow (by unfold Dk;rw[Ao,AH];exact ET) hg (by rw[<-hH];exact hat)
def Kt(k n m:Int)(s:AE)(v:Value):Obj:=.cells #[.int .i64 k,.int .i64 n,.int .i64 m,.string s,v,.slice none 0 0] 47 (0,0)
def Ka{k n m:Int}{s:AE}{b:Nat}(h:w.heap[b]? =some (Kt k n m s v)):w.cell? ⟨b,0,none⟩=some (.int .i64 k)/\w.cell? ⟨b,1,none⟩=some (.int .i64 n)/\w.cell? ⟨b,2,none⟩=some (.int .i64 m)/\w.cell? ⟨b,3,none⟩=some (.string s)/\w.cell? ⟨b,4,none⟩=some v/\w.cell? ⟨b,5,none⟩=some (.slice none 0 0)/\w.frozen? ⟨b,4,none⟩=false/\b<w.heap.size:=by unfold Kt at h;refine⟨?_,?_,?_,?_,?_,?_,BJ w b 4 _ _ h,lt_of_block h⟩<;>simp[World.cell?,h]
def YX{k n m:Int}{s:AE}{b:Nat}(h:w.heap[b]? =some (Kt k n m s v))(u:Value):(w.setCell ⟨b,4,none⟩ u).heap[b]? =some (Kt k n m s u):=by unfold Kt at h ⊢;rw[CX w b 4 _ _ _ h];simp
def fA(E:Bk Z ta tn ts)(h:EV Z p ta tn tc false w i nd xs)(hil:i<=ts.length)(htl:ts.length<=4096)(AQ:xs.length+4*(5000- i)<=100000)(h1:(AF ts).cl i=1):Calls prog 147 #[.pointer (some ⟨p,0,none⟩)] w (Bf Z p ta tn tc w nd xs i true (i+(Ct (AF ts) (ts.length+1) i).length) (Ay 1 0 0 E2 (Ct (AF ts) (ts.length+1) i) [])):=by
 obtain⟨i0,hi,hz0,hz1,hz2⟩:=info_parts Dt;have HK:=AB (KS.start h);have hxl:(xs.map AW.d).length=xs.length:=AS ..;obtain⟨NS,hNS⟩:∃NS,xs.map AW.d=NS:=⟨_,rfl⟩
 rw[hNS]at HK hxl;obtain⟨N,hN⟩:∃N,Ct (AF ts) (ts.length+1) i=N:=⟨_,rfl⟩
 rw[hN];have hnl:=M6 h1 ts.length;have hnm:=Jh (Ab ts) (ts.length+1) i hil;rw[hN]at hnl hnm;have HN:=AB hN;have HNL:=AB hnl;have HPUT:=AB (fun(V:World)(n:Value)(a:Option Addr)(l c jj:Nat)(us:List Int)(B:List Nat)(hk:KS Z p ta tn tc w nd xs B NS jj false V n (.slice a l c) us)=>hk.putN 1 0 0 ⟨#[]⟩ (by omega));have HKD:=AB (fun(V:World)(n u:Value)(B:List Nat)(jj:Nat)(us:List Int)(hk:KS Z p ta tn tc w nd xs B NS jj false V n u us)=>hk.via (e0:=.returned (.int .i64 (Al ts 0 jj).k)) fun _ hX=>(Rx E hX).mono fun _ _ h=>⟨h.1,(BE.start hX).below h.2⟩);have k1:(Al ts 0 i).k=1:=by rcases CK E.ok i with h'|h'|h'|h'|h'<;>omega
 have HTK:Hid (∀jj,(AF ts).cl jj=1->∃tb off y,ta=some ⟨tb,off,none⟩/\tb<Z.heap.size/\jj<tn/\y.k=1/\y.n=(AF ts).nv jj/\Al ts 0 jj=y/\∀V,Below Z.heap.size Z V->V.cell? ⟨tb,off+jj*4+1,none⟩=some (.int .i64 y.n)/\tb<V.heap.size):=fun jj hj=>by
  have hlt:jj<tn:=by rw[<-E.row.len];exact Ab ts jj (by rw[hj];decide)
  obtain⟨tb,off,y,rfl,hbl,hy,a0,a1,a2,a3⟩:=E.row.get hlt;have hk:(Al ts 0 jj).k=1:=by rcases CK E.ok jj with h'|h'|h'|h'|h'<;>omega
  have hty:=Gv hy 0;exact⟨tb,off,y,rfl,hbl,hlt,by rw[<-hty];exact hk,by show _=(Al ts 0 jj).n;rw[hty],hty,fun V hV=>⟨(hV.cell (p:=⟨tb,off+jj*4+1,none⟩) hbl).trans a1,AX hbl hV.size⟩⟩
 have HZP:Hid (Z.heap.size<=p):=h.hp;have HE:=AB E;have HXL:=AB hxl;obtain⟨p0,p1,p2,p3,f0,f1,f2,f3,hpl⟩:=h.all;clear h hN hnl hxl;have HK0:=AB (AA HKD _ _ _ _ _ _ (AA HK));rw[k1]at HK0;go_enter func147,ntmps147;go_wp2_with(go_at_call 143;refine(AA HK0).mono ?_;rintro e w5⟨rfl,hk,_⟩;have hp5:=hk.all.2.2.2.2.2.2.2.2;have HK5:=AB (hk.box (Kt 1 0 0 ⟨#[]⟩ A3));clear hk);obtain⟨B,hB⟩:∃B,B=w5.heap.size:=⟨_,rfl⟩
 have HBX:Hid ((w5.alloc (Kt 1 0 0 ⟨#[]⟩ A3)).heap[B]? =some (Kt 1 0 0 ⟨#[]⟩ A3)):=by rw[hB];show(w5.heap.push _)[w5.heap.size]? =_;simp
 rw[<-hB]at HK5 ⊢;have hBp:B≠p:=by omega
 clear hB HK HK0;go_loopw[13] (fun _ wr=>∃(m f:Nat)(zs:List Int)(n u4:Value),i+m<=ts.length/\ts.length<f+(i+m)/\Hid (zs.length=m)/\Hid (zs++Ct (AF ts) f (i+m)=N)/\Hid (KS Z p ta tn tc w nd xs [B] NS (i+m) false wr n u4 zs)/\Hid (wr.heap[B]? =some (Kt 1 0 0 ⟨#[]⟩ u4))) (fun _ wr=>ts.length- Ym p wr);case atStart=>exact⟨0,ts.length+1,[],nd,A3,by omega,by omega,rfl,HN,HK5,HBX⟩
 case round=>
  obtain⟨m,f,zs,n,u4,hm,hf,HLZ,HZS,HKR,HBR⟩:=hrel;clear HN HK5 HBX;obtain⟨u0,uc,rfl⟩:=(AA HKR).slice;obtain⟨f',rfl⟩:∃f',f=f'+1:=⟨f- 1,by omega⟩
  obtain⟨jn,hj⟩:∃jn,i+m=jn:=⟨_,rfl⟩
  rw[hj]at HKR HZS hm hf;have hzl:=(AA HKR).low.size;have HPL:=AB (AA HKR).plc;have HKJ:=AB (AA HKD _ _ _ _ _ _ (AA HKR));by_cases h1:(AF ts).cl jn=1;case pos=>
   have hjl:jn<ts.length:=Ab ts jn (by rw[h1];decide);obtain⟨tb,off,y,rfl,hbl,hjt,yk1,yn1,hty,htk⟩:=AA HTK jn h1;have HZ2:Hid ((zs++ [(AF ts).nv jn])++Ct (AF ts) f' (jn+1)=N):=by show _=_;rw[<-AA HZS,Ct,AL h1,Aj];rfl
   obtain⟨yk,yn,yt,yp⟩:=y;rw[hty]at HKJ;dsimp only at yk1 yn1 HKJ htk;subst yk1;rw[<-yn1]at HZ2;have HTJ:=AB htk;have hpb:tb≠p:=EA (AX hbl (AA HZP));have hzs:zs.length<=4096:=by have:=AA HLZ;omega
   have hw1:IntKind.i64.wrap ((jn:Int)+1)=(jn:Int)+1:=by rw[IntKind.wrap_i64];omega
   have hl2:(jn:Int)<(tn:Int):=by omega
   have hl3:jn<tn:=hjt;clear h1 hty yn1 HZS htk hbl HTK HKD HPUT;go_wp2_with(go_at_call 143;refine(AA HKJ).mono ?_;rintro e w6⟨rfl,hk,hs⟩;have hbx:=(hs _ (AY.2 rfl)).trans (AA HBR);obtain⟨b0,b1,b2,b3,b4,b5,b6,hbl⟩:=Ka hbx;obtain⟨p0,p1,p2,p3,f0,f1,f2,f3,hpl⟩:=hk.all;obtain⟨a1,htl'⟩:=AA HTJ _ hk.low;have HK6:=AB (hk.below ((AI.drew).alloc AC (.cells #[.int .i64 yn] 3)));have HB6:=AB hbx;have hzl6:=hk.low.size;clear hk hs hbx)
   go_region_law (first|(refine step_append_lies _ (by rfl) _ _ _ (by rfl) Z.heap.size 3 i0 _ 1 8 underlying45 hi hz0 hz1 hz2 rfl (by omega) (.slice u0 zs.length uc) zs.length (zs.map (Value.int .i64)) (by rfl) (AA HK6).ownR ⟨w6.heap.size,0,none⟩ 1 1 [.int .i64 yn] (by rfl) (by rfl) (Dy _ _) (GM _) (by omega) (by unfold maxLen;omega) (by omega) (by simp;omega) (w6.heap.size+1) (by simp) ?_;intro g' CW w7 A2 Au hat Cu;obtain⟨hk7,hs7⟩:=KS.grew (AA HK6) A2 Au hat (by simp);have hbx7:=(hs7 _ (AY.2 rfl)).trans ((EZ ((AI.drew).alloc AC (.cells #[.int .i64 yn] 3)) _ hbl).trans (AA HB6));clear p0 p1 p2 p3 f0 f1 f2 f3 hpl b0 b1 b2 b3 b4 b5 b6 hbl;obtain⟨b0,b1,b2,b3,b4,b5,b6,hbl⟩:=Ka hbx7;obtain⟨p0,p1,p2,p3,f0,f1,f2,f3,hpl⟩:=hk7.all;have HB8:=AB ((BZ (w7.setCell ⟨B,4,none⟩ (.slice (some ⟨g',0,none⟩) (zs.length+1) CW)) ⟨p,1,none⟩ B (.int .i64 ((jn:Int)+1)) hBp).trans (YX hbx7 (.slice (some ⟨g',0,none⟩) (zs.length+1) CW)));have HK8:=AB ((hk7.setBox (q:=4) (u:=.slice (some ⟨g',0,none⟩) (zs.length+1) CW) (AY.2 rfl)).step 1 ((jn:Int)+1) (by omega));have HP8:=AB (AA HK8).plc;clear hk7 hs7 hbx7 A2 Au hat Cu))
   all_goals go_wp2_with fail
   all_goals(go_roundw;(case rel=>exact⟨m+1,f',zs++ [yn],n,_,by omega,by omega,by show(zs++ [yn]).length=m+1;rw[AH,AA HLZ];rfl,by show _=_;rw[<-Ci,hj];exact AA HZ2,by show KS _ _ _ _ _ _ _ _ _ _ _ _ _ _ _ _;rw[<-Ci,hj];exact AA HK8,HB8⟩);(case measure=>rw[AA HPL,AA HP8];omega))
  case neg=>
   have HZ2:Hid (zs=N):=by show _=_;rw[<-AA HZS,Ct,AG h1,A6]
   have e1:(Al ts 0 jn).k≠1:=by rcases CK (AA HE).ok jn with h'|h'|h'|h'|h'<;>omega
   obtain⟨K,hK⟩:∃K,(Al ts 0 jn).k=K:=⟨_,rfl⟩
   rw[hK]at HKJ e1;have hd1:(K==1)=false:=by simpa using e1
   clear h1 hK e1 HZS HTK HKD;go_wp2_with(first|(go_at_call 143;refine(AA HKJ).mono ?_;rintro e w6⟨rfl,hk,hs⟩;have hbx:=(hs _ (AY.2 rfl)).trans (AA HBR);obtain⟨b0,b1,b2,b3,b4,b5,b6,hbl⟩:=Ka hbx;have HK6:=AB hk;clear hk hs hbx)|(go_at_call 45;refine(AA HPUT _ _ _ _ _ _ _ _ (AA HK6)).mono ?_;rintro e w9⟨rfl,nd9,hk9⟩;have HK9:=AB hk9;clear hk9));go_ret;have hk:=AA HK9;rw[AA HZ2]at hk;have hl:i+N.length=jn:=by rw[<-AA HZ2,AA HLZ];exact hj
   rw[hl];have hnl:=AA HNL;exact Cy (i:=i) 1 0 0 ⟨#[]⟩ N (AA HXL) hk (by omega) (by decide) (by decide) (by decide)
end
