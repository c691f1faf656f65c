import Derived.Test.YtinndpnilmmmjaaGreatDoorZ18
set_option maxRecDepth 20000
set_option maxHeartbeats 16000000
set_option linter.defProp false
namespace Go.Proofs.YtinndpnilmmmjaaGreatDoor
open Go.RowKit Go.Proofs.Tryz
def bQ{T:AE->Bool}{ns:List AM}{st:List (Nat×Nat)}{i z:Nat}(ho:EG ns i=some st)(ha:∀j,j<i->Fi T ns st j=true)(hz:z<i):GT ns z:=GT.of fun j hj=>by have hk:=ha j (by omega);unfold Fi at hk;simp only[An]at hk;have hf:=Ql hk.2.1;rw[DD]at hf;exact⟨Kq ho (by omega),hf⟩
def bI(k:Int)(s:Int)(h:Ca k=s)(W:World):Calls prog 24 #[.int .i64 k] W fun e w'=>e=.returned (.int .i64 s)/\w'=W:=by rw[<-h];exact G7 k W
def TF:Prop:=∀(k n m:Int)(s:AE)(a1 a2:Option Addr)(n1 c1 n2 c2:Nat)(nums kids:List Int)(w:World)(_:1<=k/\k<=25)(_:s.size<=1048576)(_:Df w a1 n1 nums),Calls prog 26 #[.agg #[.int .i64 k,.int .i64 n,.int .i64 m,.string s,.slice a1 n1 c1,.slice a2 n2 c2]] w fun e w'=>e=.returned (.bool (BT B2 ⟨k,n,m,s,nums,kids⟩))/\Below w.heap.size w w'
def VK(n:Nat)(ks:List Int)(h:ks.length=n):H8 ks n=List.replicate n 0:=by rw[<-h];exact Q2 ks
def TU{w:World}{B n g cap:Nat}{xs:List Value}(h:w.ownsRow B 3 1 (.slice (some ⟨g,0,none⟩) n cap) n xs):g<w.heap.size:=Wr h (g:=g) rfl
def Ry{k:Int}(h:Ca k≠0):1<=k/\k<=25:=by
 unfold Ca at h
 repeat' split at h
 all_goals omega
def Lt(hfs:TF)(a:Option Addr)(n cap:Nat)(ns:List AM)(w:World)(h:Db w a n ns)(hsm:P9 ns n):Calls prog 8 #[.agg #[.slice a n cap]] w fun e w'=>e=.returned (.bool (F5 B2 ns))/\Below w.heap.size w w':=by
 have Ae:=h.len;have hn1:=h.small;obtain⟨r,hr⟩:∃r,F5 B2 ns=r:=⟨_,rfl⟩
 rw[hr];have HR:=AB hr;have HFS:=AB hfs;clear hr hfs;by_cases hs0:n<1
 .have hg:(n:Int)<1:=by omega
  have HE:Hid (false=r):=by show _=_;rw[<-AA HR,OK (by omega)]
  clear HR h;go_enter func8,ntmps8;go_wp2_with fail;go_ret;exact⟨AN (AA HE),AI.alloc AC _⟩
 have hg0:¬(n:Int)<1:=by omega
 by_cases hs1:600<n
 .have hg:(600:Int)<(n:Int):=by omega
  have HE:Hid (false=r):=by show _=_;rw[<-AA HR,OK (by omega)]
  clear HR h;go_enter func8,ntmps8;go_wp2_with fail;go_ret;exact⟨AN (AA HE),AI.alloc AC _⟩
 have hg1:¬(600:Int)<(n:Int):=by omega
 obtain⟨Q,hQ⟩:∃Q,Q=w.alloc (.cells #[.slice a n cap] 29):=⟨_,rfl⟩
 have HQ:=AB hQ;have HBQ:Hid (Below w.heap.size w Q):=by rw[hQ];exact AI.alloc AC _
 have hQs:Q.heap.size=w.heap.size+1:=by rw[hQ];simp
 have HQC:Hid (Q.cell? ⟨w.heap.size,0,none⟩=some (.slice a n cap)):=by rw[hQ];show(w.alloc _).cell? _=_;simp
 have H:=AB h;have HSM:=AB hsm;have HST:=AB (Jw.start Q);obtain⟨i0,hi,hz0,hz1,hz2⟩:=info_parts Dt;clear h hsm hQ;go_enter func8,ntmps8;go_wp2_with fail;rw[<-AA HQ,<-hQs];have hQlt:w.heap.size<Q.heap.size:=by omega
 clear hQs;go_loopw[3,4,5] (fun v3 v4 v5 wr=>∃(i g1 p1 g2 p2:Nat)(st:List (Nat×Nat)),i<=n/\v5=.int .i64 i/\v3=.slice (some ⟨g1,0,none⟩) i p1/\v4=.slice (some ⟨g2,0,none⟩) i p2/\Hid (EG ns i=some st)/\Hid (∀j,j<i->Fi B2 ns st j=true)/\Hid (Jw Q wr i (ci st) i (cf st) g1 p1 g2 p2)) (fun _ _ v5 _=>n- (intOf v5).toNat);case atStart=>exact⟨0,_,_,_,_,[],AZ _,rfl,rfl,rfl,rfl,fun j hj=>absurd hj (Bc _),HST⟩
 case round=>
  obtain⟨i,g1,p1,g2,p2,st,hin,rfl,rfl,rfl,HO,HA,HT⟩:=hrel;clear HST;have hbQ:=(AA HT).low;have hsz:=hbQ.size;have hsl:=Gw (AA HO);have ct:wr.cell? ⟨w.heap.size,0,none⟩=some (.slice a n cap):=(hbQ.cell (p:=⟨w.heap.size,0,none⟩) (by show w.heap.size<_;omega)).trans (AA HQC);have hbW:=(AA HBQ).trans (hbQ.mono (by omega));by_cases hlt:i<n;case neg=>
   have hin':i=n:=by omega
   subst hin';have hgi:¬(i:Int)<(i:Int):=by omega
   obtain⟨y,hy⟩:∃y,i=y+1:=⟨i- 1,by omega⟩
   have hc:=(M1 (AA HT).o1 (i:=y) (by omega)).1;rw[T2 (by omega)]at hc;have HE:Hid (decide ((st.getD y (0,0)).1=0)=r):=by show _=r;rw[<-AA HR,UE (st:=st) (by rw[Ae];exact AA HO) (by omega) (by rw[Ae];exact AA HA),Ae,show i- 1=y by omega]
   obtain⟨x,hx⟩:∃x,(st.getD y (0,0)).1=x:=⟨_,rfl⟩
   rw[hx]at hc HE;have hyi:(i:Int)- 1=(y:Int):=by omega
   have HBW:=AB hbW;clear HO HA HT hx HR hbQ hbW hsl hy;go_wp2_with fail;go_ret;refine⟨AN ?_,AA HBW⟩;rw[<-AA HE];by_cases hx0:x=0
   .subst hx0;rfl
   .rw[AD hx0];simp;omega
  have hNR:=(AA H).below AC hbW;obtain⟨b,off,rfl,hbl,s1,n1,c1,s2,n2,c2,e0,e1,e2,e3,e4,e5,r1,r2⟩:=hNR.get hlt;have hNA:aq Df wr b (off+i*6) (Af ns i):=⟨s1,n1,c1,s2,n2,c2,e0,e1,e2,e3,e4,e5,r1,r2⟩
  have hsn:=AA HSM i hlt;have hl2:=r2.len;have hl1:=r1.len;have HNR:=AB hNR;have HR1:=AB r1;have HR2:=AB r2;have HBW:=AB hbW;have HTN:Hid (EG ns (i+1)=none->false=r):=fun hh=>by rw[<-AA HR,UD hh (by omega)]
  have HTB:Hid (∀st',EG ns (i+1)=some st'->Fi B2 ns st' i=false->false=r):=fun st' h1 h2=>by rw[<-AA HR,Vw h1 (by omega) h2]
  have HOS:=AB (Ko (AA HO));have hhi:=SP i (AA HO);have hle:=Lb i (AA HO);have hkd:(BA ns (Af ns i).kids).length=n2:=by rw[DD];exact hl2
  have HKD:=AB (fun(q:Nat)(hq:q<n2)=>Of (ns:=ns) (zs:=(Af ns i).kids) (k:=q) (by omega));obtain⟨kids,hkids⟩:∃x,(Af ns i).kids=x:=⟨_,rfl⟩
  obtain⟨ks,hks⟩:∃x,BA ns (Af ns i).kids=x:=⟨_,rfl⟩
  rw[hks]at hkd HKD;have HKS:=AB hks;rw[hkids]at HOS HKD HR2 hl2;have HKIDS:=AB hkids;obtain⟨xk,hxk⟩:∃x,(Af ns i).k=x:=⟨_,rfl⟩
  obtain⟨xn,hxn⟩:∃x,(Af ns i).n=x:=⟨_,rfl⟩
  obtain⟨xm,hxm⟩:∃x,(Af ns i).m=x:=⟨_,rfl⟩
  obtain⟨xs,hxs⟩:∃x,(Af ns i).s=x:=⟨_,rfl⟩
  rw[hxk]at e0;rw[hxn]at e1;rw[hxm]at e2;rw[hxs]at e3;have HX:=AB (And.intro hxk (And.intro hxn (And.intro hxm hxs)));have hn2:n2<=1048576:=by have:=hsn.2.2;rw[hkids]at this;omega
  have hsmk:xs.size<=1048576/\True:=⟨by rw[<-hxs];exact hsn.1,trivial⟩
  clear hxk hxn hxm hxs hkids hks r1 r2 hNR hNA hsn hl1;have Fr:(i:Int)<(n:Int):=by omega
  go_wp2_with(at_make;refine wpList_make_full _ rfl _ _ 45 rfl (wr.heap.size+1) 3 i0 (.int .i64 0) 1 underlying45 hi hz0 hz1 _ _ _ _ n2 rfl rfl rfl rfl (by rw[hz2];omega) (by unfold maxLen;omega) (by simp) ?_;intro w1 ET Au;have hb1:Below (wr.heap.size+1) (wr.alloc (.cells #[.int .i64 xk,.int .i64 xn,.int .i64 xm,.string xs,.slice s1 n1 c1,.slice s2 n2 c2] 47)) w1:=AI.grown Au (by simp) (by simp);obtain⟨-,-,-,-,-,d5⟩:=((Hv.new wr (.int .i64 xk) (.int .i64 xn) (.int .i64 xm) (.string xs) (.slice s1 n1 c1) (.slice s2 n2 c2)).below (by omega) hb1).all);clear d5;have Gr:Hj w1 (wr.heap.size+1) (H8 ks n2):=by rw[VK n2 ks hkd];exact Hj.of_owns (n:=n2) (base:=wr.heap.size+1) (by simpa[toList_madeCells_one,Value.cells]using ET)
  have HBOX:Hid (Hv w1 wr.heap.size (.int .i64 xk) (.int .i64 xn) (.int .i64 xm) (.string xs) (.slice s1 n1 c1) (.slice s2 n2 c2)):=(Hv.new wr _ _ _ _ _ _).below (by omega) hb1;have hb2:Below wr.heap.size wr w1:=(AI.alloc AC _).trans (hb1.mono (by omega));have HB2:=AB hb2;have hsz1:wr.heap.size+1<w1.heap.size:=Gr.lt;have HBLK:=AB Gr;clear ET Au hb1 Gr hi hz0 hz1 hz2 e0 e1 e2 e3 e4 e5;obtain⟨wo,hwo⟩:∃x,x=wr:=⟨_,rfl⟩
  subst hwo;have HC1:Hid (∀b o,b<wo.heap.size->w1.cell? ⟨b,o,none⟩=wo.cell? ⟨b,o,none⟩):=fun b o hb=>(AA HB2).cell (p:=⟨b,o,none⟩) hb;obtain⟨tgt,HU⟩:∃t,ME st kids n2 i 0=t:=⟨_,rfl⟩
  rw[hl2,HU]at HOS;have HG:=AB HU;have hg1:=(TU (AA HT).o1)
  have hg2:=(TU (AA HT).o2)
  clear HU hb2;go_loopw[7,8,10] (fun va vh vk wz=>∃(kk aa hh:Nat)(ai j:Int),kk<=n2/\va=.int .i64 ai/\vh=.int .i64 hh/\vk=.int .i64 j/\Hid (ai=(aa:Nat))/\Hid (j=(kk:Int)- 1)/\aa<=i/\hh<=i/\Hid (ME st kids kk aa hh=tgt)/\Hid (Hj wz (wo.heap.size+1) (H8 ks kk))/\Hid (EF (fun x=>x=wo.heap.size+1) w1 wz)) (fun _ _ vk _=>(intOf vk+1).toNat);case atStart=>exact⟨n2,i,0,_,_,AC,rfl,rfl,rfl,rfl,rfl,AC,AZ _,HG,HBLK,EF.refl _ _⟩
  case round=>
   obtain⟨kk,aa,hh,ai,j,hkk,rfl,rfl,rfl,HAI,HJ,haa,hhh,HK,HBL,HBU⟩:=hrel;clear HG HBLK;have HBOX2:=AB ((AA HBOX).but (AA HBU) (by omega));have HC2:Hid (∀b o,b<wo.heap.size->wr.cell? ⟨b,o,none⟩=wo.cell? ⟨b,o,none⟩):=fun b o hb=>(World.cell?_of_block ((AA HBU).block b (by omega) (by omega))).trans (AA HC1 b o hb);have ct2:wr.cell? ⟨w.heap.size,0,none⟩=some (.slice (some ⟨b,off,none⟩) n cap):=(AA HC2 _ _ (by omega)).trans ct;obtain⟨c0,c1',c2',c3,c4,c5⟩:=(AA HBOX2).all;have hbszw:=(AA HBU).size;by_cases hk0:kk=0
   .subst hk0;have hjm:j= -1:=by have:=AA HJ;omega
    subst hjm;have htg:tgt=some (aa,hh):=by rw[<-AA HK,ME]
    have HOS2:Hid (EG ns (i+1)=some (st++ [(aa,hh)])):=by show _=_;rw[AA HOS,htg];rfl
    have HTB2:=AB (fun hb=>AA HTB _ (AA HOS2) hb);have HAIX:Hid (ai=(aa:Int)):=HAI;have HBK:=AB (AA HBL);rw[VN]at HBK;have HBW3:Hid (Below w.heap.size w wr):=(AA HBW).trans (((AA HB2).mono (AA HBW).size).trans ((AA HBU).below (by omega) (fun k hk=>by omega)));have HT3:=AB (((AA HT).below (AA HB2)).but (AA HBU) (by omega) (by omega) (fun k hk=>by omega));have HR13:Hid (Df wr s1 n1 (Af ns i).nums):=(AA HBU).row ((AA HR1).below AC (AA HB2)) (fun k hk hk'=>by have:=(AA HR1).hi hk';omega);have HR23:Hid (Df wr s2 n2 kids):=(AA HBU).row ((AA HR2).below AC (AA HB2)) (fun k hk hk'=>by have:=(AA HR2).hi hk';omega);have HNR3:=AB ((AA HNR).butN (AA HB2) (AA HBU) (fun k hk hk'=>by omega));have HNB:Hid (Fi B2 ns (st++ [(aa,hh)]) i=(decide (Ca xk≠0/\(xk=25↔i+1=n))&&(Bu xk ks&&(BT B2 ⟨xk,xn,xm,xs,(Af ns i).nums,kids⟩&&(decide (hh<=40)&&(decide (xk≠23)||Dh ns (CV (Af ns i) 0))))))):=by
     show _=_;have hx:=AA HX;have e:Af ns i=⟨xk,xn,xm,xs,(Af ns i).nums,kids⟩:=by rw[<-hx.1,<-hx.2.1,<-hx.2.2.1,<-hx.2.2.2,<-AA HKIDS]
     unfold Fi;rw[hx.1,AA HKS,Ae,show(st++ [(aa,hh)]).getD i (0,0)=(aa,hh) by rw[<-hsl];simp,<-e]
    rw[AA HNB]at HTB2;have hss:=hsmk.1;clear HK HOS HBL HTN HTB HAI HJ htg HC1 HC2 HBOX HR1 HT HBU HB2;have HPOST:Hid (∀v,Below wr.heap.size wr v->v.cell? ⟨wo.heap.size,0,none⟩=some (.int .i64 xk)/\v.cell? ⟨wo.heap.size,1,none⟩=some (.int .i64 xn)/\v.cell? ⟨wo.heap.size,2,none⟩=some (.int .i64 xm)/\v.cell? ⟨wo.heap.size,3,none⟩=some (.string xs)/\v.cell? ⟨wo.heap.size,4,none⟩=some (.slice s1 n1 c1)/\v.cell? ⟨wo.heap.size,5,none⟩=some (.slice s2 n2 c2)/\v.cell? ⟨w.heap.size,0,none⟩=some (.slice (some ⟨b,off,none⟩) n cap)):=fun v hv=>by obtain⟨f0,f1,f2,f3,f4,f5⟩:=((AA HBOX2).below (by omega) hv).all;exact⟨f0,f1,f2,f3,f4,f5,(hv.cell (p:=⟨w.heap.size,0,none⟩) (by show w.heap.size<_;omega)).trans ct2⟩
    obtain⟨s,hs⟩:∃s,Ca xk=s:=⟨_,rfl⟩
    have HS:=AB (fun W=>bI xk s hs W);clear c1' c2' c3 c4;by_cases hs0':s=0
    .subst hs0';have HE:Hid (false=r):=AA HTB2 (by rw[AD (by rw[hs];simp)];rfl);clear HTB2 HNB HPOST hs;go_wp2_with(first|(go_at_call 24;refine(AA HS _).mono ?_;rintro e w5⟨rfl,hw5⟩;obtain rfl:=hw5.symm));go_ret;exact⟨AN (AA HE),AA HBW3⟩
    have hsf:=Ai hs0';have hrg:=Ry (k:=xk) (by rw[hs];exact hs0');have hlb:((i:Int)==(n:Int)- 1)=decide (i+1=n):=by
     by_cases e:i+1=n
     .rw[AK e];simp;omega
     .rw[AD e];simp;omega
    have hkb:(xk==25)=decide (xk=25):=by
     by_cases e:xk=25
     .rw[AK e];simpa using e
     .rw[AD e];simpa using e
    by_cases hbi:(xk=25↔i+1=n)
    case neg=>
     have HE:Hid (false=r):=AA HTB2 (by rw[AD (fun hh=>hbi hh.2)];rfl);clear HTB2 HNB HPOST;by_cases e1:xk=25
     .have e2:¬ i+1=n:=fun e=>hbi ⟨fun _=>e,fun _=>e1⟩;rw[AD e2]at hlb;rw[AK e1]at hkb;clear hbi e1 e2 hs;go_wp2_with(first|(go_at_call 24;refine(AA HS _).mono ?_;rintro e w5⟨rfl,hw5⟩;obtain rfl:=hw5.symm));go_ret;exact⟨AN (AA HE),AA HBW3⟩
     .have e2:i+1=n:=Classical.byContradiction fun e=>hbi ⟨fun h=>absurd h e1,fun h=>absurd h e⟩;rw[AK e2]at hlb;rw[AD e1]at hkb;clear hbi e1 e2 hs;go_wp2_with(first|(go_at_call 24;refine(AA HS _).mono ?_;rintro e w5⟨rfl,hw5⟩;obtain rfl:=hw5.symm));go_ret;exact⟨AN (AA HE),AA HBW3⟩
    rw[AK (show Ca xk≠0/\(xk=25↔i+1=n)from⟨by rw[hs];exact hs0',hbi⟩),Ap]at HNB HTB2;obtain⟨bb,hbb⟩:∃bb,decide (xk=25)=bb:=⟨_,rfl⟩
    have hbb2:decide (i+1=n)=bb:=by rw[<-hbb];exact BQ.2 hbi.symm
    rw[hbb]at hkb;rw[hbb2]at hlb;clear hbb hbb2 hs;have HKC0:=AB (Pa xk (wo.heap.size+1) 0 n2 ks wr hrg ((AA HBK).row hkd (by omega)));cases hkq:Bu xk ks with
    |false=>
     rw[hkq]at HTB2 HKC0;have HKC:=HKC0;have HE:Hid (false=r):=AA HTB2 rfl;clear HTB2 HNB hkq;all_goals
      go_wp2_with(first|(go_at_call 24;refine(AA HS _).mono ?_;rintro e w5⟨rfl,hw5⟩;obtain rfl:=hw5.symm)|(go_at_call 25;refine(AA HKC).mono ?_;rintro e w5⟨rfl,hb5⟩;have HB5:=AB hb5;obtain⟨f0,f1,f2,f3,f4,f5,f6⟩:=AA HPOST _ hb5;clear hb5));go_ret;exact⟨AN (AA HE),(AA HBW3).trans ((AA HB5).mono (AA HBW3).size)⟩
    |true=>
     rw[hkq,Ap]at HTB2 HNB;rw[hkq]at HKC0;have HKC:=HKC0;have HFC0:Hid (∀W,Below wr.heap.size wr W->Calls prog 26 #[.agg #[.int .i64 xk,.int .i64 xn,.int .i64 xm,.string xs,.slice s1 n1 c1,.slice s2 n2 c2]] W fun e w'=>e=.returned (.bool (BT B2 ⟨xk,xn,xm,xs,(Af ns i).nums,kids⟩))/\Below W.heap.size W w'):=fun W hW=>AA HFS xk xn xm xs s1 s2 n1 c1 n2 c2 (Af ns i).nums kids W hrg hss ((AA HR13).below AC hW);cases hfq:BT B2 ⟨xk,xn,xm,xs,(Af ns i).nums,kids⟩with
     |false=>
      rw[hfq]at HTB2 HFC0;have HFC:=HFC0;have HE:Hid (false=r):=AA HTB2 rfl;clear HTB2 HNB hfq;all_goals
       go_wp2_with(first|(go_at_call 24;refine(AA HS _).mono ?_;rintro e w5⟨rfl,hw5⟩;obtain rfl:=hw5.symm)|(go_at_call 25;refine(AA HKC).mono ?_;rintro e w5⟨rfl,hb5⟩;have HB5:=AB hb5;obtain⟨f0,f1,f2,f3,f4,f5,f6⟩:=AA HPOST _ hb5;clear hb5)|(go_at_call 26;refine(AA HFC _ (AA HB5)).mono ?_;rintro e w6⟨rfl,hb6⟩;have HB6:=AB ((AA HB5).trans (hb6.mono (AA HB5).size));clear hb6 f0 f1 f2 f3 f4 f5 f6;obtain⟨f0,f1,f2,f3,f4,f5,f6⟩:=AA HPOST _ (AA HB6)));go_ret;exact⟨AN (AA HE),(AA HBW3).trans ((AA HB6).mono (AA HBW3).size)⟩
     |true=>
      rw[hfq,Ap]at HTB2 HNB;rw[hfq]at HFC0;have HFC:=HFC0;by_cases h40:hh<=40;case neg=>
       have h40i:(40:Int)<(hh:Int):=by omega
       have HE:Hid (false=r):=AA HTB2 (by rw[AD h40];rfl);clear HTB2 HNB hfq;all_goals
        go_wp2_with(first|(go_at_call 24;refine(AA HS _).mono ?_;rintro e w5⟨rfl,hw5⟩;obtain rfl:=hw5.symm)|(go_at_call 25;refine(AA HKC).mono ?_;rintro e w5⟨rfl,hb5⟩;have HB5:=AB hb5;obtain⟨f0,f1,f2,f3,f4,f5,f6⟩:=AA HPOST _ hb5;clear hb5)|(go_at_call 26;refine(AA HFC _ (AA HB5)).mono ?_;rintro e w6⟨rfl,hb6⟩;have HB6:=AB ((AA HB5).trans (hb6.mono (AA HB5).size));clear hb6 f0 f1 f2 f3 f4 f5 f6;obtain⟨f0,f1,f2,f3,f4,f5,f6⟩:=AA HPOST _ (AA HB6)));go_ret;exact⟨AN (AA HE),(AA HBW3).trans ((AA HB6).mono (AA HBW3).size)⟩
      have h40i:¬(40:Int)<(hh:Int):=by omega
      rw[AK h40,Ap]at HTB2 HNB;clear hfq;go_wp2_with(first|(go_at_call 24;refine(AA HS _).mono ?_;rintro e w5⟨rfl,hw5⟩;obtain rfl:=hw5.symm)|(go_at_call 25;refine(AA HKC).mono ?_;rintro e w5⟨rfl,hb5⟩;have HB5:=AB hb5;obtain⟨f0,f1,f2,f3,f4,f5,f6⟩:=AA HPOST _ hb5;clear hb5)|(go_at_call 26;refine(AA HFC _ (AA HB5)).mono ?_;rintro e w6⟨rfl,hb6⟩;have HB6:=AB ((AA HB5).trans (hb6.mono (AA HB5).size));clear hb6 f0 f1 f2 f3 f4 f5 f6;obtain⟨f0,f1,f2,f3,f4,f5,f6⟩:=AA HPOST _ (AA HB6)));obtain⟨bs,hbs⟩:∃x,(decide (xk=23)&&!Dh ns (CV (Af ns i) 0))=x:=⟨_,rfl⟩
      have HBF:Hid (bs=true->false=r):=fun h=>AA HTB2 (by
       rw[<-hbs,An,As]at h;have h2:Dh ns (CV (Af ns i) 0)=false:=by simpa using h.2
       rw[h2,h.1];rfl)
      have HBT:Hid (bs=false->Fi B2 ns (st++ [(aa,hh)]) i=true):=fun h=>by
       rw[AA HNB];rw[<-hbs]at h;by_cases e:xk=23
       .rw[AK e,Ap]at h;have h2:Dh ns (CV (Af ns i) 0)=true:=by simpa using h
        rw[h2,Bool.or_true]
       .rw[AK (show xk≠23 from e),Bool.true_or]
      have HBS:=AB hbs;clear HTB2 HNB f1 f2 f3 f4 HFC HFC0 HKC HKC0 HS HBK hbs;go_cut[131] (fun v wx=>v=.bool bs/\Hid (Below wr.heap.size wr wx));case first=>
       by_cases h23:xk=23
       .have hkl:n2=2:=by rw[h23]at hkq;have h':B3 [101,101] ks=true:=hkq;rw[Qn,An,As]at h';omega
        subst h23;have hkz:=Kq (AA HOS2) (i:=i) (by omega) 0 (by rw[AA HKIDS];omega);have HSO:=AB (bQ (AA HO) (AA HA) (z:=CV (Af ns i) 0) (by unfold CV;omega));have hkz2:kids.getD 0 0=((CV (Af ns i) 0:Nat):Int):=by unfold CV;rw[AA HKIDS]at hkz ⊢;omega
        have hkz3:CV (Af ns i) 0<n:=by unfold CV;omega
        have hbs2:(!Dh ns (CV (Af ns i) 0))=bs:=by have:=AA HBS;simpa using this
        obtain⟨b2,o2,rfl,hb2l,hcq⟩:=(AA HR23).get (k:=0) (by omega);have hcq6:=((AA HB6).cell (p:=⟨b2,o2+0,none⟩) hb2l).trans hcq;rw[Ad,hkz2]at hcq6;have HSC:Hid (∀W,Below wr.heap.size wr W->Calls prog 27 #[.slice (some ⟨b,off,none⟩) n cap,.int .i64 ((CV (Af ns i) 0:Nat):Int)] W fun e w'=>e=.returned (.bool (!bs))/\Below W.heap.size W w'):=fun W hW=>by rw[<-hbs2,Bool.not_not];exact Jz _ n cap ns W ((AA HNR3).below AC hW).weak _ hkz3 (AA HSO)
        obtain⟨z0,hz0⟩:∃z,CV (Af ns i) 0=z:=⟨_,rfl⟩
        rw[hz0]at hcq6 HSC;have hn20:(0:Int)<(n2:Int):=by omega
        clear hkz hkz2 hkz3 hbs2 hz0 HSO hcq hkq hkl;go_region_with(go_at_call 27;refine(AA HSC _ (AA HB6).drew).mono ?_;rintro e w7⟨rfl,hb7⟩;have HB7:=AB ((AA HB6).drew.trans (hb7.mono (AA HB6).size));clear hb7);all_goals go_wp2_with fail
        all_goals(go_meet;case rel=>exact⟨by simp,AA HB7⟩)
       .have h23f:=Ai h23;have hbs2:bs=false:=by rw[<-AA HBS,AD h23];rfl
        subst hbs2;clear h23 HBF HBT HBS HPOST;go_quiet(fail);go_wp2_with fail
        go_meet
        case rel=>exact⟨rfl,Below.drewN (AA HB6) _⟩
      case rest=>
       obtain⟨rfl,HB7⟩:=hcut;obtain⟨WW,hWW⟩:∃x,x=wc:=⟨_,rfl⟩
       subst hWW;cases bs with
       |true=>
        have HE:Hid (false=r):=AA HBF rfl;clear HBF HBT HBS;go_wp2_with fail;go_ret;exact⟨AN (AA HE),(AA HBW3).trans ((AA HB7).mono (AA HBW3).size)⟩
       |false=>
        have HN2:=AB (AA HBT rfl);have HT6:=AB ((AA HT3).below (AA HB7));obtain⟨i0,hi,hz0,hz1,hz2⟩:=info_parts Dt;clear HBF HBT HBS HPOST;go_wp2_with(first|(have hz9:=HT7;clear hz9;(at_builtin;refine wpList_append_lies _ rfl _ _ 45 rfl Q.heap.size 3 i0 (.int .i64 0) 1 8 underlying45 hi hz0 hz1 hz2 rfl (by decide) _ _ _ rfl (EW (AA HT7).o2 AC (AI.alloc AC _)) ⟨w7.heap.size,0,none⟩ 1 1 [.int .i64 (hh:Nat)] rfl rfl (Qc _ _) (W8 _) (by omega) (by unfold maxLen;omega) (by omega) (by have:=(AA HT7).low.size;simp;omega) (w7.heap.size+1) (by simp) ?_;intro g2' p2' w8 A2 Au hat Cu;have HT8:=AB ((AA HT7).push2 _ A2 Au hat);clear A2 Au hat Cu))|(at_builtin;refine wpList_append_lies _ rfl _ _ 45 rfl Q.heap.size 3 i0 (.int .i64 0) 1 8 underlying45 hi hz0 hz1 hz2 rfl (by decide) _ _ _ rfl (EW (AA HT6).o1 AC (AI.alloc AC _)) ⟨WW.heap.size,0,none⟩ 1 1 [.int .i64 ai] rfl rfl (Qc _ _) (W8 _) (by omega) (by unfold maxLen;omega) (by omega) (by have:=(AA HT6).low.size;simp;omega) (WW.heap.size+1) (by simp) ?_;intro g1' p1' w7 A2 Au hat Cu;have HT7:=AB ((AA HT6).push1 _ A2 Au hat);clear A2 Au hat Cu));go_roundw;case rel=>
         have h8:=AA HT8;rw[AA HAIX,<-YY st (aa,hh),<-V0 st (aa,hh)]at h8;exact⟨i+1,g1',p1',g2',p2',st++ [(aa,hh)],by omega,by go_num,rfl,rfl,HOS2,SS hsl (AA HA) (AA HN2),h8⟩
        case measure=>simp[intOf];omega
   obtain⟨q,rfl⟩:∃q,kk=q+1:=⟨kk- 1,by omega⟩
   have hjq:j=(q:Int):=by have:=AA HJ;omega
   subst hjq;obtain⟨b2,o2,rfl,hb2l,hcq⟩:=(AA HR2).get (k:=q) (by omega);rw[<-AA HC2 _ _ hb2l]at hcq;have hq0:(0:Int)<=(q:Int):=by omega
   have hqn:(q:Int)<(n2:Int):=by omega
   have HBW3:Hid (Below w.heap.size w wr):=(AA HBW).trans (((AA HB2).mono (AA HBW).size).trans ((AA HBU).below (by omega) (fun k hk=>by omega)));have haib:ai<=1048576:=by have:=AA HAI;omega
   by_cases ha0:ai<1
   .have HE:Hid (false=r):=AA HTN (by rw[AA HOS,<-AA HK,MK (by have:=AA HAI;omega)];rfl);clear HK HBL HAI HJ;go_wp2_with fail;go_ret;exact⟨AN (AA HE),AA HBW3⟩
   obtain⟨z,hz⟩:∃z,kids.getD q 0=z:=⟨_,rfl⟩
   rw[hz]at hcq;by_cases hzn:z=ai- 1;case neg=>
    have hd:(z !=ai- 1)=true:=by simpa using hzn
    have HE:Hid (false=r):=AA HTN (by rw[AA HOS,<-AA HK,MK (by have:=AA HAI;omega)];rfl);clear HK HBL HAI HJ hz hzn;go_wp2_with fail;go_ret;exact⟨AN (AA HE),AA HBW3⟩
   obtain⟨y,hy⟩:∃y,aa=y+1:=⟨aa- 1,by have:=AA HAI;omega⟩
   have hzy:z=(y:Int):=by have:=AA HAI;omega
   have hd:((y:Int) !=ai- 1)=false:=by simp;omega
   rw[hzy]at hcq hz;have HK2:Hid (ME st kids q (st.getD y (0,0)).1 (max hh ((st.getD y (0,0)).2+1))=tgt):=by have:=AA HK;rw[hy,X0 hz]at this;exact this
   have hyi:y<i:=by omega
   have hyn:(y:Int)<(n:Int):=by omega
   have hyi':(y:Int)<(i:Int):=by omega
   obtain⟨b3,off3,e3',_,_,_,_,_,_,_,y0,_,_,_,_,_,_,_⟩:=(AA HNR).get (k:=y) (by omega);cases e3';rw[<-AA HC2 _ _ hbl]at y0;have t1:=(M1 (AA HT).o1 (i:=y) hyi).1;have t2:=(M1 (AA HT).o2 (i:=y) hyi).1;rw[T2 (by omega),<-AA HC2 _ _ hg1]at t1;rw[Yu (by omega),<-AA HC2 _ _ hg2]at t2;have hty:=hhi y hyi;have hbg:=hle y hyi;have hkq:(Af ns y).k=ks.getD q 0:=by rw[AA HKD q (by omega),hz];rfl
   rw[hkq]at y0;obtain⟨ty,hty'⟩:∃x,(st.getD y (0,0)).2=x:=⟨_,rfl⟩
   obtain⟨bg,hbg'⟩:∃x,(st.getD y (0,0)).1=x:=⟨_,rfl⟩
   rw[hty']at t2 hty HK2;rw[hbg']at t1 hbg HK2;obtain⟨v,hv⟩:∃x,ks.getD q 0=x:=⟨_,rfl⟩
   rw[hv]at y0;have hck:=(AA HBL).cell (i:=q) (by rw[VM (by omega)];omega);have hfk:=(AA HBL).free q;have HBL2:Hid (Hj (wr.setCell ⟨wo.heap.size+1,q,none⟩ (.int .i64 v)) (wo.heap.size+1) (H8 ks q)):=by have:=(AA HBL).set q v;rw[<-hv,VL (by omega),hv]at this;exact this
   have HBU2:Hid (EF (fun x=>x=wo.heap.size+1) w1 (wr.setCell ⟨wo.heap.size+1,q,none⟩ (.int .i64 v))):=(AA HBU).setCell rfl _;obtain⟨uu,huu⟩:∃x,(H8 ks (q+1)).getD q 0=x:=⟨_,rfl⟩
   rw[huu]at hck;have n1':¬ g1=wo.heap.size+1:=by omega
   have n2':¬ g2=wo.heap.size+1:=by omega
   have n3':¬ b=wo.heap.size+1:=by omega
   clear HK HBL HBU HAI HJ hz hzn hzy hy hkq hv huu hty' hbg' HBW3 HC2 HBOX2;by_cases hcm:hh<ty+1
   .have hcmi:(hh:Int)<(ty:Int)+1:=by omega
    have hmx:max hh (ty+1)=ty+1:=by omega
    rw[hmx]at HK2;go_wp2_with fail;go_roundw;case rel=>exact⟨q,bg,ty+1,_,_,by omega,rfl,by go_num,rfl,rfl,rfl,by omega,by omega,HK2,HBL2,HBU2⟩
    case measure=>simp[intOf]
   .have hcmi:¬(hh:Int)<(ty:Int)+1:=by omega
    have hmx:max hh (ty+1)=hh:=by omega
    rw[hmx]at HK2;go_wp2_with fail;go_roundw;case rel=>exact⟨q,bg,hh,_,_,by omega,rfl,rfl,rfl,rfl,rfl,by omega,by omega,HK2,HBL2,HBU2⟩
    case measure=>simp[intOf]
