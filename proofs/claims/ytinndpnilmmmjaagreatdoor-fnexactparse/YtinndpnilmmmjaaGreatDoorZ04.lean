import Derived.Test.YtinndpnilmmmjaaGreatDoorZ02
set_option maxRecDepth 20000
set_option maxHeartbeats 8000000
set_option linter.defProp false
namespace Go.Proofs.YtinndpnilmmmjaaGreatDoor
open Go.RowKit Tryz
def T6(ns:List AM)(j:Nat):Prop:=(∀q,q<(Af ns j).kids.length->0<=(Af ns j).kids.getD q 0/\(Af ns j).kids.getD q 0<j)/\((Af ns j).k=7->1<=(Af ns j).kids.length)/\((Af ns j).k=9->2<=(Af ns j).kids.length)/\((Af ns j).k=10->3<=(Af ns j).kids.length)
def GT(ns:List AM)(i:Nat):Prop:=∃P:Nat->Prop,P i/\∀j,P j->T6 ns j/\∀q,q<(Af ns j).kids.length->P (CV (Af ns j) q)
def GT.of{ns:List AM}{i:Nat}(h:∀j,j<=i->T6 ns j):GT ns i:=⟨(·<=i),AC,fun j hj=>⟨h j hj,fun q hq=>by have:=(h j hj).1 q hq;have hj':j<=i:=hj;show CV (Af ns j) q<=i;unfold CV;omega⟩⟩
def GT.at{ns:List AM}{j:Nat}(h:GT ns j):T6 ns j:=by obtain⟨P,h1,h2⟩:=h;exact(h2 j h1).1
def GT.kid{ns:List AM}{j q:Nat}(h:GT ns j)(hq:q<(Af ns j).kids.length):(Af ns j).kids.getD q 0=((CV (Af ns j) q:Nat):Int)/\CV (Af ns j) q<j/\GT ns (CV (Af ns j) q):=by have:=h.at.1 q hq;refine⟨by unfold CV;omega,by unfold CV;omega,?_⟩;obtain⟨P,h1,h2⟩:=h;exact⟨P,(h2 j h1).2 q hq,h2⟩
def Je{ns:List AM}{f i:Nat}(h:(Af ns i).k=3):IP ns (f+1) i=true:=by rw[IP,AL h]
def Fx{ns:List AM}{f i j:Nat}(h:(Af ns i).k≠3)(hn:Fy ns i=some j):IP ns (f+1) i=IP ns f j:=by rw[IP,AG h,hn]
def Fw{ns:List AM}{f i:Nat}(h:(Af ns i).k≠3)(hn:Fy ns i=none):IP ns (f+1) i=false:=by rw[IP,AG h,hn]
def Ta{ns:List AM}{i:Nat}(h:(Af ns i).k=7):Fy ns i=some (CV (Af ns i) 0):=by unfold Fy;rw[AL h]
def TZ{ns:List AM}{i:Nat}(h:(Af ns i).k=9)(hp:D0 (Af ns (CV (Af ns i) 0)) 20 23=true):Fy ns i=some (CV (Af ns i) 1):=by unfold Fy;rw[AG (by omega),AL ⟨h,hp⟩]
def PW{ns:List AM}{i:Nat}(h:(Af ns i).k=9)(hp:D0 (Af ns (CV (Af ns i) 0)) 20 23=false):Fy ns i=none:=by unfold Fy;rw[AG (by omega),AG (by rw[hp];simp),AG (by omega)]
def PX{ns:List AM}{i:Nat}(h:(Af ns i).k=10)(hp:D0 (Af ns (CV (Af ns i) 1)) 21 25=true):Fy ns i=some (CV (Af ns i) 2):=by unfold Fy;rw[AG (by omega),AG (by omega),AL ⟨h,hp⟩]
def MJ{ns:List AM}{i:Nat}(h:(Af ns i).k=10)(hp:D0 (Af ns (CV (Af ns i) 1)) 21 25=false):Fy ns i=none:=by unfold Fy;rw[AG (by omega),AG (by omega),AG (by rw[hp];simp)]
def TY{ns:List AM}{i:Nat}(h7:(Af ns i).k≠7)(h9:(Af ns i).k≠9)(h10:(Af ns i).k≠10):Fy ns i=none:=by unfold Fy;rw[AG h7,AG (fun h=>h9 h.1),AG (fun h=>h10 h.1)]
def Jz(a:Option Addr)(n cap:Nat)(ns:List AM)(w:World)(h:I1 w a n ns)(i:Nat)(hi:i<n)(hok:GT ns i):Calls prog 27 #[.slice a n cap,.int .i64 (i:Nat)] w fun e w'=>e=.returned (.bool (Dh ns i))/\Below w.heap.size w w':=by
 obtain⟨r,hr⟩:∃r,Dh ns i=r:=⟨_,rfl⟩
 rw[hr];have HR:Hid (((false||decide ((Af ns i).k≠3))&&IP ns (i+1) i)=r):=by show _=r;rw[Bool.false_or];exact hr
 have hn1:=h.small;have H:=AB h;have HOK:=AB hok;clear hr h hok;go_enter func27,ntmps27;go_wp2_with fail;go_loopw[1,5] (fun v s wr=>∃(j f:Nat)(bs:Bool),v=.int .i64 j/\s=.bool bs/\j<=i/\j<f/\Hid (((bs||decide ((Af ns j).k≠3))&&IP ns f j)=r)/\Hid (Below w.heap.size w wr)/\Hid (GT ns j)) (fun v _ _=>(intOf v).toNat);case atStart=>exact⟨i,i+1,false,rfl,rfl,AC,by omega,HR,AI,HOK⟩
 case round=>
  obtain⟨j,f,bs,rfl,rfl,hj,hf,HX,HB,HOJ⟩:=hrel;clear HR HOK;obtain⟨f',rfl⟩:∃f',f=f'+1:=⟨f- 1,by omega⟩
  have hNR:=(AA H).below AC (AA HB);obtain⟨b,off,rfl,hbl,s1,n1,c1,s2,n2,c2,e0,e1,e2,e3,e4,e5,r1,r2⟩:=hNR.get (k:=j) (by omega);have HNR:=AB hNR;have HR2:=AB r2;have hl2:=r2.len;have HBX:Hid (∀o:Obj,Below w.heap.size w (wr.alloc o)):=fun o=>(AA HB).alloc (AA HB).size _;clear r1 r2 hNR;obtain⟨xn,hxn⟩:∃x,x=(Af ns j).n:=⟨_,rfl⟩
  obtain⟨xm,hxm⟩:∃x,x=(Af ns j).m:=⟨_,rfl⟩
  obtain⟨xs,hxs⟩:∃x,x=(Af ns j).s:=⟨_,rfl⟩
  rw[<-hxn]at e1;rw[<-hxm]at e2;rw[<-hxs]at e3;clear hxn hxm hxs;by_cases h3:(Af ns j).k=3
  .rw[h3]at e0;have HE:Hid (bs=r):=by show _=_;rw[<-AA HX,Je h3,h3];simp
   clear HX h3;go_wp2_with fail;go_ret;exact⟨AN (AA HE),AA HBX _⟩
  have HN:Hid (Fy ns j=none->false=r):=fun hh=>by rw[<-AA HX,Fw h3 hh,Da]
  have HS:Hid (∀j',Fy ns j=some j'->((true||decide ((Af ns j').k≠3))&&IP ns f' j')=r):=fun j' hh=>by rw[<-AA HX,Fx h3 hh,AK h3];simp
  clear HX;by_cases h7:(Af ns j).k=7
  .have Ae:=(AA HOJ).at.2.1 h7;rw[h7]at e0;obtain⟨pv,plt,pok⟩:=(AA HOJ).kid (q:=0) (by omega);obtain⟨pb,po,pe,pl,pc⟩:=(AA HR2).get (k:=0) (by omega);rw[pv]at pc;rw[Ad]at pc;cases pe;have HT:=AB (AA HS _ (Ta h7));obtain⟨z,hz⟩:∃z,CV (Af ns j) 0=z:=⟨_,rfl⟩
   rw[hz]at pc plt HT pok;have HPO:=AB pok;clear pok;have hb0:(0:Int)<(n2:Int):=by omega
   clear hz HS HN h3 h7 pv HNR HR2 Ae hl2;go_wp2_with fail;go_roundw;case rel=>exact⟨z,f',true,rfl,rfl,by omega,by omega,HT,AA HBX _,HPO⟩
   case measure=>simp[intOf];omega
  by_cases h9:(Af ns j).k=9
  .have Ae:=(AA HOJ).at.2.2.1 h9;rw[h9]at e0;obtain⟨pv,plt,pok⟩:=(AA HOJ).kid (q:=0) (by omega);obtain⟨pb,po,pe,pl,pc⟩:=(AA HR2).get (k:=0) (by omega);rw[pv]at pc;rw[Ad]at pc;cases pe;obtain⟨uv,ult,uok⟩:=(AA HOJ).kid (q:=1) (by omega);obtain⟨ub,uo,ue,ul,uc⟩:=(AA HR2).get (k:=1) (by omega);rw[uv]at uc;cases ue;obtain⟨b3,off3,e3',hbl3,_,_,_,_,_,_,y0,y1,_,_,_,_,_,_⟩:=(AA HNR).get (k:=CV (Af ns j) 0) (by omega);cases e3';have HP:Hid (D0 (Af ns (CV (Af ns j) 0)) 20 23=decide ((Af ns (CV (Af ns j) 0)).k=11/\20<=(Af ns (CV (Af ns j) 0)).n/\(Af ns (CV (Af ns j) 0)).n<=23)):=rfl;have HT:Hid (D0 (Af ns (CV (Af ns j) 0)) 20 23=true->_):=fun hh=>AA HS _ (TZ h9 hh);have HF:Hid (D0 (Af ns (CV (Af ns j) 0)) 20 23=false->false=r):=fun hh=>AA HN (PW h9 hh);obtain⟨z,hz⟩:∃z,CV (Af ns j) 0=z:=⟨_,rfl⟩
   rw[hz]at pc plt HP HT HF y0 y1;obtain⟨z',hz'⟩:∃z',CV (Af ns j) 1=z':=⟨_,rfl⟩
   rw[hz']at uc ult HT uok;have HUO:=AB uok;clear uok pok;obtain⟨yk,hyk⟩:∃x,(Af ns z).k=x:=⟨_,rfl⟩
   obtain⟨yn,hyn⟩:∃x,(Af ns z).n=x:=⟨_,rfl⟩
   rw[hyk]at y0 HP;rw[hyn]at y1 HP;have hb0:(0:Int)<(n2:Int):=by omega
   have hb1:(1:Int)<(n2:Int):=by omega
   have hzn:(z:Int)<(n:Int):=by omega
   clear hz hz' hyk hyn HS HN h3 h7 pv uv HNR HR2 Ae hl2 h9;by_cases g0:yk=11;case neg=>
    have hq:=Ai g0;have HE:Hid (false=r):=AA HF (by rw[AA HP,AD (by omega)]);clear HP HT HF g0;go_wp2_with fail;go_ret;exact⟨AN (AA HE),AA HBX _⟩
   subst g0;by_cases g1:yn<20
   .have hq:¬(20:Int)<=yn:=by omega
    have HE:Hid (false=r):=AA HF (by rw[AA HP,AD (by omega)]);clear HP HT HF g1;go_wp2_with fail;go_ret;exact⟨AN (AA HE),AA HBX _⟩
   have hq1:(20:Int)<=yn:=by omega
   by_cases g2:23<yn
   .have hq:¬ yn<=23:=by omega
    have HE:Hid (false=r):=AA HF (by rw[AA HP,AD (by omega)]);clear HP HT HF g1 g2;go_wp2_with fail;go_ret;exact⟨AN (AA HE),AA HBX _⟩
   have hq2:yn<=23:=by omega
   have HTT:=AB (AA HT (by rw[AA HP,AK (by omega)]));clear HP HT HF g1 g2;go_wp2_with fail;go_roundw;case rel=>exact⟨z',f',true,rfl,rfl,by omega,by omega,HTT,AA HBX _,HUO⟩
   case measure=>simp[intOf];omega
  by_cases h10:(Af ns j).k=10
  .have Ae:=(AA HOJ).at.2.2.2 h10;rw[h10]at e0;obtain⟨pv,plt,pok⟩:=(AA HOJ).kid (q:=1) (by omega);obtain⟨pb,po,pe,pl,pc⟩:=(AA HR2).get (k:=1) (by omega);rw[pv]at pc;cases pe;obtain⟨uv,ult,uok⟩:=(AA HOJ).kid (q:=2) (by omega);obtain⟨ub,uo,ue,ul,uc⟩:=(AA HR2).get (k:=2) (by omega);rw[uv]at uc;cases ue;obtain⟨b3,off3,e3',hbl3,_,_,_,_,_,_,y0,y1,_,_,_,_,_,_⟩:=(AA HNR).get (k:=CV (Af ns j) 1) (by omega);cases e3';have HP:Hid (D0 (Af ns (CV (Af ns j) 1)) 21 25=decide ((Af ns (CV (Af ns j) 1)).k=11/\21<=(Af ns (CV (Af ns j) 1)).n/\(Af ns (CV (Af ns j) 1)).n<=25)):=rfl;have HT:Hid (D0 (Af ns (CV (Af ns j) 1)) 21 25=true->_):=fun hh=>AA HS _ (PX h10 hh);have HF:Hid (D0 (Af ns (CV (Af ns j) 1)) 21 25=false->false=r):=fun hh=>AA HN (MJ h10 hh);obtain⟨z,hz⟩:∃z,CV (Af ns j) 1=z:=⟨_,rfl⟩
   rw[hz]at pc plt HP HT HF y0 y1;obtain⟨z',hz'⟩:∃z',CV (Af ns j) 2=z':=⟨_,rfl⟩
   rw[hz']at uc ult HT uok;have HUO:=AB uok;clear uok pok;obtain⟨yk,hyk⟩:∃x,(Af ns z).k=x:=⟨_,rfl⟩
   obtain⟨yn,hyn⟩:∃x,(Af ns z).n=x:=⟨_,rfl⟩
   rw[hyk]at y0 HP;rw[hyn]at y1 HP;have hb0:(1:Int)<(n2:Int):=by omega
   have hb1:(2:Int)<(n2:Int):=by omega
   have hzn:(z:Int)<(n:Int):=by omega
   clear hz hz' hyk hyn HS HN h3 h7 pv uv HNR HR2 Ae hl2 h10;by_cases g0:yk=11;case neg=>
    have hq:=Ai g0;have HE:Hid (false=r):=AA HF (by rw[AA HP,AD (by omega)]);clear HP HT HF g0;go_wp2_with fail;go_ret;exact⟨AN (AA HE),AA HBX _⟩
   subst g0;by_cases g1:yn<21
   .have hq:¬(21:Int)<=yn:=by omega
    have HE:Hid (false=r):=AA HF (by rw[AA HP,AD (by omega)]);clear HP HT HF g1;go_wp2_with fail;go_ret;exact⟨AN (AA HE),AA HBX _⟩
   have hq1:(21:Int)<=yn:=by omega
   by_cases g2:25<yn
   .have hq:¬ yn<=25:=by omega
    have HE:Hid (false=r):=AA HF (by rw[AA HP,AD (by omega)]);clear HP HT HF g1 g2;go_wp2_with fail;go_ret;exact⟨AN (AA HE),AA HBX _⟩
   have hq2:yn<=25:=by omega
   have HTT:=AB (AA HT (by rw[AA HP,AK (by omega)]));clear HP HT HF g1 g2;go_wp2_with fail;go_roundw;case rel=>exact⟨z',f',true,rfl,rfl,by omega,by omega,HTT,AA HBX _,HUO⟩
   case measure=>simp[intOf];omega
  obtain⟨xk,hxk⟩:∃x,(Af ns j).k=x:=⟨_,rfl⟩
  have HE:Hid (false=r):=AA HN (TY h7 h9 h10);rw[hxk]at e0 h3 h7 h9 h10;have q3:=Ai h3;have q7:=Ai h7;have q9:=Ai h9;have q10:=Ai h10;clear hxk HN HS h3 h7 h9 h10 HNR HR2;go_wp2_with fail;go_ret;exact⟨AN (AA HE),AA HBX _⟩
