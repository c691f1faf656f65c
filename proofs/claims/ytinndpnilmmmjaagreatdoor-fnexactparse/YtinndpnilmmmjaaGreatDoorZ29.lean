import Derived.Test.YtinndpnilmmmjaaGreatDoorZ28
set_option maxRecDepth 20000
set_option maxHeartbeats 4000000
set_option linter.defProp false
namespace Go.Proofs.YtinndpnilmmmjaaGreatDoor
open Go.RowKit Go.Proofs.Tryz
def Ym(p:Nat)(w:World):Nat:=match w.cell? ⟨p,1,none⟩with
 |some (.int _ z)=>z.toNat
 |_=>0
section
variable {Z w w0 w1:World}{p i j:Nat}{nd nd0 nd1 v:Value}{zs:List Int}{xs ys:List AW}{bx:List Nat}{ls:List (List AM)}{ta:Option Addr}{tn tc AJ:Nat}{ts:List CO}
def KT.plc(h:KT Z p ta tn tc AJ w0 nd0 xs bx ls i w nd v zs):Ym p w=i:=by obtain⟨_,h1,_⟩:=h.all;unfold Ym;rw[h1];simp
def KT.slice(h:KT Z p ta tn tc AJ w0 nd0 xs bx ls i w nd v zs):∃a c,v=.slice a zs.length c:=EP h.ownR
def ZG(E:BR Z ta tn ts AJ){q:Nat}(h:(AF ts).cl q=1):(Al ts AJ q).k=1/\(Al ts AJ q).n=(AF ts).nv q/\q<ts.length:=by
 have hq:q<ts.length:=Ab ts q (by rw[h];decide);have e:∀b,Al ts b q=ts[q]:=fun b=>by unfold Al;simp[List.getD_eq_getElem?_getD,hq]
 refine⟨(FW E q).1.2 h,?_,hq⟩;show _=(Al ts 0 q).n;rw[e,e]
def XA(E:BR Z ta tn ts AJ)(h:Dl Z p ta tn tc AJ w i nd xs)(hil:i<=ts.length)(htl:ts.length<=4096)(Ae:xs.length<=1048576):Calls prog 218 #[.pointer (some ⟨p,0,none⟩)] w fun e w'=>e=.returned (.int .i64 (xs.length:Nat))/\∃nd',KT Z p ta tn tc AJ w nd xs [] [Ay 1 0 0 ⟨#[]⟩ (Ct (AF ts) (ts.length+1) i) []] (i+(Ct (AF ts) (ts.length+1) i).length) w' nd' A3 []:=by
 obtain⟨i0,hi,hz0,hz1,hz2⟩:=info_parts Dt;have HK:=AB (KT.start h);obtain⟨N,hN⟩:∃N,Ct (AF ts) (ts.length+1) i=N:=⟨_,rfl⟩
 rw[hN];have HN:=AB hN;clear h hN;go_enter func218,ntmps218;go_wp2_with fail;go_loopw[3] (fun u wr=>∃(m f:Nat)(zs:List Int),i+m<=ts.length/\ts.length<f+(i+m)/\Hid (zs.length=m)/\Hid (zs++Ct (AF ts) f (i+m)=N)/\Hid (KT Z p ta tn tc AJ w nd xs [] [] (i+m) wr nd u zs)) (fun _ wr=>ts.length- Ym p wr);case atStart=>exact⟨0,ts.length+1,[],by omega,by omega,rfl,HN,HK⟩
 case round=>
  obtain⟨m,f,zs,hm,hf,HLZ,HZS,HKR⟩:=hrel;clear HN HK;obtain⟨u0,uc,rfl⟩:=(AA HKR).slice;obtain⟨f',rfl⟩:∃f',f=f'+1:=⟨f- 1,by omega⟩
  obtain⟨j,hj⟩:∃j,i+m=j:=⟨_,rfl⟩
  rw[hj]at HKR HZS hm hf;obtain⟨XS,hXS,_,_⟩:=(AA HKR).ps;have HA:=AB (fun(V:World)(hV:Below _ _ V)=>Bj E hXS (by omega) hV 0 (by omega));rw[Ad]at HA;have hzl:=(AA HKR).low.size;have HPL:=AB (AA HKR).plc;clear hXS;by_cases h1:(AF ts).cl j=1;case pos=>
   obtain⟨e1,e2,e3⟩:=ZG E (AJ:=AJ) h1;have HZ2:Hid ((zs++ [(AF ts).nv j])++Ct (AF ts) f' (j+1)=N):=by show _=_;rw[<-AA HZS,Ct,AL h1,Aj];rfl
   obtain⟨⟨yk,yn,yt,yp⟩,hy⟩:∃y,Al ts AJ j=y:=⟨_,rfl⟩
   rw[hy]at e1 e2 HA;dsimp only at e1 e2;subst e1;rw[<-e2]at HZ2;unfold Bi at HA;have hf0:∀W,(Instr.field 64 (.agg #[.int .i64 1,.int .i64 yn,.string yt,.int .i64 (yp:Nat)]) 0).run prog W=.ok (.int .i64 1) W:=fun W=>by kernel_rfl
   have hf1:∀W,(Instr.field 64 (.agg #[.int .i64 1,.int .i64 yn,.string yt,.int .i64 (yp:Nat)]) 1).run prog W=.ok (.int .i64 yn) W:=fun W=>by kernel_rfl
   clear h1 hy e2 HZS;have HB0:=AB (AI:Below wr.heap.size wr wr);have hzs:zs.length<=4096:=by have:=AA HLZ;omega
   have hw1:IntKind.i64.wrap ((j:Int)+1)=(j:Int)+1:=by rw[IntKind.wrap_i64];omega
   go_wp2_with(first|(go_at_call 158;refine(AA HA _ (AA HB0)).mono ?_;rintro e w5⟨rfl,hb5⟩;have HB1:=AB ((AA HB0).trans (hb5.mono (AA HB0).size));have hzl5:=(AA HB1).size;clear hb5 HB0;have HB0:=HB1;clear HB1)|(at_builtin;refine wpList_append_lies _ rfl _ _ 45 rfl Z.heap.size 3 i0 (.int .i64 0) 1 8 underlying45 hi hz0 hz1 hz2 rfl (by decide) _ _ _ rfl (KT.below (KT.below (AA HKR) (AA HB0)) (AI.alloc AC (.cells #[.int .i64 yn] 3))).ownR ⟨w5.heap.size,0,none⟩ 1 1 [.int .i64 yn] rfl rfl (Dy _ _) (GM _) (by omega) (by unfold maxLen;omega) (by omega) (by simp;omega) (w5.heap.size+1) (by simp) ?_;intro g' CW w7 A2 Au hat Cu;obtain⟨hk7,_⟩:=KT.grew (KT.below (KT.below (AA HKR) (AA HB0)) (AI.alloc AC (.cells #[.int .i64 yn] 3))) A2 Au hat (by simp);obtain⟨p0,p1,p2,p3,f0,f1,f2,f3,hpl⟩:=hk7.all;have HK7:=AB hk7;clear hk7 A2 Au hat Cu));have HK8:=AB ((AA HK7).step 1 ((j:Int)+1) (by omega));have HP8:=AB (AA HK8).plc;go_roundw;case rel=>exact⟨m+1,f',zs++ [yn],by omega,by omega,by show(zs++ [yn]).length=m+1;rw[AH,AA HLZ];rfl,by show _=_;rw[<-Ci,hj];exact AA HZ2,by show KT _ _ _ _ _ _ _ _ _ _ _ _ _ _ _ _;rw[<-Ci,hj];have:=AA HK8;simpa using this⟩
   case measure=>rw[AA HPL,AA HP8];omega
  case neg=>
   have HZ2:Hid (zs=N):=by show _=_;rw[<-AA HZS,Ct,AG h1,A6]
   have e1:(Al ts AJ j).k≠1:=fun e=>h1 ((FW E j).1.1 e);obtain⟨⟨yk,yn,yt,yp⟩,hy⟩:∃y,Al ts AJ j=y:=⟨_,rfl⟩
   rw[hy]at e1 HA;dsimp only at e1;have hd1:(yk==1)=false:=by simpa using e1
   unfold Bi at HA;have hf0:∀W,(Instr.field 64 (.agg #[.int .i64 yk,.int .i64 yn,.string yt,.int .i64 (yp:Nat)]) 0).run prog W=.ok (.int .i64 yk) W:=fun W=>by kernel_rfl
   clear h1 hy e1 HZS;have HB0:=AB (AI:Below wr.heap.size wr wr);have HLN:=AB Ae;go_wp2_with(first|(go_at_call 158;refine(AA HA _ (AA HB0)).mono ?_;rintro e w5⟨rfl,hb5⟩;have HK5:=AB ((AA HKR).below hb5);clear hb5 HB0 HA)|(go_at_call 104;refine(KT.putN (AA HK5) 1 0 0 ⟨#[]⟩ (AA HLN)).mono ?_;rintro e w9⟨rfl,nd9,hk9⟩;have HK9:=AB hk9;clear hk9));go_ret;refine⟨rfl,nd9,?_⟩;have hk:=AA HK9;rw[AA HZ2]at hk;have hl:i+N.length=j:=by rw[<-AA HZ2,AA HLZ];exact hj
   rw[hl];exact hk
end
def D7(X:DN)(c:Nat)(Lv:Nat->Option B1):Nat->Nat->Option B1
 |0,_=>none
 |f+1,i=>A7 (Lv i) fun q l=>if X.cl q=c then A7 (D7 X c Lv f (q+1)) fun q2 l2=>C4 q2 (l++l2)else C4 q l
def T7(Z:World)(p:Nat)(ta:Option Addr)(tn tc:Nat)(ts:List CO)(AJ:Nat)(w0:World)(nd0:Value)(xs:List AW)(r:B1)(e:Ending)(w':World):Prop:=(r.1=true/\∃nd' a c,e=.returned (.tuple #[.slice a (BB xs.length r.2.2).length c,.nilIface])/\KT Z p ta tn tc AJ w0 nd0 xs [] r.2.2 r.2.1 w' nd' (.slice a (BB xs.length r.2.2).length c) (BB xs.length r.2.2))\/(r.1=false/\∃b a n c,e=.returned (.tuple #[.slice a n c,Bt b])/\EK w' b (Al ts AJ r.2.1).p/\Below Z.heap.size Z w')
def FT(Z:World)(p:Nat)(ta:Option Addr)(tn tc:Nat)(ts:List CO)(AJ:Nat)(f:Nat)(args:Array Value)(i:Nat)(r:B1):Prop:=∀w nd xs,PS 88 Z p (.slice ta tn tc) (.int .i64 (AJ:Nat)) w i nd xs->xs.length+4*(5000- i)<=100000->Calls prog f args w (T7 Z p ta tn tc ts AJ w nd xs r)
section
variable {Z w w0 w1:World}{p i j:Nat}{nd nd0 nd1 v:Value}{zs:List Int}{xs ys:List AW}{bx:List Nat}{ls:List (List AM)}{ta:Option Addr}{tn tc AJ:Nat}{ts:List CO}
def BG{x:Option B1}{k:Nat->List (List AM)->Option B1}{r:B1}(h:A7 x k=some r):(∃q l,x=some (true,q,l)/\k q l=some r)\/(∃q l,x=some (false,q,l)/\r=(false,q,[])):=by
 cases x with
 |none=>cases h
 |some y=>
  obtain⟨b,q,l⟩:=y;cases b with
  |true=>exact .inl ⟨q,l,rfl,h⟩
  |false=>cases h;exact .inr ⟨q,l,rfl,rfl⟩
def S3{x:Option B1}{ls l:List (List AM)}:A7 (A7 x fun q2 l2=>C4 q2 (l++l2)) (fun q2 l2=>C4 q2 (ls++l2))=A7 x fun q2 l2=>C4 q2 ((ls++l)++l2):=by
 cases x with
 |none=>rfl
 |some y=>
  obtain⟨b,q,l'⟩:=y;cases b with
  |true=>show C4 q (ls++(l++l'))=C4 q ((ls++l)++l');rw[Aj]
  |false=>rfl
def LU:∀ls:List (List AM),(DW ls).length=ls.length
 | []=>rfl
 |l::ls=>by rw[DW,Ba,AS,LU ls,Ba]
def KJ(n:Nat)(ls:List (List AM)):(BB n ls).length=ls.length:=by unfold BB;rw[AS,LU]
def My(n:Nat)(ls:List (List AM))(t:List AM)(z:Int)(hz:z=((n+(Az (ls++ [t])).length:Nat):Int)- 1):BB n ls++ [z]=BB n (ls++ [t]):=by rw[Ij,Ec,hz,EI,BL];congr 2;omega
def bP(E:BR Z ta tn ts AJ)(htl:ts.length<=4096){c g:Nat}(eg:∀args w,(callFunc g args).run prog w=.ok (.enter g args) w)(hc:c∈Ar){s:AE}(hs:s=BU (BW ((c:Nat):Int))){Lv:Nat->Option B1}(hL:∀j q l,j<=ts.length->Lv j=some (true,q,l)->∃t,l= [t]/\j<=q/\q<=ts.length/\t.length<=4*(q- j)+1)(hR:∀j r,j<=ts.length->Lv j=some r->BS Z p ta tn tc ts AJ g #[.pointer (some ⟨p,0,none⟩)] j r){f0:Nat}{r:B1}(hr:A7 (D7 (AF ts) c Lv f0 i) (fun q2 l2=>C4 q2 ([]++l2))=some r)(hil:i<=ts.length):FT Z p ta tn tc ts AJ 101 #[.pointer (some ⟨p,0,none⟩),.string s,.func (.func g) #[.pointer (some ⟨p,0,none⟩)] #[]] i r:=by
 intro w nd xs h AQ;obtain⟨i0,hi,hz0,hz1,hz2⟩:=info_parts Dt;have HK:=AB (KT.start h);have HT0:=AB hr;have HLV:=AB hL;have HRD:=AB hR;have HTY:=AB (fun(V:World)(n u:Value)(ms:List (List AM))(us:List Int)(q:Nat)(hq:q<=4200)(hy:(AF ts).cl q=c)(hk:KT Z p ta tn tc AJ w nd xs [] ms q V n u us)=>hk.via fun _ hX=>Gf E (BE.start hX) hq hc hs hy);have HTN:=AB (fun(V:World)(n u:Value)(ms:List (List AM))(us:List Int)(q:Nat)(hq:q<=4200)(hy:(AF ts).cl q≠c)(hk:KT Z p ta tn tc AJ w nd xs [] ms q V n u us)=>hk.via fun _ hX=>DQ E (BE.start hX) hq hc hs hy);have hc0:c≠0:=by have:40<=c:=AT (Ax.mp If c hc);omega
 clear h hr hL hR hc hs;go_enter func101,ntmps101;go_wp2_with fail;go_loopw[8] (fun u wr=>∃(j f:Nat)(ls:List (List AM))(n:Value),j<=ts.length/\xs.length+(Az ls).length+4*(5000- j)<=100000/\ls.length<=j/\Hid (A7 (D7 (AF ts) c Lv f j) (fun q2 l2=>C4 q2 (ls++l2))=some r)/\Hid (KT Z p ta tn tc AJ w nd xs [] ls j wr n u (BB xs.length ls))) (fun _ wr=>ts.length+1- Ym p wr);case atStart=>exact⟨i,f0,[],nd,hil,AQ,AZ _,HT0,HK⟩
 case round=>
  obtain⟨j,f,ls,n,hj,hrm,hlj,HT,HKR⟩:=hrel;clear HK HT0 hil AQ;obtain⟨u0,uc,rfl⟩:=(AA HKR).slice;have HPL:=AB (AA HKR).plc;have hpz:(BB xs.length ls).length<=4096:=by rw[KJ];omega
  have hzl:=(AA HKR).low.size;cases f with
  |zero=>exact absurd (AA HT) (by simp[D7,A7])
  |succ f=>
   have hT:=AA HT;rw[D7]at hT;cases hv:Lv j with
   |none=>rw[hv]at hT;cases hT
   |some y=>
    obtain⟨b,q,l⟩:=y;rw[hv]at hT;cases b with
    |false=>
     have hr:(false,q,[])=r:=by cases hT;rfl
     have HX:=AB ((AA HKR).readNo (AA HRD j _ hj hv) hrm);subst hr;clear hT hv HT HKR;go_wp2_with(go_at_fn g;refine(AA HX).mono ?_;rintro e w5⟨b,z,rfl,hf,hb⟩;have HF:=AB (And.intro hf hb);clear hf hb;delta Bt);go_ret2;exact .inr ⟨rfl,b,none,0,0,rfl,(AA HF).1,(AA HF).2⟩
    |true=>
     obtain⟨t,rfl,hq1,hq2,hq3⟩:=AA HLV j q l hj hv;have HX:=AB ((AA HKR).read (AA HRD j _ hj hv) hrm);have hrw:(Az (ls++ [t])).length=(Az ls).length+t.length:=by rw[EI,BL]
     obtain⟨P,hP⟩:∃P,BB xs.length ls=P:=⟨_,rfl⟩
     have HPP:Hid (∀z:Int,z=((xs.length+(Az (ls++ [t])).length:Nat):Int)- 1->P++ [z]=BB xs.length (ls++ [t])):=fun z hz=>by rw[<-hP];exact My _ _ _ _ hz
     rw[hP]at hpz HX HKR ⊢;clear HT;by_cases hcq:(AF ts).cl q=c;case pos=>
      have HT2:Hid (A7 (D7 (AF ts) c Lv f (q+1)) (fun q2 l2=>C4 q2 ((ls++ [t])++l2))=some r):=by have hT':A7 (if(AF ts).cl q=c then A7 (D7 (AF ts) c Lv f (q+1)) (fun q2 l2=>C4 q2 ([t]++l2))else C4 q [t]) (fun q2 l2=>C4 q2 (ls++l2))=some r:=hT;rw[AL hcq,S3]at hT';exact hT'
      have hq4:q<ts.length:=Ab ts q (by rw[hcq];exact hc0);clear hT hv HKR hP;go_wp2_with(first|(go_at_fn g;refine(AA HX).mono ?_;rintro e w5⟨z,nd',rfl,hz,hk,_⟩;have HK5:=AB (hk.below (AI.alloc AC (.cells #[.int .i64 z] 3)));have HPZ:=AB (AA HPP z hz);have hzl5:=hk.low.size;clear hk hz HX)|(at_builtin;refine wpList_append_lies _ rfl _ _ 45 rfl Z.heap.size 3 i0 (.int .i64 0) 1 8 underlying45 hi hz0 hz1 hz2 rfl (by decide) _ _ _ rfl (AA HK5).ownR ⟨w5.heap.size,0,none⟩ 1 1 [.int .i64 z] rfl rfl (Dy _ _) (GM _) (by omega) (by unfold maxLen;omega) (by omega) (by simp;omega) (w5.heap.size+1) (by simp) ?_;intro g' CW w7 A2 Au hat Cu;obtain⟨hk7,_⟩:=KT.grew (AA HK5) A2 Au hat (by simp);rw[AA HPZ]at hk7;have HK7:=AB hk7;clear hk7 A2 Au hat Cu)|(go_at_call 157;refine(AA HTY _ _ _ _ _ q (by omega) hcq (AA HK7)).mono ?_;rintro e w9⟨rfl,hk9,_⟩;have HK9:=AB hk9;have HP9:=AB hk9.plc;clear hk9));go_roundw;case rel=>exact⟨q+1,f,ls++ [t],nd',by omega,by omega,by rw[AH];show _+1<=_;omega,HT2,HK9⟩
      case measure=>rw[AA HPL,AA HP9];omega
     case neg=>
      have hr:(true,q,ls++ [t])=r:=by have hT':A7 (if(AF ts).cl q=c then A7 (D7 (AF ts) c Lv f (q+1)) (fun q2 l2=>C4 q2 ([t]++l2))else C4 q [t]) (fun q2 l2=>C4 q2 (ls++l2))=some r:=hT;rw[AG hcq]at hT';cases hT';rfl
      subst hr;clear hT hv HKR hP;go_wp2_with(first|(go_at_fn g;refine(AA HX).mono ?_;rintro e w5⟨z,nd',rfl,hz,hk,_⟩;have HK5:=AB (hk.below (AI.alloc AC (.cells #[.int .i64 z] 3)));have HPZ:=AB (AA HPP z hz);have hzl5:=hk.low.size;clear hk hz HX)|(at_builtin;refine wpList_append_lies _ rfl _ _ 45 rfl Z.heap.size 3 i0 (.int .i64 0) 1 8 underlying45 hi hz0 hz1 hz2 rfl (by decide) _ _ _ rfl (AA HK5).ownR ⟨w5.heap.size,0,none⟩ 1 1 [.int .i64 z] rfl rfl (Dy _ _) (GM _) (by omega) (by unfold maxLen;omega) (by omega) (by simp;omega) (w5.heap.size+1) (by simp) ?_;intro g' CW w7 A2 Au hat Cu;obtain⟨hk7,_⟩:=KT.grew (AA HK5) A2 Au hat (by simp);have HK7:=AB hk7;clear hk7 A2 Au hat Cu)|(go_at_call 157;refine(AA HTN _ _ _ _ _ q (by omega) hcq (AA HK7)).mono ?_;rintro e w9⟨rfl,hk9,_⟩;have HK9:=AB hk9;clear hk9));go_ret2;have hk:=AA HK9;have el:P.length+1=(BB xs.length (ls++ [t])).length:=by rw[<-AA HPZ,AH];rfl
      rw[AA HPZ,el]at hk;rw[el];exact .inl ⟨rfl,nd',_,_,rfl,hk⟩
end
section
variable {Z w w0 w1:World}{p i j:Nat}{nd nd0 nd1 v:Value}{zs:List Int}{xs ys:List AW}{bx:List Nat}{ls:List (List AM)}{ta:Option Addr}{tn tc AJ:Nat}{ts:List CO}
def KT.readL{f:Nat}{args:Array Value}{q:Nat}{l:List (List AM)}(hR:FT Z p ta tn tc ts AJ f args i (true,q,l))(h:KT Z p ta tn tc AJ w0 nd0 xs bx ls i w nd v zs)(AQ:xs.length+(Az ls).length+4*(5000- i)<=100000):Calls prog f args w fun e w'=>∃nd' a c,e=.returned (.tuple #[.slice a (BB (xs.length+(Az ls).length) l).length c,.nilIface])/\KT Z p ta tn tc AJ w0 nd0 xs bx (ls++l) q w' nd' (.slice a (BB (xs.length+(Az ls).length) l).length c) (BB (xs.length+(Az ls).length) l)/\Eh bx w w':=by
 obtain⟨ys,hm,hd,ho,hf,hx⟩:=h;have hl:(xs++ys).length=xs.length+(Az ls).length:=by have:=AV List.length hd;rw[AS,FE]at this;rw[AH,this]
 refine(hR w nd (xs++ys) hm.ps (by rw[hl];exact AQ)).mono ?_;rintro e w'(⟨_,nd',a,c,rfl,us,hm',hd',ho',hf',_⟩|⟨h',_⟩)
 .rw[hl]at hd' ho' hf' ⊢;refine⟨nd',a,c,rfl,⟨ys++us,hm.go hm',?_,ho',fun b hb=>⟨Aw hm.but.size (hf' b hb).1,by rw[<-Aj];exact(hf' b hb).2⟩,fun k hk=> ?_⟩,fun k hk=> ?_⟩
  .rw[Ao,hd,hd',Ih,IN,Jd]
  .obtain⟨h1,h2,h3,h4,h5,h6,h7⟩:=hx k hk;refine⟨h1,h2,AX h3 hm'.but.size,h4,fun e=> ?_,fun hc=> ?_,fun e=> ?_⟩
   .rcases hm'.at_ with h'|h'
    .exact h5 (h'▸e)
    .have:=h' k e;omega
   .rw[<-Aj,DE]at hc;rcases Ak.1 hc with h'|h'
    .exact h6 h'
    .have:=hm'.new k h';omega
   .have:=(hf' k e).1;omega
  .obtain⟨h1,h2,h3,h4,h5,h6,h7⟩:=hx k hk;exact hm'.but.block k h3 (by rintro(rfl|e);exact h4 rfl;exact h5 e)
 .cases h'
def KT.putL{s2:Option Addr}{n2 c2:Nat}{L:List Int}(hL:BB xs.length ls=L)(h:KT Z p ta tn tc AJ w0 nd0 xs bx ls i w nd (.slice s2 n2 c2) L)(k n m:Int)(s:AE)(Ae:xs.length+(Az ls).length<=1048576):Calls prog 104 #[.pointer (some ⟨p,0,none⟩),.agg #[.int .i64 k,.int .i64 n,.int .i64 m,.string s,.slice none 0 0,.slice s2 n2 c2]] w fun e w'=>e=.returned (.int .i64 ((xs.length+(Az ls).length:Nat)))/\∃nd',KT Z p ta tn tc AJ w0 nd0 xs [] [Ay k n m s [] ls] i w' nd' A3 []:=by subst hL;exact KT.put h k n m s Ae
def KT.readLNo{f:Nat}{args:Array Value}{q:Nat}{l:List (List AM)}(hR:FT Z p ta tn tc ts AJ f args i (false,q,l))(h:KT Z p ta tn tc AJ w0 nd0 xs bx ls i w nd v zs)(AQ:xs.length+(Az ls).length+4*(5000- i)<=100000):Calls prog f args w fun e w'=>∃b a n c,e=.returned (.tuple #[.slice a n c,Bt b])/\EK w' b (Al ts AJ q).p/\Below Z.heap.size Z w':=by
 obtain⟨XS,hX,hl,_⟩:=h.ps;refine(hR w nd XS hX (by rw[hl];exact AQ)).mono ?_;rintro e w'(⟨h',_⟩|⟨_,b,a,n,c,he,hf,hb⟩)
 .cases h'
 .exact⟨b,a,n,c,he,hf,hb⟩
def Wo(E:BR Z ta tn ts AJ)(h:Dl Z p ta tn tc AJ w i nd xs)(hi:i<=4100)(AQ:xs.length+4*(5000- i)<=100000){q:Nat}{l:List (List AM)}(hq:q<=4100)(h91:(AF ts).cl i=91)(hS:FT Z p ta tn tc ts AJ 101 #[.pointer (some ⟨p,0,none⟩),.string ⟨#[59]⟩,.func (.func 217) #[.pointer (some ⟨p,0,none⟩)] #[]] (i+1) (true,q,l))(h93:(AF ts).cl q=93):Calls prog 194 #[.pointer (some ⟨p,0,none⟩)] w (T7 Z p ta tn tc ts AJ w nd xs (true,q+1,l)):=by
 have HK:=AB (KT.start h);obtain⟨L,hL⟩:∃L,BB xs.length l=L:=⟨_,rfl⟩
 have K0:=AB (fun(V:World)(n u:Value)(hk:KT Z p ta tn tc AJ w nd xs [] [] i V n u [])=>hk.via fun _ hX=>Cx E (BE.start hX) (by omega) Mh Mi h91);have K1:=AB (fun(V:World)(n u:Value)(hk:KT Z p ta tn tc AJ w nd xs [] [] (i+1) V n u [])=>KT.readL hS hk (by show _+0+_<=_;omega));have e1:BB (xs.length+(Az ([]:List (List AM))).length) l=L:=hL;rw[e1]at K1;have K2:=AB (fun(V:World)(n u:Value)(hk:KT Z p ta tn tc AJ w nd xs [] ([]++l) q V n u L)=>hk.via fun _ hX=>Cx E (BE.start hX) (by omega) UT UU h93);clear h hS h91 h93;go_enter func194,ntmps194;go_wp2_with(first|(go_at_call 195;refine(AA K0 _ _ _ (AA HK)).mono ?_;rintro e w5⟨rfl,hk,_⟩;clear HK K0;have HK:=AB hk;clear hk)|(go_at_call 101;refine(AA K1 _ _ _ (AA HK)).mono ?_;rintro e w5⟨nd5,a5,c5,rfl,hk,_⟩;clear HK K1;have HK:=AB hk;clear hk)|(go_at_call 195;refine(AA K2 _ _ _ (AA HK)).mono ?_;rintro e w5⟨rfl,hk,_⟩;clear HK K2;have HK:=AB hk;clear hk));go_ret2;refine .inl ⟨rfl,nd5,a5,c5,?_,?_⟩
 .show _=Ending.returned (.tuple #[.slice a5 (BB xs.length l).length c5,.nilIface]);first|(rw[hL];done)|(rw[hL];rfl)
 .show KT Z p ta tn tc AJ w nd xs [] l (q+1) _ nd5 (.slice a5 (BB xs.length l).length c5) (BB xs.length l);rw[hL];exact AA HK
def Wp(E:BR Z ta tn ts AJ)(h:Dl Z p ta tn tc AJ w i nd xs)(hi:i<=4100)(AQ:xs.length+4*(5000- i)<=100000){q:Nat}{l:List (List AM)}(hq:q<=4100)(h91:(AF ts).cl i=91)(hS:FT Z p ta tn tc ts AJ 101 #[.pointer (some ⟨p,0,none⟩),.string ⟨#[59]⟩,.func (.func 217) #[.pointer (some ⟨p,0,none⟩)] #[]] (i+1) (true,q,l))(h93:(AF ts).cl q≠93):Calls prog 194 #[.pointer (some ⟨p,0,none⟩)] w (T7 Z p ta tn tc ts AJ w nd xs (false,q,[])):=by
 have HK:=AB (KT.start h);obtain⟨L,hL⟩:∃L,BB xs.length l=L:=⟨_,rfl⟩
 have K0:=AB (fun(V:World)(n u:Value)(hk:KT Z p ta tn tc AJ w nd xs [] [] i V n u [])=>hk.via fun _ hX=>Cx E (BE.start hX) (by omega) Mh Mi h91);have K1:=AB (fun(V:World)(n u:Value)(hk:KT Z p ta tn tc AJ w nd xs [] [] (i+1) V n u [])=>KT.readL hS hk (by show _+0+_<=_;omega));have e1:BB (xs.length+(Az ([]:List (List AM))).length) l=L:=hL;rw[e1]at K1;have K2:=AB (fun(V:World)(n u:Value)(hk:KT Z p ta tn tc AJ w nd xs [] ([]++l) q V n u L)=>hk.no (e0:=fun b=>.returned (Bt b)) fun _ hX=>Ji E (BE.start hX) (by omega) UT UU h93);clear h hS h91 h93;go_enter func194,ntmps194;go_wp2_with(first|(go_at_call 195;refine(AA K0 _ _ _ (AA HK)).mono ?_;rintro e w5⟨rfl,hk,_⟩;clear HK K0;have HK:=AB hk;clear hk)|(go_at_call 101;refine(AA K1 _ _ _ (AA HK)).mono ?_;rintro e w5⟨nd5,a5,c5,rfl,hk,_⟩;clear HK K1;have HK:=AB hk;clear hk)|(go_at_call 195;refine(AA K2 _ _ _ (AA HK)).mono ?_;rintro e w5⟨b,rfl,hf,hb⟩;have HF:=AB (And.intro hf hb);clear hf hb;delta Bt));go_ret2;exact .inr ⟨rfl,b,_,_,_,rfl,(AA HF).1,(AA HF).2⟩
def Ue(E:BR Z ta tn ts AJ)(h:Dl Z p ta tn tc AJ w i nd xs)(hi:i<=4100)(AQ:xs.length+4*(5000- i)<=100000){q:Nat}{l:List (List AM)}(h91:(AF ts).cl i=91)(hS:FT Z p ta tn tc ts AJ 101 #[.pointer (some ⟨p,0,none⟩),.string ⟨#[59]⟩,.func (.func 217) #[.pointer (some ⟨p,0,none⟩)] #[]] (i+1) (false,q,l)):Calls prog 194 #[.pointer (some ⟨p,0,none⟩)] w (T7 Z p ta tn tc ts AJ w nd xs (false,q,[])):=by have HK:=AB (KT.start h);have K0:=AB (fun(V:World)(n u:Value)(hk:KT Z p ta tn tc AJ w nd xs [] [] i V n u [])=>hk.via fun _ hX=>Cx E (BE.start hX) (by omega) Mh Mi h91);have K1:=AB (fun(V:World)(n u:Value)(hk:KT Z p ta tn tc AJ w nd xs [] [] (i+1) V n u [])=>KT.readLNo hS hk (by show _+0+_<=_;omega));clear h hS h91;go_enter func194,ntmps194;go_wp2_with(first|(go_at_call 195;refine(AA K0 _ _ _ (AA HK)).mono ?_;rintro e w5⟨rfl,hk,_⟩;clear HK K0;have HK:=AB hk;clear hk)|(go_at_call 101;refine(AA K1 _ _ _ (AA HK)).mono ?_;rintro e w5⟨b,a5,n5,c5,rfl,hf,hb⟩;have HF:=AB (And.intro hf hb);clear hf hb;delta Bt));go_ret2;exact .inr ⟨rfl,b,_,_,_,rfl,(AA HF).1,(AA HF).2⟩
def RN(E:BR Z ta tn ts AJ)(h:Dl Z p ta tn tc AJ w i nd xs)(hi:i<=4100)(AQ:xs.length+4*(5000- i)<=100000)(h1:(AF ts).cl i=123)(h2:(AF ts).cl (i+1)=125):Calls prog 192 #[.pointer (some ⟨p,0,none⟩)] w (BK Z p ta tn tc ts AJ w nd xs (true,i+1+1,[Ay 16 0 0 ⟨#[]⟩ [] []])):=by have HK:=AB (KT.start h);have K0:=AB (fun(V:World)(n u:Value)(hk:KT Z p ta tn tc AJ w nd xs [] [] i V n u [])=>hk.via fun _ hX=>Cx E (BE.start hX) (by omega) Fb Fc h1);have K1:=AB (fun(V:World)(n u:Value)(hk:KT Z p ta tn tc AJ w nd xs [] [] (i+1) V n u [])=>hk.via fun _ hX=>Lg E (BE.start hX) (by omega) Iu Iv h2);have K2:=AB (fun(V:World)(n u:Value)(hk:KT Z p ta tn tc AJ w nd xs [] [] (i+1) V n u [])=>hk.via fun _ hX=>Cx E (BE.start hX) (by omega) Iu Iv h2);clear h h1 h2;go_enter func192,ntmps192;go_wp2_with(first|(go_at_call 195;refine(AA K0 _ _ _ (AA HK)).mono ?_;rintro e w5⟨rfl,hk,_⟩;clear HK K0;have HK:=AB hk;clear hk)|(go_at_call 191;refine(AA K1 _ _ _ (AA HK)).mono ?_;rintro e w5⟨rfl,hk,_⟩;clear HK K1;have HK:=AB hk;clear hk)|(go_at_call 195;refine(AA K2 _ _ _ (AA HK)).mono ?_;rintro e w5⟨rfl,hk,_⟩;clear HK K2;have HK:=AB hk;clear hk)|(go_at_call 104;have hk8:=AA HK;refine(KT.put hk8 16 0 0 ⟨#[]⟩ (by show _+0<=_;omega)).mono ?_;clear hk8;rintro e w9⟨rfl,nd9,hk9⟩;have HK9:=AB hk9;clear hk9));go_ret2;refine(AA HK9).gave rfl ?_;rw[BL,CN];have e0:(Az ([]:List (List AM))).length=0:=rfl;omega
def VZ(E:BR Z ta tn ts AJ)(h:Dl Z p ta tn tc AJ w i nd xs)(hi:i<=4100)(AQ:xs.length+4*(5000- i)<=100000){q:Nat}{l:List (List AM)}(hq:q<=4100)(h1:(AF ts).cl i=123)(h2:(AF ts).cl (i+1)≠125)(hS:FT Z p ta tn tc ts AJ 101 #[.pointer (some ⟨p,0,none⟩),.string ⟨#[226,139,132]⟩,.func (.func 215) #[.pointer (some ⟨p,0,none⟩)] #[]] (i+1) (true,q,l))(h3:(AF ts).cl q=125)(Ae:xs.length+(Az l).length<=1048576):Calls prog 192 #[.pointer (some ⟨p,0,none⟩)] w (BK Z p ta tn tc ts AJ w nd xs (true,q+1,[Ay 16 0 0 ⟨#[]⟩ [] l])):=by
 have HK:=AB (KT.start h);obtain⟨L,hL⟩:∃L,BB xs.length l=L:=⟨_,rfl⟩
 have K0:=AB (fun(V:World)(n u:Value)(hk:KT Z p ta tn tc AJ w nd xs [] [] i V n u [])=>hk.via fun _ hX=>Cx E (BE.start hX) (by omega) Fb Fc h1);have K1:=AB (fun(V:World)(n u:Value)(hk:KT Z p ta tn tc AJ w nd xs [] [] (i+1) V n u [])=>hk.via fun _ hX=>L2 E (BE.start hX) (by omega) Iu Iv h2);have K2:=AB (fun(V:World)(n u:Value)(hk:KT Z p ta tn tc AJ w nd xs [] [] (i+1) V n u [])=>KT.readL hS hk (by show _+0+_<=_;omega));have e2:BB (xs.length+(Az ([]:List (List AM))).length) l=L:=hL;rw[e2]at K2;have K3:=AB (fun(V:World)(n u:Value)(hk:KT Z p ta tn tc AJ w nd xs [] ([]++l) q V n u L)=>hk.via fun _ hX=>Cx E (BE.start hX) (by omega) Iu Iv h3);clear h hS h1 h2 h3;go_enter func192,ntmps192;go_wp2_with(first|(go_at_call 195;refine(AA K0 _ _ _ (AA HK)).mono ?_;rintro e w5⟨rfl,hk,_⟩;clear HK K0;have HK:=AB hk;clear hk)|(go_at_call 191;refine(AA K1 _ _ _ (AA HK)).mono ?_;rintro e w5⟨rfl,hk,_⟩;clear HK K1;have HK:=AB hk;clear hk)|(go_at_call 101;refine(AA K2 _ _ _ (AA HK)).mono ?_;rintro e w5⟨nd5,a5,c5,rfl,hk,_⟩;clear HK K2;have HK:=AB hk;clear hk)|(go_at_call 195;refine(AA K3 _ _ _ (AA HK)).mono ?_;rintro e w5⟨rfl,hk,_⟩;clear HK K3;have HK:=AB hk;clear hk)|(go_at_call 104;refine(KT.putL (ls:= []++l) hL (AA HK) 16 0 0 ⟨#[]⟩ Ae).mono ?_;rintro e w9⟨rfl,nd9,hk9⟩;have HK9:=AB hk9;clear hk9));go_ret2;refine(AA HK9).gave rfl ?_;rw[BL,CN];have e0:(Az ([]++l)).length=(Az l).length:=rfl;omega
def Va(E:BR Z ta tn ts AJ)(h:Dl Z p ta tn tc AJ w i nd xs)(hi:i<=4100)(AQ:xs.length+4*(5000- i)<=100000){q:Nat}{l:List (List AM)}(hq:q<=4100)(h1:(AF ts).cl i=123)(h2:(AF ts).cl (i+1)≠125)(hS:FT Z p ta tn tc ts AJ 101 #[.pointer (some ⟨p,0,none⟩),.string ⟨#[226,139,132]⟩,.func (.func 215) #[.pointer (some ⟨p,0,none⟩)] #[]] (i+1) (true,q,l))(h3:(AF ts).cl q≠125):Calls prog 192 #[.pointer (some ⟨p,0,none⟩)] w (BK Z p ta tn tc ts AJ w nd xs (false,q,[])):=by
 have HK:=AB (KT.start h);obtain⟨L,hL⟩:∃L,BB xs.length l=L:=⟨_,rfl⟩
 have K0:=AB (fun(V:World)(n u:Value)(hk:KT Z p ta tn tc AJ w nd xs [] [] i V n u [])=>hk.via fun _ hX=>Cx E (BE.start hX) (by omega) Fb Fc h1);have K1:=AB (fun(V:World)(n u:Value)(hk:KT Z p ta tn tc AJ w nd xs [] [] (i+1) V n u [])=>hk.via fun _ hX=>L2 E (BE.start hX) (by omega) Iu Iv h2);have K2:=AB (fun(V:World)(n u:Value)(hk:KT Z p ta tn tc AJ w nd xs [] [] (i+1) V n u [])=>KT.readL hS hk (by show _+0+_<=_;omega));have e2:BB (xs.length+(Az ([]:List (List AM))).length) l=L:=hL;rw[e2]at K2;have K3:=AB (fun(V:World)(n u:Value)(hk:KT Z p ta tn tc AJ w nd xs [] ([]++l) q V n u L)=>hk.no (e0:=fun b=>.returned (Bt b)) fun _ hX=>Ji E (BE.start hX) (by omega) Iu Iv h3);clear h hS h1 h2 h3;go_enter func192,ntmps192;go_wp2_with(first|(go_at_call 195;refine(AA K0 _ _ _ (AA HK)).mono ?_;rintro e w5⟨rfl,hk,_⟩;clear HK K0;have HK:=AB hk;clear hk)|(go_at_call 191;refine(AA K1 _ _ _ (AA HK)).mono ?_;rintro e w5⟨rfl,hk,_⟩;clear HK K1;have HK:=AB hk;clear hk)|(go_at_call 101;refine(AA K2 _ _ _ (AA HK)).mono ?_;rintro e w5⟨nd5,a5,c5,rfl,hk,_⟩;clear HK K2;have HK:=AB hk;clear hk)|(go_at_call 195;refine(AA K3 _ _ _ (AA HK)).mono ?_;rintro e w5⟨b,rfl,hf,hb⟩;have HF:=AB (And.intro hf hb);clear hf hb;delta Bt));go_ret2;exact CD 0 rfl (AA HF).1 (AA HF).2
def S0(E:BR Z ta tn ts AJ)(h:Dl Z p ta tn tc AJ w i nd xs)(hi:i<=4100)(AQ:xs.length+4*(5000- i)<=100000){q:Nat}{l:List (List AM)}(h1:(AF ts).cl i=123)(h2:(AF ts).cl (i+1)≠125)(hS:FT Z p ta tn tc ts AJ 101 #[.pointer (some ⟨p,0,none⟩),.string ⟨#[226,139,132]⟩,.func (.func 215) #[.pointer (some ⟨p,0,none⟩)] #[]] (i+1) (false,q,l)):Calls prog 192 #[.pointer (some ⟨p,0,none⟩)] w (BK Z p ta tn tc ts AJ w nd xs (false,q,[])):=by have HK:=AB (KT.start h);have K0:=AB (fun(V:World)(n u:Value)(hk:KT Z p ta tn tc AJ w nd xs [] [] i V n u [])=>hk.via fun _ hX=>Cx E (BE.start hX) (by omega) Fb Fc h1);have K1:=AB (fun(V:World)(n u:Value)(hk:KT Z p ta tn tc AJ w nd xs [] [] (i+1) V n u [])=>hk.via fun _ hX=>L2 E (BE.start hX) (by omega) Iu Iv h2);have K2:=AB (fun(V:World)(n u:Value)(hk:KT Z p ta tn tc AJ w nd xs [] [] (i+1) V n u [])=>KT.readLNo hS hk (by show _+0+_<=_;omega));clear h hS h1 h2;go_enter func192,ntmps192;go_wp2_with(first|(go_at_call 195;refine(AA K0 _ _ _ (AA HK)).mono ?_;rintro e w5⟨rfl,hk,_⟩;clear HK K0;have HK:=AB hk;clear hk)|(go_at_call 191;refine(AA K1 _ _ _ (AA HK)).mono ?_;rintro e w5⟨rfl,hk,_⟩;clear HK K1;have HK:=AB hk;clear hk)|(go_at_call 101;refine(AA K2 _ _ _ (AA HK)).mono ?_;rintro e w5⟨b,a5,n5,c5,rfl,hf,hb⟩;have HF:=AB (And.intro hf hb);clear hf hb;delta Bt));go_ret2;exact CD 0 rfl (AA HF).1 (AA HF).2
end
