import Derived.Test.YtinndpnilmmmjaaGreatDoorZ44
import Derived.Test.YtinndpnilmmmjaaGreatDoorZ35
import Derived.Test.YtinndpnilmmmjaaGreatDoorZ39
import Derived.Test.YtinndpnilmmmjaaGreatDoorZ37
import Derived.Test.YtinndpnilmmmjaaGreatDoorZ31
import Derived.Test.YtinndpnilmmmjaaGreatDoorZ34
import Derived.Test.YtinndpnilmmmjaaGreatDoorZ32
set_option maxRecDepth 20000
set_option maxHeartbeats 8000000
set_option linter.defProp false
namespace Go.Proofs.YtinndpnilmmmjaaGreatDoor
open Go.RowKit Go.Proofs.Tryz
section
variable {Z w w0 w1:World}{p i j q:Nat}{nd nd0 nd1 v:Value}{zs:List Int}{xs ys:List AW}{bx:List Nat}{ns:List AM}{ta:Option Addr}{tn tc:Nat}{ts:List CO}{b b' g:Bool}{t:List AM}
def KS.readP{r:B1}(hR:Yg Z p ta tn tc i r)(h:KS Z p ta tn tc w0 nd0 xs bx ns i false w nd v zs)(AQ:ns.length+4*(5000- i)<=100000):Calls prog 148 #[.pointer (some ⟨p,0,none⟩)] w fun e w'=>∃nd' ds a c us,e=.returned (.slice a us.length c)/\KS Z p ta tn tc w0 nd0 xs bx (ns++ds) r.2.1 (!r.1) w' nd' v zs/\KS Z p ta tn tc w0 nd0 xs bx (ns++ds) r.2.1 (!r.1) w' nd' (.slice a us.length c) us/\i<=r.2.1/\ds.length+1<=4*(r.2.1- i)/\us.length<=r.2.1- i+1/\1<=us.length/\(r.1=true->∃es,us=Bv es/\Av (ns++ds) es r.2.2):=by
 obtain⟨ys,hm,hd,ho,hf,hx⟩:=h;have hl:(xs++ys).length=ns.length:=by rw[<-hd,AS]
 refine(hR w nd (xs++ys) hm.ps (by rw[hl];exact AQ)).mono ?_;rintro e w'⟨nd',ns',a,c,us,rfl,⟨vs,hm',hd',ho',hf',_⟩,hiq,hln,hul,hu1,ht⟩;have e1:ns'=ns++vs.map AW.d:=by rw[<-hd',Ao,hd]
 have h1:=Oe hm ho hf hx hm';have hw0:=hm.but.size;rw[Ao,hd]at h1;refine⟨nd',vs.map AW.d,a,c,us,rfl,h1.1,⟨ys++vs,hm.go2 hm',by rw[<-Aj,Ao,hd],ho',fun k hk=> ?_,fun k hk=> ?_⟩,hiq,?_,hul,hu1,fun hg=>by rw[<-e1];exact ht hg⟩
 .obtain⟨h2,h3⟩:=hf' k hk;exact⟨by omega,by rw[<-Aj];exact h3⟩
 .obtain⟨zs',_,_,_,hx'⟩:=h1.1;obtain⟨b1,b2,b3,b4,b5,b6,b7⟩:=hx k hk;refine⟨b1,b2,AX b3 hm'.but.size,b4,fun e=> ?_,fun hc=> ?_,fun e=> ?_⟩
  .rcases hm'.at_ with h'|h'
   .exact b5 (h'▸e)
   .have:=h' k e;omega
  .rw[<-Aj,DE]at hc;rcases Ak.1 hc with h'|h'
   .exact b6 h'
   .have:=hm'.new k h';omega
  .have:=(hf' k e).1;omega
 .rw[e1,AH,hl]at hln;omega
def Zb{F g j:Nat}{rp:B1}(hg:g<=F)(h:Pg ts g j=some rp):GO (AF ts) F g (j+1) []=some rp:=by unfold Pg at h;unfold GO;exact CP.bind (Mg (AF ts) g F (j+1) hg) (fun q l=>CP.refl _) rp h
def PR(E:Bk Z ta tn ts)(htl:ts.length<=4096){F:Nat}(hX:∀j r,i<j->j<=ts.length->Bh (AF ts) F 0 j []=some r->BM Z p ta tn tc 94 #[.pointer (some ⟨p,0,none⟩)] j (gX (AF ts) r) r.2.1 (r.2.2.headD []))(hil:i<=ts.length)(hA:∀r',Dj (AF ts) (Bh (AF ts) F) i=some r'->BM Z p ta tn tc 147 #[.pointer (some ⟨p,0,none⟩)] i r'.1 r'.2.1 (r'.2.2.headD [])){r:B1}(hr:(A7 (Dj (AF ts) (Bh (AF ts) F) i) fun q l=>Bh (AF ts) F 1 q (l.headD []))=some r):BM Z p ta tn tc 95 #[.pointer (some ⟨p,0,none⟩)] i r.1 r.2.1 (r.2.2.headD []):=by
 intro w nd xs h AQ;obtain⟨i0,hi,hz0,hz1,hz2⟩:=info_parts Dt;have HK:=AB (KS.start h);have hxl:(xs.map AW.d).length=xs.length:=AS ..;obtain⟨NS,hNS⟩:∃NS,xs.map AW.d=NS:=⟨_,rfl⟩
 rw[hNS]at HK hxl;have HXL:=AB hxl;obtain⟨g0,q0,t0,hA0,hq0,hS⟩:∃g0 q0 t0,BM Z p ta tn tc 147 #[.pointer (some ⟨p,0,none⟩)] i g0 q0 t0/\q0<=ts.length/\((g0=true/\Bh (AF ts) F 1 q0 t0=some r)\/(g0=false/\r=(false,q0,[]))):=by
  have hadv:=JW (Ab ts) (Cc (Ab ts) F) (i:=i) hil;rcases BG hr with⟨q,l,hx,hk⟩|⟨q,l,hx,rfl⟩
  .exact⟨true,q,l.headD [],hA _ hx,(hadv _ _ _ hx).2.1,.inl ⟨rfl,hk⟩⟩
  .exact⟨false,q,l.headD [],hA _ hx,(hadv _ _ _ hx).2.1,.inr ⟨rfl,rfl⟩⟩
 have HAT:=AB (fun(V:World)(n:Value)(hk:KS Z p ta tn tc w nd xs [] NS i false V n A3 [])=>hk.read hA0 (by omega));have HSG:=AB (fun(V:World)(n:Value)(ns:List AM)(j:Nat)(hj:j<=ts.length)(x:AE)(hx:Ej ts j=x)(hk:KS Z p ta tn tc w nd xs [] ns j false V n A3 [])=>hk.via (e0:=.returned (.string x)) fun _ hX=>(I9 E hX (z:=0) (j:=j) (by omega) (by omega)).mono fun _ _ h=>⟨by rw[h.1,hx],(BE.start hX).below h.2⟩);have HSX:=AB (fun(j:Nat)=>QJ E.ok j Mh Mi);have HPX:=AB (fun(g j:Nat)(rp:B1)(hg:g<=F)(hij:i<=j)(h91:(AF ts).cl j=91)(hrp:Pg ts g j=some rp)=>SK E htl (fun j' r h1 h2 h3=>hX j' r (by omega) h2 h3) h91 (Zb hg hrp));have HSS:=AB hS;obtain⟨p0,p1,p2,p3,f0,f1,f2,f3,hpl⟩:=h.all;clear h hxl hr hX hA hA0 hS E;go_enter func95,ntmps95;go_wp2_with(go_at_call 147;refine(AA HAT _ _ (AA HK)).mono ?_;rintro e w4⟨z0,nd4,ds0,rfl,hk,_,hi0',hl0,ht0⟩;have HK4:=AB hk;have HI0:=AB hi0';have HL0:=AB hl0;have HT0:=AB ht0;clear hk hi0' hl0 ht0);go_loopw[3] (fun u wr=>∃(j:Nat)(ns:List AM)(n:Value)(z:Int)(bb:Bool),u=.int .i64 z/\j<=ts.length/\i<=j/\ns.length<=xs.length+4*(j- i)/\Hid (KS Z p ta tn tc w nd xs [] ns j bb wr n A3 [])/\Hid ((bb=false/\ns.length+1<=xs.length+4*(j- i)/\∃(ez G:Nat)(t:List AM),z=(ez:Int)/\A0 ns ez t/\G<=F/\Bh (AF ts) G 1 j t=some r)\/(bb=true/\r=(false,j,[])))) (fun _ wr=>ts.length+1- Ym p wr);case atStart=>
  have hl0:=AA HL0;have hx0:=AA HXL;refine⟨q0,NS++ds0,nd4,z0,!g0,rfl,hq0,AA HI0,by rw[AH];omega,HK4,?_⟩;rcases AA HSS with⟨rfl,hp⟩|⟨rfl,hp⟩
  .obtain⟨hl1,ez,rfl,ht⟩:=AA HT0 rfl;exact .inl ⟨rfl,by rw[AH];omega,ez,F,t0,rfl,ht,AC,hp⟩
  .exact .inr ⟨rfl,hp⟩
 case round=>
  obtain⟨j,ns,n,z,bb,rfl,hj,hij,hnl,HKR,HC⟩:=hrel;clear HK HAT HK4 HI0 HL0 HT0 HSS p0 p1 p2 p3 f0 f1 f2 f3 hpl hq0;obtain⟨p0,p1,p2,p3,f0,f1,f2,f3,hpl⟩:=(AA HKR).all;have HPL:=AB (AA HKR).plc;have hzl:=(AA HKR).low.size;rcases AA HC with⟨rfl,hn1,ez,G,t,rfl,ht,hG,hp⟩|⟨rfl,rfl⟩;case inr=>
   clear HC HPX HSG HSX;go_wp2_with fail;go_ret;exact DB hnl (AA HKR) hij _
  case inl=>
   clear HC;obtain⟨x,hx⟩:∃x,Ej ts j=x:=⟨_,rfl⟩
   have HS1:=AB (AA HSG _ _ _ j hj x hx (AA HKR));have h91:=AA HSX j;rw[hx,show((⟨#[91]⟩:AE).toList)= [91] by kernel_rfl]at h91;clear hx HSX HSG;obtain⟨z,hz⟩:∃z:Int,(ez:Int)=z:=⟨_,rfl⟩
   rw[hz];have HEZ:=AB hz;have HTR:=AB ht;clear hz ht;cases G with
   |zero=>cases hp
   |succ G=>
    rw[Bh,AG (by decide),AL rfl]at hp;unfold Jt at hp;by_cases c91:(AF ts).cl j=91;case neg=>
     rw[AD c91]at h91;rw[AG c91]at hp;have hr:(true,j,[t])=r:=by cases hp;rfl
     subst hr;clear hp HPX;go_wp2_with((go_at_call 91;refine(AA HS1).mono ?_;rintro e w5⟨rfl,hk,_⟩;have HK5:=AB hk;clear hk));go_ret;have hez:=AA HEZ;subst hez;exact KS.gave (g:=true) (AA HK5) rfl hij (by omega) (fun _=>⟨hn1,ez,rfl,AA HTR⟩)
    case pos=>
     rw[AK c91]at h91;rw[AL c91]at hp;have hjl:j<ts.length:=Ab ts j (by rw[c91];decide);have hpx:=fun rp h=>AA HPX G j rp (by omega) (by omega) c91 h;unfold Pg at hpx;cases hv:Bh (AF ts) G 2 (j+1) []with
     |none=>rw[hv]at hp;cases hp
     |some y=>
      obtain⟨yb,q,l⟩:=y;rw[hv]at hp hpx;have hq:q<=ts.length:=(Cc (Ab ts) G 2 (j+1) [] hjl _ _ _ hv).2.1;have hq1:j+1<=q:=(Cc (Ab ts) G 2 (j+1) [] hjl _ _ _ hv).1;by_cases hok:yb=true/\(AF ts).cl q=93;case pos=>
       obtain⟨rfl,h93⟩:=hok;have hql:q<ts.length:=Ab ts q (by rw[h93];decide);have hpp:=hpx (true,q+1,l) (by show(if(AF ts).cl q=93 then C4 (q+1) l else Cp q)=_;rw[AL h93];rfl);have hp':(if(AF ts).cl q=93 then Bh (AF ts) G 1 (q+1) (Ay 7 0 0 E2 [] (t::l))else Cp q)=some r:=hp;rw[AL h93]at hp';have HPP:=AB hp';have HPR:=AB (fun(V:World)(n u:Value)(hk:KS Z p ta tn tc w nd xs [] ns j false V n u [z])=>hk.readP hpp (by omega));clear hp hp' hv hpx HPX hpp;go_wp2_with(first|(go_at_call 91;refine(AA HS1).mono ?_;rintro e w5⟨rfl,hk,_⟩;have HK5:=AB (hk.list [z] (by show 1<=100;omega));clear hk)|(go_at_call 148;refine(AA HPR _ _ _ (AA HK5)).mono ?_;rintro e w6⟨nd6,ds,a6,c6,us,rfl,hka,hkb,hi6,hl6,hu6,hu7,ht6⟩;obtain⟨ad,rfl,hnw⟩:=M0 hkb.ownR (by omega);have HNW:=AB hnw;have HK6:=AB hka;have HI6:=AB hi6;have HL6:=AB hl6;have HT6:=AB ht6;have hzl6:=hka.low.size;have hul:us.length<=5000:=(by omega);clear hka hkb hi6 hl6 ht6 hnw)|(at_builtin;refine wpList_append_lies _ rfl _ _ 45 rfl Z.heap.size 3 i0 (.int .i64 0) 1 8 underlying45 hi hz0 hz1 hz2 rfl (by decide) _ _ _ rfl (AA HK6).ownR ad us.length c6 (us.map (Value.int .i64)) rfl (by rw[AS,Gl]) (AA HNW) (PU us) (by omega) (by show 1+us.length<=maxLen;unfold maxLen;omega) (by show(1+us.length)*8<=_;omega) (by omega) w6.heap.size rfl ?_;intro g' CW w7 A2 Au hat Cu;obtain⟨hk7,_⟩:=KS.grow (us:= [z]++us) (n:=1+us.length) (AA HK6) (by unfold Dk;rw[Ao,AH];exact A2) Au hat;have HK7:=AB hk7;clear hk7 A2 Au hat Cu)|(go_at_call 45;refine(KS.put (AA HK7) 7 0 0 ⟨#[]⟩ (by rw[AH];have:=AA HL6;omega)).mono ?_;rintro e w9⟨rfl,nd9,hk9⟩;have HK9:=AB hk9;have HP9:=AB hk9.plc;clear hk9));go_roundw;case rel=>
        have hl6:ds.length+1<=4*(q+1- j):=AA HL6;obtain⟨es,rfl,hts⟩:=AA HT6 trivial;have hez:=AA HEZ;subst hez;refine⟨q+1,_,nd9,_,false,rfl,by omega,by omega,by rw[AH,AH];show _+_+1<=_;omega,HK9,.inl ⟨rfl,by rw[AH,AH];show _+_+1+1<=_;omega,(ns++ds).length,G,Ay 7 0 0 E2 [] (t::l),by simp,?_,by omega,AA HPP⟩⟩;exact(Av.cons (AA HTR).mono hts).put 7 0 0 ⟨#[]⟩ [] ⟨fun _=>by simp,fun e=>by simp at e,fun e=>by simp at e⟩
       case measure=>rw[AA HPL,AA HP9];show _+1- (q+1)<_;omega
      case neg=>
       have hr:(false,q,[])=r:=by
        cases yb with
        |false=>cases hp;rfl
        |true=>
         have hp':(if(AF ts).cl q=93 then Bh (AF ts) G 1 (q+1) (Ay 7 0 0 E2 [] (t::l))else Cp q)=some r:=hp;rw[AG (fun e=>hok ⟨rfl,e⟩)]at hp';cases hp';rfl
       have hpp:=hpx (false,q,[]) (by
        cases yb with
        |false=>rfl
        |true=>show(if(AF ts).cl q=93 then C4 (q+1) l else Cp q)=_;rw[AG (fun e=>hok ⟨rfl,e⟩)];rfl)
       subst hr;have HPR:=AB (fun(V:World)(n u:Value)(hk:KS Z p ta tn tc w nd xs [] ns j false V n u [z])=>hk.readP hpp (by omega));clear hp hv hpx HPX hpp;go_wp2_with(first|(go_at_call 91;refine(AA HS1).mono ?_;rintro e w5⟨rfl,hk,_⟩;have HK5:=AB (hk.list [z] (by show 1<=100;omega));clear hk)|(go_at_call 148;refine(AA HPR _ _ _ (AA HK5)).mono ?_;rintro e w6⟨nd6,ds,a6,c6,us,rfl,hka,hkb,hi6,hl6,hu6,hu7,ht6⟩;obtain⟨ad,rfl,hnw⟩:=M0 hkb.ownR (by omega);have HNW:=AB hnw;have HK6:=AB hka;have HI6:=AB hi6;have HL6:=AB hl6;have HT6:=AB ht6;have hzl6:=hka.low.size;have hul:us.length<=5000:=(by omega);clear hka hkb hi6 hl6 ht6 hnw)|(at_builtin;refine wpList_append_lies _ rfl _ _ 45 rfl Z.heap.size 3 i0 (.int .i64 0) 1 8 underlying45 hi hz0 hz1 hz2 rfl (by decide) _ _ _ rfl (AA HK6).ownR ad us.length c6 (us.map (Value.int .i64)) rfl (by rw[AS,Gl]) (AA HNW) (PU us) (by omega) (by show 1+us.length<=maxLen;unfold maxLen;omega) (by show(1+us.length)*8<=_;omega) (by omega) w6.heap.size rfl ?_;intro g' CW w7 A2 Au hat Cu;obtain⟨hk7,_⟩:=KS.grow (us:= [z]++us) (n:=1+us.length) (AA HK6) (by unfold Dk;rw[Ao,AH];exact A2) Au hat;have HK7:=AB hk7;clear hk7 A2 Au hat Cu)|(go_at_call 45;refine(KS.put (AA HK7) 7 0 0 ⟨#[]⟩ (by rw[AH];have:=AA HL6;omega)).mono ?_;rintro e w9⟨rfl,nd9,hk9⟩;have HK9:=AB hk9;have HP9:=AB hk9.plc;clear hk9));go_roundw;case rel=>
        have hl6:ds.length+1<=4*(q- j):=AA HL6;exact⟨q,_,nd9,_,true,rfl,hq,by omega,by rw[AH,AH];show _+_+1<=_;omega,HK9,.inr ⟨rfl,rfl⟩⟩
       case measure=>rw[AA HPL,AA HP9];show _+1- q<_;omega
end
def XB{zs:List Int}{k:Nat}(hk:k<zs.length)(h:(zs.take k).all D8=true)(hp:D8 (zs.getD k 0)=true):(zs.take (k+1)).all D8=true:=by
 rw[A9 hk,List.all_append,h];have:zs.getD k 0=zs[k]:=by simp[hk]
 rw[this]at hp;simp[hp]
def Uj{zs:List Int}{k:Nat}(hk:k<zs.length)(hp:D8 (zs.getD k 0)=false):zs.all D8=false:=by
 have:zs.getD k 0=zs[k]:=by simp[hk]
 rw[this]at hp;exact Ev.2 ⟨zs[k],By hk,by simp[hp]⟩
def YA{T:AE->Bool}{n m:Int}{s:AE}{nums kids:List Int}:BT T ⟨1,n,m,s,nums,kids⟩=(nums.all D8&&decide (0<nums.length/\n=0/\m=0/\s.size=0)):=by unfold BT;dsimp only;rw[AL rfl]
def X9{T:AE->Bool}{n m:Int}{s:AE}{nums kids:List Int}(hn:nums.length=0):BT T ⟨2,n,m,s,nums,kids⟩=(decide (n=0/\m=0)&&T s):=by unfold BT;dsimp only;rw[AG (show ¬(2:Int)=1 by decide),AG (show ¬ 0<nums.length by omega),AL rfl]
def So(n m:Int)(s:AE)(a1 a2:Option Addr)(n1 c1 n2 c2:Nat)(nums kids:List Int)(w:World)(h1:Df w a1 n1 nums):Calls prog 26 #[.agg #[.int .i64 1,.int .i64 n,.int .i64 m,.string s,.slice a1 n1 c1,.slice a2 n2 c2]] w fun e w'=>e=.returned (.bool (BT B2 ⟨1,n,m,s,nums,kids⟩))/\Below w.heap.size w w':=by
 obtain⟨r,hr⟩:∃r,BT B2 ⟨1,n,m,s,nums,kids⟩=r:=⟨_,rfl⟩
 rw[hr];rw[YA]at hr;have HR:=AB hr;have Ae:=h1.len;have hsm:=h1.small;have H1:=AB (h1.alloc (.cells #[.int .i64 1,.int .i64 n,.int .i64 m,.string s,.slice a1 n1 c1,.slice a2 n2 c2] 47));clear hr h1;go_enter func26,ntmps26;go_wp2_with fail;go_loopw[3] (fun i wr=>∃k:Nat,k<=n1/\i=.int .i64 k/\Hid ((nums.take k).all D8=true)/\wr=w.alloc (.cells #[.int .i64 1,.int .i64 n,.int .i64 m,.string s,.slice a1 n1 c1,.slice a2 n2 c2] 47)) (fun i _=>n1- (intOf i).toNat);case atStart=>exact⟨0,AZ _,rfl,rfl,rfl⟩
 case round=>
  obtain⟨k,hk,rfl,HA,rfl⟩:=hrel;by_cases hlt:k<n1
  .have Fr:(k:Int)<(n1:Int):=by omega
   obtain⟨b,off,rfl,hbl,hc⟩:=(AA H1).get hlt;have HT:Hid (D8 (nums.getD k 0)=true->(nums.take (k+1)).all D8=true):=fun h=>XB (by omega) (AA HA) h;have HF:Hid (D8 (nums.getD k 0)=false->false=r):=fun h=>by rw[<-AA HR,Uj (k:=k) (by omega) h];rfl
   obtain⟨x,hx⟩:∃x,nums.getD k 0=x:=⟨_,rfl⟩
   rw[hx]at hc HT HF;clear hx HR HA;by_cases g1:1000000000000000<x
   .have HE:Hid (false=r):=AA HF (AD (by omega));clear HT HF;go_wp2_with fail;go_ret;exact⟨AN (AA HE),AI.alloc AC _⟩
   by_cases g2:x< -1000000000000000
   .have HE:Hid (false=r):=AA HF (AD (by omega));clear HT HF;go_wp2_with fail;go_ret;exact⟨AN (AA HE),AI.alloc AC _⟩
   have HE:=AB (AA HT (AK (by omega)));clear HT HF;go_wp2_with fail;go_roundw;case rel=>exact⟨k+1,by omega,by go_num,HE,trivial⟩
   case measure=>simp[intOf];omega
  .have hkn:k=n1:=by omega
   have Fr:¬(k:Int)<(n1:Int):=by omega
   have HF:Hid (decide (0<n1/\n=0/\m=0/\s.size=0)=r):=by show _=r;have:=AA HA;rw[AO (by omega)]at this;rw[<-AA HR,this,Ae];rfl
   subst hkn;clear HR HA;by_cases g0:0<k;case neg=>
    have gi:¬(0:Int)<(k:Int):=by omega
    have HE:Hid (false=r):=by show _=_;rw[<-AA HF,AD (by omega)]
    clear HF;go_wp2_with fail;go_ret;exact⟨AN (AA HE),AI.alloc AC _⟩
   have gi:(0:Int)<(k:Int):=by omega
   by_cases g1:n=0;case neg=>
    have gi1:=Ai g1;have HE:Hid (false=r):=by show _=_;rw[<-AA HF,AD (by omega)]
    clear HF g1;go_wp2_with fail;go_ret;exact⟨AN (AA HE),AI.alloc AC _⟩
   by_cases g2:m=0;case neg=>
    have gi1:(n==0)=true:=by simpa using g1
    have gi2:=Ai g2;have HE:Hid (false=r):=by show _=_;rw[<-AA HF,AD (by omega)]
    clear HF g1 g2;go_wp2_with fail;go_ret;exact⟨AN (AA HE),AI.alloc AC _⟩
   have gi1:(n==0)=true:=by simpa using g1
   have gi2:(m==0)=true:=by simpa using g2
   by_cases g3:s.size=0;case neg=>
    have gi3:=Ie g3;have HE:Hid (false=r):=by show _=_;rw[<-AA HF,AD (by omega)]
    clear HF g1 g2 g3;go_wp2_with fail;go_ret;exact⟨AN (AA HE),AI.alloc AC _⟩
   have gi3:s.toList.isEmpty=true:=by rw[Lib.toList_data,GC g3];rfl
   have HE:Hid (true=r):=by show _=_;rw[<-AA HF,AK (by omega)]
   clear HF g1 g2 g3;go_wp2_with fail;go_ret;exact⟨AN (AA HE),AI.alloc AC _⟩
def Sn(n m:Int)(s:AE)(a1 a2:Option Addr)(n1 c1 n2 c2:Nat)(nums kids:List Int)(w:World)(hs:s.size<=1048576)(Bz:nums.length=n1):Calls prog 26 #[.agg #[.int .i64 2,.int .i64 n,.int .i64 m,.string s,.slice a1 n1 c1,.slice a2 n2 c2]] w fun e w'=>e=.returned (.bool (BT B2 ⟨2,n,m,s,nums,kids⟩))/\Below w.heap.size w w':=by
 obtain⟨r,hr⟩:∃r,BT B2 ⟨2,n,m,s,nums,kids⟩=r:=⟨_,rfl⟩
 rw[hr];have HR:=AB hr;clear hr;by_cases hN:0<n1
 .have hg:(0:Int)<(n1:Int):=by omega
  have HE:Hid (false=r):=by show _=_;rw[<-AA HR];exact(DY (by decide) (by omega)).symm
  clear HR Bz;go_enter func26,ntmps26;go_wp2_with fail;go_ret;exact⟨AN (AA HE),AI.alloc AC _⟩
 have hg:¬(0:Int)<(n1:Int):=by omega
 rw[X9 (by omega)]at HR;by_cases g1:n=0;case neg=>
  have gi1:=Ai g1;have HE:Hid (false=r):=by show _=_;rw[<-AA HR,AD (by omega)];rfl
  clear HR Bz g1;go_enter func26,ntmps26;go_wp2_with fail;go_ret;exact⟨AN (AA HE),AI.alloc AC _⟩
 subst g1;by_cases g2:m=0;case neg=>
  have gi1:=Ai g2;have HE:Hid (false=r):=by show _=_;rw[<-AA HR,AD (by omega)];rfl
  clear HR Bz g2;go_enter func26,ntmps26;go_wp2_with fail;go_ret;exact⟨AN (AA HE),AI.alloc AC _⟩
 subst g2;rw[AK (by omega),Ap]at HR;by_cases g3:2000<s.size
 .have gi1:¬(s.size:Int)<=2000:=by omega
  have HE:Hid (false=r):=by show _=_;rw[<-AA HR,UA g3]
  clear HR Bz g3;go_enter func26,ntmps26;go_wp2_with fail;go_ret;exact⟨AN (AA HE),AI.alloc AC _⟩
 have gi1:(s.size:Int)<=2000:=by omega
 have HC:Hid (∀W,Calls prog 55 #[.agg #[.int .i64 2,.int .i64 0,.string s,.int .i64 0]] W fun e w'=>e=.returned (.string (DJ 2 0 s))/\Below W.heap.size W w'):=fun W=>O7 0 0 s W (by omega);have HR2:Hid (decide ((DJ 2 0 s).size≠0)=r):=AA HR;obtain⟨y,hy⟩:∃y,DJ 2 0 s=y:=⟨_,rfl⟩
 rw[hy]at HC HR2;clear hy HR Bz g3;by_cases g4:y.size=0
 .have hye:=GC g4;have HE:Hid (false=r):=by show _=_;rw[<-AA HR2,AD (by omega)]
  subst hye;clear HR2 g4;go_enter func26,ntmps26;go_wp2_with(first|(go_at_call 55;refine(AA HC _).mono ?_;rintro e w1⟨rfl,hb1⟩;have HB:=AB (((DP w.heap.size w).alloc AC _).trans (hb1.mono (by simp)));clear hb1));go_ret;exact⟨AN (AA HE),AA HB⟩
 .have gy:=Ie g4;have HE:Hid (true=r):=by show _=_;rw[<-AA HR2,AK g4]
  clear HR2 g4;go_enter func26,ntmps26;go_wp2_with(first|(go_at_call 55;refine(AA HC _).mono ?_;rintro e w1⟨rfl,hb1⟩;have HB:=AB (((DP w.heap.size w).alloc AC _).trans (hb1.mono (by simp)));clear hb1));go_ret;exact⟨AN (AA HE),AA HB⟩
def JM(k n m:Int)(s:AE)(a1 a2:Option Addr)(n1 c1 n2 c2:Nat)(nums kids:List Int)(w:World)(hk:1<=k/\k<=25)(hs:s.size<=1048576)(h1:Df w a1 n1 nums):Calls prog 26 #[.agg #[.int .i64 k,.int .i64 n,.int .i64 m,.string s,.slice a1 n1 c1,.slice a2 n2 c2]] w fun e w'=>e=.returned (.bool (BT B2 ⟨k,n,m,s,nums,kids⟩))/\Below w.heap.size w w':=by
 rcases(show k=1\/k=2\/k=3\/(4<=k/\k<=10)\/k=11\/k=12\/k=13\/k=14\/k=15\/(k=16\/k=18)\/k=17\/k=19\/k=20\/k=21\/k=22\/(23<=k/\k<=25) by omega)with e|e|e|e|e|e|e|e|e|e|e|e|e|e|e|e
 .subst e;exact So n m s a1 a2 n1 c1 n2 c2 nums kids w h1
 .subst e;exact Sn n m s a1 a2 n1 c1 n2 c2 nums kids w hs h1.len
 .subst e;exact KW 3 n m s a1 a2 n1 c1 n2 c2 nums kids w (.inl rfl) hs h1.len
 .exact Sl k n m s a1 a2 n1 c1 n2 c2 nums kids w e hs h1.len
 .subst e;exact Q6 n m s a1 a2 n1 c1 n2 c2 nums kids w hs h1.len
 .subst e;exact L5 12 n m s a1 a2 n1 c1 n2 c2 nums kids w (.inl rfl) hs h1.len
 .subst e;exact L5 13 n m s a1 a2 n1 c1 n2 c2 nums kids w (.inr rfl) hs h1.len
 .subst e;exact Q5 n m s a1 a2 n1 c1 n2 c2 nums kids w hs h1.len
 .subst e;exact Q4 n m s a1 a2 n1 c1 n2 c2 nums kids w hs h1.len
 .exact Sk k n m s a1 a2 n1 c1 n2 c2 nums kids w e hs h1.len
 .subst e;exact L4 17 n m s a1 a2 n1 c1 n2 c2 nums kids w (.inl rfl) hs h1.len
 .subst e;exact KW 19 n m s a1 a2 n1 c1 n2 c2 nums kids w (.inr (.inl rfl)) hs h1.len
 .subst e;exact L4 20 n m s a1 a2 n1 c1 n2 c2 nums kids w (.inr rfl) hs h1.len
 .subst e;exact KW 21 n m s a1 a2 n1 c1 n2 c2 nums kids w (.inr (.inr rfl)) hs h1.len
 .subst e;exact Q3 n m s a1 a2 n1 c1 n2 c2 nums kids w hs h1.len
 .exact Sj k n m s a1 a2 n1 c1 n2 c2 nums kids w e hs h1.len
