import Derived.Test.YtinndpnilmmmjaaGreatDoorZ05
import Derived.Test.YtinndpnilmmmjaaGreatDoorZ06
import Derived.Deep.RegionHeld
set_option maxRecDepth 20000
set_option maxHeartbeats 8000000
set_option linter.defProp false
namespace Go.Proofs.YtinndpnilmmmjaaGreatDoor
open Go.RowKit Tryz
def F1(w:World)(s:AE)(i:Nat)(e:Ending)(w':World):Prop:=e=.returned (.tuple #[.int .i64 ((Am s i).1:Nat),.int .i64 ((Am s i).2:Nat)])/\Below w.heap.size w w'
def SY(a:Option Addr)(cap:Nat)(s:AE)(i:Nat)(w:World)(h:De w a s.size (bz s))(hi:i<s.size)(hl:bt s i<128):Calls prog 139 #[.slice a s.size cap,.int .i64 (i:Nat)] w (F1 w s i):=by
 have HE:=AB (Ig hl);have hii:(i:Int)<(s.size:Int):=by omega
 obtain⟨b,off,rfl,-,hc⟩:=h.get hi;rw[IK hi]at hc;obtain⟨c,hcc⟩:∃c,bt s i=c:=⟨_,rfl⟩
 rw[hcc]at hc hl HE;have hli:(c:Int)<128:=by omega
 clear h hcc;go_enter func139,ntmps139
 go_wp2
 go_ret2;exact⟨by rw[AA HE];rfl,AI⟩
def Qj(a:Option Addr)(cap:Nat)(s:AE)(i:Nat)(w:World)(h:De w a s.size (bz s))(hi:i<s.size)(hl:128<=bt s i)(hn:bt s i<192\/248<=bt s i):Calls prog 139 #[.slice a s.size cap,.int .i64 (i:Nat)] w (F1 w s i):=by
 have HE:=AB (PF hl hn);have hii:(i:Int)<(s.size:Int):=by omega
 obtain⟨b,off,rfl,-,hc⟩:=h.get hi;rw[IK hi]at hc;obtain⟨c,hcc⟩:∃c,bt s i=c:=⟨_,rfl⟩
 rw[hcc]at hc hl hn;have hli:¬(c:Int)<128:=by omega
 have hcb:c<256:=by rw[<-hcc];exact GR s i
 clear h hcc;rcases hn with hn|hn
 .have k1:¬(192:Int)<=(c:Int):=by omega
  have k2:¬(224:Int)<=(c:Int):=by omega
  have k3:¬(240:Int)<=(c:Int):=by omega
  go_enter func139,ntmps139;go_wp2_with fail;go_loopw[9] (fun k wr=>k=.int .i64 1/\wr=w) (fun _ _=>0);case atStart=>exact⟨rfl,rfl⟩
  case round=>
   obtain⟨rfl,rfl⟩:=hrel;go_wp2_with fail;go_ret2;exact⟨by rw[AA HE];rfl,AI⟩
 .have k1:(192:Int)<=(c:Int):=by omega
  have k2:(224:Int)<=(c:Int):=by omega
  have k3:(240:Int)<=(c:Int):=by omega
  have j1:¬(c:Int)<224:=by omega
  have j2:¬(c:Int)<240:=by omega
  have j3:¬(c:Int)<248:=by omega
  go_enter func139,ntmps139;go_wp2_with fail;go_loopw[9] (fun k wr=>k=.int .i64 1/\wr=w) (fun _ _=>0);case atStart=>exact⟨rfl,rfl⟩
  case round=>
   obtain⟨rfl,rfl⟩:=hrel;go_wp2_with fail;go_ret2;exact⟨by rw[AA HE];rfl,AI⟩
def XN(a:Option Addr)(cap:Nat)(s:AE)(i:Nat)(w:World)(h:De w a s.size (bz s))(hi:i<s.size)(hs:s.size<=17592186044416)(hl:192<=bt s i)(hh:bt s i<224):Calls prog 139 #[.slice a s.size cap,.int .i64 (i:Nat)] w (F1 w s i):=by
 obtain⟨bs,hbs⟩:∃b,b=bt s i- 192:=⟨_,rfl⟩
 have HCL:Hid (YQ (bt s i) 2 bs):=by show YQ _ _ _;unfold YQ;omega
 have hii:(i:Int)<(s.size:Int):=by omega
 have HROW:=AB h;obtain⟨b,off,rfl,-,hc⟩:=h.get hi;rw[IK hi]at hc;obtain⟨c,hcc⟩:∃c,bt s i=c:=⟨_,rfl⟩
 rw[hcc]at hc hl hh hbs;have hli:¬(c:Int)<128:=by omega
 have k1:(192:Int)<=(c:Int):=by omega
 have j1:(c:Int)<224:=by omega
 have hbi:(c:Int)- 192=(bs:Int):=by omega
 have HTL:Hid (∀j W,Below w.heap.size w W->Calls prog 178 #[.slice (some ⟨b,off,none⟩) s.size cap,.int .i64 (j:Nat)] W fun e w'=>e=.returned (.bool (tl s j))/\w'=W):=fun j W hb=>KO _ cap s j W (h.below AC hb);clear h hcc hbs;go_enter func139,ntmps139;go_wp2_with fail;go_loopw[8,9] (fun v k wr=>∃(x m:Nat),v=.int .i64 x/\k=.int .i64 m/\1<=m/\m<=2/\Hid (x=vP s i bs (m- 1))/\Hid (∀j,1<=j->j<m->tl s (i+j)=true)/\x<=2097151/\Hid (x<32*64 ^ (m- 1))/\wr=w) (fun _ k _=>2- (intOf k).toNat);case atStart=>exact⟨bs,1,rfl,rfl,by omega,by omega,rfl,fun j h1 h2=>by omega,by omega,by show bs<32*64 ^ 0;omega,rfl⟩
 case round=>
  obtain⟨x,m,rfl,rfl,hm1,hm2,HX,HT,hxb,HXK,rfl⟩:=hrel;by_cases hlt:m<2;case pos=>
   have Fr:(m:Int)<2:=by omega
   have hw1:IntKind.i64.wrap ((i:Int)+(m:Int))=((i+m:Nat):Int):=by rw[IntKind.wrap_i64];omega
   have hw2:(i:Int)+(m:Int)=((i+m:Nat):Int):=by omega
   have HTJ:=AB (AA HTL (i+m) wr AI);obtain⟨q,hq⟩:∃q,i+m=q:=⟨_,rfl⟩
   rw[hq]at hw1 hw2 HTJ;have HQ:=AB hq;clear hq;cases ht:tl s q with
   |false=>
    have HE:=AB (Mk (AA HCL) hm1 hlt (by rw[AA HQ];exact ht));rw[ht]at HTJ;clear ht;go_wp2_with fail;refine(AA HTJ).mono ?_;rintro e w1⟨rfl,hw⟩;obtain rfl:=hw.symm;go_wp2_with fail;go_ret2;exact⟨by rw[AA HE];rfl,AI⟩
   |true=>
    have hb:=EL ht;have hqi:(q:Int)<(s.size:Int):=by omega
    obtain⟨_,_,e,-,hc2⟩:=(AA HROW).get hb.1;cases e;rw[IK hb.1]at hc2;obtain⟨y,hy⟩:∃y,bt s q=y:=⟨_,rfl⟩
    rw[hy]at hc2 hb;rw[ht]at HTJ;have HT2:Hid (∀j,1<=j->j<m+1->tl s (i+j)=true):=fun j h1 h2=>by
     by_cases hj:j=m
     .subst hj;rw[AA HQ];exact ht
     .exact AA HT j h1 (by omega)
    have HX2:Hid (x*64+(y- 128)=vP s i bs (m+1- 1)):=by
     show _=_;rw[show m+1- 1=(m- 1)+1 by omega];show _=vP s i bs (m- 1)*64+(bt s (i+((m- 1)+1))- 128)
     rw[<-AA HX,show i+(m- 1+1)=q by have:=AA HQ;omega,hy]
    have HK2:Hid (x*64+(y- 128)<32*64 ^ (m+1- 1)):=by have h1:=AA HXK;show _<_;rw[show m+1- 1=(m- 1)+1 by omega,Gy,<-Nat.mul_assoc];omega
    have hx2:x*64+(y- 128)<=2097151:=by have h1:=AA HK2;rcases(show m=1 by omega)with rfl<;>simp at h1<;>omega
    obtain⟨z,hz⟩:∃z,x*64+(y- 128)=z:=⟨_,rfl⟩
    rw[hz]at HX2 hx2 HK2;have hzi:(x:Int)*64+(y:Int)- 128=(z:Int):=by omega
    clear ht hy hz;go_wp2_with fail;refine(AA HTJ).mono ?_;rintro e w1⟨rfl,hw⟩;obtain rfl:=hw.symm;go_wp2_with fail;go_roundw;case rel=>exact⟨z,m+1,by go_num,by go_num,by omega,by omega,HX2,HT2,hx2,HK2,by first|trivial|rfl⟩
    case measure=>simp[intOf];omega
  case neg=>
   obtain rfl:m=2:=by omega
   obtain⟨hvb,hfin⟩:=Mj (AA HCL) (AA HT);rw[<-AA HX]at hfin;have HF:=AB hfin;have HB:=AB (fun W=>JN x hxb W);have HO:=AB (fun W=>Il (x:Int) W);obtain⟨L,hL⟩:∃L,BW (x:Int)=L:=⟨_,rfl⟩
   rw[hL]at HB hfin HF;obtain⟨o,ho⟩:∃o,E0 (x:Int)=o:=⟨_,rfl⟩
   rw[ho]at HO HF;clear hfin hvb hL ho HX HT HCL;by_cases hLL:L.length=2;case pos=>
    have hLi:((L.length:Nat):Int)=2:=by omega
    have HLL:=AB hLL;clear hLL;cases o with
    |true=>
     have HE:Hid (Am s i=(x,2)):=by show _=_;rw[AA HF,AL ⟨AA HLL,rfl⟩]
     go_wp2_with(first|(go_at_call 179;refine(AA HB _).mono ?_;rintro e w1⟨g,rfl,DI,hb1⟩;have HB1:=AB hb1;clear DI hb1)|(go_at_call 180;refine(AA HO _).mono ?_;rintro e w2⟨rfl,hw⟩;obtain rfl:=hw.symm));go_ret2;exact⟨by rw[AA HE];rfl,AA HB1⟩
    |false=>
     have HE:Hid (Am s i=(0,0)):=by show _=_;rw[AA HF,AG (fun h=>by cases h.2)]
     go_wp2_with(first|(go_at_call 179;refine(AA HB _).mono ?_;rintro e w1⟨g,rfl,DI,hb1⟩;have HB1:=AB hb1;clear DI hb1)|(go_at_call 180;refine(AA HO _).mono ?_;rintro e w2⟨rfl,hw⟩;obtain rfl:=hw.symm));go_ret2;exact⟨by rw[AA HE];rfl,AA HB1⟩
   case neg=>
    have hLi:¬((L.length:Nat):Int)=2:=by omega
    have HE:Hid (Am s i=(0,0)):=by show _=_;rw[AA HF,AG (fun h=>hLL h.1)]
    clear hLL;go_wp2_with(go_at_call 179;refine(AA HB _).mono ?_;rintro e w1⟨g,rfl,DI,hb1⟩;have HB1:=AB hb1;clear DI hb1);go_ret2;exact⟨by rw[AA HE];rfl,AA HB1⟩
def XM(a:Option Addr)(cap:Nat)(s:AE)(i:Nat)(w:World)(h:De w a s.size (bz s))(hi:i<s.size)(hs:s.size<=17592186044416)(hl:224<=bt s i)(hh:bt s i<240):Calls prog 139 #[.slice a s.size cap,.int .i64 (i:Nat)] w (F1 w s i):=by
 obtain⟨bs,hbs⟩:∃b,b=bt s i- 224:=⟨_,rfl⟩
 have HCL:Hid (YQ (bt s i) 3 bs):=by show YQ _ _ _;unfold YQ;omega
 have hii:(i:Int)<(s.size:Int):=by omega
 have HROW:=AB h;obtain⟨b,off,rfl,-,hc⟩:=h.get hi;rw[IK hi]at hc;obtain⟨c,hcc⟩:∃c,bt s i=c:=⟨_,rfl⟩
 rw[hcc]at hc hl hh hbs;have hli:¬(c:Int)<128:=by omega
 have k1:(192:Int)<=(c:Int):=by omega
 have j1:¬(c:Int)<224:=by omega
 have k2:(224:Int)<=(c:Int):=by omega
 have j2:(c:Int)<240:=by omega
 have hbi:(c:Int)- 224=(bs:Int):=by omega
 have HTL:Hid (∀j W,Below w.heap.size w W->Calls prog 178 #[.slice (some ⟨b,off,none⟩) s.size cap,.int .i64 (j:Nat)] W fun e w'=>e=.returned (.bool (tl s j))/\w'=W):=fun j W hb=>KO _ cap s j W (h.below AC hb);clear h hcc hbs;go_enter func139,ntmps139;go_wp2_with fail;go_loopw[8,9] (fun v k wr=>∃(x m:Nat),v=.int .i64 x/\k=.int .i64 m/\1<=m/\m<=3/\Hid (x=vP s i bs (m- 1))/\Hid (∀j,1<=j->j<m->tl s (i+j)=true)/\x<=2097151/\Hid (x<16*64 ^ (m- 1))/\wr=w) (fun _ k _=>3- (intOf k).toNat);case atStart=>exact⟨bs,1,rfl,rfl,by omega,by omega,rfl,fun j h1 h2=>by omega,by omega,by show bs<16*64 ^ 0;omega,rfl⟩
 case round=>
  obtain⟨x,m,rfl,rfl,hm1,hm2,HX,HT,hxb,HXK,rfl⟩:=hrel;by_cases hlt:m<3;case pos=>
   have Fr:(m:Int)<3:=by omega
   have hw1:IntKind.i64.wrap ((i:Int)+(m:Int))=((i+m:Nat):Int):=by rw[IntKind.wrap_i64];omega
   have hw2:(i:Int)+(m:Int)=((i+m:Nat):Int):=by omega
   have HTJ:=AB (AA HTL (i+m) wr AI);obtain⟨q,hq⟩:∃q,i+m=q:=⟨_,rfl⟩
   rw[hq]at hw1 hw2 HTJ;have HQ:=AB hq;clear hq;cases ht:tl s q with
   |false=>
    have HE:=AB (Mk (AA HCL) hm1 hlt (by rw[AA HQ];exact ht));rw[ht]at HTJ;clear ht;go_wp2_with fail;refine(AA HTJ).mono ?_;rintro e w1⟨rfl,hw⟩;obtain rfl:=hw.symm;go_wp2_with fail;go_ret2;exact⟨by rw[AA HE];rfl,AI⟩
   |true=>
    have hb:=EL ht;have hqi:(q:Int)<(s.size:Int):=by omega
    obtain⟨_,_,e,-,hc2⟩:=(AA HROW).get hb.1;cases e;rw[IK hb.1]at hc2;obtain⟨y,hy⟩:∃y,bt s q=y:=⟨_,rfl⟩
    rw[hy]at hc2 hb;rw[ht]at HTJ;have HT2:Hid (∀j,1<=j->j<m+1->tl s (i+j)=true):=fun j h1 h2=>by
     by_cases hj:j=m
     .subst hj;rw[AA HQ];exact ht
     .exact AA HT j h1 (by omega)
    have HX2:Hid (x*64+(y- 128)=vP s i bs (m+1- 1)):=by
     show _=_;rw[show m+1- 1=(m- 1)+1 by omega];show _=vP s i bs (m- 1)*64+(bt s (i+((m- 1)+1))- 128)
     rw[<-AA HX,show i+(m- 1+1)=q by have:=AA HQ;omega,hy]
    have HK2:Hid (x*64+(y- 128)<16*64 ^ (m+1- 1)):=by have h1:=AA HXK;show _<_;rw[show m+1- 1=(m- 1)+1 by omega,Gy,<-Nat.mul_assoc];omega
    have hx2:x*64+(y- 128)<=2097151:=by have h1:=AA HK2;rcases(show m=1\/m=2 by omega)with rfl|rfl<;>simp at h1<;>omega
    obtain⟨z,hz⟩:∃z,x*64+(y- 128)=z:=⟨_,rfl⟩
    rw[hz]at HX2 hx2 HK2;have hzi:(x:Int)*64+(y:Int)- 128=(z:Int):=by omega
    clear ht hy hz;go_wp2_with fail;refine(AA HTJ).mono ?_;rintro e w1⟨rfl,hw⟩;obtain rfl:=hw.symm;go_wp2_with fail;go_roundw;case rel=>exact⟨z,m+1,by go_num,by go_num,by omega,by omega,HX2,HT2,hx2,HK2,by first|trivial|rfl⟩
    case measure=>simp[intOf];omega
  case neg=>
   obtain rfl:m=3:=by omega
   obtain⟨hvb,hfin⟩:=Mj (AA HCL) (AA HT);rw[<-AA HX]at hfin;have HF:=AB hfin;have HB:=AB (fun W=>JN x hxb W);have HO:=AB (fun W=>Il (x:Int) W);obtain⟨L,hL⟩:∃L,BW (x:Int)=L:=⟨_,rfl⟩
   rw[hL]at HB hfin HF;obtain⟨o,ho⟩:∃o,E0 (x:Int)=o:=⟨_,rfl⟩
   rw[ho]at HO HF;clear hfin hvb hL ho HX HT HCL;by_cases hLL:L.length=3;case pos=>
    have hLi:((L.length:Nat):Int)=3:=by omega
    have HLL:=AB hLL;clear hLL;cases o with
    |true=>
     have HE:Hid (Am s i=(x,3)):=by show _=_;rw[AA HF,AL ⟨AA HLL,rfl⟩]
     go_wp2_with(first|(go_at_call 179;refine(AA HB _).mono ?_;rintro e w1⟨g,rfl,DI,hb1⟩;have HB1:=AB hb1;clear DI hb1)|(go_at_call 180;refine(AA HO _).mono ?_;rintro e w2⟨rfl,hw⟩;obtain rfl:=hw.symm));go_ret2;exact⟨by rw[AA HE];rfl,AA HB1⟩
    |false=>
     have HE:Hid (Am s i=(0,0)):=by show _=_;rw[AA HF,AG (fun h=>by cases h.2)]
     go_wp2_with(first|(go_at_call 179;refine(AA HB _).mono ?_;rintro e w1⟨g,rfl,DI,hb1⟩;have HB1:=AB hb1;clear DI hb1)|(go_at_call 180;refine(AA HO _).mono ?_;rintro e w2⟨rfl,hw⟩;obtain rfl:=hw.symm));go_ret2;exact⟨by rw[AA HE];rfl,AA HB1⟩
   case neg=>
    have hLi:¬((L.length:Nat):Int)=3:=by omega
    have HE:Hid (Am s i=(0,0)):=by show _=_;rw[AA HF,AG (fun h=>hLL h.1)]
    clear hLL;go_wp2_with(go_at_call 179;refine(AA HB _).mono ?_;rintro e w1⟨g,rfl,DI,hb1⟩;have HB1:=AB hb1;clear DI hb1);go_ret2;exact⟨by rw[AA HE];rfl,AA HB1⟩
def XL(a:Option Addr)(cap:Nat)(s:AE)(i:Nat)(w:World)(h:De w a s.size (bz s))(hi:i<s.size)(hs:s.size<=17592186044416)(hl:240<=bt s i)(hh:bt s i<248):Calls prog 139 #[.slice a s.size cap,.int .i64 (i:Nat)] w (F1 w s i):=by
 obtain⟨bs,hbs⟩:∃b,b=bt s i- 240:=⟨_,rfl⟩
 have HCL:Hid (YQ (bt s i) 4 bs):=by show YQ _ _ _;unfold YQ;omega
 have hii:(i:Int)<(s.size:Int):=by omega
 have HROW:=AB h;obtain⟨b,off,rfl,-,hc⟩:=h.get hi;rw[IK hi]at hc;obtain⟨c,hcc⟩:∃c,bt s i=c:=⟨_,rfl⟩
 rw[hcc]at hc hl hh hbs;have hli:¬(c:Int)<128:=by omega
 have k1:(192:Int)<=(c:Int):=by omega
 have j1:¬(c:Int)<224:=by omega
 have k2:(224:Int)<=(c:Int):=by omega
 have j2:¬(c:Int)<240:=by omega
 have k3:(240:Int)<=(c:Int):=by omega
 have j3:(c:Int)<248:=by omega
 have hbi:(c:Int)- 240=(bs:Int):=by omega
 have HTL:Hid (∀j W,Below w.heap.size w W->Calls prog 178 #[.slice (some ⟨b,off,none⟩) s.size cap,.int .i64 (j:Nat)] W fun e w'=>e=.returned (.bool (tl s j))/\w'=W):=fun j W hb=>KO _ cap s j W (h.below AC hb);clear h hcc hbs;go_enter func139,ntmps139;go_wp2_with fail;go_loopw[8,9] (fun v k wr=>∃(x m:Nat),v=.int .i64 x/\k=.int .i64 m/\1<=m/\m<=4/\Hid (x=vP s i bs (m- 1))/\Hid (∀j,1<=j->j<m->tl s (i+j)=true)/\x<=2097151/\Hid (x<8*64 ^ (m- 1))/\wr=w) (fun _ k _=>4- (intOf k).toNat);case atStart=>exact⟨bs,1,rfl,rfl,by omega,by omega,rfl,fun j h1 h2=>by omega,by omega,by show bs<8*64 ^ 0;omega,rfl⟩
 case round=>
  obtain⟨x,m,rfl,rfl,hm1,hm2,HX,HT,hxb,HXK,rfl⟩:=hrel;by_cases hlt:m<4;case pos=>
   have Fr:(m:Int)<4:=by omega
   have hw1:IntKind.i64.wrap ((i:Int)+(m:Int))=((i+m:Nat):Int):=by rw[IntKind.wrap_i64];omega
   have hw2:(i:Int)+(m:Int)=((i+m:Nat):Int):=by omega
   have HTJ:=AB (AA HTL (i+m) wr AI);obtain⟨q,hq⟩:∃q,i+m=q:=⟨_,rfl⟩
   rw[hq]at hw1 hw2 HTJ;have HQ:=AB hq;clear hq;cases ht:tl s q with
   |false=>
    have HE:=AB (Mk (AA HCL) hm1 hlt (by rw[AA HQ];exact ht));rw[ht]at HTJ;clear ht;go_wp2_with fail;refine(AA HTJ).mono ?_;rintro e w1⟨rfl,hw⟩;obtain rfl:=hw.symm;go_wp2_with fail;go_ret2;exact⟨by rw[AA HE];rfl,AI⟩
   |true=>
    have hb:=EL ht;have hqi:(q:Int)<(s.size:Int):=by omega
    obtain⟨_,_,e,-,hc2⟩:=(AA HROW).get hb.1;cases e;rw[IK hb.1]at hc2;obtain⟨y,hy⟩:∃y,bt s q=y:=⟨_,rfl⟩
    rw[hy]at hc2 hb;rw[ht]at HTJ;have HT2:Hid (∀j,1<=j->j<m+1->tl s (i+j)=true):=fun j h1 h2=>by
     by_cases hj:j=m
     .subst hj;rw[AA HQ];exact ht
     .exact AA HT j h1 (by omega)
    have HX2:Hid (x*64+(y- 128)=vP s i bs (m+1- 1)):=by
     show _=_;rw[show m+1- 1=(m- 1)+1 by omega];show _=vP s i bs (m- 1)*64+(bt s (i+((m- 1)+1))- 128)
     rw[<-AA HX,show i+(m- 1+1)=q by have:=AA HQ;omega,hy]
    have HK2:Hid (x*64+(y- 128)<8*64 ^ (m+1- 1)):=by have h1:=AA HXK;show _<_;rw[show m+1- 1=(m- 1)+1 by omega,Gy,<-Nat.mul_assoc];omega
    have hx2:x*64+(y- 128)<=2097151:=by have h1:=AA HK2;rcases(show m=1\/m=2\/m=3 by omega)with rfl|rfl|rfl<;>simp at h1<;>omega
    obtain⟨z,hz⟩:∃z,x*64+(y- 128)=z:=⟨_,rfl⟩
    rw[hz]at HX2 hx2 HK2;have hzi:(x:Int)*64+(y:Int)- 128=(z:Int):=by omega
    clear ht hy hz;go_wp2_with fail;refine(AA HTJ).mono ?_;rintro e w1⟨rfl,hw⟩;obtain rfl:=hw.symm;go_wp2_with fail;go_roundw;case rel=>exact⟨z,m+1,by go_num,by go_num,by omega,by omega,HX2,HT2,hx2,HK2,by first|trivial|rfl⟩
    case measure=>simp[intOf];omega
  case neg=>
   obtain rfl:m=4:=by omega
   obtain⟨hvb,hfin⟩:=Mj (AA HCL) (AA HT);rw[<-AA HX]at hfin;have HF:=AB hfin;have HB:=AB (fun W=>JN x hxb W);have HO:=AB (fun W=>Il (x:Int) W);obtain⟨L,hL⟩:∃L,BW (x:Int)=L:=⟨_,rfl⟩
   rw[hL]at HB hfin HF;obtain⟨o,ho⟩:∃o,E0 (x:Int)=o:=⟨_,rfl⟩
   rw[ho]at HO HF;clear hfin hvb hL ho HX HT HCL;by_cases hLL:L.length=4;case pos=>
    have hLi:((L.length:Nat):Int)=4:=by omega
    have HLL:=AB hLL;clear hLL;cases o with
    |true=>
     have HE:Hid (Am s i=(x,4)):=by show _=_;rw[AA HF,AL ⟨AA HLL,rfl⟩]
     go_wp2_with(first|(go_at_call 179;refine(AA HB _).mono ?_;rintro e w1⟨g,rfl,DI,hb1⟩;have HB1:=AB hb1;clear DI hb1)|(go_at_call 180;refine(AA HO _).mono ?_;rintro e w2⟨rfl,hw⟩;obtain rfl:=hw.symm));go_ret2;exact⟨by rw[AA HE];rfl,AA HB1⟩
    |false=>
     have HE:Hid (Am s i=(0,0)):=by show _=_;rw[AA HF,AG (fun h=>by cases h.2)]
     go_wp2_with(first|(go_at_call 179;refine(AA HB _).mono ?_;rintro e w1⟨g,rfl,DI,hb1⟩;have HB1:=AB hb1;clear DI hb1)|(go_at_call 180;refine(AA HO _).mono ?_;rintro e w2⟨rfl,hw⟩;obtain rfl:=hw.symm));go_ret2;exact⟨by rw[AA HE];rfl,AA HB1⟩
   case neg=>
    have hLi:¬((L.length:Nat):Int)=4:=by omega
    have HE:Hid (Am s i=(0,0)):=by show _=_;rw[AA HF,AG (fun h=>hLL h.1)]
    clear hLL;go_wp2_with(go_at_call 179;refine(AA HB _).mono ?_;rintro e w1⟨g,rfl,DI,hb1⟩;have HB1:=AB hb1;clear DI hb1);go_ret2;exact⟨by rw[AA HE];rfl,AA HB1⟩
def NE(a:Option Addr)(cap:Nat)(s:AE)(i:Nat)(w:World)(h:De w a s.size (bz s))(hi:i<s.size)(hs:s.size<=17592186044416):Calls prog 139 #[.slice a s.size cap,.int .i64 (i:Nat)] w (F1 w s i):=by
 by_cases h1:bt s i<128
 .exact SY a cap s i w h hi h1
 .by_cases h2:bt s i<192\/248<=bt s i
  .exact Qj a cap s i w h hi (by omega) h2
  .by_cases h3:bt s i<224
   .exact XN a cap s i w h hi hs (by omega) h3
   .by_cases h4:bt s i<240
    .exact XM a cap s i w h hi hs (by omega) h4
    .exact XL a cap s i w h hi hs (by omega) (by omega)
def Mp(b o n c p q m:Nat)(hp:p<=q)(hq:q<=c)(hm:q- p=m)(hpc:p<c)(W:World):(Instr.slice 33 (.slice (some ⟨b,o,none⟩) n c) (some (.int .i64 (p:Nat))) (some (.int .i64 (q:Nat))) none).run prog W=.ok (.slice (some ⟨b,o+p,none⟩) m (c- p)) W:=by
 have h1:(q:Int)<=(c:Int):=by omega
 have h2:(p:Int)<=(q:Int):=by omega
 have h3:¬ c=p:=by omega
 have h5:(⟨b,o,none⟩:Addr).add p=⟨b,o+p,none⟩:=by by_cases h:p=0<;>simp[Addr.add,h]
 go_simp
def V2{s:AE}{F k:Nat}{out:List UInt8}(h:¬ k<s.size):BF s F k out=Di 1:=by
 cases F with
 |zero=>rfl
 |succ F=>rw[BF,AG h]
def V3{s:AE}{F k:Nat}{out:List UInt8}(h:k<s.size)(hq:bt s k≠39)(hb:(Am s k).2=0\/bt s k=10):BF s F k out=Di 1:=by
 cases F with
 |zero=>rfl
 |succ F=>rw[BF,AL h,AG hq,AL hb]
def Rt{s:AE}{F k:Nat}{out:List UInt8}(hF:s.size- k<F)(h:k<s.size)(hq:bt s k=39)(hb:Eo s k=false):BF s F k out=⟨2,0,⟨out.toArray⟩,k+1,0⟩:=by
 cases F with
 |zero=>omega
 |succ F=>rw[BF,AL h,AL hq,AG (by rw[hb];decide)]
def Rs{s:AE}{F k:Nat}{out:List UInt8}(hF:s.size- k<F)(h:k<s.size)(hq:bt s k=39)(hb:Eo s k=true):BF s F k out=BF s (F- 1) (k+2) (out++ [39]):=by
 cases F with
 |zero=>omega
 |succ F=>rw[BF,AL h,AL hq,AL hb];rfl
def UH{s:AE}{F k:Nat}{out:List UInt8}(hF:s.size- k<F)(h:k<s.size)(hq:bt s k≠39)(hb:¬((Am s k).2=0\/bt s k=10)):BF s F k out=BF s (F- 1) (k+(Am s k).2) (out++(s.extract k (k+(Am s k).2)).data.toList):=by
 cases F with
 |zero=>omega
 |succ F=>rw[BF,AL h,AG hq,AG hb];rfl
def SX(s:AE)(i:Nat)(w:World)(hi:i<s.size)(hs:s.size<=1000000000):Calls prog 138 #[.string s,.int .i64 (i:Nat)] w (LM w (BF s (s.size- i) (i+1) [])):=by
 obtain⟨tgt,HU⟩:∃tgt,BF s (s.size- i) (i+1) []=tgt:=⟨_,rfl⟩
 rw[HU];have HTG:=AB HU;obtain⟨Q,hQ⟩:∃Q,Q=w.alloc (.cells #[.int .i64 0,.int .i64 0,.string ⟨#[]⟩,.int .i64 0,.int .i64 0,.int .i64 0] 119):=⟨_,rfl⟩
 have HQ:=AB hQ;have HBX:Hid (I4 Q w.heap.size (.int .i64 0) (.int .i64 0) (.string ⟨#[]⟩) (.int .i64 0) (.int .i64 0) (.int .i64 0)):=by rw[hQ];exact I4.new w _ _ _ _ _ _
 have HBQ:Hid (Below w.heap.size w Q):=by rw[hQ];exact AI.alloc AC _
 have hQs:Q.heap.size=w.heap.size+1:=by rw[hQ];simp
 clear hQ HU;obtain⟨cap,W1,hcv,hcap,DI,hbW,hzW⟩:=LG Q s;rw[AA HQ]at hcv;have HROW:Hid (De W1 (some ⟨Q.heap.size,0,none⟩) s.size (bz s)):=DI;have HBX1:=AB ((AA HBX).below AC hbW);have HBW:Hid (Below w.heap.size w W1):=(AA HBQ).trans (hbW.mono (by omega));have hzl:w.heap.size<W1.heap.size:=by omega
 have HG0:=AB (Dv.start W1);have HST:Hid (∀k W,k<=s.size->Calls prog 88 #[.string s,.int .i64 (k:Nat),.string ⟨#[39,39]⟩] W fun e w'=>e=.returned (.bool (Eo s k))/\w'=W):=fun k W hk=>by rw[<-Ns];exact F8 s ⟨#[39,39]⟩ k hk (by omega) (by decide) W
 obtain⟨bb,hbb⟩:∃b,Q.heap.size=b:=⟨_,rfl⟩
 rw[AA HQ]at hbb;have hbb':w.heap.size+1=bb:=by rw[<-hbb];simp
 have HBB:Hid (Q.heap.size=bb):=by show _=_;rw[hQs];exact hbb'
 rw[AA HBB]at HROW;rw[hbb]at hcv;have hbl:bb<W1.heap.size:=by have:=AA HBB;omega
 clear DI hbW HBX hbb hzW hQs HBQ;obtain⟨i0,hii,hz0,hz1,hz2⟩:=info_parts Lj;obtain⟨e0,he0⟩:∃e,i+1=e:=⟨_,rfl⟩
 have hi1:(i:Int)+1=(e0:Int):=by omega
 rw[he0]at HTG;have hei:i<e0:=by omega
 have hes:e0<=s.size:=by omega
 have HSE:Hid (s.size- e0<s.size- i):=by show _<_;omega
 clear he0 hbb';go_enter func138,ntmps138;go_wp2_with fail;go_loopw[6,7] (fun u e wr=>∃(g cp:Nat)(out:List UInt8)(k F:Nat),u=.slice (some ⟨g,0,none⟩) out.length cp/\e=.int .i64 (k:Nat)/\k<=s.size/\out.length<=k/\s.size- k<F/\Hid (BF s F k out=tgt)/\Hid (Dv W1 wr g cp out.length (uz out))) (fun _ e _=>s.size- (intOf e).toNat);case atStart=>exact⟨W1.heap.size,0,[],e0,s.size- i,rfl,rfl,hes,by simp,AA HSE,HTG,HG0⟩
 case round=>
  obtain⟨g,cp,out,k,F,rfl,rfl,hk,hol,hF,HTK,HG⟩:=hrel;clear hcv HTG HG0;have HLOW:=AB (AA HG).low;have HBXr:=AB ((AA HBX1).below AC (AA HLOW));have hzr:=(AA HLOW).size;have hzlr:w.heap.size<wr.heap.size:=by omega
  have HBr:Hid (Below w.heap.size w wr):=(AA HBW).trans ((AA HLOW).mono (by omega));obtain⟨nn,hnn⟩:∃n,out.length=n:=⟨_,rfl⟩
  rw[hnn]at hol HG;rw[hnn];have HNN:=AB hnn;clear hnn;by_cases hlt:k<s.size;case neg=>
   have Fr:¬(k:Int)<(s.size:Int):=by omega
   have HE:Hid (tgt=Di 1):=by show _=_;rw[<-AA HTK,V2 hlt]
   obtain⟨q0,q1,q2,q3,q4,q5,qf⟩:=(AA HBXr).all;have f0:=qf 0;have f1:=qf 1;have f2:=qf 2;have f3:=qf 3;have f4:=qf 4;have f5:=qf 5;clear qf;go_wp2_with fail;refine bodyPost_ret (v:=EE (Di 1)) (by simp[results,results138,go_sem,q0,q1,q2,q3,q4,q5,EE,Di]) rfl ?_;exact⟨by rw[AA HE],(((((((AA HBr)).setCell AC _).setCell AC _).setCell AC _).setCell AC _).setCell AC _).setCell AC _⟩
  case pos=>
   have Fr:(k:Int)<(s.size:Int):=by omega
   have hix:=fun W=>C5 hlt W;have hy8:=GR s k;obtain⟨y,hy⟩:∃y,bt s k=y:=⟨_,rfl⟩
   have HY:=AB hy;rw[hy]at hix hy8;clear hy;by_cases h39:y=39;case pos=>
    subst h39;have HSQ:=AB (fun W=>AA HST k W hk);cases hq:Eo s k with
    |true=>
     rw[hq]at HSQ;have hk2:k+2<=s.size:=by have:=AT hq;omega
     have HNX:Hid (BF s (F- 1) (k+2) (out++ [39])=tgt):=by show _=_;rw[<-Rs hF hlt (AA HY) hq];exact AA HTK
     clear hq;go_wp2_with(first|(go_at_call 88;refine(AA HSQ _).mono ?_;rintro e w5⟨rfl,hw⟩;obtain rfl:=hw.symm)|(at_builtin;refine wpList_append_lies _ rfl _ _ 33 rfl W1.heap.size 5 i0 (.int .u8 0) 1 1 underlying33 hii hz0 hz1 hz2 rfl (by decide) _ _ _ rfl ((AA HG).below (AI.alloc AC _)).own ⟨wr.heap.size,0,none⟩ 1 1 ([39].map (Value.int .u8)) rfl rfl (De.new wr [39]).news (G0 _) (by omega) (by unfold maxLen;omega) (by omega) (by have:=(AA HG).low.size;simp;omega) (wr.heap.size+1) (by simp) ?_;intro g' CW w7 A2 Au hat Cu;have HF7:=AB (Dv.push ((AA HG).below (AI.alloc AC _)) A2 Au);clear Au hat A2 Cu));go_roundw;case rel=>
      refine⟨g',CW,out++ [39],k+2,F- 1,?_,by go_num,by omega,by rw[AH,AA HNN];simp;omega,by omega,HNX,?_⟩
      .rw[AH,AA HNN];rfl
      .show Dv _ _ _ _ _ _;rw[AH,AA HNN,Vv];exact AA HF7
     case measure=>simp[intOf];omega
    |false=>
     rw[hq]at HSQ;have HE:Hid (tgt=⟨2,0,⟨out.toArray⟩,k+1,0⟩):=by show _=_;rw[<-AA HTK,Rt hF hlt (AA HY) hq]
     have hcb:∀c,(convert 33 9 (.slice (some ⟨g,0,none⟩) nn c)).run prog wr=.ok (.string ⟨out.toArray⟩) wr:=fun c=>by
      have:=Jn (cap:=c) (w:=wr) (b:=g) (off:=0) (l:=out) (by rw[AA HNN];exact(AA HG).row)
      rwa [AA HNN]at this
     clear hq;obtain⟨q0,q1,q2,q3,q4,q5,qf⟩:=(AA HBXr).all;have f0:=qf 0;have f1:=qf 1;have f2:=qf 2;have f3:=qf 3;have f4:=qf 4;have f5:=qf 5;clear qf;go_wp2_with(go_at_call 88;refine(AA HSQ _).mono ?_;rintro e w5⟨rfl,hw⟩;obtain rfl:=hw.symm);refine bodyPost_ret (v:=EE ⟨2,0,⟨out.toArray⟩,k+1,0⟩) (by simp[results,results138,go_sem,q0,q1,q2,q3,q4,q5,EE]) rfl ?_;exact⟨by rw[AA HE],(((((((AA HBr)).setCell AC _).setCell AC _).setCell AC _).setCell AC _).setCell AC _).setCell AC _⟩
   case neg=>
    have h39i:¬(y:Int)=39:=by omega
    have HR:=AB (NE (some ⟨bb,0,none⟩) cap s k wr ((AA HROW).below AC (AA HLOW)) hlt (by omega));have hre:=Kj hlt;have hnq:bt s k≠39:=by rw[AA HY];exact h39
    have HNQ:=AB hnq;clear hnq h39;obtain⟨rv,hrv⟩:∃v,(Am s k).1=v:=⟨_,rfl⟩
    obtain⟨rn,hrn⟩:∃n,(Am s k).2=n:=⟨_,rfl⟩
    have HR2:Hid (Calls prog 139 #[.slice (some ⟨bb,0,none⟩) s.size cap,.int .i64 (k:Nat)] wr fun e w'=>e=.returned (.tuple #[.int .i64 (rv:Nat),.int .i64 (rn:Nat)])/\Below wr.heap.size wr w'):=by have:=AA HR;unfold F1 at this;rw[hrv,hrn]at this;exact this
    rw[hrn]at hre;have HRN:=AB hrn;clear HR hrv hrn;by_cases hbad:rn=0\/y=10;case pos=>
     have HE:Hid (tgt=Di 1):=by show _=_;rw[<-AA HTK,V3 hlt (AA HNQ) (by rw[AA HRN,AA HY];exact hbad)]
     have hb2:(rn=0)\/(¬ rn=0/\y=10):=by omega
     rcases hb2 with hb2|⟨hb2,hb3⟩
     .subst hb2;go_wp2_with(go_at_call 139;refine(AA HR2).mono ?_;rintro e w5⟨rfl,hb5⟩;obtain⟨q0,q1,q2,q3,q4,q5,qf⟩:=((AA HBXr).below AC hb5).all;have f0:=qf 0;have f1:=qf 1;have f2:=qf 2;have f3:=qf 3;have f4:=qf 4;have f5:=qf 5;have HB5:=AB ((AA HBr).trans (hb5.mono (AA HBr).size));clear qf hb5);refine bodyPost_ret (v:=EE (Di 1)) (by simp[results,results138,go_sem,q0,q1,q2,q3,q4,q5,EE,Di]) rfl ?_;exact⟨by rw[AA HE],(((((((AA HB5)).setCell AC _).setCell AC _).setCell AC _).setCell AC _).setCell AC _).setCell AC _⟩
     .subst hb3;have hb2i:¬(rn:Int)=0:=by omega
      go_wp2_with(go_at_call 139;refine(AA HR2).mono ?_;rintro e w5⟨rfl,hb5⟩;obtain⟨q0,q1,q2,q3,q4,q5,qf⟩:=((AA HBXr).below AC hb5).all;have f0:=qf 0;have f1:=qf 1;have f2:=qf 2;have f3:=qf 3;have f4:=qf 4;have f5:=qf 5;have HB5:=AB ((AA HBr).trans (hb5.mono (AA HBr).size));clear qf hb5);refine bodyPost_ret (v:=EE (Di 1)) (by simp[results,results138,go_sem,q0,q1,q2,q3,q4,q5,EE,Di]) rfl ?_;exact⟨by rw[AA HE],(((((((AA HB5)).setCell AC _).setCell AC _).setCell AC _).setCell AC _).setCell AC _).setCell AC _⟩
    case neg=>
     have hn0:¬(rn:Int)=0:=by omega
     have hy10:((y:Int)==10)=false:=by simp;omega
     obtain⟨pc,hpc⟩:∃l,(s.extract k (k+rn)).data.toList=l:=⟨_,rfl⟩
     have HPL:Hid (pc.length=rn):=by show _=_;rw[<-hpc,Cq,CF,DO,<-Lib.size_eq];omega
     have HNX:Hid (BF s (F- 1) (k+rn) (out++pc)=tgt):=by show _=_;have h1:=UH (out:=out) hF hlt (AA HNQ) (by rw[AA HRN,AA HY];exact hbad);rw[AA HRN,hpc]at h1;rw[<-h1];exact AA HTK
     have HPR:=AB (De.piece (n:=rn) (i:=k) (AA HROW) hre.1);rw[hpc,BY]at HPR;obtain⟨ke,hke⟩:∃e,k+rn=e:=⟨_,rfl⟩
     have hki:(k:Int)+(rn:Int)=(ke:Int):=by omega
     have hsl:=Mp bb 0 s.size cap k ke rn (by omega) (by omega) (by omega) (by omega);rw[BY]at hsl;rw[hke]at HNX;have hke1:k<ke:=by omega
     have hke2:ke<=s.size:=by omega
     have HKE:=AB hke;have hrn4:rn<=4:=hre.2;have hrn0:0<rn:=by omega
     clear hpc hbad hke hre;go_wp2_with(first|(go_at_call 139;refine(AA HR2).mono ?_;rintro e w5⟨rfl,hb5⟩;have HG5:=AB ((AA HG).below hb5);have HP5:=AB ((AA HPR).below AC ((AA HLOW).trans (hb5.mono hzr)));clear hb5)|(at_builtin;refine wpList_append_lies _ rfl _ _ 33 rfl W1.heap.size 5 i0 (.int .u8 0) 1 1 underlying33 hii hz0 hz1 hz2 rfl (by decide) _ _ _ rfl (AA HG5).own ⟨bb,k,none⟩ rn (cap- k) ((uz pc).map (Value.int .u8)) rfl (by rw[AS,O1,AA HPL];omega) (AA HP5).news (G0 _) (by omega) (by unfold maxLen;omega) (by omega) (by have:=(AA HG5).low.size;simp;omega) w5.heap.size (by simp) ?_;intro g' CW w7 A2 Au hat Cu;have HF7:=AB (Dv.push (AA HG5) A2 Au);clear Au hat A2 Cu));go_roundw;case rel=>
      refine⟨g',CW,out++pc,ke,F- 1,?_,by go_num,hke2,by rw[AH,AA HNN,AA HPL];have:=AA HKE;omega,by omega,HNX,?_⟩
      .rw[AH,AA HNN,AA HPL]
      .show Dv _ _ _ _ _ _;rw[AH,AA HNN,AA HPL,Vv];exact AA HF7
     case measure=>simp[intOf];omega
def ZM(s:AE)(i:Nat):(Am s i).1<=2097151:=by
 have hb:=GR s i;by_cases h1:bt s i<128
 .rw[Ig h1];simp;omega
 .by_cases h2:bt s i<192\/248<=bt s i
  .rw[PF (by omega) h2];simp
  .by_cases h3:bt s i<224
   .rw[Mo (by omega) h3];split
    .show v2 s i<=_;unfold v2;omega
    .simp
   .by_cases h4:bt s i<240
    .rw[Mn (by omega) h4];split
     .show v3 s i<=_;unfold v3;omega
     .simp
    .rw[Mm (by omega) (by omega)];split
     .show v4 s i<=_;unfold v4;omega
     .simp
def Pc(s:AE)(i:Nat)(w:World)(hi:i<s.size)(hs:s.size<=100000)(hd:Es (bt s i)=false)(hh:CM s i=false)(h39:bt s i≠39)(hl:El (bt s i)=false):Calls prog 89 #[.string s,.int .i64 (i:Nat)] w (LM w (Ea s i)):=by
 obtain⟨Q,hQ⟩:∃Q,Q=w.alloc (.cells #[.int .i64 0,.int .i64 0,.string ⟨#[]⟩,.int .i64 0,.int .i64 0,.int .i64 0] 119):=⟨_,rfl⟩
 have HQ:=AB hQ;have HBX:Hid (I4 Q w.heap.size (.int .i64 0) (.int .i64 0) (.string ⟨#[]⟩) (.int .i64 0) (.int .i64 0) (.int .i64 0)):=by rw[hQ];exact I4.new w _ _ _ _ _ _
 have HBQ:Hid (Below w.heap.size w Q):=by rw[hQ];exact AI.alloc AC _
 clear hQ;have Fr:(i:Int)<(s.size:Int):=by omega
 have hix:=fun W=>C5 hi W;have HD:=AB (fun W=>E4 (bt s i) W);have HL:=AB (fun W=>FI (bt s i) W);have HSI:Hid (∀W,Calls prog 88 #[.string s,.int .i64 (i:Nat),.string ⟨#[194,175]⟩] W fun e w'=>e=.returned (.bool (CM s i))/\w'=W):=fun W=>by rw[<-Gg];exact F8 s ⟨#[194,175]⟩ i (by omega) (by omega) (by decide) W
 rw[hd]at HD;rw[hl]at HL;rw[hh]at HSI;have HY0:Hid (bt s i<256):=GR s i;obtain⟨y,hy⟩:∃y,bt s i=y:=⟨_,rfl⟩
 rw[hy]at hix HD HL HY0 h39;have hy256:=AA HY0;have h39i:¬(y:Int)=39:=by omega
 clear hy HY0 hd hl hh h39;obtain⟨cap,W1,hcv,hcap,DI,hbW,hzW⟩:=LG Q s;have HR0:=AB (NE (some ⟨Q.heap.size,0,none⟩) cap s i W1 DI hi (by omega));have hre:=Kj hi;have hrl:=ZM s i;have HSA:Hid (0<(Am s i).2->((Lz FP FP.size).2.any fun p=>p.toList==(s.extract i (i+(Am s i).2)).toList)=decide ((Am s i).1∈Ar)):=fun h=>WH hi h hrl;have HT4:Hid (Ea s i=if 0<(Am s i).2/\(Am s i).1∈Ar then⟨4,0,s.extract i (i+(Am s i).2),i+(Am s i).2,0⟩else Di 1):=rfl;obtain⟨rv,hrv⟩:∃v,(Am s i).1=v:=⟨_,rfl⟩
 obtain⟨rn,hrn⟩:∃n,(Am s i).2=n:=⟨_,rfl⟩
 have HR2:Hid (Calls prog 139 #[.slice (some ⟨Q.heap.size,0,none⟩) s.size cap,.int .i64 (i:Nat)] W1 fun e w'=>e=.returned (.tuple #[.int .i64 (rv:Nat),.int .i64 (rn:Nat)])/\Below W1.heap.size W1 w'):=by have:=AA HR0;unfold F1 at this;rw[hrv,hrn]at this;exact this
 rw[hrn]at hre;rw[hrn,hrv]at HSA HT4;have HBX1:=AB ((AA HBX).below AC hbW);have HBW:Hid (Below w.heap.size w W1):=(AA HBQ).trans (hbW.mono (AA HBQ).size);obtain⟨qs,hqs⟩:∃q,Q.heap.size=q:=⟨_,rfl⟩
 rw[hqs]at HR2 hcv;rw[AA HQ]at hcv;obtain⟨e0,he0⟩:∃e,i+rn=e:=⟨_,rfl⟩
 rw[he0]at HSA HT4 hre;have hei:(i:Int)+(rn:Int)=(e0:Int):=by omega
 have hsl:=fun W=>PG (s:=s) (p:=i) (q:=e0) (by omega) hre.1 W;obtain⟨x,hx⟩:∃x,s.extract i e0=x:=⟨_,rfl⟩
 rw[hx]at hsl HSA HT4;obtain⟨T,hT⟩:∃T,decide (0<rn/\rv∈Ar)=T:=⟨_,rfl⟩
 have HTT:=AB hT;have hrnb:rn<=4:=hre.2;have he0b:e0<=s.size:=hre.1;have HTF:Hid (0<rn->((Lz FP FP.size).2.any fun p=>p.toList==x.toList)=T):=fun h0=>by
  rw[AA HSA h0,<-AA HTT];by_cases hm:rv∈Ar
  .rw[AK hm,AK ⟨h0,hm⟩]
  .rw[AD hm,AD (fun h=>hm h.2)]
 obtain⟨nl,hnl⟩:∃n,(Lz FP FP.size).2.length=n:=⟨_,rfl⟩
 have HLI:Hid (0<rn->∀W,Calls prog 141 #[.string FP] W (Yj W x T nl)):=fun h0 W=>(NF FP W OP).mono (by rintro e w'⟨g,cl,rfl,hrs,hb⟩;refine⟨g,cl,by rw[hnl],fun W' hW'=> ?_,hb⟩;have hsz:(Lz FP FP.size).2.length<=100000:=Aw (SI FP FP.size).2 OP;have:=NG (some ⟨g,0,none⟩) _ cl _ x W' (hrs.below AC hW') hsz;rw[hnl,AA HTF h0]at this;exact this);have HSG:=AB Qi;obtain⟨SG,hSG⟩:∃z,FP=z:=⟨_,rfl⟩
 rw[hSG]at HLI HSG;clear HR0 DI hbW hzW hcap hrl hrv hrn hqs hx he0 hT hre HSA HTF hnl hSG;go_enter func89,ntmps89;go_upto_region 13 with(first|(go_at_call 116;refine(AA HD _).mono ?_;rintro e' w1⟨rfl,hw⟩;obtain rfl:=hw.symm)|(go_at_call 121;refine(Ds _).mono ?_;rintro e' w1⟨rfl,hw⟩;obtain rfl:=hw.symm)|(go_at_call 88;refine(AA HSI _).mono ?_;rintro e' w1⟨rfl,hw⟩;obtain rfl:=hw.symm)|(go_at_call 115;refine(AA HL _).mono ?_;rintro e' w1⟨rfl,hw⟩;obtain rfl:=hw.symm)|(go_at_call 139;refine(AA HR2).mono ?_;rintro e' w5⟨rfl,hb5⟩;have HBX5:=AB ((AA HBX1).below AC hb5);have HB5:=AB ((AA HBW).trans (hb5.mono (AA HBW).size));clear hb5));clear HD HL HSI hix hcv HR2 HBX1 HBW HBX HBQ;go_cut[82] (fun t wx=>t=.bool T/\Hid (Below w5.heap.size w5 wx));case first=>
  by_cases h0:0<rn;case neg=>
   have HTF:Hid (T=false):=by show _=_;rw[<-AA HTT];exact AD (fun h=>h0 h.1)
   obtain rfl:rn=0:=by omega
   clear h0 hsl;go_quiet(fail);go_wp2_with fail
   go_meet
   case rel=>exact⟨by rw[AA HTF],Below.drewN AI _⟩
  case pos=>
   have HLI2:=AB (AA HLI h0);have HB0:Hid (Below w5.heap.size w5 w5.drew):=AI.drew;clear HLI HT4 HTT HBX5 HB5 hi;have hadd:IntKind.i64.wrap ((i:Int)+(rn:Int))=(e0:Nat):=by rw[hei,IntKind.wrap_i64];omega
   refine ZP _ w5 (by simp) s x SG i rn e0 nl T rfl rfl rfl h0 hadd hsl (AA HSG) (AA HLI2) (fun _ _ _ _ _ h=>h) ?_;intro g cl w' hb;have HBB:=AB hb;clear hb;simp only[dI,Act.put,List.setIfInBounds_toArray,List.set_cons_zero,List.set_cons_succ];go_wp2_with fail
   go_meet
   case rel=>exact⟨rfl,HBB⟩
 case rest=>
  obtain⟨rfl,HBc⟩:=hcut;obtain⟨w6,hw6⟩:∃z,z=wc:=⟨_,rfl⟩
  subst hw6;have HBX6:=AB ((AA HBX5).below AC (AA HBc));have HB6:Hid (Below w.heap.size w w6):=(AA HB5).trans ((AA HBc).mono (AA HB5).size);obtain⟨q0,q1,q2,q3,q4,q5,qf⟩:=(AA HBX6).all;have f0:=qf 0;have f1:=qf 1;have f2:=qf 2;have f3:=qf 3;have f4:=qf 4;have f5:=qf 5;clear qf HBX5 HB5 HBc;cases T with
  |true=>
   have HE:Hid (Ea s i=⟨4,0,x,e0,0⟩):=by show _=_;rw[AA HT4,AL (AT (AA HTT))]
   go_wp2_with fail;refine bodyPost_ret (v:=EE ⟨4,0,x,e0,0⟩) (by simp[results,results89,go_sem,q0,q1,q2,q3,q4,q5,EE]) rfl ?_;exact⟨by rw[AA HE],(((((((AA HB6)).setCell AC _).setCell AC _).setCell AC _).setCell AC _).setCell AC _).setCell AC _⟩
  |false=>
   have HE:Hid (Ea s i=Di 1):=by show _=_;rw[AA HT4,AG (of_decide_eq_false (AA HTT))]
   go_wp2_with fail;refine bodyPost_ret (v:=EE (Di 1)) (by simp[results,results89,go_sem,q0,q1,q2,q3,q4,q5,EE,Di]) rfl ?_;exact⟨by rw[AA HE],(((((((AA HB6)).setCell AC _).setCell AC _).setCell AC _).setCell AC _).setCell AC _).setCell AC _⟩
def Qh(s:AE)(i:Nat)(w:World)(hi:i<s.size)(hs:s.size<=100000):Calls prog 89 #[.string s,.int .i64 (i:Nat)] w (LM w (BO s i)):=by
 by_cases hsg:Es (bt s i)=false/\CM s i=false/\bt s i≠39/\El (bt s i)=false
 .have e:BO s i=Ea s i:=by unfold BO;rw[AG (by rw[hsg.1,hsg.2.1];rintro(h|h)<;>cases h),AG hsg.2.2.1,AG (by rw[hsg.2.2.2];decide)]
  rw[e];exact Pc s i w hi hs hsg.1 hsg.2.1 hsg.2.2.1 hsg.2.2.2
 have HNS:=AB hsg;clear hsg;obtain⟨Q,hQ⟩:∃Q,Q=w.alloc (.cells #[.int .i64 0,.int .i64 0,.string ⟨#[]⟩,.int .i64 0,.int .i64 0,.int .i64 0] 119):=⟨_,rfl⟩
 have HQ:=AB hQ;have HBX:Hid (I4 Q w.heap.size (.int .i64 0) (.int .i64 0) (.string ⟨#[]⟩) (.int .i64 0) (.int .i64 0) (.int .i64 0)):=by rw[hQ];exact I4.new w _ _ _ _ _ _
 have HBQ:Hid (Below w.heap.size w Q):=by rw[hQ];exact AI.alloc AC _
 have hQs:Q.heap.size=w.heap.size+1:=by rw[hQ];simp
 have HQS:=AB hQs;clear hQ hQs;have Fr:(i:Int)<(s.size:Int):=by omega
 have hix:=fun W=>C5 hi W;have HD:=AB (fun W=>E4 (bt s i) W);have HL:=AB (fun W=>FI (bt s i) W);have HSI:Hid (∀W,Calls prog 88 #[.string s,.int .i64 (i:Nat),.string ⟨#[194,175]⟩] W fun e w'=>e=.returned (.bool (CM s i))/\w'=W):=fun W=>by rw[<-Gg];exact F8 s ⟨#[194,175]⟩ i (by omega) (by omega) (by decide) W
 have HTA:Hid (BO s i=if Es (bt s i)=true\/CM s i=true then ED s i else if bt s i=39 then BF s (s.size- i) (i+1) []else if El (bt s i)=true then Fm s i else Ea s i):=rfl;have HY0:Hid (bt s i<256):=GR s i;obtain⟨y,hy⟩:∃y,bt s i=y:=⟨_,rfl⟩
 have HY:=AB hy;rw[hy]at hix HD HL HTA HY0 HNS;have hy256:=AA HY0;clear hy HY0;go_enter func89,ntmps89;cases hd:Es y with
 |true=>
  rw[hd]at HD;obtain⟨g,hg⟩:∃g,ED s i=g:=⟨_,rfl⟩
  have HC:=AB (LB s i Q hi (by omega));rw[hg]at HC;have HE:Hid (BO s i=g):=by show _=_;rw[<-hg];rw[AA HTA,AL (.inl hd)]
  clear hg;obtain⟨gk,gn,gt,ge,gc⟩:=g;have HC2:Hid (Calls prog 137 #[.string s,.int .i64 (i:Nat)] Q fun e' w'=>e'=.returned (.agg #[.int .i64 gk,.int .i64 gn,.string gt,.int .i64 0,.int .i64 (ge:Nat),.int .i64 gc])/\Below Q.heap.size Q w'):=AA HC;clear HC;go_wp2_with(first|(go_at_call 116;refine(AA HD _).mono ?_;rintro e' w1⟨rfl,hw⟩;obtain rfl:=hw.symm)|(go_at_call 137;rw[<-AA HQ];refine(AA HC2).mono ?_;rintro e' w5⟨rfl,hb5⟩;obtain⟨q0,q1,q2,q3,q4,q5,qf⟩:=((AA HBX).below AC hb5).all;have f0:=qf 0;have f1:=qf 1;have f2:=qf 2;have f3:=qf 3;have f4:=qf 4;have f5:=qf 5;clear qf;have HB5:=AB ((AA HBQ).trans (hb5.mono (AA HBQ).size));clear hb5));refine bodyPost_ret (v:=EE ⟨gk,gn,gt,ge,gc⟩) (by simp[results,results89,go_sem,q0,q1,q2,q3,q4,q5,EE]) rfl ?_;exact⟨by rw[AA HE],(((((((AA HB5)).setCell AC _).setCell AC _).setCell AC _).setCell AC _).setCell AC _).setCell AC _⟩
 |false=>
  rw[hd]at HD;cases hh:CM s i with
  |true=>
   rw[hh]at HSI;obtain⟨g,hg⟩:∃g,ED s i=g:=⟨_,rfl⟩
   have HC:=AB (LB s i Q hi (by omega));rw[hg]at HC;have HE:Hid (BO s i=g):=by show _=_;rw[<-hg];rw[AA HTA,AL (.inr hh)]
   clear hg;obtain⟨gk,gn,gt,ge,gc⟩:=g;have HC2:Hid (Calls prog 137 #[.string s,.int .i64 (i:Nat)] Q fun e' w'=>e'=.returned (.agg #[.int .i64 gk,.int .i64 gn,.string gt,.int .i64 0,.int .i64 (ge:Nat),.int .i64 gc])/\Below Q.heap.size Q w'):=AA HC;clear HC;go_wp2_with(first|(go_at_call 116;refine(AA HD _).mono ?_;rintro e' w1⟨rfl,hw⟩;obtain rfl:=hw.symm)|(go_at_call 121;refine(Ds _).mono ?_;rintro e' w1⟨rfl,hw⟩;obtain rfl:=hw.symm)|(go_at_call 88;refine(AA HSI _).mono ?_;rintro e' w1⟨rfl,hw⟩;obtain rfl:=hw.symm)|(go_at_call 137;rw[<-AA HQ];refine(AA HC2).mono ?_;rintro e' w5⟨rfl,hb5⟩;obtain⟨q0,q1,q2,q3,q4,q5,qf⟩:=((AA HBX).below AC hb5).all;have f0:=qf 0;have f1:=qf 1;have f2:=qf 2;have f3:=qf 3;have f4:=qf 4;have f5:=qf 5;clear qf;have HB5:=AB ((AA HBQ).trans (hb5.mono (AA HBQ).size));clear hb5));refine bodyPost_ret (v:=EE ⟨gk,gn,gt,ge,gc⟩) (by simp[results,results89,go_sem,q0,q1,q2,q3,q4,q5,EE]) rfl ?_;exact⟨by rw[AA HE],(((((((AA HB5)).setCell AC _).setCell AC _).setCell AC _).setCell AC _).setCell AC _).setCell AC _⟩
  |false=>
   rw[hh]at HSI;have HT2:Hid (BO s i=if y=39 then BF s (s.size- i) (i+1) []else if El y=true then Fm s i else Ea s i):=by show _=_;rw[AA HTA,AG (by rw[hd,hh];rintro(h|h)<;>cases h)]
   have HDF:=AB hd;have HHF:=AB hh;clear HTA hd hh;by_cases h39:y=39;case pos=>
    subst h39;obtain⟨g,hg⟩:∃g,BF s (s.size- i) (i+1) []=g:=⟨_,rfl⟩
    have HC:=AB (SX s i Q hi (by omega));rw[hg]at HC;have HE:Hid (BO s i=g):=by show _=_;rw[<-hg];rw[AA HT2,AL rfl]
    clear hg;obtain⟨gk,gn,gt,ge,gc⟩:=g;have HC2:Hid (Calls prog 138 #[.string s,.int .i64 (i:Nat)] Q fun e' w'=>e'=.returned (.agg #[.int .i64 gk,.int .i64 gn,.string gt,.int .i64 0,.int .i64 (ge:Nat),.int .i64 gc])/\Below Q.heap.size Q w'):=AA HC;clear HC;go_wp2_with(first|(go_at_call 116;refine(AA HD _).mono ?_;rintro e' w1⟨rfl,hw⟩;obtain rfl:=hw.symm)|(go_at_call 121;refine(Ds _).mono ?_;rintro e' w1⟨rfl,hw⟩;obtain rfl:=hw.symm)|(go_at_call 88;refine(AA HSI _).mono ?_;rintro e' w1⟨rfl,hw⟩;obtain rfl:=hw.symm)|(go_at_call 138;rw[<-AA HQ];refine(AA HC2).mono ?_;rintro e' w5⟨rfl,hb5⟩;obtain⟨q0,q1,q2,q3,q4,q5,qf⟩:=((AA HBX).below AC hb5).all;have f0:=qf 0;have f1:=qf 1;have f2:=qf 2;have f3:=qf 3;have f4:=qf 4;have f5:=qf 5;clear qf;have HB5:=AB ((AA HBQ).trans (hb5.mono (AA HBQ).size));clear hb5));refine bodyPost_ret (v:=EE ⟨gk,gn,gt,ge,gc⟩) (by simp[results,results89,go_sem,q0,q1,q2,q3,q4,q5,EE]) rfl ?_;exact⟨by rw[AA HE],(((((((AA HB5)).setCell AC _).setCell AC _).setCell AC _).setCell AC _).setCell AC _).setCell AC _⟩
   case neg=>
    have h39i:¬(y:Int)=39:=by omega
    cases hl:El y with
    |true=>
     rw[hl]at HL;have HT3:Hid (BO s i=Fm s i):=by show _=_;rw[AA HT2,AG h39,AL hl]
     clear HT2 h39 hl;obtain⟨q0,q1,q2,q3,q4,q5,qf⟩:=(AA HBX).all;have f0:=qf 0;have f1:=qf 1;have f2:=qf 2;have f3:=qf 3;have f4:=qf 4;have f5:=qf 5;clear qf;go_wp2_with(first|(go_at_call 116;refine(AA HD _).mono ?_;rintro e' w1⟨rfl,hw⟩;obtain rfl:=hw.symm)|(go_at_call 121;refine(Ds _).mono ?_;rintro e' w1⟨rfl,hw⟩;obtain rfl:=hw.symm)|(go_at_call 88;refine(AA HSI _).mono ?_;rintro e' w1⟨rfl,hw⟩;obtain rfl:=hw.symm)|(go_at_call 115;refine(AA HL _).mono ?_;rintro e' w1⟨rfl,hw⟩;obtain rfl:=hw.symm));rw[<-AA HQ];clear HD HL HSI hix;go_loopw[5] (fun a wr=>∃k:Nat,a=.int .i64 ((i+k:Nat):Int)/\i+k<=s.size/\Hid (∀j,j<k->i+j<s.size/\Bn (bt s (i+j))=true)/\Q=wr) (fun a _=>s.size- (intOf a).toNat);case atStart=>exact⟨0,rfl,by omega,fun j hj=>absurd hj (Bc _),rfl⟩
     case round=>
      obtain⟨k,rfl,hk,HK,rfl⟩:=hrel;obtain⟨q,hq⟩:∃q,i+k=q:=⟨_,rfl⟩
      rw[hq]at hk;rw[hq];have HQE:=AB hq;have hiq:i<=q:=by omega
      clear hq;by_cases FR:q<s.size/\Bn (bt s q)=true;case pos=>
       have hlt:=FR.1;have hqi:(q:Int)<(s.size:Int):=by omega
       have hix:=fun W=>C5 hlt W;have HD:=AB (fun W=>E4 (bt s q) W);have HL:=AB (fun W=>FI (bt s q) W);have HK2:Hid (∀j,j<k+1->i+j<s.size/\Bn (bt s (i+j))=true):=fun j hj=>by
        by_cases e:j=k
        .subst e;rw[AA HQE];exact FR
        .exact AA HK j (by omega)
       have hor:El (bt s q)=true\/(El (bt s q)=false/\Es (bt s q)=true):=by
        have:=FR.2;unfold Bn at this;cases h:El (bt s q)with
        |true=>exact .inl rfl
        |false=>rw[h]at this;exact .inr ⟨rfl,by simpa using this⟩
       obtain⟨z,hz⟩:∃z,bt s q=z:=⟨_,rfl⟩
       rw[hz]at hix HD HL hor;clear hz FR;rcases hor with hL|⟨hL,hD⟩
       .rw[hL]at HL;go_wp2_with(first|(go_at_call 115;refine(AA HL _).mono ?_;rintro e' w1⟨rfl,hw⟩;obtain rfl:=hw.symm)|(go_at_call 116;refine(AA HD _).mono ?_;rintro e' w1⟨rfl,hw⟩;obtain rfl:=hw.symm));go_roundw;case rel=>exact⟨k+1,by have:=AA HQE;go_num,by have:=AA HQE;omega,HK2,by first|trivial|rfl⟩
        case measure=>simp[intOf];omega
       .rw[hL]at HL;rw[hD]at HD;go_wp2_with(first|(go_at_call 115;refine(AA HL _).mono ?_;rintro e' w1⟨rfl,hw⟩;obtain rfl:=hw.symm)|(go_at_call 116;refine(AA HD _).mono ?_;rintro e' w1⟨rfl,hw⟩;obtain rfl:=hw.symm));go_roundw;case rel=>exact⟨k+1,by have:=AA HQE;go_num,by have:=AA HQE;omega,HK2,by first|trivial|rfl⟩
        case measure=>simp[intOf];omega
      case neg=>
       have HEND:Hid (Bb Bn s i=q):=by show _=_;rw[JR k i (AA HK) (by rw[AA HQE];exact FR)];exact AA HQE
       have hsl:=fun W=>PG (s:=s) (p:=i) (q:=q) hiq hk W;have HBAD:Hid (20<q- i->BO s i=Di 1):=fun h=>by rw[AA HT3,Fm,AA HEND,AL h]
       have HTOK:Hid (¬ 20<q- i->BO s i=⟨3,0,s.extract i q,q,0⟩):=fun h=>by rw[AA HT3,Fm,AA HEND,AG h]
       obtain⟨x,hx⟩:∃x,s.extract i q=x:=⟨_,rfl⟩
       rw[hx]at hsl HTOK;have hsub:IntKind.i64.wrap ((q:Int)- (i:Int))=(q:Int)- (i:Int):=by rw[IntKind.wrap_i64];omega
       clear hx HEND HT3;have hcs:(¬ q<s.size)\/(q<s.size/\El (bt s q)=false/\Es (bt s q)=false):=by
        by_cases h:q<s.size
        .right;refine⟨h,?_⟩;have h2:Bn (bt s q)=false:=by cases h3:Bn (bt s q)with|false=>rfl|true=>exact absurd ⟨h,h3⟩ FR
         unfold Bn at h2;simpa using h2
        .exact .inl h
       clear FR;rcases hcs with hqs|⟨hlt,hL,hD⟩
       .have hqi:¬(q:Int)<(s.size:Int):=by omega
        by_cases h20:20<q- i;case pos=>
         have h20i:(20:Int)<(q:Int)- (i:Int):=by omega
         have HE:=AB (AA HBAD h20);go_wp2_with fail;refine bodyPost_ret (v:=EE (Di 1)) (by simp[results,results89,go_sem,q0,q1,q2,q3,q4,q5,EE,Di]) rfl ?_;exact⟨by rw[AA HE],(((((((AA HBQ)).setCell AC _).setCell AC _).setCell AC _).setCell AC _).setCell AC _).setCell AC _⟩
        case neg=>
         have h20i:¬(20:Int)<(q:Int)- (i:Int):=by omega
         have HE:=AB (AA HTOK h20);go_wp2_with fail;refine bodyPost_ret (v:=EE ⟨3,0,x,q,0⟩) (by simp[results,results89,go_sem,q0,q1,q2,q3,q4,q5,EE]) rfl ?_;exact⟨by rw[AA HE],(((((((AA HBQ)).setCell AC _).setCell AC _).setCell AC _).setCell AC _).setCell AC _).setCell AC _⟩
       .have hqi:(q:Int)<(s.size:Int):=by omega
        have hix:=fun W=>C5 hlt W;have HD:=AB (fun W=>E4 (bt s q) W);have HL:=AB (fun W=>FI (bt s q) W);rw[hL]at HL;rw[hD]at HD;obtain⟨z,hz⟩:∃z,bt s q=z:=⟨_,rfl⟩
        rw[hz]at hix HD HL;clear hz hL hD;by_cases h20:20<q- i;case pos=>
         have h20i:(20:Int)<(q:Int)- (i:Int):=by omega
         have HE:=AB (AA HBAD h20);go_wp2_with(first|(go_at_call 115;refine(AA HL _).mono ?_;rintro e' w1⟨rfl,hw⟩;obtain rfl:=hw.symm)|(go_at_call 116;refine(AA HD _).mono ?_;rintro e' w1⟨rfl,hw⟩;obtain rfl:=hw.symm));refine bodyPost_ret (v:=EE (Di 1)) (by simp[results,results89,go_sem,q0,q1,q2,q3,q4,q5,EE,Di]) rfl ?_;exact⟨by rw[AA HE],(((((((AA HBQ)).setCell AC _).setCell AC _).setCell AC _).setCell AC _).setCell AC _).setCell AC _⟩
        case neg=>
         have h20i:¬(20:Int)<(q:Int)- (i:Int):=by omega
         have HE:=AB (AA HTOK h20);go_wp2_with(first|(go_at_call 115;refine(AA HL _).mono ?_;rintro e' w1⟨rfl,hw⟩;obtain rfl:=hw.symm)|(go_at_call 116;refine(AA HD _).mono ?_;rintro e' w1⟨rfl,hw⟩;obtain rfl:=hw.symm));refine bodyPost_ret (v:=EE ⟨3,0,x,q,0⟩) (by simp[results,results89,go_sem,q0,q1,q2,q3,q4,q5,EE]) rfl ?_;exact⟨by rw[AA HE],(((((((AA HBQ)).setCell AC _).setCell AC _).setCell AC _).setCell AC _).setCell AC _).setCell AC _⟩
    |false=>exact absurd ⟨AA HDF,AA HHF,h39,hl⟩ (AA HNS)
def O4{s:AE}:∀(F k:Nat)(out:List UInt8),k<=s.size->(BF s F k out).c=0->k<(BF s F k out).e/\(BF s F k out).e<=s.size
 |0,k,out,_,h=>by simp[BF,Di]at h
 |F+1,k,out,hk,h=>by
  rw[BF]at h ⊢;by_cases h1:k<s.size
  .rw[AL h1]at h ⊢;by_cases h2:bt s k=39
   .rw[AL h2]at h ⊢;by_cases h3:Eo s k=true
    .rw[AL h3]at h ⊢;have hq:=AT h3;have:=O4 F (k+2) _ (by omega) h;omega
    .rw[AG h3];show k<k+1/\k+1<=s.size;omega
   .rw[AG h2]at h ⊢;by_cases h3:(Am s k).2=0\/bt s k=10
    .rw[AL h3]at h;simp[Di]at h
    .rw[AG h3]at h ⊢;have hr:=Kj h1;have:=O4 F (k+(Am s k).2) _ hr.1 h;omega
  .rw[AG h1]at h;simp[Di]at h
def Ic{s:AE}{k:Nat}(hk:k<s.size)(h:(BO s k).c=0):k<(BO s k).e/\(BO s k).e<=s.size:=by
 unfold BO at h ⊢;by_cases h1:Es (bt s k)=true\/CM s k=true
 .rw[AL h1]at h ⊢;obtain⟨f,hf⟩:∃f,(if CM s k=true then k+2 else k)=f:=⟨_,rfl⟩
  have hfk:k<=f/\f<=s.size:=by
   rw[<-hf];split
   .rename_i h';have:=AT h';omega
   .omega
  obtain⟨e,he⟩:∃e,Bb Es s f=e:=⟨_,rfl⟩
  by_cases hb:e=f\/(e<s.size/\El (bt s e)=true)\/CM s e=true
  .rw[Ee hf he hb]at h;simp[Di]at h
  .by_cases hv:1000000000000000<GE s f (e- f)
   .rw[Fq hf he hb hv]at h;simp[Di]at h
   .rw[GV hf he hb hv];show k<e/\e<=s.size;have h2:=IV Es s f;have h3:=He Es s f hfk.2;rw[he]at h2 h3;have:e≠f:=fun x=>hb (.inl x);omega
 .rw[AG h1]at h ⊢;by_cases h2:bt s k=39
  .rw[AL h2]at h ⊢;have:=O4 (s.size- k) (k+1) [] (by omega) h;omega
  .rw[AG h2]at h ⊢;by_cases h3:El (bt s k)=true
   .rw[AL h3]at h ⊢;unfold Fm at h ⊢;by_cases h4:20<Bb Bn s k- k
    .rw[AL h4]at h;simp[Di]at h
    .rw[AG h4];show k<Bb Bn s k/\Bb Bn s k<=s.size;have h5:=GB (p:=Bn) hk (by unfold Bn;rw[h3];rfl);have h6:=IV Bn s (k+1);have h7:=He Bn s k (by omega);omega
   .rw[AG h3]at h ⊢;unfold Ea at h ⊢;by_cases h4:0<(Am s k).2/\(Am s k).1∈Ar
    .rw[AL h4];have hr:=Kj hk;show k<k+(Am s k).2/\k+(Am s k).2<=s.size;omega
    .rw[AG h4]at h;simp[Di]at h
def Bo(t:CO):List Value:= [.int .i64 t.k,.int .i64 t.n,.string t.t,.int .i64 (t.p:Nat)]
def Qs:(prog.info? 64).map (fun i=>(i.zero,i.size,i.bytes))=some (some (.agg #[.int .i64 0,.int .i64 0,.string ⟨#[]⟩,.int .i64 0]),4,40):=by kernel_rfl
structure Ht(w:World)(a:Option Addr)(n:Nat)(ts:List CO):Prop where
 len:ts.length=n
 at_:n=0\/∃b off,a=some ⟨b,off,none⟩/\b<w.heap.size/\∀i,i<4*n->w.cell? ⟨b,off+i,none⟩=(ts.flatMap Bo)[i]?
structure FU(Q w:World)(g cap j:Nat)(ts:List CO):Prop where
 own:w.ownsRow Q.heap.size 64 4 (.slice (some ⟨g,0,none⟩) j cap) j (ts.flatMap Bo)
 low:Below Q.heap.size Q w
def Ln(ts:List CO):(ts.flatMap Bo).length=4*ts.length:=by
 induction ts with
 |nil=>rfl
 |cons t r ih=>rw[CY,AH,ih];simp[Bo];omega
def FU.start(Q:World):FU Q (Q.alloc (.cells #[] 64)) Q.heap.size 0 0 []:=by refine⟨⟨by simp,.inr ⟨Q.heap.size,0,#[],rfl,AC,?_,by simp,by unfold maxLen;omega,by simp,by simp⟩⟩,AI.alloc AC _⟩;show(Q.heap.push _)[Q.heap.size]? =_;simp
def FU.below{Q w w':World}{g cap j:Nat}{ts:List CO}(h:FU Q w g cap j ts)(hb:Below w.heap.size w w'):FU Q w' g cap j ts:=⟨EW h.own AC hb,h.low.trans (hb.mono h.low.size)⟩
def FU.len{Q w:World}{g cap j:Nat}{ts:List CO}(h:FU Q w g cap j ts):ts.length=j:=by have:=h.own.1;rw[Ln]at this;omega
def FU.ge{Q w:World}{g cap j:Nat}{ts:List CO}(h:FU Q w g cap j ts):Q.heap.size<=g:=by
 rcases h.own.2 with⟨h',_⟩|⟨g',CW,cur,h',hb,_⟩
 .simp at h'
 .cases h';exact hb
def FU.push{Q w w1:World}{g cap j g' CW:Nat}{ts:List CO}{t:CO}(h:FU Q w g cap j ts)(ET:w1.ownsRow Q.heap.size 64 4 (.slice (some ⟨g',0,none⟩) (j+1) CW) (j+1) (ts.flatMap Bo++Bo t))(hg:w.grownBy w1 (Value.ownBlock (.slice (some ⟨g,0,none⟩) j cap))):FU Q w1 g' CW (j+1) (ts++ [t]):=by have hge:=h.ge;refine⟨by rw[DF];simpa using ET,⟨hg.os.trans h.low.os,hg.tape.trans h.low.tape,hg.output.trans h.low.output,Aw h.low.size hg.size,fun k hk=>(hg.block k (by have:=h.low.size;omega) (fun e=>by have:=(Ac e:k=g);omega)).trans (h.low.block k hk)⟩⟩
def FU.row{Q w:World}{g cap j:Nat}{ts:List CO}(h:FU Q w g cap j ts):Ht w (some ⟨g,0,none⟩) j ts:=by
 refine⟨h.len,?_⟩;rcases h.own.2 with⟨h',_⟩|⟨g',CW,cur,h',_,hg,_,_,hcs,ht⟩
 .simp at h'
 .cases h';refine .inr ⟨g,0,rfl,lt_of_block hg,fun i hi=> ?_⟩;have e:cur.toList[i]? =(ts.flatMap Bo)[i]? :=by rw[<-ht,BN,AL (by omega)]
  simpa[World.cell?,hg]using e
def Rf(w:World)(r:List CO×Int×Nat)(e:Ending)(w':World):Prop:=∃g n cap,e=.returned (.tuple #[.slice (some ⟨g,0,none⟩) n cap,.int .i64 r.2.1,.int .i64 (r.2.2:Nat)])/\Ht w' (some ⟨g,0,none⟩) n r.1/\Below w.heap.size w w'
def Ky{s:AE}{F k:Nat}{acc:List CO}(h:¬(k<s.size/\DX s k=false)):FH s F k acc=(acc,0,0):=by
 cases F with
 |zero=>rfl
 |succ F=>rw[FH,AG h]
def Ob{s:AE}{F k:Nat}{acc:List CO}(hF:s.size- k<F)(h:k<s.size/\DX s k=false)(hb:bt s k=32\/bt s k=9):FH s F k acc=FH s (F- 1) (k+1) acc:=by
 cases F with
 |zero=>omega
 |succ F=>rw[FH,AL h,AL hb];rfl
def Tf{s:AE}{F k:Nat}{acc:List CO}(hF:s.size- k<F)(h:k<s.size/\DX s k=false)(hb:¬(bt s k=32\/bt s k=9))(hc:(BO s k).c≠0):FH s F k acc=([],(BO s k).c,k):=by
 cases F with
 |zero=>omega
 |succ F=>rw[FH,AL h,AG hb,AL hc]
def Te{s:AE}{F k:Nat}{acc:List CO}(hF:s.size- k<F)(h:k<s.size/\DX s k=false)(hb:¬(bt s k=32\/bt s k=9))(hc:(BO s k).c=0):FH s F k acc=FH s (F- 1) (BO s k).e (acc++ [⟨(BO s k).k,(BO s k).n,(BO s k).t,k⟩]):=by
 cases F with
 |zero=>omega
 |succ F=>rw[FH,AL h,AG hb,AG (by rw[hc];decide)];rfl
def JQ:∀(ts:List CO)(j f:Nat)(hj:j<ts.length),f<4->(ts.flatMap Bo)[4*j+f]? =(Bo ts[j])[f]?
 | [],j,f,hj,_=>absurd hj (Bc _)
 |t::r,0,f,_,hf=>by
  rw[CY,Bw (by simp[Bo];omega)];simp
 |t::r,j+1,f,hj,hf=>by have hl:(Bo t).length=4:=rfl;rw[CY,A5 (by rw[hl];omega),hl,show 4*(j+1)+f- 4=4*j+f by omega];exact JQ r j f (by simpa using hj) hf
def Ht.get{w:World}{a:Option Addr}{n:Nat}{ts:List CO}(h:Ht w a n ts){j:Nat}(hj:j<n):∃b off t,a=some ⟨b,off,none⟩/\b<w.heap.size/\ts[j]? =some t/\w.cell? ⟨b,off+j*4,none⟩=some (.int .i64 t.k)/\w.cell? ⟨b,off+j*4+1,none⟩=some (.int .i64 t.n)/\w.cell? ⟨b,off+j*4+2,none⟩=some (.string t.t)/\w.cell? ⟨b,off+j*4+3,none⟩=some (.int .i64 (t.p:Nat)):=by
 have hl:=h.len;rcases h.at_ with h0|⟨b,off,rfl,hb,hc⟩
 .omega
 .have hj':j<ts.length:=by omega
  refine⟨b,off,ts[j],rfl,hb,AR hj',?_,?_,?_,?_⟩
  .rw[show off+j*4=off+(4*j+0) by omega,hc (4*j+0) (by omega)];exact JQ ts j 0 hj' (by omega)
  .rw[show off+j*4+1=off+(4*j+1) by omega,hc (4*j+1) (by omega)];exact JQ ts j 1 hj' (by omega)
  .rw[show off+j*4+2=off+(4*j+2) by omega,hc (4*j+2) (by omega)];exact JQ ts j 2 hj' (by omega)
  .rw[show off+j*4+3=off+(4*j+3) by omega,hc (4*j+3) (by omega)];exact JQ ts j 3 hj' (by omega)
def EC(l:List UInt8):List UInt8:=39::(l.flatMap (fun b=>if b=39 then[39,39]else[b])++ [39])
def Dd(k n:Int)(t:AE):AE:=if k=1 then BU (Fg n)else if k=2 then⟨(EC t.data.toList).toArray⟩else t
def JL{s:AE}:∀(F i:Nat)(acc:List CO),i<=s.size->(FH s F i acc).2.1=0->∃more,(FH s F i acc).1=acc++more/\∀x∈more,x.p<s.size/\(BO s x.p).c=0/\x=⟨(BO s x.p).k,(BO s x.p).n,(BO s x.p).t,x.p⟩
 |0,i,acc,_,_=>⟨[],by rw[FH];simp,fun x hx=>by cases hx⟩
 |F+1,i,acc,hi,hc=>by
  rw[FH]at hc ⊢;by_cases h:i<s.size/\DX s i=false
  .rw[AL h]at hc ⊢;by_cases hb:bt s i=32\/bt s i=9
   .rw[AL hb]at hc ⊢;exact JL F (i+1) acc (by omega) hc
   .rw[AG hb]at hc ⊢;by_cases hk:(BO s i).c≠0
    .rw[AL hk]at hc;exact absurd hc hk
    .rw[AG hk]at hc ⊢;have hk0:=Classical.not_not.1 hk;have ht:=Ic h.1 hk0;obtain⟨more,hm,hx⟩:=JL F (BO s i).e _ ht.2 hc;refine⟨⟨(BO s i).k,(BO s i).n,(BO s i).t,i⟩::more,by rw[hm,Aj];rfl,fun x hxm=> ?_⟩;rcases DU.1 hxm with e|e
     .subst e;exact⟨h.1,hk0,rfl⟩
     .exact hx x e
  .rw[AG h];exact⟨[],by simp,fun x hx=>by cases hx⟩
def NV{s:AE}{F:Nat}{y:CO}(h0:0<s.size)(hr:DX s 0=false)(hb:¬(bt s 0=32\/bt s 0=9))(hc:(FH s (F+1) 0 []).2.1=0)(hy:(FH s (F+1) 0 []).1= [y]):y.p=0:=by
 rw[FH,AL ⟨h0,hr⟩,AG hb]at hc hy;by_cases hk:(BO s 0).c≠0
 .rw[AL hk]at hc;exact absurd hc hk
 .rw[AG hk]at hc hy;have ht:=Ic h0 (Classical.not_not.1 hk);obtain⟨more,hm,_⟩:=JL F (BO s 0).e _ ht.2 hc;rw[hm]at hy;have:=AV List.head? hy;simp at this;rw[<-this]
def UG{s:AE}{i:Nat}(hi:i<s.size)(hc:(BO s i).c=0)(h1:(BO s i).k≠1)(h2:(BO s i).k≠2):∃e,e<=s.size/\(BO s i).t=s.extract i e:=by
 have he:=Ic hi hc;refine⟨(BO s i).e,he.2,?_⟩;unfold BO at hc h1 h2 ⊢;by_cases c1:Es (bt s i)=true\/CM s i=true
 .rw[AL c1]at hc h1 ⊢;exfalso;obtain⟨f,hf⟩:∃f,(if CM s i=true then i+2 else i)=f:=⟨_,rfl⟩
  obtain⟨e,he⟩:∃e,Bb Es s f=e:=⟨_,rfl⟩
  by_cases hb:e=f\/(e<s.size/\El (bt s e)=true)\/CM s e=true
  .rw[Ee hf he hb]at hc;simp[Di]at hc
  .by_cases hv:1000000000000000<GE s f (e- f)
   .rw[Fq hf he hb hv]at hc;simp[Di]at hc
   .rw[GV hf he hb hv]at h1;exact h1 rfl
 .rw[AG c1]at hc h1 h2 ⊢;by_cases c2:bt s i=39
  .rw[AL c2]at hc h2 ⊢;exfalso;have key:∀(f p:Nat)(out:List UInt8),(BF s f p out).c=0->(BF s f p out).k=2:=by
    intro f;induction f with
    |zero=>intro p out h;rw[BF]at h;simp[Di]at h
    |succ f ih=>
     intro p out h;rw[BF]at h ⊢;by_cases d1:p<s.size
     .rw[AL d1]at h ⊢;by_cases d2:bt s p=39
      .rw[AL d2]at h ⊢;by_cases d3:Eo s p=true
       .rw[AL d3]at h ⊢;exact ih _ _ h
       .rw[AG d3]
      .rw[AG d2]at h ⊢;by_cases d3:(Am s p).2=0\/bt s p=10
       .rw[AL d3]at h;simp[Di]at h
       .rw[AG d3]at h ⊢;exact ih _ _ h
     .rw[AG d1]at h;simp[Di]at h
   exact h2 (key _ _ _ hc)
  .rw[AG c2]at hc ⊢;by_cases c3:El (bt s i)=true
   .rw[AL c3]at hc ⊢;unfold Fm at hc ⊢;by_cases c4:20<Bb Bn s i- i
    .rw[AL c4]at hc;simp[Di]at hc
    .rw[AG c4]
   .rw[AG c3]at hc ⊢;unfold Ea at hc ⊢;by_cases c4:0<(Am s i).2/\(Am s i).1∈Ar
    .rw[AL c4]
    .rw[AG c4]at hc;simp[Di]at hc
def KZ:∀(k m:Nat),m<10 ^ k->∀z∈Gi m,48<=z/\z<=57
 |0,m,h,z,hz=>by
  have:m=0:=by simpa using h
  subst this;rw[E9 (by omega)]at hz;simp at hz;omega
 |k+1,m,h,z,hz=>by
  by_cases h10:m<10
  .rw[E9 h10]at hz;simp at hz;omega
  .rw[IW h10]at hz;rcases Ak.1 hz with e|e
   .exact KZ k (m / 10) (by rw[Gy]at h;omega) z e
   .simp at e;omega
def MQ{l:List Int}(hl:∀z∈l,0<=z/\z<256){j:Nat}(hj:j<l.length):(bt (BU l) j:Int)=l.getD j 0:=by rw[Cl (by rw[Fz];exact hj)];unfold BU;have h:=hl l[j] (By hj);simp only[AP,BV,AR hj,Gt,Cz];rw[Nat.toUInt8,Cv];omega
def M7(n:Int)(hn:n.natAbs<10 ^ 19):(Fg n).length<=21/\(∀z∈Fg n,0<=z/\z<256)/\∃f,(f=if n<0 then 2 else 0)/\(Fg n).length=f+(Gi n.natAbs).length/\(∀j,j<(Gi n.natAbs).length->(bt (BU (Fg n)) (f+j):Int)=(Gi n.natAbs).getD j 0)/\(CM (BU (Fg n)) 0=true↔n<0):=by
 have hd:=KZ 19 n.natAbs hn;have hp:=RG n.natAbs;have hl:=LF 18 n.natAbs hn;have hz:∀z∈Fg n,0<=z/\z<256:=by
  intro z hz;unfold Fg at hz;rcases Ak.1 hz with e|e
  .split at e
   .simp at e;omega
   .cases e
  .have:=hd z e;omega
 refine⟨?_,hz,_,rfl,?_,?_,?_⟩
 .unfold Fg;split<;>simp<;>omega
 .unfold Fg;split<;>simp<;>omega
 .intro j hj;rw[MQ hz (by unfold Fg;split<;>simp<;>omega)];unfold Fg;split
  .simp only[AP];have e2:2+j- ([194,175]:List Int).length=j:=by simp
   rw[A5 (by simp),e2]
  .simp
 .by_cases h0:n<0
  .refine⟨fun _=>h0,fun _=> ?_⟩;have e:Fg n=194::175::Gi n.natAbs:=by unfold Fg;rw[AL h0];rfl
   have a:=MQ hz (j:=0) (by rw[e];simp);have b:=MQ hz (j:=1) (by rw[e];simp);rw[e]at a b;simp at a b;unfold CM;rw[e];exact AK ⟨by rw[Fz];simp,by omega,by show bt _ 1=175;omega⟩
  .refine⟨fun h=> ?_,fun h=>absurd h h0⟩;have e:Fg n=Gi n.natAbs:=by unfold Fg;rw[AG h0];rfl
   have a:=MQ hz (j:=0) (by rw[e];omega);unfold CM at h;have h2:=(AT h).2.1;rw[e]at a h2;have h3:=hd _ (by
    have:(Gi n.natAbs).getD 0 0∈Gi n.natAbs:=by rw[AP,AR (by omega)];exact By _
    exact this)
   omega
def SR(n:Int)(hn:n.natAbs<10 ^ 19):0<(BU (Fg n)).size/\DX (BU (Fg n)) 0=false/\¬(bt (BU (Fg n)) 0=32\/bt (BU (Fg n)) 0=9)/\(Es (bt (BU (Fg n)) 0)=true\/CM (BU (Fg n)) 0=true):=by
 obtain⟨hl,hz,f,hf,Ae,hb,hh⟩:=M7 n hn;have hp:=RG n.natAbs;have hd:=KZ 19 n.natAbs hn;have hfirst:(bt (BU (Fg n)) 0=194/\CM (BU (Fg n)) 0=true)\/(48<=bt (BU (Fg n)) 0/\bt (BU (Fg n)) 0<=57):=by
  by_cases h0:n<0
  .left;have h1:=hh.2 h0;have h2:=h1;unfold CM at h2;exact⟨(AT h2).2.1,h1⟩
  .right;rw[AG h0]at hf;subst hf;have:=hb 0 (by omega);have h3:=hd _ (by
    have:(Gi n.natAbs).getD 0 0∈Gi n.natAbs:=by rw[AP,AR (by omega)];exact By _
    exact this)
   rw[BY]at this;omega
 refine⟨by rw[Fz];omega,?_,by omega,?_⟩
 .unfold DX;exact AD (fun h=>by omega)
 .rcases hfirst with h|h
  .exact .inr h.2
  .left;unfold Es;exact AK h
def Vc{k n:Int}{t:AE}{y:CO}(hn:n.natAbs<10 ^ 19)(hc:(Br (Dd k n t)).2.1=0)(hy:(Br (Dd k n t)).1= [y])(hk:y.k=k)(ht:y.t=t):y.p=0:=by
 unfold Br at hc hy;by_cases hs:2000<(Dd k n t).size
 .rw[AL hs]at hc;exact absurd hc (by decide)
 .rw[AG hs]at hc hy;by_cases k1:k=1
  .have e:Dd k n t=BU (Fg n):=by unfold Dd;rw[AL k1]
   rw[e]at hc hy;obtain⟨h0,hr,hb,_⟩:=SR n hn;exact NV h0 hr hb hc hy
  .by_cases k2:k=2
   .have e:Dd k n t=⟨(EC t.data.toList).toArray⟩:=by unfold Dd;rw[AG k1,AL k2]
    have hb0:bt (Dd k n t) 0=39:=by rw[e];rfl
    have h0:0<(Dd k n t).size:=by rw[e];simp[ByteArray.size,EC]
    exact NV h0 (by unfold DX;exact AD (fun h=>by omega)) (by omega) hc hy
   .have e:Dd k n t=t:=by unfold Dd;rw[AG k1,AG k2]
    rw[e]at hc hy;obtain⟨more,hm,hx⟩:=JL (s:=t) (t.size+1) 0 [] (AZ _) hc;rw[hm,List.nil_append]at hy;obtain⟨hp,hpc,hyx⟩:=hx y (by rw[hy];simp);have ek:(BO t y.p).k=k:=(AV CO.k hyx).symm.trans hk;have et:(BO t y.p).t=t:=(AV CO.t hyx).symm.trans ht;obtain⟨e2,he2,hpe⟩:=UG hp hpc (by rw[ek];exact k1) (by rw[ek];exact k2);have hsz:=AV ByteArray.size (et.symm.trans hpe);rw[BH]at hsz;omega
def qd(l:List UInt8):List UInt8:=l.flatMap (fun b=>if b=39 then[39,39]else[b])
def Mu(l:List UInt8):(qd l).length<=2*l.length/\l.length<=(qd l).length:=by
 induction l with
 |nil=>simp[qd]
 |cons b t ih=>
  unfold qd at ih ⊢;rw[CY,AH];split<;>(simp only[Ba,Fp];omega)
def da(w:World)(t:CO):∀(j:Nat)u,(Bo t)[j]? =some u->(w.alloc (.cells (Bo t).toArray 64)).cell? ((⟨w.heap.size,0,none⟩:Addr).add j)=some u:=by
 intro j u hj;have hb:(w.alloc (.cells (Bo t).toArray 64)).heap[w.heap.size]? =some (.cells (Bo t).toArray 64):=by show(w.heap.push _)[w.heap.size]? =_;simp
 have h2:(⟨w.heap.size,0,none⟩:Addr).add j=⟨w.heap.size,j,none⟩:=by by_cases h:j=0<;>simp[Addr.add,h]
 obtain⟨W,hW⟩:∃W,w.alloc (.cells (Bo t).toArray 64)=W:=⟨_,rfl⟩
 rw[hW]at hb ⊢;rw[h2];simp[World.cell?,hb,hj]
def XE(w:World)(g:Nat)(hg:g=w.heap.size)(t:CO):∀(j:Nat)u,(Bo t)[j]? =some u->(w.alloc (.cells #[.int .i64 t.k,.int .i64 t.n,.string t.t,.int .i64 (t.p:Nat)] 64)).cell? ((⟨g,0,none⟩:Addr).add j)=some u:=by subst hg;exact da w t
def TW(t:CO):∀u∈Bo t,u.oneCell'=true:=by intro u hu;simp[Bo]at hu;rcases hu with rfl|rfl|rfl|rfl<;>rfl
def FU.lt{Q w:World}{g cap j:Nat}{ts:List CO}(h:FU Q w g cap j ts):g<w.heap.size:=by
 rcases h.own.2 with⟨h',_⟩|⟨g',CW,cur,h',_,hg,_⟩
 .simp at h'
 .cases h';exact lt_of_block hg
def YW{w5 w7:World}{o:Obj}{cs:Array Value}{T:TypeId}{g n cp:Nat}(hg:g<w5.heap.size)(h:((w5.alloc (.cells cs T)).alloc o).grownBy w7 (Value.ownBlock (.slice (some ⟨g,0,none⟩) n cp))):w7.heap[w5.heap.size]? =some (.cells cs T):=by refine(h.block w5.heap.size (by simp;omega) (fun e=>by have:=(Ac e:w5.heap.size=g);omega)).trans ?_;refine(Cm _ _ _ (by simp)).trans ?_;show(w5.heap.push _)[w5.heap.size]? =_;simp
def QF(s:AE):(⟨s.data.toList.toArray⟩:AE)=s:=rfl
def O9(b off cap:Nat)(s:AE)(w:World)(hl:2000<s.size)(hs:s.size<=17592186044416):Calls prog 42 #[.slice (some ⟨b,off,none⟩) s.size cap] w (Rf w (Br s)):=by
 have HE:Hid (Br s=([],7,0)):=by show _=_;unfold Br;rw[AL hl]
 have hli:(2000:Int)<(s.size:Int):=by omega
 have HG:=AB (FU.start w);go_enter func42,ntmps42;go_wp2_with fail
 go_ret3
 refine⟨w.heap.size,0,0,by rw[AA HE];rfl,?_,(AA HG).low⟩;rw[AA HE];exact(AA HG).row
def H0(b off cap:Nat)(s:AE)(w:World)(h:De w (some ⟨b,off,none⟩) s.size (bz s))(hs:s.size<=17592186044416):Calls prog 42 #[.slice (some ⟨b,off,none⟩) s.size cap] w (Rf w (Br s)):=by
 by_cases hl:2000<s.size
 .exact O9 b off cap s w hl hs
 have hli:¬(2000:Int)<(s.size:Int):=by omega
 have hsz:s.size<=2000:=by omega
 obtain⟨tgt,HU⟩:∃t,FH s (s.size+1) 0 []=t:=⟨_,rfl⟩
 have e:Br s=tgt:=by unfold Br;rw[AG hl];exact HU
 rw[e];have HTG:=AB HU;clear e HU hl hs;obtain⟨W1,hW1⟩:∃W,W=w.alloc (.cells #[] 64):=⟨_,rfl⟩
 have HW1:=AB hW1;have HG1:Hid (Ht W1 (some ⟨w.heap.size,0,none⟩) 0 []):=by rw[hW1];exact(FU.start w).row
 have HBW:Hid (Below w.heap.size w W1):=by rw[hW1];exact AI.alloc AC _
 have hz1:W1.heap.size=w.heap.size+1:=by rw[hW1];simp
 have hwl:w.heap.size<W1.heap.size:=by omega
 have hcb:(convert 33 9 (.slice (some ⟨b,off,none⟩) s.size cap)).run prog W1=.ok (.string s) W1:=by
  have hr:De W1 (some ⟨b,off,none⟩) s.size (bz s):=h.below AC (AA HBW);have Ae:s.data.toList.length=s.size:=by rw[<-Lib.size_eq]
  have:=Jn (w:=W1) (b:=b) (off:=off) (cap:=cap) (l:=s.data.toList) (by rw[Ae];exact hr);rw[Ae,QF]at this;exact this
 rw[AA HW1]at hcb;have HG0:=AB (FU.start W1);have HST:Hid (∀k W,k<=s.size->Calls prog 88 #[.string s,.int .i64 (k:Nat),.string ⟨#[226,141,157]⟩] W fun e w'=>e=.returned (.bool (DX s k))/\w'=W):=fun k W hk=>by rw[<-Nr];exact F8 s ⟨#[226,141,157]⟩ k hk (by omega) (by decide) W
 obtain⟨i0,hi,hz0,hz2,hz3⟩:=info_parts Qs;have HZ1:=AB hz1;clear h hW1 hz1;go_enter func42,ntmps42;go_wp2_with fail;rw[<-AA HW1];rw[show w.heap.size+1=W1.heap.size from(AA HZ1).symm];clear hcb;go_loopw[7,8] (fun u i wr=>∃(g cp k F:Nat)(acc:List CO),u=.slice (some ⟨g,0,none⟩) acc.length cp/\i=.int .i64 (k:Nat)/\k<=s.size/\acc.length<=k/\s.size- k<F/\Hid (FH s F k acc=tgt)/\Hid (FU W1 wr g cp acc.length acc)) (fun _ i _=>s.size- (intOf i).toNat);case atStart=>exact⟨W1.heap.size,0,0,s.size+1,[],rfl,rfl,by omega,AC,by omega,HTG,HG0⟩
 case round=>
  obtain⟨g,cp,k,F,acc,rfl,rfl,hk,hal,hF,HT,HG⟩:=hrel;clear HTG HG0;obtain⟨n,hn⟩:∃n,acc.length=n:=⟨_,rfl⟩
  rw[hn]at hal HG ⊢;have HN:=AB hn;clear hn;have hzr:=(AA HG).low.size;by_cases FR:k<s.size/\DX s k=false;case neg=>
   have HE:Hid (tgt=(acc,0,0)):=by show _=_;rw[<-AA HT,Ky FR]
   have hcs:¬ k<s.size\/(k<s.size/\DX s k=true):=by
    by_cases h:k<s.size
    .right;refine⟨h,?_⟩;cases h2:DX s k with
     |true=>rfl
     |false=>exact absurd ⟨h,h2⟩ FR
    .exact .inl h
   rcases hcs with h1|⟨h1,h2⟩
   .have h1i:¬(k:Int)<(s.size:Int):=by omega
    go_wp2_with fail
    go_ret3
    refine⟨g,n,cp,by rw[AA HE];rfl,?_,(AA HBW).trans ((AA HG).low.mono (by omega))⟩;rw[AA HE];exact(AA HG).row
   .have h1i:(k:Int)<(s.size:Int):=by omega
    have HSQ:=AB (fun W=>AA HST k W hk);rw[h2]at HSQ;clear h2;go_wp2_with(go_at_call 88;refine(AA HSQ _).mono ?_;rintro e w5⟨rfl,hw⟩;obtain rfl:=hw.symm)
    go_ret3
    refine⟨g,n,cp,by rw[AA HE];rfl,?_,(AA HBW).trans ((AA HG).low.mono (by omega))⟩;rw[AA HE];exact(AA HG).row
  case pos=>
   have hlt:=FR.1;have Fr:(k:Int)<(s.size:Int):=by omega
   have HSQ:=AB (fun W=>AA HST k W hk);rw[FR.2]at HSQ;have hix:=fun W=>C5 hlt W;have HM:=AB FR;clear FR;obtain⟨y,hy⟩:∃y,bt s k=y:=⟨_,rfl⟩
   rw[hy]at hix;have HY:=AB hy;clear hy;by_cases hbl:y=32\/y=9;case pos=>
    have HNX:Hid (FH s (F- 1) (k+1) acc=tgt):=by show _=_;rw[<-Ob hF (AA HM) (by rw[AA HY];exact hbl)];exact AA HT
    rcases hbl with rfl|rfl
    .go_wp2_with(go_at_call 88;refine(AA HSQ _).mono ?_;rintro e w5⟨rfl,hw⟩;obtain rfl:=hw.symm);go_roundw;case rel=>exact⟨g,cp,k+1,F- 1,acc,by rw[AA HN],by go_num,by omega,by rw[AA HN];omega,by omega,HNX,by rw[AA HN];exact HG⟩
     case measure=>simp[intOf];omega
    .go_wp2_with(go_at_call 88;refine(AA HSQ _).mono ?_;rintro e w5⟨rfl,hw⟩;obtain rfl:=hw.symm);go_roundw;case rel=>exact⟨g,cp,k+1,F- 1,acc,by rw[AA HN],by go_num,by omega,by rw[AA HN];omega,by omega,HNX,by rw[AA HN];exact HG⟩
     case measure=>simp[intOf];omega
   case neg=>
    have hb1:((y:Int)==32)=false:=by simp;omega
    have hb2:((y:Int)==9)=false:=by simp;omega
    have HNB:Hid (¬(bt s k=32\/bt s k=9)):=by rw[AA HY];exact hbl
    clear hbl;have HC0:=AB (Qh s k wr hlt (by omega));have HTE:=AB (fun h=>Ic hlt h);have HLB:=AB (fun h=>Tf (acc:=acc) hF (AA HM) (AA HNB) h);have HLT:=AB (fun h=>Te (acc:=acc) hF (AA HM) (AA HNB) h);obtain⟨gt,hgt⟩:∃g,BO s k=g:=⟨_,rfl⟩
    rw[hgt]at HC0 HTE HLB HLT;clear hgt;obtain⟨tk,tn,tt,te,tc⟩:=gt;have HC:Hid (Calls prog 89 #[.string s,.int .i64 (k:Nat)] wr fun e' w'=>e'=.returned (.agg #[.int .i64 tk,.int .i64 tn,.string tt,.int .i64 0,.int .i64 (te:Nat),.int .i64 tc])/\Below wr.heap.size wr w'):=AA HC0;clear HC0;by_cases hc:tc=0;case neg=>
     have hci:(tc==0)=false:=by simpa using hc
     have HE:Hid (tgt=([],tc,k)):=by show _=_;rw[<-AA HT];exact AA HLB hc
     clear hc HTE HLT HLB;go_wp2_with(first|(go_at_call 88;refine(AA HSQ _).mono ?_;rintro e w5⟨rfl,hw⟩;obtain rfl:=hw.symm)|(go_at_call 89;refine(AA HC).mono ?_;rintro e w5⟨rfl,hb5⟩;have HB5:=AB hb5;clear hb5));go_quiet(fail);go_wp2_with fail
     go_ret3
     refine⟨w.heap.size,0,0,by rw[AA HE];rfl,⟨by rw[AA HE];rfl,.inl rfl⟩,?_⟩;have h5:=(AA HBW).trans (((AA HG).low.trans ((AA HB5).mono hzr)).mono (FN hwl));exact Below.drewN (h5.alloc h5.size _) _
    case pos=>
     subst hc;have hte:=AA HTE rfl;have HNX:Hid (FH s (F- 1) te (acc++ [⟨tk,tn,tt,k⟩])=tgt):=by show _=_;rw[<-AA HT];exact(AA HLT rfl).symm
     have hte1:k<te:=hte.1;have hte2:te<=s.size:=hte.2;clear HTE HLT HLB hte;go_wp2_with(first|(go_at_call 88;refine(AA HSQ _).mono ?_;rintro e w5⟨rfl,hw⟩;obtain rfl:=hw.symm)|(go_at_call 89;refine(AA HC).mono ?_;rintro e w5⟨rfl,hb5⟩;have HG5:=AB ((AA HG).below hb5);have hz5:=(AA HG5).low.size;clear hb5)|(at_builtin;refine wpList_append_lies _ rfl _ _ 76 rfl W1.heap.size 64 i0 (.agg #[.int .i64 0,.int .i64 0,.string ⟨#[]⟩,.int .i64 0]) 4 40 underlying76 hi hz0 hz2 hz3 rfl (by decide) _ _ _ rfl ((AA HG5).below (((DP _ w5).alloc AC _).alloc (by simp) _)).own ⟨w5.heap.size+1,0,none⟩ 1 1 (Bo ⟨tk,tn,tt,k⟩) rfl rfl (XE (w5.alloc (.cells #[.int .i64 tk,.int .i64 tn,.string tt,.int .i64 (k:Nat),.int .i64 (te:Nat),.int .i64 0] 119)) (w5.heap.size+1) (by simp) ⟨tk,tn,tt,k⟩) (TW _) (by omega) (by unfold maxLen;omega) (by omega) (by simp;omega) (w5.heap.size+1+1) (by simp) ?_;intro g' CW w7 A2 Au hat Cu;have hb7:=YW (AA HG5).lt Au;have hc7:w7.cell? ⟨w5.heap.size,4,none⟩=some (.int .i64 (te:Nat)):=(by simp[World.cell?,hb7]);clear hb7;have HF7:=AB (FU.push ((AA HG5).below (((DP _ w5).alloc AC _).alloc (by simp) _)) A2 Au);clear Au hat A2 Cu));go_roundw;case rel=>
      refine⟨g',CW,te,F- 1,acc++ [⟨tk,tn,tt,k⟩],?_,rfl,hte2,by rw[AH,AA HN];simp;omega,by omega,HNX,?_⟩
      .rw[AH,AA HN];rfl
      .show FU _ _ _ _ _ _;rw[AH,AA HN];exact AA HF7
     case measure=>simp[intOf];omega
def mt(m:Nat):AE:=BU (109::Gi m)
def Sx(x:Nat):List Int:=if x=0 then[]else Gi x
def VY{x:Nat}(h:x≠0):Sx x=Sx (x / 10)++ [48+((x % 10:Nat):Int)]:=by
 unfold Sx;rw[AG h];by_cases h10:x<10
 .rw[AL (by omega),E9 h10,show x % 10=x by omega];rfl
 .rw[AG (by omega),IW h10]
def Ku(m:Nat)(h1:1<=m)(hm:m<=1000000000000000)(w:World):Calls prog 86 #[.int .i64 (m:Nat)] w fun e w'=>e=.returned (.string (mt m))/\Below w.heap.size w w':=by
 have h0:¬(m:Int)<=0:=by omega
 have HP:Hid (Gi m=Sx m):=by show _=_;unfold Sx;rw[AG (by omega)]
 go_enter func86,ntmps86;go_wp2_with fail;go_loopw[0,3] (fun a b wr=>∃(x:Nat)(l:List Int),a=.int .i64 x/\b=.string (BU l)/\x<=1000000000000000/\Hid (Gi m=Sx x++l)/\Hid (Below w.heap.size w wr)) (fun a _ _=>(intOf a).toNat);case atStart=>exact⟨m,[],rfl,rfl,hm,(by show _=_;rw[A6];exact AA HP),AI⟩
 case round=>
  obtain⟨x,l,rfl,rfl,hx,HK,HB⟩:=hrel;have hln:l.length<=16:=by have h1:=AV List.length (AA HK);have h2:=LF 15 m (by omega);rw[AH]at h1;omega
  by_cases hz:x=0
  .subst hz;have hno:¬ 9223372036854775807<(ByteArray.mk #[109]).size+(BU l).size:=by rw[Fz,show(ByteArray.mk #[109]).size=1 from rfl];omega
   have hap:(ByteArray.mk #[109])++BU l=BU (109::l):=RM [109] l;have HR:Hid (BU (109::l)=mt m):=by show _=_;unfold mt;rw[AA HK];rfl
   go_wp2_with fail;go_ret;exact⟨by rw[AA HR];rfl,AA HB⟩
  .have hzi:0<(x:Int):=by omega
   obtain⟨y,hy⟩:∃y,x / 10=y:=⟨_,rfl⟩
   obtain⟨r,hr⟩:∃r,x % 10=r:=⟨_,rfl⟩
   have ey:(x:Int).tdiv 10=(y:Int):=by rw[CH (by omega)];omega
   have ey2:(x:Int) / 10=(y:Int):=by omega
   have er:(x:Int).tmod 10=(r:Int):=by rw[CG (by omega)];omega
   have er2:(x:Int) % 10=(r:Int):=by omega
   obtain⟨A,hA⟩:∃A,48+r=A:=⟨_,rfl⟩
   have eA:48+(r:Int)=(A:Int):=by omega
   have hA8:A<256:=by omega
   have wA:IntKind.u8.wrap (A:Int)=(A:Int):=JU rfl hA8;have hcv:=YP wr A hA8;have hno:¬ 9223372036854775807<(BU [(A:Int)]).size+(BU l).size:=by rw[Fz,Fz];simp;omega
   have hap:BU [(A:Int)]++BU l=BU ((A:Int)::l):=RM _ _;have HN:Hid (Gi m=Sx y++((A:Int)::l)):=by show _=_;rw[AA HK,VY hz,hy,hr,eA];simp
   have hsz:=(AA HB).size;have hyx:y<x:=by omega
   clear hA hy hr hz;go_wp2_with fail;go_roundw;case rel=>exact⟨y,(A:Int)::l,by go_num,rfl,by omega,HN,(AA HB).alloc hsz _⟩
   case measure=>simp[intOf];omega
