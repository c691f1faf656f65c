import Derived.Test.YtinndpnilmmmjaaGreatDoorZ03
import Derived.Test.YtinndpnilmmmjaaGreatDoorZ02
set_option maxRecDepth 20000
set_option maxHeartbeats 4000000
set_option linter.defProp false
namespace Go.Proofs.YtinndpnilmmmjaaGreatDoor
open Go.RowKit Tryz
def Ee{s:AE}{i f e:Nat}(hf:(if CM s i=true then i+2 else i)=f)(he:Bb Es s f=e)(h:e=f\/(e<s.size/\El (bt s e)=true)\/CM s e=true):ED s i=Di 1:=by unfold ED;simp only[hf,he];rw[AL h]
def Fq{s:AE}{i f e:Nat}(hf:(if CM s i=true then i+2 else i)=f)(he:Bb Es s f=e)(h:¬(e=f\/(e<s.size/\El (bt s e)=true)\/CM s e=true))(hb:1000000000000000<GE s f (e- f)):ED s i=Di 7:=by unfold ED;simp only[hf,he];rw[AG h,AL hb]
def GV{s:AE}{i f e:Nat}(hf:(if CM s i=true then i+2 else i)=f)(he:Bb Es s f=e)(h:¬(e=f\/(e<s.size/\El (bt s e)=true)\/CM s e=true))(hb:¬ 1000000000000000<GE s f (e- f)):ED s i=⟨1,if CM s i=true then-(GE s f (e- f):Int)else(GE s f (e- f):Int),⟨#[]⟩,e,0⟩:=by unfold ED;simp only[hf,he];rw[AG h,AG hb]
def LB(s:AE)(i:Nat)(w:World)(hi:i<s.size)(hs:s.size<=17592186044416):Calls prog 137 #[.string s,.int .i64 (i:Nat)] w (LM w (ED s i)):=by
 obtain⟨Q,hQ⟩:∃Q,Q=w.alloc (.cells #[.int .i64 0,.int .i64 0,.string ⟨#[]⟩,.int .i64 0,.int .i64 0,.int .i64 0] 119):=⟨_,rfl⟩
 have HQ:=AB hQ;have HBX:Hid (I4 Q w.heap.size (.int .i64 0) (.int .i64 0) (.string ⟨#[]⟩) (.int .i64 0) (.int .i64 0) (.int .i64 0)):=by rw[hQ];exact I4.new w _ _ _ _ _ _
 have HBQ:Hid (Below w.heap.size w Q):=by rw[hQ];exact AI.alloc AC _
 clear hQ;have HST:Hid (∀k W,k<=s.size->Calls prog 88 #[.string s,.int .i64 (k:Nat),.string ⟨#[194,175]⟩] W fun e w'=>e=.returned (.bool (CM s k))/\w'=W):=fun k W hk=>by rw[<-Gg];exact F8 s ⟨#[194,175]⟩ k hk hs (by decide) W
 obtain⟨B,hB⟩:∃B,CM s i=B:=⟨_,rfl⟩
 have hfs:(if B=true then i+2 else i)<=s.size:=by
  split
  .rename_i h
   rw[h]at hB;have:=AT hB;omega
  .omega
 obtain⟨f,hf⟩:∃f,(if B=true then i+2 else i)=f:=⟨_,rfl⟩
 have HF:Hid ((if CM s i=true then i+2 else i)=f):=by show _=_;rw[hB];exact hf
 have HSI:=AB (fun W=>AA HST i W (by omega));rw[hB]at HSI;rw[hf]at hfs;have HB:=AB hB;obtain⟨sg,hsg⟩:∃sg:Int,sg=if B=true then-1 else 1:=⟨_,rfl⟩
 have HSG:=AB hsg;clear hB;go_enter func137,ntmps137
 go_upto_if 13 with(first|(go_at_call 121;refine(Ds _).mono ?_;rintro e w1⟨rfl,hw⟩;obtain rfl:=hw.symm)|(go_at_call 88;refine(AA HSI _).mono ?_;rintro e w1⟨rfl,hw⟩;obtain rfl:=hw.symm))
 rw[<-AA HQ];go_cut[5,6] (fun a b wx=>a=.int .i64 sg/\b=.int .i64 (f:Nat)/\Q=wx);case first=>
  cases B with
  |true=>
   have hfi:(i:Int)+2=(f:Int):=by rw[<-hf];rfl
   go_wp2_with(go_at_call 121;refine(Ds _).mono ?_;rintro e w1⟨rfl,hw⟩;obtain rfl:=hw.symm)
   go_meet
   case rel=>exact⟨by rw[hsg];rfl,by go_num,rfl⟩
  |false=>
   have hfi:i=f:=by rw[<-hf];rfl
   go_wp2_with fail
   go_meet
   case rel=>exact⟨by rw[hsg];rfl,by rw[hfi],rfl⟩
 case rest=>
 obtain⟨rfl,rfl,rfl⟩:=hcut;clear hf hsg HSI;obtain⟨q0,q1,q2,q3,q4,q5,qf⟩:=(AA HBX).all;have f0:=qf 0;have f1:=qf 1;have f2:=qf 2;have f3:=qf 3;have f4:=qf 4;have f5:=qf 5;clear qf;go_wp2_with fail;go_loopw[6,7] (fun a b wr=>∃k:Nat,a=.int .i64 ((f+k:Nat):Int)/\b=.int .i64 ((JT s f k:Nat):Int)/\f+k<=s.size/\Hid (∀j,j<k->f+j<s.size/\Es (bt s (f+j))=true)/\Q=wr) (fun a _ _=>s.size- (intOf a).toNat);case atStart=>exact⟨0,rfl,rfl,hfs,fun j hj=>absurd hj (Bc _),rfl⟩
 case round=>
  obtain⟨k,rfl,rfl,hk,HK,rfl⟩:=hrel;obtain⟨q,hq⟩:∃q,f+k=q:=⟨_,rfl⟩
  obtain⟨x,hx⟩:∃x,JT s f k=x:=⟨_,rfl⟩
  have hxb:x<=10000000000000207:=by rw[<-hx];exact Tw s f (fun j=>by have:=GR s (f+j);omega) k
  rw[hq]at hk;rw[hq,hx];have HQE:=AB hq;have HXE:=AB hx;clear hq hx;by_cases FR:q<s.size/\Es (bt s q)=true;case pos=>
   have hlt:=FR.1;have Fr:(q:Int)<(s.size:Int):=by omega
   have hix:=fun W=>C5 hlt W;have HD:=AB (fun W=>E4 (bt s q) W);rw[FR.2]at HD;have hyb:48<=bt s q/\bt s q<=57:=by have:=FR.2;unfold Es at this;exact AT this
   obtain⟨y,hy⟩:∃y,bt s q=y:=⟨_,rfl⟩
   have HK2:Hid (∀j,j<k+1->f+j<s.size/\Es (bt s (f+j))=true):=fun j hj=>by
    by_cases e:j=k
    .subst e;rw[AA HQE];exact FR
    .exact AA HK j (by omega)
   have HCAP:Hid (JT s f (k+1)=if x<=1000000000000000 then x*10+(y- 48)else x):=by show _=_;rw[JT,AA HXE,AA HQE,hy]
   rw[hy]at hix HD hyb;clear hy FR;have hsub:IntKind.u8.wrap ((y:Int)- 48)=((y- 48:Nat):Int):=by simp[IntKind.wrap,IntKind.bits,IntKind.signed];omega
   obtain⟨d,hd⟩:∃d,y- 48=d:=⟨_,rfl⟩
   rw[hd]at hsub HCAP;have hdb:d<=9:=by omega
   have hsub2:(y:Int)- 48=(d:Int):=by omega
   clear hd hyb;by_cases hv:x<=1000000000000000;case pos=>
    have hvi:(x:Int)<=1000000000000000:=by omega
    have HC2:Hid (JT s f (k+1)=x*10+d):=by show _=_;rw[AA HCAP,AL hv]
    go_wp2_with(go_at_call 116;refine(AA HD _).mono ?_;rintro e w1⟨rfl,hw⟩;obtain rfl:=hw.symm);go_roundw;case rel=>exact⟨k+1,by have:=AA HQE;go_num,by rw[AA HC2];go_num,by have:=AA HQE;omega,HK2,by first|trivial|rfl⟩
    case measure=>simp[intOf];omega
   case neg=>
    have hvi:¬(x:Int)<=1000000000000000:=by omega
    have HC2:Hid (JT s f (k+1)=x):=by show _=_;rw[AA HCAP,AG hv]
    go_wp2_with(go_at_call 116;refine(AA HD _).mono ?_;rintro e w1⟨rfl,hw⟩;obtain rfl:=hw.symm);go_roundw;case rel=>exact⟨k+1,by have:=AA HQE;go_num,by rw[AA HC2],by have:=AA HQE;omega,HK2,by first|trivial|rfl⟩
    case measure=>simp[intOf];omega
  case neg=>
   have HEND:Hid (Bb Es s f=q):=by show _=_;rw[JR k f (AA HK) (by rw[AA HQE];exact FR)];exact AA HQE
   have hqf:f<=q:=by have:=AA HQE;omega
   have HSQ:=AB (fun W=>AA HST q W hk);by_cases hlt:q<s.size;case neg=>
    have Fr:¬(q:Int)<(s.size:Int):=by omega
    have hno:CM s q=false:=AD (by omega);rw[hno]at HSQ;by_cases hqe:q=f;case pos=>
     subst hqe;have HE:Hid (ED s i=Di 1):=Ee (AA HF) (AA HEND) (.inl rfl);go_wp2_with fail;refine bodyPost_ret (v:=EE (Di 1)) (by simp[results,results137,go_sem,q0,q1,q2,q3,q4,q5,EE,Di]) rfl ?_;exact⟨by rw[AA HE],((((((AA HBQ).setCell AC _).setCell AC _).setCell AC _).setCell AC _).setCell AC _).setCell AC _⟩
    case neg=>
     have hqei:¬(q:Int)=(f:Int):=by omega
     have HNO:Hid (¬(q=f\/(q<s.size/\El (bt s q)=true)\/CM s q=true)):=by rintro(h|h|h);exact hqe h;exact hlt h.1;rw[hno]at h;cases h
     by_cases hv:x<=1000000000000000;case neg=>
      have hvi:¬(x:Int)<=1000000000000000:=by omega
      have hvi2:(1000000000000000:Int)<(x:Int):=by omega
      have HE:Hid (ED s i=Di 7):=Fq (AA HF) (AA HEND) (AA HNO) (by have h1:=(LH s f k).2;rw[AA HXE]at h1;rw[show q- f=k by have:=AA HQE;omega];exact h1 (by omega));go_wp2_with(first|(go_at_call 121;refine(Ds _).mono ?_;rintro e w1⟨rfl,hw⟩;obtain rfl:=hw.symm)|(go_at_call 88;refine(AA HSQ _).mono ?_;rintro e w1⟨rfl,hw⟩;obtain rfl:=hw.symm));refine bodyPost_ret (v:=EE (Di 7)) (by simp[results,results137,go_sem,q0,q1,q2,q3,q4,q5,EE,Di]) rfl ?_;exact⟨by rw[AA HE],((((((AA HBQ).setCell AC _).setCell AC _).setCell AC _).setCell AC _).setCell AC _).setCell AC _⟩
     case pos=>
      have hvi:¬(1000000000000000:Int)<(x:Int):=by omega
      have HDV:Hid (GE s f (q- f)=x):=by have h1:=(LH s f k).1;rw[AA HXE]at h1;show _=_;rw[show q- f=k by have:=AA HQE;omega];exact(h1 hv).symm
      have HE:Hid (ED s i=⟨1,sg*(x:Int),⟨#[]⟩,q,0⟩):=by show _=_;rw[GV (AA HF) (AA HEND) (AA HNO) (by rw[AA HDV];omega),AA HDV,AA HB,AA HSG];cases B<;>simp
      have hsgb:sg=1\/sg= -1:=by rw[AA HSG];cases B<;>simp
      have hmw:IntKind.i64.wrap (sg*(x:Int))=sg*(x:Int):=by rcases hsgb with h|h<;>rw[h,IntKind.wrap_i64]<;>omega
      clear hsgb;go_wp2_with(first|(go_at_call 121;refine(Ds _).mono ?_;rintro e w1⟨rfl,hw⟩;obtain rfl:=hw.symm)|(go_at_call 88;refine(AA HSQ _).mono ?_;rintro e w1⟨rfl,hw⟩;obtain rfl:=hw.symm));refine bodyPost_ret (v:=EE ⟨1,sg*(x:Int),⟨#[]⟩,q,0⟩) (by simp[results,results137,go_sem,q0,q1,q2,q3,q4,q5,EE]) rfl ?_;exact⟨by rw[AA HE],((((((AA HBQ).setCell AC _).setCell AC _).setCell AC _).setCell AC _).setCell AC _).setCell AC _⟩
   case pos=>
    have Fr:(q:Int)<(s.size:Int):=by omega
    have hdf:Es (bt s q)=false:=by cases h:Es (bt s q)with|false=>rfl|true=>exact absurd ⟨hlt,h⟩ FR
    have hix:=fun W=>C5 hlt W;have HD:=AB (fun W=>E4 (bt s q) W);have HL:=AB (fun W=>FI (bt s q) W);rw[hdf]at HD;by_cases hqe:q=f;case pos=>
     subst hqe;have HE:Hid (ED s i=Di 1):=Ee (AA HF) (AA HEND) (.inl rfl);go_wp2_with(first|(go_at_call 116;refine(AA HD _).mono ?_;rintro e w1⟨rfl,hw⟩;obtain rfl:=hw.symm));refine bodyPost_ret (v:=EE (Di 1)) (by simp[results,results137,go_sem,q0,q1,q2,q3,q4,q5,EE,Di]) rfl ?_;exact⟨by rw[AA HE],((((((AA HBQ).setCell AC _).setCell AC _).setCell AC _).setCell AC _).setCell AC _).setCell AC _⟩
    case neg=>
     have hqei:¬(q:Int)=(f:Int):=by omega
     cases hl:El (bt s q);case true=>
      rw[hl]at HL;have HE:Hid (ED s i=Di 1):=Ee (AA HF) (AA HEND) (.inr (.inl ⟨hlt,hl⟩));go_wp2_with(first|(go_at_call 116;refine(AA HD _).mono ?_;rintro e w1⟨rfl,hw⟩;obtain rfl:=hw.symm)|(go_at_call 115;refine(AA HL _).mono ?_;rintro e w1⟨rfl,hw⟩;obtain rfl:=hw.symm));refine bodyPost_ret (v:=EE (Di 1)) (by simp[results,results137,go_sem,q0,q1,q2,q3,q4,q5,EE,Di]) rfl ?_;exact⟨by rw[AA HE],((((((AA HBQ).setCell AC _).setCell AC _).setCell AC _).setCell AC _).setCell AC _).setCell AC _⟩
     case false=>
      rw[hl]at HL;cases hh:CM s q;case true=>
       rw[hh]at HSQ;have HE:Hid (ED s i=Di 1):=Ee (AA HF) (AA HEND) (.inr (.inr hh));go_wp2_with(first|(go_at_call 116;refine(AA HD _).mono ?_;rintro e w1⟨rfl,hw⟩;obtain rfl:=hw.symm)|(go_at_call 115;refine(AA HL _).mono ?_;rintro e w1⟨rfl,hw⟩;obtain rfl:=hw.symm)|(go_at_call 121;refine(Ds _).mono ?_;rintro e w1⟨rfl,hw⟩;obtain rfl:=hw.symm)|(go_at_call 88;refine(AA HSQ _).mono ?_;rintro e w1⟨rfl,hw⟩;obtain rfl:=hw.symm));refine bodyPost_ret (v:=EE (Di 1)) (by simp[results,results137,go_sem,q0,q1,q2,q3,q4,q5,EE,Di]) rfl ?_;exact⟨by rw[AA HE],((((((AA HBQ).setCell AC _).setCell AC _).setCell AC _).setCell AC _).setCell AC _).setCell AC _⟩
      case false=>
       rw[hh]at HSQ;have HNO:Hid (¬(q=f\/(q<s.size/\El (bt s q)=true)\/CM s q=true)):=by rintro(h|h|h);exact hqe h;rw[hl]at h;cases h.2;rw[hh]at h;cases h
       by_cases hv:x<=1000000000000000;case neg=>
        have hvi:¬(x:Int)<=1000000000000000:=by omega
        have hvi2:(1000000000000000:Int)<(x:Int):=by omega
        have HE:Hid (ED s i=Di 7):=Fq (AA HF) (AA HEND) (AA HNO) (by have h1:=(LH s f k).2;rw[AA HXE]at h1;rw[show q- f=k by have:=AA HQE;omega];exact h1 (by omega));go_wp2_with(first|(go_at_call 116;refine(AA HD _).mono ?_;rintro e w1⟨rfl,hw⟩;obtain rfl:=hw.symm)|(go_at_call 115;refine(AA HL _).mono ?_;rintro e w1⟨rfl,hw⟩;obtain rfl:=hw.symm)|(go_at_call 121;refine(Ds _).mono ?_;rintro e w1⟨rfl,hw⟩;obtain rfl:=hw.symm)|(go_at_call 88;refine(AA HSQ _).mono ?_;rintro e w1⟨rfl,hw⟩;obtain rfl:=hw.symm));refine bodyPost_ret (v:=EE (Di 7)) (by simp[results,results137,go_sem,q0,q1,q2,q3,q4,q5,EE,Di]) rfl ?_;exact⟨by rw[AA HE],((((((AA HBQ).setCell AC _).setCell AC _).setCell AC _).setCell AC _).setCell AC _).setCell AC _⟩
       case pos=>
        have hvi:¬(1000000000000000:Int)<(x:Int):=by omega
        have HDV:Hid (GE s f (q- f)=x):=by have h1:=(LH s f k).1;rw[AA HXE]at h1;show _=_;rw[show q- f=k by have:=AA HQE;omega];exact(h1 hv).symm
        have HE:Hid (ED s i=⟨1,sg*(x:Int),⟨#[]⟩,q,0⟩):=by show _=_;rw[GV (AA HF) (AA HEND) (AA HNO) (by rw[AA HDV];omega),AA HDV,AA HB,AA HSG];cases B<;>simp
        have hsgb:sg=1\/sg= -1:=by rw[AA HSG];cases B<;>simp
        have hmw:IntKind.i64.wrap (sg*(x:Int))=sg*(x:Int):=by rcases hsgb with h|h<;>rw[h,IntKind.wrap_i64]<;>omega
        clear hsgb;go_wp2_with(first|(go_at_call 116;refine(AA HD _).mono ?_;rintro e w1⟨rfl,hw⟩;obtain rfl:=hw.symm)|(go_at_call 115;refine(AA HL _).mono ?_;rintro e w1⟨rfl,hw⟩;obtain rfl:=hw.symm)|(go_at_call 121;refine(Ds _).mono ?_;rintro e w1⟨rfl,hw⟩;obtain rfl:=hw.symm)|(go_at_call 88;refine(AA HSQ _).mono ?_;rintro e w1⟨rfl,hw⟩;obtain rfl:=hw.symm));refine bodyPost_ret (v:=EE ⟨1,sg*(x:Int),⟨#[]⟩,q,0⟩) (by simp[results,results137,go_sem,q0,q1,q2,q3,q4,q5,EE]) rfl ?_;exact⟨by rw[AA HE],((((((AA HBQ).setCell AC _).setCell AC _).setCell AC _).setCell AC _).setCell AC _).setCell AC _⟩
def Rj(n lo hi:Int)(w:World):Calls prog 29 #[.int .i64 n,.int .i64 lo,.int .i64 hi] w fun e w'=>e=.returned (.bool (decide (lo<=n/\n<=hi)))/\w'=w:=by
 obtain⟨r,hr⟩:∃r,decide (lo<=n/\n<=hi)=r:=⟨_,rfl⟩
 rw[hr];have HR:=AB hr;clear hr;by_cases h1:lo<=n
 .by_cases h2:n<=hi
  .have HE:Hid (true=r):=by show _=_;rw[<-AA HR,AK ⟨h1,h2⟩]
   go_enter func29,ntmps29
   go_wp2
   go_ret;refine⟨AN ?_,rfl⟩;first|exact AA HE|(rw[<-AA HE];simp;omega)
  .have HE:Hid (false=r):=by show _=_;rw[<-AA HR,AD (fun h=>h2 h.2)]
   go_enter func29,ntmps29
   go_wp2
   go_ret;refine⟨AN ?_,rfl⟩;first|exact AA HE|(rw[<-AA HE];simp;omega)
 .have HE:Hid (false=r):=by show _=_;rw[<-AA HR,AD (fun h=>h1 h.1)]
  go_enter func29,ntmps29
  go_wp2
  go_ret;refine⟨AN ?_,rfl⟩;first|exact AA HE|(rw[<-AA HE];simp;omega)
def Ew(n lo hi:Int)(r:Bool)(h:decide (lo<=n/\n<=hi)=r)(w:World):Calls prog 29 #[.int .i64 n,.int .i64 lo,.int .i64 hi] w fun e w'=>e=.returned (.bool r)/\w'=w:=by rw[<-h];exact Rj n lo hi w
def R7(n:Int)(w:World):Calls prog 62 #[.int .i64 n] w fun e w'=>e=.returned (.bool (IT n))/\w'=w:=by have HC:=AB (fun W=>Ew n 1 16 (IT n) rfl W);go_enter func62,ntmps62;go_wp2_with(first|(go_at_call 29;refine(AA HC _).mono ?_;rintro e w1⟨rfl,rfl⟩));go_ret;exact⟨rfl,rfl⟩
def SQ(n:Int)(w:World):Calls prog 118 #[.int .i64 n] w fun e w'=>e=.returned (.bool (D8 n))/\w'=w:=by have HC:=AB (fun W=>Ew n (-1000000000000000) 1000000000000000 (D8 n) rfl W);go_enter func118,ntmps118;go_wp2_with(first|(go_at_call 29;refine(AA HC _).mono ?_;rintro e w1⟨rfl,rfl⟩));go_ret;exact⟨rfl,rfl⟩
def bj(k:Int):FQ k=(decide (k≠8)&&decide (1<=k/\k<=10)):=by
 unfold FQ Ca;rw[Cj];simp only[An,As]
 repeat' split
 all_goals omega
def bh(k:Int):N4 k=decide (1<=k/\k<=10):=by
 unfold N4 Ca;rw[BQ]
 repeat' split
 all_goals omega
def bi(k:Int):Pd k=decide (11<=k/\k<=18):=by
 unfold Pd Ca;rw[BQ]
 repeat' split
 all_goals omega
def Xr(k:Int):Sc k=(FQ k||decide (19<=k/\k<=23)):=by
 unfold Sc FQ Ca;rw[Cj];simp only[DG,As]
 repeat' split
 all_goals omega
def Xt(k:Int):Vn k=(Sc k||decide (k=24)):=by
 unfold Vn Sc Ca;rw[Cj];simp only[DG,As]
 repeat' split
 all_goals omega
def Fj(g:Nat)(p:Int->Bool):Prop:=∀(k:Int)(v1 v2 v3 v4 v5:Value)(w:World),Calls prog g #[.agg #[.int .i64 k,v1,v2,v3,v4,v5]] w fun e w'=>e=.returned (.bool (p k))/\Below w.heap.size w w'
def KV:Fj 65 N4:=fun k v1 v2 v3 v4 v5 w=>by have HC:=AB (fun W=>Ew k 1 10 (N4 k) (bh k).symm W);go_enter func65,ntmps65;go_wp2_with(first|(go_at_call 29;refine(AA HC _).mono ?_;rintro e w1⟨rfl,rfl⟩));go_ret;exact⟨rfl,AI.alloc AC _⟩
def F9:Fj 66 Pd:=fun k v1 v2 v3 v4 v5 w=>by have HC:=AB (fun W=>Ew k 11 18 (Pd k) (bi k).symm W);go_enter func66,ntmps66;go_wp2_with(first|(go_at_call 29;refine(AA HC _).mono ?_;rintro e w1⟨rfl,rfl⟩));go_ret;exact⟨rfl,AI.alloc AC _⟩
def Pf:Fj 68 Yq:=fun k v1 v2 v3 v4 v5 w=>by
 have HE:Hid ((k==16)=Yq k):=by show _=_;unfold Yq;by_cases h:k=16<;>simp[h]
 go_enter func68,ntmps68
 go_wp2
 go_ret;exact⟨AN (AA HE),AI.alloc AC _⟩
def C9:Fj 64 FQ:=fun k v1 v2 v3 v4 v5 w=>by
 by_cases h8:k=8
 .subst h8;have HE:Hid (false=FQ 8):=rfl;go_enter func64,ntmps64;go_wp2_with fail;go_ret;exact⟨AN (AA HE),AI.alloc AC _⟩
 .have hn:(k !=8)=true:=by simpa using h8
  have HC:=AB (fun W=>Ew k 1 10 (FQ k) (by rw[bj,AK h8,Ap]) W);clear h8;go_enter func64,ntmps64;go_wp2_with(first|(go_at_call 29;refine(AA HC _).mono ?_;rintro e w1⟨rfl,rfl⟩));go_ret;exact⟨rfl,AI.alloc AC _⟩
def Lf{g:Nat}{p:Int->Bool}(h:Fj g p)(k:Int)(r:Bool)(hr:p k=r)(v1 v2 v3 v4 v5:Value)(w:World):Calls prog g #[.agg #[.int .i64 k,v1,v2,v3,v4,v5]] w fun e w'=>e=.returned (.bool r)/\Below w.heap.size w w':=by rw[<-hr];exact h k v1 v2 v3 v4 v5 w
def KU:Fj 70 Sc:=fun k v1 v2 v3 v4 v5 w=>by
 cases hE:FQ k with
 |true=>
  have HC:=AB (Lf C9 k true hE v1 v2 v3 v4 v5 (w.alloc (.cells #[.int .i64 k,v1,v2,v3,v4,v5] 47)));have HE:Hid (true=Sc k):=by show _=_;rw[Xr,hE];rfl
  clear hE;go_enter func70,ntmps70;go_wp2_with(first|(go_at_call 64;refine(AA HC).mono ?_;rintro e w1⟨rfl,hb1⟩;have HB1:=AB (((DP w.heap.size w).alloc AC _).trans (hb1.mono (by simp)));clear hb1));go_ret;exact⟨AN (AA HE),AA HB1⟩
 |false=>
  have HC:=AB (Lf C9 k false hE v1 v2 v3 v4 v5 (w.alloc (.cells #[.int .i64 k,v1,v2,v3,v4,v5] 47)));have HW:=AB (fun W=>Ew k 19 23 (Sc k) (by rw[Xr,hE,Bool.false_or]) W);clear hE;go_enter func70,ntmps70;go_wp2_with(first|(go_at_call 64;refine(AA HC).mono ?_;rintro e w1⟨rfl,hb1⟩;have HB1:=AB (((DP w.heap.size w).alloc AC _).trans (hb1.mono (by simp)));have hc0:w1.cell? ⟨w.heap.size,0,none⟩=some (.int .i64 k):=((hb1.cell (p:=⟨w.heap.size,0,none⟩) (by simp)).trans (by simp));clear hb1)|(go_at_call 29;refine(AA HW _).mono ?_;rintro e w2⟨rfl,hw2⟩;obtain rfl:=hw2.symm));go_ret;exact⟨rfl,AA HB1⟩
def Sf:Fj 67 Vn:=fun k v1 v2 v3 v4 v5 w=>by
 cases hE:Sc k with
 |true=>
  have HC:=AB (Lf KU k true hE v1 v2 v3 v4 v5 (w.alloc (.cells #[.int .i64 k,v1,v2,v3,v4,v5] 47)));have HE:Hid (true=Vn k):=by show _=_;rw[Xt,hE];rfl
  clear hE;go_enter func67,ntmps67;go_wp2_with(first|(go_at_call 70;refine(AA HC).mono ?_;rintro e w1⟨rfl,hb1⟩;have HB1:=AB (((DP w.heap.size w).alloc AC _).trans (hb1.mono (by simp)));clear hb1));go_ret;exact⟨AN (AA HE),AA HB1⟩
 |false=>
  have HC:=AB (Lf KU k false hE v1 v2 v3 v4 v5 (w.alloc (.cells #[.int .i64 k,v1,v2,v3,v4,v5] 47)));have HE:Hid ((k==24)=Vn k):=by show _=_;rw[Xt,hE,Bool.false_or];by_cases h:k=24<;>simp[h]
  clear hE;go_enter func67,ntmps67;go_wp2_with(first|(go_at_call 70;refine(AA HC).mono ?_;rintro e w1⟨rfl,hb1⟩;have HB1:=AB (((DP w.heap.size w).alloc AC _).trans (hb1.mono (by simp)));have hc0:w1.cell? ⟨w.heap.size,0,none⟩=some (.int .i64 k):=((hb1.cell (p:=⟨w.heap.size,0,none⟩) (by simp)).trans (by simp));clear hb1));go_ret;exact⟨AN (AA HE),AA HB1⟩
def GD:∀args w,(callFunc 64 args).run prog w=.ok (.enter 64 args) w:=enters_of func64 (by kernel_rfl) rfl
def Pv:∀args w,(callFunc 65 args).run prog w=.ok (.enter 65 args) w:=enters_of func65 (by kernel_rfl) rfl
def Pw:∀args w,(callFunc 66 args).run prog w=.ok (.enter 66 args) w:=enters_of func66 (by kernel_rfl) rfl
def VW:∀args w,(callFunc 68 args).run prog w=.ok (.enter 68 args) w:=enters_of func68 (by kernel_rfl) rfl
def Z7:∀args w,(callFunc 70 args).run prog w=.ok (.enter 70 args) w:=enters_of func70 (by kernel_rfl) rfl
def Z8:∀args w,(callFunc 67 args).run prog w=.ok (.enter 67 args) w:=enters_of func67 (by kernel_rfl) rfl
def Rz(k:Int):Ca k=0\/Ca k=1\/Ca k=2\/Ca k=3\/Ca k=4\/Ca k=5\/Ca k=6:=by
 unfold Ca
 repeat' split
 all_goals omega
def Qg(c:Nat)(k:Int)(w:World)(hc:c=101\/c=112\/c=102\/c=98\/c=115\/c=105):Calls prog 53 #[.int .u8 (c:Nat),.int .i64 k] w fun e w'=>e=.returned (.bool (I2 c k))/\w'=w:=by
 have hcs:=Rz k;obtain⟨s,hs⟩:∃s,Ca k=s:=⟨_,rfl⟩
 rw[hs]at hcs;have HS:Hid (∀W,Calls prog 24 #[.int .i64 k] W fun e w'=>e=.returned (.int .i64 s)/\w'=W):=AB fun W=>by rw[<-hs];exact G7 k W
 obtain⟨r,hr⟩:∃r,I2 c k=r:=⟨_,rfl⟩
 rw[hr];have HR:=AB hr;have HSS:=AB hs;clear hr hs;by_cases h98:c=98
 .subst h98;clear hc hcs;by_cases e1:k=16
  .have d1:(k==16)=true:=by simpa using e1
   have HE:=AB e1;clear e1;go_enter func53,ntmps53;go_wp2_with(go_at_call 24;refine(AA HS _).mono ?_;rintro e w1⟨rfl,rfl⟩);go_ret;exact⟨AN (by rw[<-AA HR];exact(AK (AA HE)).symm),rfl⟩
  .have d1:=Ai e1;have HE:=AB e1;clear e1;go_enter func53,ntmps53;go_wp2_with(go_at_call 24;refine(AA HS _).mono ?_;rintro e w1⟨rfl,rfl⟩);go_ret;exact⟨AN (by rw[<-AA HR];exact(AD (AA HE)).symm),rfl⟩
 .rcases hc with h|h|h|h|h|h;rotate_left 3
  .exact absurd h h98
  all_goals(subst h;clear h98;rcases hcs with h|h|h|h|h|h|h)
  all_goals
   subst h;go_enter func53,ntmps53;go_wp2_with(go_at_call 24;refine(AA HS _).mono ?_;rintro e w1⟨rfl,rfl⟩);go_ret;exact⟨AN (by rw[<-AA HR];simp[I2,FQ,N4,Pd,Sc,Vn,AA HSS]),rfl⟩
def Rb{p:Int->Bool}{zs:List Int}{k:Nat}(hk:k<zs.length)(h:(zs.take k).all p=true)(hp:p (zs.getD k 0)=true):(zs.take (k+1)).all p=true:=by
 rw[A9 hk,List.all_append,h];have:zs.getD k 0=zs[k]:=by simp[hk]
 rw[this]at hp;simp[hp]
def Ox{p:Int->Bool}{zs:List Int}{k:Nat}(hk:k<zs.length)(hp:p (zs.getD k 0)=false):zs.all p=false:=by
 have:zs.getD k 0=zs[k]:=by simp[hk]
 rw[this]at hp;refine Ev.2 ⟨zs[k],By hk,by simp[hp]⟩
def Pb(c:Nat)(a:Option Addr)(n cap:Nat)(zs:List Int)(w:World)(hc:c=101\/c=112\/c=102\/c=98\/c=115\/c=105)(h:Df w a n zs):Calls prog 54 #[.int .u8 (c:Nat),.slice a n cap] w fun e w'=>e=.returned (.bool (zs.all (I2 c)))/\w'=w:=by
 have HI:=AB (fun(k:Int)(W:World)=>Qg c k W hc);obtain⟨Ae,hsm,-⟩:=id h;have H:=AB h;clear h hc;go_enter func54,ntmps54;go_wp2_with fail;go_loopw[5] (fun i wr=>∃k:Nat,k<=n/\i=.int .i64 k/\Hid ((zs.take k).all (I2 c)=true)/\wr=w) (fun i _=>n- (intOf i).toNat);case atStart=>exact⟨0,AZ _,rfl,rfl,rfl⟩
 case round=>
  obtain⟨k,hk,rfl,HA,rfl⟩:=hrel;by_cases hlt:k<n
  .obtain⟨b,off,rfl,hbl,GQ⟩:=(AA H).get hlt;obtain⟨x,hx⟩:∃x,zs.getD k 0=x:=⟨_,rfl⟩
   rw[hx]at GQ;have HX:=AB hx;clear hx;have HC:=AB (fun W=>AA HI x W);cases hq:I2 c x with
   |true=>
    rw[hq]at HC;have HT:Hid ((zs.take (k+1)).all (I2 c)=true):=Rb (by omega) (AA HA) (by rw[AA HX];exact hq);clear hq;go_wp2_with(go_at_call 53;refine(AA HC _).mono ?_;rintro e w1⟨rfl,rfl⟩);go_roundw;case rel=>exact⟨k+1,by omega,by go_num,HT,trivial⟩
    case measure=>simp[intOf];omega
   |false=>
    rw[hq]at HC;have HT:Hid (zs.all (I2 c)=false):=Ox (k:=k) (by omega) (by rw[AA HX];exact hq);clear hq;go_wp2_with(go_at_call 53;refine(AA HC _).mono ?_;rintro e w1⟨rfl,rfl⟩);go_ret;exact⟨AN (AA HT).symm,rfl⟩
  .have hkn:k=n:=by omega
   subst hkn;have HT:Hid (zs.all (I2 c)=true):=by have:=AA HA;rwa [AO (by omega)]at this
   go_wp2
   go_ret;exact⟨AN (AA HT).symm,rfl⟩
def Df.drop{w:World}{a:Option Addr}{n:Nat}{zs:List Int}(h:Df w a n zs){b off:Nat}(ha:a=some ⟨b,off,none⟩)(j:Nat)(hj:j<=n):Df w (some ⟨b,off+j,none⟩) (n- j) (zs.drop j):=by
 have hl:=h.len;refine⟨by rw[DO];omega,by have:=h.small;omega,?_⟩;rcases h.at_ with h0|⟨b',Hr,e,hlt,hc⟩
 .left;omega
 .rw[ha]at e;cases e;refine .inr ⟨b,off+j,rfl,hlt,fun i hi=> ?_⟩;rw[Ci,hc (j+i) (by omega)];simp[List.getD_eq_getElem?_getD]
def Df.take{w:World}{a:Option Addr}{n:Nat}{zs:List Int}(h:Df w a n zs)(j:Nat)(hj:j<=n):Df w a j (zs.take j):=by
 have hl:=h.len;refine⟨by rw[CF];omega,by have:=h.small;omega,?_⟩;rcases h.at_ with h0|⟨b',Hr,e,hlt,hc⟩
 .left;omega
 .refine .inr ⟨b',Hr,e,hlt,fun i hi=> ?_⟩;rw[hc i (by omega)];simp[List.getD_eq_getElem?_getD,hi]
def Sd(a:Option Addr)(n cap:Nat)(ns:List AM)(w:World)(h:I1 w a n ns)(z:Nat)(hz:z<n)(lo hi:Int):Calls prog 119 #[.agg #[.slice a n cap],.int .i64 (z:Nat),.int .i64 lo,.int .i64 hi] w fun e w'=>e=.returned (.bool (D0 (Af ns z) lo hi))/\Below w.heap.size w w':=by
 obtain⟨r,hr⟩:∃r,D0 (Af ns z) lo hi=r:=⟨_,rfl⟩
 rw[hr];have HR:Hid (decide ((Af ns z).k=11/\lo<=(Af ns z).n/\(Af ns z).n<=hi)=r):=hr;clear hr;have hzi:(z:Int)<(n:Int):=by omega
 have hBX:∀o1 o2:Obj,Below w.heap.size w ((w.alloc o1).alloc o2):=fun o1 o2=>(AI.alloc AC _).alloc (by simp) _;have HBX:=AB hBX;obtain⟨b,off,rfl,hbl,s1,n1,c1,s2,n2,c2,e0,e1,e2,e3,e4,e5,r1,r2⟩:=h.get hz;obtain⟨xk,hxk⟩:∃x,(Af ns z).k=x:=⟨_,rfl⟩
 obtain⟨xn,hxn⟩:∃x,(Af ns z).n=x:=⟨_,rfl⟩
 obtain⟨xm,hxm⟩:∃x,(Af ns z).m=x:=⟨_,rfl⟩
 obtain⟨xs,hxs⟩:∃x,(Af ns z).s=x:=⟨_,rfl⟩
 rw[hxk]at e0 HR;rw[hxn]at e1 HR;rw[hxm]at e2;rw[hxs]at e3;clear hxk hxn hxm hxs r1 r2 h hBX;by_cases h11:xk=11
 .subst h11;have HW:=AB (fun W=>Ew xn lo hi r (by rw[<-AA HR];simp) W);clear HR;go_enter func119,ntmps119;go_wp2_with(first|(go_at_call 29;refine(AA HW _).mono ?_;rintro e w1⟨rfl,hw1⟩;obtain rfl:=hw1.symm));go_ret;exact⟨rfl,AA HBX _ _⟩
 .have hf:=Ai h11;have HE:Hid (false=r):=by show _=_;rw[<-AA HR,AD (fun h=>h11 h.1)]
  clear HR h11;go_enter func119,ntmps119;go_wp2_with fail;go_ret;exact⟨AN (AA HE),AA HBX _ _⟩
def TA(g:Nat)(eg:∀args w,(callFunc g args).run prog w=.ok (.enter g args) w)(p:Int->Bool)(hp:Fj g p)(a:Option Addr)(n cap:Nat)(ns:List AM)(b:Option Addr)(m c:Nat)(zs:List Int)(w:World)(h:Db w a n ns)(hb:Df w b m zs)(hz:∀q,q<m->0<=zs.getD q 0/\zs.getD q 0<n):Calls prog 63 #[.agg #[.slice a n cap],.slice b m c,.func (.func g) #[] #[]] w fun e w'=>e=.returned (.bool ((BA ns zs).all p))/\Below w.heap.size w w':=by
 have Ae:=hb.len;have hsm:=hb.small;have hkl:=DD ns zs;have H:=AB h;have HB:=AB hb;have HZ:=AB hz;have HP:=AB hp;have HBX:Hid (∀o1:Obj,Below w.heap.size w (w.alloc o1)):=fun o1=>AI.alloc AC _;obtain⟨Q,hQ⟩:∃Q,Q=w.alloc (.cells #[.slice a n cap] 29):=⟨_,rfl⟩
 have HQ:=AB hQ;have HBQ:Hid (Below w.heap.size w Q):=by rw[hQ];exact AI.alloc AC _
 have hQlt:w.heap.size<Q.heap.size:=by rw[hQ];simp
 have HQC:Hid (Q.cell? ⟨w.heap.size,0,none⟩=some (.slice a n cap)):=by rw[hQ];show(w.alloc _).cell? _=_;simp
 clear h hb hz hp hQ;go_enter func63,ntmps63;go_wp2_with fail;rw[<-AA HQ];go_loopw[11] (fun i wr=>∃k:Nat,k<=m/\i=.int .i64 k/\Hid (((BA ns zs).take k).all p=true)/\Hid (Below Q.heap.size Q wr)) (fun i _=>m- (intOf i).toNat);case atStart=>exact⟨0,AZ _,rfl,rfl,AI⟩
 case round=>
  obtain⟨k,hk,rfl,HA,HBL⟩:=hrel;have hbW:=(AA HBQ).trans ((AA HBL).mono (by omega));have HBW:=AB hbW;by_cases hlt:k<m
  .have ct:wr.cell? ⟨w.heap.size,0,none⟩=some (.slice a n cap):=((AA HBL).cell (p:=⟨w.heap.size,0,none⟩) hQlt).trans (AA HQC);obtain⟨b1,o1,rfl,hb1l,hc1⟩:=((AA HB).below AC hbW).get hlt;have hzk:=AA HZ k hlt;obtain⟨z,hzz⟩:∃z:Nat,zs.getD k 0=(z:Int):=⟨(zs.getD k 0).toNat,by omega⟩
   rw[hzz]at hc1 hzk;obtain⟨b2,off,rfl,hbl,s1,n1,c1,s2,n2,c2,e0,e1,e2,e3,e4,e5,r1,r2⟩:=((AA H).below AC hbW).get (k:=z) (by omega);have hkd:(BA ns zs).getD k 0=(Af ns z).k:=by rw[Of (by omega),hzz];rfl
   obtain⟨xk,hxk⟩:∃x,(Af ns z).k=x:=⟨_,rfl⟩
   obtain⟨xn,hxn⟩:∃x,(Af ns z).n=x:=⟨_,rfl⟩
   obtain⟨xm,hxm⟩:∃x,(Af ns z).m=x:=⟨_,rfl⟩
   obtain⟨xs,hxs⟩:∃x,(Af ns z).s=x:=⟨_,rfl⟩
   rw[hxk]at e0 hkd;rw[hxn]at e1;rw[hxm]at e2;rw[hxs]at e3;have HKD:=AB hkd;have Fr:(k:Int)<(m:Int):=by omega
   have hzn:(z:Int)<(n:Int):=by omega
   clear hxk hxn hxm hxs r1 r2 hzz hkd hzk hbW;cases hq:p xk with
   |true=>
    have HC:=AB (fun v1 v2 v3 v4 v5 W=>Lf (AA HP) xk true hq v1 v2 v3 v4 v5 W);have HT:Hid (((BA ns zs).take (k+1)).all p=true):=Rb (by omega) (AA HA) (by rw[AA HKD];exact hq);clear hq;go_wp2_with(go_at_fn g;refine(AA HC _ _ _ _ _ _).mono ?_;rintro e w1⟨rfl,hb1⟩;have HB1:=AB ((AA HBL).trans (hb1.mono (AA HBL).size));clear hb1);go_roundw;case rel=>exact⟨k+1,by omega,by go_num,HT,HB1⟩
    case measure=>simp[intOf];omega
   |false=>
    have HC:=AB (fun v1 v2 v3 v4 v5 W=>Lf (AA HP) xk false hq v1 v2 v3 v4 v5 W);have HT:Hid ((BA ns zs).all p=false):=Ox (k:=k) (by omega) (by rw[AA HKD];exact hq);clear hq;go_wp2_with(go_at_fn g;refine(AA HC _ _ _ _ _ _).mono ?_;rintro e w1⟨rfl,hb1⟩;have HB1:=AB ((AA HBW).trans (hb1.mono (AA HBW).size));clear hb1);go_ret;exact⟨AN (AA HT).symm,AA HB1⟩
  .have hkn:k=m:=by omega
   have Fr:¬(k:Int)<(m:Int):=by omega
   have HT:Hid ((BA ns zs).all p=true):=by have:=AA HA;rwa [AO (by omega)]at this
   clear hbW
   go_wp2
   go_ret;exact⟨AN (AA HT).symm,AA HBW⟩
def dz(g:Nat)(eg:∀args w,(callFunc g args).run prog w=.ok (.enter g args) w)(p:Int->Bool)(hp:Fj g p)(a:Option Addr)(n cap:Nat)(ns:List AM)(b:Option Addr)(m c:Nat)(zs:List Int)(w:World)(h:Db w a n ns)(hb:Df w b m zs)(hz:∀q,q<m->0<=zs.getD q 0/\zs.getD q 0<n)(r:Bool)(hr:(BA ns zs).all p=r):Calls prog 63 #[.agg #[.slice a n cap],.slice b m c,.func (.func g) #[] #[]] w fun e w'=>e=.returned (.bool r)/\Below w.heap.size w w':=by rw[<-hr];exact TA g eg p hp a n cap ns b m c zs w h hb hz
structure Rd(w:World)(B:Nat)(a:Option Addr)(n:Nat)(zs:List Int):Prop where
 len:zs.length=n
 small:n<=17592186044416
 at_:n=0\/∃g off,a=some ⟨g,off,none⟩/\B<=g/\g<w.heap.size/\(∀i,i<n->w.cell? ⟨g,off+i,none⟩=some (.int .u8 (zs.getD i 0)))/\(∀i,i<n->w.frozen? ⟨g,off+i,none⟩=false)
def Rd.row{w:World}{B:Nat}{a:Option Addr}{n:Nat}{zs:List Int}(h:Rd w B a n zs):De w a n zs:=by
 refine⟨h.len,?_⟩;rcases h.at_ with h0|⟨g,off,rfl,_,hlt,hc,_⟩
 .exact .inl h0
 .exact .inr ⟨g,off,rfl,hlt,hc⟩
def Rd.below{w w':World}{a:Option Addr}{n:Nat}{zs:List Int}{B C:Nat}(h:Rd w C a n zs)(hB:w.heap.size<=B)(hb:Below B w w'):Rd w' C a n zs:=by
 refine⟨h.len,h.small,?_⟩;rcases h.at_ with h0|⟨g,off,rfl,hg,hlt,hc,hf⟩
 .exact .inl h0
 .exact .inr ⟨g,off,rfl,hg,AX hlt hb.size,fun i hi=>(hb.cell (p:=⟨g,off+i,none⟩) (AX hlt hB)).trans (hc i hi),fun i hi=>(hb.frozen (p:=⟨g,off+i,none⟩) (AX hlt hB)).trans (hf i hi)⟩
def NC(k:Int)(n:Nat):List Int:=(List.range n).map fun(i:Nat)=>IntKind.u8.wrap (k+(i:Int))
def ST(k:Int)(n:Nat):(NC k n).length=n:=by simp[NC]
def SU(k:Int)(n i:Nat)(h:i<n):(NC k n).getD i 0=IntKind.u8.wrap (k+i):=by simp[NC,h]
def N2(a:Option Addr)(n cap B:Nat)(zs:List Int)(k:Int)(w:World)(h:Rd w B a n zs)(hk0:0<=k)(hk:k<=4611686018427387904):Calls prog 16 #[.slice a n cap,.int .i64 k] w fun e w'=>e=.returned (.int .i64 (k+n))/\Rd w' B a n (NC k n)/\EF (At a n) w w':=by
 obtain⟨Ae,hsm,hat⟩:=h;go_enter func16,ntmps16
 go_wp2
 go_loopw[1,5] (fun c i wr=>∃j:Nat,j<=n/\i=.int .i64 j/\c=.int .i64 (k+j)/\EF (At a n) w wr/\(n=0\/∃g off,a=some ⟨g,off,none⟩/\B<=g/\g<wr.heap.size/\(∀i,i<j->wr.cell? ⟨g,off+i,none⟩=some (.int .u8 (IntKind.u8.wrap (k+i))))/\(∀i,i<n->(wr.cell? ⟨g,off+i,none⟩).isSome=true)/\(∀i,i<n->wr.frozen? ⟨g,off+i,none⟩=false))) (fun _ i _=>n- (intOf i).toNat);case atStart=>
  refine⟨0,AZ _,rfl,by simp,EF.refl _ _,?_⟩;rcases hat with h0|⟨g,off,rfl,hg,hlt,hc,hf⟩
  .exact .inl h0
  .exact .inr ⟨g,off,rfl,hg,hlt,fun i hi=>absurd hi (Bc _),fun i hi=>by rw[hc i hi];rfl,hf⟩
 case round=>
  obtain⟨j,hj,rfl,rfl,hbut,hst⟩:=hrel;by_cases hlt:j<n
  .rcases hst with h0|⟨g,off,rfl,hg,hgl,hc,hs,hf⟩
   .omega
   .clear hat;have hs1:=hs j hlt;have hf1:=hf j hlt;obtain⟨u,hu⟩:=Fl.mp hs1;have HB:=AB hbut;have HS:=AB hs;have HF:=AB hf;have HC:=AB hc;clear hbut hs hf hc
    go_wp2
    go_roundw;case rel=>
     refine⟨j+1,by omega,by go_num,by go_num,(AA HB).setCell (T3 (by omega)) _,.inr ⟨g,off,rfl,hg,by simpa using hgl,fun i hi=> ?_,fun i hi=> ?_,fun i hi=> ?_⟩⟩
     .by_cases hij:i=j
      .subst hij;exact CQ _ _ _ hu
      .rw[Co _ _ _ _ (by simp<;>omega)];exact AA HC i (by omega)
     .by_cases hij:i=j
      .subst hij;rw[CQ _ _ _ hu];rfl
      .rw[Co _ _ _ _ (by simp<;>omega)];exact AA HS i hi
     .simpa using AA HF i hi
    case measure=>simp[intOf];omega
  .have hjn:j=n:=by omega
   subst hjn;have HB:=AB hbut;have HT:=AB hst;clear hbut hst hat
   go_wp2
   go_ret;refine⟨rfl,⟨ST _ _,hsm,?_⟩,AA HB⟩;rcases AA HT with h0|⟨g,off,rfl,hg,hgl,hc,hs,hf⟩
   .exact .inl h0
   .exact .inr ⟨g,off,rfl,hg,hgl,fun i hi=>by rw[SU _ _ _ hi];exact hc i hi,hf⟩
