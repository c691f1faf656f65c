import Derived.Test.YtinndpnilmmmjaaGreatDoorZ41
import Derived.Test.YtinndpnilmmmjaaGreatDoorZ43
import Derived.Test.YtinndpnilmmmjaaGreatDoorZ42
set_option maxRecDepth 20000
set_option maxHeartbeats 8000000
set_option linter.defProp false
namespace Go.Proofs.YtinndpnilmmmjaaGreatDoor
open Go.RowKit Go.Proofs.Tryz
def YL:∀args w,(callFunc 217 args).run prog w=.ok (.enter 217 args) w:=enters_of func217 (by kernel_rfl) rfl
def YM:∀args w,(callFunc 215 args).run prog w=.ok (.enter 215 args) w:=enters_of func215 (by kernel_rfl) rfl
def YK:∀args w,(callFunc 102 args).run prog w=.ok (.enter 102 args) w:=enters_of func102 (by kernel_rfl) rfl
def QA(X:DN)(G j:Nat):Option B1:=if X.cl j=59\/X.cl j=93 then C4 j [Ck 8 0 0]else Bh X G 0 j []
def SE(X:DN){g G:Nat}(h:g<=G)(m i:Nat)(a:List AM):CP (Bh X g m i a) (Bh X G m i a):=by
 obtain⟨d,rfl⟩:∃d,G=g+d:=⟨G- g,by omega⟩
 exact ZR X g d m i a
def Mg(X:DN):∀(g G i:Nat),g<=G->CP (Bh X g 2 i []) (D7 X 59 (QA X G) g i)
 |0,_,_,_=>CP.none _
 |g+1,G,i,h=>by rw[Bh,AG (by decide),AG (by decide),AL rfl,D7];exact CP.bind (CP.ite (CP.refl _) (SE X (by omega) 0 i [])) fun q l=>CP.ite (CP.bind (Mg X g G (q+1) (by omega)) fun _ _=>CP.refl _) (CP.refl _)
def Kg(X:DN):∀(g G i:Nat),g<=G->CP (Bh X g 4 i []) (D7 X 8900 (fun j=>Bh X G 6 j []) g i)
 |0,_,_,_=>CP.none _
 |g+1,G,i,h=>by rw[Bh,AG (by decide),AG (by decide),AG (by decide),AG (by decide),AL rfl,D7];exact CP.bind (SE X (by omega) 6 i []) fun q l=>CP.ite (CP.bind (Kg X g G (q+1) (by omega)) fun _ _=>CP.refl _) (CP.refl _)
def Mf(X:DN):∀(g G i:Nat),g<=G->CP (Bh X g 7 i []) (D7 X 8900 (fun j=>Bh X G 5 j []) g i)
 |0,_,_,_=>CP.none _
 |g+1,G,i,h=>by rw[Bh,AG (by decide),AG (by decide),AG (by decide),AG (by decide),AG (by decide),AG (by decide),AG (by decide),D7];exact CP.bind (SE X (by omega) 5 i []) fun q l=>CP.ite (CP.bind (Mf X g G (q+1) (by omega)) fun _ _=>CP.refl _) (CP.refl _)
def NX{X:DN}{i q:Nat}{x:Option B1}{l:List (List AM)}(h:BD X i 1 0 true x)(hx:x=some (true,q,l)):∃t,l= [t]/\i<=q/\q<=X.len/\t.length+1<=4*(q- i):=by obtain⟨h1,h2,h3,h4⟩:=h q l hx;obtain⟨t,rfl,_⟩:=h4 rfl;rw[BL]at h3;exact⟨t,rfl,h1,h2,by omega⟩
def L0(r:B1):B1:=if r.1=true then r else(false,r.2.1,[])
def Jo(r:B1):A7 (some r) (fun q2 l2=>C4 q2 ([]++l2))=some (L0 r):=by obtain⟨b,q,l⟩:=r;cases b<;>rfl
section
variable {Z w w0 w1:World}{p i j:Nat}{nd nd0 nd1 v:Value}{zs:List Int}{xs ys:List AW}{ta:Option Addr}{tn tc AJ:Nat}{ts:List CO}
structure Rg(Z:World)(p:Nat)(ta:Option Addr)(tn tc:Nat)(ts:List CO)(AJ f:Nat):Prop where
 x:∀j r,j<=ts.length->Bh (AF ts) f 0 j []=some r->BS Z p ta tn tc ts AJ 166 #[.pointer (some ⟨p,0,none⟩)] j r
 g:∀j r,j<=ts.length->LN ((AF ts).cl j)=true->Bh (AF ts) f 3 j []=some r->BS Z p ta tn tc ts AJ 199 #[.pointer (some ⟨p,0,none⟩)] j r
 s:∀j r,j<=ts.length->Bh (AF ts) f 5 j []=some r->BS Z p ta tn tc ts AJ 102 #[.pointer (some ⟨p,0,none⟩)] j r
 t:∀j r,j<=ts.length->Bh (AF ts) f 6 j []=some r->BS Z p ta tn tc ts AJ 215 #[.pointer (some ⟨p,0,none⟩)] j r
def dH(E:BR Z ta tn ts AJ)(htl:ts.length<=4096){f:Nat}(L:Rg Z p ta tn tc ts AJ f)(j:Nat)(r:B1)(hj:j<=ts.length)(hr:QA (AF ts) f j=some r):BS Z p ta tn tc ts AJ 217 #[.pointer (some ⟨p,0,none⟩)] j r:=by
 intro w nd xs h AQ;unfold QA at hr;by_cases h1:(AF ts).cl j=59
 .rw[AL (.inl h1)]at hr;cases hr;exact ZU E h (by omega) AQ h1
 by_cases h2:(AF ts).cl j=93
 .rw[AL (.inr h2)]at hr;cases hr;exact ZT E h (by omega) AQ h1 h2
 rw[AG (by rintro(h'|h')<;>contradiction)]at hr;exact ZS E h (by omega) AQ h1 h2 (L.x j r hj hr)
def Md(E:BR Z ta tn ts AJ)(htl:ts.length<=4096){f g:Nat}(L:Rg Z p ta tn tc ts AJ f)(hg:g<=f)(hj:j<=ts.length){r:B1}(hr:Bh (AF ts) g 2 j []=some r):FT Z p ta tn tc ts AJ 101 #[.pointer (some ⟨p,0,none⟩),.string ⟨#[59]⟩,.func (.func 217) #[.pointer (some ⟨p,0,none⟩)] #[]] j (L0 r):=by
 have hs:=Mg (AF ts) g f j hg r hr;refine bP E htl YL (c:=59) (by decide) (by kernel_rfl) (Lv:=QA (AF ts) f) ?_ (dH E htl L) (f0:=g) (by rw[hs];exact Jo r) hj;intro j q l hj hl;unfold QA at hl;split at hl
 .cases hl;exact⟨_,rfl,AC,hj,by rw[DL];omega⟩
 .obtain⟨t,rfl,h1,h2,h3,_⟩:=C7 (by rfl) (by decide) (by decide) hj hl;exact⟨t,rfl,h2,h1,by omega⟩
def Me(E:BR Z ta tn ts AJ)(htl:ts.length<=4096){f g:Nat}(L:Rg Z p ta tn tc ts AJ f)(hg:g<=f)(hj:j<=ts.length){r:B1}(hr:Bh (AF ts) g 4 j []=some r):FT Z p ta tn tc ts AJ 101 #[.pointer (some ⟨p,0,none⟩),.string ⟨#[226,139,132]⟩,.func (.func 215) #[.pointer (some ⟨p,0,none⟩)] #[]] j (L0 r):=by have hs:=Kg (AF ts) g f j hg r hr;refine bP E htl YM (c:=8900) (by decide) (by kernel_rfl) (Lv:=fun j=>Bh (AF ts) f 6 j []) ?_ L.t (f0:=g) (by rw[hs];exact Jo r) hj;intro j q l hj hl;obtain⟨t,rfl,h1,h2,h3,_⟩:=C7 (by rfl) (by decide) (by decide) hj hl;exact⟨t,rfl,h2,h1,by omega⟩
def Mc(E:BR Z ta tn ts AJ)(htl:ts.length<=4096){f g:Nat}(L:Rg Z p ta tn tc ts AJ f)(hg:g<=f)(hj:j<=ts.length){r:B1}(hr:Bh (AF ts) g 7 j []=some r):FT Z p ta tn tc ts AJ 101 #[.pointer (some ⟨p,0,none⟩),.string ⟨#[226,139,132]⟩,.func (.func 102) #[.pointer (some ⟨p,0,none⟩)] #[]] j (L0 r):=by have hs:=Mf (AF ts) g f j hg r hr;refine bP E htl YK (c:=8900) (by decide) (by kernel_rfl) (Lv:=fun j=>Bh (AF ts) f 5 j []) ?_ L.s (f0:=g) (by rw[hs];exact Jo r) hj;intro j q l hj hl;obtain⟨t,rfl,h1,h2,h3,_⟩:=C7 (by rfl) (by decide) (by decide) hj hl;exact⟨t,rfl,h2,h1,by omega⟩
def Wq(E:BR Z ta tn ts AJ)(htl:ts.length<=4096){f g:Nat}(L:Rg Z p ta tn tc ts AJ f)(hg:g<=f)(h91:(AF ts).cl j=91){r:B1}(hr:Pg ts g j=some r):FT Z p ta tn tc ts AJ 194 #[.pointer (some ⟨p,0,none⟩)] j r:=by
 have hjl:j<ts.length:=Ab ts j (by rw[h91];decide);intro w nd xs h AQ;unfold Pg at hr;rcases BG hr with⟨q,l,hx,hk⟩|⟨q,l,hx,rfl⟩
 .have hS:=Md E htl L hg (j:=j+1) hjl hx;have hq:q<=ts.length:=((Cc (Ab ts) g 2 (j+1) [] hjl).q hx).2;by_cases h93:(AF ts).cl q=93
  .rw[AL h93]at hk;cases hk;exact Wo E h (by omega) AQ (by omega) h91 hS h93
  .rw[AG h93]at hk;cases hk;exact Wp E h (by omega) AQ (by omega) h91 hS h93
 .exact Ue E h (by omega) AQ h91 (Md E htl L hg (j:=j+1) hjl hx)
def P4(E:BR Z ta tn ts AJ)(htl:ts.length<=4096){f:Nat}(L:Rg Z p ta tn tc ts AJ f)(h1:(AF ts).cl j=123){r:B1}(hr:EJ (AF ts) (Bh (AF ts) f) j=some r):BS Z p ta tn tc ts AJ 192 #[.pointer (some ⟨p,0,none⟩)] j r:=by
 have hjl:j<ts.length:=Ab ts j (by rw[h1];decide);intro w nd xs h AQ;unfold EJ at hr;by_cases h2:(AF ts).cl (j+1)=125
 .rw[AL h2]at hr;cases hr;exact RN E h (by omega) AQ h1 h2
 rw[AG h2]at hr;rcases BG hr with⟨q,l,hx,hk⟩|⟨q,l,hx,rfl⟩
 .have hS:=Me E htl L (Nat.le_refl f) (j:=j+1) hjl hx;obtain⟨k1,k2,k3,_⟩:=K4 (FF (Ab ts) f) (i:=j+1) hjl q l hx;have k2':q<=ts.length:=k2;by_cases h3:(AF ts).cl q=125
  .rw[AL h3]at hk;cases hk;exact VZ E h (by omega) AQ (by omega) h1 h2 hS h3 (by omega)
  .rw[AG h3]at hk;cases hk;exact Va E h (by omega) AQ (by omega) h1 h2 hS h3
 .exact S0 E h (by omega) AQ h1 h2 (Me E htl L (Nat.le_refl f) (j:=j+1) hjl hx)
def W9{f q:Nat}(hq:q<=ts.length):∀q2 l2,Bh (AF ts) f 0 q []=some (true,q2,l2)->∃t,l2= [t]/\q2<=ts.length/\q<=q2/\t.length<=4*(q2- q):=fun q2 l2 hx=>by obtain⟨t,h1,h2,h3,h4,_⟩:=C7 (by rfl) (by decide) (by decide) hq hx;exact⟨t,h1,h2,h3,h4⟩
def al(E:BR Z ta tn ts AJ)(htl:ts.length<=4096){f:Nat}(L:Rg Z p ta tn tc ts AJ f){q0:Nat}(hq0:q0<=ts.length){t0:List AM}{r:B1}(hr:Gu (AF ts) (Bh (AF ts) f) q0 t0=some r):T8 Z p ta tn tc ts AJ q0 t0 r:=dn E htl (fun g j r hg _ h91 hr=>Wq E htl L (by omega) h91 hr) L.g L.x hq0 hr
def QZ(E:BR Z ta tn ts AJ)(htl:ts.length<=4096){f:Nat}(L:Rg Z p ta tn tc ts AJ f)(hj:j<=ts.length){r:B1}(hr:Dj (AF ts) (Bh (AF ts) f) j=some r):BS Z p ta tn tc ts AJ 196 #[.pointer (some ⟨p,0,none⟩)] j r:=Wv E htl hj (Cc (Ab ts) f) (fun h40 r hr=>L.x (j+1) r (Ab ts j (by rw[h40];decide)) hr) hr
def dw(E:BR Z ta tn ts AJ)(htl:ts.length<=4096){f:Nat}(L:Rg Z p ta tn tc ts AJ f)(hj:j<=ts.length){r:B1}(hr:Hd (AF ts) (Bh (AF ts) f) j=some r):BS Z p ta tn tc ts AJ 166 #[.pointer (some ⟨p,0,none⟩)] j r:=by
 intro w nd xs h AQ;unfold Hd at hr;by_cases hf:LN ((AF ts).cl j)=true
 .rw[AL hf]at hr;rcases BG hr with⟨q,l,hx,hk⟩|⟨q,l,hx,rfl⟩
  .obtain⟨t,rfl,h1,h2,h3,_⟩:=C7 (by rfl) (by decide) (by decide) hj hx;have hrm:xs.length+(Az [t]).length+4*(5000- q)<=100000:=by rw[BL];omega
   rcases BG hk with⟨q2,l2,hx2,hk2⟩|⟨q2,l2,hx2,rfl⟩
   .obtain⟨t2,rfl,g1,g2,g3,_⟩:=C7 (by rfl) (by decide) (by decide) h1 hx2;cases hk2;exact Z0 E h (by omega) AQ hf (L.g j _ hj hf hx) hrm (L.x q _ h1 hx2) (by rw[EI,BL,BL];omega)
   .exact Z1 E h (by omega) AQ hf (L.g j _ hj hf hx) hrm (L.x q _ h1 hx2)
  .exact VQ E h (by omega) AQ hf (L.g j _ hj hf hx)
 .have hf':LN ((AF ts).cl j)=false:=by simpa using hf
  rw[AG hf]at hr;have hO:=fun r hr=>QZ E htl L (j:=j) hj (r:=r) hr;rcases BG hr with⟨q,l,hx,hk⟩|⟨q,l,hx,rfl⟩
  .obtain⟨t,rfl,h1,h2,h3⟩:=NX (Ow (Ab ts) (FF (Ab ts) f) (i:=j) hj) hx;have h2':q<=ts.length:=h2;exact VP E h (by omega) AQ hf' (hO _ hx) (al E htl L h2' hk) (by rw[BL];omega)
  .exact VS E h (by omega) AQ hf' (hO _ hx)
def ei(E:BR Z ta tn ts AJ)(htl:ts.length<=4096){f:Nat}(L:Rg Z p ta tn tc ts AJ f)(h0:(AF ts).cl j=4)(h1:(AF ts).cl (j+1)=8592){r:B1}(hr:(if(AF ts).cl (j+2)=123 then A7 (EJ (AF ts) (Bh (AF ts) f) (j+2)) fun q l=>C4 q [Ay 20 0 0 ((AF ts).sv j) [] l]else Cp (j+2))=some r):BS Z p ta tn tc ts AJ 160 #[.pointer (some ⟨p,0,none⟩)] j r:=by
 have hj1:j+1<ts.length:=Ab ts (j+1) (by rw[h1];decide);intro w nd xs h AQ;by_cases h2:(AF ts).cl (j+2)=123
 .rw[AL h2]at hr;rcases BG hr with⟨q,l,hx,hk⟩|⟨q,l,hx,rfl⟩
  .obtain⟨t,rfl,k1,k2,k3⟩:=NX (H9 (Ab ts) (FF (Ab ts) f) h2) hx;have k2':q<=ts.length:=k2;cases hk;exact cO E h (by omega) AQ (by rw[h0];decide) (P4 E htl L h2 hx) (by omega)
  .exact YN E h (by omega) AQ (by rw[h0];decide) (P4 E htl L h2 hx)
 .rw[AG h2]at hr;cases hr;exact YN E h (by omega) AQ (by rw[h0];decide) (l:= []) (fun w nd xs h _=>Vb E h (by omega) h2)
def fB(E:BR Z ta tn ts AJ)(htl:ts.length<=4096){f:Nat}(L:Rg Z p ta tn tc ts AJ f)(h0:(AF ts).cl j=3)(h1:(AF ts).cl (j+1)=91){r:B1}(hr:(A7 (Bh (AF ts) f 2 (j+2) []) fun q l=>if(AF ts).cl q=93 then(if(AF ts).cl (q+1)=8592 then F4 (Bh (AF ts) f) 21 0 ((AF ts).sv j) l (q+2)else Cp (q+1))else Cp q)=some r):BS Z p ta tn tc ts AJ 164 #[.pointer (some ⟨p,0,none⟩)] j r:=by
 have hj1:j+1<ts.length:=Ab ts (j+1) (by rw[h1];decide);have hc0:(AF ts).cl j≠0:=by rw[h0];decide
 intro w nd xs h AQ;have hP:=fun r hr=>Wq E htl L (Nat.le_refl f) h1 (r:=r) hr;unfold Pg at hP;rcases BG hr with⟨q,l,hx,hk⟩|⟨q,l,hx,rfl⟩
 .obtain⟨k1,k2,k3,_⟩:=(FF (Ab ts) f).fair 2 (j+2) [] hj1 (fun e=>by cases e) q l hx;have k3':(Az l).length<=4*(q- (j+2))+1:=k3;have hpl:=IS f (j+2) q l hj1 hx;have hx':Bh (AF ts) f 2 (j+1+1) []=some (true,q,l):=hx;rw[hx']at hP;by_cases h93:(AF ts).cl q=93
  .rw[AL h93]at hk;have hql:q<ts.length:=Ab ts q (by rw[h93];decide);have hB:=hP (true,q+1,l) (by show(if(AF ts).cl q=93 then C4 (q+1) l else Cp q)=_;rw[AL h93];rfl);by_cases ha:(AF ts).cl (q+1)=8592
   .rw[AL ha]at hk;have hql1:q+1<ts.length:=Ab ts (q+1) (by rw[ha];decide);exact aO E h (by omega) AQ hc0 (by omega) hB ha (fun r hr=>L.x (q+1+1) r hql1 hr) (W9 hql1) htl (by omega) (by omega) hk
   .rw[AG ha]at hk;cases hk;exact cW E h (by omega) AQ hc0 (by omega) hB ha
  .rw[AG h93]at hk;cases hk;exact T5 E h (by omega) AQ hc0 (hP (false,q,[]) (by show(if(AF ts).cl q=93 then C4 (q+1) l else Cp q)=_;rw[AG h93];rfl))
 .have hx':Bh (AF ts) f 2 (j+1+1) []=some (false,q,l):=hx;rw[hx']at hP;exact T5 E h (by omega) AQ hc0 (hP (false,q,[]) rfl)
def eO(E:BR Z ta tn ts AJ)(htl:ts.length<=4096){f:Nat}(L:Rg Z p ta tn tc ts AJ f)(h0:(AF ts).cl j=40){r:B1}(hr:(A7 (Bh (AF ts) f 0 (j+1) []) fun q l=>if(AF ts).cl q=41 then(if(AF ts).cl (q+1)=8592 then(if J8 (l.headD [])=true then F4 (Bh (AF ts) f) 23 0 E2 l (q+2)else Cp (q+1))else Gu (AF ts) (Bh (AF ts) f) (q+1) (l.headD []))else Cp q)=some r):BS Z p ta tn tc ts AJ 165 #[.pointer (some ⟨p,0,none⟩)] j r:=by
 have hjl:j<ts.length:=Ab ts j (by rw[h0];decide);intro w nd xs h AQ;have hO:=fun r hr=>QZ E htl L (j:=j) (by omega) (r:=r) hr;unfold Dj at hO;rw[AG (by rw[h0];decide),AL h0]at hO;rcases BG hr with⟨q,l,hx,hk⟩|⟨q,l,hx,rfl⟩
 .obtain⟨t,rfl,k1,k2,k3,_⟩:=C7 (by rfl) (by decide) (by decide) (q0:=j+1) hjl hx;have hw:WF t:=(LZ (AF ts) f 0 (j+1) [] (fun e=>by cases e) q _ hx).2 t Bl;rw[hx]at hO;by_cases h41:(AF ts).cl q=41
  .rw[AL h41]at hk;have hql:q<ts.length:=Ab ts q (by rw[h41];decide);have hB:=hO (true,q+1,[t]) (by show(if(AF ts).cl q=41 then C4 (q+1) [t]else Cp q)=_;rw[AL h41];rfl);have hrm:xs.length+(Az [t]).length+4*(5000- (q+1))<=100000:=by rw[BL];omega
   by_cases ha:(AF ts).cl (q+1)=8592
   .rw[AL ha]at hk;have hql1:q+1<ts.length:=Ab ts (q+1) (by rw[ha];decide);have hk':(if J8 t=true then F4 (Bh (AF ts) f) 23 0 E2 [t] (q+2)else Cp (q+1))=some r:=hk;by_cases hs:J8 t=true
    .rw[AL hs]at hk';exact ZA E h AQ (by omega) hw hB ha hs hrm (fun r hr=>L.x (q+1+1) r hql1 hr) (W9 hql1) htl hk'
    .rw[AG hs]at hk';cases hk';exact bK E h AQ (by omega) hw hB ha (by simpa using hs) hrm
   .rw[AG ha]at hk;exact WJ E h AQ (by omega) hB ha (al E htl L (by omega) hk) hrm
  .rw[AG h41]at hk;cases hk;exact TK h AQ (hO (false,q,[]) (by show(if(AF ts).cl q=41 then C4 (q+1) [t]else Cp q)=_;rw[AG h41];rfl))
 .rw[hx]at hO;exact TK h AQ (hO (false,q,[]) rfl)
def cm(E:BR Z ta tn ts AJ)(htl:ts.length<=4096){f:Nat}(L:Rg Z p ta tn tc ts AJ f)(hj:j<=ts.length){r:B1}(hr:Hz (AF ts) (Bh (AF ts) f) j=some r):BS Z p ta tn tc ts AJ 102 #[.pointer (some ⟨p,0,none⟩)] j r:=by
 intro w nd xs h AQ;unfold Hz at hr;by_cases c1:(AF ts).cl j=4/\(AF ts).cl (j+1)=8592
 .rw[AL c1]at hr;exact Y1 E h (by omega) AQ c1.1 c1.2 (ei E htl L c1.1 c1.2 hr)
 rw[AG c1]at hr;by_cases c2:(AF ts).cl j=3/\(AF ts).cl (j+1)=8592
 .rw[AL c2]at hr;have hl:j+1<ts.length:=Ab ts (j+1) (by rw[c2.2];decide);exact Yx E h (by omega) AQ c2.1 c2.2 (fun r hr=>L.x (j+2) r hl hr) (W9 hl) htl hr
 rw[AG c2]at hr;by_cases c3:(AF ts).cl j=3/\0<Ah ((AF ts).cl (j+1))/\(AF ts).cl (j+2)=8592
 .rw[AL c3]at hr;have hl:j+2<ts.length:=Ab ts (j+2) (by rw[c3.2.2];decide);exact Yy E h (by omega) AQ c3.1 c3.2.1 c3.2.2 (fun r hr=>L.x (j+3) r hl hr) (W9 hl) htl hr
 rw[AG c3]at hr;by_cases c4:(AF ts).cl j=3/\(AF ts).cl (j+1)=91/\LJ (AF ts) (j+1)=true
 .rw[AL c4]at hr;have hl:j+1<ts.length:=Ab ts (j+1) (by rw[c4.2.1];decide);exact Y2 E h (by omega) AQ c4.1 c4.2.1 (fun W hW=>by have:=RU E hW hl htl c4.2.1;rw[c4.2.2]at this;exact this) (fB E htl L c4.1 c4.2.1 hr)
 rw[AG c4]at hr;by_cases c5:(AF ts).cl j=40
 .rw[AL c5]at hr;exact az E h (by omega) AQ c5 (eO E htl L c5 hr)
 rw[AG c5]at hr;have hX:=L.x j r hj hr;by_cases d4:(AF ts).cl j=4
 .exact ax E h (by omega) AQ d4 (fun e=>c1 ⟨d4,e⟩) hX
 by_cases d3:(AF ts).cl j=3
 .by_cases ds:0<Ah ((AF ts).cl (j+1))
  .exact Y0 E h (by omega) AQ d3 ds (fun e=>c3 ⟨d3,ds,e⟩) hX
  by_cases d91:(AF ts).cl (j+1)=91
  .have hl:j+1<ts.length:=Ab ts (j+1) (by rw[d91];decide);have hb:LJ (AF ts) (j+1)=false:=by
    cases hv:LJ (AF ts) (j+1)with
    |false=>rfl
    |true=>exact absurd ⟨d3,d91,hv⟩ c4
   exact Yz E h (by omega) AQ d3 d91 (fun W hW=>by have:=RU E hW hl htl d91;rw[hb]at this;exact this) hX
  .exact ay E h (by omega) AQ d3 (fun e=>c2 ⟨d3,e⟩) (by omega) d91 hX
 exact cr E h (by omega) AQ d4 d3 c5 hX
def dd(E:BR Z ta tn ts AJ)(htl:ts.length<=4096){f:Nat}(L:Rg Z p ta tn tc ts AJ f)(hj:j<=ts.length){r:B1}(hr:Ix (AF ts) (Bh (AF ts) f) j=some r):BS Z p ta tn tc ts AJ 215 #[.pointer (some ⟨p,0,none⟩)] j r:=by
 intro w nd xs h AQ;unfold Ix at hr;rcases BG hr with⟨q,l,hx,hk⟩|⟨q,l,hx,rfl⟩
 .obtain⟨t,rfl,k1,k2,k3,_⟩:=C7 (by rfl) (by decide) (by decide) hj hx;have hw:WF t:=(LZ (AF ts) f 5 j [] (fun e=>by cases e) q _ hx).2 t Bl;have hrm:xs.length+(Az [t]).length+4*(5000- q)<=100000:=by rw[BL];omega
  have hO:=L.s j _ hj hx;have hk':(if FQ (C6 t)=true/\(AF ts).cl q=58 then F4 (Bh (AF ts) f) 24 0 E2 [t] (q+1)else C4 q [t])=some r:=hk;by_cases h1:FQ (C6 t)=true
  .by_cases h2:(AF ts).cl q=58
   .rw[AL ⟨h1,h2⟩]at hk';have hql:q<ts.length:=Ab ts q (by rw[h2];decide);exact Xl E h AQ (by omega) hw hO h1 h2 hrm (fun r hr=>L.x (q+1) r hql hr) (W9 hql) htl hk'
   .rw[AG (fun e=>h2 e.2)]at hk';cases hk';exact Zi E h AQ (by omega) hw hO h1 h2 hrm
  .rw[AG (fun e=>h1 e.1)]at hk';cases hk';exact Zh h AQ hw hO (by simpa using h1) hrm
 .exact Xn h AQ (L.s j _ hj hx)
def bd(E:BR Z ta tn ts AJ)(htl:ts.length<=4096):∀f,Rg Z p ta tn tc ts AJ f
 |0=>⟨fun _ _ _ h=>(by cases h),fun _ _ _ _ h=>(by cases h),fun _ _ _ h=>(by cases h),fun _ _ _ h=>(by cases h)⟩
 |f+1=>by
  have L:Rg Z p ta tn tc ts AJ f:=bd E htl f;refine⟨fun j r hj hr=> ?_,fun j r hj hc hr=> ?_,fun j r hj hr=> ?_,fun j r hj hr=> ?_⟩
  .rw[Bh,AL rfl]at hr;exact dw E htl L hj hr
  .rw[Bh,AG (by decide),AG (by decide),AG (by decide),AL rfl]at hr;exact fM E htl hj hc (fun r hr h1=>P4 E htl L h1 hr) hr
  .rw[Bh,AG (by decide),AG (by decide),AG (by decide),AG (by decide),AG (by decide),AL rfl]at hr;exact cm E htl L hj hr
  .rw[Bh,AG (by decide),AG (by decide),AG (by decide),AG (by decide),AG (by decide),AG (by decide),AL rfl]at hr;exact dd E htl L hj hr
end
section
variable {Z w w0 w1:World}{p i j q:Nat}{nd nd0 nd1 v:Value}{zs:List Int}{xs ys:List AW}{bx:List Nat}{ns:List AM}{ta:Option Addr}{tn tc:Nat}{ts:List CO}{b b' g:Bool}{t:List AM}
def KS.leaf(h:KS Z p ta tn tc w0 nd0 xs bx ns i b w nd v zs)(k n m:Int)(s:AE)(Ae:ns.length<=1048576):Calls prog 45 #[.pointer (some ⟨p,0,none⟩),.agg #[.int .i64 k,.int .i64 n,.int .i64 m,.string s,.slice none 0 0,.slice none 0 0]] w fun e w'=>e=.returned (.int .i64 (ns.length:Nat))/\∃nd',KS Z p ta tn tc w0 nd0 xs bx (ns++ [⟨k,n,m,s,[],[]⟩]) i b w' nd' v zs:=by
 obtain⟨ys,hm,hd,ho,hf,hx⟩:=h;have hl:(xs++ys).length=ns.length:=by rw[<-hd,AS]
 refine(bT Z p _ _ w i nd (xs++ys) hm.ps k n m s [] [] none none 0 0 0 0 ⟨Ed _ _,Ed _ _⟩ (fun k hk=>by simp[AW.blks,Value.ownBlock]at hk) (by simp[AW.blks,Value.ownBlock]) (by rw[hl];exact Ae)).mono ?_;rintro e w'⟨rfl,nd',hs,hb,ha⟩;have hu:Fa Z p ta tn tc b w nd (xs++ys) [⟨⟨k,n,m,s,[],[]⟩,.slice none 0 0,.slice none 0 0⟩] i w' nd':=by refine⟨hs,hb,ha,fun k hk=> ?_⟩;simp[Bm,AW.blks,Value.ownBlock]at hk
 have:=(Oe hm ho hf hx hu).1;rw[Ao,hd]at this;exact⟨by rw[hl],nd',this⟩
def KS.readY{f:Nat}{args:Array Value}(hR:BM Z p ta tn tc f args i true q t)(h:KS Z p ta tn tc w0 nd0 xs bx ns i false w nd v zs)(AQ:ns.length+4*(5000- i)<=100000):Calls prog f args w fun e w'=>∃ez:Nat,∃nd' ds,e=.returned (.int .i64 (ez:Nat))/\KS Z p ta tn tc w0 nd0 xs bx (ns++ds) q false w' nd' v zs/\Eh bx w w'/\i<=q/\ds.length+1<=4*(q- i)/\A0 (ns++ds) ez t:=by refine(h.read hR AQ).mono ?_;rintro e w'⟨z,nd',ds,rfl,hk,hs,hi,hl,ht⟩;obtain⟨hl1,ez,rfl,htt⟩:=ht rfl;exact⟨ez,nd',ds,rfl,hk,hs,hi,hl1,htt⟩
def eC(Z:World)(p:Nat)(ta:Option Addr)(tn tc:Nat)(w0:World)(nd0:Value)(xs:List AW)(i:Nat)(r:B1)(e:Ending)(w':World):Prop:=∃nd' ns' a c zs,e=.returned (.slice a zs.length c)/\KS Z p ta tn tc w0 nd0 xs [] ns' r.2.1 (!r.1) w' nd' (.slice a zs.length c) zs/\i<=r.2.1/\ns'.length+1<=xs.length+4*(r.2.1- i)/\zs.length<=r.2.1- i+1/\1<=zs.length/\(r.1=true->∃es,zs=Bv es/\Av ns' es r.2.2)
def Yg(Z:World)(p:Nat)(ta:Option Addr)(tn tc:Nat)(i:Nat)(r:B1):Prop:=∀w nd xs,EV Z p ta tn tc false w i nd xs->xs.length+4*(5000- i)<=100000->Calls prog 148 #[.pointer (some ⟨p,0,none⟩)] w (eC Z p ta tn tc w nd xs i r)
def gX(X:DN)(r:B1):Bool:=r.1&&IJ (X.cl r.2.1)
def GO(X:DN)(F f j:Nat)(ls:List (List AM)):Option B1:=A7 (D7 X 59 (QA X F) f j) fun q l=>if X.cl q=93 then C4 (q+1) (ls++l)else Cp q
def SV{X:DN}{F f j:Nat}{ls:List (List AM)}(h:X.cl j=59):GO X F (f+1) j ls=GO X F f (j+1) (ls++ [Ck 8 0 0]):=by
 unfold GO;rw[D7];unfold QA;rw[AL (.inl h)];show A7 (A7 (C4 j [Ck 8 0 0]) _) _=_;show A7 (if X.cl j=59 then _ else _) _=_;rw[AL h];cases hv:D7 X 59 (QA X F) f (j+1)with
 |none=>unfold QA at hv;rw[hv];rfl
 |some y=>
  unfold QA at hv;rw[hv];obtain⟨b,q,l⟩:=y;cases b with
  |false=>rfl
  |true=>show(if X.cl q=93 then C4 (q+1) (ls++([Ck 8 0 0]++l))else Cp q)=(if X.cl q=93 then C4 (q+1) (ls++ [Ck 8 0 0]++l)else Cp q);rw[Aj]
def Up{X:DN}{F f j:Nat}{ls:List (List AM)}(h:X.cl j=93):GO X F (f+1) j ls=C4 (j+1) (ls++ [Ck 8 0 0]):=by unfold GO;rw[D7];unfold QA;rw[AL (.inr h)];show A7 (if X.cl j=59 then _ else C4 j [Ck 8 0 0]) _=_;rw[AG (by omega)];show(if X.cl j=93 then C4 (j+1) (ls++ [Ck 8 0 0])else Cp j)=_;rw[AL h]
def XJ{X:DN}{F f j q:Nat}{l:List (List AM)}{ls:List (List AM)}(h1:X.cl j≠59)(h2:X.cl j≠93)(hx:Bh X F 0 j []=some (false,q,l)):GO X F (f+1) j ls=Cp q:=by unfold GO;rw[D7];unfold QA;rw[AG (by omega),hx];rfl
def Uo{X:DN}{F f j q:Nat}{t:List AM}{ls:List (List AM)}(h1:X.cl j≠59)(h2:X.cl j≠93)(hx:Bh X F 0 j []=some (true,q,[t]))(h:X.cl q=59):GO X F (f+1) j ls=GO X F f (q+1) (ls++ [t]):=by
 unfold GO;rw[D7];have e:QA X F j=some (true,q,[t]):=by unfold QA;rw[AG (by omega),hx]
 rw[e];show A7 (if X.cl q=59 then _ else _) _=_;rw[AL h];cases D7 X 59 (QA X F) f (q+1)with
 |none=>rfl
 |some y=>
  obtain⟨b,q2,l⟩:=y;cases b with
  |false=>rfl
  |true=>show(if X.cl q2=93 then C4 (q2+1) (ls++([t]++l))else Cp q2)=(if X.cl q2=93 then C4 (q2+1) (ls++ [t]++l)else Cp q2);rw[Aj]
def Qd{X:DN}{F f j q:Nat}{t:List AM}{ls:List (List AM)}(h1:X.cl j≠59)(h2:X.cl j≠93)(hx:Bh X F 0 j []=some (true,q,[t]))(h:X.cl q≠59):GO X F (f+1) j ls=if X.cl q=93 then C4 (q+1) (ls++ [t])else Cp q:=by
 unfold GO;rw[D7];have e:QA X F j=some (true,q,[t]):=by unfold QA;rw[AG (by omega),hx]
 rw[e];show A7 (if X.cl q=59 then _ else C4 q [t]) _=_;rw[AG h];rfl
def Ft(es:List Nat)(a:Nat):Bv es++ [(a:Int)]=Bv (es++ [a]):=by simp[Bv]
def SK(E:Bk Z ta tn ts)(htl:ts.length<=4096){F f0':Nat}(hX:∀j r,i<j->j<=ts.length->Bh (AF ts) F 0 j []=some r->BM Z p ta tn tc 94 #[.pointer (some ⟨p,0,none⟩)] j (gX (AF ts) r) r.2.1 (r.2.2.headD []))(h91:(AF ts).cl i=91){r:B1}(hr:GO (AF ts) F f0' (i+1) []=some r):Yg Z p ta tn tc i r:=by
 intro w nd xs h AQ;have hil:i<ts.length:=Ab ts i (by rw[h91];decide);obtain⟨i0,hi,hz0,hz1,hz2⟩:=info_parts Dt;have HK:=AB (KS.start h);have hxl:(xs.map AW.d).length=xs.length:=AS ..;obtain⟨NS,hNS⟩:∃NS,xs.map AW.d=NS:=⟨_,rfl⟩
 rw[hNS]at HK hxl;have HXL:=AB hxl;have HRD:=AB hX;have HT0:=AB hr;have HW1:=AB (Yn (i:=i) E (by omega) 91 Mh Mi h91);have HSG:=AB (fun(V:World)(n u:Value)(ns:List AM)(us:List Int)(j:Nat)(hj:j<=ts.length)(x:AE)(hx:Ej ts j=x)(hk:KS Z p ta tn tc w nd xs [] ns j false V n u us)=>hk.via (e0:=.returned (.string x)) fun _ hX=>(I9 E hX (z:=0) (j:=j) (by omega) (by omega)).mono fun _ _ h=>⟨by rw[h.1,hx],(BE.start hX).below h.2⟩);have HHY:=AB (fun(V:World)(n u:Value)(ns:List AM)(us:List Int)(j:Nat)(hj:j<=ts.length)(hc:(AF ts).cl j=59)(hk:KS Z p ta tn tc w nd xs [] ns j false V n u us)=>hk.via fun _ hX=>NT E hX (by omega) WX WY hc);have HHN:=AB (fun(V:World)(n u:Value)(ns:List AM)(us:List Int)(j:Nat)(hj:j<=ts.length)(hc:(AF ts).cl j≠59)(hk:KS Z p ta tn tc w nd xs [] ns j false V n u us)=>hk.via fun _ hX=>Qw E hX (by omega) WX WY hc);have HHB:=AB (fun(V:World)(n u:Value)(ns:List AM)(us:List Int)(j:Nat)(hk:KS Z p ta tn tc w nd xs [] ns j true V n u us)=>hk.via fun _ hX=>Pn hX ⟨#[59]⟩);have HWY:=AB (fun(V:World)(n u:Value)(ns:List AM)(us:List Int)(j:Nat)(hj:j<=ts.length)(hc:(AF ts).cl j=93)(hk:KS Z p ta tn tc w nd xs [] ns j false V n u us)=>hk.via fun _ hX=>Oz E hX (by omega) UT UU hc);have HWN:=AB (fun(V:World)(n u:Value)(ns:List AM)(us:List Int)(j:Nat)(hj:j<=ts.length)(hc:(AF ts).cl j≠93)(hk:KS Z p ta tn tc w nd xs [] ns j false V n u us)=>hk.via fun _ hX=>Rk E hX (by omega) UT UU hc);have HWB:=AB (fun(V:World)(n u:Value)(ns:List AM)(us:List Int)(j:Nat)(hk:KS Z p ta tn tc w nd xs [] ns j true V n u us)=>hk.via fun _ hX=>O0 hX ⟨#[93]⟩);have HSX:=AB (fun(j c:Nat)(hc:c∈Ar)(s:AE)(hs:s=BU (BW ((c:Nat):Int)))=>QJ E.ok j hc hs);obtain⟨p0,p1,p2,p3,f0,f1,f2,f3,hpl⟩:=h.all;have HK0:=AB ((AA HK).list [] (by show 0<=100;omega));clear h hxl hr hX h91 E HK;go_enter func148,ntmps148;go_wp2_with(go_at_call 144;refine(AA HW1 (AA HK0)).mono ?_;rintro e w4⟨rfl,hk,_⟩;have HK4:=AB hk;clear hk);go_loopw[3] (fun u wr=>∃(j f:Nat)(ns:List AM)(es:List Nat)(ls:List (List AM))(n:Value),j<=ts.length/\i+1<=j/\ns.length+4<=xs.length+4*(j- i)/\es.length<=j- i- 1/\Hid (GO (AF ts) F f j ls=some r)/\Hid (KS Z p ta tn tc w nd xs [] ns j false wr n u (Bv es))/\Hid (Av ns es ls)) (fun _ wr=>ts.length+1- Ym p wr);case atStart=>exact⟨i+1,f0',NS,[],[],nd,by omega,by omega,by have:=AA HXL;omega,by show 0<=_;omega,HT0,HK4,Av.nil⟩
 case round=>
  obtain⟨j,f,ns,es,ls,n,hj,hij,hnl,hel,HT,HKR,HTR⟩:=hrel;clear HK4 HK0 HT0 HW1;obtain⟨cs,hcs⟩:∃cs,Bv es=cs:=⟨_,rfl⟩
  rw[hcs]at HKR;have hpz:cs.length<=j- i- 1:=by rw[<-hcs,Bv,AS];exact hel
  have hpy:cs.length<=4096:=by omega
  have HCS:=AB hcs;clear hcs;obtain⟨u0,uc,rfl⟩:=(AA HKR).slice;have HPL:=AB (AA HKR).plc;have hzl:=(AA HKR).low.size;clear p0 p1 p2 p3 f1 f2 f3 hpl;obtain⟨p0,p1,p2,p3,g0,f1,f2,f3,hpl⟩:=(AA HKR).all;have HPUT:=AB (fun(V:World)(n:Value)(u:Value)(us:List Int)(hk:KS Z p ta tn tc w nd xs [] ns j false V n u us)=>hk.leaf 8 0 0 ⟨#[]⟩ (by omega));cases f with
  |zero=>exact absurd (AA HT) (by simp[GO,D7,A7])
  |succ f=>
   obtain⟨x,hx⟩:∃x,Ej ts j=x:=⟨_,rfl⟩
   have HS1:=AB (AA HSG _ _ _ _ _ j hj x hx (AA HKR));have HS2:=AB (fun(V:World)(n u:Value)(us:List Int)(hk:KS Z p ta tn tc w nd xs [] ns j false V n u us)=>AA HSG V n u ns us j hj x hx hk);have h59:=AA HSX j 59 (by decide) ⟨#[59]⟩ (by kernel_rfl);have h93:=AA HSX j 93 (by decide) ⟨#[93]⟩ (by kernel_rfl);rw[hx,show((⟨#[59]⟩:AE).toList)= [59] by kernel_rfl]at h59;rw[hx,show((⟨#[93]⟩:AE).toList)= [93] by kernel_rfl]at h93;clear hx HSX HSG;have hT:=AA HT;by_cases c59:(AF ts).cl j=59
   .rw[AK c59]at h59;rw[SV c59]at hT;have hjl:j<ts.length:=Ab ts j (by rw[c59];decide);have HT2:=AB hT;have HTT:Hid (Av (ns++ [⟨8,0,0,⟨#[]⟩,[],[]⟩]) (es++ [ns.length]) (ls++ [Ck 8 0 0])):=(AA HTR).mono.app (Av.one (Av.nil.put 8 0 0 ⟨#[]⟩ [] (Hg (by decide) (by decide) (by decide) _)));clear hT h93 HT HRD;go_wp2_with(first|(go_at_call 91;refine(AA HS1).mono ?_;rintro e w5⟨rfl,hk,_⟩;have HK5:=AB hk;clear hk)|(go_at_call 45;refine(AA HPUT _ _ _ _ (AA HK5)).mono ?_;rintro e w6⟨rfl,nd6,hk⟩;have HK6:=AB (hk.below (AI.alloc AC (.cells #[.int .i64 (ns.length:Nat)] 3)));have hzl6:=hk.low.size;clear hk)|(at_builtin;refine wpList_append_lies _ rfl _ _ 45 rfl Z.heap.size 3 i0 (.int .i64 0) 1 8 underlying45 hi hz0 hz1 hz2 rfl (by decide) _ _ _ rfl (AA HK6).ownR ⟨w6.heap.size,0,none⟩ 1 1 [.int .i64 (ns.length:Nat)] rfl rfl (Dy _ _) (GM _) (by omega) (by unfold maxLen;omega) (by omega) (by simp;omega) (w6.heap.size+1) (by simp) ?_;intro g' CW w7 A2 Au hat Cu;obtain⟨hk7,_⟩:=KS.grew (AA HK6) A2 Au hat (by simp);have HK7:=AB hk7;clear hk7 A2 Au hat Cu)|(go_at_call 44;refine(AA HHY _ _ _ _ _ j hj c59 (AA HK7)).mono ?_;rintro e w9⟨rfl,hk,_⟩;have HK9:=AB hk;have HP9:=AB hk.plc;clear hk));go_roundw;case rel=>exact⟨j+1,f,_,es++ [ns.length],ls++ [Ck 8 0 0],nd6,by omega,by omega,by rw[AH];show _+1+4<=_;omega,by rw[AH];show _+1<=_;omega,HT2,by show KS _ _ _ _ _ _ _ _ _ _ _ _ _ _ _ _;rw[<-Ft,AA HCS];exact AA HK9,HTT⟩
    case measure=>rw[AA HPL,AA HP9];omega
   .rw[AD c59]at h59;by_cases c93:(AF ts).cl j=93
    .rw[AK c93]at h93;rw[Up c93]at hT;have hr:(true,j+1,ls++ [Ck 8 0 0])=r:=by cases hT;rfl
     have HTT:Hid (Av (ns++ [⟨8,0,0,⟨#[]⟩,[],[]⟩]) (es++ [ns.length]) (ls++ [Ck 8 0 0])):=(AA HTR).mono.app (Av.one (Av.nil.put 8 0 0 ⟨#[]⟩ [] (Hg (by decide) (by decide) (by decide) _)));subst hr;clear hT HT HRD;go_wp2_with(first|(go_at_call 91;refine(AA HS1).mono ?_;clear HS1;rintro e w5⟨rfl,hk,_⟩;have HK5:=AB hk;clear hk)|(go_at_call 91;refine(AA HS2 _ _ _ _ (AA HK5)).mono ?_;clear HS2;rintro e w5⟨rfl,hk,_⟩;clear HK5;have HK5:=AB hk;clear hk)|(go_at_call 45;refine(AA HPUT _ _ _ _ (AA HK5)).mono ?_;rintro e w6⟨rfl,nd6,hk⟩;have HK6:=AB (hk.below (AI.alloc AC (.cells #[.int .i64 (ns.length:Nat)] 3)));have hzl6:=hk.low.size;clear hk)|(at_builtin;refine wpList_append_lies _ rfl _ _ 45 rfl Z.heap.size 3 i0 (.int .i64 0) 1 8 underlying45 hi hz0 hz1 hz2 rfl (by decide) _ _ _ rfl (AA HK6).ownR ⟨w6.heap.size,0,none⟩ 1 1 [.int .i64 (ns.length:Nat)] rfl rfl (Dy _ _) (GM _) (by omega) (by unfold maxLen;omega) (by omega) (by simp;omega) (w6.heap.size+1) (by simp) ?_;intro g' CW w7 A2 Au hat Cu;obtain⟨hk7,_⟩:=KS.grew (AA HK6) A2 Au hat (by simp);have HK7:=AB hk7;clear hk7 A2 Au hat Cu)|(go_at_call 44;refine(AA HHN _ _ _ _ _ j hj c59 (AA HK7)).mono ?_;rintro e w9⟨rfl,hk,_⟩;have HK9:=AB hk;clear hk)|(go_at_call 144;refine(AA HWY _ _ _ _ _ j hj c93 (AA HK9)).mono ?_;rintro e w10⟨rfl,hk,_⟩;have HK10:=AB hk;clear hk));go_ret;have hl1:(cs++ [((ns.length:Nat):Int)]).length=cs.length+1:=by rw[AH];rfl
     refine⟨_,_,_,_,cs++ [((ns.length:Nat):Int)],by rw[hl1];rfl,by rw[hl1];exact AA HK10,by show i<=j+1;omega,by rw[AH];show _+1+1<=_+4*(j+1- i);omega,by rw[hl1];show _<=j+1- i+1;omega,by rw[hl1];omega,fun _=>⟨es++ [ns.length],(by rw[<-AA HCS];exact Ft _ _),AA HTT⟩⟩
    .rw[AD c93]at h93;cases hv:Bh (AF ts) F 0 j []with
     |none=>
      exact absurd hT (by unfold GO;rw[D7];unfold QA;rw[AG (by omega),hv];intro h;cases h)
     |some y=>
      obtain⟨yb,q,l⟩:=y;have hrd:=AA HRD j _ (by omega) hj hv;have hadv:=Cc (Ab ts) F 0 j [] hj _ _ _ hv;have hql:q<=ts.length:=hadv.2.1;cases yb with
      |false=>
       rw[XJ c59 c93 hv]at hT;have hr:(false,q,[])=r:=by cases hT;rfl
       subst hr;have HR:=AB (fun(V:World)(n u:Value)(us:List Int)(hk:KS Z p ta tn tc w nd xs [] ns j false V n u us)=>hk.read (g:=false) hrd (by omega));clear hT HT HRD hv hrd hadv HPUT;go_wp2_with(first|(go_at_call 91;refine(AA HS1).mono ?_;clear HS1;rintro e w5⟨rfl,hk,_⟩;have HK5:=AB hk;clear hk)|(go_at_call 91;refine(AA HS2 _ _ _ _ (AA HK5)).mono ?_;clear HS2;rintro e w5⟨rfl,hk,_⟩;clear HK5;have HK5:=AB hk;clear hk)|(go_at_call 94;refine(AA HR _ _ _ _ (AA HK5)).mono ?_;rintro e w6⟨z,nd6,ds,rfl,hk,_,hiz,hlz,_⟩;have HIz:=AB hiz;have HLz:=AB hlz;have HK6:=AB (hk.below (AI.alloc AC (.cells #[.int .i64 z] 3)));have hzl6:=hk.low.size;clear hk hlz hiz)|(at_builtin;refine wpList_append_lies _ rfl _ _ 45 rfl Z.heap.size 3 i0 (.int .i64 0) 1 8 underlying45 hi hz0 hz1 hz2 rfl (by decide) _ _ _ rfl (AA HK6).ownR ⟨w6.heap.size,0,none⟩ 1 1 [.int .i64 z] rfl rfl (Dy _ _) (GM _) (by omega) (by unfold maxLen;omega) (by omega) (by simp;omega) (w6.heap.size+1) (by simp) ?_;intro g' CW w7 A2 Au hat Cu;obtain⟨hk7,_⟩:=KS.grew (AA HK6) A2 Au hat (by simp);have HK7:=AB hk7;clear hk7 A2 Au hat Cu)|(go_at_call 44;refine(AA HHB _ _ _ _ _ q (AA HK7)).mono ?_;rintro e w9⟨rfl,hk,_⟩;have HK9:=AB hk;clear hk)|(go_at_call 144;refine(AA HWB _ _ _ _ _ q (AA HK9)).mono ?_;rintro e w10⟨rfl,hk,_⟩;have HK10:=AB hk;clear hk));go_ret;have hl1:(cs++ [z]).length=cs.length+1:=by rw[AH];rfl
       have hLz:=AA HLz;have hIz:j<=q:=AA HIz;refine⟨_,_,_,_,cs++ [z],by rw[hl1];rfl,by rw[hl1];exact AA HK10,by show i<=q;omega,by rw[AH];have hLz':ds.length<=4*(q- j):=hLz;show _+_+1<=_+4*(q- i);omega,by rw[hl1];show _<=q- i+1;omega,by rw[hl1];omega,fun h=>by cases h⟩
      |true=>
       obtain⟨t,rfl,_,hq2,hq3,_⟩:=C7 (by rfl) (by decide) (by decide) hj hv;by_cases ce:IJ ((AF ts).cl q)=true;case neg=>
        have ce':IJ ((AF ts).cl q)=false:=by simpa using ce
        have n59:(AF ts).cl q≠59:=fun e=>by rw[e]at ce';exact absurd ce' (by decide)
        have n93:(AF ts).cl q≠93:=fun e=>by rw[e]at ce';exact absurd ce' (by decide)
        rw[Qd c59 c93 hv n59,AG n93]at hT;have hr:(false,q,[])=r:=by cases hT;rfl
        subst hr;have e1:gX (AF ts) (true,q,[t])=false:=by show(true&&IJ ((AF ts).cl q))=false;rw[ce'];rfl
        rw[e1]at hrd;have HR:=AB (fun(V:World)(n u:Value)(us:List Int)(hk:KS Z p ta tn tc w nd xs [] ns j false V n u us)=>hk.read (g:=false) hrd (by omega));clear hT HT HRD hv hrd hadv HPUT e1;go_wp2_with(first|(go_at_call 91;refine(AA HS1).mono ?_;clear HS1;rintro e w5⟨rfl,hk,_⟩;have HK5:=AB hk;clear hk)|(go_at_call 91;refine(AA HS2 _ _ _ _ (AA HK5)).mono ?_;clear HS2;rintro e w5⟨rfl,hk,_⟩;clear HK5;have HK5:=AB hk;clear hk)|(go_at_call 94;refine(AA HR _ _ _ _ (AA HK5)).mono ?_;rintro e w6⟨z,nd6,ds,rfl,hk,_,hiz,hlz,_⟩;have HIz:=AB hiz;have HLz:=AB hlz;have HK6:=AB (hk.below (AI.alloc AC (.cells #[.int .i64 z] 3)));have hzl6:=hk.low.size;clear hk hlz hiz)|(at_builtin;refine wpList_append_lies _ rfl _ _ 45 rfl Z.heap.size 3 i0 (.int .i64 0) 1 8 underlying45 hi hz0 hz1 hz2 rfl (by decide) _ _ _ rfl (AA HK6).ownR ⟨w6.heap.size,0,none⟩ 1 1 [.int .i64 z] rfl rfl (Dy _ _) (GM _) (by omega) (by unfold maxLen;omega) (by omega) (by simp;omega) (w6.heap.size+1) (by simp) ?_;intro g' CW w7 A2 Au hat Cu;obtain⟨hk7,_⟩:=KS.grew (AA HK6) A2 Au hat (by simp);have HK7:=AB hk7;clear hk7 A2 Au hat Cu)|(go_at_call 44;refine(AA HHB _ _ _ _ _ q (AA HK7)).mono ?_;rintro e w9⟨rfl,hk,_⟩;have HK9:=AB hk;clear hk)|(go_at_call 144;refine(AA HWB _ _ _ _ _ q (AA HK9)).mono ?_;rintro e w10⟨rfl,hk,_⟩;have HK10:=AB hk;clear hk));go_ret;have hl1:(cs++ [z]).length=cs.length+1:=by rw[AH];rfl
        have hLz:=AA HLz;have hIz:j<=q:=AA HIz;refine⟨_,_,_,_,cs++ [z],by rw[hl1];rfl,by rw[hl1];exact AA HK10,by show i<=q;omega,by rw[AH];have hLz':ds.length<=4*(q- j):=hLz;show _+_+1<=_+4*(q- i);omega,by rw[hl1];show _<=q- i+1;omega,by rw[hl1];omega,fun h=>by cases h⟩
       case pos=>
        have e1:gX (AF ts) (true,q,[t])=true:=by show(true&&IJ ((AF ts).cl q))=true;rw[ce];rfl
        rw[e1]at hrd;have HR:=AB (fun(V:World)(n u:Value)(us:List Int)(hk:KS Z p ta tn tc w nd xs [] ns j false V n u us)=>hk.readY hrd (by omega));clear e1 hrd hadv HPUT HRD;by_cases d59:(AF ts).cl q=59
        .rw[Uo c59 c93 hv d59]at hT;have hql':q<ts.length:=Ab ts q (by rw[d59];decide);have HT2:=AB hT;clear hT HT hv;go_wp2_with(first|(go_at_call 91;refine(AA HS1).mono ?_;clear HS1;rintro e w5⟨rfl,hk,_⟩;have HK5:=AB hk;clear hk)|(go_at_call 91;refine(AA HS2 _ _ _ _ (AA HK5)).mono ?_;clear HS2;rintro e w5⟨rfl,hk,_⟩;clear HK5;have HK5:=AB hk;clear hk)|(go_at_call 94;refine(AA HR _ _ _ _ (AA HK5)).mono ?_;rintro e w6⟨ez,nd6,ds,rfl,hk,_,_,hlz,htz⟩;have HTz:=AB htz;have HLz:=AB hlz;have HK6:=AB (hk.below (AI.alloc AC (.cells #[.int .i64 (ez:Nat)] 3)));have hzl6:=hk.low.size;clear hk hlz htz)|(at_builtin;refine wpList_append_lies _ rfl _ _ 45 rfl Z.heap.size 3 i0 (.int .i64 0) 1 8 underlying45 hi hz0 hz1 hz2 rfl (by decide) _ _ _ rfl (AA HK6).ownR ⟨w6.heap.size,0,none⟩ 1 1 [.int .i64 (ez:Nat)] rfl rfl (Dy _ _) (GM _) (by omega) (by unfold maxLen;omega) (by omega) (by simp;omega) (w6.heap.size+1) (by simp) ?_;intro g' CW w7 A2 Au hat Cu;obtain⟨hk7,_⟩:=KS.grew (AA HK6) A2 Au hat (by simp);have HK7:=AB hk7;clear hk7 A2 Au hat Cu)|(go_at_call 44;refine(AA HHY _ _ _ _ _ q hql d59 (AA HK7)).mono ?_;rintro e w9⟨rfl,hk,_⟩;have HK9:=AB hk;have HP9:=AB hk.plc;clear hk));go_roundw;case rel=>exact⟨q+1,f,_,es++ [ez],ls++ [t],nd6,by omega,by omega,by rw[AH];have:=AA HLz;omega,by rw[AH];show _+1<=_;omega,HT2,by show KS _ _ _ _ _ _ _ _ _ _ _ _ _ _ _ _;rw[<-Ft,AA HCS];exact AA HK9,(AA HTR).mono.app (Av.one (AA HTz))⟩
         case measure=>rw[AA HPL,AA HP9];omega
        .rw[Qd c59 c93 hv d59]at hT;by_cases d93:(AF ts).cl q=93
         .rw[AL d93]at hT;have hr:(true,q+1,ls++ [t])=r:=by cases hT;rfl
          subst hr;clear hT HT hv;go_wp2_with(first|(go_at_call 91;refine(AA HS1).mono ?_;clear HS1;rintro e w5⟨rfl,hk,_⟩;have HK5:=AB hk;clear hk)|(go_at_call 91;refine(AA HS2 _ _ _ _ (AA HK5)).mono ?_;clear HS2;rintro e w5⟨rfl,hk,_⟩;clear HK5;have HK5:=AB hk;clear hk)|(go_at_call 94;refine(AA HR _ _ _ _ (AA HK5)).mono ?_;rintro e w6⟨ez,nd6,ds,rfl,hk,_,_,hlz,htz⟩;have HTz:=AB htz;have HLz:=AB hlz;have HK6:=AB (hk.below (AI.alloc AC (.cells #[.int .i64 (ez:Nat)] 3)));have hzl6:=hk.low.size;clear hk hlz htz)|(at_builtin;refine wpList_append_lies _ rfl _ _ 45 rfl Z.heap.size 3 i0 (.int .i64 0) 1 8 underlying45 hi hz0 hz1 hz2 rfl (by decide) _ _ _ rfl (AA HK6).ownR ⟨w6.heap.size,0,none⟩ 1 1 [.int .i64 (ez:Nat)] rfl rfl (Dy _ _) (GM _) (by omega) (by unfold maxLen;omega) (by omega) (by simp;omega) (w6.heap.size+1) (by simp) ?_;intro g' CW w7 A2 Au hat Cu;obtain⟨hk7,_⟩:=KS.grew (AA HK6) A2 Au hat (by simp);have HK7:=AB hk7;clear hk7 A2 Au hat Cu)|(go_at_call 44;refine(AA HHN _ _ _ _ _ q hql d59 (AA HK7)).mono ?_;rintro e w9⟨rfl,hk,_⟩;have HK9:=AB hk;clear hk)|(go_at_call 144;refine(AA HWY _ _ _ _ _ q hql d93 (AA HK9)).mono ?_;rintro e w10⟨rfl,hk,_⟩;have HK10:=AB hk;clear hk));go_ret;have hl1:(cs++ [((ez:Nat):Int)]).length=cs.length+1:=by rw[AH];rfl
          have hLz:=AA HLz;refine⟨_,_,_,_,cs++ [((ez:Nat):Int)],by rw[hl1];rfl,by rw[hl1];exact AA HK10,by show i<=q+1;omega,by rw[AH];show _+_+1<=_+4*(q+1- i);omega,by rw[hl1];show _<=q+1- i+1;omega,by rw[hl1];omega,fun _=>⟨es++ [ez],(by rw[<-AA HCS];exact Ft _ _),(AA HTR).mono.app (Av.one (AA HTz))⟩⟩
         .rw[AG d93]at hT;have hr:(false,q,[])=r:=by cases hT;rfl
          subst hr;clear hT HT hv;go_wp2_with(first|(go_at_call 91;refine(AA HS1).mono ?_;clear HS1;rintro e w5⟨rfl,hk,_⟩;have HK5:=AB hk;clear hk)|(go_at_call 91;refine(AA HS2 _ _ _ _ (AA HK5)).mono ?_;clear HS2;rintro e w5⟨rfl,hk,_⟩;clear HK5;have HK5:=AB hk;clear hk)|(go_at_call 94;refine(AA HR _ _ _ _ (AA HK5)).mono ?_;rintro e w6⟨ez,nd6,ds,rfl,hk,_,_,hlz,htz⟩;have HTz:=AB htz;have HLz:=AB hlz;have HK6:=AB (hk.below (AI.alloc AC (.cells #[.int .i64 (ez:Nat)] 3)));have hzl6:=hk.low.size;clear hk hlz htz)|(at_builtin;refine wpList_append_lies _ rfl _ _ 45 rfl Z.heap.size 3 i0 (.int .i64 0) 1 8 underlying45 hi hz0 hz1 hz2 rfl (by decide) _ _ _ rfl (AA HK6).ownR ⟨w6.heap.size,0,none⟩ 1 1 [.int .i64 (ez:Nat)] rfl rfl (Dy _ _) (GM _) (by omega) (by unfold maxLen;omega) (by omega) (by simp;omega) (w6.heap.size+1) (by simp) ?_;intro g' CW w7 A2 Au hat Cu;obtain⟨hk7,_⟩:=KS.grew (AA HK6) A2 Au hat (by simp);have HK7:=AB hk7;clear hk7 A2 Au hat Cu)|(go_at_call 44;refine(AA HHN _ _ _ _ _ q hql d59 (AA HK7)).mono ?_;rintro e w9⟨rfl,hk,_⟩;have HK9:=AB hk;clear hk)|(go_at_call 144;refine(AA HWN _ _ _ _ _ q hql d93 (AA HK9)).mono ?_;rintro e w10⟨rfl,hk,_⟩;have HK10:=AB hk;clear hk));go_ret;have hl1:(cs++ [((ez:Nat):Int)]).length=cs.length+1:=by rw[AH];rfl
          have hLz:=AA HLz;refine⟨_,_,_,_,cs++ [((ez:Nat):Int)],by rw[hl1];rfl,by rw[hl1];exact AA HK10,by show i<=q;omega,by rw[AH];show _+_+1<=_+4*(q- i);omega,by rw[hl1];show _<=q- i+1;omega,by rw[hl1];omega,fun h=>by cases h⟩
end
section
variable {Z w w0 w1:World}{p i j q:Nat}{nd nd0 nd1 v:Value}{zs:List Int}{xs ys:List AW}{bx:List Nat}{ns:List AM}{ta:Option Addr}{tn tc:Nat}{ts:List CO}{b b' g:Bool}{t:List AM}
def KS.gaveT{ez:Nat}(h:KS Z p ta tn tc w0 nd0 xs bx ns q false w nd v zs)(hiq:i<=q)(hl:ns.length+1<=xs.length+4*(q- i))(ht:A0 ns ez t):Bf Z p ta tn tc w0 nd0 xs i true q t (.returned (.int .i64 (ez:Nat))) w:=KS.gave (g:=true) h rfl hiq (by omega) fun _=>⟨hl,ez,rfl,ht⟩
def Cw{NS:List AM}{zs1:List Int}{m:Nat}(hm:m=NS.length)(k n:Int)(s:AE){es:List Nat}{ls:List (List AM)}(h:KS Z p ta tn tc w0 nd0 xs bx (NS++ [⟨k,n,0,s,[],zs⟩]) q (!g) w nd v zs1)(hiq:i<=q)(hl:NS.length+1<=xs.length+4*(q- i))(ht:g=true->NS.length+1+1<=xs.length+4*(q- i)/\zs=Bv es/\Av NS es ls)(hc:I0 k ls.length):Bf Z p ta tn tc w0 nd0 xs i g q (Ay k n 0 s [] ls) (.returned (.int .i64 (m:Nat))) w:=by subst hm;refine KS.gave h rfl hiq (by rw[AH];show _+1<=_;omega) fun hg=> ?_;obtain⟨h1,h2,h3⟩:=ht hg;rw[h2];exact⟨by rw[AH];show _+1+1<=_;omega,NS.length,rfl,h3.put k n 0 s [] hc⟩
def LK(Z:World)(p:Nat)(ta:Option Addr)(tn tc:Nat)(i:Nat)(t0:List AM)(g:Bool)(q:Nat)(t:List AM):Prop:=∀w nd xs(ez:Nat),EV Z p ta tn tc false w i nd xs->xs.length+4*(5000- i)<=100000->A0 (xs.map AW.d) ez t0->Calls prog 97 #[.pointer (some ⟨p,0,none⟩),.int .i64 (ez:Nat)] w fun e w'=>∃z nd' ds,e=.returned (.int .i64 z)/\KS Z p ta tn tc w nd xs [] (xs.map AW.d++ds) q (!g) w' nd' A3 []/\i<=q/\ds.length<=4*(q- i)/\(g=true->∃e':Nat,z=e'/\A0 (xs.map AW.d++ds) e' t)
def KS.rest{t0:List AM}{ez:Nat}(hR:LK Z p ta tn tc i t0 g q t)(h:KS Z p ta tn tc w0 nd0 xs bx ns i false w nd v zs)(AQ:ns.length+4*(5000- i)<=100000)(ht:A0 ns ez t0):Calls prog 97 #[.pointer (some ⟨p,0,none⟩),.int .i64 (ez:Nat)] w fun e w'=>∃z nd' ds,e=.returned (.int .i64 z)/\KS Z p ta tn tc w0 nd0 xs bx (ns++ds) q (!g) w' nd' v zs/\i<=q/\ds.length<=4*(q- i)/\(g=true->∃e':Nat,z=e'/\A0 (ns++ds) e' t):=by
 obtain⟨ys,hm,hd,ho,hf,hx⟩:=h;have hl:(xs++ys).length=ns.length:=by rw[<-hd,AS]
 refine(hR w nd (xs++ys) ez hm.ps (by rw[hl];exact AQ) (by rw[hd];exact ht)).mono ?_;rintro e w'⟨z,nd',ds,rfl,⟨us,hm',hd',_⟩,hiq,hln,htt⟩;have e1:us.map AW.d=ds:=by rw[Ao]at hd';exact List.append_cancel_left hd'
 have:=Oe hm ho hf hx hm';rw[Ao,hd,e1]at this;rw[hd]at htt;exact⟨z,nd',ds,rfl,this.1,hiq,hln,htt⟩
def Wf(h:EV Z p ta tn tc true w i nd xs)(z:Int):Calls prog 97 #[.pointer (some ⟨p,0,none⟩),.int .i64 z] w fun e w'=>e=.returned (.int .i64 z)/\Fa Z p ta tn tc true w nd xs [] i w' nd:=by have HM:Hid (Fa Z p ta tn tc true w nd xs [] i w nd):=BE.start h;obtain⟨p0,p1,p2,p3,f0,f1,f2,f3,hpl⟩:=h.all;clear h;go_enter func97,ntmps97;go_wp2_with fail;go_ret;exact⟨rfl,AA HM⟩
def Wd(E:Bk Z ta tn ts)(h:EV Z p ta tn tc false w i nd xs)(hi:i<=4100)(AQ:xs.length+4*(5000- i)<=100000){ez:Nat}(h0:IJ ((AF ts).cl i)=true):Calls prog 97 #[.pointer (some ⟨p,0,none⟩),.int .i64 (ez:Nat)] w (fun e w'=>e=.returned (.int .i64 (ez:Nat))/\KS Z p ta tn tc w nd xs [] (xs.map AW.d) i false w' nd A3 []):=by obtain⟨NS,HK,HXL,hxl,hxm,hNS,p0,p1,p2,p3,f0,f1,f2,f3,hpl⟩:=Hp E h hi AQ;rw[hNS];have K1:=AB (eX (i:=i) E (by omega) (r:=true) h0);clear h hxl hxm h0 E;go_enter func97,ntmps97;go_wp2_with(first|(go_at_call 150;refine(AA K1 (AA HK)).mono ?_;clear K1;rintro e w5⟨rfl,hk,_⟩;replace HK:=AB hk;clear hk));go_ret;exact⟨rfl,AA HK⟩
def OR(E:Bk Z ta tn ts)(h:EV Z p ta tn tc false w i nd xs)(hi:i<=4100)(AQ:xs.length+4*(5000- i)<=100000){ez:Nat}(h0:IJ ((AF ts).cl i)=false)(hR:BM Z p ta tn tc 146 #[.pointer (some ⟨p,0,none⟩)] i false q t):Calls prog 97 #[.pointer (some ⟨p,0,none⟩),.int .i64 (ez:Nat)] w (Bf Z p ta tn tc w nd xs i false (q) ([])):=by obtain⟨NS,HK,HXL,hxl,hxm,hNS,p0,p1,p2,p3,f0,f1,f2,f3,hpl⟩:=Hp E h hi AQ;have K1:=AB (eX (i:=i) E (by omega) (r:=false) h0);have K2:=AB (fun(V:World)(n:Value)(hk:KS Z p ta tn tc w nd xs [] NS i false V n A3 [])=>hk.read (hR) (by omega));clear h hxl hxm h0 hR E;go_enter func97,ntmps97;go_wp2_with(first|(go_at_call 150;refine(AA K1 (AA HK)).mono ?_;clear K1;rintro e w5⟨rfl,hk,_⟩;replace HK:=AB hk;clear hk)|(go_at_call 146;refine(AA K2 _ _ (AA HK)).mono ?_;clear K2;rintro e w5⟨z,nd5,ds,rfl,hk,_,hiz,hlz,htz⟩;clear HK;have HIz:=AB hiz;have HLz:=AB hlz;have HTz:=AB htz;clear hiz hlz htz;obtain⟨p0,p1,p2,p3,f0,f1,f2,f3,hpl⟩:=hk.all;have HK:=AB hk;clear hk));go_ret;have hxl:=AA HXL;exact DB (by rw[AH,hxl];have:=AA HLz;omega) (AA HK) (AA HIz) _
def TS(E:Bk Z ta tn ts)(h:EV Z p ta tn tc false w i nd xs)(hi:i<=4100)(AQ:xs.length+4*(5000- i)<=100000){ez q2:Nat}{t1 t2:List AM}(ht:A0 (xs.map AW.d) ez t)(h0:IJ ((AF ts).cl i)=false)(hq4:q<=4100)(hq42:q2<=4100)(hR:BM Z p ta tn tc 146 #[.pointer (some ⟨p,0,none⟩)] i true q t1)(hR2:BM Z p ta tn tc 94 #[.pointer (some ⟨p,0,none⟩)] q g q2 t2):Calls prog 97 #[.pointer (some ⟨p,0,none⟩),.int .i64 (ez:Nat)] w (Bf Z p ta tn tc w nd xs i g (q2) (Ay 10 0 0 ⟨#[]⟩ [] [t,t1,t2])):=by
 obtain⟨NS,HK,HXL,hxl,hxm,hNS,p0,p1,p2,p3,f0,f1,f2,f3,hpl⟩:=Hp E h hi AQ;rw[hNS]at ht;have HT0:=AB ht;have K1:=AB (eX (i:=i) E (by omega) (r:=false) h0);have K2:=AB (fun(V:World)(n:Value)(hk:KS Z p ta tn tc w nd xs [] NS i false V n A3 [])=>hk.readY hR (by omega));have K3:=AB (fun(V:World)(n:Value)(ds:List AM)(hlends:ds.length+1<=4*(q- i))(hk:KS Z p ta tn tc w nd xs [] (NS++ds) q false V n A3 [])=>hk.read hR2 (by rw[AH];omega));have K4:=AB (fun(V:World)(n:Value)(ds:List AM)(ds2:List AM)(a:Option Addr)(c l:Nat)(zs:List Int)(Ae:((NS++ds)++ds2).length<=1048576)(hk:KS Z p ta tn tc w nd xs [] ((NS++ds)++ds2) q2 (!g) V n (.slice a l c) zs)=>(hk.put 10 0 0 ⟨#[]⟩ Ae).mono fun _ _ h=>(⟨_,rfl,h⟩:∃m:Nat,m=_/\_=Ending.returned (.int .i64 (m:Nat))/\_));clear h hxl hxm h0 ht hR hR2 E;go_enter func97,ntmps97;go_wp2_with(first|(go_at_call 150;refine(AA K1 (AA HK)).mono ?_;clear K1;rintro e w5⟨rfl,hk,_⟩;replace HK:=AB hk;clear hk)|(go_at_call 146;refine(AA K2 _ _ (AA HK)).mono ?_;clear K2;rintro e w5⟨ez1,nd5,ds,rfl,hk,_,B7,B6,B4⟩;clear HK;have HIez1:=AB B7;have HLez1:=AB B6;have HTez1:=AB B4;clear B7 B6 B4;obtain⟨p0,p1,p2,p3,f0,f1,f2,f3,hpl⟩:=hk.all;have HK:=AB hk;clear hk)|(go_at_call 94;refine(AA K3 _ _ _ (AA HLez1) (AA HK)).mono ?_;clear K3;rintro e w5⟨z2,nd5,ds2,rfl,hk,_,Hb,Ha,G9⟩;clear HK;have HIz2:=AB Hb;have HLz2:=AB Ha;have HTz2:=AB G9;clear Hb Ha G9;have HK:=AB hk;clear hk)|(go_at_call 45;have hk2:=(AA HK).list [((ez:Nat):Int),((ez1:Nat):Int),z2] (by simp);refine(AA K4 _ _ _ _ _ _ _ _ (by have h1:=AA HLez1;have h2:=AA HLz2;have h3:=AA HIez1;have h4:=AA HIz2;have h5:=AA HXL;rw[AH,AH];omega) hk2).mono ?_;clear K4 hk2;rintro e w6⟨m,hm,rfl,nd6,hk⟩;have HM:=AB hm;replace HK:=AB hk;clear hk hm));go_ret;have hxl:=AA HXL;have h1:=AA HLez1;have h2:=AA HLz2;have h3:=AA HIez1;have h4:=AA HIz2;have h6:=AA HTz2;have h7:=AA HTez1;have h8:=AA HT0;have hNl:((NS++ds)++ds2).length=NS.length+ds.length+ds2.length:=by rw[AH,AH]
 cases g with
 |false=>exact Cw (i:=i) (AA HM) (g:=false) (es:= []) (ls:= [t,t1,t2]) 10 0 ⟨#[]⟩ (AA HK) (by omega) (by rw[hNl];omega) (fun h=>by cases h) ⟨fun e=>by simp at e,fun e=>by simp at e,fun _=>by simp⟩
 |true=>
  obtain⟨h9,e2,rfl,h10⟩:=h6 rfl;exact Cw (i:=i) (AA HM) (g:=true) (es:= [ez,ez1,e2]) (ls:= [t,t1,t2]) 10 0 ⟨#[]⟩ (AA HK) (by omega) (by rw[hNl];omega) (fun _=>⟨by rw[hNl];omega,rfl,Av.cons h8.mono.mono (Av.cons h7.mono (Av.one h10))⟩) ⟨fun e=>by simp at e,fun e=>by simp at e,fun _=>by simp⟩
def Tq(E:Bk Z ta tn ts)(h:EV Z p ta tn tc false w i nd xs)(hi:i<=4100)(AQ:xs.length+4*(5000- i)<=100000)(h0:Eg ((AF ts).cl i)=false)(hR:BM Z p ta tn tc 146 #[.pointer (some ⟨p,0,none⟩)] i false q t):Calls prog 94 #[.pointer (some ⟨p,0,none⟩)] w (Bf Z p ta tn tc w nd xs i false (q) ([])):=by obtain⟨NS,HK,HXL,hxl,hxm,hNS,p0,p1,p2,p3,f0,f1,f2,f3,hpl⟩:=Hp E h hi AQ;have K1:=AB (Og (i:=i) E (by omega) (r:=false) h0);have K2:=AB (fun(V:World)(n:Value)(hk:KS Z p ta tn tc w nd xs [] NS i false V n A3 [])=>hk.read (hR) (by omega));clear h hxl hxm h0 hR E;go_enter func94,ntmps94;go_wp2_with(first|(go_at_call 93;refine(AA K1 (AA HK)).mono ?_;clear K1;rintro e w5⟨rfl,hk,_⟩;replace HK:=AB hk;clear hk)|(go_at_call 146;refine(AA K2 _ _ (AA HK)).mono ?_;clear K2;rintro e w5⟨z,nd5,ds,rfl,hk,_,hiz,hlz,htz⟩;clear HK;have HIz:=AB hiz;have HLz:=AB hlz;have HTz:=AB htz;clear hiz hlz htz;obtain⟨p0,p1,p2,p3,f0,f1,f2,f3,hpl⟩:=hk.all;have HK:=AB hk;clear hk));go_ret;have hxl:=AA HXL;exact DB (by rw[AH,hxl];have:=AA HLz;omega) (AA HK) (AA HIz) _
def YF(E:Bk Z ta tn ts)(h:EV Z p ta tn tc false w i nd xs)(hi:i<=4100)(AQ:xs.length+4*(5000- i)<=100000){q2:Nat}{t1 t2:List AM}(h0:Eg ((AF ts).cl i)=false)(hq4:q<=4100)(hq42:q2<=4100)(hR:BM Z p ta tn tc 146 #[.pointer (some ⟨p,0,none⟩)] i true q t1)(hR2:BM Z p ta tn tc 94 #[.pointer (some ⟨p,0,none⟩)] q g q2 t2):Calls prog 94 #[.pointer (some ⟨p,0,none⟩)] w (Bf Z p ta tn tc w nd xs i g (q2) (Ay 9 0 0 ⟨#[]⟩ [] [t1,t2])):=by
 obtain⟨NS,HK,HXL,hxl,hxm,hNS,p0,p1,p2,p3,f0,f1,f2,f3,hpl⟩:=Hp E h hi AQ;have K1:=AB (Og (i:=i) E (by omega) (r:=false) h0);have K2:=AB (fun(V:World)(n:Value)(hk:KS Z p ta tn tc w nd xs [] NS i false V n A3 [])=>hk.readY hR (by omega));have K3:=AB (fun(V:World)(n:Value)(ds:List AM)(hlends:ds.length+1<=4*(q- i))(hk:KS Z p ta tn tc w nd xs [] (NS++ds) q false V n A3 [])=>hk.read hR2 (by rw[AH];omega));have K4:=AB (fun(V:World)(n:Value)(ds:List AM)(ds2:List AM)(a:Option Addr)(c l:Nat)(zs:List Int)(Ae:((NS++ds)++ds2).length<=1048576)(hk:KS Z p ta tn tc w nd xs [] ((NS++ds)++ds2) q2 (!g) V n (.slice a l c) zs)=>(hk.put 9 0 0 ⟨#[]⟩ Ae).mono fun _ _ h=>(⟨_,rfl,h⟩:∃m:Nat,m=_/\_=Ending.returned (.int .i64 (m:Nat))/\_));clear h hxl hxm h0 hR hR2 E;go_enter func94,ntmps94;go_wp2_with(first|(go_at_call 93;refine(AA K1 (AA HK)).mono ?_;clear K1;rintro e w5⟨rfl,hk,_⟩;replace HK:=AB hk;clear hk)|(go_at_call 146;refine(AA K2 _ _ (AA HK)).mono ?_;clear K2;rintro e w5⟨ez1,nd5,ds,rfl,hk,_,B7,B6,B4⟩;clear HK;have HIez1:=AB B7;have HLez1:=AB B6;have HTez1:=AB B4;clear B7 B6 B4;obtain⟨p0,p1,p2,p3,f0,f1,f2,f3,hpl⟩:=hk.all;have HK:=AB hk;clear hk)|(go_at_call 94;refine(AA K3 _ _ _ (AA HLez1) (AA HK)).mono ?_;clear K3;rintro e w5⟨z2,nd5,ds2,rfl,hk,_,Hb,Ha,G9⟩;clear HK;have HIz2:=AB Hb;have HLz2:=AB Ha;have HTz2:=AB G9;clear Hb Ha G9;have HK:=AB hk;clear hk)|(go_at_call 45;have hk2:=(AA HK).list [((ez1:Nat):Int),z2] (by simp);refine(AA K4 _ _ _ _ _ _ _ _ (by have h1:=AA HLez1;have h2:=AA HLz2;have h3:=AA HIez1;have h4:=AA HIz2;have h5:=AA HXL;rw[AH,AH];omega) hk2).mono ?_;clear K4 hk2;rintro e w6⟨m,hm,rfl,nd6,hk⟩;have HM:=AB hm;replace HK:=AB hk;clear hk hm));go_ret;have hxl:=AA HXL;have h1:=AA HLez1;have h2:=AA HLz2;have h3:=AA HIez1;have h4:=AA HIz2;have h6:=AA HTz2;have h7:=AA HTez1;have hNl:((NS++ds)++ds2).length=NS.length+ds.length+ds2.length:=by rw[AH,AH]
 cases g with
 |false=>exact Cw (i:=i) (AA HM) (g:=false) (es:= []) (ls:= [t1,t2]) 9 0 ⟨#[]⟩ (AA HK) (by omega) (by rw[hNl];omega) (fun h=>by cases h) ⟨fun e=>by simp at e,fun _=>by simp,fun e=>by simp at e⟩
 |true=>
  obtain⟨h9,e2,rfl,h10⟩:=h6 rfl;exact Cw (i:=i) (AA HM) (g:=true) (es:= [ez1,e2]) (ls:= [t1,t2]) 9 0 ⟨#[]⟩ (AA HK) (by omega) (by rw[hNl];omega) (fun _=>⟨by rw[hNl];omega,rfl,Av.cons h7.mono (Av.one h10)⟩) ⟨fun e=>by simp at e,fun _=>by simp,fun e=>by simp at e⟩
def Z2(E:Bk Z ta tn ts)(h:EV Z p ta tn tc false w i nd xs)(hi:i<=4100)(AQ:xs.length+4*(5000- i)<=100000)(h0:Eg ((AF ts).cl i)=true)(hR:BM Z p ta tn tc 95 #[.pointer (some ⟨p,0,none⟩)] i false q t):Calls prog 94 #[.pointer (some ⟨p,0,none⟩)] w (Bf Z p ta tn tc w nd xs i false (q) ([])):=by obtain⟨NS,HK,HXL,hxl,hxm,hNS,p0,p1,p2,p3,f0,f1,f2,f3,hpl⟩:=Hp E h hi AQ;have K1:=AB (Og (i:=i) E (by omega) (r:=true) h0);have K2:=AB (fun(V:World)(n:Value)(hk:KS Z p ta tn tc w nd xs [] NS i false V n A3 [])=>hk.read (hR) (by omega));have K3:=AB (fun(V:World)(n:Value)(ds:List AM)(z:Int)(hk:KS Z p ta tn tc w nd xs [] (NS++ds) q true V n A3 [])=>hk.via fun _ hX=>Wf hX z);clear h hxl hxm h0 hR E;go_enter func94,ntmps94;go_wp2_with(first|(go_at_call 93;refine(AA K1 (AA HK)).mono ?_;clear K1;rintro e w5⟨rfl,hk,_⟩;replace HK:=AB hk;clear hk)|(go_at_call 95;refine(AA K2 _ _ (AA HK)).mono ?_;clear K2;rintro e w5⟨z,nd5,ds,rfl,hk,_,hiz,hlz,htz⟩;clear HK;have HIz:=AB hiz;have HLz:=AB hlz;have HTz:=AB htz;clear hiz hlz htz;have HK:=AB hk;clear hk)|(go_at_call 97;refine(AA K3 _ _ _ _ (AA HK)).mono ?_;clear K3;rintro e w5⟨rfl,hk,_⟩;replace HK:=AB hk;clear hk));go_ret;have hxl:=AA HXL;exact DB (by rw[AH,hxl];have:=AA HLz;omega) (AA HK) (AA HIz) _
def cH(E:Bk Z ta tn ts)(h:EV Z p ta tn tc false w i nd xs)(hi:i<=4100)(AQ:xs.length+4*(5000- i)<=100000){q2:Nat}{t1:List AM}(h0:Eg ((AF ts).cl i)=true)(hq4:q<=4100)(hR:BM Z p ta tn tc 95 #[.pointer (some ⟨p,0,none⟩)] i true q t1)(hR2:LK Z p ta tn tc q t1 g q2 t):Calls prog 94 #[.pointer (some ⟨p,0,none⟩)] w (Bf Z p ta tn tc w nd xs i g (q2) (t)):=by
 obtain⟨NS,HK,HXL,hxl,hxm,hNS,p0,p1,p2,p3,f0,f1,f2,f3,hpl⟩:=Hp E h hi AQ;have K1:=AB (Og (i:=i) E (by omega) (r:=true) h0);have K2:=AB (fun(V:World)(n:Value)(hk:KS Z p ta tn tc w nd xs [] NS i false V n A3 [])=>hk.readY hR (by omega));have K3:=AB (fun(V:World)(n:Value)(ds:List AM)(ez:Nat)(Ae:ds.length+1<=4*(q- i))(ht:A0 (NS++ds) ez t1)(hk:KS Z p ta tn tc w nd xs [] (NS++ds) q false V n A3 [])=>hk.rest hR2 (by rw[AH];omega) ht);clear h hxl hxm h0 hR hR2 E;go_enter func94,ntmps94;go_wp2_with(first|(go_at_call 93;refine(AA K1 (AA HK)).mono ?_;clear K1;rintro e w5⟨rfl,hk,_⟩;replace HK:=AB hk;clear hk)|(go_at_call 95;refine(AA K2 _ _ (AA HK)).mono ?_;clear K2;rintro e w5⟨ez1,nd5,ds,rfl,hk,_,B7,B6,B4⟩;clear HK;have HIez1:=AB B7;have HLez1:=AB B6;have HTez1:=AB B4;clear B7 B6 B4;have HK:=AB hk;clear hk)|(go_at_call 97;refine(AA K3 _ _ _ _ (AA HLez1) (AA HTez1) (AA HK)).mono ?_;clear K3;rintro e w5⟨z,nd5,ds2,rfl,hk,hiz,hlz,htz⟩;clear HK;have HIz:=AB hiz;have HLz:=AB hlz;have HTz:=AB htz;have HK:=AB hk;clear hk hiz hlz htz));go_ret;have hxl:=AA HXL;have h1:=AA HLez1;have h2:=AA HLz;have h3:=AA HIez1;have h4:=AA HIz;have hNl:((NS++ds)++ds2).length=NS.length+ds.length+ds2.length:=by rw[AH,AH]
 exact KS.gave (i:=i) (AA HK) rfl (by omega) (by rw[hNl];omega) (fun hg=>⟨by rw[hNl];omega,AA HTz hg⟩)
end
section
variable {Z w w0 w1:World}{p i j q:Nat}{nd nd0 nd1 v:Value}{zs:List Int}{xs ys:List AW}{bx:List Nat}{ns:List AM}{ta:Option Addr}{tn tc:Nat}{ts:List CO}{b b' g:Bool}{t:List AM}
def Bk.tok(E:Bk Z ta tn ts)(hc:(AF ts).cl j≠0):∃tb off y,ta=some ⟨tb,off,none⟩/\tb<Z.heap.size/\j<tn/\Al ts 0 j=y/\y∈ts/\∀V,Below Z.heap.size Z V->V.cell? ⟨tb,off+j*4,none⟩=some (.int .i64 y.k)/\V.cell? ⟨tb,off+j*4+1,none⟩=some (.int .i64 y.n)/\V.cell? ⟨tb,off+j*4+2,none⟩=some (.string y.t)/\V.cell? ⟨tb,off+j*4+3,none⟩=some (.int .i64 (y.p:Nat))/\tb<V.heap.size:=by
 have hlt:j<tn:=by rw[<-E.row.len];exact Ab ts j hc
 obtain⟨tb,off,y,rfl,hbl,hy,a0,a1,a2,a3⟩:=E.row.get hlt;exact⟨tb,off,y,rfl,hbl,hlt,Gv hy 0,A1 hy,fun V hV=>⟨(hV.cell (p:=⟨tb,off+j*4,none⟩) hbl).trans a0,(hV.cell (p:=⟨tb,off+j*4+1,none⟩) hbl).trans a1,(hV.cell (p:=⟨tb,off+j*4+2,none⟩) hbl).trans a2,(hV.cell (p:=⟨tb,off+j*4+3,none⟩) hbl).trans a3,AX hbl hV.size⟩⟩
def ew(E:Bk Z ta tn ts)(h:EV Z p ta tn tc false w i nd xs)(hi:i<=4100)(AQ:xs.length+4*(5000- i)<=100000)(h1:(AF ts).cl i=2):Calls prog 147 #[.pointer (some ⟨p,0,none⟩)] w (Bf Z p ta tn tc w nd xs i true (i+1) (Gh 2 ((AF ts).sv i))):=by
 obtain⟨NS,HK,HXL,hxl,hxm,hNS,p0,p1,p2,p3,f0,f1,f2,f3,hpl⟩:=Hp E h hi AQ;obtain⟨tb,off,y,rfl,hbl,hlt,hy,hm,HTK⟩:=E.tok (j:=i) (by rw[h1];decide);have hsv:(AF ts).sv i=y.t:=by show(Al ts 0 i).t=_;rw[hy]
 have hk':=CK E.ok i;rw[hy]at hk';obtain⟨yk,yn,yt,yp⟩:=y;rw[hsv];have hne:tb≠p:=EA (AX hbl h.hp);have HTK:=AB HTK;have hl2:(i:Int)<(tn:Int):=by omega
 have hl3:i<tn:=hlt;have hw1:IntKind.i64.wrap ((i:Int)+1)=(i:Int)+1:=by rw[IntKind.wrap_i64];omega
 have hw2:IntKind.i64.wrap ((i:Int)+1- 1)=(i:Int):=by rw[IntKind.wrap_i64];omega
 have hw3:IntKind.i64.wrap (i:Int)=(i:Int):=by rw[IntKind.wrap_i64];omega
 obtain rfl:yk=2:=by rcases hk' with h'|h'|h'|h'|h'<;>simp at h'<;>omega
 have K1:=AB (Yp (i:=i) E (show(Al ts 0 i).k=2 by rw[hy]));have K2:=AB (Yp (i:=i) E (show(Al ts 0 i).k=2 by rw[hy]));have K3:=AB (fun(V:World)(n:Value)(B:List Nat)(hk:KS Z p (some ⟨tb,off,none⟩) tn tc w nd xs B NS (i+1) false V n A3 [])=>hk.put 2 0 0 yt (by omega));clear h hxl hxm h1 hy hm hsv hlt hk' E;go_enter func147,ntmps147;go_wp2_with(first|(go_at_call 143;refine(AA K1 (AA HK)).mono ?_;clear K1;rintro e w5⟨rfl,hk,_⟩;replace HK:=AB hk;clear hk)|(go_at_call 143;refine(AA K2 (AA HK)).mono ?_;clear K2;rintro e w5⟨rfl,hk,_⟩;clear HK;obtain⟨p0,p1,p2,p3,f0,f1,f2,f3,hpl⟩:=hk.all;obtain⟨a0,a1,a2,a3,hbl⟩:=AA HTK _ hk.low;have hk:=hk.step 1 ((i:Int)+1) (by omega);have HK:=AB hk;clear hk));have HK9:=AB (((AA HK).below AI.drew).box (.cells #[.int .i64 2,.int .i64 yn,.string yt,.int .i64 (yp:Nat)] 64))
 go_region
 all_goals go_wp2_with((go_at_call 45;refine(AA K3 _ _ _ (AA HK9)).mono ?_;rintro e w6⟨rfl,nd6,hk⟩;have HK6:=AB hk;clear hk))
 all_goals go_ret
 all_goals have hxl:=AA HXL
 all_goals exact Cy (i:=i) 2 0 0 yt [] hxl (AA HK6) (by omega) (by decide) (by decide) (by decide)
def eu(E:Bk Z ta tn ts)(h:EV Z p ta tn tc false w i nd xs)(hi:i<=4100)(AQ:xs.length+4*(5000- i)<=100000)(h1:(AF ts).cl i=3):Calls prog 147 #[.pointer (some ⟨p,0,none⟩)] w (Bf Z p ta tn tc w nd xs i true (i+1) (Gh 3 ((AF ts).sv i))):=by
 obtain⟨NS,HK,HXL,hxl,hxm,hNS,p0,p1,p2,p3,f0,f1,f2,f3,hpl⟩:=Hp E h hi AQ;obtain⟨tb,off,y,rfl,hbl,hlt,hy,hm,HTK⟩:=E.tok (j:=i) (by rw[h1];decide);have hsv:(AF ts).sv i=y.t:=by show(Al ts 0 i).t=_;rw[hy]
 have hk':=CK E.ok i;rw[hy]at hk';obtain⟨yk,yn,yt,yp⟩:=y;rw[hsv];have hne:tb≠p:=EA (AX hbl h.hp);have HTK:=AB HTK;have hl2:(i:Int)<(tn:Int):=by omega
 have hl3:i<tn:=hlt;have hw1:IntKind.i64.wrap ((i:Int)+1)=(i:Int)+1:=by rw[IntKind.wrap_i64];omega
 have hw2:IntKind.i64.wrap ((i:Int)+1- 1)=(i:Int):=by rw[IntKind.wrap_i64];omega
 have hw3:IntKind.i64.wrap (i:Int)=(i:Int):=by rw[IntKind.wrap_i64];omega
 obtain rfl:yk=3:=by rcases hk' with h'|h'|h'|h'|h'<;>simp at h'<;>omega
 have K1:=AB (Yp (i:=i) E (show(Al ts 0 i).k=3 by rw[hy]));have K2:=AB (Yp (i:=i) E (show(Al ts 0 i).k=3 by rw[hy]));have K3:=AB (IF (i:=i) E false (r:=true) (AK h1));have K4:=AB (fun(V:World)(n:Value)(B:List Nat)(hk:KS Z p (some ⟨tb,off,none⟩) tn tc w nd xs B NS (i+1) false V n A3 [])=>hk.put 3 0 0 yt (by omega));clear h hxl hxm h1 hy hm hsv hlt hk' E;go_enter func147,ntmps147;go_wp2_with(first|(go_at_call 143;refine(AA K1 (AA HK)).mono ?_;clear K1;rintro e w5⟨rfl,hk,_⟩;replace HK:=AB hk;clear hk)|(go_at_call 143;refine(AA K2 (AA HK)).mono ?_;clear K2;rintro e w5⟨rfl,hk,_⟩;replace HK:=AB hk;clear hk)|(go_at_call 90;refine(AA K3 (AA HK)).mono ?_;clear K3;rintro e w5⟨rfl,hk,_⟩;clear HK;obtain⟨p0,p1,p2,p3,f0,f1,f2,f3,hpl⟩:=hk.all;obtain⟨a0,a1,a2,a3,hbl⟩:=AA HTK _ hk.low;have hk:=hk.step 1 ((i:Int)+1) (by omega);have HK:=AB hk;clear hk));have HK9:=AB (((AA HK).below AI.drew).box (.cells #[.int .i64 3,.int .i64 yn,.string yt,.int .i64 (yp:Nat)] 64))
 go_region
 all_goals go_wp2_with((go_at_call 45;refine(AA K4 _ _ _ (AA HK9)).mono ?_;rintro e w6⟨rfl,nd6,hk⟩;have HK6:=AB hk;clear hk))
 all_goals go_ret
 all_goals have hxl:=AA HXL
 all_goals exact Cy (i:=i) 3 0 0 yt [] hxl (AA HK6) (by omega) (by decide) (by decide) (by decide)
def aL(E:Bk Z ta tn ts)(h:EV Z p ta tn tc false w i nd xs)(hi:i<=4100)(AQ:xs.length+4*(5000- i)<=100000)(h1:(AF ts).cl i=9082):Calls prog 147 #[.pointer (some ⟨p,0,none⟩)] w (Bf Z p ta tn tc w nd xs i true (i+1) (Ck 4 0 0)):=by
 have HK:=AB (KS.start h);have hxl:(xs.map AW.d).length=xs.length:=AS ..;obtain⟨NS,hNS⟩:∃NS,xs.map AW.d=NS:=⟨_,rfl⟩
 rw[hNS]at HK hxl;have hxm:NS.length<=100000:=by omega
 have hkc:(Al ts 0 i).k=4:=by rcases CK E.ok i with h'|h'|h'|h'|h'<;>omega
 have HKD:=AB (Yp (i:=i) E hkc);have HNM:=AB (IF (i:=i) E false (r:=false) (AD (by rw[h1];decide)));have HY:=AB (Th (i:=i) E (by omega) 9082 ID IE h1);have HPUT:=AB (fun(gb:Nat)(V:World)(n:Value)(hk:KS Z p ta tn tc w nd xs [gb] NS (i+1) false V n A3 [])=>hk.put 4 0 0 ⟨#[]⟩ (by omega));have HXL:=AB hxl;clear h hxl hkc h1 E;go_enter func147,ntmps147;go_wp2_with(first|(go_at_call 143;refine(AA HKD (AA HK)).mono ?_;rintro e w5⟨rfl,hk,_⟩;replace HK:=AB hk;clear hk)|(go_at_call 90;refine(AA HNM (AA HK)).mono ?_;rintro e w4⟨rfl,hk,_⟩;have HK4:=AB (hk.box (.cells #[.string ⟨#[226,141,186]⟩,.string ⟨#[226,141,181]⟩,.string ⟨#[226,141,172]⟩] 9));clear hk));obtain⟨gb,hgb⟩:∃gb,gb=w4.heap.size:=⟨_,rfl⟩
 have HR0:Hid ((w4.alloc (.cells #[.string ⟨#[226,141,186]⟩,.string ⟨#[226,141,181]⟩,.string ⟨#[226,141,172]⟩] 9)).heap[gb]? =some (.cells #[.string ⟨#[226,141,186]⟩,.string ⟨#[226,141,181]⟩,.string ⟨#[226,141,172]⟩] 9 (0,0))):=by rw[hgb];show(w4.heap.push _)[w4.heap.size]? =_;simp
 rw[<-hgb]at HK4 ⊢;clear hgb HK HKD HNM;go_loopw[6] (fun u wr=>∃(k:Nat)(n:Value),u=.int .i64 (k:Nat)/\k<=0/\Hid (KS Z p ta tn tc w nd xs [gb] NS i false wr n A3 [])/\Hid (wr.heap[gb]? =some (.cells #[.string ⟨#[226,141,186]⟩,.string ⟨#[226,141,181]⟩,.string ⟨#[226,141,172]⟩] 9 (0,0)))) (fun u _=>4- (intOf u).toNat);case atStart=>exact⟨0,nd,rfl,by omega,HK4,HR0⟩
 case round=>
  obtain⟨k,n,rfl,hk3,HKR,HRS⟩:=hrel;clear HK4 HR0;by_cases c0:k=0
  .subst c0;have hc:wr.cell? ⟨gb,0,none⟩=some (.string ⟨#[226,141,186]⟩):=by have hb:=AA HRS;simp[World.cell?,hb]
   have hgl:=lt_of_block (AA HRS);go_wp2_with(first|(go_at_call 44;refine(AA HY (AA HKR)).mono ?_;rintro e w6⟨rfl,hk,_⟩;have HK6:=AB hk;clear hk)|(go_at_call 45;refine(AA HPUT _ _ _ (AA HK6)).mono ?_;rintro e w9⟨rfl,nd9,hk9⟩;have HK9:=AB hk9;clear hk9));go_ret;exact Cy (i:=i) 4 0 0 ⟨#[]⟩ [] (AA HXL) (AA HK9) (by omega) (by decide) (by decide) (by decide)
  omega
def aM(E:Bk Z ta tn ts)(h:EV Z p ta tn tc false w i nd xs)(hi:i<=4100)(AQ:xs.length+4*(5000- i)<=100000)(h1:(AF ts).cl i=9077):Calls prog 147 #[.pointer (some ⟨p,0,none⟩)] w (Bf Z p ta tn tc w nd xs i true (i+1) (Ck 5 0 0)):=by
 have HK:=AB (KS.start h);have hxl:(xs.map AW.d).length=xs.length:=AS ..;obtain⟨NS,hNS⟩:∃NS,xs.map AW.d=NS:=⟨_,rfl⟩
 rw[hNS]at HK hxl;have hxm:NS.length<=100000:=by omega
 have hkc:(Al ts 0 i).k=4:=by rcases CK E.ok i with h'|h'|h'|h'|h'<;>omega
 have HKD:=AB (Yp (i:=i) E hkc);have HNM:=AB (IF (i:=i) E false (r:=false) (AD (by rw[h1];decide)));have HN0:=AB (Im (i:=i) E (by omega) 9082 ID IE (by rw[h1];decide));have HY:=AB (Th (i:=i) E (by omega) 9077 JC JE h1);have HPUT:=AB (fun(gb:Nat)(V:World)(n:Value)(hk:KS Z p ta tn tc w nd xs [gb] NS (i+1) false V n A3 [])=>hk.put 5 0 0 ⟨#[]⟩ (by omega));have HXL:=AB hxl;clear h hxl hkc h1 E;go_enter func147,ntmps147;go_wp2_with(first|(go_at_call 143;refine(AA HKD (AA HK)).mono ?_;rintro e w5⟨rfl,hk,_⟩;replace HK:=AB hk;clear hk)|(go_at_call 90;refine(AA HNM (AA HK)).mono ?_;rintro e w4⟨rfl,hk,_⟩;have HK4:=AB (hk.box (.cells #[.string ⟨#[226,141,186]⟩,.string ⟨#[226,141,181]⟩,.string ⟨#[226,141,172]⟩] 9));clear hk));obtain⟨gb,hgb⟩:∃gb,gb=w4.heap.size:=⟨_,rfl⟩
 have HR0:Hid ((w4.alloc (.cells #[.string ⟨#[226,141,186]⟩,.string ⟨#[226,141,181]⟩,.string ⟨#[226,141,172]⟩] 9)).heap[gb]? =some (.cells #[.string ⟨#[226,141,186]⟩,.string ⟨#[226,141,181]⟩,.string ⟨#[226,141,172]⟩] 9 (0,0))):=by rw[hgb];show(w4.heap.push _)[w4.heap.size]? =_;simp
 rw[<-hgb]at HK4 ⊢;clear hgb HK HKD HNM;go_loopw[6] (fun u wr=>∃(k:Nat)(n:Value),u=.int .i64 (k:Nat)/\k<=1/\Hid (KS Z p ta tn tc w nd xs [gb] NS i false wr n A3 [])/\Hid (wr.heap[gb]? =some (.cells #[.string ⟨#[226,141,186]⟩,.string ⟨#[226,141,181]⟩,.string ⟨#[226,141,172]⟩] 9 (0,0)))) (fun u _=>4- (intOf u).toNat);case atStart=>exact⟨0,nd,rfl,by omega,HK4,HR0⟩
 case round=>
  obtain⟨k,n,rfl,hk3,HKR,HRS⟩:=hrel;clear HK4 HR0;by_cases c0:k=0
  .subst c0;have hc:wr.cell? ⟨gb,0,none⟩=some (.string ⟨#[226,141,186]⟩):=by have hb:=AA HRS;simp[World.cell?,hb]
   have hgl:=lt_of_block (AA HRS);go_wp2_with(go_at_call 44;refine(AA HN0 (AA HKR)).mono ?_;rintro e w6⟨rfl,hk,hs⟩;have HK6:=AB hk;have HR6:=AB ((hs _ (AY.2 rfl)).trans (AA HRS));clear hk hs);go_roundw;case rel=>exact⟨1,n,rfl,by omega,HK6,HR6⟩
   case measure=>simp[intOf]
  by_cases c1:k=1
  .subst c1;have hc:wr.cell? ⟨gb,1,none⟩=some (.string ⟨#[226,141,181]⟩):=by have hb:=AA HRS;simp[World.cell?,hb]
   have hgl:=lt_of_block (AA HRS);go_wp2_with(first|(go_at_call 44;refine(AA HY (AA HKR)).mono ?_;rintro e w6⟨rfl,hk,_⟩;have HK6:=AB hk;clear hk)|(go_at_call 45;refine(AA HPUT _ _ _ (AA HK6)).mono ?_;rintro e w9⟨rfl,nd9,hk9⟩;have HK9:=AB hk9;clear hk9));go_ret;exact Cy (i:=i) 5 0 0 ⟨#[]⟩ [] (AA HXL) (AA HK9) (by omega) (by decide) (by decide) (by decide)
  omega
def aN(E:Bk Z ta tn ts)(h:EV Z p ta tn tc false w i nd xs)(hi:i<=4100)(AQ:xs.length+4*(5000- i)<=100000)(h1:(AF ts).cl i=9068):Calls prog 147 #[.pointer (some ⟨p,0,none⟩)] w (Bf Z p ta tn tc w nd xs i true (i+1) (Ck 6 0 0)):=by
 have HK:=AB (KS.start h);have hxl:(xs.map AW.d).length=xs.length:=AS ..;obtain⟨NS,hNS⟩:∃NS,xs.map AW.d=NS:=⟨_,rfl⟩
 rw[hNS]at HK hxl;have hxm:NS.length<=100000:=by omega
 have hkc:(Al ts 0 i).k=4:=by rcases CK E.ok i with h'|h'|h'|h'|h'<;>omega
 have HKD:=AB (Yp (i:=i) E hkc);have HNM:=AB (IF (i:=i) E false (r:=false) (AD (by rw[h1];decide)));have HN0:=AB (Im (i:=i) E (by omega) 9082 ID IE (by rw[h1];decide));have HN1:=AB (Im (i:=i) E (by omega) 9077 JC JE (by rw[h1];decide));have HY:=AB (Th (i:=i) E (by omega) 9068 LR LS h1);have HPUT:=AB (fun(gb:Nat)(V:World)(n:Value)(hk:KS Z p ta tn tc w nd xs [gb] NS (i+1) false V n A3 [])=>hk.put 6 0 0 ⟨#[]⟩ (by omega));have HXL:=AB hxl;clear h hxl hkc h1 E;go_enter func147,ntmps147;go_wp2_with(first|(go_at_call 143;refine(AA HKD (AA HK)).mono ?_;rintro e w5⟨rfl,hk,_⟩;replace HK:=AB hk;clear hk)|(go_at_call 90;refine(AA HNM (AA HK)).mono ?_;rintro e w4⟨rfl,hk,_⟩;have HK4:=AB (hk.box (.cells #[.string ⟨#[226,141,186]⟩,.string ⟨#[226,141,181]⟩,.string ⟨#[226,141,172]⟩] 9));clear hk));obtain⟨gb,hgb⟩:∃gb,gb=w4.heap.size:=⟨_,rfl⟩
 have HR0:Hid ((w4.alloc (.cells #[.string ⟨#[226,141,186]⟩,.string ⟨#[226,141,181]⟩,.string ⟨#[226,141,172]⟩] 9)).heap[gb]? =some (.cells #[.string ⟨#[226,141,186]⟩,.string ⟨#[226,141,181]⟩,.string ⟨#[226,141,172]⟩] 9 (0,0))):=by rw[hgb];show(w4.heap.push _)[w4.heap.size]? =_;simp
 rw[<-hgb]at HK4 ⊢;clear hgb HK HKD HNM;go_loopw[6] (fun u wr=>∃(k:Nat)(n:Value),u=.int .i64 (k:Nat)/\k<=2/\Hid (KS Z p ta tn tc w nd xs [gb] NS i false wr n A3 [])/\Hid (wr.heap[gb]? =some (.cells #[.string ⟨#[226,141,186]⟩,.string ⟨#[226,141,181]⟩,.string ⟨#[226,141,172]⟩] 9 (0,0)))) (fun u _=>4- (intOf u).toNat);case atStart=>exact⟨0,nd,rfl,by omega,HK4,HR0⟩
 case round=>
  obtain⟨k,n,rfl,hk3,HKR,HRS⟩:=hrel;clear HK4 HR0;by_cases c0:k=0
  .subst c0;have hc:wr.cell? ⟨gb,0,none⟩=some (.string ⟨#[226,141,186]⟩):=by have hb:=AA HRS;simp[World.cell?,hb]
   have hgl:=lt_of_block (AA HRS);go_wp2_with(go_at_call 44;refine(AA HN0 (AA HKR)).mono ?_;rintro e w6⟨rfl,hk,hs⟩;have HK6:=AB hk;have HR6:=AB ((hs _ (AY.2 rfl)).trans (AA HRS));clear hk hs);go_roundw;case rel=>exact⟨1,n,rfl,by omega,HK6,HR6⟩
   case measure=>simp[intOf]
  by_cases c1:k=1
  .subst c1;have hc:wr.cell? ⟨gb,1,none⟩=some (.string ⟨#[226,141,181]⟩):=by have hb:=AA HRS;simp[World.cell?,hb]
   have hgl:=lt_of_block (AA HRS);go_wp2_with(go_at_call 44;refine(AA HN1 (AA HKR)).mono ?_;rintro e w6⟨rfl,hk,hs⟩;have HK6:=AB hk;have HR6:=AB ((hs _ (AY.2 rfl)).trans (AA HRS));clear hk hs);go_roundw;case rel=>exact⟨2,n,rfl,by omega,HK6,HR6⟩
   case measure=>simp[intOf]
  by_cases c2:k=2
  .subst c2;have hc:wr.cell? ⟨gb,2,none⟩=some (.string ⟨#[226,141,172]⟩):=by have hb:=AA HRS;simp[World.cell?,hb]
   have hgl:=lt_of_block (AA HRS);go_wp2_with(first|(go_at_call 44;refine(AA HY (AA HKR)).mono ?_;rintro e w6⟨rfl,hk,_⟩;have HK6:=AB hk;clear hk)|(go_at_call 45;refine(AA HPUT _ _ _ (AA HK6)).mono ?_;rintro e w9⟨rfl,nd9,hk9⟩;have HK9:=AB hk9;clear hk9));go_ret;exact Cy (i:=i) 6 0 0 ⟨#[]⟩ [] (AA HXL) (AA HK9) (by omega) (by decide) (by decide) (by decide)
  omega
def cU(E:Bk Z ta tn ts)(h:EV Z p ta tn tc false w i nd xs)(hi:i<=4100)(AQ:xs.length+4*(5000- i)<=100000)(h1:(AF ts).cl i=40)(hq4:q<=4100)(hiq:i+1<=q)(hR:BM Z p ta tn tc 94 #[.pointer (some ⟨p,0,none⟩)] (i+1) true q t)(h41:(AF ts).cl q=41):Calls prog 147 #[.pointer (some ⟨p,0,none⟩)] w (Bf Z p ta tn tc w nd xs i true (q+1) (t)):=by
 have HK:=AB (KS.start h);have hxl:(xs.map AW.d).length=xs.length:=AS ..;obtain⟨NS,hNS⟩:∃NS,xs.map AW.d=NS:=⟨_,rfl⟩
 rw[hNS]at HK hxl;have hxm:NS.length<=100000:=by omega
 have hkc:(Al ts 0 i).k=4:=by rcases CK E.ok i with h'|h'|h'|h'|h'<;>omega
 have HKD:=AB (Yp (i:=i) E hkc);have HNM:=AB (IF (i:=i) E false (r:=false) (AD (by rw[h1];decide)));have HN0:=AB (Im (i:=i) E (by omega) 9082 ID IE (by rw[h1];decide));have HN1:=AB (Im (i:=i) E (by omega) 9077 JC JE (by rw[h1];decide));have HN2:=AB (Im (i:=i) E (by omega) 9068 LR LS (by rw[h1];decide));have HW1:=AB (Yn (i:=i) E (by omega) 40 FX FY h1);have HRD:=AB (fun(gb:Nat)(V:World)(n:Value)(hk:KS Z p ta tn tc w nd xs [gb] NS (i+1) false V n A3 [])=>hk.read hR (by omega));have HW2:=AB (Yn (i:=q) E (by omega) 41 R9 SA h41);have HXL:=AB hxl;clear h hxl hkc h1 hR E h41;go_enter func147,ntmps147;go_wp2_with(first|(go_at_call 143;refine(AA HKD (AA HK)).mono ?_;rintro e w5⟨rfl,hk,_⟩;replace HK:=AB hk;clear hk)|(go_at_call 90;refine(AA HNM (AA HK)).mono ?_;rintro e w4⟨rfl,hk,_⟩;have HK4:=AB (hk.box (.cells #[.string ⟨#[226,141,186]⟩,.string ⟨#[226,141,181]⟩,.string ⟨#[226,141,172]⟩] 9));clear hk));obtain⟨gb,hgb⟩:∃gb,gb=w4.heap.size:=⟨_,rfl⟩
 have HR0:Hid ((w4.alloc (.cells #[.string ⟨#[226,141,186]⟩,.string ⟨#[226,141,181]⟩,.string ⟨#[226,141,172]⟩] 9)).heap[gb]? =some (.cells #[.string ⟨#[226,141,186]⟩,.string ⟨#[226,141,181]⟩,.string ⟨#[226,141,172]⟩] 9 (0,0))):=by rw[hgb];show(w4.heap.push _)[w4.heap.size]? =_;simp
 rw[<-hgb]at HK4 ⊢;clear hgb HK HKD HNM;go_loopw[6] (fun u wr=>∃(k:Nat)(n:Value),u=.int .i64 (k:Nat)/\k<=3/\Hid (KS Z p ta tn tc w nd xs [gb] NS i false wr n A3 [])/\Hid (wr.heap[gb]? =some (.cells #[.string ⟨#[226,141,186]⟩,.string ⟨#[226,141,181]⟩,.string ⟨#[226,141,172]⟩] 9 (0,0)))) (fun u _=>4- (intOf u).toNat);case atStart=>exact⟨0,nd,rfl,by omega,HK4,HR0⟩
 case round=>
  obtain⟨k,n,rfl,hk3,HKR,HRS⟩:=hrel;clear HK4 HR0;by_cases c0:k=0
  .subst c0;have hc:wr.cell? ⟨gb,0,none⟩=some (.string ⟨#[226,141,186]⟩):=by have hb:=AA HRS;simp[World.cell?,hb]
   have hgl:=lt_of_block (AA HRS);go_wp2_with(go_at_call 44;refine(AA HN0 (AA HKR)).mono ?_;rintro e w6⟨rfl,hk,hs⟩;have HK6:=AB hk;have HR6:=AB ((hs _ (AY.2 rfl)).trans (AA HRS));clear hk hs);go_roundw;case rel=>exact⟨1,n,rfl,by omega,HK6,HR6⟩
   case measure=>simp[intOf]
  by_cases c1:k=1
  .subst c1;have hc:wr.cell? ⟨gb,1,none⟩=some (.string ⟨#[226,141,181]⟩):=by have hb:=AA HRS;simp[World.cell?,hb]
   have hgl:=lt_of_block (AA HRS);go_wp2_with(go_at_call 44;refine(AA HN1 (AA HKR)).mono ?_;rintro e w6⟨rfl,hk,hs⟩;have HK6:=AB hk;have HR6:=AB ((hs _ (AY.2 rfl)).trans (AA HRS));clear hk hs);go_roundw;case rel=>exact⟨2,n,rfl,by omega,HK6,HR6⟩
   case measure=>simp[intOf]
  by_cases c2:k=2
  .subst c2;have hc:wr.cell? ⟨gb,2,none⟩=some (.string ⟨#[226,141,172]⟩):=by have hb:=AA HRS;simp[World.cell?,hb]
   have hgl:=lt_of_block (AA HRS);go_wp2_with(go_at_call 44;refine(AA HN2 (AA HKR)).mono ?_;rintro e w6⟨rfl,hk,hs⟩;have HK6:=AB hk;have HR6:=AB ((hs _ (AY.2 rfl)).trans (AA HRS));clear hk hs);go_roundw;case rel=>exact⟨3,n,rfl,by omega,HK6,HR6⟩
   case measure=>simp[intOf]
  have c3:k=3:=by omega
  subst c3;go_wp2_with(first|(go_at_call 144;refine(AA HW1 (AA HKR)).mono ?_;clear HW1;rintro e w6⟨rfl,hk,_⟩;obtain⟨p0,p1,p2,p3,f0,f1,f2,f3,hpl⟩:=hk.all;have HK6:=AB hk;clear hk)|(go_at_call 94;refine(AA HRD _ _ _ (AA HK6)).mono ?_;rintro e w7⟨z,nd7,ds,rfl,hk,_,_,hl,ht⟩;have HK7:=AB hk;have HL:=AB hl;have HT:=AB ht;clear hk hl ht)|(go_at_call 144;refine(AA HW2 (AA HK7)).mono ?_;rintro e w8⟨rfl,hk,_⟩;have HK8:=AB hk;clear hk));go_ret;exact KS.gave (i:=i) (g:=true) (AA HK8) rfl (by omega) (by rw[AH,AA HXL];have:=AA HL;omega) (fun _=>⟨by have:=(AA HT trivial).1;rw[AH,AA HXL];omega,(AA HT trivial).2⟩)
def cV(E:Bk Z ta tn ts)(h:EV Z p ta tn tc false w i nd xs)(hi:i<=4100)(AQ:xs.length+4*(5000- i)<=100000)(h1:(AF ts).cl i=40)(hq4:q<=4100)(hiq:i+1<=q)(hR:BM Z p ta tn tc 94 #[.pointer (some ⟨p,0,none⟩)] (i+1) true q t)(h41:(AF ts).cl q≠41):Calls prog 147 #[.pointer (some ⟨p,0,none⟩)] w (Bf Z p ta tn tc w nd xs i false (q) ([])):=by
 have HK:=AB (KS.start h);have hxl:(xs.map AW.d).length=xs.length:=AS ..;obtain⟨NS,hNS⟩:∃NS,xs.map AW.d=NS:=⟨_,rfl⟩
 rw[hNS]at HK hxl;have hxm:NS.length<=100000:=by omega
 have hkc:(Al ts 0 i).k=4:=by rcases CK E.ok i with h'|h'|h'|h'|h'<;>omega
 have HKD:=AB (Yp (i:=i) E hkc);have HNM:=AB (IF (i:=i) E false (r:=false) (AD (by rw[h1];decide)));have HN0:=AB (Im (i:=i) E (by omega) 9082 ID IE (by rw[h1];decide));have HN1:=AB (Im (i:=i) E (by omega) 9077 JC JE (by rw[h1];decide));have HN2:=AB (Im (i:=i) E (by omega) 9068 LR LS (by rw[h1];decide));have HW1:=AB (Yn (i:=i) E (by omega) 40 FX FY h1);have HRD:=AB (fun(gb:Nat)(V:World)(n:Value)(hk:KS Z p ta tn tc w nd xs [gb] NS (i+1) false V n A3 [])=>hk.read hR (by omega));have HW2:=AB (fF (i:=q) E (by omega) 41 R9 SA h41);have HXL:=AB hxl;clear h hxl hkc h1 hR E h41;go_enter func147,ntmps147;go_wp2_with(first|(go_at_call 143;refine(AA HKD (AA HK)).mono ?_;rintro e w5⟨rfl,hk,_⟩;replace HK:=AB hk;clear hk)|(go_at_call 90;refine(AA HNM (AA HK)).mono ?_;rintro e w4⟨rfl,hk,_⟩;have HK4:=AB (hk.box (.cells #[.string ⟨#[226,141,186]⟩,.string ⟨#[226,141,181]⟩,.string ⟨#[226,141,172]⟩] 9));clear hk));obtain⟨gb,hgb⟩:∃gb,gb=w4.heap.size:=⟨_,rfl⟩
 have HR0:Hid ((w4.alloc (.cells #[.string ⟨#[226,141,186]⟩,.string ⟨#[226,141,181]⟩,.string ⟨#[226,141,172]⟩] 9)).heap[gb]? =some (.cells #[.string ⟨#[226,141,186]⟩,.string ⟨#[226,141,181]⟩,.string ⟨#[226,141,172]⟩] 9 (0,0))):=by rw[hgb];show(w4.heap.push _)[w4.heap.size]? =_;simp
 rw[<-hgb]at HK4 ⊢;clear hgb HK HKD HNM;go_loopw[6] (fun u wr=>∃(k:Nat)(n:Value),u=.int .i64 (k:Nat)/\k<=3/\Hid (KS Z p ta tn tc w nd xs [gb] NS i false wr n A3 [])/\Hid (wr.heap[gb]? =some (.cells #[.string ⟨#[226,141,186]⟩,.string ⟨#[226,141,181]⟩,.string ⟨#[226,141,172]⟩] 9 (0,0)))) (fun u _=>4- (intOf u).toNat);case atStart=>exact⟨0,nd,rfl,by omega,HK4,HR0⟩
 case round=>
  obtain⟨k,n,rfl,hk3,HKR,HRS⟩:=hrel;clear HK4 HR0;by_cases c0:k=0
  .subst c0;have hc:wr.cell? ⟨gb,0,none⟩=some (.string ⟨#[226,141,186]⟩):=by have hb:=AA HRS;simp[World.cell?,hb]
   have hgl:=lt_of_block (AA HRS);go_wp2_with(go_at_call 44;refine(AA HN0 (AA HKR)).mono ?_;rintro e w6⟨rfl,hk,hs⟩;have HK6:=AB hk;have HR6:=AB ((hs _ (AY.2 rfl)).trans (AA HRS));clear hk hs);go_roundw;case rel=>exact⟨1,n,rfl,by omega,HK6,HR6⟩
   case measure=>simp[intOf]
  by_cases c1:k=1
  .subst c1;have hc:wr.cell? ⟨gb,1,none⟩=some (.string ⟨#[226,141,181]⟩):=by have hb:=AA HRS;simp[World.cell?,hb]
   have hgl:=lt_of_block (AA HRS);go_wp2_with(go_at_call 44;refine(AA HN1 (AA HKR)).mono ?_;rintro e w6⟨rfl,hk,hs⟩;have HK6:=AB hk;have HR6:=AB ((hs _ (AY.2 rfl)).trans (AA HRS));clear hk hs);go_roundw;case rel=>exact⟨2,n,rfl,by omega,HK6,HR6⟩
   case measure=>simp[intOf]
  by_cases c2:k=2
  .subst c2;have hc:wr.cell? ⟨gb,2,none⟩=some (.string ⟨#[226,141,172]⟩):=by have hb:=AA HRS;simp[World.cell?,hb]
   have hgl:=lt_of_block (AA HRS);go_wp2_with(go_at_call 44;refine(AA HN2 (AA HKR)).mono ?_;rintro e w6⟨rfl,hk,hs⟩;have HK6:=AB hk;have HR6:=AB ((hs _ (AY.2 rfl)).trans (AA HRS));clear hk hs);go_roundw;case rel=>exact⟨3,n,rfl,by omega,HK6,HR6⟩
   case measure=>simp[intOf]
  have c3:k=3:=by omega
  subst c3;go_wp2_with(first|(go_at_call 144;refine(AA HW1 (AA HKR)).mono ?_;clear HW1;rintro e w6⟨rfl,hk,_⟩;obtain⟨p0,p1,p2,p3,f0,f1,f2,f3,hpl⟩:=hk.all;have HK6:=AB hk;clear hk)|(go_at_call 94;refine(AA HRD _ _ _ (AA HK6)).mono ?_;rintro e w7⟨z,nd7,ds,rfl,hk,_,_,hl,ht⟩;have HK7:=AB hk;have HL:=AB hl;have HT:=AB ht;clear hk hl ht)|(go_at_call 144;refine(AA HW2 (AA HK7)).mono ?_;rintro e w8⟨rfl,hk,_⟩;have HK8:=AB hk;clear hk));go_ret;exact DB (by rw[AH,AA HXL];have:=AA HL;omega) (AA HK8) (by omega) _
def Ye(E:Bk Z ta tn ts)(h:EV Z p ta tn tc false w i nd xs)(hi:i<=4100)(AQ:xs.length+4*(5000- i)<=100000)(h1:(AF ts).cl i=40)(hiq:i+1<=q)(hR:BM Z p ta tn tc 94 #[.pointer (some ⟨p,0,none⟩)] (i+1) false q t):Calls prog 147 #[.pointer (some ⟨p,0,none⟩)] w (Bf Z p ta tn tc w nd xs i false (q) ([])):=by
 have HK:=AB (KS.start h);have hxl:(xs.map AW.d).length=xs.length:=AS ..;obtain⟨NS,hNS⟩:∃NS,xs.map AW.d=NS:=⟨_,rfl⟩
 rw[hNS]at HK hxl;have hxm:NS.length<=100000:=by omega
 have hkc:(Al ts 0 i).k=4:=by rcases CK E.ok i with h'|h'|h'|h'|h'<;>omega
 have HKD:=AB (Yp (i:=i) E hkc);have HNM:=AB (IF (i:=i) E false (r:=false) (AD (by rw[h1];decide)));have HN0:=AB (Im (i:=i) E (by omega) 9082 ID IE (by rw[h1];decide));have HN1:=AB (Im (i:=i) E (by omega) 9077 JC JE (by rw[h1];decide));have HN2:=AB (Im (i:=i) E (by omega) 9068 LR LS (by rw[h1];decide));have HW1:=AB (Yn (i:=i) E (by omega) 40 FX FY h1);have HRD:=AB (fun(gb:Nat)(V:World)(n:Value)(hk:KS Z p ta tn tc w nd xs [gb] NS (i+1) false V n A3 [])=>hk.read hR (by omega));have HW2:=AB (fun(gb:Nat)(V:World)(n:Value)(ds:List AM)(hk:KS Z p ta tn tc w nd xs [gb] (NS++ds) (q) true V n A3 [])=>hk.via fun _ hX=>O0 hX ⟨#[41]⟩);have HXL:=AB hxl;clear h hxl hkc h1 hR E;go_enter func147,ntmps147;go_wp2_with(first|(go_at_call 143;refine(AA HKD (AA HK)).mono ?_;rintro e w5⟨rfl,hk,_⟩;replace HK:=AB hk;clear hk)|(go_at_call 90;refine(AA HNM (AA HK)).mono ?_;rintro e w4⟨rfl,hk,_⟩;have HK4:=AB (hk.box (.cells #[.string ⟨#[226,141,186]⟩,.string ⟨#[226,141,181]⟩,.string ⟨#[226,141,172]⟩] 9));clear hk));obtain⟨gb,hgb⟩:∃gb,gb=w4.heap.size:=⟨_,rfl⟩
 have HR0:Hid ((w4.alloc (.cells #[.string ⟨#[226,141,186]⟩,.string ⟨#[226,141,181]⟩,.string ⟨#[226,141,172]⟩] 9)).heap[gb]? =some (.cells #[.string ⟨#[226,141,186]⟩,.string ⟨#[226,141,181]⟩,.string ⟨#[226,141,172]⟩] 9 (0,0))):=by rw[hgb];show(w4.heap.push _)[w4.heap.size]? =_;simp
 rw[<-hgb]at HK4 ⊢;clear hgb HK HKD HNM;go_loopw[6] (fun u wr=>∃(k:Nat)(n:Value),u=.int .i64 (k:Nat)/\k<=3/\Hid (KS Z p ta tn tc w nd xs [gb] NS i false wr n A3 [])/\Hid (wr.heap[gb]? =some (.cells #[.string ⟨#[226,141,186]⟩,.string ⟨#[226,141,181]⟩,.string ⟨#[226,141,172]⟩] 9 (0,0)))) (fun u _=>4- (intOf u).toNat);case atStart=>exact⟨0,nd,rfl,by omega,HK4,HR0⟩
 case round=>
  obtain⟨k,n,rfl,hk3,HKR,HRS⟩:=hrel;clear HK4 HR0;by_cases c0:k=0
  .subst c0;have hc:wr.cell? ⟨gb,0,none⟩=some (.string ⟨#[226,141,186]⟩):=by have hb:=AA HRS;simp[World.cell?,hb]
   have hgl:=lt_of_block (AA HRS);go_wp2_with(go_at_call 44;refine(AA HN0 (AA HKR)).mono ?_;rintro e w6⟨rfl,hk,hs⟩;have HK6:=AB hk;have HR6:=AB ((hs _ (AY.2 rfl)).trans (AA HRS));clear hk hs);go_roundw;case rel=>exact⟨1,n,rfl,by omega,HK6,HR6⟩
   case measure=>simp[intOf]
  by_cases c1:k=1
  .subst c1;have hc:wr.cell? ⟨gb,1,none⟩=some (.string ⟨#[226,141,181]⟩):=by have hb:=AA HRS;simp[World.cell?,hb]
   have hgl:=lt_of_block (AA HRS);go_wp2_with(go_at_call 44;refine(AA HN1 (AA HKR)).mono ?_;rintro e w6⟨rfl,hk,hs⟩;have HK6:=AB hk;have HR6:=AB ((hs _ (AY.2 rfl)).trans (AA HRS));clear hk hs);go_roundw;case rel=>exact⟨2,n,rfl,by omega,HK6,HR6⟩
   case measure=>simp[intOf]
  by_cases c2:k=2
  .subst c2;have hc:wr.cell? ⟨gb,2,none⟩=some (.string ⟨#[226,141,172]⟩):=by have hb:=AA HRS;simp[World.cell?,hb]
   have hgl:=lt_of_block (AA HRS);go_wp2_with(go_at_call 44;refine(AA HN2 (AA HKR)).mono ?_;rintro e w6⟨rfl,hk,hs⟩;have HK6:=AB hk;have HR6:=AB ((hs _ (AY.2 rfl)).trans (AA HRS));clear hk hs);go_roundw;case rel=>exact⟨3,n,rfl,by omega,HK6,HR6⟩
   case measure=>simp[intOf]
  have c3:k=3:=by omega
  subst c3;go_wp2_with(first|(go_at_call 144;refine(AA HW1 (AA HKR)).mono ?_;clear HW1;rintro e w6⟨rfl,hk,_⟩;obtain⟨p0,p1,p2,p3,f0,f1,f2,f3,hpl⟩:=hk.all;have HK6:=AB hk;clear hk)|(go_at_call 94;refine(AA HRD _ _ _ (AA HK6)).mono ?_;rintro e w7⟨z,nd7,ds,rfl,hk,_,_,hl,ht⟩;have HK7:=AB hk;have HL:=AB hl;have HT:=AB ht;clear hk hl ht)|(go_at_call 144;refine(AA HW2 _ _ _ _ (AA HK7)).mono ?_;rintro e w8⟨rfl,hk,_⟩;have HK8:=AB hk;clear hk));go_ret;exact DB (by rw[AH,AA HXL];have:=AA HL;omega) (AA HK8) (by omega) _
end
