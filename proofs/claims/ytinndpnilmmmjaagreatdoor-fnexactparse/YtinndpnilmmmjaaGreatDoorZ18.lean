import Derived.Test.YtinndpnilmmmjaaGreatDoorZ16
import Derived.Test.YtinndpnilmmmjaaGreatDoorZ15
import Derived.Laws.AppendOwnNone
import Derived.Test.YtinndpnilmmmjaaGreatDoorZ17
import Derived.Test.YtinndpnilmmmjaaGreatDoorZ13
import Derived.Test.YtinndpnilmmmjaaGreatDoorZ10
import Derived.Test.YtinndpnilmmmjaaGreatDoorZ11
set_option linter.defProp false
namespace Go.Proofs.YtinndpnilmmmjaaGreatDoor
open Go.RowKit Go.Proofs.Tryz
structure Bs(T:AE)(i:Nat)(l:List UInt8):Prop where
 le:i+l.length<=T.size
 eq:∀j(h:j<l.length),bt T (i+j)=(l[j]).toNat
def Nx(k:Int)(T:AE)(e:Nat):Prop:=e=T.size\/(e<T.size/\(k=1\/k=3->Bn (bt T e)=false)/\(k=1->CM T e=false)/\(k=2->bt T e≠39))
def Bs.sub{T:AE}{i:Nat}{l:List UInt8}(h:Bs T i l):(T.extract i (i+l.length)).data.toList=l:=by
 have h1:=h.le;rw[Cq,C1];apply List.ext_getElem?;intro j;by_cases hj:j<l.length
 .have hl:i+j<T.data.toList.length:=by rw[<-Lib.size_eq];omega
  rw[BN,AL hj,Dw,AR hl,AR hj];have:=h.eq j hj;rw[Cl (by omega),AP,AR hl,Cz]at this;rw[UInt8.toNat_inj.1 this]
 .rw[CU (by rw[CF];omega),CU (by omega)]
def Bs.self(x:AE):Bs x 0 x.data.toList:=by
 refine⟨by rw[<-Lib.size_eq];omega,fun j hj=> ?_⟩;have:j<x.size:=by rw[Lib.size_eq];exact hj
 rw[BY,Cl this,AP,AR hj,Cz]
structure ar(k n:Int)(t x:AE):Prop where
 pos:0<x.size
 reads:∀(T:AE)(i:Nat),Bs T i x.data.toList->Nx k T (i+x.size)->BO T i=⟨k,n,t,i+x.size,0⟩/\DX T i=false/\¬(bt T i=32\/bt T i=9)
def dY{k:Int}{T:AE}{e:Nat}(h:Nx k T e)(hk:k=1\/k=3)(q:Nat->Bool)(hq:∀b,q b=true->Bn b=true):¬(e<T.size/\q (bt T e)=true):=by
 rintro⟨h1,h2⟩;rcases h with h|⟨_,h,_⟩
 .omega
 .rw[hq _ h2]at h;exact absurd (h hk) (by decide)
def TB{s:AE}{p e:Nat}(hp:p<s.size)(hL:El (bt s p)=true)(he:Bb Bn s p=e)(h20:¬ 20<e- p):ar 3 0 (s.extract p e) (s.extract p e):=by
 have h1:p<e:=by have h5:=GB (p:=Bn) hp (by unfold Bn;rw[hL];rfl);have h6:=IV Bn s (p+1);omega
 have h2:e<=s.size:=by rw[<-he];exact He Bn s p (by omega)
 have hsz:(s.extract p e).size=e- p:=by rw[BH];omega
 have hxb:∀j,j<e- p->bt (s.extract p e) j=bt s (p+j):=fun j hj=>by rw[Cl (by omega),Cl (by omega),Cq];simp only[AP,BN,Dw];rw[AL hj]
 refine⟨by omega,fun T i hb hx=> ?_⟩;have hxl:(s.extract p e).data.toList.length=e- p:=by rw[<-Lib.size_eq,hsz]
 have hbt:∀j,j<e- p->bt T (i+j)=bt s (p+j):=fun j hj=>by rw[hb.eq j (by omega),<-hxb j hj,Cl (by omega),AP,AR (by omega),Cz]
 have hle:=hb.le;have hsub:=hb.sub;rw[hxl]at hle hsub;rw[hsz]at hx ⊢;have hb0:bt T i=bt s p:=by have:=hbt 0 (by omega);simpa using this
 have hend:Bb Bn T i=i+(e- p):=by refine JR _ i (fun j hj=>⟨by omega,?_⟩) (dY hx (.inr rfl) Bn fun _ h=>h);rw[hbt j hj];exact(LE (p:=Bn) (s:=s) (i:=p) (k:=p+j) (by omega) (by rw[he];omega)).2
 have hLb:=hL;unfold El at hLb;have hLr:(97<=bt s p/\bt s p<=122)\/(65<=bt s p/\bt s p<=90):=by
  rcases DG _ _▸hLb with h|h
  .exact .inl (AT h)
  .exact .inr (AT h)
 refine⟨?_,?_,by omega⟩
 .unfold BO;rw[AG (by
   rintro(h|h)
   .unfold Es at h;have:=AT h;omega
   .unfold CM at h;have:=AT h;omega),AG (by omega),AL (by rw[hb0];exact hL)]
  unfold Fm;rw[hend,AG (by omega)];congr 1;exact CJ (CI.1 hsub)
 .unfold DX;exact AD fun hh=>by omega
def Nq{k n:Int}{t:AE}(h:ar k n t (Dd k n t))(hs:(Dd k n t).size<=2000):DJ k n t=Dd k n t:=by
 obtain⟨x,hx⟩:∃x,Dd k n t=x:=⟨_,rfl⟩
 unfold DJ;rw[hx]at h hs ⊢;have hp:=h.pos;obtain⟨h1,h2,h3⟩:=h.reads x 0 (Bs.self x) (.inl (by omega));have hl:Br x=([⟨k,n,t,0⟩],0,0):=by unfold Br;rw[AG (by omega),FH,AL ⟨hp,h2⟩,AG h3,h1];show(if(0:Int)≠0 then _ else FH x x.size (0+x.size) ([]++ [⟨k,n,t,0⟩]))=_;rw[AG (by decide),Ky (by omega)];rfl
 rw[hl,AL (by unfold EY;simp)]
def Vy{s:AE}{i:Nat}(hc:(BO s i).c=0)(h3:(BO s i).k=3):El (bt s i)=true/\¬ 20<Bb Bn s i- i/\(BO s i).t=s.extract i (Bb Bn s i):=by
 unfold BO at hc h3 ⊢;by_cases c1:Es (bt s i)=true\/CM s i=true
 .rw[AL c1]at hc h3;exfalso;obtain⟨f,hf⟩:∃f,(if CM s i=true then i+2 else i)=f:=⟨_,rfl⟩
  obtain⟨e,he⟩:∃e,Bb Es s f=e:=⟨_,rfl⟩
  by_cases hb:e=f\/(e<s.size/\El (bt s e)=true)\/CM s e=true
  .rw[Ee hf he hb]at hc;simp[Di]at hc
  .by_cases hv:1000000000000000<GE s f (e- f)
   .rw[Fq hf he hb hv]at hc;simp[Di]at hc
   .rw[GV hf he hb hv]at h3;exact absurd (show(1:Int)=3 from h3) (by decide)
 .rw[AG c1]at hc h3 ⊢;by_cases c2:bt s i=39
  .rw[AL c2]at hc h3;exfalso;have key:∀(f p:Nat)(out:List UInt8),(BF s f p out).c=0->(BF s f p out).k=2:=by
    intro f;induction f with
    |zero=>intro p out h;rw[BF]at h;simp[Di]at h
    |succ f ih=>
     intro p out h;rw[BF]at h ⊢;by_cases d1:p<s.size
     .rw[AL d1]at h ⊢;by_cases d2:bt s p=39
      .rw[AL d2]at h ⊢;by_cases d3:Eo s p=true
       .rw[AL d3]at h ⊢;exact ih _ _ h
       .rw[AG d3]
      .rw[AG d2]at h ⊢;by_cases d3:(Am s p).2=0\/bt s p=10
       .rw[AL d3]at h;simp[Di]at h
       .rw[AG d3]at h ⊢;exact ih _ _ h
     .rw[AG d1]at h;simp[Di]at h
   rw[key _ _ _ hc]at h3;exact absurd h3 (by decide)
  .rw[AG c2]at hc h3 ⊢;by_cases c3:El (bt s i)=true
   .rw[AL c3]at hc ⊢;unfold Fm at hc ⊢;by_cases c4:20<Bb Bn s i- i
    .rw[AL c4]at hc;simp[Di]at hc
    .rw[AG c4];exact⟨c3,c4,rfl⟩
   .rw[AG c3]at hc h3;unfold Ea at hc h3;by_cases c4:0<(Am s i).2/\(Am s i).1∈Ar
    .rw[AL c4]at h3;exact absurd (show(4:Int)=3 from h3) (by decide)
    .rw[AG c4]at hc;simp[Di]at hc
def aJ{k n:Int}{t x:AE}(h:EY k n t (Br x)=true):∃y c p,Br x=([y],c,p)/\c=0/\y.k=k/\y.n=n/\y.t=t:=by
 obtain⟨r,hr⟩:∃r,Br x=r:=⟨_,rfl⟩
 rw[hr]at h ⊢;unfold EY at h;split at h
 .rename_i y c p
  simp only[An,As]at h;exact⟨y,c,p,rfl,h.1.1.1,h.1.1.2,h.1.2,h.2⟩
 .cases h
def M9(s:AE):(DJ 3 0 s).size≠0↔(1<=s.size/\s.size<=20/\El (bt s 0)=true/\∀i,i<s.size->Bn (bt s i)=true):=by
 have hsp:Dd 3 0 s=s:=rfl;constructor
 .intro h;unfold DJ at h;rw[hsp]at h;by_cases hb:EY 3 0 s (Br s)=true;case neg=>rw[AG hb]at h;exact absurd rfl h
  rw[AL hb]at h;obtain⟨y,c,p,hl,hc,hk,hn,ht⟩:=aJ hb;subst hc;have hs:¬ 2000<s.size:=fun h'=>by unfold Br at hl;rw[AL h']at hl;simp at hl
  have hl2:FH s (s.size+1) 0 []=([y],0,p):=by unfold Br at hl;rw[AG hs]at hl;exact hl
  obtain⟨more,hm,hx⟩:=JL (s:=s) (s.size+1) 0 [] (AZ _) (by rw[hl2]);rw[hl2]at hm;have hm':more= [y]:=by simpa using hm.symm
  obtain⟨h1,h2,h3⟩:=hx y (by rw[hm'];simp);have ek:(BO s y.p).k=y.k:=(AV CO.k h3).symm;have et:(BO s y.p).t=y.t:=(AV CO.t h3).symm;obtain⟨a1,a2,a3⟩:=Vy h2 (by rw[ek,hk]);rw[et,ht]at a3;have hz:=AV ByteArray.size a3;rw[BH]at hz;have he:=He Bn s y.p (by omega);have hp0:y.p=0:=by omega
  rw[hp0]at a1 a2 hz he;have hee:Bb Bn s 0=s.size:=by omega
  exact⟨by omega,by omega,a1,fun i hi=>(LE (p:=Bn) (i:=0) (k:=i) (by omega) (by omega)).2⟩
 .rintro⟨h1,h2,h3,h4⟩;have hee:Bb Bn s 0=s.size:=by have:=JR (p:=Bn) (s:=s) s.size 0 (fun j hj=>⟨by omega,by rw[BY];exact h4 j hj⟩) (by omega);omega
  have ha:=TB (s:=s) (p:=0) (e:=s.size) (by omega) h3 hee (by omega);have hx:s.extract 0 s.size=s:=ByteArray.extract_zero_size;rw[hx]at ha;have:=Nq (k:=3) (n:=0) (t:=s) ha (by rw[hsp];omega);rw[this,hsp];omega
def Td(s:AE)(hi:Bool):C8 s hi=(decide ((DJ 3 0 s).size≠0)&&(decide (bt s 0<=90)==hi)):=by unfold C8;rw[BQ.2 (M9 s).symm]
def B2(s:AE):Bool:=decide ((DJ 2 0 s).size≠0)
def UA{s:AE}(h:2000<s.size):B2 s=false:=by
 unfold B2;refine AD fun hh=>hh ?_;unfold DJ;have hz:2000<(Dd 2 0 s).size:=by show 2000<(EC s.data.toList).toArray.size;have:=(Mu s.data.toList).2;rw[<-Lib.size_eq]at this;unfold EC;unfold qd at this;rw[Eu,Ba,AH];omega
 have hb:EY 2 0 s (Br (Dd 2 0 s))=false:=by unfold Br;rw[AL hz];rfl
 rw[hb];rfl
def aA(s:AE):s.data.toList.length=s.size:=by rw[<-Lib.size_eq]
def MZ(t:AE):Nat:=(Ar.find? fun c=>decide (BU (BW ((c:Nat):Int))=t)).getD 0
def R3:(Ar.all fun c=>decide (MZ (BU (BW ((c:Nat):Int)))=c))=true:=by kernel_rfl
def FD{c:Nat}(h:c∈Ar):MZ (BU (BW ((c:Nat):Int)))=c:=by have:=Ax.mp R3 c h;exact AT this
def If:(Ar.all fun c=>decide (40<=c))=true:=by kernel_rfl
def JS(y:CO):Nat:=if y.k=1 then 1 else if y.k=2 then 2 else if y.k=3 then(if bt y.t 0<=90 then 4 else 3)else if y.k=4 then MZ y.t else 0
def F0(y:CO):Prop:=(y.k=1/\D8 y.n=true)\/y.k=2\/(y.k=3/\0<y.t.size/\(bt y.t 0<=90\/97<=bt y.t 0))\/(y.k=4/\∃c∈Ar,y.t=BU (BW ((c:Nat):Int)))
def F0.sign{y:CO}(h:F0 y){c:Nat}(hc:c∈Ar):(decide (y.k=4)&&(y.t.toList==(BU (BW ((c:Nat):Int))).toList))=decide (JS y=c):=by
 have hge:40<=c:=AT (Ax.mp If c hc);unfold JS;rcases h with⟨h,_⟩|h|⟨h,_⟩|⟨h,c',hc',ht⟩
 .rw[h];simp;omega
 .rw[h];simp;omega
 .rw[h];simp;split<;>omega
 .rw[h];simp only[decide_true,Ap];rw[AG (by decide),AG (by decide),AG (by decide),AL trivial,ht,FD hc'];by_cases e:c'=c
  .subst e;simp
  .rw[AD e];refine BC.2 fun e2=>e ?_;rw[Lib.toList_data,Lib.toList_data]at e2;have e3:BU (BW ((c':Nat):Int))=BU (BW ((c:Nat):Int)):=CJ (CI.1 e2);rw[<-FD hc',e3,FD hc]
def AF(ts:List CO):DN where
 cl i:=if i<ts.length then JS (Al ts 0 i)else 0
 nv i:=(Al ts 0 i).n
 sv i:=(Al ts 0 i).t
 len:=ts.length
def Ab(ts:List CO):(AF ts).Ends:=fun i h=>by refine FV fun hn=>h ?_;have hn':¬ i<ts.length:=hn;show(if i<ts.length then JS (Al ts 0 i)else 0)=0;rw[AG hn']
def Jf{ts:List CO}(h:∀y∈ts,F0 y)(AJ i:Nat){c:Nat}(hc:c∈Ar):(decide ((Al ts AJ i).k=4)&&((Al ts AJ i).t.toList==(BU (BW ((c:Nat):Int))).toList))=decide ((AF ts).cl i=c):=by
 have hge:40<=c:=AT (Ax.mp If c hc);show _=decide ((if i<ts.length then JS (Al ts 0 i)else 0)=c);by_cases hi:i<ts.length
 .rw[AL hi];have e:∀b,Al ts b i=ts[i]:=fun b=>by unfold Al;simp[List.getD_eq_getElem?_getD,hi]
  rw[e,e];exact F0.sign (h _ (By _)) hc
 .rw[AG hi];have e:Al ts AJ i=⟨0,0,⟨#[]⟩,AJ⟩:=by unfold Al;rw[AP,CU (by omega)];rfl
  rw[e];simp;omega
def FX:40∈Ar:=by decide
def FY:(⟨#[40]⟩:AE)=BU (BW ((40:Nat):Int)):=by kernel_rfl
def Ke:([40]:List UInt8)=(⟨#[40]⟩:AE).toList:=by kernel_rfl
def R9:41∈Ar:=by decide
def SA:(⟨#[41]⟩:AE)=BU (BW ((41:Nat):Int)):=by kernel_rfl
def bJ:([41]:List UInt8)=(⟨#[41]⟩:AE).toList:=by kernel_rfl
def MA:46∈Ar:=by decide
def MB:(⟨#[46]⟩:AE)=BU (BW ((46:Nat):Int)):=by kernel_rfl
def Kh:47∈Ar:=by decide
def Ki:(⟨#[47]⟩:AE)=BU (BW ((47:Nat):Int)):=by kernel_rfl
def ZK:58∈Ar:=by decide
def ZL:(⟨#[58]⟩:AE)=BU (BW ((58:Nat):Int)):=by kernel_rfl
def WX:59∈Ar:=by decide
def WY:(⟨#[59]⟩:AE)=BU (BW ((59:Nat):Int)):=by kernel_rfl
def Mh:91∈Ar:=by decide
def Mi:(⟨#[91]⟩:AE)=BU (BW ((91:Nat):Int)):=by kernel_rfl
def Nw:92∈Ar:=by decide
def Ny:(⟨#[92]⟩:AE)=BU (BW ((92:Nat):Int)):=by kernel_rfl
def UT:93∈Ar:=by decide
def UU:(⟨#[93]⟩:AE)=BU (BW ((93:Nat):Int)):=by kernel_rfl
def Fb:123∈Ar:=by decide
def Fc:(⟨#[123]⟩:AE)=BU (BW ((123:Nat):Int)):=by kernel_rfl
def MY:([123]:List UInt8)=(⟨#[123]⟩:AE).toList:=by kernel_rfl
def Iu:125∈Ar:=by decide
def Iv:(⟨#[125]⟩:AE)=BU (BW ((125:Nat):Int)):=by kernel_rfl
def aW:([125]:List UInt8)=(⟨#[125]⟩:AE).toList:=by kernel_rfl
def Cr:8592∈Ar:=by decide
def Cs:(⟨#[226,134,144]⟩:AE)=BU (BW ((8592:Nat):Int)):=by kernel_rfl
def Ez:([226,134,144]:List UInt8)=(⟨#[226,134,144]⟩:AE).toList:=by kernel_rfl
def J9:8711∈Ar:=by decide
def KD:(⟨#[226,136,135]⟩:AE)=BU (BW ((8711:Nat):Int)):=by kernel_rfl
def EN:8728∈Ar:=by decide
def EO:(⟨#[226,136,152]⟩:AE)=BU (BW ((8728:Nat):Int)):=by kernel_rfl
def PD:8900∈Ar:=by decide
def PE:(⟨#[226,139,132]⟩:AE)=BU (BW ((8900:Nat):Int)):=by kernel_rfl
def Gn:9023∈Ar:=by decide
def Gp:(⟨#[226,140,191]⟩:AE)=BU (BW ((9023:Nat):Int)):=by kernel_rfl
def JD:9024∈Ar:=by decide
def JF:(⟨#[226,141,128]⟩:AE)=BU (BW ((9024:Nat):Int)):=by kernel_rfl
def LR:9068∈Ar:=by decide
def LS:(⟨#[226,141,172]⟩:AE)=BU (BW ((9068:Nat):Int)):=by kernel_rfl
def JC:9077∈Ar:=by decide
def JE:(⟨#[226,141,181]⟩:AE)=BU (BW ((9077:Nat):Int)):=by kernel_rfl
def ID:9082∈Ar:=by decide
def IE:(⟨#[226,141,186]⟩:AE)=BU (BW ((9082:Nat):Int)):=by kernel_rfl
def Pa(k:Int)(b off n:Nat)(ks:List Int)(w:World)(hk:1<=k/\k<=25)(h:Df w (some ⟨b,off,none⟩) n ks):Calls prog 25 #[.int .i64 k,.slice (some ⟨b,off,none⟩) n n] w fun e w'=>e=.returned (.bool (Bu k ks))/\Below w.heap.size w w':=by
 rcases NH k with e|e|e|e|e|e|e|e|e|e|e|e|e|e|e|e|e|e|e|e|e|e|e|e|e|e|e
 .omega
 .omega
 .subst e;exact XY b off n n ks w h
 .subst e;exact XX b off n n ks w h
 .subst e;exact XW b off n n ks w h
 .subst e;exact XV b off n n ks w h
 .subst e;exact XU b off n n ks w h
 .subst e;exact XT b off n n ks w h
 .subst e;exact XR b off n ks w h
 .subst e;exact XQ b off n n ks w h
 .subst e;exact XP b off n n ks w h
 .subst e;exact VB b off n n ks w h
 .subst e;exact VA b off n n ks w h
 .subst e;exact U9 b off n n ks w h
 .subst e;exact U8 b off n n ks w h
 .subst e;exact U7 b off n n ks w h
 .subst e;exact U6 b off n n ks w h
 .subst e;exact U5 _ n n ks w h
 .subst e;exact U4 b off n n ks w h
 .subst e;exact U3 b off n n ks w h
 .subst e;exact U2 b off n n ks w h
 .subst e;exact U1 b off n n ks w h
 .subst e;exact U0 b off n ks w h
 .subst e;exact Uz b off n n ks w h
 .subst e;exact Uy b off n n ks w h
 .subst e;exact Ux b off n n ks w h
 .subst e;exact Uw _ n n ks w h
section
open Go.ChangeShapes Go.WideShapes Go.ChangeAt Go.Joins
namespace OpenTok
def cj{H:Type}{enc:TypeId×Value->H}{a:Assume}{C:Checked}{os:Os}{f:FuncId}{fn:Func}{s:ChangeSpec}{conds:List PathCond}{apart fresh handsOn again:Bool}{X:World->Array Value->Prop}(hX:∀(w w':World)(args:Array Value),w.heap=w'.heap->X w args->X w' args)(own:ownKnob C.prog.godebug=none)(started:os.Started)(noInit:C.prog.inits.idxOf? f=none)(hfn:C.prog.funcs[f]? =some fn)(witness:∃(w:World)(tape:Tape)(i:Input),w.os=os/\(w.forCall tape i).Shaped C.prog/\i.vars= []/\Input.okWide C.prog (w.forCall tape i) .any w.heap.size f i/\((s.pre enc C.prog fn conds apart (w.forCall tape i).memory i.args/\X (w.forCall tape i).memory i.args)/\sizedMet enc C.prog fn (OpenSpec.ofChange s) apart (w.forCall tape i).memory i.args)/\a.holds C.prog (lone (Frame.enter C.prog f i.args .normal) [] (w.forCall tape i)))(contract:∀(W:World)(base:Nat)(args:Array Value)(ds gs:List (DataW H))(before:List MemPlace),(∀(j:Nat)t v,fn.params[j]? =some t->args[j]? =some v->Value.okWide C.prog W .any base t v)->DataW.Whole enc C.prog fn.params.toList s.vars apart W args.toList ds gs before->X W args->W.ShapedOpen C.prog->Calls C.prog f args W fun e W'=>∃v,e=.returned v/\s.post enc C.prog fn apart fresh handsOn again W args v W'):ReturnsInHanded a C os f .any (fun w args=>(s.pre enc C.prog fn conds apart w args/\X w args)/\sizedMet enc C.prog fn (OpenSpec.ofChange s) apart w args) (s.post enc C.prog fn apart fresh handsOn again):=by refine returnsInHanded_of_calls own started noInit witness ?_;intro w tape i _ hsh _ hok hpre _;obtain⟨_,_,_,fn',hfn',_,_,_,_,hval⟩:=hok;have e:fn'=fn:=Ac (hfn'.symm.trans hfn);subst e;obtain⟨⟨⟨ds,gs,before,hw,_⟩,hx⟩,_⟩:=hpre;have hw':=DataW.Whole.of_heap (w':=w.forCall tape i) (by rfl) hw;refine(contract (w.forCall tape i) w.heap.size i.args ds gs before hval hw' (hX _ _ _ (by rfl) hx) hsh).mono fun e W'⟨v,he,hp⟩=> ?_;subst he;exact ChangeSpec.post_blind hp
def ep:prog.cellsOf 227=20:=by kernel_rfl
def eo:prog.cellsOf 212=1:=by kernel_rfl
def eY:prog.globalNamed "internal/strconv.uint64pow10"=some 5:=by kernel_rfl
def eN:(prog.globals[5]?).map (·.type)=some 227:=by kernel_rfl
def ej:(Rows.laid_internal_strconv_uint64pow10:DataW Unit)=Lib.tabData .u64 Lib.pow10Tab:=by kernel_rfl
def eW(W:World)(hsh:W.ShapedOpen prog):∃m,W.cell? ⟨4,0,none⟩=some (.int .i64 m):=Go.Proofs.cell_of_shapedOpen_int (t:=3) (zero:= #[.int .i64 0]) hsh (AT (by kernel_rfl)) (by kernel_rfl) rfl (by kernel_rfl) (by kernel_rfl) underlying3
def Tm{W:World}{l:List (String×DataW Unit)}(h:laidMet prog l W)(m:("internal/strconv.uint64pow10",Rows.laid_internal_strconv_uint64pow10)∈l)(hsh:W.ShapedOpen prog):Vq W:=by refine⟨?_,eW W hsh⟩;obtain⟨g,t,cs,fuel,p,hg,hty,hvar,hd⟩:=Lib.laidMet.reads h m;obtain rfl:=Ac (eY.symm.trans hg);obtain rfl:=Ac (eN.symm.trans hty);rw[ej]at hd;unfold Lib.TabIs;rw[hvar,<-Lib.cells_of_tab underlying227 underlying212 eo ep hd]
end OpenTok
end
