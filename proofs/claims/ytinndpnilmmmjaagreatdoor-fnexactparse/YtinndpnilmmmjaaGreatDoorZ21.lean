import Derived.Test.YtinndpnilmmmjaaGreatDoorZ18
set_option maxRecDepth 20000
set_option maxHeartbeats 4000000
set_option linter.defProp false
namespace Go.Proofs.YtinndpnilmmmjaaGreatDoor
open Go.RowKit Go.Proofs.Tryz
structure Bk(Z:World)(ta:Option Addr)(tn:Nat)(ts:List CO):Prop where
 row:Ht Z ta tn ts
 ok:∀y∈ts,F0 y
 nam:∀y∈ts,y.k=3->∀hi,C8 y.t hi=(decide (bt y.t 0<=90)==hi)
 siz:∀y∈ts,y.t.size<=1048576
 few:tn<=4096
abbrev EV(Z:World)(p:Nat)(ta:Option Addr)(tn tc:Nat)(b:Bool):World->Nat->Value->List AW->Prop:=PS 81 Z p (.slice ta tn tc) (.bool b)
def Ej(ts:List CO)(j:Nat):AE:=if(Al ts 0 j).k=4 then(Al ts 0 j).t else⟨#[]⟩
def Gv{ts:List CO}{j:Nat}{y:CO}(h:ts[j]? =some y)(b:Nat):Al ts b j=y:=by unfold Al;rw[AP,h];rfl
def I8{ts:List CO}{j:Nat}(h:¬ j<ts.length)(b:Nat):Al ts b j=⟨0,0,⟨#[]⟩,b⟩:=by unfold Al;rw[AP,CU (by omega)];rfl
def Ht.belowS{w w':World}{a:Option Addr}{n:Nat}{ts:List CO}(h:Ht w a n ts)(hb:Below w.heap.size w w'):Ht w' a n ts:=by
 refine⟨h.len,?_⟩;rcases h.at_ with h0|⟨b,off,rfl,hlt,hc⟩
 .exact .inl h0
 .exact .inr ⟨b,off,rfl,AX hlt hb.size,fun i hi=>(hb.cell (p:=⟨b,off+i,none⟩) hlt).trans (hc i hi)⟩
def QJ{ts:List CO}(hok:∀y∈ts,F0 y)(j:Nat){c:Nat}(hc:c∈Ar){s:AE}(hs:s=BU (BW ((c:Nat):Int))):((Ej ts j).toList==s.toList)=decide ((AF ts).cl j=c):=by
 rw[<-Jf hok 0 j hc,<-hs];unfold Ej;split
 .rename_i h
  rw[AK h,Ap]
 .rename_i h
  rw[AD h,Bool.false_and];have hge:40<=c:=AT (Ax.mp If c hc);have:s.toList≠ []:=fun e=>by
   have h0:MZ s=c:=by rw[hs];exact FD hc
   have h1:s=⟨#[]⟩:=by rw[Lib.toList_data]at e;exact CJ (CI.1 e)
   rw[h1]at h0;have h2:MZ ⟨#[]⟩=0:=by kernel_rfl
   omega
  have e0:(⟨#[]⟩:AE).toList= []:=by rw[Lib.toList_data]
  rw[e0];cases h':s.toList with
  |nil=>exact absurd h' this
  |cons a l=>rfl
def IC{ts:List CO}{j:Nat}{x:AE}{l:List UInt8}{s:AE}{c:Nat}{r:Bool}(hok:∀y∈ts,F0 y)(hx:Ej ts j=x)(hl:l=s.toList)(hc:c∈Ar)(hs:s=BU (BW ((c:Nat):Int)))(hr:decide ((AF ts).cl j=c)=r):(x.toList==l)=r:=by rw[hl,<-hx,QJ hok j hc hs];exact hr
section
variable {Z:World}{ta:Option Addr}{tn:Nat}{ts:List CO}{p tc:Nat}{w:World}{i:Nat}{nd:Value}{xs:List AW}{b:Bool}
def Y7(E:Bk Z ta tn ts)(h:EV Z p ta tn tc b w i nd xs){z:Int}{j:Nat}(hz:(i:Int)+z=(j:Int))(hj:j<=4200):Calls prog 91 #[.pointer (some ⟨p,0,none⟩),.int .i64 z] w fun e w'=>e=.returned (.string (Ej ts j))/\∃m,w'=w.drewN m:=by
 have hT:=E.row.belowS h.low;have hln:=hT.len;obtain⟨p0,p1,p2,p3,f0,f1,f2,f3,hpl⟩:=h.all;have hwr:IntKind.i64.wrap (j:Int)=(j:Int):=by rw[IntKind.wrap_i64];omega
 clear h E;by_cases hlt:j<tn;case neg=>
  have hl:decide (j<tn)=false:=AD (by omega);have hl2:¬(j:Int)<(tn:Int):=by omega
  have HE:Hid (Ej ts j=⟨#[]⟩):=by show _=_;unfold Ej;rw[I8 (by omega)];rfl
  clear hT hlt hln;go_enter func91,ntmps91;go_wp2_with fail
  go_big_quiet(fail)
  go_wp2_with fail;go_ret;exact⟨by rw[AA HE];rfl,(by first|exact⟨_,rfl⟩|exact⟨_,World.drewN_drewN _ _ _⟩)⟩
 case pos=>
  have hl:decide (j<tn)=true:=AK (by omega);have hl2:(j:Int)<(tn:Int):=by omega
  have hj0:(0:Int)<=(j:Int):=by omega
  obtain⟨tb,off,y,rfl,hbl,hy,a0,a1,a2,a3⟩:=hT.get hlt;have hty:=Gv hy 0;obtain⟨yk,yn,yt,yp⟩:=y;by_cases h4:yk=4
  .subst h4;have HE:Hid (Ej ts j=yt):=by show _=_;unfold Ej;rw[hty];rfl
   clear hT hlt hln hy hty;go_enter func91,ntmps91;go_wp2_with fail
   go_big_quiet(fail)
   go_wp2_with fail
   go_big_quiet(fail)
   go_wp2_with fail;go_ret;exact⟨by rw[AA HE];rfl,(by first|exact⟨_,rfl⟩|exact⟨_,World.drewN_drewN _ _ _⟩)⟩
  .have h4':(yk==4)=false:=by simpa using h4
   have HE:Hid (Ej ts j=⟨#[]⟩):=by show _=_;unfold Ej;rw[hty,AG h4]
   clear hT hlt hln hy hty h4;go_enter func91,ntmps91;go_wp2_with fail
   go_big_quiet(fail)
   go_wp2_with fail;go_ret;exact⟨by rw[AA HE];rfl,(by first|exact⟨_,rfl⟩|exact⟨_,World.drewN_drewN _ _ _⟩)⟩
def TJ(E:Bk Z ta tn ts)(h:EV Z p ta tn tc b w i nd xs):Calls prog 143 #[.pointer (some ⟨p,0,none⟩)] w fun e w'=>e=.returned (.int .i64 (Al ts 0 i).k)/\∃m,w'=w.drewN m:=by
 have hT:=E.row.belowS h.low;have hln:=hT.len;obtain⟨p0,p1,p2,p3,f0,f1,f2,f3,hpl⟩:=h.all;clear h E;by_cases hlt:i<tn;case neg=>
  have hl:decide (i<tn)=false:=AD (by omega);have hl2:¬(i:Int)<(tn:Int):=by omega
  have HE:Hid ((Al ts 0 i).k=0):=by show _=_;rw[I8 (by omega)]
  clear hT hlt hln;go_enter func143,ntmps143;go_wp2_with fail
  go_big_quiet(fail)
  go_wp2_with fail;go_ret;exact⟨by rw[AA HE];rfl,(by first|exact⟨_,rfl⟩|exact⟨_,World.drewN_drewN _ _ _⟩)⟩
 case pos=>
  have hl:decide (i<tn)=true:=AK (by omega);have hl2:(i:Int)<(tn:Int):=by omega
  obtain⟨tb,off,y,rfl,hbl,hy,a0,a1,a2,a3⟩:=hT.get hlt;have HE:Hid ((Al ts 0 i).k=y.k):=by show _=_;rw[Gv hy 0]
  obtain⟨yk,yn,yt,yp⟩:=y;clear hT hlt hln hy;go_enter func143,ntmps143;go_wp2_with fail
  go_big_quiet(fail)
  go_wp2_with fail
  go_big_quiet(fail)
  go_wp2_with fail;go_ret;exact⟨by rw[AA HE];rfl,(by first|exact⟨_,rfl⟩|exact⟨_,World.drewN_drewN _ _ _⟩)⟩
def I9(E:Bk Z ta tn ts)(h:EV Z p ta tn tc b w i nd xs){z:Int}{j:Nat}(hz:(i:Int)+z=(j:Int))(hj:j<=4200):Calls prog 91 #[.pointer (some ⟨p,0,none⟩),.int .i64 z] w fun e w'=>e=.returned (.string (Ej ts j))/\Below w.heap.size w w':=(Y7 E h hz hj).mono fun _ _⟨h1,m,h2⟩=>⟨h1,by rw[h2];exact Below.drewN AI m⟩
def Rx(E:Bk Z ta tn ts)(h:EV Z p ta tn tc b w i nd xs):Calls prog 143 #[.pointer (some ⟨p,0,none⟩)] w fun e w'=>e=.returned (.int .i64 (Al ts 0 i).k)/\Below w.heap.size w w':=(TJ E h).mono fun _ _⟨h1,m,h2⟩=>⟨h1,by rw[h2];exact Below.drewN AI m⟩
end
def GJ(X:DN)(o c:Nat):Nat->Int
 |0=>0
 |n+1=>GJ X o c n+(if X.cl n=o then 1 else if X.cl n=c then-1 else 0)
def IZ(X:DN)(o c i q:Nat):Prop:=i<=q/\GJ X o c q=GJ X o c i/\∀k,i<=k->k<=q->GJ X o c i<=GJ X o c k
def A8(X:DN)(o c i:Nat)(x:Option B1):Prop:=∀q l,x=some (true,q,l)->IZ X o c i q
section
variable {X:DN}{o c:Nat}
def IZ.refl(i:Nat):IZ X o c i i:=⟨AC,rfl,fun k h1 h2=>by rw[show k=i by omega];exact Int.le_refl _⟩
def IZ.trans{i j q:Nat}(h1:IZ X o c i j)(h2:IZ X o c j q):IZ X o c i q:=by
 obtain⟨a1,a2,a3⟩:=h1;obtain⟨b1,b2,b3⟩:=h2;refine⟨by omega,by omega,fun k hk hq=> ?_⟩;by_cases h:k<=j
 .exact a3 k hk h
 .have:=b3 k (by omega) hq;omega
def IZ.one{i:Nat}(h1:X.cl i≠o)(h2:X.cl i≠c):IZ X o c i (i+1):=by
 have e:GJ X o c (i+1)=GJ X o c i:=by rw[GJ,AG h1,AG h2];omega
 refine⟨by omega,e,fun k hk hq=> ?_⟩;by_cases h:k=i
 .subst h;exact Int.le_refl _
 .have:k=i+1:=by omega
  subst this;omega
def IZ.wrap{i q:Nat}(hoc:o≠c)(h1:X.cl i=o)(h:IZ X o c (i+1) q)(h2:X.cl q=c):IZ X o c i (q+1):=by
 obtain⟨a1,a2,a3⟩:=h;have e1:GJ X o c (i+1)=GJ X o c i+1:=by rw[GJ,AL h1]
 have e2:GJ X o c (q+1)=GJ X o c q- 1:=by rw[GJ,AG (by rw[h2];exact fun e=>hoc e.symm),AL h2];omega
 refine⟨by omega,by omega,fun k hk hq=> ?_⟩;by_cases h:k=i
 .subst h;exact Int.le_refl _
 .by_cases h':k=q+1
  .subst h';omega
  .have:=a3 k (by omega) (by omega);omega
def A8.ok{i q:Nat}{l:List (List AM)}(h:IZ X o c i q):A8 X o c i (C4 q l):=fun q' l' e=>by cases e;exact h
def A8.bad{i q:Nat}:A8 X o c i (Cp q):=fun q' l' e=>by cases e
def A8.bind{i j:Nat}{x:Option B1}{k:Nat->List (List AM)->Option B1}(h:A8 X o c j x)(hk:∀q l,IZ X o c j q->A8 X o c i (k q l)):A8 X o c i (A7 x k):=by
 cases x with
 |none=>intro q l e;cases e
 |some r=>
  obtain⟨b,q,l⟩:=r;cases b with
  |false=>exact A8.bad
  |true=>exact hk q l (h q l rfl)
def A8.ite{p:Prop} [Decidable p]{i:Nat}{x y:Option B1}(h1:p->A8 X o c i x)(h2:¬ p->A8 X o c i y):A8 X o c i (if p then x else y):=by
 split
 .exact h1 ‹_›
 .exact h2 ‹_›
def A8.from{i j:Nat}{x:Option B1}(h:A8 X o c j x)(hi:IZ X o c i j):A8 X o c i x:=fun q l e=>hi.trans (h q l e)
def OC(o c:Nat):Prop:=(o=40/\c=41)\/(o=91/\c=93)
def FZ(hoc:OC o c){i v:Nat}(h:X.cl i=v)(h1:v≠40)(h2:v≠41)(h3:v≠91)(h4:v≠93):IZ X o c i (i+1):=by
 rcases hoc with⟨rfl,rfl⟩|⟨rfl,rfl⟩
 .exact IZ.one (by omega) (by omega)
 .exact IZ.one (by omega) (by omega)
def Qa(hoc:OC o c){i:Nat}(h:0<Bd (X.cl i)):IZ X o c i (i+1):=by
 have k:∀v,Bd v=0->X.cl i≠v:=fun v hv e=>by rw[e,hv]at h;omega
 exact FZ hoc rfl (k _ (by decide)) (k _ (by decide)) (k _ (by decide)) (k _ (by decide))
def Ks(hoc:OC o c){i:Nat}(h:0<Ah (X.cl i)):IZ X o c i (i+1):=Qa hoc (by unfold Ah at h;split at h<;>omega)
def Rh(hoc:OC o c){i q:Nat}(h1:X.cl i=40)(h:IZ X o c (i+1) q)(h2:X.cl q=41):IZ X o c i (q+1):=by
 rcases hoc with⟨rfl,rfl⟩|⟨rfl,rfl⟩
 .exact IZ.wrap (by decide) h1 h h2
 .exact((IZ.one (by omega) (by omega)).trans h).trans (IZ.one (by omega) (by omega))
def Vt(hoc:OC o c){i q:Nat}(h1:X.cl i=91)(h:IZ X o c (i+1) q)(h2:X.cl q=93):IZ X o c i (q+1):=by
 rcases hoc with⟨rfl,rfl⟩|⟨rfl,rfl⟩
 .exact((IZ.one (by omega) (by omega)).trans h).trans (IZ.one (by omega) (by omega))
 .exact IZ.wrap (by decide) h1 h h2
def Qb(hoc:OC o c):∀(f i:Nat),IZ X o c i (i+(Ct X f i).length)
 |0,i=>IZ.refl i
 |f+1,i=>by
  rw[Ct];split
  .rename_i h
   have:=(FZ hoc h (by decide) (by decide) (by decide) (by decide)).trans (Qb hoc f (i+1));rw[Ba]
   rwa [show i+((Ct X f (i+1)).length+1)=i+1+(Ct X f (i+1)).length by omega]
  .exact IZ.refl i
section
variable {R:Nat->Nat->List AM->Option B1}(hoc:OC o c)(hR:∀m i a,A8 X o c i (R m i a))
def We(hR:∀m i a,A8 X o c i (R m i a))(q:Nat)(a:List AM):A8 X o c q (Ff X R q a):=A8.ite (fun _=>A8.bind (hR 3 q []) fun q2 _ h2=>A8.bind (hR 0 q2 []) fun _ _ h3=>A8.ok (h2.trans h3)) fun _=>A8.ok (IZ.refl _)
def Q0(hR:∀m i a,A8 X o c i (R m i a))(q:Nat)(a:List AM):A8 X o c q (Gu X R q a):=A8.bind (hR 1 q a) fun q2 _ h2=>(We hR q2 _).from h2
def Yd(hoc:OC o c)(hR:∀m i a,A8 X o c i (R m i a))(i:Nat):A8 X o c i (Dj X R i):=by have one:∀ {v:Nat}{l:List (List AM)},X.cl i=v->v≠40->v≠41->v≠91->v≠93->A8 X o c i (C4 (i+1) l):=fun h h1 h2 h3 h4=>A8.ok (FZ hoc h h1 h2 h3 h4);exact A8.ite (fun _=>A8.ok (Qb hoc _ _)) fun _=>A8.ite (fun h40=>A8.bind (hR 0 (i+1) []) fun q _ h=>A8.ite (fun h41=>A8.ok (Rh hoc h40 h h41)) fun _=>A8.bad) fun _=>A8.ite (fun h=>one h (by decide) (by decide) (by decide) (by decide)) fun _=>A8.ite (fun h=>one h (by decide) (by decide) (by decide) (by decide)) fun _=>A8.ite (fun h=>one h (by decide) (by decide) (by decide) (by decide)) fun _=>A8.ite (fun h=>one h (by decide) (by decide) (by decide) (by decide)) fun _=>A8.ite (fun h=>one h (by decide) (by decide) (by decide) (by decide)) fun _=>A8.bad
def YD(hoc:OC o c)(hR:∀m i a,A8 X o c i (R m i a))(i:Nat):A8 X o c i (Hd X R i):=A8.ite (fun _=>A8.bind (hR 3 i []) fun q _ h=>A8.bind (hR 0 q []) fun _ _ h2=>A8.ok (h.trans h2)) fun _=>A8.bind (Yd hoc hR i) fun q _ h=>(Q0 hR q _).from h
def Zm(hoc:OC o c)(hR:∀m i a,A8 X o c i (R m i a))(i:Nat)(a:List AM):A8 X o c i (Jt X R i a):=A8.ite (fun h91=>A8.bind (hR 2 (i+1) []) fun q _ h=>A8.ite (fun h93=>(hR 1 (q+1) _).from (Vt hoc h91 h h93)) fun _=>A8.bad) fun _=>A8.ok (IZ.refl _)
def Ud(hoc:OC o c)(hR:∀m i a,A8 X o c i (R m i a))(i:Nat):A8 X o c i (Ik X R i):=A8.bind (A8.ite (fun _=>A8.ok (IZ.refl _)) fun _=>hR 0 i []) fun q _ h=>A8.ite (fun h59=>A8.bind (hR 2 (q+1) []) fun _ _ h2=>A8.ok ((h.trans (FZ hoc h59 (by decide) (by decide) (by decide) (by decide))).trans h2)) fun _=>A8.ok h
def WU(hoc:OC o c)(i n:Nat):A8 X o c i (Jy X i n):=by have one:∀ {v:Nat}{l:List (List AM)},X.cl i=v->v≠40->v≠41->v≠91->v≠93->A8 X o c i (C4 (i+1) l):=fun h h1 h2 h3 h4=>A8.ok (FZ hoc h h1 h2 h3 h4);exact A8.ite (fun h=>one h (by decide) (by decide) (by decide) (by decide)) fun _=>A8.ite (fun h=>one h (by decide) (by decide) (by decide) (by decide)) fun _=>A8.ite (fun h=>one h (by decide) (by decide) (by decide) (by decide)) fun _=>A8.ite (fun h=>one h (by decide) (by decide) (by decide) (by decide)) fun _=>A8.ite (fun h=>A8.ite (fun hs=>A8.ok ((FZ hoc h (by decide) (by decide) (by decide) (by decide)).trans (Ks hoc hs))) fun _=>A8.bad) fun _=>A8.ok (IZ.refl _)
def Nk(hoc:OC o c)(hR:∀m i a,A8 X o c i (R m i a)){i:Nat}(h0:X.cl i=123):A8 X o c i (EJ X R i):=by have h1:IZ X o c i (i+1):=FZ hoc h0 (by decide) (by decide) (by decide) (by decide);exact A8.ite (fun h=>A8.ok (h1.trans (FZ hoc h (by decide) (by decide) (by decide) (by decide)))) fun _=>A8.bind (hR 4 (i+1) []) fun q _ h=>A8.ite (fun h2=>A8.ok ((h1.trans h).trans (FZ hoc h2 (by decide) (by decide) (by decide) (by decide)))) fun _=>A8.bad
def cC(hoc:OC o c)(hR:∀m i a,A8 X o c i (R m i a))(i:Nat):A8 X o c i (Vo X R i):=A8.ite (fun h=>(WU hoc (i+1) _).from (Ks hoc h)) fun _=>A8.ite (fun h=>A8.ite (fun h2=>A8.ite (fun h3=>A8.ok (((FZ hoc h (by decide) (by decide) (by decide) (by decide)).trans (FZ hoc h2 (by decide) (by decide) (by decide) (by decide))).trans (Ks hoc h3))) fun _=>A8.bad) fun _=>A8.bad) fun _=>A8.ite (fun h=>Nk hoc hR h) fun _=>A8.ite (fun h=>A8.ok (FZ hoc h (by decide) (by decide) (by decide) (by decide))) fun _=>A8.ite (fun h=>A8.ok (FZ hoc h (by decide) (by decide) (by decide) (by decide))) fun _=>A8.ite (fun h=>A8.ok (Qa hoc h)) fun _=>A8.bad
def TM(hoc:OC o c)(hR:∀m i a,A8 X o c i (R m i a))(m m' i:Nat):A8 X o c i (A7 (R m i []) fun q l=>if X.cl q=8900 then A7 (R m' (q+1) []) fun q2 l2=>C4 q2 (l++l2)else C4 q l):=A8.bind (hR m i []) fun q _ h=>A8.ite (fun h2=>A8.bind (hR m' (q+1) []) fun _ _ h3=>A8.ok ((h.trans (FZ hoc h2 (by decide) (by decide) (by decide) (by decide))).trans h3)) fun _=>A8.ok h
def Xm(hoc:OC o c)(hR:∀m i a,A8 X o c i (R m i a))(i:Nat):A8 X o c i (Ix X R i):=A8.bind (hR 5 i []) fun q _ h=>A8.ite (fun h2=>A8.bind (hR 0 (q+1) []) fun _ _ h3=>A8.ok ((h.trans (FZ hoc h2.2 (by decide) (by decide) (by decide) (by decide))).trans h3)) fun _=>A8.ok h
def MO(hR:∀m i a,A8 X o c i (R m i a))(k n:Int)(s:AE)(ls:List (List AM))(i:Nat):A8 X o c i (F4 R k n s ls i):=A8.bind (hR 0 i []) fun _ _ h=>A8.ok h
def V8(hoc:OC o c)(hR:∀m i a,A8 X o c i (R m i a))(i:Nat):A8 X o c i (Hz X R i):=by
 have one:∀ {j v:Nat},X.cl j=v->v≠40->v≠41->v≠91->v≠93->IZ X o c j (j+1):=fun h h1 h2 h3 h4=>FZ hoc h h1 h2 h3 h4;refine A8.ite (fun h=>A8.ite (fun h2=>A8.bind (Nk hoc hR h2) fun q _ h3=>A8.ok (((one h.1 (by decide) (by decide) (by decide) (by decide)).trans (one h.2 (by decide) (by decide) (by decide) (by decide))).trans h3)) fun _=>A8.bad) fun _=>A8.ite (fun h=>(MO hR _ _ _ _ _).from ((one h.1 (by decide) (by decide) (by decide) (by decide)).trans (one h.2 (by decide) (by decide) (by decide) (by decide)))) fun _=>A8.ite (fun h=>(MO hR _ _ _ _ _).from (((one h.1 (by decide) (by decide) (by decide) (by decide)).trans (Ks hoc h.2.1)).trans (one h.2.2 (by decide) (by decide) (by decide) (by decide)))) fun _=>A8.ite (fun h=> ?_) fun _=>A8.ite (fun h=> ?_) fun _=>hR 0 i []
 .have h0:=one h.1 (by decide) (by decide) (by decide) (by decide);exact A8.bind (hR 2 (i+2) []) fun q _ h3=>A8.ite (fun h93=>A8.ite (fun ha=>(MO hR _ _ _ _ _).from ((h0.trans (Vt hoc h.2.1 h3 h93)).trans (one ha (by decide) (by decide) (by decide) (by decide)))) fun _=>A8.bad) fun _=>A8.bad
 .exact A8.bind (hR 0 (i+1) []) fun q _ h3=>A8.ite (fun h41=>A8.ite (fun ha=>A8.ite (fun _=>(MO hR _ _ _ _ _).from ((Rh hoc h h3 h41).trans (one ha (by decide) (by decide) (by decide) (by decide)))) fun _=>A8.bad) fun _=>(Q0 hR _ _).from (Rh hoc h h3 h41)) fun _=>A8.bad
end
def Km(hoc:OC o c):∀(f m i:Nat)(a:List AM),A8 X o c i (Bh X f m i a)
 |0,_,_,_=>fun q l e=>by cases e
 |f+1,m,i,a=>by have h:=Km hoc f;rw[Bh];exact A8.ite (fun _=>YD hoc h i) fun _=>A8.ite (fun _=>Zm hoc h i a) fun _=>A8.ite (fun _=>Ud hoc h i) fun _=>A8.ite (fun _=>cC hoc h i) fun _=>A8.ite (fun _=>TM hoc h 6 4 i) fun _=>A8.ite (fun _=>V8 hoc h i) fun _=>A8.ite (fun _=>Xm hoc h i) fun _=>TM hoc h 5 7 i
def Ya{i q:Nat}(hoc:o≠c)(h1:X.cl i=o)(h:IZ X o c (i+1) q)(h2:X.cl q=c):(∀k,i<k->k<=q->GJ X o c i+1<=GJ X o c k)/\GJ X o c (q+1)=GJ X o c i:=by
 obtain⟨a1,a2,a3⟩:=h;have e1:GJ X o c (i+1)=GJ X o c i+1:=by rw[GJ,AL h1]
 have e2:GJ X o c (q+1)=GJ X o c q- 1:=by rw[GJ,AG (by rw[h2];exact fun e=>hoc e.symm),AL h2];omega
 exact⟨fun k hk hq=>by have:=a3 k (by omega) hq;omega,by omega⟩
def RK{i q:Nat}(hl:q<X.len)(hb:∀k,i<k->k<=q->GJ X 91 93 i+1<=GJ X 91 93 k)(he:GJ X 91 93 (q+1)=GJ X 91 93 i):∀(f j d:Nat),i<=j->j<=q->(d:Int)=GJ X 91 93 j- GJ X 91 93 i->q- j<f->GF X f j d=some q
 |0,j,d,_,_,_,hf=>by omega
 |f+1,j,d,hij,hjq,hd,hf=>by
  rw[GF,AL (by omega)];obtain⟨d',hd'⟩:∃d',(if X.cl j=91 then d+1 else if X.cl j=93 then d- 1 else d)=d':=⟨_,rfl⟩
  have hs:GJ X 91 93 (j+1)=GJ X 91 93 j+(if X.cl j=91 then 1 else if X.cl j=93 then-1 else 0):=rfl;have hge:GJ X 91 93 i<=GJ X 91 93 (j+1):=by
   by_cases h:j=q
   .subst h;omega
   .have:=hb (j+1) (by omega) (by omega);omega
  have hdd:(d':Int)=GJ X 91 93 (j+1)- GJ X 91 93 i:=by
   rw[<-hd'];split at hs
   .rw[AL ‹_›];omega
   .rename_i h1
    rw[AG h1];split at hs
    .rw[AL ‹_›];omega
    .rw[AG ‹_›];omega
  show(if(if X.cl j=91 then d+1 else if X.cl j=93 then d- 1 else d)=0 then some j else GF X f (j+1) (if X.cl j=91 then d+1 else if X.cl j=93 then d- 1 else d))=some q;rw[hd'];by_cases h:j=q
  .subst h;rw[AL (by omega)]
  .have:=hb (j+1) (by omega) (by omega);rw[AG (by omega)];exact RK hl hb he f (j+1) d' (by omega) (by omega) hdd (by omega)
def T4{i q:Nat}(hl:q<X.len)(h1:X.cl i=91)(h:IZ X 91 93 (i+1) q)(h2:X.cl q=93):LJ X i=decide (X.cl (q+1)=8592):=by obtain⟨a,b⟩:=Ya (by decide) h1 h h2;have hle:=h.1;unfold LJ;rw[RK hl a b (X.len+1) i 0 AC (by omega) (by omega) (by omega)]
end
def Ht.one{w:World}{g:Nat}{y:CO}(h:Ht w (some ⟨g,0,none⟩) 1 [y]):w.cell? ⟨g,0,none⟩=some (.int .i64 y.k)/\w.cell? ⟨g,1,none⟩=some (.int .i64 y.n)/\w.cell? ⟨g,2,none⟩=some (.string y.t)/\w.cell? ⟨g,3,none⟩=some (.int .i64 (y.p:Nat)):=by
 obtain⟨b,off,t,e,_,et,a0,a1,a2,a3⟩:=h.get (j:=0) (by omega);cases e;have:y=t:=by simpa using et
 subst this;exact⟨by simpa using a0,by simpa using a1,by simpa using a2,by simpa using a3⟩
def O7(n at':Int)(t:AE)(w:World)(hn:t.size<=2000):Calls prog 55 #[.agg #[.int .i64 2,.int .i64 n,.string t,.int .i64 at']] w fun e w'=>e=.returned (.string (if EY 2 n t (Br ⟨(EC t.data.toList).toArray⟩)=true then⟨(EC t.data.toList).toArray⟩else⟨#[]⟩))/\Below w.heap.size w w':=by
 obtain⟨x,hx⟩:∃x:AE,⟨(EC t.data.toList).toArray⟩=x:=⟨_,rfl⟩
 rw[hx];obtain⟨r,hr⟩:∃r,Br x=r:=⟨_,rfl⟩
 rw[hr];have HRR:=AB hr;obtain⟨ts,cd,pl⟩:=r;obtain⟨res,hres⟩:∃res,(if EY 2 n t (ts,cd,pl)=true then x else⟨#[]⟩)=res:=⟨_,rfl⟩
 rw[hres];have HRES:=AB hres;clear hr hres;obtain⟨Q,hQ⟩:∃Q,Q=w.alloc (.cells #[.int .i64 2,.int .i64 n,.string t,.int .i64 at'] 64):=⟨_,rfl⟩
 have HQ:=AB hQ;have HXQ:Hid (D9 Q w.heap.size (.int .i64 2) (.int .i64 n) (.string t) (.int .i64 at')):=by rw[hQ];exact D9.new w _ _ _ _
 have HBQ:Hid (Below w.heap.size w Q):=by rw[hQ];exact AI.alloc AC _
 clear hQ;have hxs:x.size<=4002:=by rw[<-hx];show(EC t.data.toList).toArray.size<=4002;have:=(Mu t.data.toList).1;rw[<-Lib.size_eq]at this;unfold EC;unfold qd at this;rw[Eu,Ba,AH];simp only[Ba,Fp];omega
 have HD:Hid (∀W,Calls prog 74 #[.string t] W fun e w'=>e=.returned (.string x)/\Below W.heap.size W w'):=AB fun W=>by rw[<-hx];exact Qk t W (by omega)
 have hg1:¬(2000:Int)<(t.size:Int):=by omega
 clear hx hn;go_enter func55,ntmps55;go_wp2_with(first|(go_at_call 74;refine(AA HD _).mono ?_;rintro e w5⟨rfl,hb5⟩;rw[<-AA HQ]at hb5;have HB0:=AB ((AA HBQ).trans (hb5.mono (AA HBQ).size));have HX0:=AB ((AA HXQ).below AC hb5);obtain⟨cap,W1,hcv,hcap,DI,hbW,hzW⟩:=LG w5 x;have HL:=AB (H0 w5.heap.size 0 cap x W1 DI (by omega));have HB1:=AB ((AA HB0).trans (hbW.mono (AA HB0).size));have HX1:=AB ((AA HX0).below AC hbW);clear hcap DI hbW hzW hb5)|(go_at_call 42;refine(AA HL).mono ?_;rintro e w6⟨g6,n6,c6,he,hR6,hb6⟩;rw[AA HRR]at he hR6;have he':e=.returned (.tuple #[.slice (some ⟨g6,0,none⟩) n6 c6,.int .i64 cd,.int .i64 (pl:Nat)]):=he;subst he';have HB6:=AB ((AA HB1).trans (hb6.mono (AA HB1).size));have HX6:=AB ((AA HX1).below AC hb6);have HR6:Hid (Ht w6 (some ⟨g6,0,none⟩) n6 ts):=hR6;obtain⟨q0,q1,q2,q3,f0,f1,f2,f3⟩:=(AA HX6).all;clear he hR6 hb6));have HX6:=HX6;by_cases hcd:cd=0;case neg=>
  have hd:(cd !=0)=true:=by simpa using hcd
  have HE:Hid (EY 2 n t (ts,cd,pl)=false):=Nm hcd;clear hcd;go_quiet(fail);go_wp2_with fail;go_ret;exact⟨by rw[<-AA HRES,AA HE];rfl,Below.drewN (AA HB6) _⟩
 subst hcd;by_cases hn1:n6=1;case neg=>
  have hd:((n6:Int) !=1)=true:=by simp;omega
  have HE:Hid (EY 2 n t (ts,0,pl)=false):=Nl (fun e=>hn1 (by rw[<-(AA HR6).len];exact e));clear hn1;go_quiet(fail);go_wp2_with fail;go_ret;exact⟨by rw[<-AA HRES,AA HE];rfl,Below.drewN (AA HB6) _⟩
 subst hn1;obtain⟨y,rfl⟩:∃y,ts= [y]:=by
  have h:=(AA HR6).len
  match ts,h with
  | [y],_=>exact⟨y,rfl⟩
 obtain⟨y0,y1,y2,y3⟩:=(AA HR6).one;have HBB:Hid (EY 2 n t ([y],0,pl)=(decide (y.k=2)&&decide (y.n=n)&&decide (y.t=t))):=by show _=_;unfold EY;simp
 obtain⟨yk,yn,yt,yp⟩:=y;by_cases e1:yk=2;case neg=>
  have hd:(yk !=2)=true:=by simpa using e1
  have HE:Hid (EY 2 n t ([⟨yk,yn,yt,yp⟩],0,pl)=false):=by show _=_;rw[AA HBB,AD e1];rfl
  clear e1;go_quiet(fail);go_wp2_with fail;go_ret;exact⟨by rw[<-AA HRES,AA HE];rfl,Below.drewN (AA HB6) _⟩
 subst e1;by_cases e3:yt=t;case neg=>
  have hd:=YT e3;have HE:Hid (EY 2 n t ([⟨2,yn,yt,yp⟩],0,pl)=false):=by show _=_;rw[AA HBB,AD e3,Da]
  clear e3;go_quiet(fail);go_wp2_with fail;go_ret;exact⟨by rw[<-AA HRES,AA HE];rfl,Below.drewN (AA HB6) _⟩
 subst e3;by_cases e2:yn=n;case neg=>
  have hd:(yn !=n)=true:=by simpa using e2
  have HE:Hid (EY 2 n yt ([⟨2,yn,yt,yp⟩],0,pl)=false):=by show _=_;rw[AA HBB,AD e2];simp
  clear e2;go_quiet(fail);go_wp2_with fail;go_ret;exact⟨by rw[<-AA HRES,AA HE];rfl,Below.drewN (AA HB6) _⟩
 subst e2;have HE:Hid (EY 2 yn yt ([⟨2,yn,yt,yp⟩],0,pl)=true):=by show _=_;rw[AA HBB];simp
 go_quiet(fail);go_wp2_with fail;go_ret;exact⟨by rw[<-AA HRES,AA HE];rfl,Below.drewN (AA HB6) _⟩
def L8(a b:Option Addr)(n m ca cb:Nat)(xs:List Int)(w:World)(hx:Df w a n xs)(hy:Df w b m xs):Calls prog 120 #[.slice a n ca,.slice b m cb] w fun e w'=>e=.returned (.bool true)/\∃q,w'=w.drewN q:=by
 have:=Ss a b n m ca cb xs xs w hx hy
 rwa [AK rfl]at this
def RC(k n m:Int)(s:AE)(a1 a2 b1 b2:Option Addr)(n1 n2 m1 m2 c1 c2 d1 d2:Nat)(nums kids:List Int)(w:World)(h1:Df w a1 n1 nums)(h2:Df w a2 n2 kids)(k1:Df w b1 m1 nums)(k2:Df w b2 m2 kids):Calls prog 71 #[.agg #[.int .i64 k,.int .i64 n,.int .i64 m,.string s,.slice a1 n1 c1,.slice a2 n2 c2],.agg #[.int .i64 k,.int .i64 n,.int .i64 m,.string s,.slice b1 m1 d1,.slice b2 m2 d2]] w fun e w'=>e=.returned (.bool true)/\Below w.heap.size w w':=by
 have q0:(k !=k)=false:=by simp
 have q1:(n !=n)=false:=by simp
 have q2:(m !=m)=false:=by simp
 have q3:(s.toList !=s.toList)=false:=by simp
 have H1:=AB ((h1.alloc (.cells #[.int .i64 k,.int .i64 n,.int .i64 m,.string s,.slice a1 n1 c1,.slice a2 n2 c2] 47)).alloc (.cells #[.int .i64 k,.int .i64 n,.int .i64 m,.string s,.slice b1 m1 d1,.slice b2 m2 d2] 47));have H2:=AB ((h2.alloc (.cells #[.int .i64 k,.int .i64 n,.int .i64 m,.string s,.slice a1 n1 c1,.slice a2 n2 c2] 47)).alloc (.cells #[.int .i64 k,.int .i64 n,.int .i64 m,.string s,.slice b1 m1 d1,.slice b2 m2 d2] 47));have K1:=AB ((k1.alloc (.cells #[.int .i64 k,.int .i64 n,.int .i64 m,.string s,.slice a1 n1 c1,.slice a2 n2 c2] 47)).alloc (.cells #[.int .i64 k,.int .i64 n,.int .i64 m,.string s,.slice b1 m1 d1,.slice b2 m2 d2] 47));have K2:=AB ((k2.alloc (.cells #[.int .i64 k,.int .i64 n,.int .i64 m,.string s,.slice a1 n1 c1,.slice a2 n2 c2] 47)).alloc (.cells #[.int .i64 k,.int .i64 n,.int .i64 m,.string s,.slice b1 m1 d1,.slice b2 m2 d2] 47));clear h1 h2 k1 k2;go_enter func71,ntmps71;go_wp2_with fail;refine(L8 _ _ _ _ _ _ nums _ (by exact AA H1) (by exact AA K1)).mono ?_;rintro e w1⟨rfl,q,rfl⟩;go_wp2_with fail;refine(L8 _ _ _ _ _ _ kids _ (by exact(AA H2).drewN q) (by exact(AA K2).drewN q)).mono ?_;rintro e w1⟨rfl,q',rfl⟩;go_wp2_with fail;go_ret;exact⟨rfl,Below.drewN ((AI.alloc AC _).alloc (by simp) _) _⟩
def Ps(a b:Option Addr)(n c d:Nat)(ns:List AM)(w:World)(h:Db w a n ns)(k:Db w b n ns):Calls prog 33 #[.slice a n c,.slice b n d] w fun e w'=>e=.returned (.bool true)/\Below w.heap.size w w':=by
 have hn:=h.small;have H:=AB h;have K:=AB k;clear h k;have hnn:((n:Int) !=(n:Int))=false:=by simp
 go_enter func33,ntmps33;go_wp2_with fail;go_loopw[5] (fun i wr=>∃k:Nat,k<=n/\i=.int .i64 k/\Hid (Below w.heap.size w wr)) (fun i _=>n- (intOf i).toNat);case atStart=>exact⟨0,AZ _,rfl,AI⟩
 case round=>
  obtain⟨k,hk,rfl,HB⟩:=hrel;by_cases hlt:k<n
  .obtain⟨p1,o1,rfl,hl1,t1,m1,e1,t2,m2,e2,x0,x1,x2,x3,x4,x5,r1,r2⟩:=((AA H).below AC (AA HB)).get hlt;obtain⟨p2,o2,rfl,hl2,u1,q1,f1,u2,q2,f2,y0,y1,y2,y3,y4,y5,s1,s2⟩:=((AA K).below AC (AA HB)).get hlt;have R1:=AB r1;have R2:=AB r2;have S1:=AB s1;have S2:=AB s2;obtain⟨xk,hxk⟩:∃x,x=(Af ns k).k:=⟨_,rfl⟩
   obtain⟨xn,hxn⟩:∃x,x=(Af ns k).n:=⟨_,rfl⟩
   obtain⟨xm,hxm⟩:∃x,x=(Af ns k).m:=⟨_,rfl⟩
   obtain⟨xs,hxs⟩:∃x,x=(Af ns k).s:=⟨_,rfl⟩
   rw[<-hxk]at x0 y0;rw[<-hxn]at x1 y1;rw[<-hxm]at x2 y2;rw[<-hxs]at x3 y3;clear r1 r2 s1 s2 hxk hxn hxm hxs;go_wp2_with fail;go_region_with(go_at_call 71;refine(RC _ _ _ _ _ _ _ _ _ _ _ _ _ _ _ _ (Af ns k).nums (Af ns k).kids _ (by exact(AA R1).below AC AI.drew) (by exact(AA R2).below AC AI.drew) (by exact(AA S1).below AC AI.drew) (by exact(AA S2).below AC AI.drew)).mono ?_;rintro e w1⟨rfl,hb1⟩;have HB1:=AB ((AA HB).trans (AI.drew.trans (hb1.mono (AA HB).size)));clear hb1);all_goals go_wp2_with fail
   all_goals(go_roundw;(case rel=>exact⟨k+1,by omega,by go_num,AA HB1⟩);(case measure=>simp[intOf];omega))
  .have hkn:k=n:=by omega
   subst hkn
   go_wp2
   go_ret;exact⟨rfl,AA HB⟩
def RB(a b:Option Addr)(n c d:Nat)(ns:List AM)(w:World)(h:Db w a n ns)(k:Db w b n ns):Calls prog 11 #[.agg #[.slice a n c],.agg #[.slice b n d]] w fun e w'=>e=.returned (.bool true)/\Below w.heap.size w w':=by
 go_enter func11,ntmps11;go_wp2_with fail;refine(Ps _ _ _ _ _ ns _ (by exact(h.alloc _).alloc _) (by exact(k.alloc _).alloc _)).mono ?_;rintro e w1⟨rfl,hb1⟩;have hB:Below w.heap.size w w1:=((AI.alloc AC _).alloc (by simp) _).trans (hb1.mono (by simp;omega));clear hb1
 go_wp2
 go_ret;exact⟨rfl,hB⟩
