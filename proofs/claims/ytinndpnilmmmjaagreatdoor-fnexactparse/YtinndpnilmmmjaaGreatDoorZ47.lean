import Derived.Test.YtinndpnilmmmjaaGreatDoorZ44
set_option maxRecDepth 20000
set_option maxHeartbeats 8000000
set_option linter.defProp false
namespace Go.Proofs.YtinndpnilmmmjaaGreatDoor
open Go.RowKit Go.Proofs.Tryz
section
variable {Z w w0 w1:World}{p i j q:Nat}{nd nd0 nd1 v:Value}{zs:List Int}{xs ys:List AW}{bx:List Nat}{ns:List AM}{ta:Option Addr}{tn tc:Nat}{ts:List CO}{b b' g:Bool}{t:List AM}
def Bk.round(E:Bk Z ta tn ts){k:Nat}{y:CO}(hy:Al ts 0 k=y):(decide (y.k=4)&&(y.t.toList== [40]))=decide ((AF ts).cl k=40)/\(decide (y.k=4)&&(y.t.toList== [41]))=decide ((AF ts).cl k=41):=by have h1:=Jf E.ok 0 k (c:=40) (by decide);have h2:=Jf E.ok 0 k (c:=41) (by decide);rw[hy,show(BU (BW ((40:Nat):Int))).toList= [40] by kernel_rfl]at h1;rw[hy,show(BU (BW ((41:Nat):Int))).toList= [41] by kernel_rfl]at h2;exact⟨h1,h2⟩
def WD(E:Bk Z ta tn ts)(h:EV Z p ta tn tc b w (q+1) nd xs)(hql:q<ts.length)(htl:ts.length<=4096)(hiq:i<q)(hd:∀k,i<k->k<=q->GJ (AF ts) 40 41 i+1<=GJ (AF ts) 40 41 k)(he:GJ (AF ts) 40 41 (q+1)=GJ (AF ts) 40 41 i):Calls prog 98 #[.pointer (some ⟨p,0,none⟩),.int .i64 (i:Nat)] w fun e w'=>e=.returned (.bool true)/\Below w.heap.size w w':=by
 have hqt:q<tn:=by rw[<-E.row.len];exact hql
 obtain⟨tb,off,_,rfl,hbl,_⟩:=E.row.get hqt;have HTK:Hid (∀k,k<=q->∃y:CO,w.cell? ⟨tb,off+k*4,none⟩=some (.int .i64 y.k)/\w.cell? ⟨tb,off+k*4+2,none⟩=some (.string y.t)/\(decide (y.k=4)&&(y.t.toList== [40]))=decide ((AF ts).cl k=40)/\(decide (y.k=4)&&(y.t.toList== [41]))=decide ((AF ts).cl k=41)):=fun k hk=>by obtain⟨tb',Hr,y,e',hb',hy,a0,a1,a2,a3⟩:=E.row.get (j:=k) (by omega);cases e';obtain⟨r1,r2⟩:=E.round (Gv hy 0);exact⟨y,(h.low.cell (p:=⟨tb,off+k*4,none⟩) hbl).trans a0,(h.low.cell (p:=⟨tb,off+k*4+2,none⟩) hbl).trans a2,r1,r2⟩
 have hbw:tb<w.heap.size:=AX hbl h.low.size;obtain⟨p0,p1,p2,p3,f0,f1,f2,f3,hpl⟩:=h.all;have HD:=AB hd;have HE:=AB he;have hws:IntKind.i64.wrap ((q:Int)+1- 1)=(q:Int):=by rw[IntKind.wrap_i64];omega
 have hws2:IntKind.i64.wrap (q:Int)=(q:Int):=by rw[IntKind.wrap_i64];omega
 have hcast:((q+1:Nat):Int)=(q:Int)+1:=by omega
 rw[hcast]at p1;clear h E hd he hbl hcast;go_enter func98,ntmps98;go_wp2_with fail;go_loopw[5,6] (fun u v wr=>∃(k:Nat)(D:Int),u=.int .i64 D/\v=.int .i64 (k:Nat)/\i<=k/\k<=q/\0<=D/\D<=k/\Hid (D=GJ (AF ts) 40 41 k- GJ (AF ts) 40 41 i)/\wr=w) (fun _ v _=>q+1- (intOf v).toNat);case atStart=>exact⟨i,0,rfl,rfl,AC,by omega,by omega,by omega,by show(0:Int)=_;omega,rfl⟩
 case round=>
  obtain⟨k,D,rfl,rfl,hik,hkq,hD0,hDk,HDD,rfl⟩:=hrel;obtain⟨y,a0,a2,r1,r2⟩:=AA HTK k hkq;obtain⟨yk,yn,yt,yp⟩:=y;dsimp only at a0 a2 r1 r2;have hk1:(k:Int)<(q:Int)+1:=by omega
  have hkt:(k:Int)<(tn:Int):=by omega
  have hkt2:k<tn:=by omega
  have hw1:IntKind.i64.wrap ((k:Int)+1)=(k:Int)+1:=by rw[IntKind.wrap_i64];omega
  have hstep:GJ (AF ts) 40 41 (k+1)=GJ (AF ts) 40 41 k+(if(AF ts).cl k=40 then 1 else if(AF ts).cl k=41 then-1 else 0):=rfl;have hDD:=AA HDD;have hnext:(k<q->1<=GJ (AF ts) 40 41 (k+1)- GJ (AF ts) 40 41 i)/\(k=q->GJ (AF ts) 40 41 (k+1)- GJ (AF ts) 40 41 i=0):=⟨fun hlt=>by have:=AA HD (k+1) (by omega) (by omega);omega,fun e=>by subst e;have:=AA HE;omega⟩
  by_cases c40:(AF ts).cl k=40
  .rw[AK c40]at r1;rw[AD (show ¬(AF ts).cl k=41 by rw[c40];decide)]at r2;rw[AL c40]at hstep;have e4:yk=4:=by have:=(FA.1 r1).1;exact AT this
   subst e4;have t40:(yt.toList== [40])=true:=(FA.1 r1).2;have t41:(yt.toList== [41])=false:=by simpa using r2
   have hlt:k<q:=by rcases Nat.lt_or_eq_of_le hkq with h'|h';exact h';have:=hnext.2 h';omega
   have hwD:IntKind.i64.wrap (D+1)=D+1:=by rw[IntKind.wrap_i64];omega
   have hz:(D+1==0)=false:=by rw[BC];omega
   have HD2:Hid (D+1=GJ (AF ts) 40 41 (k+1)- GJ (AF ts) 40 41 i):=by show _=_;omega
   clear r1 r2 hstep hnext c40 HDD hDD;go_wp2_with fail;go_roundw;case rel=>exact⟨k+1,D+1,rfl,rfl,by omega,by omega,by omega,by omega,HD2,trivial⟩
   case measure=>simp[intOf];omega
  rw[AD c40]at r1;rw[AG c40]at hstep;by_cases c41:(AF ts).cl k=41
  .rw[AK c41]at r2;rw[AL c41]at hstep;have e4:yk=4:=by have:=(FA.1 r2).1;exact AT this
   subst e4;have t41:(yt.toList== [41])=true:=(FA.1 r2).2;have t40:(yt.toList== [40])=false:=by simpa using r1
   by_cases hkq':k=q
   .have e0:=hnext.2 hkq';have hD1:D=1:=by omega
    subst hkq' hD1;clear r1 r2 hstep hnext c40 c41 HDD hDD;go_wp2_with fail;go_ret;exact⟨rfl,AI⟩
   .have e1:=hnext.1 (by omega);have hwD:IntKind.i64.wrap (D- 1)=D- 1:=by rw[IntKind.wrap_i64];omega
    have hz:(D- 1==0)=false:=by rw[BC];omega
    have HD2:Hid (D- 1=GJ (AF ts) 40 41 (k+1)- GJ (AF ts) 40 41 i):=by show _=_;omega
    have hDp:1<=D- 1:=by omega
    clear r1 r2 hstep hnext c40 c41 HDD hDD e1;go_wp2_with fail;go_roundw;case rel=>exact⟨k+1,D- 1,rfl,rfl,by omega,by omega,by omega,by omega,HD2,trivial⟩
    case measure=>simp[intOf];omega
  rw[AD c41]at r2;rw[AG c41]at hstep;have hlt:k<q:=by rcases Nat.lt_or_eq_of_le hkq with h'|h';exact h';have:=hnext.2 h';have:=AA HD k (by omega) hkq;omega
  have e1:=hnext.1 hlt;have hz:(D==0)=false:=by rw[BC];omega
  have HD2:Hid (D=GJ (AF ts) 40 41 (k+1)- GJ (AF ts) 40 41 i):=by show _=_;omega
  clear hstep hnext c40 c41 HDD hDD e1;by_cases e4:yk=4
  .subst e4;have t40:(yt.toList== [40])=false:=by simpa using r1
   have t41:(yt.toList== [41])=false:=by simpa using r2
   clear r1 r2;go_wp2_with fail;go_roundw;case rel=>exact⟨k+1,D,rfl,rfl,by omega,by omega,by omega,by omega,HD2,trivial⟩
   case measure=>simp[intOf];omega
  .have n4:(yk==4)=false:=by simpa using e4
   clear r1 r2 e4;go_wp2_with fail;go_roundw;case rel=>exact⟨k+1,D,rfl,rfl,by omega,by omega,by omega,by omega,HD2,trivial⟩
   case measure=>simp[intOf];omega
end
def YZ{c:Nat}(h:Eg c=true):LN c=false:=by unfold Eg at h;rcases AT h with rfl|rfl|rfl|rfl|rfl|rfl|rfl<;>decide
def cJ{c:Nat}(h:IJ c=true):LN c=false:=by unfold IJ at h;rcases AT h with rfl|rfl|rfl|rfl|rfl|rfl|rfl|rfl<;>decide
def cA{c:Nat}(h:LN c=true):IJ c=false:=by
 cases he:IJ c with
 |false=>rfl
 |true=>rw[cJ he]at h;cases h
def cB{c:Nat}(h:LN c=true):Eg c=false:=by
 cases he:Eg c with
 |false=>rfl
 |true=>rw[YZ he]at h;cases h
def dZ{c:Nat}(h:LN c≠true):Ah c=0/\c≠8728/\c≠123/\c≠4/\c≠8711/\Bd c=0:=by
 unfold LN at h;replace h:=fun e=>h (AK e);have hp:Bd c=0:=by
  cases hp:Bd c with
  |zero=>rfl
  |succ n=>exact absurd (.inl (by omega)) h
 refine⟨?_,fun e=>h (.inr (.inr (.inl e))),fun e=>h (.inr (.inr (.inr (.inl e)))),fun e=>h (.inr (.inl e)),fun e=>h (.inr (.inr (.inr (.inr e)))),hp⟩;unfold Ah;rw[hp];rfl
def bZ{X:DN}{R:Nat->Nat->List AM->Option B1}{j:Nat}(h:Eg (X.cl j)≠true):Dj X R j=Cp j:=by unfold Eg at h;replace h:=fun e=>h (AK e);unfold Dj;rw[AG (fun e=>h (.inl e)),AG (fun e=>h (.inr (.inr (.inr (.inr (.inr (.inr e))))))),AG (fun e=>h (.inr (.inl e))),AG (fun e=>h (.inr (.inr (.inl e)))),AG (fun e=>h (.inr (.inr (.inr (.inl e))))),AG (fun e=>h (.inr (.inr (.inr (.inr (.inl e)))))),AG (fun e=>h (.inr (.inr (.inr (.inr (.inr (.inl e)))))))]
def LV(k n m:Int)(s:AE)(nums:List Int)(ls:List (List AM)):C6 (Ay k n m s nums ls)=k:=by unfold C6 Ay;simp
def Jl{X:DN}:∀(f q:Nat)(a:List AM)(q1:Nat)(l:List (List AM)),Bh X f 1 q a=some (true,q1,l)->(q1=q/\l= [a]/\X.cl q≠91)\/(q<q1/\X.cl q=91/\X.cl (q1- 1)=93/\X.cl q1≠91)
 |0,_,_,_,_,h=>by cases h
 |f+1,q,a,q1,l,h=>by
  rw[Bh,AG (by decide),AL rfl]at h;unfold Jt at h;by_cases h91:X.cl q=91
  .rw[AL h91]at h;rcases BG h with⟨q2,l2,hx,hk⟩|⟨_,_,_,hk⟩
   .by_cases h93:X.cl q2=93
    .rw[AL h93]at hk;have hb:=(Km (X:=X) (o:=91) (c:=93) (.inr ⟨rfl,rfl⟩) f 2 (q+1) [] q2 l2 hx).1;rcases Jl f (q2+1) _ q1 l hk with⟨rfl,rfl,h2⟩|⟨h1,_,h2,h3⟩
     .exact .inr ⟨by omega,h91,h93,h2⟩
     .exact .inr ⟨by omega,h91,h2,h3⟩
    .rw[AG h93]at hk;cases hk
   .cases hk
  .rw[AG h91]at h;cases h;exact .inl ⟨rfl,rfl,h91⟩
def Tk{ts:List CO}:∀(f q:Nat)(a:List AM)(q1:Nat)(l:List (List AM)),q<=ts.length->C6 a=7->(AF ts).cl q=91->Bh (AF ts) f 1 q a=some (true,q1,l)->∃a' l',l= [Ay 7 0 0 E2 [] (a'::l')]/\C6 a'=7/\1<=l'.length/\l'.length<=ts.length+1
 |0,_,_,_,_,_,_,_,h=>by cases h
 |f+1,q,a,q1,l,hq,ha,h91,h=>by
  rw[Bh,AG (by decide),AL rfl]at h;unfold Jt at h;rw[AL h91]at h;have hql:q<ts.length:=Ab ts q (by rw[h91];decide);rcases BG h with⟨q2,l2,hx,hk⟩|⟨_,_,_,hk⟩
  .by_cases h93:(AF ts).cl q2=93
   .rw[AL h93]at hk;have hq2:q2<ts.length:=Ab ts q2 (by rw[h93];decide);by_cases h2:(AF ts).cl (q2+1)=91
    .exact Tk f (q2+1) _ q1 l hq2 (LV ..) h2 hk
    .have h3:=Jl f (q2+1) _ q1 l hk;rcases h3 with⟨_,rfl,_⟩|⟨_,h3,_⟩
     .have hp:=IS f (q+1) q2 l2 hql hx;have hw:=(LZ (AF ts) f 2 (q+1) [] (fun e=>by cases e) q2 l2 hx).1;exact⟨a,l2,rfl,ha,Jg hw,by omega⟩
     .exact absurd h3 h2
   .rw[AG h93]at hk;cases hk
  .cases hk
def Ce(ts:List CO):B1:=if ts= []then(true,0,[])else(Bh (AF ts) (6*ts.length+9) 7 0 []).getD (false,0,[])
def Dc(l:List (List AM)):List AM:=Ay 25 0 0 ⟨#[]⟩ [] l
def DH(s:AE):List AM×Int×Nat:=if(Br s).2.1≠0 then([],(Br s).2.1,(Br s).2.2)else if(Ce (Br s).1).1=true/\¬(Ce (Br s).1).2.1<(Br s).1.length then
  (if F5 B2 (Dc (Ce (Br s).1).2.2)=true then(Dc (Ce (Br s).1).2.2,0,0)else([],7,0))
 else([],1,(Al (Br s).1 s.size (Ce (Br s).1).2.1).p)
def Kx{ts:List CO}(h:ts≠ []):Bh (AF ts) (6*ts.length+9) 7 0 []=some (Ce ts):=by obtain⟨r,hr⟩:=H3 (Ab ts) (6*ts.length+9) 7 0 [] (AZ _) (by show 6*(ts.length- 0)+3<_;omega);unfold Ce;rw[AG h,hr];rfl
def ck{ts:List CO}(h:∀y∈ts,y.t.size<=2000)(i:Nat):((AF ts).sv i).size<=5000:=by
 show(Al ts 0 i).t.size<=5000;unfold Al;rw[AP];cases he:ts[i]? with
 |none=>exact AZ _
 |some y=>exact Aw (h y (A1 he)) (by omega)
def G6{ts:List CO}(hl:ts.length<=2000)(hs:∀y∈ts,y.t.size<=2000){q:Nat}{l:List (List AM)}(h1:Ce ts=(true,q,l)):(∀t∈l,WF t)/\IX 5000 l/\(Az l).length<=8002/\q<=ts.length:=by
 by_cases h0:ts= []
 .unfold Ce at h1;rw[AL h0]at h1;cases h1;exact⟨(fun t h=>by cases h),IX.nil,AZ _,AZ _⟩
 .have h:=Kx h0;rw[h1]at h;refine⟨(LZ (AF ts) _ 7 0 [] (fun e=>by cases e) q l h).2,Wh (A:=5000) (ck hs) (by show ts.length+1<=_;omega) _ 7 0 [] IX.nil.row q l h,?_⟩;obtain⟨k1,k2,k3,_⟩:=(FF (Ab ts) (6*ts.length+9)).fair 7 0 [] (AZ _) (fun e=>by cases e) q l h;have k2':q<=ts.length:=k2;have k3':(Az l).length+1<=4*(q- 0)+0:=k3;exact⟨by omega,k2'⟩
def G5{l:List (List AM)}(h1:∀t∈l,WF t)(h2:IX 5000 l)(h3:(Az l).length<=8002):(Dc l).length<=8003/\∀x∈Dc l,x.s.size<=5000/\x.nums.length<=5000/\x.kids.length<=8003:=by have Ae:(Dc l).length=(Az l).length+1:=CN 25 0 0 ⟨#[]⟩ [] l;have hw:WF (Dc l):=.mk 25 0 0 ⟨#[]⟩ [] l h1 (Hg (by decide) (by decide) (by decide) _);refine⟨by omega,fun x hx=> ?_⟩;have hs:Sm 5000 (Dc l):=Jb 25 0 0 (AZ _) (AZ _) h2;exact⟨(hs x hx).1,(hs x hx).2,Aw (Ys hw x hx) (by omega)⟩
def JJ{l:List (List AM)}(h1:∀t∈l,WF t)(h2:IX 5000 l)(h3:(Az l).length<=8002):P9 (Dc l) (Dc l).length:=fun i hi=>by
 obtain⟨_,h⟩:=G5 h1 h2 h3;have hm:Af (Dc l) i∈Dc l:=by unfold Af;rw[AP,AR hi];exact By hi
 obtain⟨a,b,c⟩:=h _ hm;exact⟨by omega,by omega,by omega⟩
def Jj{s:AE}(h:(Br s).2.1=0):s.size<=2000:=by refine FV fun hn=> ?_;unfold Br at h;rw[AL (by omega)]at h;revert h;decide
structure Is(w:World)(B:Nat)(nd:Value)(xs:List AW):Prop where
 own:w.ownsRow B 47 6 nd xs.length (xs.flatMap AW.cells)
 lists:∀x∈xs,x.Ok w B
 apart:(Bm xs).Nodup
def Jp(B:Nat)(r:List AM×Int×Nat)(e:Ending)(w':World):Prop:=∃nd xs,e=.returned (.tuple #[.agg #[nd],.int .i64 r.2.1,.int .i64 (r.2.2:Nat)])/\xs.map AW.d=r.1/\Is w' B nd xs
def Is.nil(w:World)(B:Nat):Is w B (.slice none 0 0) []:=⟨⟨rfl,.inl ⟨rfl,rfl⟩⟩,(fun x h=>by cases h),by simp[Bm]⟩
def PP{w:World}{B B' e size n:Nat}{v:Value}{l:List Value}(h:w.ownsRow B e size v n l)(hB:B'<=B):w.ownsRow B' e size v n l:=by
 refine⟨h.1,?_⟩;rcases h.2 with h|⟨g,cap,cur,h1,h2,h3⟩
 .exact .inl h
 .exact .inr ⟨g,cap,cur,h1,by omega,h3⟩
def Is.set{w:World}{B B' b i:Nat}{nd u:Value}{xs:List AW}(h:Is w B nd xs)(hb:b<B)(hB:B'<=B):Is (w.setCell ⟨b,i,none⟩ u) B' nd xs:=by have hk:∀k,B<=k->(w.setCell ⟨b,i,none⟩ u).heap[k]? =w.heap[k]? :=fun k hk=>BZ w ⟨b,i,none⟩ k _ (by show k≠b;omega);exact⟨PP (BP h.own fun g hg=>hk g ((Ag h.own hg).elim fun _ hc=>hc.2)) hB,fun x hx=>⟨PP (BP (h.lists x hx).1 fun g hg=>hk g ((Ag (h.lists x hx).1 hg).elim fun _ hc=>hc.2)) hB,PP (BP (h.lists x hx).2 fun g hg=>hk g ((Ag (h.lists x hx).2 hg).elim fun _ hc=>hc.2)) hB⟩,h.apart⟩
def Is.below{w w':World}{B:Nat}{nd:Value}{xs:List AW}(h:Is w B nd xs)(hb:Below w.heap.size w w'):Is w' B nd xs:=⟨BP h.own fun g hg=>hb.block g ((Ag h.own hg).elim fun _ hc=>lt_of_block hc.1),fun x hx=>⟨BP (h.lists x hx).1 fun g hg=>hb.block g ((Ag (h.lists x hx).1 hg).elim fun _ hc=>lt_of_block hc.1),BP (h.lists x hx).2 fun g hg=>hb.block g ((Ag (h.lists x hx).2 hg).elim fun _ hc=>lt_of_block hc.1)⟩,h.apart⟩
def Dk.rowS{w:World}{B:Nat}{v:Value}{zs:List Int}(h:Dk w B v zs)(hz:zs.length<=1048576):∃a c,v=.slice a zs.length c/\Df w a zs.length zs/\zs.length<=c:=by obtain⟨a,c,e,hr,hc⟩:=h.row;exact⟨a,c,e,⟨hr.len,by omega,hr.at_⟩,hc⟩
def Kn{w:World}{B:Nat}{nd:Value}{xs:List AW}(ET:w.ownsRow B 47 6 nd xs.length (xs.flatMap AW.cells))(hl:∀x∈xs,x.Ok w B)(hsm:Gs xs)(hn:xs.length<=1048576):∃a c,nd=.slice a xs.length c/\Re w a xs.length (xs.map AW.d):=by
 rcases KK ET with⟨rfl,h0⟩|⟨g,cap,rfl,hlt,_,hc,hu⟩
 .rw[h0];exact⟨none,0,rfl,⟨by rw[AS];exact h0,by omega,.inl rfl⟩,fun b off e=>by cases e⟩
 have hk:∀j x,xs[j]? =some x->∀q u,q<6->x.cells[q]? =some u->w.cell? ⟨g,0+j*6+q,none⟩=some u:=fun j x hx q u hq hu'=>by rw[BY];exact hu _ _ ((Gb xs j q x hx hq).trans hu')
 refine⟨_,_,rfl,⟨by rw[AS],hn,.inr ⟨g,0,rfl,hlt,fun j hj=> ?_⟩⟩,fun b off e j hj s m c GQ=> ?_⟩
 .obtain⟨x,hx⟩:∃x,xs[j]? =some x:=⟨_,AR hj⟩
  obtain⟨h4,h5⟩:=hl x (A1 hx);obtain⟨k4,k5⟩:=hsm x (A1 hx);obtain⟨a4,c4,e4,r4,_⟩:=h4.rowS k4;obtain⟨a5,c5,e5,r5,_⟩:=h5.rowS k5;rw[M8 hx];refine⟨a4,_,c4,a5,_,c5,?_,?_,?_,?_,?_,?_,r4,r5⟩
  .exact hk j x hx 0 _ (by omega) rfl
  .exact hk j x hx 1 _ (by omega) rfl
  .exact hk j x hx 2 _ (by omega) rfl
  .exact hk j x hx 3 _ (by omega) rfl
  .exact hk j x hx 4 _ (by omega) (by rw[<-e4];rfl)
  .exact hk j x hx 5 _ (by omega) (by rw[<-e5];rfl)
 .cases e;obtain⟨x,hx⟩:∃x,xs[j]? =some x:=⟨_,AR hj⟩
  obtain⟨h4,h5⟩:=hl x (A1 hx);obtain⟨k4,k5⟩:=hsm x (A1 hx);obtain⟨a5,c5,e5,r5,hc5⟩:=h5.rowS k5;have:=hk j x hx 5 _ (by omega) (show x.cells[5]? =some (.slice a5 x.d.kids.length c5) by rw[<-e5];rfl);rw[GQ]at this;cases this;exact hc5
def Ja{xs:List AW}{ns:List AM}(e:xs.map AW.d=ns)(h:∀x∈ns,x.nums.length<=1048576/\x.kids.length<=1048576):Gs xs:=fun x hx=>h x.d (by rw[<-e];exact DT.2 ⟨x,hx,rfl⟩)
structure Yi(w:World):Prop where
 gl:Dg w
 err:∃t a,w.cell? ⟨1,0,none⟩=some (.iface t (.pointer (some a)))
 han:w.cell? ⟨0,0,none⟩=some (.iface 169 (.agg #[.pointer (some ⟨10,66,none⟩)]))
def Yi.below{w w':World}(h:Yi w)(hb:Below w.heap.size w w'):Yi w':=by obtain⟨t,a,he⟩:=h.err;exact⟨h.gl.below hb,⟨t,a,(hb.cell (p:=⟨1,0,none⟩) (Cb _ _ he)).trans he⟩,(hb.cell (p:=⟨0,0,none⟩) (Cb _ _ h.han)).trans h.han⟩
section
variable {Z w:World}{p:Nat}{nd:Value}{xs:List AW}{ta:Option Addr}{tn tc AJ:Nat}{ts:List CO}
def XI(E:BR Z ta tn ts AJ)(htl:ts.length<=2000)(hs:∀y∈ts,y.t.size<=2000)(h:Dl Z p ta tn tc AJ w 0 nd []){q:Nat}{l:List (List AM)}(hr:Ce ts=(true,q,l))(hq:¬ q<ts.length):Calls prog 48 #[.pointer (some ⟨p,0,none⟩)] w fun e w'=>e=.returned .nilIface/\∃nd',KT Z p ta tn tc AJ w nd [] [] [Dc l] q w' nd' A3 []:=by
 have hln:=E.row.len;obtain⟨h1,h2,h3,h4⟩:=G6 htl hs hr;by_cases h0:ts= []
 .unfold Ce at hr;rw[AL h0]at hr;cases hr;exact Ul h (by rw[<-hln,h0];rfl) (AZ _)
 .have hp:=Kx h0;rw[hr]at hp;have hS:=Mc E (by omega) (bd (p:=p) (tc:=tc) E (by omega) (6*ts.length+9)) AC (AZ _) hp;have hpos:0<ts.length:=Dm.2 h0;exact Za h (by show 0+_<=_;omega) (by omega) hS (by omega) (by show 0+_<=_;omega)
def Un(E:BR Z ta tn ts AJ)(htl:ts.length<=2000)(h:Dl Z p ta tn tc AJ w 0 nd [])(hr:¬((Ce ts).1=true/\¬(Ce ts).2.1<ts.length)):Calls prog 48 #[.pointer (some ⟨p,0,none⟩)] w fun e w'=>∃b,e=.returned (Bt b)/\EK w' b (Al ts AJ (Ce ts).2.1).p/\Below Z.heap.size Z w':=by
 have hln:=E.row.len;by_cases h0:ts= []
 .exact absurd ⟨by unfold Ce;rw[AL h0],by rw[h0];exact Bc _⟩ hr
 .have hp:=Kx h0;have hpos:0<ts.length:=Dm.2 h0;have hS:=Mc E (by omega) (bd (p:=p) (tc:=tc) E (by omega) (6*ts.length+9)) AC (AZ _) hp;have hadv:=Cc (Ab ts) (6*ts.length+9) 7 0 [] (AZ _) (Ce ts).1 (Ce ts).2.1 (Ce ts).2.2 hp;have hq:(Ce ts).2.1<=ts.length:=hadv.2.1;clear hp hadv;generalize Ce ts=R at hr hS hq ⊢;obtain⟨b,q,l⟩:=R;cases b with
  |false=>exact XH h (by show 0+_<=_;omega) (by omega) hS
  |true=>
   have hq':q<=ts.length:=hq;have hlt:q<ts.length:=FV fun hn=>hr ⟨rfl,hn⟩;exact Um (q:=q) E h (by show 0+_<=_;omega) (by omega) (by omega) hS (by omega)
def Ti:Dl Z Z.heap.size ta tn tc AJ (Z.alloc (.cells #[.slice ta tn tc,.int .i64 0,.int .i64 (AJ:Nat),.slice none 0 0] 88)) 0 (.slice none 0 0) []:=by refine⟨?_,⟨rfl,.inl ⟨rfl,rfl⟩⟩,(fun x h=>by cases h),by simp[Bm],AI.alloc AC _,AC,by decide,by decide⟩;show(Z.heap.push _)[Z.heap.size]? =_;simp
end
def NR(b off cap:Nat)(s:AE)(w:World)(h:De w (some ⟨b,off,none⟩) s.size (bz s))(hs:s.size<=17592186044416)(hG:Yi w)(hc:(Br s).2.1≠0):Calls prog 20 #[.slice (some ⟨b,off,none⟩) s.size cap] w fun e w'=>Jp w.heap.size (DH s) e w'/\Below w.heap.size w w':=by
 have hbA:Below w.heap.size w (w.alloc (.cells #[.slice none 0 0] 29)):=AI.alloc AC _;have HL:=AB (H7 b off cap s (w.alloc (.cells #[.slice none 0 0] 29)) (h.below AC hbA) hs (hG.gl.below hbA).2.1 (hG.gl.below hbA).2.2);have HBA:=AB hbA;have hr:DH s=([],(Br s).2.1,(Br s).2.2):=by unfold DH;rw[AL hc]
 rw[hr];generalize Br s=L at HL hc ⊢;obtain⟨ts,c,q⟩:=L;have hc0:(c==0)=false:=by simpa using hc
 clear h hs hG hbA hr hc;go_enter func20,ntmps20;go_wp2_with(go_at_call 47;refine(AA HL).mono ?_;rintro e w2⟨v,rfl,_,hb2⟩;have GQ:w2.cell? ⟨w.heap.size,0,none⟩=some (.slice none 0 0):=(hb2.cell (p:=⟨w.heap.size,0,none⟩) (by simp)).trans (by simp);have hfz:w2.frozen? ⟨w.heap.size,0,none⟩=false:=(hb2.frozen (p:=⟨w.heap.size,0,none⟩) (by simp)).trans (by simp);have hsz:=hb2.size;have HB2:=AB ((AA HBA).trans (hb2.mono (by simp)));clear hb2;dsimp only);refine bodyPost_ret (v:=.tuple #[.agg #[.slice none 0 0],.int .i64 c,.int .i64 (q:Nat)]) (by simp[results,results20,go_sem,GQ]) rfl ?_;exact⟨⟨_,[],rfl,rfl,Is.nil _ _⟩,(AA HB2).setCell AC _⟩
def cZ{w:World}{t:Addr}{e:Addr}{o1 o2 o3 o4:Obj}{B:Nat}(hB:B<=t.block)(hw:B<=w.heap.size):Below B w (((((w.alloc o1).alloc o2).alloc o3).alloc o4).setCell t (.pointer (some e))):=((((AI.alloc hw _).alloc (by simp;omega) _).alloc (by simp;omega) _).alloc (by simp;omega) _).setCell hB _
def aQ{w:World}{t:Addr}{u old:Value}{o1 o2 o3 o4:Obj}(ht:w.cell? t=some old):(((((w.alloc o1).alloc o2).alloc o3).alloc o4).setCell t u).cell? t=some u:=by have hl:=Cb _ _ ht;exact CQ _ _ _ (by rw[Bg _ _ t (by simp;omega),Bg _ _ t (by simp;omega),Bg _ _ t (by simp;omega),Bg _ _ t hl];exact ht)
def N8(b off cap:Nat)(s:AE)(w:World)(h:De w (some ⟨b,off,none⟩) s.size (bz s))(hs:s.size<=17592186044416)(hG:Yi w)(hc:(Br s).2.1=0)(hbad:¬((Ce (Br s).1).1=true/\¬(Ce (Br s).1).2.1<(Br s).1.length)):Calls prog 20 #[.slice (some ⟨b,off,none⟩) s.size cap] w fun e w'=>Jp w.heap.size (DH s) e w'/\Below w.heap.size w w':=by
 have hbA:Below w.heap.size w (w.alloc (.cells #[.slice none 0 0] 29)):=AI.alloc AC _;have HL:=AB (H7 b off cap s (w.alloc (.cells #[.slice none 0 0] 29)) (h.below AC hbA) hs (hG.gl.below hbA).2.1 (hG.gl.below hbA).2.2);have HBA:=AB hbA;have hr:DH s=([],1,(Al (Br s).1 s.size (Ce (Br s).1).2.1).p):=by unfold DH;rw[AG (by simpa using hc),AG hbad]
 rw[hr];obtain⟨hm1,hm2⟩:=JK s;have hs2:s.size<=2000:=Jj hc;have HG:=AB hG;generalize Br s=L at HL hc hbad hm1 hm2 ⊢;obtain⟨ts,c,q⟩:=L;have hc0:c=0:=hc;subst hc0;have HM1:=AB hm1;have hm2':ts.length<=2000:=hm2;have HBAD:=AB hbad;generalize hN:s.size=n at HL hs2 ⊢;obtain⟨Q,hQ⟩:∃Q,(Al ts n (Ce ts).2.1).p=Q:=⟨_,rfl⟩
 rw[show((([]:List AM),(1:Int),(Al ts n (Ce ts).2.1).p):List AM×Int×Nat)=([],1,Q) by rw[hQ]];have HQ:=AB hQ;clear h hs hG hbA hr hc hm1 hm2 hbad hN hQ;go_enter func20,ntmps20;go_wp2_with((go_at_call 47;refine(AA HL).mono ?_;rintro e w2⟨v,rfl,hO,hb2⟩;have hO':w2.ownsRow (w.alloc (.cells #[.slice none 0 0] 29)).heap.size 64 4 v ts.length (ts.flatMap Bo):=hO;obtain⟨ta,tc,rfl,hT⟩:=PQ hO';have GQ:w2.cell? ⟨w.heap.size,0,none⟩=some (.slice none 0 0):=(hb2.cell (p:=⟨w.heap.size,0,none⟩) (by simp)).trans (by simp);have hfz:w2.frozen? ⟨w.heap.size,0,none⟩=false:=(hb2.frozen (p:=⟨w.heap.size,0,none⟩) (by simp)).trans (by simp);have hsz:w.heap.size<w2.heap.size:=(by have:=hb2.size;simp at this;omega);have hB2:=(AA HBA).trans (hb2.mono (by simp));have HE:Hid (BR w2 ta ts.length ts n):=⟨hT.row,fun y hy=>((AA HM1) y hy).1.1,by omega,by omega,((AA HG).below hB2).gl,((AA HG).below hB2).err⟩;have HB2:=AB hB2;clear hb2 hO hO' hT hB2;dsimp only)
 )
 refine(Un (AA HE) hm2' Ti (AA HBAD)).mono ?_;rintro e w3⟨fb,rfl,hf,hb3⟩;obtain⟨ev,hf'⟩:=hf;rw[AA HQ]at hf';have hfl:=lt_of_block hf';have hz3:=hb3.size;have c3:w3.cell? ⟨w.heap.size,0,none⟩=some (.slice none 0 0):=(hb3.cell (p:=⟨w.heap.size,0,none⟩) hsz).trans GQ;have f3:w3.frozen? ⟨w.heap.size,0,none⟩=false:=(hb3.frozen (p:=⟨w.heap.size,0,none⟩) hsz).trans hfz;have hB3:=(AA HB2).trans (hb3.mono (FN hsz));have hh:=((AA HG).below hB3).han;have HAS:=AB (cY ⟨fb,0,none⟩ ⟨w3.heap.size,0,none⟩ (.pointer none) (w3.alloc (.cells #[.pointer none] 90)) (by rw[Bg _ _ ⟨0,0,none⟩ (Cb _ _ hh)];exact hh) (by simp) (by simp));have hcf:w3.cell? ⟨fb,0,none⟩=some (.int .i64 (Q:Nat)):=by simp[World.cell?,hf']
 have hne1:¬ fb=w.heap.size:=fun e=>by rw[e,c3]at hcf;cases hcf
 have hne2:¬ w3.heap.size=w.heap.size:=by omega
 have HB3:=AB hB3;delta Bt;clear hf' hb3 hh hB3 GQ hfz HL HBA HE HB2 HBAD HQ HM1;go_wp2_with(go_at_call 49;refine(AA HAS).mono ?_;clear HAS;rintro e w4⟨rfl,hw4⟩;have hb4:Below w3.heap.size w3 w4:=(by rw[hw4];exact(AI.alloc AC _).trans (cZ AC (by simp)));have ct:w4.cell? ⟨w3.heap.size,0,none⟩=some (.pointer (some ⟨fb,0,none⟩)):=(by rw[hw4];exact aQ (old:=.pointer none) (by simp));have cq:w4.cell? ⟨fb,0,none⟩=some (.int .i64 (Q:Nat)):=(hb4.cell (p:=⟨fb,0,none⟩) hfl).trans hcf;have c4:w4.cell? ⟨w.heap.size,0,none⟩=some (.slice none 0 0):=(hb4.cell (p:=⟨w.heap.size,0,none⟩) (by show w.heap.size<_;omega)).trans c3;have f4:w4.frozen? ⟨w.heap.size,0,none⟩=false:=(hb4.frozen (p:=⟨w.heap.size,0,none⟩) (by show w.heap.size<_;omega)).trans f3;have HB4:=AB ((AA HB3).trans (hb4.mono (by omega)));clear hb4 hw4)
 go_region
 all_goals go_wp2_with fail
 all_goals(refine bodyPost_ret (v:=.tuple #[.agg #[.slice none 0 0],.int .i64 1,.int .i64 (Q:Nat)]) (by simp[results,results20,go_sem,c4]) rfl ?_;exact⟨⟨_,[],rfl,rfl,Is.nil _ _⟩,(by first|exact((AA HB4).setCell AC _).drew|exact((AA HB4).drew).setCell AC _)⟩)
def Pi(b off cap:Nat)(s:AE)(w:World)(h:De w (some ⟨b,off,none⟩) s.size (bz s))(hs:s.size<=17592186044416)(hG:Yi w)(hc:(Br s).2.1=0){q0:Nat}{l:List (List AM)}(hl:Ce (Br s).1=(true,q0,l))(hq:¬ q0<(Br s).1.length):Calls prog 20 #[.slice (some ⟨b,off,none⟩) s.size cap] w fun e w'=>Jp w.heap.size (DH s) e w'/\Below w.heap.size w w':=by
 have hbA:Below w.heap.size w (w.alloc (.cells #[.slice none 0 0] 29)):=AI.alloc AC _;have HL:=AB (H7 b off cap s (w.alloc (.cells #[.slice none 0 0] 29)) (h.below AC hbA) hs (hG.gl.below hbA).2.1 (hG.gl.below hbA).2.2);have HBA:=AB hbA;obtain⟨S,hS⟩:∃S,F5 B2 (Dc l)=S:=⟨_,rfl⟩
 have hr:DH s=if S=true then(Dc l,0,0)else([],7,0):=by unfold DH;rw[AG (by simpa using hc),hl,AL ⟨rfl,hq⟩,hS]
 rw[hr];obtain⟨hm1,hm2⟩:=JK s;have hs2:s.size<=2000:=Jj hc;have HG:=AB hG;generalize Br s=L at HL hc hl hq hm1 hm2 ⊢;obtain⟨ts,c,q⟩:=L;have hc0:c=0:=hc;subst hc0;have hm2':ts.length<=2000:=hm2;obtain⟨k1,k2,k3,_⟩:=G6 hm2' (fun y hy=>(hm1 y hy).2.1) hl;obtain⟨k4,k5⟩:=G5 k1 k2 k3;have HSD:=AB (JJ k1 k2 k3);have HK5:=AB k5;have HM1:=AB hm1;have HLN:=AB hl;have HQ:Hid (¬ q0<ts.length):=hq;have HSS:=AB hS;generalize hN:s.size=n at HL hs2 ⊢;clear h hs hG hbA hr hc hm1 hm2 hl hq hN k1 k2 k3 k5 hS;go_enter func20,ntmps20;go_wp2_with((go_at_call 47;refine(AA HL).mono ?_;rintro e w2⟨v,rfl,hO,hb2⟩;have hO':w2.ownsRow (w.alloc (.cells #[.slice none 0 0] 29)).heap.size 64 4 v ts.length (ts.flatMap Bo):=hO;obtain⟨ta,tc,rfl,hT⟩:=PQ hO';have GQ:w2.cell? ⟨w.heap.size,0,none⟩=some (.slice none 0 0):=(hb2.cell (p:=⟨w.heap.size,0,none⟩) (by simp)).trans (by simp);have hfz:w2.frozen? ⟨w.heap.size,0,none⟩=false:=(hb2.frozen (p:=⟨w.heap.size,0,none⟩) (by simp)).trans (by simp);have hsz:w.heap.size<w2.heap.size:=(by have:=hb2.size;simp at this;omega);have hB2:=(AA HBA).trans (hb2.mono (by simp));have HE:Hid (BR w2 ta ts.length ts n):=⟨hT.row,fun y hy=>((AA HM1) y hy).1.1,by omega,by omega,((AA HG).below hB2).gl,((AA HG).below hB2).err⟩;have HB2:=AB hB2;clear hb2 hO hO' hT hB2;dsimp only)
 )
 refine(XI (AA HE) hm2' (fun y hy=>((AA HM1) y hy).2.1) Ti (AA HLN) (AA HQ)).mono ?_;rintro e w3⟨rfl,nd,hk⟩;obtain⟨xs,hP,hxl,hxd⟩:=hk.ps;have hxd':xs.map AW.d=Dc l:=by rw[hxd];show[]++B0 0 (Az [Dc l])=_;rw[J6,IR];rfl
 have hxn:xs.length=(Dc l).length:=by rw[<-hxd',AS]
 have hb3:=hP.low;have hsm:Gs xs:=Ja hxd' fun x hx=>by obtain⟨_,a,b⟩:=AA HK5 x hx;exact⟨by omega,by omega⟩
 obtain⟨a3,d3,rfl,hC⟩:=Kn hP.own hP.lists hsm (by omega);rw[hxd']at hC;have HON:Hid (Is w3 w2.heap.size (.slice a3 xs.length d3) xs):=⟨hP.own,hP.lists,hP.apart⟩
 have hz3:=hb3.size;have c3:w3.cell? ⟨w.heap.size,0,none⟩=some (.slice none 0 0):=(hb3.cell (p:=⟨w.heap.size,0,none⟩) hsz).trans GQ;have f3:w3.frozen? ⟨w.heap.size,0,none⟩=false:=(hb3.frozen (p:=⟨w.heap.size,0,none⟩) hsz).trans hfz;have p3:w3.cell? ⟨w2.heap.size,3,none⟩=some (.slice a3 xs.length d3):=hP.all.2.2.2.1;have pl3:w2.heap.size<w3.heap.size:=hP.all.2.2.2.2.2.2.2.2;have hB3:=(AA HB2).trans (hb3.mono (FN hsz));have hbA:Below w3.heap.size w3 (w3.alloc (.cells #[.pointer none] 90)):=AI.alloc AC _;have HTO:=AB (Ph a3 xs.length d3 (Dc l) (w3.alloc (.cells #[.pointer none] 90)) (hC.below AC hbA) (by rw[hxn];exact AA HSD) (((AA HG).below hB3).below hbA).gl);rw[AA HSS]at HTO;obtain⟨X,hX⟩:∃X,xs.length=X:=⟨_,rfl⟩
 rw[hX]at HTO HON p3;have HXD:=AB hxd';have HB3:=AB (hB3.trans (hbA.mono hB3.size));have HBA3:=AB hbA;clear hk hP hxl hxd hxd' hxn hsm hC hb3 hbA hB3 GQ hfz HL HBA HE HB2 HLN HQ HM1 hX;go_wp2_with(first
  |(go_at_call 49;refine(cX _ _).mono ?_;rintro e w4⟨rfl,rfl⟩)
  |(go_at_call 10;refine(AA HTO).mono ?_;rintro e w5⟨rfl,hb5⟩;have HB5:=AB ((AA HB3).trans (hb5.mono (AA HB3).size));have hb35:=(AA HBA3).trans (hb5.mono (AA HBA3).size);have p5:=(hb35.cell (p:=⟨w2.heap.size,3,none⟩) pl3).trans p3;have c5:=(hb35.cell (p:=⟨w.heap.size,0,none⟩) (by show w.heap.size<_;omega)).trans c3;have f5:=(hb35.frozen (p:=⟨w.heap.size,0,none⟩) (by show w.heap.size<_;omega)).trans f3;have HON5:=AB ((AA HON).below hb35);clear hb5 hb35 HTO HON p3 c3 f3;cases S))
 .refine bodyPost_ret (v:=.tuple #[.agg #[.slice none 0 0],.int .i64 7,.int .i64 0]) (by simp[results,results20,go_sem,c5]) rfl ?_;exact⟨⟨_,[],rfl,rfl,Is.nil _ _⟩,(AA HB5).setCell AC _⟩
 .refine bodyPost_ret (v:=.tuple #[.agg #[.slice a3 X d3],.int .i64 0,.int .i64 0]) (by simp[results,results20,go_sem,c5]) rfl ?_;exact⟨⟨_,xs,rfl,AA HXD,(AA HON5).set hsz (FN hsz)⟩,(AA HB5).setCell AC _⟩
def J1(b off cap:Nat)(s:AE)(w:World)(h:De w (some ⟨b,off,none⟩) s.size (bz s))(hs:s.size<=17592186044416)(hG:Yi w):Calls prog 20 #[.slice (some ⟨b,off,none⟩) s.size cap] w fun e w'=>Jp w.heap.size (DH s) e w'/\Below w.heap.size w w':=by
 by_cases hc:(Br s).2.1=0
 .by_cases hb:(Ce (Br s).1).1=true/\¬(Ce (Br s).1).2.1<(Br s).1.length
  .exact Pi b off cap s w h hs hG hc (q0:=(Ce (Br s).1).2.1) (l:=(Ce (Br s).1).2.2) (by rw[<-hb.1]) hb.2
  .exact N8 b off cap s w h hs hG hc hb
 .exact NR b off cap s w h hs hG hc
