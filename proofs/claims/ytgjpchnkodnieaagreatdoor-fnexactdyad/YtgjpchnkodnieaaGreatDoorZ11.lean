import Derived.Test.YtgjpchnkodnieaaGreatDoorZ06
import Derived.Maps.Views
set_option linter.defProp false
namespace Go.Proofs.YtgjpchnkodnieaaGreatDoor
open Tryz
def Dq(n k:Nat)(f:Nat->Int)(x:Int):((List.range n).map f).set k x=(List.range n).map fun i=>if i=k then x else f i:=by
 apply List.ext_getElem
 .simp
 .intro i h1 h2;simp only[List.getElem_set,List.getElem_map,List.getElem_range];by_cases e:k=i
  .subst e;simp
  .rw[AH e,AH (fun h=>e h.symm)]
def EO(n k:Nat)(f:Nat->Int)(h:k<n):((List.range n).map f).getD k 0=f k:=by simp[h]
def BG{n:Nat}{f g:Nat->Int}(h:∀i,i<n->f i=g i):(List.range n).map f=(List.range n).map g:=EL fun i hi=>h i (by simpa using hi)
def Gc(sh:List Int)(p:Int)(j i:Nat):Int:=if sh.length- j<=i then 0 else Eu sh p i
def SA(sh:List Int)(p:Int)(j:Nat):List Int:=(List.range sh.length).map (Gc sh p j)
def Yb(sh:List Int)(p:Int)(j:Nat):(SA sh p j).length=sh.length:=by simp[SA]
def Yc(sh:List Int)(p:Int)(j:Nat)(hj:j<sh.length):(SA sh p j).getD (sh.length- 1- j) 0=Eu sh p (sh.length- 1- j):=by unfold SA;rw[EO _ _ _ (by omega)];unfold Gc;rw[AH (by omega)]
def Wk(sh:List Int)(p:Int):SA sh p 0=BK sh p:=BG fun i hi=>by unfold Gc;rw[AH (by omega)]
def Wl(sh:List Int)(p:Int)(j:Nat)(hj:j<sh.length):(SA sh p j).set (sh.length- 1- j) 0=SA sh p (j+1):=by
 unfold SA;rw[Dq];refine BG fun i hi=> ?_;unfold Gc;by_cases e:i=sh.length- 1- j
 .rw[AI e,AI (by omega)]
 .rw[AH e];by_cases h:sh.length- j<=i
  .rw[AI h,AI (by omega)]
  .rw[AH h,AH (by omega)]
def Oh(sh:List Int)(p:Int)(j:Nat):Prop:=Ci sh (p+1) j=Ci sh p j+1/\∀i,sh.length- j<=i->i<sh.length->Eu sh (p+1) i=0
def Sx(sh:List Int)(p:Int):Oh sh p 0:=⟨rfl,fun i h1 h2=>by omega⟩
def UV{r s:Int}(hs:0<s)(h:r % s+1<s):(r+1) / s=r / s/\(r+1) % s=r % s+1:=by have h1:=Int.mul_ediv_add_emod r s;have h2:=Int.emod_nonneg r (by omega:s≠0);exact(Int.ediv_emod_unique hs).2 ⟨by omega,by omega,h⟩
def UW{r s:Int}(hs:0<s)(h:¬ r % s+1<s):(r+1) / s=r / s+1/\(r+1) % s=0:=by
 have h1:=Int.mul_ediv_add_emod r s;have h2:=Int.emod_nonneg r (by omega:s≠0);have h3:=Int.emod_lt_of_pos r hs;have h4:r % s+1=s:=by omega
 refine(Int.ediv_emod_unique hs).2 ⟨?_,by omega,hs⟩;rw[Int.mul_add,Int.mul_one];omega
def Js(sh:List Int)(p:Int)(j:Nat)(hj:j<sh.length):Eu sh p (sh.length- 1- j)=Ci sh p j % sh.getD (sh.length- 1- j) 0:=by unfold Eu;rw[show sh.length- 1- (sh.length- 1- j)=j by omega]
def Sz{sh:List Int}(hf:F0 sh){p:Int}{j:Nat}(hc:Oh sh p j)(hj:j<sh.length)(h:¬ Eu sh p (sh.length- 1- j)+1<sh.getD (sh.length- 1- j) 0):Oh sh p (j+1):=by
 rw[Js _ _ _ hj]at h;obtain⟨h1,h2⟩:=UW (hf (sh.length- 1- j) (by omega)) h;refine⟨?_,fun i hi hl=> ?_⟩
 .show Ci sh (p+1) j / _=Ci sh p j / _+1;rw[hc.1];exact h1
 .by_cases e:i=sh.length- 1- j
  .subst e;rw[Js _ _ _ hj,hc.1];exact h2
  .exact hc.2 i (by omega) hl
def P8{sh:List Int}{p q:Int}{j:Nat}(h:Ci sh p j=Ci sh q j)(d:Nat):Ci sh p (j+d)=Ci sh q (j+d):=by
 induction d with
 |zero=>exact h
 |succ d ih=>show Ci sh p (j+d) / _=Ci sh q (j+d) / _;rw[ih]
def Sy{sh:List Int}(hf:F0 sh){p:Int}{j:Nat}(hc:Oh sh p j)(hj:j<sh.length)(h:Eu sh p (sh.length- 1- j)+1<sh.getD (sh.length- 1- j) 0):(SA sh p j).set (sh.length- 1- j) (Eu sh p (sh.length- 1- j)+1)=BK sh (p+1):=by
 have hd:=Js sh p j hj;rw[hd]at h ⊢;obtain⟨h1,h2⟩:=UV (hf (sh.length- 1- j) (by omega)) h;unfold SA BK;rw[Dq];refine BG fun i hi=> ?_;by_cases e:i=sh.length- 1- j
 .rw[AI e];subst e;rw[Js _ _ _ hj,hc.1,h2]
 .rw[AH e];unfold Gc;by_cases h3:sh.length- j<=i
  .rw[AI h3,hc.2 i h3 hi]
  .rw[AH h3];have e2:Ci sh p (j+1)=Ci sh (p+1) (j+1):=by show Ci sh p j / _=Ci sh (p+1) j / _;rw[hc.1,h1]
   have e3:=P8 e2 (sh.length- 1- i- (j+1));rw[show j+1+(sh.length- 1- i- (j+1))=sh.length- 1- i by omega]at e3;unfold Eu;rw[e3]
def U9{sh:List Int}{p:Int}{j:Nat}(hc:Oh sh p j)(hj:sh.length<=j):SA sh p j=BK sh (p+1):=BG fun i hi=>by unfold Gc;rw[AI (by omega),hc.2 i (by omega) hi]
def Q5(sh:List Int):BK sh 0=List.replicate sh.length 0:=by
 have h0:∀j,Ci sh 0 j=0:=by
  intro j;induction j with
  |zero=>rfl
  |succ j ih=>show Ci sh 0 j / _=0;rw[ih];simp
 have e:List.replicate sh.length (0:Int)=(List.range sh.length).map fun _=>0:=by rw[List.map_const'];simp
 rw[e];exact BG fun i hi=>by unfold Eu;rw[h0];simp
def Cc(sh:List Int)(f:List Int->Nat->Int)(D:List Int):List Int:=(List.range sh.length).map (f D)
def OS(sh:List Int)(f:List Int->Nat->Int)(D:List Int):(Cc sh f D).length=sh.length:=by simp[Cc]
def IV(sh:List Int)(f:List Int->Nat->Int)(D:List Int)(k:Nat)(h:k<sh.length):(Cc sh f D).getD k 0=f D k:=EO _ _ _ h
def BP(c:Bool)(sh dt:List Int)(f:List Int->Nat->Int)(zs:List Int)(k:Nat):Int×Int:=if BX sh (Cc sh f (BK zs k)) sh.length=true then(dt.getD (place sh (Cc sh f (BK zs k))).toNat 0,0)else(Ec c,0)
def ES(c:Bool)(sh dt:List Int)(f:List Int->Nat->Int)(zs:List Int)(N k:Nat):List Int:=(List.range N).map fun i=>if i<k then(BP c sh dt f zs i).1 else Ec c
def W7(c:Bool)(sh dt:List Int)(f:List Int->Nat->Int)(zs:List Int)(N k:Nat):(ES c sh dt f zs N k).length=N:=by simp[ES]
def Ul(c:Bool)(sh dt:List Int)(f:List Int->Nat->Int)(zs:List Int)(N:Nat):ES c sh dt f zs N 0=List.replicate N (Ec c):=by
 have e:List.replicate N (Ec c)=(List.range N).map fun _=>Ec c:=by rw[List.map_const'];simp
 rw[e];exact BG fun i _=>by rw[AH (by omega)]
def XA(c:Bool)(sh dt:List Int)(f:List Int->Nat->Int)(zs:List Int)(N:Nat):ES c sh dt f zs N N=Bg (BP c sh dt f zs) N:=BG fun i hi=>by rw[AI hi]
def Yj(c:Bool)(sh dt:List Int)(f:List Int->Nat->Int)(zs:List Int)(N k:Nat)(x:Int)(hx:(BP c sh dt f zs k).1=x):(ES c sh dt f zs N k).set k x=ES c sh dt f zs N (k+1):=by
 unfold ES;rw[Dq];refine BG fun i _=> ?_;by_cases e:i=k
 .subst e;rw[AI rfl,AI (by omega),hx]
 .rw[AH e];by_cases h:i<k
  .rw[AI h,AI (by omega)]
  .rw[AH h,AH (by omega)]
def W6(c:Bool)(sh dt:List Int)(f:List Int->Nat->Int)(zs:List Int)(N k:Nat)(h:BX sh (Cc sh f (BK zs k)) sh.length=false):ES c sh dt f zs N k=ES c sh dt f zs N (k+1):=by
 refine BG fun i _=> ?_;by_cases e:i=k
 .subst e;rw[AH (by omega),AI (by omega)];unfold BP;rw[AH (by simp[h])]
 .by_cases h:i<k
  .rw[AI h,AI (by omega)]
  .rw[AH h,AH (by omega)]
def Um{c:Bool}{sh dt:List Int}{f:List Int->Nat->Int}{zs:List Int}{k:Nat}(h:BX sh (Cc sh f (BK zs k)) sh.length=true):(BP c sh dt f zs k).1=dt.getD (place sh (Cc sh f (BK zs k))).toNat 0:=by unfold BP;rw[AI h]
def K5{sh ix:List Int}{k:Nat}(h:BX sh ix k=true)(h1:0<=ix.getD k 0)(h2:ix.getD k 0<sh.getD k 0):BX sh ix (k+1)=true:=by simp only[BX,Ah,BC];exact⟨h,h1,h2⟩
def SJ{sh ix:List Int}{n k:Nat}(hk:k<n)(h:¬(0<=ix.getD k 0/\ix.getD k 0<sh.getD k 0)):BX sh ix n=false:=by
 cases e:BX sh ix n with
 |false=>rfl
 |true=>exact absurd (H9 e k hk) h
def MO{sh ix:List Int}(k:Nat)(hi:BX sh ix k=true)(hk:k<=sh.length):0<=BO sh ix k/\BO sh ix k<AM (sh.take k)\/k=0:=by
 by_cases h0:k=0
 .exact .inr h0
 refine .inl ?_;have hin:GC (sh.take k) ix:=fun i hi'=>by
  have hi2:i<k:=by simp at hi';omega
  have:=H9 hi i hi2;have e:(sh.take k).getD i 0=sh.getD i 0:=by simp[List.getD,hi2]
  rw[e];exact this
 have hb:=Fp hin;have e2:∀j,j<=k->BO (sh.take k) ix j=BO sh ix j:=by
  intro j;induction j with
  |zero=>intro _;rfl
  |succ j ih=>
   intro hj;show BO (sh.take k) ix j*_+_=BO sh ix j*_+_;rw[ih (by omega)];have e:(sh.take k).getD j 0=sh.getD j 0:=by simp[List.getD,show j<k by omega]
   rw[e]
 have Bq:(sh.take k).length=k:=by simp;omega
 unfold place at hb;rw[Bq,e2 k AC]at hb;exact hb
def CQ(c:Bool)(n:Nat):Int:=if n≠1 then 5 else if c then 3 else 0
def JO(n A d t:Nat):Nat:=(t / A / n*n+(t / A % n+d) % n)*A+t % A
def OH(n A d:Nat)(dt:List Int)(t:Nat):Int×Int:=(dt.getD (JO n A d t) 0,0)
def MD{n A d p i q:Nat}(hi:i<n)(hq:q<A):JO n A d ((p*n+i)*A+q)=(p*n+(i+d) % n)*A+q:=by
 have hA:0<A:=by omega
 have hn:0<n:=by omega
 have e1:((p*n+i)*A+q) / A=p*n+i:=by rw[Et,Nat.add_mul_div_right _ _ hA,Nat.div_eq_of_lt hq,Cq]
 have e2:((p*n+i)*A+q) % A=q:=by rw[Et,Nat.add_mul_mod_self_right,Nat.mod_eq_of_lt hq]
 have e3:(p*n+i) / n=p:=by rw[Et,Nat.add_mul_div_right _ _ hn,Nat.div_eq_of_lt hi,Cq]
 have e4:(p*n+i) % n=i:=by rw[Et,Nat.add_mul_mod_self_right,Nat.mod_eq_of_lt hi]
 unfold JO;rw[e1,e2,e3,e4]
def JE{B n A p i q:Nat}(hp:p<B)(hi:i<n)(hq:q<A):(p*n+i)*A+q<B*n*A:=by
 have h1:p*n+i+1<=B*n:=by have:(p+1)*n<=B*n:=Nat.mul_le_mul_right n hp;rw[Nat.add_mul,Nat.one_mul]at this;omega
 have h2:(p*n+i+1)*A<=B*n*A:=Nat.mul_le_mul_right A h1;rw[Nat.add_mul,Nat.one_mul]at h2;omega
def CT(c d:Bool)(sh dt sh' dt':List Int)(fl:Bool):Ic:=if AJ c sh dt=true/\AJ d sh' dt'=true then
  if CQ c dt.length≠0 then AT (CQ c dt.length)
  else if sh'= []\/dt'= []then⟨d,sh',dt',0⟩
  else⟨d,sh',Bg (OH (EP sh' fl).toNat (Ev sh' fl).toNat (Bk (EP sh' fl) (dt.getD 0 0)).toNat dt') dt'.length,0⟩
 else AT 3
section
variable {c d fl:Bool}{sh dt sh' dt':List Int}
def Km(h:AJ c sh dt=false):CT c d sh dt sh' dt' fl=AT 3:=by unfold CT;rw[AH (by simp[h])]
def Kl(h:AJ d sh' dt'=false):CT c d sh dt sh' dt' fl=AT 3:=by unfold CT;rw[AH (by simp[h])]
def Hq(h1:AJ c sh dt=true)(h2:AJ d sh' dt'=true)(r:Int)(h:CQ c dt.length=r)(hr:r≠0):CT c d sh dt sh' dt' fl=AT r:=by unfold CT;rw[AI ⟨h1,h2⟩,h,AI hr]
def GG(h1:AJ c sh dt=true)(h2:AJ d sh' dt'=true)(h:CQ c dt.length=0)(h3:sh'= []\/dt'= []):CT c d sh dt sh' dt' fl=⟨d,sh',dt',0⟩:=by unfold CT;rw[AI ⟨h1,h2⟩,AH (by simp[h]),AI h3]
def OG(h1:AJ c sh dt=true)(h2:AJ d sh' dt'=true)(h:CQ c dt.length=0)(h3:sh'≠ [])(h4:dt'≠ [])(n A e:Nat)(hn:EP sh' fl=n)(hA:Ev sh' fl=A)(he:Bk n (dt.getD 0 0)=e):CT c d sh dt sh' dt' fl=⟨d,sh',Bg (OH n A e dt') dt'.length,0⟩:=by unfold CT;rw[AI ⟨h1,h2⟩,AH (by simp[h]),AH (by rintro(h|h);exact h3 h;exact h4 h),hn,hA,he];rfl
end
def OR{n:Nat}(hn:0<n)(b:Int):0<=Bk n b/\Bk n b<n:=by
 unfold Bk;have h1:=Int.tmod_lt_of_pos b (by omega:(0:Int)<n);have h2: -(n:Int)<b.tmod n:=Int.lt_tmod_of_pos b (by omega);rw[AH (by omega)];split
 .rename_i h
  have h3:b.tmod n<0:=by
   by_cases h4:b.tmod n<0
   .exact h4
   .exfalso;apply h.2;rw[AK h4,AK (by omega)]
  omega
 .rename_i h
  have:¬ b.tmod n<0:=by intro h4;apply h;refine⟨by omega,?_⟩;rw[AL h4,AK (by omega)];simp
  omega
def IX{sh ix:List Int}(h:GC sh ix)(k:Nat)(hk:k<=sh.length):BX sh ix k=true:=by
 induction k with
 |zero=>rfl
 |succ k ih=>exact K5 (ih (by omega)) (h k (by omega)).1 (h k (by omega)).2
def Fm(l:List Int)(b m:Nat):(l.drop b).getD m 0=l.getD (b+m) 0:=by simp[List.getD]
def Rv(sh ix:List Int)(b m:Nat)(hm:b+m<=sh.length):BO sh ix (b+m)=BO sh ix b*AM ((sh.drop b).take m)+BO (sh.drop b) (ix.drop b) m:=by
 induction m with
 |zero=>simp[BO,AM]
 |succ m ih=>
  show BO sh ix (b+m)*sh.getD (b+m) 0+ix.getD (b+m) 0=_;rw[ih (by omega),Fh _ _ (by simp;omega)];show _=BO sh ix b*(AM ((sh.drop b).take m)*(sh.drop b).getD m 0)+(BO (sh.drop b) (ix.drop b) m*(sh.drop b).getD m 0+(ix.drop b).getD m 0)
  rw[Fm,Fm,Int.add_mul,Int.mul_assoc,Int.add_assoc]
def Ei(sh ix:List Int)(a:Nat)(ha:a<sh.length):place sh ix=(BO sh ix a*sh.getD a 0+ix.getD a 0)*AM (sh.drop (a+1))+place (sh.drop (a+1)) (ix.drop (a+1)):=by have h:=Rv sh ix (a+1) (sh.length- (a+1)) (by omega);rw[show a+1+(sh.length- (a+1))=sh.length by omega,AV (by simp)]at h;unfold place;rw[h];simp[BO]
def QK{sh x y:List Int}(k:Nat)(h:∀i,i<k->x.getD i 0=y.getD i 0):BO sh x k=BO sh y k:=by
 induction k with
 |zero=>rfl
 |succ k ih=>show BO sh x k*_+_=BO sh y k*_+_;rw[ih (fun i hi=>h i (by omega)),h k (by omega)]
def R9{n:Int}(hn:0<n)(b:Int):Bk n b=b % n:=by
 unfold Bk;rw[AH (by omega)];have h1:=Int.tmod_lt_of_pos b hn;have h2: -n<b.tmod n:=Int.lt_tmod_of_pos b hn;have h3:=Int.mul_tdiv_add_tmod b n;split
 .rename_i h
  have h4:b.tmod n<0:=by
   by_cases h4:b.tmod n<0
   .exact h4
   .exfalso;apply h.2;rw[AK h4,AK (by omega)]
  have:=(Int.ediv_emod_unique (a:=b) (r:=b.tmod n+n) (q:=b.tdiv n- 1) hn).2 ⟨by rw[Int.mul_sub,Int.mul_one];omega,by omega,by omega⟩;exact this.2.symm
 .rename_i h
  have h4:¬ b.tmod n<0:=by intro h4;apply h;refine⟨by omega,?_⟩;rw[AL h4,AK (by omega)];simp
  have:=(Int.ediv_emod_unique (a:=b) (r:=b.tmod n) (q:=b.tdiv n) hn).2 ⟨by omega,by omega,by omega⟩;exact this.2.symm
def T3{n:Int}(hn:0<n)(b:Int):(b.tmod n+n).tmod n=b % n:=by
 have h1:=Int.tmod_lt_of_pos b hn;have h2: -n<b.tmod n:=Int.lt_tmod_of_pos b hn;have h3:=Int.mul_tdiv_add_tmod b n;rw[Au (by omega)];by_cases h4:b.tmod n<0
 .rw[Int.emod_eq_of_lt (by omega) (by omega)];have:=(Int.ediv_emod_unique (a:=b) (r:=b.tmod n+n) (q:=b.tdiv n- 1) hn).2 ⟨by rw[Int.mul_sub,Int.mul_one];omega,by omega,by omega⟩;exact this.2.symm
 .rw[Int.add_emod_right,Int.emod_eq_of_lt (by omega) (by omega)];have:=(Int.ediv_emod_unique (a:=b) (r:=b.tmod n) (q:=b.tdiv n) hn).2 ⟨by omega,by omega,by omega⟩;exact this.2.symm
def KD(sh:List Int)(a:Int)(k:Int)(D:List Int)(i:Nat):Int:=if(i:Int)=a then(D.getD i 0+k) % sh.getD i 0 else D.getD i 0
def Rr{d:Bool}{sh dt:List Int}{a:Nat}{k:Int}(hf:F0 sh)(ha:a<sh.length)(t:Nat)(ht:(t:Int)<AM sh)(n A e:Nat)(hn:sh.getD a 0=n)(hA:AM (sh.drop (a+1))=A)(he:Bk n k=e):BP d sh dt (KD sh a k) sh t=OH n A e dt t:=by
 have hn0:(0:Int)<n:=by rw[<-hn];exact hf a ha
 have hD:=Ek hf (t:Int);have hpl:=Gq hf (p:=(t:Int)) (by omega) ht;have hDl:=De sh (t:Int);obtain⟨D,hDD⟩:∃D,BK sh (t:Int)=D:=⟨_,rfl⟩
 rw[hDD]at hD hpl hDl;have hMg:=IV sh (KD sh a k) D;have hMl:=OS sh (KD sh a k) D;obtain⟨M,hM⟩:∃M,Cc sh (KD sh a k) D=M:=⟨_,rfl⟩
 rw[hM]at hMg hMl;have hoth:∀i,i<sh.length->i≠a->M.getD i 0=D.getD i 0:=fun i hi hne=>by rw[hMg i hi];unfold KD;rw[AH (by omega)]
 have hat:M.getD a 0=(D.getD a 0+k) % n:=by rw[hMg a ha];unfold KD;rw[AI rfl,hn]
 have hMin:GC sh M:=fun i hi=>by
  by_cases e:i=a
  .subst e;rw[hat,hn];exact⟨Int.emod_nonneg _ (by omega),Int.emod_lt_of_pos _ hn0⟩
  .rw[hoth i hi e];exact hD i hi
 have hdrop:M.drop (a+1)=D.drop (a+1):=by
  apply List.ext_getElem
  .simp;omega
  .intro i h1 h2;have hi:a+1+i<sh.length:=by simp at h1;omega
   have:=hoth (a+1+i) hi (by omega);simp only[List.getElem_drop];simpa[List.getD,show a+1+i<M.length by omega,show a+1+i<D.length by omega]using this
 have hsp:=Ei sh M a ha;have hsd:=Ei sh D a ha;rw[QK a (fun i hi=>hoth i (by omega) (by omega)),hat,hdrop,hn,hA]at hsp;rw[hpl,hn,hA]at hsd;have hrest:GC (sh.drop (a+1)) (D.drop (a+1)):=fun i hi=>by rw[Fm,Fm];exact hD _ (by simp at hi;omega)
 have hq:=Fp hrest;rw[hA]at hq;have hP:=(GY hD a (by omega)).1;have hi:=hD a ha;rw[hn]at hi;obtain⟨p,hp⟩:∃p:Nat,BO sh D a=p:=⟨(BO sh D a).toNat,by omega⟩
 obtain⟨i,hi'⟩:∃i:Nat,D.getD a 0=i:=⟨(D.getD a 0).toNat,by omega⟩
 obtain⟨q,hq'⟩:∃q:Nat,place (sh.drop (a+1)) (D.drop (a+1))=q:=⟨(place (sh.drop (a+1)) (D.drop (a+1))).toNat,by omega⟩
 rw[hp,hi',hq']at hsd hsp;rw[hi']at hi;rw[hq']at hq;have he2:((i:Int)+k) % n=(((i+e) % n:Nat):Int):=by rw[R9 hn0]at he;rw[Int.natCast_emod,Int.natCast_add,<-he,Int.add_emod_emod]
 rw[he2]at hsp;have hts:t=(p*n+i)*A+q:=by exact_mod_cast hsd
 have hfrom:=MD (n:=n) (A:=A) (d:=e) (p:=p) (i:=i) (q:=q) (by omega) (by omega);have hpm:place sh M=((JO n A e t:Nat):Int):=by rw[hts,hfrom,hsp];push_cast;rfl
 unfold BP OH;rw[hDD,hM,AI (IX hMin _ AC),hpm];simp
def T5{f g:Nat->Int×Int}{n:Nat}(h:∀i,i<n->(f i).1=(g i).1):Bg f n=Bg g n:=BG h
structure X7(sh:List Int)(fl:Bool)(B L A:Nat):Prop where
 b:GL sh fl=B
 l:EP sh fl=L
 a:Ev sh fl=A
def Pe{c:Bool}{sh dt:List Int}(fl:Bool)(hok:AJ c sh dt=true)(hne:sh≠ []):∃B L A:Nat,X7 sh fl B L A/\B*L*A=dt.length/\B<=10000/\L<=10000/\A<=10000:=by
 obtain⟨hin,hp,_⟩:=AW hok;have h1:=(hin.take (CO sh fl)).bd;have h2:=hin.cell (CO sh fl);have h3:=(hin.drop (CO sh fl+1)).bd;have e:=RN sh fl hne;rw[hp]at e;obtain⟨B,hB⟩:∃B:Nat,GL sh fl=B:=⟨(GL sh fl).toNat,by unfold GL;omega⟩
 obtain⟨L,hL⟩:∃L:Nat,EP sh fl=L:=⟨(EP sh fl).toNat,by unfold EP;omega⟩
 obtain⟨A,hA⟩:∃A:Nat,Ev sh fl=A:=⟨(Ev sh fl).toNat,by unfold Ev;omega⟩
 refine⟨B,L,A,⟨hB,hL,hA⟩,?_,?_,?_,?_⟩
 .rw[hB,hL,hA]at e
  exact_mod_cast e
 .unfold GL at hB;omega
 .unfold EP at hL;omega
 .unfold Ev at hA;omega
def Al(n2:Nat)(sh':List Int):List Int:=if sh'= []then List.replicate n2 1 else sh'
def Bv(c:Bool)(n1 n2 m1:Nat):Int:=if Ae c n1≠0 then Ae c n1 else if m1=0 then(if 5<n2 then 7 else 0)else if n2≠m1 then 5 else 0
def Gy{c:Bool}{n1 n2 m1:Nat}{r:Int}(h:Ae c n1=r)(hr:r≠0):Bv c n1 n2 m1=r:=by unfold Bv;rw[h,AI hr]
def Gz{c:Bool}{n1 n2 m1:Nat}(h:Ae c n1=0):Bv c n1 n2 m1=if m1=0 then(if 5<n2 then 7 else 0)else if n2≠m1 then 5 else 0:=by unfold Bv;rw[h];rfl
def UU(k:Nat):((List.replicate (k+1) (1:Int)).map (Value.int .i64))=(List.replicate k (1:Int)).map (Value.int .i64)++ [.int .i64 1]:=by rw[List.replicate_succ'];simp
def IU(n:Nat):Aq (List.replicate n 1)/\AM (List.replicate n 1)=1:=by
 induction n with
 |zero=>exact⟨⟨rfl,1,rfl⟩,rfl⟩
 |succ n ih=>
  obtain⟨⟨h1,m,hm⟩,h2⟩:=ih;refine⟨⟨?_,m,?_⟩,?_⟩
  .rw[List.replicate_succ,List.all_cons,h1];rfl
  .rw[List.replicate_succ];simpa[Aj]using hm
  .rw[List.replicate_succ];have:(1:Int)::List.replicate n 1= [1]++List.replicate n 1:=rfl;rw[this,Bi,h2];rfl
def M9{d:Bool}{n2:Nat}{sh' dt':List Int}(h:AJ d sh' dt'=true)(h5:n2<=5):AJ d (Al n2 sh') dt'=true:=by
 unfold Al;split
 .rename_i e
  subst e;obtain⟨_,hp,_⟩:=AW h;unfold AJ at h ⊢;simp only[Ah,BC]at h ⊢;refine⟨by simp;exact h5,?_,h.2.2⟩;obtain⟨hin,hpr⟩:=IU n2;have hb:Am (List.replicate n2 (1:Int))=true:=by obtain⟨ha,m,hm⟩:=hin;exact Ex (n:=n2) (by simp) h5 m ha hm
  rw[<-Bs _ hb,hpr,<-hp];rfl
 .exact h
def Eg(x:Int):Int:=if x<0 then-x else x
def FM(dt:List Int):List Int:=dt.map Eg
def Gn(bs dt:List Int):List Int:=(List.range dt.length).map fun i=>if dt.getD i 0<0 then bs.getD i 0+dt.getD i 0 else 0
def Hb(bs dt:List Int):List Int:=(List.range dt.length).map fun i=>if bs.getD i 0- Eg (dt.getD i 0)<0 then 0 else bs.getD i 0- Eg (dt.getD i 0)
def Fa(dt:List Int):List Int:=dt.map fun x=>if 0<x then x else 0
def N3(dt:List Int):(FM dt).length=dt.length:=by simp[FM]
def Rj(bs dt:List Int):(Gn bs dt).length=dt.length:=by simp[Gn]
def IZ(bs dt:List Int):(Hb bs dt).length=dt.length:=by simp[Hb]
def Sp(dt:List Int):(Fa dt).length=dt.length:=by simp[Fa]
def UD(dt:List Int)(k:Nat)(hk:k<dt.length):(FM dt).getD k 0=Eg (dt.getD k 0):=by simp[FM,hk]
def Lz(bs dt:List Int)(k:Nat)(hk:k<dt.length):(Gn bs dt).getD k 0=if dt.getD k 0<0 then bs.getD k 0+dt.getD k 0 else 0:=by simp[Gn,hk]
def KZ(bs dt:List Int)(k:Nat)(hk:k<dt.length):(Hb bs dt).getD k 0=if bs.getD k 0- Eg (dt.getD k 0)<0 then 0 else bs.getD k 0- Eg (dt.getD k 0):=by simp[Hb,hk]
def M0(dt:List Int)(k:Nat)(hk:k<dt.length):(Fa dt).getD k 0=if 0<dt.getD k 0 then dt.getD k 0 else 0:=by simp[Fa,hk]
def Dx(lim:Bool)(Z S:List Int->List Int->List Int)(c d:Bool)(sh dt sh' dt':List Int):Ic:=if AJ c sh dt=true/\AJ d sh' dt'=true then
  if Bv c sh.length dt.length sh'.length≠0 then AT (Bv c sh.length dt.length sh'.length)
  else
   let bs:=Al dt.length sh'
   if lim=true/\Am (Z bs dt)=false then AT 7
   else⟨d,Z bs dt,Bg (Em d bs dt' (S bs dt) (Z bs dt)) (Ac (Z bs dt)).toNat,0⟩
 else AT 3
def Ib(c d:Bool)(sh dt sh' dt':List Int):Ic:=Dx true (fun _=>FM) Gn c d sh dt sh' dt'
def I0(c d:Bool)(sh dt sh' dt':List Int):Ic:=Dx false Hb (fun _=>Fa) c d sh dt sh' dt'
section
variable {lim:Bool}{Z S:List Int->List Int->List Int}{c d:Bool}{sh dt sh' dt':List Int}
def GE(h:AJ c sh dt=false):Dx lim Z S c d sh dt sh' dt'=AT 3:=by unfold Dx;rw[AH (by simp[h])]
def GD(h:AJ d sh' dt'=false):Dx lim Z S c d sh dt sh' dt'=AT 3:=by unfold Dx;rw[AH (by simp[h])]
def EA(h1:AJ c sh dt=true)(h2:AJ d sh' dt'=true)(r:Int)(h:Bv c sh.length dt.length sh'.length=r)(hr:r≠0):Dx lim Z S c d sh dt sh' dt'=AT r:=by unfold Dx;rw[AI ⟨h1,h2⟩,h,AI hr]
def Lv(h1:AJ c sh dt=true)(h2:AJ d sh' dt'=true)(h:Bv c sh.length dt.length sh'.length=0)(hl:lim=true)(hz:Am (Z (Al dt.length sh') dt)=false):Dx lim Z S c d sh dt sh' dt'=AT 7:=by unfold Dx;rw[AI ⟨h1,h2⟩,AH (by simp[h])];exact AI ⟨hl,hz⟩
def J0(h1:AJ c sh dt=true)(h2:AJ d sh' dt'=true)(h:Bv c sh.length dt.length sh'.length=0)(hz:lim=true->Am (Z (Al dt.length sh') dt)=true)(N:Nat)(hN:Ac (Z (Al dt.length sh') dt)=(N:Int)):Dx lim Z S c d sh dt sh' dt'=⟨d,Z (Al dt.length sh') dt,Bg (Em d (Al dt.length sh') dt' (S (Al dt.length sh') dt) (Z (Al dt.length sh') dt)) N,0⟩:=by unfold Dx;rw[AI ⟨h1,h2⟩,AH (by simp[h])];show(if lim=true/\Am (Z (Al dt.length sh') dt)=false then AT 7 else _)=_;rw[AH (by rintro⟨a,b⟩;rw[hz a]at b;cases b)];simp[hN]
end
def MC{xs ys:List Int}(hy:Aq ys)(hl:xs.length=ys.length)(h:∀k,k<ys.length->0<=xs.getD k 0/\xs.getD k 0<=ys.getD k 0):Aq xs:=by
 have key:∀(xs ys:List Int)(n k m:Int),ys.all Be=true->xs.length=ys.length->(∀i,i<ys.length->0<=xs.getD i 0/\xs.getD i 0<=ys.getD i 0)->1<=k->k<=n->Aj ys n=some m->xs.all Be=true/\∃m',Aj xs k=some m':=by
  intro xs;induction xs with
  |nil=>intro ys n k m _ _ _ _ _ _;exact⟨rfl,k,rfl⟩
  |cons x r ih=>
   intro ys n k m hy hl h hk hkn hp;cases ys with
   |nil=>simp at hl
   |cons y s=>
    simp only[List.all_cons,Ah]at hy;have hyb:0<=y/\y<=10000:=by simpa[Be]using hy.1
    have hx:0<=x/\x<=y:=by simpa using h 0 (by simp)
    have hr:∀i,i<s.length->0<=r.getD i 0/\r.getD i 0<=s.getD i 0:=fun i hi=>by simpa using h (i+1) (by simpa using hi)
    have hl':r.length=s.length:=by simpa using hl
    have hxc:Be x=true:=by simp[Be];omega
    simp only[Aj]at hp;by_cases y0:y=0
    .rw[AI y0]at hp;have x0:x=0:=by omega
     obtain⟨a,m',b⟩:=ih s n k m hy.2 hl' hr hk hkn hp;exact⟨by rw[List.all_cons,hxc,a];rfl,m',by simp only[Aj];rw[AI x0];exact b⟩
    .rw[AH y0]at hp;split at hp
     .simp at hp
     .rename_i hle
      by_cases x0:x=0
      .have h1:n<=n*y:=by have:=Int.mul_le_mul_of_nonneg_left (by omega:(1:Int)<=y) (by omega:0<=n);omega
       obtain⟨a,m',b⟩:=ih s (n*y) k m hy.2 hl' hr hk (by omega) hp;exact⟨by rw[List.all_cons,hxc,a];rfl,m',by simp only[Aj];rw[AI x0];exact b⟩
      .have h1:k*x<=n*y:=Int.mul_le_mul hkn hx.2 hx.1 (by omega);have h2:1*1<=k*x:=Int.mul_le_mul hk (by omega) (by omega) (by omega);obtain⟨a,m',b⟩:=ih s (n*y) (k*x) m hy.2 hl' hr (by omega) h1 hp;exact⟨by rw[List.all_cons,hxc,a];rfl,m',by simp only[Aj];rw[AH x0,AH (by omega)];exact b⟩
 obtain⟨ha,m,hm⟩:=hy;exact key xs ys 1 1 m ha hl h (by omega) (by omega) hm
def N9{xs:List Int}(h:Aq xs)(h5:xs.length<=5):Am xs=true:=by obtain⟨ha,m,hm⟩:=h;exact Ex (n:=xs.length) rfl h5 m ha hm
def Fg(sh:List Int)(f:List Int->Nat->Int)(zs:List Int)(g:Nat->Int)(l:List Int):Nat->List Int
 |0=>l
 |k+1=>if BX sh (Cc sh f (BK zs k)) sh.length=true then(Fg sh f zs g l k).set (place sh (Cc sh f (BK zs k))).toNat (g k)else Fg sh f zs g l k
def Ln(sh:List Int)(f:List Int->Nat->Int)(zs:List Int)(g:Nat->Int)(l:List Int)(k:Nat):(Fg sh f zs g l k).length=l.length:=by
 induction k with
 |zero=>rfl
 |succ k ih=>
  simp only[Fg];split
  .rw[List.length_set,ih]
  .exact ih
def V0{sh:List Int}{f:List Int->Nat->Int}{zs:List Int}{g:Nat->Int}{l:List Int}{k j:Nat}(h:BX sh (Cc sh f (BK zs k)) sh.length=true)(hj:place sh (Cc sh f (BK zs k))=(j:Int)):(Fg sh f zs g l k).set j (g k)=Fg sh f zs g l (k+1):=by simp only[Fg];rw[AI h,hj];simp
def YV{sh:List Int}{f:List Int->Nat->Int}{zs:List Int}{g:Nat->Int}{l:List Int}{k:Nat}(h:BX sh (Cc sh f (BK zs k)) sh.length=false):Fg sh f zs g l k=Fg sh f zs g l (k+1):=by simp only[Fg];rw[AH (by simp[h])]
def Bw(dt dt':List Int)(n2 m2:Nat):Nat->Option Int
 |0=>some 0
 |k+1=>match Bw dt dt' n2 m2 k with
  |none=>none
  |some v=>if(Bo v (dt.getD (k % n2) 0)).2=true/\Dv ((Bo v (dt.getD (k % n2) 0)).1+dt'.getD (k % m2) 0)=true then some ((Bo v (dt.getD (k % n2) 0)).1+dt'.getD (k % m2) 0)else none
def Dw(c d:Bool)(n1 m1:Nat):Int:=if Ae c n1≠0 then Ae c n1 else Ae d m1
def Bu(n2 m2:Nat):Nat:=if m2=1 then n2 else m2
def Xc(r:Option Int):Ic:=match r with|some v=>⟨false,[],[v],0⟩|none=>AT 7
def C8(c d:Bool)(sh dt sh' dt':List Int):Ic:=if AJ c sh dt=true/\AJ d sh' dt'=true then
  if Dw c d sh.length sh'.length≠0 then AT (Dw c d sh.length sh'.length)
  else if dt.length≠1/\dt.length≠Bu dt.length dt'.length then AT 5
  else Xc (Bw dt dt' dt.length dt'.length (Bu dt.length dt'.length))
 else AT 3
def RA{c d:Bool}{sh dt sh' dt':List Int}(h:AJ c sh dt=false):C8 c d sh dt sh' dt'=AT 3:=by unfold C8;rw[AH (by simp[h])]
def Q9{c d:Bool}{sh dt sh' dt':List Int}(h:AJ d sh' dt'=false):C8 c d sh dt sh' dt'=AT 3:=by unfold C8;rw[AH (by simp[h])]
def LE{c d:Bool}{sh dt sh' dt':List Int}(h1:AJ c sh dt=true)(h2:AJ d sh' dt'=true)(r:Int)(h:Dw c d sh.length sh'.length=r)(hr:r≠0):C8 c d sh dt sh' dt'=AT r:=by unfold C8;rw[AI ⟨h1,h2⟩,h,AI hr]
def M3{c d:Bool}{sh dt sh' dt':List Int}(h1:AJ c sh dt=true)(h2:AJ d sh' dt'=true)(h:Dw c d sh.length sh'.length=0)(n2 m2:Nat)(l2:dt.length=n2)(l4:dt'.length=m2)(h3:n2≠1)(h4:n2≠Bu n2 m2):C8 c d sh dt sh' dt'=AT 5:=by unfold C8;rw[AI ⟨h1,h2⟩,AH (by simp[h]),l2,l4,AI ⟨h3,h4⟩]
def Ob{c d:Bool}{sh dt sh' dt':List Int}(h1:AJ c sh dt=true)(h2:AJ d sh' dt'=true)(h:Dw c d sh.length sh'.length=0)(n2 m2:Nat)(l2:dt.length=n2)(l4:dt'.length=m2)(h3:n2=1\/n2=Bu n2 m2):C8 c d sh dt sh' dt'=Xc (Bw dt dt' n2 m2 (Bu n2 m2)):=by unfold C8;rw[AI ⟨h1,h2⟩,AH (by simp[h]),l2,l4,AH (by omega)]
def Jt{dt dt':List Int}{n2 m2 k n:Nat}(h:Bw dt dt' n2 m2 k=none)(hk:k<=n):Bw dt dt' n2 m2 n=none:=by
 induction n with
 |zero=>
   have:k=0:=by omega
   subst this;exact h
 |succ n ih=>
  rcases Bz k (n+1)with h'|h'
  .rw[Bw,ih (by omega)]
  .have:k=n+1:=by omega
   subst this;exact h
def RB{dt dt':List Int}{n2 m2 k:Nat}{v r1:Int}{r2:Bool}(h:Bw dt dt' n2 m2 k=some v)(ht:Bo v (dt.getD (k % n2) 0)=(r1,r2)):Bw dt dt' n2 m2 (k+1)=if r2=true/\Dv (r1+dt'.getD (k % m2) 0)=true then some (r1+dt'.getD (k % m2) 0)else none:=by rw[Bw,h];simp only[ht]
def Pt{a b r1:Int}{r2:Bool}(h:Bo a b=(r1,r2)): -1000000000000000<=r1/\r1<=1000000000000000:=by
 unfold Bo at h;split at h
 .rename_i hi
  have:=IB hi;simp only[Prod.mk.injEq]at h;omega
 .simp only[Prod.mk.injEq]at h;omega
def Cm(dt:List Int)(b:Int):Nat->Int
 |0=>b
 |t+1=>if dt.getD (dt.length- 1- t) 0=0 then 0 else Cm dt b t / dt.getD (dt.length- 1- t) 0
def Cd(dt:List Int)(b:Int)(i:Nat):Int:=Bk (dt.getD i 0) (Cm dt b (dt.length- 1- i))
def IY(dt dt':List Int)(m j t q:Nat):Int:=if q % m<j\/(q % m=j/\dt.length- t<=q / m)then Cd dt (dt'.getD (q % m) 0) (q / m)else 0
def Ed(dt dt':List Int)(m j t:Nat):List Int:=(List.range (dt.length*m)).map (IY dt dt' m j t)
def GT(dt dt':List Int)(m:Nat):List Int:=(List.range (dt.length*m)).map fun q=>Cd dt (dt'.getD (q % m) 0) (q / m)
def Sd(dt dt':List Int)(m j t:Nat):(Ed dt dt' m j t).length=dt.length*m:=by simp[Ed]
def EK{n:Nat}{f g:Nat->Int}(h:∀q,q<n->f q=g q):(List.range n).map f=(List.range n).map g:=EL fun q hq=>h q (by simpa using hq)
def Lq(n k:Nat)(f:Nat->Int)(x:Int):((List.range n).map f).set k x=(List.range n).map fun i=>if i=k then x else f i:=by
 apply List.ext_getElem
 .simp
 .intro i h1 h2;simp only[List.getElem_set,List.getElem_map,List.getElem_range];by_cases e:k=i
  .subst e;simp
  .rw[AH e,AH (fun h=>e h.symm)]
def Qy(dt dt':List Int)(m:Nat):Ed dt dt' m 0 0=List.replicate (dt.length*m) 0:=by
 have e:List.replicate (dt.length*m) (0:Int)=(List.range (dt.length*m)).map fun _=>0:=by rw[List.map_const'];simp
 rw[e];refine EK fun q hq=> ?_;unfold IY;rw[AH];rintro(h|⟨_,h⟩)
 .omega
 .have:=Nat.div_lt_of_lt_mul (show q<m*dt.length by rw[Nat.mul_comm];exact hq);omega
def QJ{n m i j:Nat}(hi:i<n)(hj:j<m):i*m+j<n*m:=by have:(i+1)*m<=n*m:=Nat.mul_le_mul_right m hi;rw[Nat.add_mul,Nat.one_mul]at this;omega
def RQ{m i j:Nat}(hj:j<m):(i*m+j) / m=i/\(i*m+j) % m=j:=by
 have hm:0<m:=by omega
 exact⟨by rw[Et,Nat.add_mul_div_right _ _ hm,Nat.div_eq_of_lt hj,Cq],by rw[Et,Nat.add_mul_mod_self_right,Nat.mod_eq_of_lt hj]⟩
def Qz(dt dt':List Int){m j t:Nat}(hj:j<m)(ht:t<dt.length):(Ed dt dt' m j t).set ((dt.length- 1- t)*m+j) (Cd dt (dt'.getD j 0) (dt.length- 1- t))=Ed dt dt' m j (t+1):=by
 obtain⟨e1,e2⟩:=RQ (i:=dt.length- 1- t) hj;unfold Ed;rw[Lq];refine EK fun q _=> ?_;by_cases e:q=(dt.length- 1- t)*m+j
 .rw[AI e];unfold IY;rw[e,e1,e2,AI (.inr ⟨rfl,by omega⟩)]
 .rw[AH e];unfold IY;have hq:=Nat.div_add_mod q m;by_cases h:q % m<j\/(q % m=j/\dt.length- t<=q / m)
  .rw[AI h,AI (h.imp id fun h=>⟨h.1,by omega⟩)]
  .rw[AH h,AH];rintro(h'|⟨h1,h2⟩)
   .exact h (.inl h')
   .by_cases h3:dt.length- t<=q / m
    .exact h (.inr ⟨h1,h3⟩)
    .have h4:q / m=dt.length- 1- t:=by omega
     rw[h4,h1,Nat.mul_comm]at hq;exact e hq.symm
def Se(dt dt':List Int){m j:Nat}:Ed dt dt' m j dt.length=Ed dt dt' m (j+1) 0:=by
 refine EK fun q hq=> ?_;have hlt:=Nat.div_lt_of_lt_mul (show q<m*dt.length by rw[Nat.mul_comm];exact hq);unfold IY;generalize q / m=x at*;generalize q % m=y at*;by_cases h:y<j+1
 .rw[AI (by omega),AI (.inl h)]
 .rw[AH (by omega),AH (by omega)]
def Sf(dt dt':List Int)(m:Nat):Ed dt dt' m m 0=GT dt dt' m:=by
 refine EK fun q hq=> ?_;have hm:0<m:=by
  rcases Nat.eq_zero_or_pos m with h|h
  .subst h;simp at hq
  .exact h
 unfold IY;rw[AI (.inl (Nat.mod_lt _ hm))]
def Gx{dt:List Int}{b:Int}(hd:∀k,k<dt.length->0<=dt.getD k 0)(hb: -1000000000000000<=b/\b<=1000000000000000)(t:Nat)(ht:t<=dt.length): -1000000000000000<=Cm dt b t/\Cm dt b t<=1000000000000000:=by
 induction t with
 |zero=>exact hb
 |succ t ih=>
  have h:=ih (by omega);have ha:=hd (dt.length- 1- t) (by omega);unfold Cm;split
  .omega
  .rename_i h0
   generalize dt.getD (dt.length- 1- t) 0=a at*;generalize Cm dt b t=x at*;have hpos:0<a:=by omega
   constructor
   .exact(Int.le_ediv_iff_mul_le hpos).2 (by
     have: -1000000000000000*a≤-1000000000000000*1:=by omega
     omega)
   .by_cases hx:0<=x
    .exact Int.le_trans (Int.ediv_le_self _ hx) h.2
    .have:=Int.ediv_neg_of_neg_of_pos (show x<0 by omega) hpos;omega
def OQ{dt:List Int}(h:dt.all BE=true){q:Nat}(hq:q<dt.length):0<=dt.getD q 0:=by
 have hm:dt.getD q 0∈dt:=by simp[List.getD,hq]
 have h2:=A7.1 h _ hm;unfold BE at h2;exact BB h2
def M1{x a:Int}(ha:0<a):(x- Bk a x).tdiv a=x / a:=by
 have hm:Bk a x=x % a:=by
  unfold Bk;rw[AH (by omega)];have h1:=Int.tmod_lt_of_pos x ha;have h2: -a<x.tmod a:=Int.lt_tmod_of_pos x ha;have h3:=Int.mul_tdiv_add_tmod x a;split
  .rename_i h
   have h4:x.tmod a<0:=by
    by_cases h4:x.tmod a<0
    .exact h4
    .exfalso;apply h.2;rw[AK h4,AK (by omega)]
   have:=(Int.ediv_emod_unique (a:=x) (r:=x.tmod a+a) (q:=x.tdiv a- 1) ha).2 ⟨by rw[Int.mul_sub,Int.mul_one];omega,by omega,by omega⟩;exact this.2.symm
  .rename_i h
   have h4:¬ x.tmod a<0:=by intro h4;apply h;refine⟨by omega,?_⟩;rw[AL h4,AK (by omega)];simp
   have:=(Int.ediv_emod_unique (a:=x) (r:=x.tmod a) (q:=x.tdiv a) ha).2 ⟨by omega,by omega,by omega⟩;exact this.2.symm
 rw[hm];have h:=Int.mul_ediv_add_emod x a;have e:x- x % a=a*(x / a):=by omega
 rw[e,Int.mul_tdiv_cancel_left _ (by omega)]
def Nn{dt:List Int}{b:Int}{k:Nat}(hk:k<dt.length):Cd dt b (dt.length- 1- k)=Bk (dt.getD (dt.length- 1- k) 0) (Cm dt b k):=by unfold Cd;rw[show dt.length- 1- (dt.length- 1- k)=k by omega]
def PU{dt:List Int}{b:Int}{k:Nat}(ha:0<=dt.getD (dt.length- 1- k) 0):Cm dt b (k+1)=(Cm dt b k- Bk (dt.getD (dt.length- 1- k) 0) (Cm dt b k)).tdiv (if dt.getD (dt.length- 1- k) 0<1 then 1 else dt.getD (dt.length- 1- k) 0):=by
 rw[Cm];generalize dt.getD (dt.length- 1- k) 0=a at*;generalize Cm dt b k=x;by_cases h:a=0
 .subst h;simp[Bk]
 .rw[AH h,AH (by omega),M1 (by omega)]
def Ll(dt:List Int)(b:Int)(k:Nat):List Int:=(List.range dt.length).map fun i=>if dt.length- k<=i then Cd dt b i else 0
def M2(dt:List Int)(b:Int)(k:Nat):(Ll dt b k).length=dt.length:=by simp[Ll]
def U3(dt:List Int)(b:Int):Ll dt b 0=List.replicate dt.length 0:=by
 have e:List.replicate dt.length (0:Int)=(List.range dt.length).map fun _=>0:=by rw[List.map_const'];simp
 rw[e];exact EK fun q hq=>by rw[AH (by omega)]
def U4(dt:List Int)(b:Int){k:Nat}(hk:k<dt.length):(Ll dt b k).set (dt.length- 1- k) (Cd dt b (dt.length- 1- k))=Ll dt b (k+1):=by
 unfold Ll;rw[Lq];refine EK fun q hq=> ?_;by_cases e:q=dt.length- 1- k
 .rw[AI e,AI (by omega),e]
 .rw[AH e];by_cases h:dt.length- k<=q
  .rw[AI h,AI (by omega)]
  .rw[AH h,AH (by omega)]
def Xa(dt:List Int)(b:Int):Ll dt b dt.length=(List.range dt.length).map (Cd dt b):=EK fun q _=>by rw[AI (by omega)]
def CW(c d:Bool)(sh dt sh' dt':List Int):Ic:=if AJ c sh dt=true/\AJ d sh' dt'=true then
  if Ae c sh.length≠0 then AT (Ae c sh.length)
  else if dt.all BE=false then AT 3
  else if d=true then AT 3
  else if Am (sh++sh')=false then AT 7
  else⟨false,sh++sh',GT dt dt' dt'.length,0⟩
 else AT 3
section
variable {c d:Bool}{sh dt sh' dt':List Int}
def LB(h:AJ c sh dt=false):CW c d sh dt sh' dt'=AT 3:=by unfold CW;rw[AH (by simp[h])]
def LA(h:AJ d sh' dt'=false):CW c d sh dt sh' dt'=AT 3:=by unfold CW;rw[AH (by simp[h])]
def K8(h1:AJ c sh dt=true)(h2:AJ d sh' dt'=true)(r:Int)(h:Ae c sh.length=r)(hr:r≠0):CW c d sh dt sh' dt'=AT r:=by unfold CW;rw[AI ⟨h1,h2⟩,h,AI hr]
def Mu(h1:AJ c sh dt=true)(h2:AJ d sh' dt'=true)(h:Ae c sh.length=0)(hn:dt.all BE=false):CW c d sh dt sh' dt'=AT 3:=by unfold CW;rw[AI ⟨h1,h2⟩,AH (by simp[h]),AI hn]
def K9(h1:AJ c sh dt=true)(h2:AJ true sh' dt'=true)(h:Ae c sh.length=0)(hn:dt.all BE=true):CW c true sh dt sh' dt'=AT 3:=by unfold CW;rw[AI ⟨h1,h2⟩,AH (by simp[h]),AH (by simp[hn]),AI rfl]
def Mv(h1:AJ c sh dt=true)(h2:AJ false sh' dt'=true)(h:Ae c sh.length=0)(hn:dt.all BE=true)(hs:Am (sh++sh')=false):CW c false sh dt sh' dt'=AT 7:=by unfold CW;rw[AI ⟨h1,h2⟩,AH (by simp[h]),AH (by simp[hn]),AH (by simp),AI hs]
def OY(h1:AJ c sh dt=true)(h2:AJ false sh' dt'=true)(h:Ae c sh.length=0)(hn:dt.all BE=true)(hs:Am (sh++sh')=true):CW c false sh dt sh' dt'=⟨false,sh++sh',GT dt dt' dt'.length,0⟩:=by unfold CW;rw[AI ⟨h1,h2⟩,AH (by simp[h]),AH (by simp[hn]),AH (by simp),AH (by simp[hs])]
end
section
open Go.Maps
def Hn(zs:List Int)(x:Int):Nat->Int
 |0=>0
 |k+1=>if zs.getD (zs.length- 1- k) 0=x then((zs.length- 1- k:Nat):Int)+1 else Hn zs x k
def Ou(zs:List Int)(x:Int)(k:Nat)(hk:k<=zs.length):(∃j,zs.length- k<=j/\j<zs.length/\zs.getD j 0=x/\(∀i,zs.length- k<=i->i<j->zs.getD i 0≠x)/\Hn zs x k=(j:Int)+1)\/((∀i,zs.length- k<=i->i<zs.length->zs.getD i 0≠x)/\Hn zs x k=0):=by
 induction k with
 |zero=>exact .inr ⟨fun i h1 h2=>by omega,rfl⟩
 |succ k ih=>
  unfold Hn;by_cases h:zs.getD (zs.length- 1- k) 0=x
  .rw[AI h];exact .inl ⟨zs.length- 1- k,by omega,by omega,h,fun i h1 h2=>by omega,rfl⟩
  .rw[AH h];rcases ih (by omega)with⟨j,h1,h2,h3,h4,h5⟩|⟨h1,h2⟩
   .refine .inl ⟨j,by omega,h2,h3,fun i hi hj=> ?_,h5⟩;by_cases e:i=zs.length- 1- k
    .rw[e];exact h
    .exact h4 i (by omega) hj
   .refine .inr ⟨fun i hi hj=> ?_,h2⟩;by_cases e:i=zs.length- 1- k
    .rw[e];exact h
    .exact h1 i (by omega) hj
def Rp(zs:List Int)(x:Int):Hn zs x zs.length=if zs.findIdx (fun y=>decide (y=x))<zs.length then((zs.findIdx (fun y=>decide (y=x)):Nat):Int)+1 else 0:=by
 rcases Ou zs x zs.length AC with⟨j,_,h2,h3,h4,h5⟩|⟨h1,h2⟩
 .rw[Mq (fun i hi=>h4 i (by omega) hi) h2 h3,AI h2,h5]
 .rw[Mo (fun i hi=>h1 i (by omega) hi),AH (by omega),h2]
def Ep(zs:List Int):Nat->DataW Unit
 |0=>.map []
 |k+1=>(Ep zs k).put (.int .i64 (zs.getD (zs.length- 1- k) 0)) (.lit (.int .i64 (((zs.length- 1- k:Nat):Int)+1)))
def If(zs:List Int):∀k,IsMap (Ep zs k)
 |0=>isMap_empty
 |k+1=>(If zs k).put _ _
def MM(zs:List Int)(x:Int):∀k,(Ep zs k).atKey (.int .i64 x) (.lit (.int .i64 0))=.lit (.int .i64 (Hn zs x k))
 |0=>rfl
 |k+1=>by
  unfold Ep Hn;by_cases h:zs.getD (zs.length- 1- k) 0=x
  .rw[AI h,h,atKey_put_same (If zs k) (show WideAt.IsKeyLit (.int .i64 x)from trivial)]
  .rw[AH h,atKey_put_other (fun e=>h (by cases e;rfl)),MM zs x k]
end
def Ie(f:Nat->Int)(n k:Nat):List Int:=(List.range n).map fun i=>if i<k then f i else 0
def UF(f:Nat->Int)(n k:Nat):(Ie f n k).length=n:=by simp[Ie]
def Rl(f:Nat->Int)(n:Nat):Ie f n 0=List.replicate n 0:=by
 have e:List.replicate n (0:Int)=(List.range n).map fun _=>0:=by rw[List.map_const'];simp
 rw[e];exact EK fun q _=>by rw[AH (by omega)]
def Rm(f:Nat->Int)(n k:Nat):(Ie f n k).set k (f k)=Ie f n (k+1):=by
 unfold Ie;rw[Lq];refine EK fun q _=> ?_;by_cases e:q=k
 .rw[AI e,AI (by omega),e]
 .rw[AH e];by_cases h:q<k
  .rw[AI h,AI (by omega)]
  .rw[AH h,AH (by omega)]
def UG(f:Nat->Int)(n:Nat):Ie f n n=(List.range n).map f:=EK fun q hq=>by rw[AI hq]
def DM(c d:Bool)(dt':List Int)(x:Int):Int:=if c=d then Hn dt' x dt'.length else 0
def GZ(c d:Bool)(dt':List Int)(x:Int):DM c d dt' x=if CM d dt' x c<dt'.length then((CM d dt' x c:Nat):Int)+1 else 0:=by
 unfold DM CM;by_cases h:c=d
 .subst h;rw[AI rfl,AI rfl,Rp]
 .have h':¬ d=c:=fun e=>h e.symm;simp[h,h']
def IG(st D:List Int)(i:Nat):Int:=st.getD i 0+D.getD i 0
def U5{sh st D:List Int}(h:D.length=sh.length):Cc sh (IG st) D=Jw D st:=by unfold Cc Jw;rw[h];exact BG fun i _=>by unfold IG;omega
def Sr{c:Bool}{sh dt st zs:List Int}(h:zs.length=sh.length)(k:Nat):BP c sh dt (IG st) zs k=Em c sh dt st zs k:=by unfold BP Em;rw[U5 (by rw[De,h])]
def Xd{c:Bool}{sh dt st zs:List Int}(h:zs.length=sh.length)(N:Nat):Bg (BP c sh dt (IG st) zs) N=Bg (Em c sh dt st zs) N:=BG fun k _=>by rw[Sr h]
def Hm(k len:Int):Int:=if k<0 then len+k else 0
def J9(k _len:Int):Int:=Eg k
def IF(k _len:Int):Int:=if 0<k then k else 0
def PZ(k len:Int):Int:=if len- Eg k<0 then 0 else len- Eg k
def EW(F:Int->Int->Int)(ks bs:List Int)(n k:Nat):List Int:=(List.range n).map fun i=>if i<k then F (ks.getD i 0) (bs.getD i 0)else 0
def Gs(F:Int->Int->Int)(ks bs:List Int)(n k:Nat):(EW F ks bs n k).length=n:=by simp[EW]
def GH(F:Int->Int->Int)(ks bs:List Int)(n:Nat):EW F ks bs n 0=List.replicate n 0:=by
 have e:List.replicate n (0:Int)=(List.range n).map fun _=>0:=by rw[List.map_const'];simp
 rw[e];exact BG fun i _=>by rw[AH (by omega)]
def Gr(F:Int->Int->Int)(ks bs:List Int)(n k:Nat)(x:Int)(hx:F (ks.getD k 0) (bs.getD k 0)=x):(EW F ks bs n k).set k x=EW F ks bs n (k+1):=by
 unfold EW;rw[Dq];refine BG fun i _=> ?_;by_cases e:i=k
 .subst e;rw[AI rfl,AI (by omega),hx]
 .rw[AH e];by_cases h:i<k
  .rw[AI h,AI (by omega)]
  .rw[AH h,AH (by omega)]
def Cs(F:Int->Int->Int)(ks bs:List Int)(n:Nat):List Int:=(List.range n).map fun i=>F (ks.getD i 0) (bs.getD i 0)
def Gt(F:Int->Int->Int)(ks bs:List Int)(n:Nat):EW F ks bs n n=Cs F ks bs n:=BG fun i hi=>by rw[AI hi]
def Jd(F:Int->Int->Int)(ks bs:List Int)(n:Nat):(Cs F ks bs n).length=n:=by simp[Cs]
def Qa(F:Int->Int->Int)(ks bs:List Int)(n i:Nat)(hi:i<n):(Cs F ks bs n).getD i 0=F (ks.getD i 0) (bs.getD i 0):=EO _ _ _ hi
def YC(dt bs:List Int):Gn bs dt=Cs Hm dt bs dt.length:=rfl
def Ri(dt bs:List Int):FM dt=Cs J9 dt bs dt.length:=by
 apply List.ext_getElem
 .simp[FM,Cs]
 .intro i h1 h2;have hi:i<dt.length:=by simpa[FM]using h1
  simp[FM,Cs,J9,hi]
def XX(dt bs:List Int):Hb bs dt=Cs PZ dt bs dt.length:=rfl
def Yr(dt bs:List Int):Fa dt=Cs IF dt bs dt.length:=by
 apply List.ext_getElem
 .simp[Fa,Cs]
 .intro i h1 h2;have hi:i<dt.length:=by simpa[Fa]using h1
  simp[Fa,Cs,IF,hi]
