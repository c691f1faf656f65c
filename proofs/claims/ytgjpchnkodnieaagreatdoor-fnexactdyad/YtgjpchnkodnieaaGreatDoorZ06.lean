import Derived.Test.YtgjpchnkodnieaaGreatDoorZ03
set_option linter.defProp false
namespace Go.Proofs.YtgjpchnkodnieaaGreatDoor
open Tryz
def BO(sh ix:List Int):Nat->Int
 |0=>0
 |k+1=>BO sh ix k*sh.getD k 0+ix.getD k 0
def place(sh ix:List Int):Int:=BO sh ix sh.length
def GC(sh ix:List Int):Prop:=∀k,k<sh.length->0<=ix.getD k 0/\ix.getD k 0<sh.getD k 0
def GY{sh ix:List Int}(hi:GC sh ix)(k:Nat)(hk:k<=sh.length):0<=BO sh ix k/\BO sh ix k<AM (sh.take k):=by
 induction k with
 |zero=>simp[BO,AM]
 |succ k ih=>
  obtain⟨h1,h2⟩:=ih (by omega);obtain⟨h3,h4⟩:=hi k (by omega);rw[Fh sh k (by omega)];show 0<=BO sh ix k*sh.getD k 0+ix.getD k 0/\BO sh ix k*sh.getD k 0+ix.getD k 0<_;have h5:0<=BO sh ix k*sh.getD k 0:=Int.mul_nonneg h1 (by omega);have h6:(BO sh ix k+1)*sh.getD k 0<=AM (sh.take k)*sh.getD k 0:=Int.mul_le_mul_of_nonneg_right (by omega) (by omega);rw[Int.add_mul,Int.one_mul]at h6;omega
def Fp{sh ix:List Int}(hi:GC sh ix):0<=place sh ix/\place sh ix<AM sh:=by
 have:=GY hi sh.length AC
 rwa [List.take_length]at this
def Ci(sh:List Int)(p:Int):Nat->Int
 |0=>p
 |j+1=>Ci sh p j / sh.getD (sh.length- 1- j) 0
def Eu(sh:List Int)(p:Int)(i:Nat):Int:=Ci sh p (sh.length- 1- i) % sh.getD i 0
def BK(sh:List Int)(p:Int):List Int:=(List.range sh.length).map (Eu sh p)
def De(sh:List Int)(p:Int):(BK sh p).length=sh.length:=by simp[BK]
def I1(sh:List Int)(p:Int)(k:Nat)(hk:k<sh.length):(BK sh p).getD k 0=Eu sh p k:=by simp[BK,hk]
def F0(sh:List Int):Prop:=∀k,k<sh.length->0<sh.getD k 0
def P7{sh:List Int}(hf:F0 sh){p:Int}(hp:0<=p)(j:Nat)(hj:j<=sh.length):0<=Ci sh p j/\Ci sh p j<=p:=by
 induction j with
 |zero=>exact⟨hp,Int.le_refl _⟩
 |succ j ih=>
  obtain⟨h1,h2⟩:=ih (by omega);have hs:=hf (sh.length- 1- j) (by omega);show 0<=Ci sh p j / sh.getD (sh.length- 1- j) 0/\Ci sh p j / sh.getD (sh.length- 1- j) 0<=p;exact⟨Int.ediv_nonneg h1 (by omega),Int.le_trans (Int.ediv_le_self _ h1) h2⟩
def Ek{sh:List Int}(hf:F0 sh)(p:Int):GC sh (BK sh p):=by intro k hk;rw[I1 sh p k hk];have hs:=hf k hk;exact⟨Int.emod_nonneg _ (by omega),Int.emod_lt_of_pos _ hs⟩
def Vp{sh:List Int}(hf:F0 sh){p:Int}(hl:p<AM sh)(j:Nat)(hj:j<=sh.length):Ci sh p j<AM (sh.take (sh.length- j)):=by
 induction j with
 |zero=>simpa[Ci]using hl
 |succ j ih=>
  have h1:=ih (by omega);have hs:=hf (sh.length- 1- j) (by omega);have e:sh.length- j=sh.length- 1- j+1:=by omega
  rw[e,Fh sh _ (by omega)]at h1;have e2:sh.length- (j+1)=sh.length- 1- j:=by omega
  rw[e2];exact Int.ediv_lt_of_lt_mul hs h1
def KI{sh:List Int}(hf:F0 sh){p:Int}(hp:0<=p)(hl:p<AM sh)(k:Nat)(hk:k<=sh.length):BO sh (BK sh p) k=Ci sh p (sh.length- k):=by
 induction k with
 |zero=>
  have h1:=(P7 hf hp sh.length AC).1;have h2:=Vp hf hl sh.length AC;simp[AM]at h2;show(0:Int)=_;simp;omega
 |succ k ih=>
  have h1:=ih (by omega);show BO sh (BK sh p) k*sh.getD k 0+(BK sh p).getD k 0=_;rw[h1,I1 sh p k (by omega)];have e:sh.length- k=sh.length- (k+1)+1:=by omega
  have e2:sh.length- 1- (sh.length- (k+1))=k:=by omega
  have e3:sh.length- 1- k=sh.length- (k+1):=by omega
  rw[e];show Ci sh p (sh.length- (k+1)) / sh.getD (sh.length- 1- (sh.length- (k+1))) 0*sh.getD k 0+Eu sh p k=_;rw[e2];unfold Eu;rw[e3,Int.mul_comm];exact Int.mul_ediv_add_emod _ _
def Gq{sh:List Int}(hf:F0 sh){p:Int}(hp:0<=p)(hl:p<AM sh):place sh (BK sh p)=p:=by have:=KI hf hp hl sh.length AC;simpa[place,Ci]using this
def FI{sh:List Int}(h:Aq sh)(hp:0<AM sh):F0 sh:=by
 intro k hk;have h1:=(h.cell k).1;by_cases h0:sh.getD k 0=0
 .exfalso;have e:sh=sh.take k++sh.getD k 0::sh.drop (k+1):=by simp[List.getD,hk]
  have hz:AM sh=0:=by
   rw[e,Bi,h0];have:AM (0::sh.drop (k+1))=AM [0]*AM (sh.drop (k+1)):=by rw[<-Bi];rfl
   rw[this];simp[AM]
  omega
 .omega
def XY{D:List Int}{m:Nat}(hm:m<D.length):(List.replicate (m+1) (0:Int)++D.drop (m+1)).set m (D.getD m 0)=List.replicate m 0++D.drop m:=by
 have e:D.drop m=D.getD m 0::D.drop (m+1):=by simp[List.getD,hm]
 rw[e,List.replicate_succ',CY,DC _ _ (by simp)];simp
structure Ic where
 c:Bool
 sh:List Int
 dt:List Int
 code:Int
def Ay(f:Nat->Int×Int):Nat->Int
 |0=>0
 |n+1=>if Ay f n=0 then(f n).2 else Ay f n
def Bg(f:Nat->Int×Int)(n:Nat):List Int:=(List.range n).map fun i=>(f i).1
def I9(f:Nat->Int×Int)(n:Nat):(Bg f n).length=n:=by simp[Bg]
def J3(f:Nat->Int×Int)(n:Nat):(Bg f (n+1)).map (Value.int .i64)=(Bg f n).map (Value.int .i64)++ [.int .i64 (f n).1]:=by simp[Bg,List.range_succ]
def Ia{f:Nat->Int×Int}{n:Nat}(h:Ay f n=0)(h2:(f n).2=0):Ay f (n+1)=0:=by simp[Ay,h,h2]
def Ss{f:Nat->Int×Int}{n m:Nat}(h:Ay f n≠0)(hm:n<=m):Ay f m=Ay f n:=by
 induction m with
 |zero=>
   have:n=0:=by omega
   subst this;rfl
 |succ m ih=>
  rcases Bz n (m+1)with h'|h'
  .have:=ih (by omega);simp only[Ay];rw[this,AH h]
  .have:n=m+1:=by omega
   subst this;rfl
def ND{f:Nat->Int×Int}{k n:Nat}(h:Ay f k=0)(hk:k<n)(h2:(f k).2≠0):Ay f n=(f k).2:=by
 have e:Ay f (k+1)=(f k).2:=by simp[Ay,h]
 rw[Ss (n:=k+1) (by rw[e];exact h2) (by omega),e]
def AT(code:Int):Ic:=⟨false,[],[],code⟩
def Bc(c:Bool)(sh:List Int)(f:Nat->Int×Int)(n:Nat):Ic:=if Ay f n=0 then⟨c,sh,Bg f n,0⟩else AT (Ay f n)
def DY{c:Bool}{sh:List Int}{f:Nat->Int×Int}{n:Nat}(h:Ay f n=0):Bc c sh f n=⟨c,sh,Bg f n,0⟩:=by simp[Bc,h]
def SU{c:Bool}{sh:List Int}{f:Nat->Int×Int}{k n:Nat}(h:Ay f k=0)(hk:k<n)(h2:(f k).2≠0):Bc c sh f n=AT (f k).2:=by have e:=ND h hk h2;unfold Bc;rw[AH (by rw[e];exact h2),e]
def E9(op:Int)(c:Bool)(dt:List Int)(i:Nat)(d:Bool)(dt':List Int)(j:Nat):Int×Int:=if c≠d then(Bh (decide (op=10)),0)else BQ op (dt.getD i 0) (dt'.getD j 0)
def Gb(op:Int):Bool:=decide (1<=op/\op<=16)
def GA(op:Int):Bool:=decide (op=9\/op=10)
def Cb(n1 n2 m1 m2:Nat):Bool:=decide (n2=1)&&(decide (m2≠1)||decide (n1<m1))
def B8(op:Int)(c d:Bool)(sh dt sh' dt':List Int):Ic:=if AJ c sh dt=true/\AJ d sh' dt'=true/\Gb op=true then
  let wide:=Cb sh.length dt.length sh'.length dt'.length
  let tall:=decide (dt'.length=1)&&!wide
  if(!wide&&!tall)=true/\sh.length≠sh'.length then AT 4
  else if(!wide&&!tall)=true/\sh≠sh' then AT 5
  else if(c||d)=true/\GA op=false then AT 3
  else Bc false (if wide then sh' else sh) (fun i=>E9 op c dt (i % dt.length) d dt' (i % dt'.length)) (Ac (if wide then sh' else sh)).toNat
 else AT 3
def Ae(c:Bool)(n:Nat):Int:=if 1<n then 4 else if c then 3 else 0
def Ec(c:Bool):Int:=if c then 32 else 0
def Dp(d:Bool)(dt':List Int)(m2 k:Nat):Int×Int:=(if m2=0 then Ec d else dt'.getD (k % m2) 0,0)
def BE(v:Int):Bool:=decide (0<=v)
def Ca(c d:Bool)(sh dt sh' dt':List Int):Ic:=if AJ c sh dt=true/\AJ d sh' dt'=true then
  if Ae c sh.length≠0 then AT (Ae c sh.length)
  else if dt.all BE=false then AT 3
  else if Am dt=false then AT 7
  else Bc d dt (Dp d dt' dt'.length) (Ac dt).toNat
 else AT 3
def JR{c d:Bool}{sh dt sh' dt':List Int}(h:AJ c sh dt=false):Ca c d sh dt sh' dt'=AT 3:=by unfold Ca;rw[AH (by simp[h])]
def JQ{c d:Bool}{sh dt sh' dt':List Int}(h:AJ d sh' dt'=false):Ca c d sh dt sh' dt'=AT 3:=by unfold Ca;rw[AH (by simp[h])]
def JP{c d:Bool}{sh dt sh' dt':List Int}(h1:AJ c sh dt=true)(h2:AJ d sh' dt'=true)(r:Int)(h:Ae c sh.length=r)(hr:r≠0):Ca c d sh dt sh' dt'=AT r:=by unfold Ca;rw[AI ⟨h1,h2⟩,h,AI hr]
def Kn{c d:Bool}{sh dt sh' dt':List Int}(h1:AJ c sh dt=true)(h2:AJ d sh' dt'=true)(h:Ae c sh.length=0)(h3:dt.all BE=false):Ca c d sh dt sh' dt'=AT 3:=by unfold Ca;rw[AI ⟨h1,h2⟩,AH (by simp[h]),AI h3]
def Ko{c d:Bool}{sh dt sh' dt':List Int}(h1:AJ c sh dt=true)(h2:AJ d sh' dt'=true)(h:Ae c sh.length=0)(h3:dt.all BE=true)(h4:Am dt=false):Ca c d sh dt sh' dt'=AT 7:=by unfold Ca;rw[AI ⟨h1,h2⟩,AH (by simp[h]),AH (by simp[h3]),AI h4]
def ME{c d:Bool}{sh dt sh' dt':List Int}(h1:AJ c sh dt=true)(h2:AJ d sh' dt'=true)(h:Ae c sh.length=0)(h3:dt.all BE=true)(h4:Am dt=true)(m2 N:Nat)(l4:dt'.length=m2)(hN:Ac dt=N):Ca c d sh dt sh' dt'=Bc d dt (Dp d dt' m2) N:=by unfold Ca;rw[AI ⟨h1,h2⟩,AH (by simp[h]),AH (by simp[h3]),AH (by simp[h4]),l4,hN];rfl
def CS{sh:List Int}(h:Am sh=true):0<=Ac sh/\Ac sh<=10000:=by unfold Am at h;simp only[Ah,BC]at h;exact⟨h.2,(FV sh).2⟩
def Jw(ix st:List Int):List Int:=(List.range ix.length).map fun i=>ix.getD i 0+st.getD i 0
def VD(ix st:List Int):(Jw ix st).length=ix.length:=by simp[Jw]
def VE(ix st:List Int)(k:Nat)(hk:k<ix.length):(Jw ix st).getD k 0=ix.getD k 0+st.getD k 0:=by simp[Jw,hk]
def BX(sh ix:List Int):Nat->Bool
 |0=>true
 |k+1=>BX sh ix k&&(decide (0<=ix.getD k 0)&&decide (ix.getD k 0<sh.getD k 0))
def H9{sh ix:List Int}{n:Nat}(h:BX sh ix n=true)(k:Nat)(hk:k<n):0<=ix.getD k 0/\ix.getD k 0<sh.getD k 0:=by
 induction n with
 |zero=>omega
 |succ n ih=>
  simp only[BX,Ah,BC]at h;by_cases e:k=n
  .subst e;exact h.2
  .exact ih h.1 (by omega)
def KO{sh ix:List Int}(h:BX sh ix sh.length=true):GC sh ix:=fun k hk=>H9 h k hk
def Em(c:Bool)(sh dt st zs:List Int)(k:Nat):Int×Int:=if BX sh (Jw (BK zs k) st) sh.length=true then(dt.getD (place sh (Jw (BK zs k) st)).toNat 0,0)else(Ec c,0)
def PA{A D:List Int}{k:Nat}(hl:A.length=D.length)(hk:k<D.length):(A.take k++D.drop k).set k (A.getD k 0)=A.take (k+1)++D.drop (k+1):=by
 have e:D.drop k=D.getD k 0::D.drop (k+1):=by simp[List.getD,hk]
 have e2:A.take (k+1)=A.take k++ [A.getD k 0]:=C3 A k (by omega);rw[e,e2,CY,DC _ _ (by simp;omega)];have e3:k- (A.take k).length=0:=by simp;omega
 rw[e3];rfl
def Ya{A D:List Int}{k:Nat}(hl:A.length=D.length)(hk:k<D.length):(A.take k++D.drop k).getD k 0=D.getD k 0:=by
 have e3:min k A.length=k:=by omega
 simp[List.getD,List.getElem?_append,e3]
def YZ{A D:List Int}{k:Nat}(hk:k<A.length):(A.take (k+1)++D.drop (k+1)).getD k 0=A.getD k 0:=by
 have e:k<min (k+1) A.length:=by omega
 simp[List.getD,List.getElem?_append,e,hk]
def PB{A D:List Int}{k:Nat}(hl:A.length=D.length)(hk:k<=D.length):(A.take k++D.drop k).length=D.length:=by simp;omega
def DE{sh:List Int}(h:Am sh=true):Aq sh/\sh.length<=5:=by
 unfold Am at h;simp only[Ah,BC]at h;refine⟨?_,h.1⟩;have h2:=h.2;unfold Ac at h2;split at h2
 .rename_i ha
  split at h2
  .omega
  .rename_i m hm;exact⟨ha,m,hm⟩
 .omega
def CO(sh:List Int)(first:Bool):Nat:=if first then 0 else sh.length- 1
def GL(sh:List Int)(first:Bool):Int:=AM (sh.take (CO sh first))
def EP(sh:List Int)(first:Bool):Int:=sh.getD (CO sh first) 0
def Ev(sh:List Int)(first:Bool):Int:=AM (sh.drop (CO sh first+1))
def Cx(sh:List Int)(first:Bool):List Int:=if first then sh.drop 1 else sh.take (sh.length- 1)
def RN(sh:List Int)(first:Bool)(h:sh≠ []):GL sh first*EP sh first*Ev sh first=AM sh:=by
 have hl:0<sh.length:=CF.mpr h;have hat:CO sh first<sh.length:=by unfold CO;split<;>omega
 have e:sh=sh.take (CO sh first)++([sh.getD (CO sh first) 0]++sh.drop (CO sh first+1)):=by have h1:=Cf (CO sh first+1) sh;rw[C3 sh _ hat,CY]at h1;exact h1.symm
 have e1:AM [sh.getD (CO sh first) 0]=sh.getD (CO sh first) 0:=by simp[AM]
 have e2:=Gi AM e;rw[Bi,Bi,e1,<-Int.mul_assoc]at e2;exact e2.symm
def VS(f:Nat->Int×Int)(m k:Nat):(Bg f k++List.replicate (m+1) (0:Int)).set k (f k).1=Bg f (k+1)++List.replicate m 0:=by have hk:(Bg f k).length=k:=I9 f k;rw[List.replicate_succ,DC _ _ (by omega),hk,Nat.sub_self,List.set_cons_zero];simp[Bg,List.range_succ]
def CM(c:Bool)(dt:List Int)(v:Int)(ch:Bool):Nat:=if c=ch then dt.findIdx (fun x=>decide (x=v))else dt.length
def Mq{dt:List Int}{v:Int}{k:Nat}(h:∀j,j<k->dt.getD j 0≠v)(hk:k<dt.length)(he:dt.getD k 0=v):dt.findIdx (fun x=>decide (x=v))=k:=by
 rw[List.findIdx_eq hk];have hg:dt[k]=dt.getD k 0:=by simp[List.getD,hk]
 refine⟨by rw[hg];simpa using he,fun j hj=> ?_⟩;have hj':dt[j]'(by omega)=dt.getD j 0:=by simp[List.getD,Nat.lt_trans hj hk]
 rw[hj'];simpa using h j hj
def Mo{dt:List Int}{v:Int}(h:∀j,j<dt.length->dt.getD j 0≠v):dt.findIdx (fun x=>decide (x=v))=dt.length:=by
 rw[List.findIdx_eq_length];intro x hx;obtain⟨j,hj,rfl⟩:=List.getElem_of_mem hx;have hj':dt[j]=dt.getD j 0:=by simp[List.getD,hj]
 rw[hj'];simpa using h j hj
def Qv(c:Bool)(dt:List Int)(v:Int)(ch:Bool):CM c dt v ch<=dt.length:=by
 unfold CM;split
 .exact List.findIdx_le_length
 .exact AC
def FU(c d:Bool)(sh dt sh' dt':List Int):Ic:=if AJ c sh dt=true/\AJ d sh' dt'=true then
  if sh.length≠1 then AT 4 else Bc false sh' (fun k=>((CM c dt (dt'.getD k 0) d:Int)+1,0)) dt'.length
 else AT 3
def Cz(c d:Bool)(sh dt sh' dt':List Int):Ic:=if AJ c sh dt=true/\AJ d sh' dt'=true then Bc false sh (fun k=>(Bh (decide (CM d dt' (dt.getD k 0) c<dt'.length)),0)) dt.length else AT 3
