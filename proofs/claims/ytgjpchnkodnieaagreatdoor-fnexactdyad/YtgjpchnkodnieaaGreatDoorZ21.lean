import Derived.Test.YtgjpchnkodnieaaGreatDoorZ11
set_option linter.defProp false
namespace Go.Proofs.YtgjpchnkodnieaaGreatDoor
open Tryz
def DS(dt:List Int)(i:Nat):Nat:=(dt.getD i 0- 1).toNat
def EI(dt:List Int)(r:Nat):Nat->List Bool
 |0=>List.replicate r false
 |i+1=>(EI dt r i).set (DS dt i) true
def CZ(dt sh:List Int)(r:Nat):Nat->List Int
 |0=>List.replicate r 0
 |i+1=>(CZ dt sh r i).set (DS dt i) (sh.getD i 0)
def EU(dt:List Int)(r i:Nat):Bool:=decide (1<=dt.getD i 0/\dt.getD i 0<=r)&&!(EI dt r i).getD (DS dt i) false
def Bd(dt:List Int)(r:Nat):Nat->Bool
 |0=>true
 |i+1=>Bd dt r i&&EU dt r i
def IS(dt:List Int)(r i:Nat):(EI dt r i).length=r:=by
 induction i with
 |zero=>simp[EI]
 |succ i ih=>simp[EI,ih]
def Do(dt sh:List Int)(r i:Nat):(CZ dt sh r i).length=r:=by
 induction i with
 |zero=>simp[CZ]
 |succ i ih=>simp[CZ,ih]
def Gu{dt:List Int}{r m i:Nat}(h:Bd dt r m=true)(hi:i<=m):Bd dt r i=true:=by
 induction m with
 |zero=>
   have:i=0:=by omega
   subst this;exact h
 |succ m ih=>
  simp only[Bd,Ah]at h;by_cases e:i=m+1
  .subst e;simp only[Bd,Ah];exact h
  .exact ih h.1 (by omega)
def Da{dt:List Int}{r m i:Nat}(h:Bd dt r m=true)(hi:i<m):EU dt r i=true:=by have:=Gu h (by omega:i+1<=m);simp only[Bd,Ah]at this;exact this.2
def Fl{dt:List Int}{r i:Nat}(h:EU dt r i=true):DS dt i<r:=by unfold EU at h;simp only[Ah,BC]at h;unfold DS;omega
def Is{dt:List Int}{r i:Nat}(h:EU dt r i=true):(EI dt r i).getD (DS dt i) false=false:=by unfold EU at h;simp only[Ah,Bool.not_eq_true']at h;exact h.2
def Qt{α:Type}(l:List α)(k j:Nat)(x d:α)(hk:k<l.length):(l.set k x).getD j d=if j=k then x else l.getD j d:=by
 by_cases e:j=k
 .subst e;simp[List.getD,hk]
 .rw[AH e];simp[List.getD,List.getElem?_set_ne (Ne.symm e)]
def Oj{dt sh:List Int}{r m:Nat}(h:Bd dt r m=true):∀i,i<m->(CZ dt sh r m).getD (DS dt i) 0=sh.getD i 0/\(EI dt r m).getD (DS dt i) false=true:=by
 induction m with
 |zero=>intro i hi;omega
 |succ m ih=>
  intro i hi;have h1:=Gu h (by omega:m<=m+1);have h2:=Da h (by omega:m<m+1);have hl:=Fl h2;simp only[CZ,EI];rw[Qt _ _ _ _ _ (by rw[Do];exact hl),Qt _ _ _ _ _ (by rw[IS];exact hl)];by_cases e:i=m
  .subst e;simp
  .obtain⟨a,b⟩:=ih h1 i (by omega);have hne:DS dt i≠DS dt m:=fun e=>by rw[e,Is h2]at b;cases b
   rw[AH hne,AH hne];exact⟨a,b⟩
def U6(l:List Bool)(k:Nat)(hk:k<l.length)(h:l.getD k false=false):(l.set k true).count true=l.count true+1:=by
 induction l generalizing k with
 |nil=>simp at hk
 |cons x r ih=>
  cases k with
  |zero=>
   have:x=false:=by simpa using h
   subst this;simp
  |succ k=>
   have:=ih k (by simpa using hk) (by simpa using h);simp only[List.set_cons_succ,List.count_cons,this];omega
def Ro{dt:List Int}{r m:Nat}(h:Bd dt r m=true):(EI dt r m).count true=m:=by
 induction m with
 |zero=>simp[EI,List.count_replicate]
 |succ m ih=>
  have h1:=Gu h (by omega:m<=m+1);have h2:=Da h (by omega:m<m+1);simp only[EI];rw[U6 _ _ (by rw[IS];exact Fl h2) (Is h2),ih h1]
def OA{dt:List Int}{r m k:Nat}(h:(EI dt r m).getD k false=true):∃i,i<m/\DS dt i=k:=by
 induction m with
 |zero=>simp[EI,List.getD,List.getElem?_replicate]at h;split at h<;>simp at h
 |succ m ih=>
  simp only[EI]at h;by_cases e:DS dt m=k
  .exact⟨m,by omega,e⟩
  .have:((EI dt r m).set (DS dt m) true).getD k false=(EI dt r m).getD k false:=by simp[List.getD,List.getElem?_set_ne e]
   rw[this]at h;obtain⟨i,hi,he⟩:=ih h;exact⟨i,by omega,he⟩
def VC{dt:List Int}{r k:Nat}(h:Bd dt r r=true)(hk:k<r):∃i,i<r/\DS dt i=k:=by
 apply OA (r:=r);have hc:=Ro h;have hl:=IS dt r r;have hall:=List.count_eq_length.mp (hc.trans hl.symm);have hm:(EI dt r r).getD k false∈EI dt r r:=by simp[List.getD,hl,hk]
 exact(hall _ hm).symm
def Fb(dt D:List Int)(r:Nat):List Int:=(List.range r).map fun i=>D.getD (DS dt i) 0
def S6(dt D:List Int)(r:Nat):(Fb dt D r).length=r:=by simp[Fb]
def NI(dt D:List Int)(r i:Nat)(hi:i<r):(Fb dt D r).getD i 0=D.getD (DS dt i) 0:=by simp[Fb,hi]
def Tx{dt sh D:List Int}{r:Nat}(h:Bd dt r r=true)(hl:sh.length=r)(hD:GC (CZ dt sh r r) D):GC sh (Fb dt D r):=by intro i hi;rw[hl]at hi;rw[NI _ _ _ _ hi];have:=hD (DS dt i) (by rw[Do];exact Fl (Da h hi));rw[(Oj h i hi).1]at this;exact this
def N0{dt sh:List Int}{r:Nat}(h:Bd dt r r=true){k:Nat}(hk:k<r):∃i,i<r/\(CZ dt sh r r).getD k 0=sh.getD i 0:=by obtain⟨i,hi,he⟩:=VC h hk;exact⟨i,hi,by rw[<-he];exact(Oj h i hi).1⟩
def Nz{dt sh:List Int}{r:Nat}(h:Bd dt r r=true)(hl:sh.length=r)(hf:F0 sh):F0 (CZ dt sh r r):=by intro k hk;rw[Do]at hk;obtain⟨i,hi,he⟩:=N0 (sh:=sh) h hk;rw[he];exact hf i (by rw[hl];exact hi)
def YB{dt sh:List Int}{r:Nat}(h:Bd dt r r=true)(hs:∀k,sh.getD k 0<=10000)(k:Nat):(CZ dt sh r r).getD k 0<=10000:=by
 by_cases hk:k<r
 .obtain⟨i,_,he⟩:=N0 (sh:=sh) h hk;rw[he];exact hs i
 .have:(CZ dt sh r r).getD k 0=0:=by simp[List.getD,List.getElem?_eq_none (by rw[Do];omega:(CZ dt sh r r).length<=k)]
  omega
def IQ(dt sh' dt':List Int)(k:Nat):Int×Int:=(dt'.getD (place sh' (Fb dt (BK (CZ dt sh' sh'.length sh'.length) k) sh'.length)).toNat 0,0)
def BZ(c d:Bool)(sh dt sh' dt':List Int):Ic:=if AJ c sh dt=true/\AJ d sh' dt'=true then
  if Ae c sh.length≠0 then AT (Ae c sh.length)
  else if dt.length≠sh'.length then AT 5
  else if Bd dt sh'.length sh'.length=false then AT 3
  else⟨d,CZ dt sh' sh'.length sh'.length,Bg (IQ dt sh' dt') dt'.length,0⟩
 else AT 3
section
variable {c d:Bool}{sh dt sh' dt':List Int}
def Hk(h:AJ c sh dt=false):BZ c d sh dt sh' dt'=AT 3:=by unfold BZ;rw[AH (by simp[h])]
def Hj(h:AJ d sh' dt'=false):BZ c d sh dt sh' dt'=AT 3:=by unfold BZ;rw[AH (by simp[h])]
def Hi(h1:AJ c sh dt=true)(h2:AJ d sh' dt'=true)(r:Int)(h:Ae c sh.length=r)(hr:r≠0):BZ c d sh dt sh' dt'=AT r:=by unfold BZ;rw[AI ⟨h1,h2⟩,h,AI hr]
def Id(h1:AJ c sh dt=true)(h2:AJ d sh' dt'=true)(h:Ae c sh.length=0)(hl:dt.length≠sh'.length):BZ c d sh dt sh' dt'=AT 5:=by unfold BZ;rw[AI ⟨h1,h2⟩,AH (by simp[h]),AI hl]
def FF(h1:AJ c sh dt=true)(h2:AJ d sh' dt'=true)(h:Ae c sh.length=0)(hl:dt.length=sh'.length)(ho:Bd dt sh'.length sh'.length=false):BZ c d sh dt sh' dt'=AT 3:=by unfold BZ;rw[AI ⟨h1,h2⟩,AH (by simp[h]),AH (by simp[hl]),AI ho]
def JD(h1:AJ c sh dt=true)(h2:AJ d sh' dt'=true)(h:Ae c sh.length=0)(hl:dt.length=sh'.length)(ho:Bd dt sh'.length sh'.length=true):BZ c d sh dt sh' dt'=⟨d,CZ dt sh' sh'.length sh'.length,Bg (IQ dt sh' dt') dt'.length,0⟩:=by unfold BZ;rw[AI ⟨h1,h2⟩,AH (by simp[h]),AH (by simp[hl]),AH (by simp[ho])]
end
def KK{dt:List Int}{r i:Nat}(hi:i<r)(h:EU dt r i=false):Bd dt r r=false:=by
 cases e:Bd dt r r with
 |false=>rfl
 |true=>rw[Da e hi]at h;cases h
def Lw(L:Nat):List Int:=(List.range L).map fun(i:Nat)=>(i:Int)+1
def VU(L:Nat):(Lw L).length=L:=by simp[Lw]
def VV{L i:Nat}(h:i<L):(Lw L).getD i 0=(i:Int)+1:=by simp[Lw,h]
def CG(zs:List Int):List Int:=zs.mergeSort fun x y=>decide (x<=y)
def EB(zs:List Int):(CG zs).Perm zs:=List.mergeSort_perm zs _
def GF(zs:List Int):(CG zs).length=zs.length:=(EB zs).length_eq
def Rk(zs:List Int):(CG zs).Pairwise (fun x y=>x<=y):=by have h:=List.pairwise_mergeSort (le:=fun x y:Int=>decide (x<=y)) (fun a b c h1 h2=>by simp at*;omega) (fun a b=>by simp;omega) zs;exact h.imp fun h=>by simpa using h
def D8(zs:List Int):Nat->Bool
 |0=>true
 |k+1=>D8 zs k&&decide (zs.getD k 0=(k:Int)+1)
def KP{zs:List Int}{n:Nat}(h:D8 zs n=true):∀k,k<n->zs.getD k 0=(k:Int)+1:=by
 induction n with
 |zero=>intro k hk;omega
 |succ n ih=>
  simp only[D8,Ah,BC]at h;intro k hk;by_cases e:k=n
  .subst e;exact h.2
  .exact ih h.1 k (by omega)
def Ui{zs:List Int}{n:Nat}(h:∀k,k<n->zs.getD k 0=(k:Int)+1):D8 zs n=true:=by
 induction n with
 |zero=>rfl
 |succ n ih=>
  simp only[D8,Ah,BC];exact⟨ih fun k hk=>h k (by omega),h n (by omega)⟩
def SM{zs:List Int}{n k:Nat}(hk:k<n)(h:zs.getD k 0≠(k:Int)+1):D8 zs n=false:=by
 cases e:D8 zs n with
 |false=>rfl
 |true=>exact absurd (KP e k hk) h
def Dc(zs:List Int)(k:Nat)(h:k<zs.length):zs.getD k 0=zs[k]:=by simp[List.getD,h]
def Hw{dt:List Int}{r:Nat}(h:Bd dt r r=true)(i:Nat)(hi:i<r):1<=dt.getD i 0/\dt.getD i 0<=r:=by have:=Da h hi;unfold EU at this;simp only[Ah,BC]at this;exact this.1
def QO{dt:List Int}{r:Nat}(h:Bd dt r r=true)(hl:dt.length=r):dt.Nodup:=by
 refine List.pairwise_iff_getElem.2 fun i j hi hj hij he=> ?_;have hs:=Da h (show j<r by omega);have hn:=Is hs;have ht:=(Oj (sh:= []) (Gu h (show j<=r by omega)) i hij).2;have:DS dt i=DS dt j:=by unfold DS;rw[Dc dt i hi,Dc dt j hj,he]
 rw[this,hn]at ht;cases ht
def T6{s:List Int}(h1:s.Pairwise (fun x y=>x<=y))(h2:s.Nodup)(k:Nat)(hk:k+1<s.length):s.getD k 0<s.getD (k+1) 0:=by rw[Dc s k (by omega),Dc s (k+1) hk];have a:=List.pairwise_iff_getElem.1 h1 k (k+1) (by omega) hk (by omega);have b:=List.pairwise_iff_getElem.1 h2 k (k+1) (by omega) hk (by omega);omega
def JY{dt:List Int}{r:Nat}(h:Bd dt r r=true)(hl:dt.length=r):D8 (CG dt) r=true:=by
 have hsl:(CG dt).length=r:=by rw[GF,hl]
 have hnd:(CG dt).Nodup:=(EB dt).nodup_iff.2 (QO h hl);have hst:=T6 (Rk dt) hnd;have hmem:∀k,k<r->1<=(CG dt).getD k 0/\(CG dt).getD k 0<=r:=fun k hk=>by rw[Dc _ k (by omega)];have hm:(CG dt)[k]'(by omega)∈dt:=(EB dt).mem_iff.1 (DV _);obtain⟨i,hi,he⟩:=List.getElem_of_mem hm;have:=Hw h i (by omega);rw[Dc dt i hi,he]at this;exact this
 have Ck:∀k,k<r->(k:Int)+1<=(CG dt).getD k 0:=by
  intro k;induction k with
  |zero=>intro hk;have:=hmem 0 hk;omega
  |succ k ih=>intro hk;have:=ih (by omega);have:=hst k (by omega);omega
 have hup:∀d k,k+d+1=r->(CG dt).getD k 0<=(k:Int)+1:=by
  intro d;induction d with
  |zero=>intro k hk;have:=hmem k (by omega);omega
  |succ d ih=>intro k hk;have:=ih (k+1) (by omega);have:=hst k (by omega);omega
 refine Ui fun k hk=> ?_;have a:=Ck k hk;have b:=hup (r- 1- k) k (by omega);omega
def Oq{dt:List Int}{r:Nat}(h:D8 (CG dt) r=true)(hl:dt.length=r):Bd dt r r=true:=by
 have hsl:(CG dt).length=r:=by rw[GF,hl]
 have hat:=KP h;have hnd:dt.Nodup:=by refine(EB dt).nodup_iff.1 (List.pairwise_iff_getElem.2 fun i j hi hj hij he=> ?_);have a:=hat i (by omega);have b:=hat j (by omega);rw[Dc _ i hi]at a;rw[Dc _ j hj]at b;omega
 have hrng:∀i,i<r->1<=dt.getD i 0/\dt.getD i 0<=r:=fun i hi=>by rw[Dc dt i (by omega)];have hm:dt[i]'(by omega)∈CG dt:=(EB dt).mem_iff.2 (DV _);obtain⟨k,hk,he⟩:=List.getElem_of_mem hm;have:=hat k (by omega);rw[Dc _ k hk,he]at this;omega
 have key:∀m,m<=r->Bd dt r m=true:=by
  intro m;induction m with
  |zero=>intro _;rfl
  |succ m ih=>
   intro hm;simp only[Bd,Ah];refine⟨ih (by omega),?_⟩;unfold EU;simp only[Ah,BC,Bool.not_eq_true'];refine⟨hrng m (by omega),?_⟩;cases e:(EI dt r m).getD (DS dt m) false with
   |false=>rfl
   |true=>
    obtain⟨i,hi,he⟩:=OA e;have a:=hrng i (by omega);have b:=hrng m (by omega);have heq:dt.getD i 0=dt.getD m 0:=by unfold DS at he;omega
    rw[Dc dt i (by omega),Dc dt m (by omega)]at heq;exact absurd heq (List.pairwise_iff_getElem.1 hnd i m (by omega) (by omega) hi)
 exact key r AC
def QP{dt:List Int}{r:Nat}(hl:dt.length=r):Bd dt r r=D8 (CG dt) r:=by
 cases e:D8 (CG dt) r with
 |true=>exact Oq e hl
 |false=>
  cases e2:Bd dt r r with
  |false=>rfl
  |true=>rw[JY e2 hl]at e;cases e
def ED(x:Int)(l:List Int):AM (x::l)=x*AM l:=by have e:x::l= [x]++l:=rfl;rw[e,Bi];simp[AM]
def O3{l1 l2:List Int}(h:l1.Perm l2):AM l1=AM l2:=by
 induction h with
 |nil=>rfl
 |cons x _ ih=>rw[ED,ED,ih]
 |swap x y l=>rw[ED,ED,ED,ED,Int.mul_left_comm]
 |trans _ _ h1 h2=>exact h1.trans h2
def big:List Int->Int
 | []=>1
 |x::r=>if x=0 then big r else x*big r
def Y0{l:List Int}(h:l.all Be=true):1<=big l:=by
 induction l with
 |nil=>simp[big]
 |cons x r ih=>
  simp only[List.all_cons,Ah]at h;have hx:0<=x/\x<=10000:=by simpa[Be]using h.1
  have:=ih h.2;unfold big;split
  .exact this
  .have h1:1*1<=x*big r:=Int.mul_le_mul (by omega) this (by omega) (by omega);omega
def Xp{l1 l2:List Int}(h:l1.Perm l2):big l1=big l2:=by
 induction h with
 |nil=>rfl
 |cons x _ ih=>simp only[big,ih]
 |swap x y l=>
  simp only[big];by_cases hx:x=0
  .by_cases hy:y=0
   .simp[hx,hy]
   .simp[hx,hy]
  .by_cases hy:y=0
   .simp[hx,hy]
   .simp[hx,hy,Int.mul_left_comm]
 |trans _ _ h1 h2=>exact h1.trans h2
def JT(l:List Int)(h:l.all Be=true)(n:Int)(h1:1<=n)(h2:n<=10000):(∃m,Aj l n=some m)↔n*big l<=10000:=by
 induction l generalizing n with
 |nil=>simp[Aj,big,h2]
 |cons x r ih=>
  simp only[List.all_cons,Ah]at h;have hx:0<=x/\x<=10000:=by simpa[Be]using h.1
  have hb:=Y0 h.2;simp only[Aj,big];by_cases h0:x=0
  .rw[AI h0,AI h0];exact ih h.2 n h1 h2
  .rw[AH h0,AH h0,<-Int.mul_assoc];have hnx:1*1<=n*x:=Int.mul_le_mul h1 (by omega) (by omega) (by omega);split
   .rename_i hbig
    constructor
    .rintro⟨m,hm⟩;cases hm
    .intro hle;have:n*x*1<=n*x*big r:=Int.mul_le_mul_of_nonneg_left hb (by omega);omega
   .rename_i hbig
    exact ih h.2 (n*x) (by omega) (by omega)
def Ot{l1 l2:List Int}(h:l1.Perm l2)(hs:Aq l1):Aq l2:=by
 have ha:l2.all Be=true:=by rw[A7];exact fun x hx=>A7.1 hs.1 x (h.mem_iff.2 hx)
 have:=(JT l1 hs.1 1 (by omega) (by omega)).1 hs.2;rw[Xp h]at this;exact⟨ha,(JT l2 ha 1 (by omega) (by omega)).2 this⟩
def Ry{dt:List Int}{r:Nat}(h:Bd dt r r=true)(hl:dt.length=r):((List.range r).map (DS dt)).Perm (List.range r):=by
 have hat:=KP (JY h hl);have hsl:(CG dt).length=r:=by rw[GF,hl]
 have e1:(CG dt).map (fun x=>(x- 1).toNat)=List.range r:=by
  apply List.ext_getElem
  .simp[hsl]
  .intro i h1 h2;have hi:i<r:=by simpa using h2
   have:=hat i hi;rw[Dc _ i (by omega)]at this;simp[this]
 have e2:dt.map (fun x=>(x- 1).toNat)=(List.range r).map (DS dt):=by
  apply List.ext_getElem
  .simp[hl]
  .intro i h1 h2;have hi:i<dt.length:=by simpa using h1
   simp[DS,hi]
 rw[<-e2,<-e1];exact((EB dt).map _).symm
def UC{dt sh:List Int}{r:Nat}(h:Bd dt r r=true)(hl:dt.length=r)(hs:sh.length=r):(CZ dt sh r r).Perm sh:=by
 have e1:sh=((List.range r).map (DS dt)).map (fun k=>(CZ dt sh r r).getD k 0):=by
  apply List.ext_getElem
  .simp[hs]
  .intro i h1 h2;have:=(Oj (sh:=sh) h i (by omega)).1;rw[Dc sh i h1]at this;simp only[List.getElem_map,List.getElem_range];exact this.symm
 have e2:CZ dt sh r r=(List.range r).map (fun k=>(CZ dt sh r r).getD k 0):=by
  apply List.ext_getElem
  .simp[Do]
  .intro i h1 h2;rw[List.getElem_map,List.getElem_range,Dc _ i h1]
 have hp:=((Ry h hl).map (fun k=>(CZ dt sh r r).getD k 0)).symm;rw[<-e1,<-e2]at hp;exact hp
def Gm(dt D:List Int)(i:Nat):Int:=D.getD (DS dt i) 0
def Ok{d:Bool}{dt sh dt':List Int}(h:Bd dt sh.length sh.length=true)(hf:F0 sh)(k:Nat):BP d sh dt' (Gm dt) (CZ dt sh sh.length sh.length) k=IQ dt sh dt' k:=by have hD:=Ek (Nz h rfl hf) (k:Int);have hb:=Tx h rfl hD;have e:Cc sh (Gm dt) (BK (CZ dt sh sh.length sh.length) k)=Fb dt (BK (CZ dt sh sh.length sh.length) k) sh.length:=rfl;unfold BP IQ;rw[e,AI (IX hb _ AC)]
def Rh{d:Bool}{dt sh dt':List Int}(h2:AJ d sh dt'=true)(h:Bd dt sh.length sh.length=true):Bg (BP d sh dt' (Gm dt) (CZ dt sh sh.length sh.length)) dt'.length=Bg (IQ dt sh dt') dt'.length:=by
 obtain⟨hin,hp,_⟩:=AW h2;by_cases h0:dt'.length=0
 .rw[h0];rfl
 .exact BG fun k _=>by rw[Ok h (FI hin (by rw[hp];omega))]
def A9(sh:List Int):List Int:=sh.take (sh.length- 1)
def El(sh:List Int):Int:=sh.getD (sh.length- 1) 0
def Ar(sh sh':List Int):List Int:=if sh= []then A9 sh'++ [1]else if sh.length+1=sh'.length then sh++ [1]else sh
def BR(sh dt sh':List Int):List Int:=if sh= []then List.replicate (Ac (Ar sh sh')).toNat (dt.getD 0 0)else dt
def Hd(x y:List Int)(m n:Nat):Nat->List Int
 |0=> []
 |k+1=>Hd x y m n k++(x.drop (k*m)).take m++(y.drop (k*n)).take n
def BV(c d:Bool)(sh dt sh' dt':List Int):Ic:=if AJ c sh dt=true/\AJ d sh' dt'=true then
  if(Ar sh sh').length≠(Ar sh' sh).length then AT 4
  else if A9 (Ar sh sh')≠A9 (Ar sh' sh)then AT 5
  else if c≠d/\BR sh dt sh'≠ []/\BR sh' dt' sh≠ []then AT 3
  else if Am (A9 (Ar sh sh')++ [El (Ar sh sh')+El (Ar sh' sh)])=false then AT 7
  else⟨if BR sh dt sh'= []/\BR sh' dt' sh≠ []then d else c,A9 (Ar sh sh')++ [El (Ar sh sh')+El (Ar sh' sh)],Hd (BR sh dt sh') (BR sh' dt' sh) (El (Ar sh sh')).toNat (El (Ar sh' sh)).toNat (AM (A9 (Ar sh sh'))).toNat,0⟩
 else AT 3
section
variable {c d:Bool}{sh dt sh' dt':List Int}
def RJ(h:AJ c sh dt=false):BV c d sh dt sh' dt'=AT 3:=by unfold BV;rw[AH (by simp[h])]
def RI(h:AJ d sh' dt'=false):BV c d sh dt sh' dt'=AT 3:=by unfold BV;rw[AH (by simp[h])]
def RH(h1:AJ c sh dt=true)(h2:AJ d sh' dt'=true)(h:(Ar sh sh').length≠(Ar sh' sh).length):BV c d sh dt sh' dt'=AT 4:=by unfold BV;rw[AI ⟨h1,h2⟩,AI h]
variable {L R x y:List Int}
def Ts(h1:AJ c sh dt=true)(h2:AJ d sh' dt'=true)(hL:Ar sh sh'=L)(hR:Ar sh' sh=R)(h:L.length=R.length)(hf:A9 L≠A9 R):BV c d sh dt sh' dt'=AT 5:=by unfold BV;rw[AI ⟨h1,h2⟩,hL,hR,AH (by simp[h]),AI hf]
def Tt(h1:AJ c sh dt=true)(h2:AJ d sh' dt'=true)(hL:Ar sh sh'=L)(hR:Ar sh' sh=R)(hx:BR sh dt sh'=x)(hy:BR sh' dt' sh=y)(h:L.length=R.length)(hf:A9 L=A9 R)(hd:c≠d/\x≠ []/\y≠ []):BV c d sh dt sh' dt'=AT 3:=by unfold BV;rw[AI ⟨h1,h2⟩,hL,hR,hx,hy,AH (by simp[h]),AH (by simp[hf]),AI hd]
def Tu(h1:AJ c sh dt=true)(h2:AJ d sh' dt'=true)(hL:Ar sh sh'=L)(hR:Ar sh' sh=R)(hx:BR sh dt sh'=x)(hy:BR sh' dt' sh=y)(h:L.length=R.length)(hf:A9 L=A9 R)(hd:¬(c≠d/\x≠ []/\y≠ []))(hz:Am (A9 L++ [El L+El R])=false):BV c d sh dt sh' dt'=AT 7:=by unfold BV;rw[AI ⟨h1,h2⟩,hL,hR,hx,hy,AH (by simp[h]),AH (by simp[hf]),AH hd,AI hz]
def Xk(h1:AJ c sh dt=true)(h2:AJ d sh' dt'=true)(hL:Ar sh sh'=L)(hR:Ar sh' sh=R)(hx:BR sh dt sh'=x)(hy:BR sh' dt' sh=y)(h:L.length=R.length)(hf:A9 L=A9 R)(hd:¬(c≠d/\x≠ []/\y≠ []))(hz:Am (A9 L++ [El L+El R])=true):BV c d sh dt sh' dt'=⟨if x= []/\y≠ []then d else c,A9 L++ [El L+El R],Hd x y (El L).toNat (El R).toNat (AM (A9 L)).toNat,0⟩:=by unfold BV;rw[AI ⟨h1,h2⟩,hL,hR,hx,hy,AH (by simp[h]),AH (by simp[hf]),AH hd,AH (by simp[hz])]
end
def FG{l:List Int}(h:Aq l):Aq (l++ [1]):=by
 obtain⟨ha,m,hm⟩:=h;refine⟨by rw[List.all_append,ha];rfl,m,?_⟩;have key:∀(l:List Int)(n:Int),1<=n->n<=10000->l.all Be=true->∀m,Aj l n=some m->Aj (l++ [1]) n=some m:=by
  intro l;induction l with
  |nil=>intro n h1 h2 _ m hm;simp only[Aj]at hm ⊢;simp[Aj];cases hm;omega
  |cons x r ih=>
   intro n h1 h2 hl m hm;simp only[List.all_cons,Ah]at hl;have hx:0<=x/\x<=10000:=by simpa[Be]using hl.1
   simp only[Aj,Ax]at hm ⊢;by_cases h0:x=0
   .rw[AI h0]at hm ⊢;exact ih n h1 h2 hl.2 m hm
   .rw[AH h0]at hm ⊢;split at hm
    .cases hm
    .rename_i hle
     rw[AH hle];have:1*1<=n*x:=Int.mul_le_mul h1 (by omega) (by omega) (by omega);exact ih _ (by omega) (by omega) hl.2 m hm
 exact key l 1 (by omega) (by omega) ha m hm
def Fu{l:List Int}(h:l≠ []):l=A9 l++ [El l]:=by
 have hl:0<l.length:=CF.mpr h;unfold A9 El;have:=Cf (l.length- 1) l;have e:l.drop (l.length- 1)= [l.getD (l.length- 1) 0]:=by rw[List.drop_eq_getElem_cons (by omega)];simp[List.getD,show l.length- 1<l.length by omega,show l.length- 1+1=l.length by omega]
 rw[e]at this;exact this.symm
def Lm{c d:Bool}{sh dt sh' dt':List Int}(h1:AJ c sh dt=true)(h2:AJ d sh' dt'=true):Aq (Ar sh sh')/\(Ar sh sh').length<=5/\0<(Ar sh sh').length/\AM (Ar sh sh')=(BR sh dt sh').length:=by
 obtain⟨i1,p1,l1⟩:=AW h1;obtain⟨i2,p2,l2⟩:=AW h2;unfold BR;by_cases e:sh= []
 .have hs:Ar sh sh'=A9 sh'++ [1]:=by unfold Ar;rw[AI e]
  have hi:Aq (A9 sh'++ [1]):=FG (i2.take _);have hl:(A9 sh'++ [1]).length<=5:=by simp[A9];omega
  rw[AI e,hs];refine⟨hi,hl,by simp,?_⟩;have hb:Am (A9 sh'++ [1])=true:=by obtain⟨ha,m,hm⟩:=hi;exact Ex (n:=(A9 sh'++ [1]).length) rfl hl m ha hm
  have hc:=Bs _ hb;have hn:=hi.bd.1;simp;omega
 .rw[AH e];unfold Ar;rw[AH e];by_cases e2:sh.length+1=sh'.length
  .rw[AI e2];refine⟨FG i1,by simp;omega,by simp,?_⟩;rw[Bi,p1];simp[AM]
  .rw[AH e2];exact⟨i1,l1,CF.mpr e,p1⟩
def Br(dt:List Int)(i:Nat):Int:=dt.getD (i % dt.length) 0
def A5(dt:List Int):Nat->Int
 |0=>0
 |m+1=>A5 dt m+Br dt m
def GX(n K:Nat):Nat:=if n=1 then K else n
def Eo(dt':List Int)(n A p i:Nat):List Int:=(dt'.drop ((p*n+i % n)*A)).take A
def DF(dt':List Int)(n A p i:Nat):Nat->List Int
 |0=> []
 |c+1=>DF dt' n A p i c++Eo dt' n A p i
def Du(dt dt':List Int)(n A p:Nat):Nat->List Int
 |0=> []
 |i+1=>Du dt dt' n A p i++DF dt' n A p i (Br dt i).toNat
def Dz(dt dt':List Int)(n A m:Nat):Nat->List Int
 |0=> []
 |p+1=>Dz dt dt' n A m p++Du dt dt' n A p m
def DD(dt dt':List Int)(n A m p i c q:Nat):List Int:=Dz dt dt' n A m p++Du dt dt' n A p i++DF dt' n A p i c++(Eo dt' n A p i).take q
def YL{dt dt':List Int}{n A m p i c q:Nat}(h:(p*n+i % n)*A+q<dt'.length)(hq:q<A):DD dt dt' n A m p i c q++ [dt'.getD ((p*n+i % n)*A+q) 0]=DD dt dt' n A m p i c (q+1):=by
 unfold DD;rw[CY];congr 1;have hl:q<(Eo dt' n A p i).length:=by unfold Eo;simp;omega
 have e:(Eo dt' n A p i)[q]=dt'.getD ((p*n+i % n)*A+q) 0:=by
  have e0:(Eo dt' n A p i)[q]? =dt'[(p*n+i % n)*A+q]? :=by unfold Eo;rw[List.getElem?_take_of_lt hq,F9]
  rw[CK hl,CK h]at e0;rw[Dn e0];simp[List.getD,h]
 rw[B7 hl,e]
def YO{dt dt':List Int}{n A m p i c:Nat}:DD dt dt' n A m p i c A=DD dt dt' n A m p i (c+1) 0:=by
 unfold DD;have h:(Eo dt' n A p i).take A=Eo dt' n A p i:=by unfold Eo;rw[List.take_take];simp
 rw[h];simp[DF,List.append_assoc]
def YN{dt dt':List Int}{n A m p i:Nat}:DD dt dt' n A m p i (Br dt i).toNat 0=DD dt dt' n A m p (i+1) 0 0:=by unfold DD;simp[DF,Du,List.append_assoc]
def YM{dt dt':List Int}{n A m p:Nat}:DD dt dt' n A m p m 0 0=DD dt dt' n A m (p+1) 0 0 0:=by unfold DD;simp[DF,Du,Dz]
def OI{dt dt':List Int}{n A m p:Nat}:DD dt dt' n A m p 0 0 0=Dz dt dt' n A m p:=by unfold DD;simp[DF,Du]
def Di(s t off k:Nat):Nat:=k / s*t+k % s+off
def Oz{s t off k:Nat}(hs:0<s)(ht:s+off<=t):Di s t off k / t=k / s/\Di s t off k % t=k % s+off:=by
 have h1:=Nat.mod_lt k hs;have e:Di s t off k=(k % s+off)+t*(k / s):=by unfold Di;rw[Nat.mul_comm (k / s) t];omega
 rw[e];exact⟨by rw[Nat.add_mul_div_left _ _ (by omega),Nat.div_eq_of_lt (by omega)];omega,by rw[Nat.add_mul_mod_self_left,Nat.mod_eq_of_lt (by omega)]⟩
def JM{s t off i k:Nat}(hs:0<s)(ht:s+off<=t):i=Di s t off k↔(off<=i % t/\i % t<off+s)/\i / t*s+(i % t- off)=k:=by
 constructor
 .rintro rfl;obtain⟨h1,h2⟩:=Oz (k:=k) hs ht;rw[h1,h2];have h3:=Nat.mod_lt k hs;have h4:=Nat.div_add_mod k s;rw[Nat.mul_comm]at h4;exact⟨⟨by omega,by omega⟩,by omega⟩
 .rintro⟨⟨h1,h2⟩,rfl⟩;have e:i / t*s+(i % t- off)=(i % t- off)+s*(i / t):=by rw[Nat.mul_comm];omega
  unfold Di;rw[e,Nat.add_mul_div_left _ _ hs,Nat.add_mul_mod_self_left,Nat.div_eq_of_lt (by omega),Nat.mod_eq_of_lt (show i % t- off<s by omega)];have h4:=Nat.div_add_mod i t;rw[Nat.mul_comm]at h4;rw[Cq];omega
def Iu(s t off:Nat)(g:Nat->Int)(l:List Int)(k i:Nat):Int:=if(off<=i % t/\i % t<off+s)/\i / t*s+(i % t- off)<k then g (i / t*s+(i % t- off))else l.getD i 0
def SC(l:List Int)(M:Nat)(h:l.length=M):l=(List.range M).map fun i=>l.getD i 0:=by
 apply List.ext_getElem
 .simp[h]
 .intro i h1 h2;simp[List.getD,h1]
def QF{sh zs:List Int}{f:List Int->Nat->Int}{g:Nat->Int}{l:List Int}{s t off M N:Nat}(hs:0<N->0<s)(ht:s+off<=t)(hl:l.length=M)(hin:∀k:Nat,k<N->BX sh (Cc sh f (BK zs k)) sh.length=true/\place sh (Cc sh f (BK zs k))=((Di s t off k:Nat):Int))(k:Nat)(hk:k<=N):Fg sh f zs g l k=(List.range M).map (Iu s t off g l k):=by
 induction k with
 |zero=>
  show l=_;rw[SC l M hl];refine BG fun i hi=> ?_;unfold Iu;rw[AH (by omega)];simp[hi]
 |succ k ih=>
  obtain⟨h1,h2⟩:=hin k (by omega);have hs':=hs (by omega);rw[<-V0 h1 h2,ih (by omega),Dq];refine BG fun i hi=> ?_;by_cases e:i=Di s t off k
  .rw[AI e];have:=(JM hs' ht).1 e;unfold Iu;rw[AI ⟨this.1,by omega⟩,this.2]
  .rw[AH e];unfold Iu;by_cases c:(off<=i % t/\i % t<off+s)/\i / t*s+(i % t- off)<k
   .rw[AI c,AI ⟨c.1,by omega⟩]
   .rw[AH c,AH (fun h=>c ⟨h.1,by
     rcases Bz (i / t*s+(i % t- off)) k with h'|h'
     .exact h'
     .exact absurd ((JM hs' ht).2 ⟨h.1,by omega⟩) e⟩)]
def SH(X Y:List Int)(x y i:Nat):Int:=if i % (x+y)<x then X.getD (i / (x+y)*x+i % (x+y)) 0 else Y.getD (i / (x+y)*y+(i % (x+y)- x)) 0
def MH(a b:Nat):List.range (a+b)=List.range a++(List.range b).map (a+·):=List.range_add
def Sw(X Y:List Int)(x y B:Nat)(hX:B*x=X.length)(hY:B*y=Y.length)(k:Nat)(hk:k<=B):Hd X Y x y k=(List.range (k*(x+y))).map (SH X Y x y):=by
 induction k with
 |zero=>simp[Hd]
 |succ k ih=>
  have hx:(k+1)*x<=X.length:=by rw[<-hX];exact Nat.mul_le_mul_right _ hk
  have hy:(k+1)*y<=Y.length:=by rw[<-hY];exact Nat.mul_le_mul_right _ hk
  rw[Nat.add_mul,Nat.one_mul]at hx hy;simp only[Hd];rw[ih (by omega),Nat.add_mul,Nat.one_mul,MH,Bf,CY,List.map_map];congr 1;apply List.ext_getElem
  .simp;omega
  .intro c h1 h2;have hc:c<x+y:=by simpa using h2
   have hm:(k*(x+y)+c) % (x+y)=c:=by rw[Nat.mul_comm,Nat.mul_add_mod,Nat.mod_eq_of_lt hc]
   have hd:(k*(x+y)+c) / (x+y)=k:=by rw[Nat.mul_comm,Nat.mul_add_div (by omega),Nat.div_eq_of_lt hc];omega
   simp only[List.getElem_map,List.getElem_range,Function.comp];unfold SH;rw[hm,hd];by_cases h:c<x
   .rw[AI h,List.getElem_append_left (by simp;omega)];simp[List.getD,show k*x+c<X.length by omega]
   .rw[AH h,List.getElem_append_right (by simp;omega)];simp[List.getD,show min x (X.length- k*x)=x by omega,show k*y+(c- x)<Y.length by omega]
def V1{X Y l:List Int}{x y B:Nat}{g1 g2:Nat->Int}(hX:B*x=X.length)(hY:B*y=Y.length)(h1:∀k,k<X.length->g1 k=X.getD k 0)(h2:∀k,k<Y.length->g2 k=Y.getD k 0):(List.range (B*(x+y))).map (Iu y (x+y) x g2 ((List.range (B*(x+y))).map (Iu x (x+y) 0 g1 l X.length)) Y.length)=Hd X Y x y B:=by
 rw[Sw X Y x y B hX hY B AC];refine BG fun i hi=> ?_;have ht:0<x+y:=by
  rcases Nat.eq_zero_or_pos (x+y)with h|h
  .rw[h]at hi;simp at hi
  .exact h
 have hr:i / (x+y)<B:=by rw[Nat.div_lt_iff_lt_mul ht];exact hi
 have hc:=Nat.mod_lt i ht;have hx:i / (x+y)*x+x<=X.length:=by rw[<-hX];have:=Nat.mul_le_mul_right x hr;rwa [Nat.succ_mul]at this
 have hy:i / (x+y)*y+y<=Y.length:=by rw[<-hY];have:=Nat.mul_le_mul_right y hr;rwa [Nat.succ_mul]at this
 unfold Iu SH;by_cases c:i % (x+y)<x
 .rw[AH (by omega),AI c,EO _ _ _ hi,AI ⟨by omega,by omega⟩,Nat.sub_zero,h1 _ (by omega)]
 .rw[AH c,AI ⟨by omega,by omega⟩,h2 _ (by omega)]
def JW{fr:List Int}{s t off:Nat}(hst:s+off<=t)(f:List Int->Nat->Int)(hf:∀D i,i<fr.length->f D i=D.getD i 0)(hl:∀D,f D fr.length=D.getD fr.length 0+(off:Int))(hF:F0 (fr++ [(s:Int)]))(k:Nat)(hk:(k:Int)<AM (fr++ [(s:Int)])):BX (fr++ [(t:Int)]) (Cc (fr++ [(t:Int)]) f (BK (fr++ [(s:Int)]) k)) (fr++ [(t:Int)]).length=true/\place (fr++ [(t:Int)]) (Cc (fr++ [(t:Int)]) f (BK (fr++ [(s:Int)]) k))=((Di s t off k:Nat):Int):=by
 have hD:=Ek hF (k:Int);have hpl:=Gq hF (p:=(k:Int)) (by omega) hk;have hDl:=De (fr++ [(s:Int)]) (k:Int);obtain⟨D,hDD⟩:∃D,BK (fr++ [(s:Int)]) (k:Int)=D:=⟨_,rfl⟩
 rw[hDD]at hD hpl hDl ⊢;have hMg:=IV (fr++ [(t:Int)]) f D;obtain⟨M,hM⟩:∃M,Cc (fr++ [(t:Int)]) f D=M:=⟨_,rfl⟩
 rw[hM]at hMg ⊢;have gs:∀i,i<fr.length->∀z:Int,(fr++ [z]).getD i 0=fr.getD i 0:=fun i hi z=>by simp[List.getD,List.getElem?_append_left hi]
 have gl:∀z:Int,(fr++ [z]).getD fr.length 0=z:=fun z=>by simp[List.getD]
 have ZK:=hD fr.length (by simp);rw[gl]at ZK;have ha:M.getD fr.length 0=D.getD fr.length 0+(off:Int):=by rw[hMg fr.length (by simp),hl]
 have ho:∀i,i<fr.length->M.getD i 0=D.getD i 0:=fun i hi=>by rw[hMg i (by simp;omega),hf D i hi]
 have hin:GC (fr++ [(t:Int)]) M:=fun i hi=>by
  have hi':i<fr.length+1:=by simpa using hi
  by_cases e:i=fr.length
  .subst e;rw[ha,gl];omega
  .have h1:=hD i (by simp;omega);rw[gs i (by omega)]at h1;rw[gs i (by omega),ho i (by omega)];exact h1
 refine⟨IX hin _ AC,?_⟩;have p1:=Ei (fr++ [(t:Int)]) M fr.length (by simp);have p2:=Ei (fr++ [(s:Int)]) D fr.length (by simp);have hd0:∀z:Int,(fr++ [z]).drop (fr.length+1)= []:=fun z=>by simp
 rw[hd0,gl,ha]at p1;rw[hd0,gl,hpl]at p2;have e0:∀ix:List Int,place [] ix=0:=fun ix=>rfl;have ep:AM []=1:=rfl;rw[e0,ep,Int.mul_one,Int.add_zero]at p1 p2;have hP:BO (fr++ [(t:Int)]) M fr.length=BO (fr++ [(s:Int)]) D fr.length:=by
  have key:∀j,j<=fr.length->BO (fr++ [(t:Int)]) M j=BO (fr++ [(s:Int)]) D j:=by
   intro j;induction j with
   |zero=>intro _;rfl
   |succ j ih=>
    intro hj;show BO (fr++ [(t:Int)]) M j*_+_=BO (fr++ [(s:Int)]) D j*_+_;rw[ih (by omega),gs j (by omega),gs j (by omega),ho j (by omega)]
  exact key _ AC
 have hP0:=(GY hD fr.length (by simp)).1;obtain⟨p,hp⟩:∃p:Nat,BO (fr++ [(s:Int)]) D fr.length=p:=⟨(BO (fr++ [(s:Int)]) D fr.length).toNat,by omega⟩
 obtain⟨j,hj⟩:∃j:Nat,D.getD fr.length 0=j:=⟨(D.getD fr.length 0).toNat,by omega⟩
 rw[hP,hp,hj]at p1;rw[hp,hj]at p2;rw[hj]at ZK;have hk2:k=p*s+j:=by exact_mod_cast p2
 have hjs:j<s:=by omega
 have q1:k / s=p:=by rw[hk2,Nat.mul_comm,Nat.mul_add_div (by omega),Nat.div_eq_of_lt hjs];omega
 have q2:k % s=j:=by rw[hk2,Nat.mul_comm,Nat.mul_add_mod,Nat.mod_eq_of_lt hjs]
 rw[p1];unfold Di;rw[q1,q2]
 push_cast
 omega
def K6(f:Nat->List Int)(A K:Nat)(h:∀i,i<K->(f i).length=A):((List.range K).map f).flatten=(List.range (K*A)).map fun t=>(f (t / A)).getD (t % A) 0:=by
 induction K with
 |zero=>simp
 |succ K ih=>
  rw[List.range_succ,Bf,List.flatten_append,ih (fun i hi=>h i (by omega)),Nat.add_mul,Nat.one_mul,MH,Bf,List.map_map];congr 1;have hK:=h K (by omega);simp only[List.map_cons,List.map_nil,List.flatten_cons,List.flatten_nil,Fd];apply List.ext_getElem
  .simp[hK]
  .intro c h1 h2;have hc:c<A:=by simpa using h2
   simp only[List.getElem_map,List.getElem_range,Function.comp];rw[show(K*A+c) / A=K by rw[Nat.mul_comm,Nat.mul_add_div (by omega),Nat.div_eq_of_lt hc];omega,show(K*A+c) % A=c by rw[Nat.mul_comm,Nat.mul_add_mod,Nat.mod_eq_of_lt hc]];simp[List.getD,h1]
def Cr(dt:List Int)(n:Nat):Nat->List Nat
 |0=> []
 |m+1=>Cr dt n m++List.replicate (Br dt m).toNat (m % n)
def KF{dt:List Int}{n:Nat}(hn:0<n)(m:Nat):∀j∈Cr dt n m,j<n:=by
 induction m with
 |zero=>intro j hj;cases hj
 |succ m ih=>
  intro j hj;simp only[Cr,List.mem_append,List.mem_replicate]at hj;rcases hj with hj|⟨_,rfl⟩
  .exact ih j hj
  .exact Nat.mod_lt _ hn
def MF{dt:List Int}{n:Nat}(m:Nat)(h:∀i,0<=Br dt i):((Cr dt n m).length:Int)=A5 dt m:=by
 induction m with
 |zero=>rfl
 |succ m ih=>
  have:=h m;simp only[Cr,A5,Dh,List.length_replicate];omega
def MG(dt':List Int)(n A p i c:Nat):DF dt' n A p i c=((List.replicate c (i % n)).map fun j=>(dt'.drop ((p*n+j)*A)).take A).flatten:=by
 induction c with
 |zero=>rfl
 |succ c ih=>rw[List.replicate_succ',Bf,List.flatten_append,<-ih];simp[DF,Eo]
def O2(dt dt':List Int)(n A p m:Nat):Du dt dt' n A p m=((Cr dt n m).map fun j=>(dt'.drop ((p*n+j)*A)).take A).flatten:=by
 induction m with
 |zero=>rfl
 |succ m ih=>simp only[Du,Cr,Bf,List.flatten_append];rw[ih,MG]
def QD(dt dt':List Int)(n A m B:Nat):Dz dt dt' n A m B=((List.range B).map fun p=>Du dt dt' n A p m).flatten:=by
 induction B with
 |zero=>rfl
 |succ B ih=>rw[List.range_succ,Bf,List.flatten_append,<-ih];simp[Dz]
def Yd(l:List Nat)(F:Nat->List Int):l.map F=(List.range l.length).map fun s=>F (l.getD s 0):=by
 apply List.ext_getElem
 .simp
 .intro i h1 h2;have h:i<l.length:=by simpa using h1
  simp[List.getD,h]
def UO{dt dt':List Int}{n A m B:Nat}(hn:0<n)(hl:B*n*A=dt'.length):Dz dt dt' n A m B=(List.range (B*((Cr dt n m).length*A))).map fun t=>dt'.getD ((t / ((Cr dt n m).length*A)*n+(Cr dt n m).getD (t % ((Cr dt n m).length*A) / A) 0)*A+t % ((Cr dt n m).length*A) % A) 0:=by
 obtain⟨I,hI⟩:∃I,Cr dt n m=I:=⟨_,rfl⟩
 have hlt:∀s,s<I.length->I.getD s 0<n:=fun s hs=>by refine KF (dt:=dt) hn m _ ?_;rw[hI];simp only[List.getD,CK hs,EH];exact DV hs
 have DI:∀p,p<B->∀s,s<I.length->((dt'.drop ((p*n+I.getD s 0)*A)).take A).length=A:=fun p hp s hs=>by have h1:=hlt s hs;have h2:(p*n+I.getD s 0+1)*A<=B*n*A:=Nat.mul_le_mul_right _ (by have:(p+1)*n<=B*n:=Nat.mul_le_mul_right _ hp;rw[Nat.add_mul,Nat.one_mul]at this;omega);rw[Nat.add_mul,Nat.one_mul,hl]at h2;rw[FE,Gj];omega
 have hline:∀p,p<B->Du dt dt' n A p m=(List.range (I.length*A)).map fun t=>dt'.getD ((p*n+I.getD (t / A) 0)*A+t % A) 0:=fun p hp=>by
  rw[O2,hI,Yd I,K6 _ A I.length (fun s hs=>DI p hp s hs)];refine BG fun t ht=> ?_;have hA:0<A:=by
   rcases Nat.eq_zero_or_pos A with h|h
   .rw[h]at ht;simp at ht
   .exact h
  have hq:=Nat.mod_lt t hA;have e:((dt'.drop ((p*n+I.getD (t / A) 0)*A)).take A)[t % A]? =dt'[(p*n+I.getD (t / A) 0)*A+t % A]? :=by rw[List.getElem?_take_of_lt hq,F9]
  show(((dt'.drop ((p*n+I.getD (t / A) 0)*A)).take A)[t % A]?).getD 0=(dt'[(p*n+I.getD (t / A) 0)*A+t % A]?).getD 0;rw[e]
 rw[QD,hI,EL (fun p hp=>hline p (by simpa using hp))];rw[K6 _ (I.length*A) B (fun p _=>by simp)];refine BG fun t ht=> ?_;have hK:0<I.length*A:=by
  rcases Nat.eq_zero_or_pos (I.length*A)with h|h
  .rw[h]at ht;simp at ht
  .exact h
 rw[EO _ _ _ (Nat.mod_lt t hK)]
def Nl(a:Nat)(I:List Nat)(D:List Int)(i:Nat):Int:=if i=a then((I.getD (D.getD i 0).toNat 0:Nat):Int)else D.getD i 0
def VZ{p S s A q t:Nat}(hs:s<S)(hq:q<A)(ht:t=(p*S+s)*A+q):t / (S*A)=p/\t % (S*A) / A=s/\t % (S*A) % A=q:=by
 have hA:0<A:=by omega
 have h1:s*A+q<S*A:=by have:(s+1)*A<=S*A:=Nat.mul_le_mul_right _ hs;rw[Nat.add_mul,Nat.one_mul]at this;omega
 have e:t=(S*A)*p+(s*A+q):=by rw[ht,Nat.add_mul,Nat.mul_assoc,Nat.mul_comm p (S*A)];omega
 have hm:t % (S*A)=s*A+q:=by rw[e,Nat.mul_add_mod,Nat.mod_eq_of_lt h1]
 refine⟨by rw[e,Nat.mul_add_div (by omega),Nat.div_eq_of_lt h1];omega,?_,?_⟩
 .rw[hm,Nat.mul_comm s A,Nat.mul_add_div hA,Nat.div_eq_of_lt hq];omega
 .rw[hm,Nat.mul_comm s A,Nat.mul_add_mod,Nat.mod_eq_of_lt hq]
def SP{d:Bool}{sh dt':List Int}{a n A:Nat}{I:List Nat}(ha:a<sh.length)(hn:sh.getD a 0=(n:Int))(hA:AM (sh.drop (a+1))=(A:Int))(hI:∀s,s<I.length->I.getD s 0<n)(hF:F0 (sh.set a (I.length:Int)))(t:Nat)(ht:(t:Int)<AM (sh.set a (I.length:Int))):(BP d sh dt' (Nl a I) (sh.set a (I.length:Int)) t).1=dt'.getD ((t / (I.length*A)*n+I.getD (t % (I.length*A) / A) 0)*A+t % (I.length*A) % A) 0:=by
 obtain⟨ZS,hZS⟩:∃Z,sh.set a (I.length:Int)=Z:=⟨_,rfl⟩
 have lZ:ZS.length=sh.length:=by rw[<-hZS];simp
 have gZ:∀i,i≠a->ZS.getD i 0=sh.getD i 0:=fun i hi=>by rw[<-hZS];simp[List.getD,List.getElem?_set_ne (Ne.symm hi)]
 have gA:ZS.getD a 0=(I.length:Int):=by rw[<-hZS];simp[List.getD,ha]
 have dZ:ZS.drop (a+1)=sh.drop (a+1):=by rw[<-hZS];simp[List.drop_set_of_lt]
 rw[hZS]at hF ht ⊢;have hD:=Ek hF (t:Int);have hpl:=Gq hF (p:=(t:Int)) (by omega) ht;have hDl:=De ZS (t:Int);obtain⟨D,hDD⟩:∃D,BK ZS (t:Int)=D:=⟨_,rfl⟩
 rw[hDD]at hD hpl hDl;have hMg:=IV sh (Nl a I) D;have hMl:=OS sh (Nl a I) D;obtain⟨M,hM⟩:∃M,Cc sh (Nl a I) D=M:=⟨_,rfl⟩
 rw[hM]at hMg hMl;have hDa:=hD a (by omega);rw[gA]at hDa;obtain⟨s,hs⟩:∃s:Nat,D.getD a 0=s:=⟨(D.getD a 0).toNat,by omega⟩
 rw[hs]at hDa;have hsI:s<I.length:=by omega
 have hoth:∀i,i<sh.length->i≠a->M.getD i 0=D.getD i 0:=fun i hi hne=>by rw[hMg i hi];unfold Nl;rw[AH hne]
 have hat:M.getD a 0=((I.getD s 0:Nat):Int):=by rw[hMg a ha];unfold Nl;rw[AI rfl,hs];simp
 have hMin:GC sh M:=fun i hi=>by
  by_cases e:i=a
  .subst e;rw[hat,hn];have:=hI s hsI;omega
  .rw[hoth i hi e];have:=hD i (by omega);rwa [gZ i e]at this
 have hdrop:M.drop (a+1)=D.drop (a+1):=by
  apply List.ext_getElem
  .simp;omega
  .intro i h1 h2;have hi:a+1+i<sh.length:=by simp at h1;omega
   have:=hoth (a+1+i) hi (by omega);simp only[List.getElem_drop];simpa[List.getD,show a+1+i<M.length by omega,show a+1+i<D.length by omega]using this
 have hsp:=Ei sh M a ha;have hsd:=Ei ZS D a (by omega);have hP:BO sh M a=BO ZS D a:=by
  have key:∀j,j<=a->BO sh M j=BO ZS D j:=by
   intro j;induction j with
   |zero=>intro _;rfl
   |succ j ih=>
    intro hj;show BO sh M j*_+_=BO ZS D j*_+_;rw[ih (by omega),gZ j (by omega),hoth j (by omega) (by omega)]
  exact key a AC
 rw[hP,hat,hdrop,hn,hA]at hsp;rw[hpl,gA,hs,dZ,hA]at hsd;have hrest:GC (sh.drop (a+1)) (D.drop (a+1)):=fun i hi=>by
  have h0:a+1+i<sh.length:=by simp at hi;omega
  have:=hD (a+1+i) (by omega);rw[gZ _ (by omega)]at this;rw[Fm,Fm];exact this
 have hq:=Fp hrest;rw[hA]at hq;have hP0:=(GY hD a (by omega)).1;obtain⟨p,hp⟩:∃p:Nat,BO ZS D a=p:=⟨(BO ZS D a).toNat,by omega⟩
 obtain⟨q,hq'⟩:∃q:Nat,place (sh.drop (a+1)) (D.drop (a+1))=q:=⟨(place (sh.drop (a+1)) (D.drop (a+1))).toNat,by omega⟩
 rw[hp,hq']at hsd hsp;rw[hq']at hq;have hts:t=(p*I.length+s)*A+q:=by exact_mod_cast hsd
 obtain⟨e1,e2,e3⟩:=VZ hsI (show q<A by omega) hts;have hpm:place sh M=(((p*n+I.getD s 0)*A+q:Nat):Int):=by rw[hsp];push_cast;rfl
 unfold BP;rw[hDD,hM,AI (IX hMin _ AC),hpm,e1,e2,e3,DL]
def EM(sh':List Int):List Int:=if sh'= []then[1]else sh'
def C2(W:List Int)(fl:Bool):Nat:=if fl then 0 else W.length- 1
def GV(sh':List Int)(fl:Bool):Nat:=(EP (EM sh') fl).toNat
def KE(dt sh':List Int)(fl:Bool):Nat:=GX (GV sh' fl) dt.length
def Hs(dt sh':List Int)(fl:Bool):List Int:=(EM sh').set (C2 (EM sh') fl) (A5 dt (KE dt sh' fl))
def Aw(c d:Bool)(sh dt sh' dt':List Int)(fl:Bool):Ic:=if AJ c sh dt=true/\AJ d sh' dt'=true then
  if Ae c sh.length≠0 then AT (Ae c sh.length)
  else if GV sh' fl≠1/\dt.length≠1/\dt.length≠GV sh' fl then AT 5
  else if dt.all BE=false then AT 3
  else if 10000<A5 dt (KE dt sh' fl)\/Am (Hs dt sh' fl)=false then AT 7
  else⟨d,Hs dt sh' fl,Dz dt dt' (GV sh' fl) (Ev (EM sh') fl).toNat (KE dt sh' fl) (GL (EM sh') fl).toNat,0⟩
 else AT 3
section
variable {c d:Bool}{sh dt sh' dt':List Int}{fl:Bool}
def Vu(h:AJ c sh dt=false):Aw c d sh dt sh' dt' fl=AT 3:=by unfold Aw;rw[AH (by simp[h])]
def Vt(h:AJ d sh' dt'=false):Aw c d sh dt sh' dt' fl=AT 3:=by unfold Aw;rw[AH (by simp[h])]
def QA(h1:AJ c sh dt=true)(h2:AJ d sh' dt'=true)(r:Int)(hr:Ae c sh.length=r)(h0:r≠0):Aw c d sh dt sh' dt' fl=AT r:=by unfold Aw;rw[AI ⟨h1,h2⟩,hr,AI h0]
def TO(h1:AJ c sh dt=true)(h2:AJ d sh' dt'=true)(hr:Ae c sh.length=0)(hl:GV sh' fl≠1/\dt.length≠1/\dt.length≠GV sh' fl):Aw c d sh dt sh' dt' fl=AT 5:=by unfold Aw;rw[AI ⟨h1,h2⟩,AH (by simp[hr]),AI hl]
def TN(h1:AJ c sh dt=true)(h2:AJ d sh' dt'=true)(hr:Ae c sh.length=0)(hl:¬(GV sh' fl≠1/\dt.length≠1/\dt.length≠GV sh' fl))(hn:dt.all BE=false):Aw c d sh dt sh' dt' fl=AT 3:=by unfold Aw;rw[AI ⟨h1,h2⟩,AH (by simp[hr]),AH hl,AI hn]
def O1(h1:AJ c sh dt=true)(h2:AJ d sh' dt'=true)(hr:Ae c sh.length=0)(hl:¬(GV sh' fl≠1/\dt.length≠1/\dt.length≠GV sh' fl))(hn:dt.all BE=true)(hb:10000<A5 dt (KE dt sh' fl)\/Am (Hs dt sh' fl)=false):Aw c d sh dt sh' dt' fl=AT 7:=by unfold Aw;rw[AI ⟨h1,h2⟩,AH (by simp[hr]),AH hl,AH (by simp[hn]),AI hb]
def Vs(h1:AJ c sh dt=true)(h2:AJ d sh' dt'=true)(hr:Ae c sh.length=0)(hl:¬(GV sh' fl≠1/\dt.length≠1/\dt.length≠GV sh' fl))(hn:dt.all BE=true)(hb:¬(10000<A5 dt (KE dt sh' fl)\/Am (Hs dt sh' fl)=false)):Aw c d sh dt sh' dt' fl=⟨d,Hs dt sh' fl,Dz dt dt' (GV sh' fl) (Ev (EM sh') fl).toNat (KE dt sh' fl) (GL (EM sh') fl).toNat,0⟩:=by unfold Aw;rw[AI ⟨h1,h2⟩,AH (by simp[hr]),AH hl,AH (by simp[hn]),AH hb]
end
def By(op:Int)(c d:Bool)(sh dt sh' dt':List Int):Ic:=if(AJ c sh dt=true/\AJ d sh' dt'=true)/\1<=op/\op<=33 then
  if op<=16 then B8 op c d sh dt sh' dt'
  else if op=18 then Ca c d sh dt sh' dt'
  else if op=19 then FU c d sh dt sh' dt'
  else if op=20 then BV c d sh dt sh' dt'
  else if op=21 then CT c d sh dt sh' dt' false
  else if op=22 then CT c d sh dt sh' dt' true
  else if op=23 then BZ c d sh dt sh' dt'
  else if op=24 then Ib c d sh dt sh' dt'
  else if op=25 then I0 c d sh dt sh' dt'
  else if op=28 then Cz c d sh dt sh' dt'
  else if op=29 then Aw c d sh dt sh' dt' false
  else if op=30 then Aw c d sh dt sh' dt' true
  else if op=31 then C8 c d sh dt sh' dt'
  else if op=32 then CW c d sh dt sh' dt'
  else AT 1
 else AT 3
section
variable {op:Int}{c d:Bool}{sh dt sh' dt':List Int}
def Iz(h:¬((AJ c sh dt=true/\AJ d sh' dt'=true)/\1<=op/\op<=33)):By op c d sh dt sh' dt'=AT 3:=by unfold By;rw[AH h]
def XT(h1:AJ c sh dt=true)(h2:AJ d sh' dt'=true)(h3:1<=op)(h4:op<=16):By op c d sh dt sh' dt'=B8 op c d sh dt sh' dt':=by unfold By;rw[AI ⟨⟨h1,h2⟩,h3,by omega⟩,AI h4]
def DO(h1:AJ c sh dt=true)(h2:AJ d sh' dt'=true)(h3:16<op/\op<=33):By op c d sh dt sh' dt'=(if op=18 then Ca c d sh dt sh' dt' else if op=19 then FU c d sh dt sh' dt' else if op=20 then BV c d sh dt sh' dt' else if op=21 then CT c d sh dt sh' dt' false else if op=22 then CT c d sh dt sh' dt' true else if op=23 then BZ c d sh dt sh' dt' else if op=24 then Ib c d sh dt sh' dt' else if op=25 then I0 c d sh dt sh' dt' else if op=28 then Cz c d sh dt sh' dt' else if op=29 then Aw c d sh dt sh' dt' false else if op=30 then Aw c d sh dt sh' dt' true else if op=31 then C8 c d sh dt sh' dt' else if op=32 then CW c d sh dt sh' dt' else AT 1):=by unfold By;rw[AI ⟨⟨h1,h2⟩,by omega,h3.2⟩,AH (by omega)]
end
def QB(sh':List Int):EM sh'≠ []:=by unfold EM;split<;>simp_all
def Vr{d:Bool}{sh' dt':List Int}(h:AJ d sh' dt'=true):AJ d (EM sh') dt'=true:=by
 unfold EM;split
 .rename_i e
  subst e;simpa[AJ,Ac,Aj,Be]using h
 .exact h
def En{dt:List Int}(h:dt.all BE=true)(i:Nat):0<=Br dt i:=by
 unfold Br;rcases Nat.eq_zero_or_pos dt.length with h0|h0
 .have:=Af.mp h0;subst this;simp
 .have hl:=Nat.mod_lt i h0;have h1:=(A7.1 h) (dt.getD (i % dt.length) 0) (by simp only[List.getD,CK hl,EH];exact DV hl)
  simpa[BE]using h1
def Om{dt:List Int}(h:dt.all BE=true)(m:Nat):0<=A5 dt m:=by
 induction m with
 |zero=>exact Int.le_refl _
 |succ m ih=>have:=En h m;simp only[A5];omega
def JG{dt:List Int}(h:dt.all BE=true){i m:Nat}(hi:i<=m):A5 dt i<=A5 dt m:=by
 induction m with
 |zero=>
  have e:i=0:=Nat.le_zero.mp hi;rw[e];exact Int.le_refl _
 |succ m ih=>
  rcases Bz m i with h1|h1
  .obtain rfl:i=m+1:=by omega
   exact Int.le_refl _
  .have:=ih h1;have:=En h m;simp only[A5];omega
def NC(dt':List Int)(n A p i c:Nat):(DF dt' n A p i c).length<=c*A:=by
 induction c with
 |zero=>simp[DF]
 |succ c ih=>
  have:(c+1)*A=c*A+A:=by rw[Nat.add_mul,Nat.one_mul]
  simp only[DF,Dh,Eo,FE];omega
def Kp{dt:List Int}(h:dt.all BE=true)(dt':List Int)(n A p i:Nat):(Du dt dt' n A p i).length<=(A5 dt i).toNat*A:=by
 induction i with
 |zero=>simp[Du]
 |succ i ih=>
  have h1:=NC dt' n A p i (Br dt i).toNat;have h2:=En h i;have h3:=Om h i;simp only[Du,Dh,A5];rw[show(A5 dt i+Br dt i).toNat=(A5 dt i).toNat+(Br dt i).toNat by omega,Nat.add_mul];omega
def Rs{dt:List Int}(h:dt.all BE=true)(dt':List Int)(n A m p:Nat):(Dz dt dt' n A m p).length<=p*((A5 dt m).toNat*A):=by
 induction p with
 |zero=>simp[Dz]
 |succ p ih=>
  have h1:=Kp h dt' n A p m;have:(p+1)*((A5 dt m).toNat*A)=p*((A5 dt m).toNat*A)+(A5 dt m).toNat*A:=by rw[Nat.add_mul,Nat.one_mul]
  simp only[Dz,Dh];omega
def UN{dt:List Int}(h:dt.all BE=true)(dt':List Int){n A m p i c q:Nat}(hp:p<=10000)(hA:A<=10000)(hs:A5 dt m<=10000)(hi:i<=m)(hc:c<=10000):(DD dt dt' n A m p i c q).length<=2000000000000:=by
 have h1:=Rs h dt' n A m p;have h2:=Kp h dt' n A p i;have h3:=NC dt' n A p i c;have h4:=JG h hi;have h5:(A5 dt m).toNat*A<=10000*10000:=Nat.mul_le_mul (by omega) hA;have h6:p*((A5 dt m).toNat*A)<=10000*(10000*10000):=Nat.mul_le_mul hp h5;have h7:(A5 dt i).toNat*A<=10000*10000:=Nat.mul_le_mul (by omega) hA;have h8:c*A<=10000*10000:=Nat.mul_le_mul hc hA;have h9:((Eo dt' n A p i).take q).length<=A:=by unfold Eo;simp only[FE];omega
 unfold DD;simp only[Dh];omega
def TP(dt sh':List Int)(fl:Bool){L K:Nat}(hL:EP (EM sh') fl=(L:Int))(hK:dt.length=K):GV sh' fl=L/\KE dt sh' fl=if L=1 then K else L:=by
 have h1:GV sh' fl=L:=by unfold GV;rw[hL];simp
 refine⟨h1,?_⟩;unfold KE GX;rw[h1,hK]
def Vv(dt sh':List Int)(fl:Bool):Hs dt sh' fl=if fl=true then(EM sh').set 0 (A5 dt (KE dt sh' fl))else(EM sh').set ((EM sh').length- 1) (A5 dt (KE dt sh' fl)):=by unfold Hs C2;cases fl<;>rfl
def PS(I:List Nat)(j:Nat)(h:j<I.length):(I.map fun(n:Nat)=>(n:Int)+1).getD j 0- 1=((I.getD j 0:Nat):Int):=by simp[List.getD,h]
def Vc{zs:List Int}{fl:Bool}(hne:zs≠ [])(x:Int):AM (zs.set (C2 zs fl) x)=GL zs fl*x*Ev zs fl:=by
 have hl:0<zs.length:=CF.mpr hne;have hat:C2 zs fl<zs.length:=by unfold C2;split<;>omega
 have e0:C2 zs fl=CO zs fl:=by unfold C2 CO;rfl
 have hne':zs.set (C2 zs fl) x≠ []:=by intro e;have:=Gi List.length e;simp at this;exact hne this
 have h:=RN (zs.set (C2 zs fl) x) fl hne';have ea:CO (zs.set (C2 zs fl) x) fl=CO zs fl:=by unfold CO;simp
 rw[<-h];unfold GL EP Ev;rw[ea,<-e0];have h1:(zs.set (C2 zs fl) x).take (C2 zs fl)=zs.take (C2 zs fl):=by rw[List.take_set_of_le AC]
 have h2:(zs.set (C2 zs fl) x).drop (C2 zs fl+1)=zs.drop (C2 zs fl+1):=by rw[List.drop_set_of_lt (by omega)]
 have h3:(zs.set (C2 zs fl) x).getD (C2 zs fl) 0=x:=by simp[List.getD,hat]
 rw[h1,h2,h3]
def QC(dt dt':List Int)(n A B:Nat):Dz dt dt' n A 0 B= []:=by
 induction B with
 |zero=>rfl
 |succ B ih=>simp[Dz,Du,ih]
def Vq{d:Bool}{dt dt' zs:List Int}{fl:Bool}{B L A m N:Nat}(hne:zs≠ [])(hax:X7 zs fl B L A)(hprod:B*L*A=dt'.length)(hmL:0<m->0<L)(hS:Am (zs.set (C2 zs fl) ((Cr dt L m).length:Int))=true)(hN:AM (zs.set (C2 zs fl) ((Cr dt L m).length:Int))=(N:Int)):Dz dt dt' L A m B=Bg (BP d zs dt' (Nl (C2 zs fl) (Cr dt L m)) (zs.set (C2 zs fl) ((Cr dt L m).length:Int))) N:=by
 have hl:0<zs.length:=CF.mpr hne;have hat:C2 zs fl<zs.length:=by unfold C2;split<;>omega
 have hNe:(N:Int)=B*((Cr dt L m).length:Int)*A:=by rw[<-hN,Vc hne,hax.b,hax.a]
 have hNn:N=B*((Cr dt L m).length*A):=by rw[<-Nat.mul_assoc];exact_mod_cast hNe
 rcases Nat.eq_zero_or_pos m with h0|h0
 .subst h0;rw[QC];have:N=0:=by rw[hNn];simp[Cr]
  rw[this];rfl
 .have hL:=hmL h0;rw[UO hL hprod,<-hNn];unfold Bg;refine BG fun t ht=> ?_;have hf:F0 (zs.set (C2 zs fl) ((Cr dt L m).length:Int)):=FI (DE hS).1 (by rw[hN];omega);have e0:C2 zs fl=CO zs fl:=by unfold C2 CO;rfl
  have hn:zs.getD (C2 zs fl) 0=(L:Int):=by rw[e0];exact hax.l
  have hA:AM (zs.drop (C2 zs fl+1))=(A:Int):=by rw[e0];exact hax.a
  rw[SP (d:=d) (dt':=dt') hat hn hA (fun s hs=>by refine KF (dt:=dt) hL m _ ?_;simp only[List.getD,CK hs,EH];exact DV hs) hf t (by rw[hN];exact_mod_cast ht)]
def Ge(dt dt':List Int)(m j t q:Nat):Int:=if q % m<j\/(q % m=j/\q / m<t)then Cd dt (dt'.getD (q % m) 0) (q / m)else 0
def Ee(dt dt':List Int)(m j t:Nat):List Int:=(List.range (dt.length*m)).map (Ge dt dt' m j t)
def Sg(dt dt':List Int)(m j t:Nat):(Ee dt dt' m j t).length=dt.length*m:=by simp[Ee]
def Q0(dt dt':List Int)(m:Nat):Ee dt dt' m 0 0=List.replicate (dt.length*m) 0:=by
 have e:List.replicate (dt.length*m) (0:Int)=(List.range (dt.length*m)).map fun _=>0:=by rw[List.map_const'];simp
 rw[e];refine EK fun q hq=> ?_;unfold Ge;rw[AH (by rintro(h|⟨_,h⟩)<;>exact absurd h (ET _))]
def Q1(dt dt':List Int){m j t:Nat}(hj:j<m):(Ee dt dt' m j t).set (t*m+j) (Cd dt (dt'.getD j 0) t)=Ee dt dt' m j (t+1):=by
 obtain⟨e1,e2⟩:=RQ (i:=t) hj;unfold Ee;rw[Lq];refine EK fun q _=> ?_;by_cases e:q=t*m+j
 .rw[AI e];unfold Ge;rw[e,e1,e2,AI (.inr ⟨rfl,by omega⟩)]
 .rw[AH e];unfold Ge;have hq:=Nat.div_add_mod q m;by_cases h:q % m<j\/(q % m=j/\q / m<t)
  .rw[AI h,AI (h.imp id fun h=>⟨h.1,by omega⟩)]
  .rw[AH h,AH];rintro(h'|⟨h1,h2⟩)
   .exact h (.inl h')
   .by_cases h3:q / m<t
    .exact h (.inr ⟨h1,h3⟩)
    .have h4:q / m=t:=by omega
     rw[h4,h1,Nat.mul_comm]at hq;exact e hq.symm
def Sh(dt dt':List Int){m j:Nat}:Ee dt dt' m j dt.length=Ee dt dt' m (j+1) 0:=by
 refine EK fun q hq=> ?_;have hlt:=Nat.div_lt_of_lt_mul (show q<m*dt.length by rw[Nat.mul_comm];exact hq);unfold Ge;generalize q / m=x at*;generalize q % m=y at*;by_cases h:y<j+1
 .rw[AI (by omega),AI (.inl h)]
 .rw[AH (by omega),AH (by omega)]
def Si(dt dt':List Int)(m:Nat):Ee dt dt' m m 0=GT dt dt' m:=by
 refine EK fun q hq=> ?_;have hm:0<m:=by
  rcases Nat.eq_zero_or_pos m with h|h
  .subst h;simp at hq
  .exact h
 unfold Ge;rw[AI (.inl (Nat.mod_lt _ hm))]
def Uy{c d:Bool}{sh dt sh' dt':List Int}{n2 m2:Nat}(l2:dt.length=n2)(l4:dt'.length=m2)(h1:AJ c sh dt=true)(h2:AJ d sh' dt'=true)(h:Am (sh++sh')=true):Ac (sh++sh')=((n2*m2:Nat):Int)/\n2*m2<=10000:=by
 obtain⟨_,p1,_⟩:=AW h1;obtain⟨_,p2,_⟩:=AW h2;have hb:=(Ey _ h (sh++sh').length).2;rw[List.take_length]at hb;have e:AM (sh++sh')=((n2*m2:Nat):Int):=by rw[Bi,p1,p2,l2,l4,Int.natCast_mul]
 refine⟨by rw[<-Bs _ h];exact e,?_⟩;rw[e]at hb;omega
