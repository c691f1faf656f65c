import Derived.Test.YtgjpchnkodnieaaGreatDoorZ32
import Derived.Test.YtgjpchnkodnieaaGreatDoorZ38
set_option linter.defProp false
namespace Go.Proofs.YtgjpchnkodnieaaGreatDoor
open Go.RowKit Tryz
section
open Go.Shelf
def Wr(r:Int×Bool):G0 (BH r).2:=by
 unfold BH;split
 .exact .inl rfl
 .exact .inr (.inr rfl)
def UA(op a b:Int):G0 (BQ op a b).2:=by
 unfold BQ
 repeat' split
 all_goals first|exact Wr _|exact .inl rfl|exact .inr (.inl rfl)
def LD(op:Int)(c d:Bool)(x y:Int):G0 (Ef op c d x y).2:=by
 unfold Ef;split
 .exact .inl rfl
 .exact UA op x y
def KY{f g:Nat->Int×Int}{n:Nat}(h:∀k,k<n->f k=g k):Ay f n=Ay g n:=by
 induction n with
 |zero=>rfl
 |succ n ih=>simp only[Ay,ih (fun k hk=>h k (by omega)),h n (by omega)]
def Pq{f g:Nat->Int×Int}{n:Nat}(h:∀k,k<n->f k=g k):Bg f n=Bg g n:=by unfold Bg;apply EL;intro k hk;rw[h k (List.mem_range.mp hk)]
def Nm{c:Bool}{sh:List Int}{f g:Nat->Int×Int}{n:Nat}(h:∀k,k<n->f k=g k):Bc c sh f n=Bc c sh g n:=by unfold Bc;rw[KY h,Pq h]
def Ew(n:Nat):Nat:=if n=1 then 0 else 1
def VR(op:Int)(c d:Bool)(dt dt':List Int)(n2 m2 k:Nat):Int×Int:=Ef op c d (dt.getD (0+k*Ew n2) 0) (dt'.getD (0+k*Ew m2) 0)
def Qn{c d:Bool}{sh dt sh' dt':List Int}{n1 n2 m1 m2:Nat}(h2:dt.length=n2)(k2:dt'.length=m2)(hok:AJ c sh dt=true)(hok':AJ d sh' dt'=true)(hj:BT n1 n2 m1 m2 sh sh'=0):∃n:Nat,Am (Ba n1 n2 m1 m2 sh sh')=true/\Ac (Ba n1 n2 m1 m2 sh sh')=(n:Int)/\(n2=1\/n2=n)/\(m2=1\/m2=n):=by
 obtain⟨s1,s2⟩:=Fn hok;obtain⟨t1,t2⟩:=Fn hok';rw[h2]at s2;rw[k2]at t2;unfold Ba;by_cases hw:Cb n1 n2 m1 m2=true
 .rw[AI hw];have:n2=1:=by simp[Cb]at hw;exact hw.1
  exact⟨m2,t1,t2,.inl this,.inr rfl⟩
 .rw[AH hw];refine⟨n2,s1,s2,.inr rfl,?_⟩;by_cases hm:m2=1
  .exact .inl hm
  .right;unfold BT at hj;rw[AH (by simp[hw,hm])]at hj;split at hj
   .cases hj
   .split at hj
    .cases hj
    .rename_i hs
     have hs':sh=sh':=by simpa using hs
     rw[<-hs',s2]at t2;omega
def Ho{op:Int}{c d:Bool}{sh dt sh' dt':List Int}(h:¬(AJ c sh dt=true/\AJ d sh' dt'=true/\Gb op=true)):B8 op c d sh dt sh' dt'=AT 3:=by unfold B8;rw[AH h]
def Ow{op:Int}{c d:Bool}{sh dt sh' dt':List Int}(h:AJ c sh dt=true/\AJ d sh' dt'=true/\Gb op=true)(hj:BT sh.length dt.length sh'.length dt'.length sh sh'≠0):B8 op c d sh dt sh' dt'=AT (BT sh.length dt.length sh'.length dt'.length sh sh'):=by
 unfold B8;rw[AI h];unfold BT at hj ⊢;by_cases h0:Cb sh.length dt.length sh'.length dt'.length=true\/dt'.length=1
 .rw[AI h0]at hj;exact absurd rfl hj
 .rw[AH h0]at hj ⊢;simp only[not_or]at h0;have hw:Cb sh.length dt.length sh'.length dt'.length=false:=by simpa using h0.1
  simp only[hw,AK h0.2,Bool.false_and,Bool.not_false,Bool.and_self,true_and];by_cases hn:sh.length≠sh'.length
  .rw[AI hn,AI hn]
  .rw[AH hn]at hj;rw[AH hn,AH hn];by_cases hs:sh≠sh'
   .rw[AI hs,AI hs]
   .rw[AH hs]at hj;exact absurd rfl hj
def Rq{op:Int}{c d:Bool}{sh dt sh' dt':List Int}(h:AJ c sh dt=true/\AJ d sh' dt'=true/\Gb op=true)(hj:BT sh.length dt.length sh'.length dt'.length sh sh'=0):B8 op c d sh dt sh' dt'=if(c||d)=true/\GA op=false then AT 3 else Bc false (Ba sh.length dt.length sh'.length dt'.length sh sh') (fun i=>E9 op c dt (i % dt.length) d dt' (i % dt'.length)) (Ac (Ba sh.length dt.length sh'.length dt'.length sh sh')).toNat:=by
 unfold B8;rw[AI h];unfold BT at hj;unfold Ba;by_cases h0:Cb sh.length dt.length sh'.length dt'.length=true\/dt'.length=1
 .have hx:(!Cb sh.length dt.length sh'.length dt'.length&&!(decide (dt'.length=1)&&!Cb sh.length dt.length sh'.length dt'.length))=false:=by
   cases hw:Cb sh.length dt.length sh'.length dt'.length
   .rw[hw]at h0;simp at h0;simp[h0]
   .rfl
  simp only[hx,Bool.false_eq_true,false_and,Gh]
 .rw[AH h0]at hj;simp only[not_or]at h0;have hw:Cb sh.length dt.length sh'.length dt'.length=false:=by simpa using h0.1
  by_cases hn:sh.length≠sh'.length
  .rw[AI hn]at hj;cases hj
  .rw[AH hn]at hj;by_cases hs:sh≠sh'
   .rw[AI hs]at hj;cases hj
   .simp only[hn,hs,and_false,Gh]
def YD{op:Int}{c d:Bool}{dt dt':List Int}{n2 m2 n:Nat}(h2:dt.length=n2)(k2:dt'.length=m2)(hn:n2=1\/n2=n)(hm:m2=1\/m2=n):∀k,k<n->(fun i=>E9 op c dt (i % dt.length) d dt' (i % dt'.length)) k=VR op c d dt dt' n2 m2 k:=by
 intro k hk;have e1:k % n2=0+k*Ew n2:=by
  unfold Ew;by_cases h:n2=1
  .subst h;simp;omega
  .rw[AH h];have:n2=n:=by omega
   subst this;rw[Nat.mod_eq_of_lt hk];omega
 have e2:k % m2=0+k*Ew m2:=by
  unfold Ew;by_cases h:m2=1
  .subst h;simp;omega
  .rw[AH h];have:m2=n:=by omega
   subst this;rw[Nat.mod_eq_of_lt hk];omega
 show E9 op c dt (k % dt.length) d dt' (k % dt'.length)=_;rw[h2,k2,e1,e2];rfl
def JH{n2 n k:Nat}(hn:n2=1\/n2=n)(hk:k<n):0+k*Ew n2<n2:=by
 unfold Ew;by_cases h:n2=1
 .subst h;simp
 .rw[AH h];omega
end
