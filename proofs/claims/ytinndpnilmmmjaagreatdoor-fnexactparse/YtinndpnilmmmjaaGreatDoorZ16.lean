import Derived.Test.YtinndpnilmmmjaaGreatDoorZ14
import Derived.Test.YtinndpnilmmmjaaGreatDoorZ12
import Derived.Lib.OthersKept
set_option maxRecDepth 100000
set_option maxHeartbeats 4000000
set_option linter.defProp false
namespace Go.Proofs.YtinndpnilmmmjaaGreatDoor
open Go.RowKit Tryz
def Np(z:Int)(hv:Lib.validRune z=true)(w:World):Calls prog 239 #[.int .i32 z] w fun e w'=>e=.returned (.bool true)/\w'=w:=by
 have h:(0<=z/\z<55296)\/(57343<z/\z<=1114111):=by unfold Lib.validRune at hv;exact AT hv
 clear hv;go_enter func239,ntmps239
 go_wp2
 all_goals first|(exfalso;omega)|(go_ret;exact⟨rfl,rfl⟩)
def QK{s:AE}{q:Nat}(h2:q<=s.size)(W:World):(Instr.slice 9 (.string s) (some (.int .i64 (q:Nat))) none none).run prog W=.ok (.string (s.extract q s.size)) W:=by
 have h3:(q:Int)<=(s.size:Int):=by omega
 go_simp
def Qv(s:AE)(c:Int)(w:World):Calls prog 238 #[.string s,.int .u8 c] w fun e w'=>e=.returned (.int .i64 (Lib.indexByte s.data.toList c.toNat.toUInt8))/\w'=w:=Any.strings_IndexByte (P:=prog) (ρ:=Tryz.containsS_ren) {Tryz.containsS with} s c w
def L9(k:Int)(h0:0<=k)(hk:k<=1000000)(w:World):Calls prog 227 #[.int .i64 k] w fun e w'=>e=.returned (.int .i64 ((k+16) / 8))/\w'=w:=Any.bytealg_Cutover (P:=prog) (ρ:=Tryz.containsS_ren) {Tryz.containsS with} k h0 (by omega) w
def G3{P:Program}{Q:Exit->Act->World->Prop}{a:Act}{w:World}{c rest:Code}(l:Nat)(hf:findLabel c l=some rest)(first:c.wp P (Exit.jump l (fun a w=>rest.wp P (Exit.noGoto Q) a w) Q) a w):(Code.scope c).wp P Q a w:=wp_scope_jumps l (fun a w=>rest.wp P (Exit.noGoto Q) a w) (fun _ _=>0) hf first fun _ _ h=>Code.wp_mono (fun e _ _ hq=>by cases e<;>first|exact hq|exact hq.elim) h
section
variable {J:Act->World->Prop}{Q:Exit->Act->World->Prop}{a:Act}{w:World}{l:Nat}
def Qp:Exit.jump l J Q .normal a w=Q .normal a w:=rfl
def VC(id:Nat):Exit.jump l J Q (.exit id) a w=Q (.exit id) a w:=rfl
def Qo:Exit.jump l J Q .ret a w=Q .ret a w:=rfl
def GA(id:Nat):Exit.inBlock id Q .normal a w=Q .normal a w:=rfl
def Qu(id:Nat):Exit.inBlock id Q .ret a w=Q .ret a w:=rfl
def V1{K:Act->World->Prop}:Exit.then K Q .ret a w=Q .ret a w:=rfl
end
attribute [local go_sem] Qp VC Qo
def NN(s rs:AE)(L c:Nat)(z:Int)(w:World)(hv:128<=z)(hv2:z≠65533)(hval:Lib.validRune z=true)(hrs:Utf8.encode z=rs)(hL:rs.size=L+1)(hL1:1<=L)(hL3:L<=3)(hc:bt rs L=c)(hs:s.size<=100000)(hcut:∀i,i<s.size->RJ s c i<=(i+16) / 8):Calls prog 214 #[.string s,.int .i32 z] w fun e w'=>∃n:Int,e=.returned (.int .i64 n)/\(0<=n↔∃k,Mt s rs L k)/\Below w.heap.size w w':=by
 have HL:=AB hL;have HRS:=AB hrs;have HC:=AB hc;have HCUT:=AB hcut;have HV:=AB (Np z hval);have a0:0<=z:=by omega
 have a1:¬ z<128:=by omega
 have a2:¬ z=65533:=by omega
 clear hL hrs hc hcut hval hv hv2;go_enter func214,ntmps214;go_wp2_with(go_at_call 239;refine(AA HV _).mono ?_;rintro e w5⟨rfl,hw5⟩;rw[hw5];clear hw5)
 go_step3
 go_wp2_with fail;rw[AA HRS];have hl8:wrap64 (((rs.size:Nat):Int)- 1)=(L:Nat):=by have:=AA HL;unfold wrap64;omega
 rw[hl8];clear hl8;go_loopw[9,10] (fun i f wr=>∃(k fl q:Nat),i=.int .i64 (k:Nat)/\f=.int .i64 (fl:Nat)/\wr=w.drewN q/\L<=k/\k<=s.size+4/\fl<=k/\Hid (fl<=RJ s c k/\∀m,m<k->¬ Mt s rs L m)) (fun i _ _=>(s.size+4- (intOf i)).toNat);case atStart=>
  exact⟨L,0,0,rfl,rfl,rfl,AC,by omega,by omega,AB ⟨AZ _,fun m hm h=>by have:=h.1;omega⟩⟩
 case round=>
  obtain⟨k,fl,q,rfl,rfl,rfl,hLk,hkz,hfk,HI⟩:=hrel;by_cases hk:k<s.size;case neg=>
   have hki:¬(k:Int)<(s.size:Int):=by omega
   go_wp2_with fail;go_ret;exact⟨-1,rfl,⟨fun h=>absurd h (by decide),fun⟨m,hm⟩=>absurd hm ((AA HI).2 m (by have:=hm.2.1;omega))⟩,Below.drewN AI _⟩
  have hki:(k:Int)<(s.size:Int):=by omega
  have hi2:∀W,(Instr.index 9 (.string rs) (.int .i64 (L:Nat))).run prog W=.ok (.int .u8 (c:Nat)) W:=fun W=>(AA HC)▸C5 (by have:=AA HL;omega) W;have hc8:c<256:=by rw[<-AA HC];exact GR _ _
  by_cases hbc:bt s k=c;case pos=>
   have hi1:∀W,(Instr.index 9 (.string s) (.int .i64 (k:Nat))).run prog W=.ok (.int .u8 (c:Nat)) W:=fun W=>hbc▸C5 hk W;have HBC:=AB hbc;clear hbc;go_wp2_with fail;refine G3 0 rfl ?_;go_wp2_with fail;go_quiet(fail);go_wp2_with fail;clear hi1 hi2;obtain⟨K,hK⟩:∃K,K=k:=⟨_,rfl⟩
   have HIK:Hid (fl<=RJ s c K/\bt s K=c/\∀m,m<K->¬ Mt s rs L m):=by rw[hK];exact AB ⟨(AA HI).1,AA HBC,(AA HI).2⟩
   have hol:K<s.size:=by rw[hK];exact hk
   have hKL:L<=K:=by rw[hK];exact hLk
   have hfK:fl<=K:=by rw[hK];exact hfk
   have hkK:k<=K:=by omega
   rw[<-hK];clear hK;go_loopw[12] (fun u wr=>∃(j:Nat),u=.int .i64 (j:Nat)/\(∃q1,wr=w.drewN q1)/\1<=j/\j<=L+1/\Hid (∀t,t<j->bt s (K- t)=bt rs (L- t))) (fun u _=>(L+1- (intOf u)).toNat);case atStart=>
    refine⟨1,rfl,?_,AC,by omega,AB fun t ht=> ?_⟩
    .first|exact⟨_,rfl⟩|(simp only[World.drewN_drewN];exact⟨_,rfl⟩)
    .obtain rfl:t=0:=by omega
     rw[Ei,Ei,AA HC];exact(AA HIK).2.1
   case round=>
    obtain⟨j,rfl,⟨q1,rfl⟩,hj1,hjL,HJ⟩:=hrel;by_cases hj:j<L+1;case neg=>
     have hji:¬(j:Int)<(rs.size:Int):=by have:=AA HL;omega
     go_wp2_with fail;rw[Exit.noGoto_ret];go_ret;refine⟨(K:Int)- L,by go_num,⟨fun _=>⟨K,hKL,hol,fun t ht=>AA HJ t (by omega)⟩,fun _=>by omega⟩,Below.drewN AI _⟩
    have hji:(j:Int)<(rs.size:Int):=by have:=AA HL;omega
    obtain⟨x,hx⟩:∃x,K- j=x:=⟨_,rfl⟩
    obtain⟨y,hy⟩:∃y,L- j=y:=⟨_,rfl⟩
    have ex:(K:Int)- (j:Int)=(x:Int):=by omega
    have ey:(L:Int)- (j:Int)=(y:Int):=by omega
    have hwx:IntKind.i64.wrap (x:Int)=(x:Int):=by rw[IntKind.wrap_i64];omega
    have hwy:IntKind.i64.wrap (y:Int)=(y:Int):=by rw[IntKind.wrap_i64];omega
    have HX:=AB hx;have HY:=AB hy;have hiy:∀W,(Instr.index 9 (.string rs) (.int .i64 (y:Nat))).run prog W=.ok (.int .u8 (bt rs y:Nat)) W:=fun W=>C5 (by have:=AA HL;omega) W;have hix:∀W,(Instr.index 9 (.string s) (.int .i64 (x:Nat))).run prog W=.ok (.int .u8 (bt s x:Nat)) W:=fun W=>C5 (by omega) W;clear hx hy;by_cases hxy:bt s x=bt rs y;case pos=>
     have HXY:=AB hxy;rw[hxy]at hix;clear hxy;obtain⟨b,hb⟩:∃b,bt rs y=b:=⟨_,rfl⟩
     simp only[hb]at hix hiy;clear hb;go_wp2_with fail;go_quiet(fail);go_wp2_with fail;clear ex ey hwx hwy hix hiy;go_roundw;case rel=>
      refine⟨j+1,by go_num,?_,by omega,by omega,AB fun t ht=> ?_⟩
      .first|exact⟨_,rfl⟩|(simp only[World.drewN_drewN];exact⟨_,rfl⟩)
      .by_cases e:t=j
       .rw[e,AA HX,AA HY];exact AA HXY
       .exact AA HJ t (by omega)
     case measure=>simp[intOf];omega
    have hxyi:¬((bt s x:Nat):Int)=((bt rs y:Nat):Int):=by omega
    obtain⟨b,hb⟩:∃b,bt rs y=b:=⟨_,rfl⟩
    obtain⟨b2,hb2⟩:∃b,bt s x=b:=⟨_,rfl⟩
    have HNO:Hid (¬ Mt s rs L K):=AB fun h=>hxy (by rw[<-AA HX,<-AA HY];exact h.2.2 j (by omega));rw[hb,hb2]at hxyi;simp only[hb,hb2]at hix hiy;clear hb hb2 hxy;have HCV:=AB (fun W=>L9 ((K:Int)+1) (by omega) (by omega) W);have HNX:Hid (fl+1<=RJ s c (K+1)/\∀m,m<K+1->¬ Mt s rs L m):=by
     refine AB ⟨Tv AC (AA HIK).2.1 (AA HIK).1,fun m hm=> ?_⟩;by_cases e:m=K
     .rw[e];exact AA HNO
     .exact(AA HIK).2.2 m (by omega)
    by_cases hend:K+1<s.size
    .have hei:(K:Int)+1<(s.size:Int):=by omega
     have hcv:¬((K:Int)+1+16) / 8<(fl:Int)+1:=by have h1:=AA HCUT (K+1) hend;have h2:=(AA HNX).1;omega
     go_wp2_with fail;go_quiet(fail);go_wp2_with fail;refine wp_goto (And.intro rfl ?_);go_wp2_with(go_at_call 227;refine(AA HCV _).mono ?_;rintro e w5⟨rfl,hw5⟩;rw[hw5];clear hw5);all_goals first
      |exact⟨⟨K+1,fl+1,_,by go_num,by go_num,rfl,by omega,by omega,by omega,HNX⟩,by simp[intOf];omega⟩
      |(rw[Exit.noGoto_normal,GA];go_roundw;(case rel=>exact⟨K+1,fl+1,_,by go_num,by go_num,rfl,by omega,by omega,by omega,HNX⟩);(case measure=>simp[intOf];omega))
    .have hei:¬(K:Int)+1<(s.size:Int):=by omega
     by_cases hcv:((K:Int)+1+16) / 8<(fl:Int)+1
     .go_wp2_with fail;go_quiet(fail);go_wp2_with fail;refine wp_goto (And.intro rfl ?_);go_wp2_with(go_at_call 227;refine(AA HCV _).mono ?_;rintro e w5⟨rfl,hw5⟩;rw[hw5];clear hw5);rw[Exit.noGoto_normal,GA];change _/\_
      go_big_round
      all_goals exact⟨⟨K+1,fl+1,_,by go_num,by go_num,rfl,by omega,by omega,by omega,HNX⟩,by simp[intOf];omega⟩
     .go_wp2_with fail;go_quiet(fail);go_wp2_with fail;refine wp_goto (And.intro rfl ?_);go_wp2_with(go_at_call 227;refine(AA HCV _).mono ?_;rintro e w5⟨rfl,hw5⟩;rw[hw5];clear hw5);all_goals exact⟨⟨K+1,fl+1,_,by go_num,by go_num,rfl,by omega,by omega,by omega,HNX⟩,by simp[intOf];omega⟩
  have hi1:∀W,(Instr.index 9 (.string s) (.int .i64 (k:Nat))).run prog W=.ok (.int .u8 (bt s k:Nat)) W:=fun W=>C5 hk W;have hne:¬((bt s k:Nat):Int)=((c:Nat):Int):=by omega
  obtain⟨b1,hb1⟩:∃b,bt s k=b:=⟨_,rfl⟩
  have HB1:=AB hb1;have HNE:=AB hbc;rw[hb1]at hne;simp only[hb1]at hi1;clear hb1 hbc;obtain⟨m,hm⟩:∃m,k+1=m:=⟨_,rfl⟩
  have HM:=AB hm;have em:(k:Int)+1=(m:Int):=by omega
  have hms:m<=s.size:=by omega
  have hwm:IntKind.i64.wrap (m:Int)=(m:Int):=by rw[IntKind.wrap_i64];omega
  have hsl:∀W,(Instr.slice 9 (.string s) (some (.int .i64 (m:Nat))) none none).run prog W=.ok (.string (s.extract (k+1) s.size)) W:=fun W=>hm▸QK (by omega) W;clear hm;have HIB:Hid (∀W,Calls prog 238 #[.string (s.extract (k+1) s.size),.int .u8 (c:Nat)] W fun e w'=>e=.returned (.int .i64 (Lib.indexByte (s.extract (k+1) s.size).data.toList (((c:Nat):Int).toNat.toUInt8)))/\w'=W):=AB fun W=>Qv _ _ W;rcases Lib.indexByte_piece s (k+1) s.size (((c:Nat):Int).toNat.toUInt8)with hib|⟨o,hib,hol⟩
  .have HN:=AB (Xy hib);rw[hib]at HIB;clear hib;obtain⟨x,hx⟩:∃x,s.extract (k+1) s.size=x:=⟨_,rfl⟩
   rw[hx]at HIB;simp only[hx]at hsl;clear hx;go_wp2_with fail;refine G3 0 rfl ?_;go_wp2_with fail;go_quiet(fail);go_wp2_with fail;go_quiet(first|(go_at_call 238;exact(AA HIB _).mono (fun e w'⟨he,hw⟩=>⟨he,_,hw⟩)));go_wp2_with fail;simp (config:= {zetaDelta:=true}) only[Qo,Qu,V1,Exit.noGoto_ret];go_ret;refine⟨-1,rfl,⟨fun h=>absurd h (by decide),fun⟨m,hm⟩=> ?_⟩,by first|exact Below.drewN AI _|exact Below.drewN (Below.drewN (Below.drewN AI _) _) _⟩;by_cases hmk:m<k
   .exact absurd hm ((AA HI).2 m hmk)
   .have Iz:=hm.2.2 0 (AZ _);rw[Ei,Ei,AA HC]at Iz;by_cases e:m=k
    .rw[e]at Iz;exact absurd Iz (AA HNE)
    .exact absurd Iz (AA HN m (by omega) hm.2.1)
  .have HN:=AB (Xx hc8 hol hib);rw[hib]at HIB;clear hib;obtain⟨x,hx⟩:∃x,s.extract (k+1) s.size=x:=⟨_,rfl⟩
   rw[hx]at HIB;simp only[hx]at hsl;clear hx;go_wp2_with fail;refine G3 0 rfl ?_;go_wp2_with fail;go_quiet(fail);go_wp2_with fail;obtain⟨K,hK⟩:∃K,k+1+o=K:=⟨_,rfl⟩
   rw[hK]at hol HN;have eK:(k:Int)+((o:Int)+1)=(K:Int):=by omega
   have hwK:IntKind.i64.wrap (K:Int)=(K:Int):=by rw[IntKind.wrap_i64];omega
   have hkK:k<K:=by omega
   have HIK:Hid (fl<=RJ s c K/\bt s K=c/\∀m,m<K->¬ Mt s rs L m):=by
    refine AB ⟨?_,(AA HN).1,fun m hm hM=> ?_⟩
    .have h1:=Nf s c k (K- k);rw[show k+(K- k)=K by omega]at h1;have h2:=(AA HI).1;omega
    .by_cases hmk:m<k
     .exact(AA HI).2 m hmk hM
     .have Iz:=hM.2.2 0 (AZ _);rw[Ei,Ei,AA HC]at Iz;by_cases e:m=k
      .rw[e]at Iz;exact absurd Iz (AA HNE)
      .exact absurd Iz ((AA HN).2 m (by omega) hm)
   clear hK;go_quiet(first|(go_at_call 238;exact(AA HIB _).mono (fun e w'⟨he,hw⟩=>⟨he,_,hw⟩)));go_wp2_with fail;clear hi1 hi2 hsl em hne eK hwm;have hKL:L<=K:=by omega
   have hfK:fl<=K:=by omega
   go_loopw[12] (fun u wr=>∃(j:Nat),u=.int .i64 (j:Nat)/\(∃q1,wr=w.drewN q1)/\1<=j/\j<=L+1/\Hid (∀t,t<j->bt s (K- t)=bt rs (L- t))) (fun u _=>(L+1- (intOf u)).toNat);case atStart=>
    refine⟨1,rfl,?_,AC,by omega,AB fun t ht=> ?_⟩
    .first|exact⟨_,rfl⟩|(simp only[World.drewN_drewN];exact⟨_,rfl⟩)
    .obtain rfl:t=0:=by omega
     rw[Ei,Ei,AA HC];exact(AA HIK).2.1
   case round=>
    obtain⟨j,rfl,⟨q1,rfl⟩,hj1,hjL,HJ⟩:=hrel;by_cases hj:j<L+1;case neg=>
     have hji:¬(j:Int)<(rs.size:Int):=by have:=AA HL;omega
     go_wp2_with fail;rw[Exit.noGoto_ret];go_ret;refine⟨(K:Int)- L,by go_num,⟨fun _=>⟨K,hKL,hol,fun t ht=>AA HJ t (by omega)⟩,fun _=>by omega⟩,Below.drewN AI _⟩
    have hji:(j:Int)<(rs.size:Int):=by have:=AA HL;omega
    obtain⟨x,hx⟩:∃x,K- j=x:=⟨_,rfl⟩
    obtain⟨y,hy⟩:∃y,L- j=y:=⟨_,rfl⟩
    have ex:(K:Int)- (j:Int)=(x:Int):=by omega
    have ey:(L:Int)- (j:Int)=(y:Int):=by omega
    have hwx:IntKind.i64.wrap (x:Int)=(x:Int):=by rw[IntKind.wrap_i64];omega
    have hwy:IntKind.i64.wrap (y:Int)=(y:Int):=by rw[IntKind.wrap_i64];omega
    have HX:=AB hx;have HY:=AB hy;have hiy:∀W,(Instr.index 9 (.string rs) (.int .i64 (y:Nat))).run prog W=.ok (.int .u8 (bt rs y:Nat)) W:=fun W=>C5 (by have:=AA HL;omega) W;have hix:∀W,(Instr.index 9 (.string s) (.int .i64 (x:Nat))).run prog W=.ok (.int .u8 (bt s x:Nat)) W:=fun W=>C5 (by omega) W;clear hx hy;by_cases hxy:bt s x=bt rs y;case pos=>
     have HXY:=AB hxy;rw[hxy]at hix;clear hxy;obtain⟨b,hb⟩:∃b,bt rs y=b:=⟨_,rfl⟩
     simp only[hb]at hix hiy;clear hb;go_wp2_with fail;go_quiet(fail);go_wp2_with fail;clear ex ey hwx hwy hix hiy;go_roundw;case rel=>
      refine⟨j+1,by go_num,?_,by omega,by omega,AB fun t ht=> ?_⟩
      .first|exact⟨_,rfl⟩|(simp only[World.drewN_drewN];exact⟨_,rfl⟩)
      .by_cases e:t=j
       .rw[e,AA HX,AA HY];exact AA HXY
       .exact AA HJ t (by omega)
     case measure=>simp[intOf];omega
    have hxyi:¬((bt s x:Nat):Int)=((bt rs y:Nat):Int):=by omega
    obtain⟨b,hb⟩:∃b,bt rs y=b:=⟨_,rfl⟩
    obtain⟨b2,hb2⟩:∃b,bt s x=b:=⟨_,rfl⟩
    have HNO:Hid (¬ Mt s rs L K):=AB fun h=>hxy (by rw[<-AA HX,<-AA HY];exact h.2.2 j (by omega));rw[hb,hb2]at hxyi;simp only[hb,hb2]at hix hiy;clear hb hb2 hxy;have HCV:=AB (fun W=>L9 ((K:Int)+1) (by omega) (by omega) W);have HNX:Hid (fl+1<=RJ s c (K+1)/\∀m,m<K+1->¬ Mt s rs L m):=by
     refine AB ⟨Tv AC (AA HIK).2.1 (AA HIK).1,fun m hm=> ?_⟩;by_cases e:m=K
     .rw[e];exact AA HNO
     .exact(AA HIK).2.2 m (by omega)
    by_cases hend:K+1<s.size
    .have hei:(K:Int)+1<(s.size:Int):=by omega
     have hcv:¬((K:Int)+1+16) / 8<(fl:Int)+1:=by have h1:=AA HCUT (K+1) hend;have h2:=(AA HNX).1;omega
     go_wp2_with fail;go_quiet(fail);go_wp2_with fail;refine wp_goto (And.intro rfl ?_);go_wp2_with(go_at_call 227;refine(AA HCV _).mono ?_;rintro e w5⟨rfl,hw5⟩;rw[hw5];clear hw5);all_goals first
      |exact⟨⟨K+1,fl+1,_,by go_num,by go_num,rfl,by omega,by omega,by omega,HNX⟩,by simp[intOf];omega⟩
      |(rw[Exit.noGoto_normal,GA];go_roundw;(case rel=>exact⟨K+1,fl+1,_,by go_num,by go_num,rfl,by omega,by omega,by omega,HNX⟩);(case measure=>simp[intOf];omega))
    .have hei:¬(K:Int)+1<(s.size:Int):=by omega
     by_cases hcv:((K:Int)+1+16) / 8<(fl:Int)+1
     .go_wp2_with fail;go_quiet(fail);go_wp2_with fail;refine wp_goto (And.intro rfl ?_);go_wp2_with(go_at_call 227;refine(AA HCV _).mono ?_;rintro e w5⟨rfl,hw5⟩;rw[hw5];clear hw5);rw[Exit.noGoto_normal,GA];change _/\_
      go_big_round
      all_goals exact⟨⟨K+1,fl+1,_,by go_num,by go_num,rfl,by omega,by omega,by omega,HNX⟩,by simp[intOf];omega⟩
     .go_wp2_with fail;go_quiet(fail);go_wp2_with fail;refine wp_goto (And.intro rfl ?_);go_wp2_with(go_at_call 227;refine(AA HCV _).mono ?_;rintro e w5⟨rfl,hw5⟩;rw[hw5];clear hw5);all_goals exact⟨⟨K+1,fl+1,_,by go_num,by go_num,rfl,by omega,by omega,by omega,HNX⟩,by simp[intOf];omega⟩
def OG(s:AE)(z:Int)(b:Bool)(W:World)(h:Calls prog 214 #[.string s,.int .i32 z] W fun e w'=>∃n:Int,e=.returned (.int .i64 n)/\decide (0<=n)=b/\Below W.heap.size W w'):Calls prog 190 #[.string s,.int .i32 z] W fun e w'=>e=.returned (.bool b)/\Below W.heap.size W w':=by have H:=AB h;clear h;go_enter func190,ntmps190;go_wp2_with(go_at_call 214;refine(AA H).mono ?_;rintro e w5⟨n,rfl,hn,hb5⟩;have HB5:=AB hb5;have HN:=AB hn;clear hb5 hn);go_ret;exact⟨AN (by rw[<-AA HN]),AA HB5⟩
def OF(v:Nat)(hv:128<=v)(hv2:v≠65533)(hval:Utf8.valid (v:Int)=true)(W:World):Calls prog 190 #[.string Kf,.int .i32 (v:Int)] W fun e w'=>e=.returned (.bool (decide (v∈Ar)))/\Below W.heap.size W w':=by
 obtain⟨L,hW⟩:=Yr hval hv;have hvr:Lib.validRune (v:Int)=true:=by rw[I6]at hval;unfold E0 at hval;have:=AT hval;unfold Lib.validRune;exact AK (by omega)
 have hsz:Kf.size<=100000:=by
  have:Kf.size=111:=by kernel_rfl
  omega
 have h:=NN Kf (Utf8.encode (v:Int)) L (bt (Utf8.encode (v:Int)) L) (v:Int) W (by omega) (by omega) hvr rfl hW.size hW.lo hW.hi rfl hsz (fun i hi=>ZC hW.last.1 hW.last.2 i hi);refine OG Kf (v:Int) _ W (h.mono ?_);rintro e w'⟨n,he,hn,hb⟩;exact⟨n,he,BQ.2 (hn.trans (ZB hW hv2)),hb⟩
def R0:Oy fun v=>decide (v∈Ar):=by
 intro sg v W hsg hval;rw[hsg];by_cases h1:v<128
 .exact Ne v h1 W
 .by_cases h2:v=65533
  .rw[h2];exact P2 W
  .exact OF v (by omega) h2 hval W
def QT(s:AE)(i:Nat)(w:World)(hi:i<s.size)(hT:Fu w):Calls prog 156 #[.string (s.extract i s.size)] w fun e w'=>e=.returned (Lx (Ea s i) i)/\Below w.heap.size w w':=by
 have hts:(s.extract i s.size).size=s.size- i:=A4 s i;have hd:Utf8.decode (s.extract i s.size) 0=Utf8.decode s i:=Hy (i:=i) (j:=0) hi;have hw:=CA hi;have h:=QS (fun v=>decide (v∈Ar)) R0 (s.extract i s.size) w (by omega) (by rw[hd];omega) hT;refine h.mono ?_;rintro e w'⟨he,hb⟩;refine⟨?_,hb⟩;rw[he,hd];congr 1;unfold Ea Lx;by_cases hg:Utf8.decode s i=(65533,1)
 .rw[D4 hg,hg,AG (by decide),AG (by simp)];show _=Bx 0 0 ⟨#[]⟩ (0- i) 1;rw[FL]
 .have hr:Am s i=Utf8.decode s i:=by unfold Am;rw[AG hg]
  have hp:=Lib.decode_width_pos s i hi;rw[hr];by_cases hm:(Utf8.decode s i).1∈Ar
  .rw[AL (AK hm),AL ⟨hp,hm⟩];show Bx 4 0 _ _ 0=Bx 4 0 (s.extract i (i+(Utf8.decode s i).2)) (i+(Utf8.decode s i).2- i) 0;rw[Om,C1]
  .rw[AG (by simpa using hm),AG (fun h=>hm h.2)];show _=Bx 0 0 ⟨#[]⟩ (0- i) 1;rw[FL]
def QR(s:AE)(i:Nat)(w:World)(hi:i<s.size)(hs:s.size<=1000000000000)(hT:Fu w):Calls prog 153 #[.string (s.extract i s.size)] w fun e w'=>e=.returned (Lx (BF s (s.size- i) (i+1) []) i)/\Below w.heap.size w w':=by
 have hts:(s.extract i s.size).size=s.size- i:=A4 s i;have h:=PK (s.extract i s.size) w (by omega) (by omega) hT;refine h.mono ?_;rintro e w'⟨he,hb⟩;refine⟨?_,hb⟩;rw[he];congr 1;rw[LO (s.size- i) ((s.extract i s.size).size+1) 1 [] (by omega) (by omega) (by omega),MT (s:=s) (i:=i) (s.size- i) 1 [],Px (s.size- i) 1 [] (by omega) rfl];cases Ju (s.extract i s.size) (s.size- i) 1 []with
 |none=>
  show Bx 0 0 ⟨#[]⟩ 0 1=Lx (J7 i (Di 1)) i;rw[IM];show _=Bx 0 0 ⟨#[]⟩ (0- i) 1;rw[FL]
 |some x=>
  obtain⟨e1,o⟩:=x;show(if Lib.validD o=true then Bx 2 0 ⟨o.toArray⟩ e1 0 else Bx 0 0 ⟨#[]⟩ 0 1)=Lx (J7 i (if Lib.validD o=true then⟨2,0,⟨o.toArray⟩,e1,0⟩else Di 1)) i;by_cases hv:Lib.validD o=true
  .rw[AL hv,AL hv];unfold J7;rw[AL rfl];show _=Bx 2 0 ⟨o.toArray⟩ (e1+i- i) 0;rw[Nat.add_sub_cancel]
  .rw[AG hv,AG hv,IM];show _=Bx 0 0 ⟨#[]⟩ (0- i) 1;rw[FL]
def TD(s:AE):Nat->Nat->Nat->Prop
 |0,p,m=>p=m
 |f+1,p,m=>p=m\/(p<s.size/\TD s f (p+(Utf8.decode s p).2) m)
def Et(s:AE)(p m:Nat):Prop:=∃f,TD s f p m
def Et.here{s:AE}(p:Nat):Et s p p:=⟨0,rfl⟩
def Et.step{s:AE}{p m:Nat}(h:p<s.size)(r:Et s (p+(Utf8.decode s p).2) m):Et s p m:=by obtain⟨f,hf⟩:=r;exact⟨f+1,.inr ⟨h,hf⟩⟩
def OS{s:AE}:∀(f:Nat){p m:Nat},TD s f p m->p<=m
 |0,_,_,h=>Nat.le_of_eq h
 |f+1,p,m,h=>by
  rcases h with h|⟨_,h⟩
  .omega
  .have:=OS f h;omega
def Et.le{s:AE}{p m:Nat}(h:Et s p m):p<=m:=by obtain⟨f,hf⟩:=h;exact OS f hf
def Et.next{s:AE}{p m:Nat}(h:Et s p m)(hne:p≠m):p<s.size/\Et s (p+(Utf8.decode s p).2) m:=by
 obtain⟨f,hf⟩:=h;cases f with
 |zero=>exact absurd hf hne
 |succ f=>
  rcases hf with h|⟨h,r⟩
  .exact absurd h hne
  .exact⟨h,f,r⟩
def Et.small{s:AE}{p m:Nat}(h:p<s.size)(hb:bt s p<128)(r:Et s (p+1) m):Et s p m:=by refine .step h ?_;rw[BX,AL hb];exact r
def LY{q:Nat->Bool}(hq:∀v,q v=true->v<128){s:AE}:∀(d i:Nat),s.size- i=d->Et s i (Bb q s i)
 |d,i,hd=>by
  by_cases h:i<s.size/\q (bt s i)=true
  .rw[GB h.1 h.2]
   match d,hd with
   |0,hd=>omega
   |d+1,hd=>exact .small h.1 (hq _ h.2) (LY hq d (i+1) (by omega))
  .rw[E8 h];exact .here _
def KI{s:AE}:∀(f p:Nat)(out:List UInt8),(BF s f p out).c=0->Et s p (BF s f p out).e
 |0,p,out,h=>by rw[BF]at h;simp[Di]at h
 |f+1,p,out,h=>by
  rw[BF]at h ⊢;by_cases h1:p<s.size
  .rw[AL h1]at h ⊢;by_cases h2:bt s p=39
   .rw[AL h2]at h ⊢;by_cases h3:Eo s p=true
    .rw[AL h3]at h ⊢;have hqq:=AT h3;exact .small h1 (by omega) (.small (by omega) (by omega) (KI f (p+2) _ h))
    .rw[AG h3];exact .small h1 (by omega) (.here _)
   .rw[AG h2]at h ⊢;by_cases h3:(Am s p).2=0\/bt s p=10
    .rw[AL h3]at h;simp[Di]at h
    .rw[AG h3]at h ⊢;have hr:Am s p=Utf8.decode s p:=by
      by_cases hg:Utf8.decode s p=(65533,1)
      .exact absurd (.inl (by rw[D4 hg])) h3
      .unfold Am;rw[AG hg]
     refine .step h1 ?_;rw[<-hr];exact KI f _ _ h
  .rw[AG h1]at h;simp[Di]at h
def Zo{s:AE}{i:Nat}:CM s i=true↔(Utf8.decode s i).1=175:=by
 have hb:=GR s i;have hb1:=GR s (i+1);rw[BX];unfold CM;rw[As];constructor
 .rintro⟨h1,h2,h3⟩;have t1:tl s (i+1)=true:=by unfold tl;exact AK ⟨by omega,by omega,by omega⟩
  have w:v2 s i=175:=by unfold v2;rw[h2,h3]
  rw[AG (by omega),AL ⟨by omega,t1⟩,w,AL (by omega)]
 .intro h;by_cases c0:bt s i<128
  .rw[AL c0]at h;exact absurd (show bt s i=175 from h) (by omega)
  .rw[AG c0]at h;by_cases c1:bt s i / 32=6/\tl s (i+1)=true
   .rw[AL c1]at h;have ht:=EL c1.2;by_cases c:128<=v2 s i
    .rw[AL c]at h;have h':v2 s i=175:=h;unfold v2 at h';exact⟨by omega,by omega,by omega⟩
    .rw[AG c]at h;exact absurd h (by decide)
   .rw[AG c1]at h;by_cases c2:bt s i / 16=14/\tl s (i+1)=true/\tl s (i+2)=true
    .rw[AL c2]at h;by_cases c:2048<=v3 s i/\Utf8.valid (v3 s i:Nat)=true
     .rw[AL c]at h;exact absurd (show v3 s i=175 from h) (by omega)
     .rw[AG c]at h;exact absurd h (by decide)
    .rw[AG c2]at h;by_cases c3:bt s i / 8=30/\tl s (i+1)=true/\tl s (i+2)=true/\tl s (i+3)=true
     .rw[AL c3]at h;by_cases c:65536<=v4 s i/\Utf8.valid (v4 s i:Nat)=true
      .rw[AL c]at h;exact absurd (show v4 s i=175 from h) (by omega)
      .rw[AG c]at h;exact absurd h (by decide)
     .rw[AG c3]at h;exact absurd h (by decide)
def LW{s:AE}{i:Nat}:DX s i=true↔(Utf8.decode s i).1=9053:=by
 have hb:=GR s i;have hb1:=GR s (i+1);rw[BX];unfold DX;rw[As];constructor
 .rintro⟨h1,h2,h3,h4⟩;have t1:tl s (i+1)=true:=by unfold tl;exact AK ⟨by omega,by omega,by omega⟩
  have t2:tl s (i+2)=true:=by unfold tl;exact AK ⟨by omega,by omega,by omega⟩
  have w:v3 s i=9053:=by unfold v3;rw[h2,h3,h4]
  rw[AG (by omega),AG (by omega),AL ⟨by omega,t1,t2⟩,w,AL ⟨by omega,by decide⟩]
 .intro h;by_cases c0:bt s i<128
  .rw[AL c0]at h;exact absurd (show bt s i=9053 from h) (by omega)
  .rw[AG c0]at h;by_cases c1:bt s i / 32=6/\tl s (i+1)=true
   .rw[AL c1]at h;by_cases c:128<=v2 s i
    .rw[AL c]at h;have h':v2 s i=9053:=h;unfold v2 at h';omega
    .rw[AG c]at h;exact absurd h (by decide)
   .rw[AG c1]at h;by_cases c2:bt s i / 16=14/\tl s (i+1)=true/\tl s (i+2)=true
    .rw[AL c2]at h;have ht1:=EL c2.2.1;have ht2:=EL c2.2.2;by_cases c:2048<=v3 s i/\Utf8.valid (v3 s i:Nat)=true
     .rw[AL c]at h;have h':v3 s i=9053:=h;unfold v3 at h';exact⟨by omega,by omega,by omega,by omega⟩
     .rw[AG c]at h;exact absurd h (by decide)
    .rw[AG c2]at h;by_cases c3:bt s i / 8=30/\tl s (i+1)=true/\tl s (i+2)=true/\tl s (i+3)=true
     .rw[AL c3]at h;by_cases c:65536<=v4 s i/\Utf8.valid (v4 s i:Nat)=true
      .rw[AL c]at h;exact absurd (show v4 s i=9053 from h) (by omega)
      .rw[AG c]at h;exact absurd h (by decide)
     .rw[AG c3]at h;exact absurd h (by decide)
def JA{s:AE}{i c:Nat}(hc:c<128):(Utf8.decode s i).1=c↔bt s i=c:=by
 by_cases h:bt s i<128
 .rw[BX,AL h]
 .have:=Jm h;constructor
  .intro e;omega
  .intro e;omega
def QI{q:Nat->Bool}(hq:∀v,q v=true->v<128){s:AE}{i:Nat}:q (Utf8.decode s i).1=q (bt s i):=by
 by_cases h:bt s i<128
 .rw[BX,AL h]
 .have h1:=Jm h;have a:q (Utf8.decode s i).1=false:=by
   cases h2:q (Utf8.decode s i).1 with
   |false=>rfl
   |true=>have:=hq _ h2;omega
  have b:q (bt s i)=false:=by
   cases h2:q (bt s i)with
   |false=>rfl
   |true=>exact absurd (hq _ h2) h
  rw[a,b]
def UY{s:AE}{k:Nat}(hk:k<s.size)(h:(BO s k).c=0):Et s (k+(Utf8.decode s k).2) (BO s k).e:=by
 suffices hs:Et s k (BO s k).e by have:=Ic hk h;exact(hs.next (by omega)).2
 unfold BO at h ⊢;by_cases h1:Es (bt s k)=true\/CM s k=true
 .rw[AL h1]at h ⊢;obtain⟨f,hf⟩:∃f,(if CM s k=true then k+2 else k)=f:=⟨_,rfl⟩
  obtain⟨e,he⟩:∃e,Bb Es s f=e:=⟨_,rfl⟩
  by_cases hb:e=f\/(e<s.size/\El (bt s e)=true)\/CM s e=true
  .rw[Ee hf he hb]at h;simp[Di]at h
  .by_cases hv:1000000000000000<GE s f (e- f)
   .rw[Fq hf he hb hv]at h;simp[Di]at h
   .rw[GV hf he hb hv];show Et s k e;have hr:Et s f e:=by rw[<-he];exact LY Jk _ f rfl
    by_cases hh:CM s k=true
    .rw[AL hh]at hf;rw[<-hf]at hr;have hd:=AT hh;refine .step hk ?_;have t1:tl s (k+1)=true:=by unfold tl;exact AK ⟨by omega,by omega,by omega⟩
     have w:v2 s k=175:=by unfold v2;rw[hd.2.1,hd.2.2]
     have hdec:Utf8.decode s k=(175,2):=by rw[BX,AG (by omega),AL ⟨by omega,t1⟩,w,AL (by omega)]
     rw[hdec];exact hr
    .rw[AG hh]at hf;rw[hf];exact hr
 .rw[AG h1]at h ⊢;by_cases h2:bt s k=39
  .rw[AL h2]at h ⊢;exact .small hk (by omega) (KI _ _ _ h)
  .rw[AG h2]at h ⊢;by_cases h3:El (bt s k)=true
   .rw[AL h3]at h ⊢;unfold Fm at h ⊢;by_cases h4:20<Bb Bn s k- k
    .rw[AL h4]at h;simp[Di]at h
    .rw[AG h4];exact LY NK _ k rfl
   .rw[AG h3]at h ⊢;unfold Ea at h ⊢;by_cases h4:0<(Am s k).2/\(Am s k).1∈Ar
    .rw[AL h4];have hr:Am s k=Utf8.decode s k:=by
      by_cases hg:Utf8.decode s k=(65533,1)
      .have:=h4.1;rw[D4 hg]at this;simp at this
      .unfold Am;rw[AG hg]
     show Et s k (k+(Am s k).2);rw[hr];exact .step hk (.here _)
    .rw[AG h4]at h;simp[Di]at h
def SD(s:AE)(i v:Nat)(hv:(Utf8.decode s i).1=v)(w:World)(hi:i<s.size)(hs:s.size<=100000)(hR:Fo w)(hT:Fu w):Calls prog (Dx v) #[.string (s.extract i s.size)] w fun e w'=>e=.returned (Lx (BO s i) i)/\Below w.heap.size w w':=by
 unfold Dx BO;have hd:Es v=Es (bt s i):=by rw[<-hv];exact QI Jk
 have hl:El v=El (bt s i):=by rw[<-hv];exact QI Lh
 have hh:v=175↔CM s i=true:=by rw[<-hv];exact Zo.symm
 have hq:v=39↔bt s i=39:=by rw[<-hv];exact JA (by omega)
 rw[hd,hl];by_cases h1:Es (bt s i)=true\/CM s i=true
 .rw[AL (h1.imp id hh.2),AL h1];exact Ms s i w hi (by omega) hR
 .rw[AG (fun h=>h1 (h.imp id hh.1)),AG h1];by_cases h2:bt s i=39
  .rw[AL (hq.2 h2),AL h2];exact QR s i w hi (by omega) hT
  .rw[AG (fun h=>h2 (hq.1 h)),AG h2];by_cases h3:El (bt s i)=true
   .rw[AL h3,AL h3];exact QU s i w hi (by omega)
   .rw[AG h3,AG h3];exact QT s i w hi hT
def KR{w:World}{k:Nat}{s:AE}{pos:Nat}(h:w.heap[k]? =some (.stringIter s pos)):w.iterPos k=pos:=by unfold World.iterPos;rw[h]
def Ug{w:World}{B B' e size n:Nat}{v:Value}{xs:List Value}(h:w.ownsRow B e size v n xs)(hB:B'<=B):w.ownsRow B' e size v n xs:=by refine⟨h.1,h.2.imp id ?_⟩;rintro⟨g,cap,cur,hv,hg,r⟩;exact⟨g,cap,cur,hv,Aw hB hg,r⟩
structure IY(w:World)(s:AE)(wr:World)(pos:Nat)(v:Value)(n:Nat)(acc:List CO):Prop where
 iter:wr.heap[w.heap.size]? =some (.stringIter s pos)
 own:wr.ownsRow (w.heap.size+1) 64 4 v n (acc.flatMap Bo)
 low:Below w.heap.size w wr
def IY.start(w:World)(s:AE):IY w s (w.iter s 0) 0 (.slice none 0 0) 0 []:=by refine⟨?_,⟨rfl,.inl ⟨rfl,rfl⟩⟩,AI.alloc AC _⟩;show(w.heap.push _)[w.heap.size]? =_;simp
def IY.lt{w wr:World}{s:AE}{pos n:Nat}{v:Value}{acc:List CO}(h:IY w s wr pos v n acc):w.heap.size<wr.heap.size:=lt_of_block h.iter
def IY.len{w wr:World}{s:AE}{pos n:Nat}{v:Value}{acc:List CO}(h:IY w s wr pos v n acc):acc.length=n:=by have:=h.own.1;rw[Ln]at this;omega
def IY.move{w wr:World}{s:AE}{pos n:Nat}{v:Value}{acc:List CO}(h:IY w s wr pos v n acc)(pos':Nat):IY w s (wr.iterAt w.heap.size s pos') pos' v n acc:=by refine⟨Lib.iterAt_heap _ _ _ _ _ h.iter,⟨h.own.1,h.own.2.imp id ?_⟩,Lib.below_iterAt h.low AC _ _⟩;rintro⟨g,cap,cur,hv,hg,hh,r⟩;exact⟨g,cap,cur,hv,hg,(Lib.iterAt_other _ _ _ _ _ (by omega)).trans hh,r⟩
def IY.below{w wr w':World}{s:AE}{pos n:Nat}{v:Value}{acc:List CO}(h:IY w s wr pos v n acc)(hb:Below wr.heap.size wr w'):IY w s w' pos v n acc:=⟨(hb.block _ h.lt).trans h.iter,EW h.own AC hb,h.low.trans (hb.mono (FN h.lt))⟩
def IY.push{w wr w1:World}{s:AE}{pos n g' CW:Nat}{v:Value}{acc:List CO}{t:CO}(h:IY w s wr pos v n acc)(ET:w1.ownsRow (w.heap.size+1) 64 4 (.slice (some ⟨g',0,none⟩) (n+1) CW) (n+1) (acc.flatMap Bo++Bo t))(hg:wr.grownBy w1 v.ownBlock):IY w s w1 pos (.slice (some ⟨g',0,none⟩) (n+1) CW) (n+1) (acc++ [t]):=by have hob:=Uh h.own;refine⟨(hg.block _ h.lt (fun e=>by have:=hob _ e.symm;omega)).trans h.iter,by rw[DF];simpa using ET,h.low.grown hg (FN h.lt) (fun k hk=>by have:=hob k hk;omega)⟩
def Js(w:World)(r:List CO×Int×Nat)(e:Ending)(w':World):Prop:=∃v,e=.returned (.tuple #[v,.int .i64 r.2.1,.int .i64 (r.2.2:Nat)])/\w'.ownsRow w.heap.size 64 4 v r.1.length (r.1.flatMap Bo)/\Below w.heap.size w w'
def IY.gives{w wr:World}{s:AE}{pos n:Nat}{v:Value}{acc:List CO}(h:IY w s wr pos v n acc):Js w (acc,0,0) (.returned (.tuple #[v,.int .i64 0,.int .i64 0])) wr:=by refine⟨v,rfl,?_,h.low⟩;have:=Ug h.own (Cg _);rw[<-h.len]at this;exact this
def NU{w w':World}(c:Int)(p:Nat)(h:Below w.heap.size w w'):Js w ([],c,p) (.returned (.tuple #[.slice none 0 0,.int .i64 c,.int .i64 (p:Nat)])) w':=⟨_,rfl,⟨rfl,.inl ⟨rfl,rfl⟩⟩,h⟩
def VU(v:Nat):∀args w,(callFunc (Dx v) args).run prog w=.ok (.enter (Dx v) args) w:=by
 unfold Dx;split
 .exact enters_of func152 (by kernel_rfl) rfl
 .split
  .exact enters_of func153 (by kernel_rfl) rfl
  .split
   .exact enters_of func155 (by kernel_rfl) rfl
   .exact enters_of func156 (by kernel_rfl) rfl
