import Derived.Test.YtgjpchnkodnieaaGreatDoorZ27
import Derived.Test.YtgjpchnkodnieaaGreatDoorZ22
import Derived.Test.YtgjpchnkodnieaaGreatDoorZ29
set_option maxRecDepth 20000
set_option maxHeartbeats 8000000
set_option linter.defProp false
namespace Go.Proofs.YtgjpchnkodnieaaGreatDoor
open Go.RowKit Tryz
def NL(c d:Bool)(a1 a2 b1 b2:Addr)(n1 n2 m1 m2 c1 c2 d1 d2:Nat)(sh dt sh' dt':List Int)(fl:Bool)(w:World)(h1:AO w (some a1) n1 sh)(h2:AO w (some a2) n2 dt)(k1:AO w (some b1) m1 sh')(k2:AO w (some b2) m2 dt'):Calls prog 126 #[.agg #[.bool c,.slice (some a1) n1 c1,.slice (some a2) n2 c2],.agg #[.bool d,.slice (some b1) m1 d1,.slice (some b2) m2 d2],.bool fl] w (CJ w (CT c d sh dt sh' dt' fl)):=by
 have hl1:=AD h1.len;have hl2:=AD h2.len;have hl3:=AD k1.len;have hl4:=AD k2.len;have hs1:=h1.small;have hs2:=h2.small;have hs3:=k1.small;have hs4:=k2.small;have H1:=AD h1;have H2:=AD h2;have K1:=AD k1;have K2:=AD k2;clear h1 h2 k1 k2;obtain⟨r1,hr1⟩:∃r,AJ c sh dt=r:=⟨_,rfl⟩
 obtain⟨r2,hr2⟩:∃r,AJ d sh' dt'=r:=⟨_,rfl⟩
 have HR1:=AD hr1;have HR2:=AD hr2;clear hr1 hr2;go_enter func126,ntmps126;go_wp2_with fail;refine(A0 _ _ _ _ _ _ _ sh dt _ ((((AA H1).alloc _).alloc _).alloc _) ((((AA H2).alloc _).alloc _).alloc _) _ HR1).mono ?_;rintro e w1⟨rfl,hb1⟩;obtain⟨B4,B5,B6,hB1⟩:=Az hb1;have hz1:=B6.lt;clear hb1;obtain⟨x0,x1,x2,x3,x4,x5,x6⟩:=B4.all;obtain⟨y0,y1,y2,y3,y4,y5,y6⟩:=B5.all;cases r1 with
 |false=>
  have HS:Hid (CT c d sh dt sh' dt' fl=AT 3):=Km (AA HR1);go_wp2_with fail;refine(Aa _).mono ?_;rintro e w9⟨rfl,hb9⟩;obtain⟨q0,q1,q2,q3,q4,q5,q6⟩:=((B6).below AC hb9).all;have hB9:=AD ((hB1).trans (hb9.mono (hB1).size));clear hb9 hB1 B4 B5 B6 hz1 x0 x1 x2 x3 x4 x5 x6 y0 y1 y2 y3 y4 y5 y6
  go_wp2
  refine bodyPost_ret (v:=.tuple #[.agg #[.bool false,.slice none 0 0,.slice none 0 0],.int .i64 3]) (by simp[results,results126,go_sem,q0,q1,q2]) rfl ?_;rw[AA HS];exact⟨none,0,0,none,0,0,rfl,AP _ _,AP _ _,(((AA hB9).setCell (by simp<;>omega) _).setCell (by simp<;>omega) _).setCell (by simp<;>omega) _⟩
 |true=>
  go_wp2_with fail;refine(A0 _ _ _ _ _ _ _ sh' dt' _ ((AA K1).below AC hB1) ((AA K2).below AC hB1) _ HR2).mono ?_;rintro e w2⟨rfl,hb2⟩;have C4:=AD (B4.below AC hb2);have C5:=AD (B5.below AC hb2);have C6:=AD (B6.below AC hb2);have hB2:=AD (hB1.trans (hb2.mono hB1.size));clear hb2 hB1 B4 B5 B6 hz1 x0 x1 x2 x3 x4 x5 x6 y0 y1 y2 y3 y4 y5 y6 w1;cases r2 with
  |false=>
   have HS:Hid (CT c d sh dt sh' dt' fl=AT 3):=Kl (AA HR2);go_wp2_with fail;refine(Aa _).mono ?_;rintro e w9⟨rfl,hb9⟩;obtain⟨q0,q1,q2,q3,q4,q5,q6⟩:=((AA C6).below AC hb9).all;have hB9:=AD ((AA hB2).trans (hb9.mono (AA hB2).size));clear hb9 C4 C5 C6 hB2
   go_wp2
   refine bodyPost_ret (v:=.tuple #[.agg #[.bool false,.slice none 0 0,.slice none 0 0],.int .i64 3]) (by simp[results,results126,go_sem,q0,q1,q2]) rfl ?_;rw[AA HS];exact⟨none,0,0,none,0,0,rfl,AP _ _,AP _ _,(((AA hB9).setCell (by simp<;>omega) _).setCell (by simp<;>omega) _).setCell (by simp<;>omega) _⟩
  |true=>
   obtain⟨x0,x1,x2,x3,x4,x5,x6⟩:=(AA C4).all;obtain⟨y0,y1,y2,y3,y4,y5,y6⟩:=(AA C5).all;obtain⟨r,hr⟩:∃r,CQ c n2=r:=⟨_,rfl⟩
   have HSC:=AD hr;have HCC:Hid (CQ c dt.length=r):=by rw[AA hl2];exact hr
   clear hr;go_upto_region 4 with(go_at_call 154;refine(PG c _ _ _ _ _ hs2 r HSC).mono ?_;rintro e w3⟨rfl,hb3⟩;have HB3:=AD hb3;clear hb3);have D4:=AD ((AA C4).below AC (AA HB3));have D5:=AD ((AA C5).below AC (AA HB3));have D6:=AD ((AA C6).below AC (AA HB3));have hB3:=AD ((AA hB2).trans ((AA HB3).mono (AA hB2).size));clear C4 C5 C6 hB2 HB3 x0 x1 x2 x3 x4 x5 x6 y0 y1 y2 y3 y4 y5 y6 w2;by_cases h0:r=0
   .subst h0;obtain⟨y0,y1,y2,y3,y4,y5,y6⟩:=(AA D5).all;have hcall:=Kz d b1 b2 m1 m2 d1 d2 sh' dt' w3 ((AA K1).below AC (AA hB3)) ((AA K2).below AC (AA hB3));go_upto_region 7 with(go_at_call 155;refine hcall.mono ?_;rintro e w4⟨s1,f1,s2,f2,rfl,ho,hr2,hap,hb4⟩;have HO:=AD ho;have HR:=AD hr2;have HAP:=AD hap;have HB4:=AD hb4;clear ho hr2 hap hb4);clear hcall y0 y1 y2 y3 y4 y5 y6;obtain⟨_,_,ev,hO1⟩:=Bt.of_owns (AA HO) hs3;cases ev;have hz6:=(AA D6).lt;have hz4:=(AA HB4).size;have hz3:=(AA hB3).size;have E4:=AD (((AA D4).below AC (AA HB4)).alloc (.cells #[.bool d,.slice s1 m1 f1,.slice s2 m2 f2] 25));have E5:=AD (((AA D5).below AC (AA HB4)).alloc (.cells #[.bool d,.slice s1 m1 f1,.slice s2 m2 f2] 25));have E6:=AD (((AA D6).below AC (AA HB4)).alloc (.cells #[.bool d,.slice s1 m1 f1,.slice s2 m2 f2] 25));have E7:=AD (Ai.new w4 d (.slice s1 m1 f1) (.slice s2 m2 f2));have HS1:Hid (Bt (w4.alloc (.cells #[.bool d,.slice s1 m1 f1,.slice s2 m2 f2] 25)) (w.heap.size+3) s1 m1 sh'):=(hO1.mono (by omega)).alloc _;have HS2:Hid (Bt (w4.alloc (.cells #[.bool d,.slice s1 m1 f1,.slice s2 m2 f2] 25)) (w.heap.size+3) s2 m2 dt'):=((AA HR).mono (by omega)).alloc _;have HAP':Hid (∀x,At s1 m1 x->∀y,At s2 m2 y->x≠y):=fun x hx y hy e=>by
     obtain⟨hne,pa,e1,e2⟩:=hx;subst e1;have h1:=AA HAP y hy;rcases(AA HO).2 with⟨hv,_⟩|⟨g,cap,cur,hv,_⟩
     .simp at hv
     .simp at hv;apply h1;obtain⟨e3,_⟩:=hv;rw[e3]at e2 ⊢;simp[Value.ownBlock]at e2 ⊢;omega
    have HW:Hid (Below w.heap.size w (w4.alloc (.cells #[.bool d,.slice s1 m1 f1,.slice s2 m2 f2] 25))):=((AA hB3).trans ((AA HB4).mono hz3)).alloc (by omega) _;have hp2:w.heap.size+2<w4.heap.size:=by omega
    generalize w4.alloc (.cells #[.bool d,.slice s1 m1 f1,.slice s2 m2 f2] 25)=W at*;have hpl:w4.heap.size<W.heap.size:=(AA E7).lt;generalize w4.heap.size=p at*;clear hO1 HO HR HAP D4 D5 D6 hB3 HB4 hz6 hz4 hz3 w4 w3;obtain⟨y0,y1,y2,y3,y4,y5,y6⟩:=(AA E5).all;obtain⟨v0,v1,v2,v3,v4,v5,v6⟩:=(AA E7).all;obtain⟨z0,z1,z2,z3,z4,z5,z6⟩:=(AA E6).all;by_cases hm1:m1=0
    .have HS:Hid (CT c d sh dt sh' dt' fl=⟨d,sh',dt',0⟩):=GG (AA HR1) (AA HR2) (AA HCC) (.inl (Af.mp (by rw[AA hl3];exact hm1)));have g0:((m1:Int)==0)=true:=by simp;omega
     clear hm1
     go_wp2
     refine bodyPost_ret (v:=.tuple #[.agg #[.bool d,.slice s1 m1 f1,.slice s2 m2 f2],.int .i64 0]) (by simp[results,results126,go_sem,z0,z1,z2]) rfl ?_;rw[AA HS];exact⟨_,_,_,_,_,_,rfl,(AA HS1).row.sets (AA E6) _ _ _,(AA HS2).row.sets (AA E6) _ _ _,(((AA HW).setCell (by simp<;>omega) _).setCell (by simp<;>omega) _).setCell (by simp<;>omega) _⟩
    .have g0:((m1:Int)==0)=false:=by simp;omega
     by_cases hm2:m2=0
     .have HS:Hid (CT c d sh dt sh' dt' fl=⟨d,sh',dt',0⟩):=GG (AA HR1) (AA HR2) (AA HCC) (.inr (Af.mp (by rw[AA hl4];exact hm2)));have g1:((m2:Int)==0)=true:=by simp;omega
      clear hm1 hm2
      go_wp2
      refine bodyPost_ret (v:=.tuple #[.agg #[.bool d,.slice s1 m1 f1,.slice s2 m2 f2],.int .i64 0]) (by simp[results,results126,go_sem,z0,z1,z2]) rfl ?_;rw[AA HS];exact⟨_,_,_,_,_,_,rfl,(AA HS1).row.sets (AA E6) _ _ _,(AA HS2).row.sets (AA E6) _ _ _,(((AA HW).setCell (by simp<;>omega) _).setCell (by simp<;>omega) _).setCell (by simp<;>omega) _⟩
     .have g1:((m2:Int)==0)=false:=by simp;omega
      have hne:sh'≠ []:=fun e=>hm1 (by rw[<-AA hl3,e];rfl);have hne2:dt'≠ []:=fun e=>hm2 (by rw[<-AA hl4,e];rfl);obtain⟨B,n,A,hax,hprod,hBb,hnb,hAb⟩:=Pe fl (AA HR2) hne;rw[AA hl4]at hprod;have hn0:0<n:=by rcases Nat.eq_zero_or_pos n with h|h;(· subst h;simp at hprod;omega);exact h
      have hk0:=Bl (AA HR1) (k:=0) (by rw[AA hl2];have:=AA HCC;unfold CQ at this;rw[AA hl2]at this;split at this;(· cases this);rename_i h;simp at h;omega);have hn2:n2=1:=by have:=AA HCC;unfold CQ at this;rw[AA hl2]at this;split at this;(· cases this);rename_i h;simpa using h
      obtain⟨hm0,hm3⟩:=OR hn0 (dt.getD 0 0);obtain⟨e,he⟩:∃e:Nat,Bk (n:Int) (dt.getD 0 0)=(e:Int):=⟨(Bk (n:Int) (dt.getD 0 0)).toNat,by omega⟩
      have hen:e<n:=by omega
      have HS:Hid (CT c d sh dt sh' dt' fl=⟨d,sh',Bg (OH n A e dt') m2,0⟩):=by rw[<-AA hl4];exact OG (AA HR1) (AA HR2) (AA HCC) hne hne2 n A e hax.l hax.a he
      subst hn2;obtain⟨bk,ok,hab,hbk,hck⟩:=(AA H2).get (by omega:0<1);cases hab;have hckW:=((AA HW).cell (p:=⟨bk,ok+0,none⟩) hbk).trans hck;obtain⟨kk,hkk⟩:∃k,k=dt.getD 0 0:=⟨_,rfl⟩
      rw[<-hkk]at hckW hk0 he;have hca:=Gw (some b1) m1 d1 sh' fl W ((AA K1).below AC (AA HW)) (AW (AA HR2)).1 (by omega);rw[hax.b,hax.l,hax.a]at hca;have HCM:Hid (∀wx,Calls prog 196 #[.int .i64 (n:Nat),.int .i64 kk] wx fun e' w'=>e'=.returned (.int .i64 (e:Nat))/\w'=wx):=fun wx=>by
       have:=KN (n:Nat) kk wx ⟨by omega,by omega⟩ hk0
       rwa [he]at this
      have HPR:=AD hprod;have hm2':=hm2;clear hne hne2 hax hprod hm0 hm3 he hkk hk0 hck hm1 hm2;obtain⟨x0,x1,x2,x3,x4,x5,x6⟩:=(AA E4).all;go_upto_region 10 with(go_at_call 106;refine hca.mono ?_;rintro e' w5⟨rfl,hb5⟩;have HB5:=AD hb5;clear hb5);clear hca x0 x1 x2 x3 x4 x5 x6;obtain⟨x0,x1,x2,x3,x4,x5,x6⟩:=((AA E4).below AC (AA HB5)).all;have hckr:w5.cell? ⟨bk,ok,none⟩=some (.int .i64 kk):=((AA HB5).cell (p:=⟨bk,ok+0,none⟩) (AZ hbk (AA HW).size)).trans hckW;go_upto_region 11 with(go_at_call 196;refine(AA HCM _).mono ?_;rintro e' wq⟨rfl,hw⟩;obtain rfl:=hw.symm);have F5:=AD ((AA E5).below AC (AA HB5));have F6:=AD ((AA E6).below AC (AA HB5));have F7:=AD ((AA E7).below AC (AA HB5));have HT1:=AD ((AA HS1).below AC (AA HB5));have HT2:=AD ((AA HS2).below AC (AA HB5));have HW5:=AD ((AA HW).trans ((AA HB5).mono (AA HW).size));clear x0 x1 x2 x3 x4 x5 x6 y0 y1 y2 y3 y4 y5 y6 z0 z1 z2 z3 z4 z5 z6 v0 v1 v2 v3 v4 v5 v6 E4 E5 E6 E7 HS1 HS2 HW HB5 hckW hckr HCM hbk g0 g1 hpl W;have hm2:0<m2:=by
       have:=AA HPR;rcases Nat.eq_zero_or_pos m2 with h|h
       .exact absurd h hm2'
       .exact h
      rcases(AA HT2).at_ with h|⟨g,off,rfl,hg,hgl,_,_⟩
      .omega
      have hgp:g≠p:=(AA HT2).row.notBox (AA F7) (DK (by omega));obtain⟨R,hR⟩:∃R,R=Bg (OH n A e dt') m2:=⟨_,rfl⟩
      have HRL:Hid (R.length=m2):=by rw[hR,I9];exact rfl
      have HRG:Hid (∀P i q,P<B->i<n->q<A->R.getD ((P*n+i)*A+q) 0=dt'.getD ((P*n+(i+e) % n)*A+q) 0):=by intro P i q hP hi hq;have h1:=JE hP hi hq;rw[AA HPR]at h1;rw[hR,VT _ _ _ h1];show dt'.getD (JO n A e _) 0=_;rw[MD hi hq]
      rw[<-hR]at HS;clear hR;have HT0:Hid (Hc w5 (w.heap.size+3) g off m2 R dt' 0 w5):=⟨by simpa using AA HT2,BS.refl _ _⟩
      have HBX:Hid (∀wx,BS (fun k=>k=g) w5 wx->Ai wx p d (.slice s1 m1 f1) (.slice (some ⟨g,off,none⟩) m2 f2)/\Ai wx (w.heap.size+1) d (.slice (some b1) m1 d1) (.slice (some b2) m2 d2)):=fun wx hwx=>⟨(AA F7).but hwx (fun e=>hgp e.symm),(AA F5).but hwx (by show ¬(w.heap.size+1=g);omega)⟩
      go_wp2_with fail;go_loopw[14] (fun v wr=>∃P:Nat,P<=B/\v=.int .i64 (P:Nat)/\Hid (Hc w5 (w.heap.size+3) g off m2 R dt' (P*n*A) wr)) (fun v _=>B- (intOf v).toNat);case atStart=>exact⟨0,AS _,rfl,by simpa using HT0⟩
      case round=>
       obtain⟨P,hP,rfl,ht⟩:=hrel;clear HT0;by_cases hlt:P<B
       .obtain⟨wo,hwo⟩:∃x,x=wr:=⟨_,rfl⟩
        subst hwo;go_wp2_with fail;go_loopw[15] (fun v wr=>∃i:Nat,i<=n/\v=.int .i64 (i:Nat)/\Hid (Hc w5 (w.heap.size+3) g off m2 R dt' ((P*n+i)*A) wr)) (fun v _=>n- (intOf v).toNat);case atStart=>exact⟨0,AS _,rfl,by simpa using ht⟩
        case round=>
         obtain⟨i,hi,rfl,ht2⟩:=hrel;clear ht wo;by_cases hli:i<n
         .obtain⟨wo,hwo⟩:∃x,x=wr:=⟨_,rfl⟩
          subst hwo;go_wp2_with fail;go_loopw[16] (fun v wr=>∃q:Nat,q<=A/\v=.int .i64 (q:Nat)/\Hid (Hc w5 (w.heap.size+3) g off m2 R dt' ((P*n+i)*A+q) wr)) (fun v _=>A- (intOf v).toNat);case atStart=>exact⟨0,AS _,rfl,by simpa using ht2⟩
          case round=>
           obtain⟨q,hq,rfl,ht3⟩:=hrel;clear ht2 wo;by_cases hlq:q<A
           .have hj0:(i+e) % n<n:=Nat.mod_lt _ hn0;obtain⟨v1,hv1⟩:∃v,v=i+e:=⟨_,rfl⟩
            obtain⟨v2,hv2⟩:∃v,v=v1 % n:=⟨_,rfl⟩
            obtain⟨u1,hu1⟩:∃v,v=P*n:=⟨_,rfl⟩
            obtain⟨u2,hu2⟩:∃v,v=u1+i:=⟨_,rfl⟩
            obtain⟨v3,hv3⟩:∃v,v=u1+v2:=⟨_,rfl⟩
            obtain⟨u3,hu3⟩:∃v,v=u2*A:=⟨_,rfl⟩
            obtain⟨v4,hv4⟩:∃v,v=v3*A:=⟨_,rfl⟩
            obtain⟨T,hT⟩:∃v,v=u3+q:=⟨_,rfl⟩
            obtain⟨J,hJ⟩:∃v,v=v4+q:=⟨_,rfl⟩
            have hTe:T=(P*n+i)*A+q:=by rw[hT,hu3,hu2,hu1]
            have hJe:J=(P*n+(i+e) % n)*A+q:=by rw[hJ,hv4,hv3,hu1,hv2,hv1]
            have ht1:T<m2:=by rw[hTe,<-AA HPR];exact JE hlt hli hlq
            have hj1:J<m2:=by rw[hJe,<-AA HPR];exact JE hlt hj0 hlq
            rw[<-hTe]at ht3;have hu1b:u1<=100000000:=by rw[hu1];exact Nat.mul_le_mul (by omega:P<=10000) hnb
            have hm4:m2<=10000:=by have h9:=(AW (AA HR2)).2.1;rw[AA hl4]at h9;have:=(AW (AA HR2)).1.bd;omega
            have hv2n:v2<n:=by rw[hv2];exact Nat.mod_lt _ hn0
            have hw1:IntKind.i64.wrap ((P:Int)*(n:Int))=(u1:Nat):=Ki (by rw[hu1];push_cast;rfl) (by omega);have hw2:IntKind.i64.wrap ((u1:Int)+(i:Int))=(u2:Nat):=Ki (by rw[hu2];push_cast;rfl) (by omega);have hw3:IntKind.i64.wrap ((u2:Int)*(A:Int))=(u3:Nat):=Ki (by rw[hu3];push_cast;rfl) (by omega);have hw4:IntKind.i64.wrap ((u3:Int)+(q:Int))=(T:Nat):=Ki (by rw[hT];push_cast;rfl) (by omega);have hw5:IntKind.i64.wrap ((i:Int)+(e:Int))=(v1:Nat):=Ki (by rw[hv1];push_cast;rfl) (by omega);have hm9:v1 % n=v2:=hv2.symm;have hm10:((v1:Int) % (n:Int))=(v2:Int):=by rw[hv2];rfl
            have hm11:Int.tmod (v1:Int) (n:Int)=(v2:Int):=by rw[hv2];rfl
            have hn1:¬ n=0:=by omega
            have hw6:IntKind.i64.wrap ((u1:Int)+(v2:Int))=(v3:Nat):=Ki (by rw[hv3];push_cast;rfl) (by omega);have hw7:IntKind.i64.wrap ((v3:Int)*(A:Int))=(v4:Nat):=Ki (by rw[hv4];push_cast;rfl) (by omega);have hw8:IntKind.i64.wrap ((v4:Int)+(q:Int))=(J:Nat):=Ki (by rw[hJ];push_cast;rfl) (by omega);obtain⟨bb,ob,hab,hbb,hcb⟩:=(AA K2).get hj1;cases hab;have hbw:bb<w5.heap.size:=AZ hbb (AA HW5).size;have hcb5:=((AA HW5).cell (p:=⟨bb,ob+J,none⟩) hbb).trans hcb;have hbg:¬ bb=g:=by omega
            obtain⟨x,hx⟩:∃x,x=dt'.getD J 0:=⟨_,rfl⟩
            rw[<-hx]at hcb5;have HX:Hid (R.getD T 0=x):=by show _=_;rw[hx,hTe,hJe];exact AA HRG P i q hlt hli hlq
            have HST:Hid (Hc w5 (w.heap.size+3) g off m2 R dt' ((P*n+i)*A+(q+1)) (wr.setCell ⟨g,off+T,none⟩ (.int .i64 x))):=by
             have:=(AA ht3).step (AA HRL) (AA hl4) ht1 (AA HX)
             rwa [show T+1=(P*n+i)*A+(q+1)from by rw[hTe,FK]]at this
            have hbut:=(AA ht3).but;rcases(AA ht3).own.at_ with h9|⟨g9,off9,e9,_,_,hcc,hff⟩
            .omega
            cases e9;have hct:=hcc T ht1;have hft:=hff T ht1;have hlJ:(J:Int)<(m2:Int):=by omega
            have hlT:(T:Int)<(m2:Int):=by omega
            clear hcc hff hcb hv2 hu1 hu3 hv4 hx hj0 hv1 hu2 hv3 hT hJ hTe hJe hv2n hu1b;obtain⟨hbp,hb4⟩:=AA HBX _ hbut;obtain⟨x0,x1,x2,x3,x4,x5,x6⟩:=hbp.all;obtain⟨y0,y1,y2,y3,y4,y5,y6⟩:=hb4.all;clear hbp hb4;go_upto_region 20 with fail;have HKEEP:∀wx,BS (fun k=>k=g) w5 wx->BS (fun k=>k=g) w5 wx/\wx.cell? ⟨p,2,none⟩=some (.slice (some ⟨g,off,none⟩) m2 f2)/\wx.cell? ⟨w.heap.size+1,2,none⟩=some (.slice (some ⟨bb,ob,none⟩) m2 d2)/\wx.cell? ⟨bb,ob+J,none⟩=some (.int .i64 x):=fun wx hwx=>⟨hwx,(AA HBX _ hwx).1.cells.2.2,(AA HBX _ hwx).2.cells.2.2,(hwx.cellAt hbw hbg).trans hcb5⟩
            go_region_held3 (fun wx=>BS (fun k=>k=g) w5 wx/\wx.cell? ⟨p,2,none⟩=some (.slice (some ⟨g,off,none⟩) m2 f2)/\wx.cell? ⟨w.heap.size+1,2,none⟩=some (.slice (some ⟨bb,ob,none⟩) m2 d2)/\wx.cell? ⟨bb,ob+J,none⟩=some (.int .i64 x)) (first|exact HKEEP _ (hbut.drew.setCell rfl _)|exact HKEEP _ hbut.drew|exact HKEEP _ hbut) (first|fail)
            all_goals
             go_wp2_with fail;go_roundw;case rel=>exact⟨q+1,by omega,by go_num,by have:=AA HST;exact Hc.drew this⟩
             case measure=>simp[intOf];omega
           .have hqA:q=A:=by omega
            subst hqA
            go_wp2
            go_roundw;case rel=>exact⟨i+1,by omega,by go_num,by have:=AA ht3;rwa [show(P*n+(i+1))*q=(P*n+i)*q+q from by rw[<-FK,Nat.add_mul,Nat.one_mul]]⟩
            case measure=>simp[intOf];omega
         .have hin:i=n:=by omega
          subst hin
          go_wp2
          go_roundw;case rel=>exact⟨P+1,by omega,by go_num,by have:=AA ht2;rwa [show(P+1)*i*A=(P*i+i)*A from by rw[Nat.add_mul,Nat.one_mul]]⟩
          case measure=>simp[intOf];omega
       .have hPB:P=B:=by omega
        subst hPB;have HE:Hid (R.take (P*n*A)++dt'.drop (P*n*A)=R):=by show _=_;rw[AA HPR,AV (by rw[AA HRL];exact AC),List.drop_of_length_le (by rw[AA hl4];exact AC),Fd]
        have hbut:=(AA ht).but;have HO:=AD (AA ht).own;have HB6:=AD ((AA F6).but hbut (by show ¬(w.heap.size+2=g);omega));have HB7:=AD (AA HBX _ hbut).1;have HO1:=AD (hbut.own (AA HT1) (fun k hk hat=>AA HAP' k hat g (DK (by omega)) hk));have HWr:=AD ((AA HW5).trans (hbut.below (B:=w.heap.size) (AA HW5).size (fun k hk=>by omega)));obtain⟨z0,z1,z2,z3,z4,z5,z6⟩:=(AA HB6).all;obtain⟨v0,v1,v2,v3,v4,v5,v6⟩:=(AA HB7).all;rw[AA HE]at HO;clear ht hbut
        go_wp2
        refine bodyPost_ret (v:=.tuple #[.agg #[.bool d,.slice s1 m1 f1,.slice (some ⟨g,off,none⟩) m2 f2],.int .i64 0]) (by simp[results,results126,go_sem,z0,z1,z2]) rfl ?_;rw[AA HS];exact⟨_,_,_,_,_,_,rfl,(AA HO1).row.sets (AA HB6) _ _ _,(AA HO).row.sets (AA HB6) _ _ _,(((AA HWr).setCell (by simp<;>omega) _).setCell (by simp<;>omega) _).setCell (by simp<;>omega) _⟩
   .have HS:Hid (CT c d sh dt sh' dt' fl=AT r):=Hq (AA HR1) (AA HR2) r (AA HCC) h0;have hcb:(r !=0)=true:=by simp[h0]
    clear h0;go_wp2_with fail;refine(Aa _).mono ?_;rintro e w9⟨rfl,hb9⟩;obtain⟨q0,q1,q2,q3,q4,q5,q6⟩:=((AA D6).below AC hb9).all;have hB9:=AD ((AA hB3).trans (hb9.mono (AA hB3).size));clear hb9 D4 D5 D6 hB3
    go_wp2
    refine bodyPost_ret (v:=.tuple #[.agg #[.bool false,.slice none 0 0,.slice none 0 0],.int .i64 r]) (by simp[results,results126,go_sem,q0,q1,q2]) rfl ?_;rw[AA HS];exact⟨none,0,0,none,0,0,rfl,AP _ _,AP _ _,(((AA hB9).setCell (by simp<;>omega) _).setCell (by simp<;>omega) _).setCell (by simp<;>omega) _⟩
structure VG(B:World)(p:Nat)(c:Bool)(v1:Value)(f:Nat->Int×Int)(k:Nat)(wr:World)(g cap:Nat):Prop where
 box:Ai wr p c v1 (.slice (some ⟨g,0,none⟩) k cap)
 owns:wr.ownsRow B.heap.size 3 1 (.slice (some ⟨g,0,none⟩) k cap) k ((Bg f k).map (Value.int .i64))
 low:Below B.heap.size B wr
 place:B.heap.size<=p
def VG.start{B wx:World}{p g:Nat}{c:Bool}{v1:Value}(f:Nat->Int×Int)(h1:Ai wx p c v1 (.slice (some ⟨g,0,none⟩) 0 0))(h2:BA wx g [])(h4:Below B.heap.size B wx)(h7:B.heap.size<=p)(h5:B.heap.size<=g):VG B p c v1 f 0 wx g 0:=⟨h1,h2.owns h5,h4,h7⟩
def VG.below{B wr w5:World}{p g cap k:Nat}{c:Bool}{v1:Value}{f:Nat->Int×Int}(h:VG B p c v1 f k wr g cap)(hb:Below wr.heap.size wr w5):VG B p c v1 f k w5 g cap:=⟨h.box.below AC hb,BN h.owns AC hb,h.low.trans (hb.mono h.low.size),h.place⟩
def VG.push{B w5 w6:World}{p g g' cap Ak k:Nat}{c:Bool}{v1:Value}{f:Nat->Int×Int}{r1:Int}(o:Obj)(h:VG B p c v1 f k w5 g cap)(hf:(f k).1=r1)(BJ:w6.ownsRow B.heap.size 3 1 (.slice (some ⟨g',0,none⟩) (k+1) Ak) (k+1) ((Bg f k).map (Value.int .i64)++ [.int .i64 r1]))(hg:(w5.alloc o).grownBy w6 (Value.ownBlock (.slice (some ⟨g,0,none⟩) k cap))):Ai w6 p c v1 (.slice (some ⟨g,0,none⟩) k cap)/\VG B p c v1 f (k+1) (w6.setCell ⟨p,2,none⟩ (.slice (some ⟨g',0,none⟩) (k+1) Ak)) g' Ak:=by have hb6:=h.box.grown h.owns o hg;have Ck:=h.low.trans (Co o h.owns h.low.size hg);refine⟨hb6,hb6.set2 _,?_,Ck.setCell h.place _,h.place⟩;rw[J3,hf];exact Eq BJ hb6 _ _
def SV(w:World)(c:Bool)(v1 v2 z:Value):
  let W:=(((w.alloc (.cells #[.bool c,v1,v2] 25)).alloc (.cells #[.bool false,.slice none 0 0,.slice none 0 0] 25)).alloc (.cells #[] 3)).alloc (.cells #[.bool c,z,.slice (some ⟨w.heap.size+1+1,0,none⟩) 0 0] 25)
  Ai W w.heap.size c v1 v2/\Ai W (w.heap.size+1) false (.slice none 0 0) (.slice none 0 0)/\BA W (w.heap.size+1+1) []/\Ai W (w.heap.size+1+1+1) c z (.slice (some ⟨w.heap.size+1+1,0,none⟩) 0 0)/\Below w.heap.size w W:=by
 refine⟨(((Ai.new w c v1 v2).alloc _).alloc _).alloc _,?_,?_,?_,(((AG.alloc AC _).alloc (by simp) _).alloc (by simp<;>omega) _).alloc (by simp<;>omega) _⟩
 .have:=((Ai.new (w.alloc (.cells #[.bool c,v1,v2] 25)) false (.slice none 0 0) (.slice none 0 0)).alloc (.cells #[] 3)).alloc (.cells #[.bool c,z,.slice (some ⟨w.heap.size+1+1,0,none⟩) 0 0] 25);simpa using this
 .have:=(BA.new ((w.alloc (.cells #[.bool c,v1,v2] 25)).alloc (.cells #[.bool false,.slice none 0 0,.slice none 0 0] 25))).alloc (.cells #[.bool c,z,.slice (some ⟨w.heap.size+1+1,0,none⟩) 0 0] 25);simpa using this
 .have:=Ai.new (((w.alloc (.cells #[.bool c,v1,v2] 25)).alloc (.cells #[.bool false,.slice none 0 0,.slice none 0 0] 25)).alloc (.cells #[] 3)) c z (.slice (some ⟨w.heap.size+1+1,0,none⟩) 0 0);simpa using this
def BA.drewN{w:World}{g:Nat}{zs:List Int}(h:BA w g zs)(n:Nat):BA (w.drewN n) g zs:=h
def Jh(c:Bool)(a1 a2 s1 z1:Option Addr)(n n2 m c1 c2 sc zc:Nat)(sh dt st zs:List Int)(w:World)(h1:AO w a1 n sh)(h2:AO w a2 n2 dt)(h3:AO w s1 m st)(h4:AO w z1 n zs)(hm:n<=m)(hok:AJ c sh dt=true)(hz:Am zs=true)(hst:∀k,k<n→-1000000000000000<=st.getD k 0/\st.getD k 0<=1000000000000000)(N:Nat)(hN:Ac zs=(N:Int)):Calls prog 199 #[.agg #[.bool c,.slice a1 n c1,.slice a2 n2 c2],.slice s1 m sc,.slice z1 n zc] w fun e w'=>∃g k,e=.returned (.agg #[.bool c,.slice z1 n zc,.slice (some ⟨g,0,none⟩) N k])/\AO w' (some ⟨g,0,none⟩) N (Bg (Em c sh dt st zs) N)/\Below w.heap.size w w':=by
 have hl1:=AD h1.len;have hl2:=AD h2.len;have hl4:=AD h4.len;have hs1:=h1.small;have hs2:=h2.small;have hs3:=h3.small;have H1:=AD h1;have H2:=AD h2;have H3:=AD h3;have H4:=AD h4;have HOK:=AD hok;have HZ:=AD hz;have HST:=AD hst;have HN:=AD hN;have hn5:n<=5:=by rw[<-h1.len];exact(AW hok).2.2
 have hN4:N<=10000:=by have:=(CS hz).2;omega
 obtain⟨f,hf⟩:∃f,f=Em c sh dt st zs:=⟨_,rfl⟩
 have HF:=AD hf;rw[<-hf];clear h1 h2 h3 h4 hok hz hst hN hf;obtain⟨i0,hi,hz0,hz1,hz2⟩:=info_parts A6;go_enter func199,ntmps199;obtain⟨hB0,hB1,hK0,hP0,hBW⟩:=SV w c (.slice a1 n c1) (.slice a2 n2 c2) (.slice z1 n zc);go_upto_region 2 with fail;generalize (((w.alloc (.cells #[.bool c,.slice a1 n c1,.slice a2 n2 c2] 25)).alloc (.cells #[.bool false,.slice none 0 0,.slice none 0 0] 25)).alloc (.cells #[] 3)).alloc (.cells #[.bool c,.slice z1 n zc,.slice (some ⟨w.heap.size+1+1,0,none⟩) 0 0] 25)=W at*;have HST0:=AD (VG.start f hP0 hK0 hBW (by omega) (by omega));have HB0:=AD hB0;have HB1:=AD hB1;have HBW:=AD hBW;clear hB0 hB1 hK0 hP0 hBW;go_wp2_with(go_at_call 48;refine(EY _ _ _ zs _ ((AA H4).below AC (AA HBW)) _ HN).mono ?_;rintro e wq⟨rfl,rfl⟩);go_loopw[9] (fun i wr=>∃P g cap,P<=N/\i=.int .i64 (P:Nat)/\Hid (VG w (w.heap.size+1+1+1) c (.slice z1 n zc) f P wr g cap)/\Hid (Ai wr w.heap.size c (.slice a1 n c1) (.slice a2 n2 c2))/\Hid (Ai wr (w.heap.size+1) false (.slice none 0 0) (.slice none 0 0))) (fun i _=>N- (intOf i).toNat);case atStart=>exact⟨0,_,0,AS _,rfl,HST0,HB0,HB1⟩
 case round=>
  obtain⟨wo,hwo⟩:∃x,x=wr:=⟨_,rfl⟩
  subst hwo;obtain⟨P,g,cap,hP,rfl,hst,hb0,hb1⟩:=hrel;clear HST0 HB0 HB1 HBW;by_cases hlt:P<N
  .have HFU:Hid (F0 zs):=FI (DE (AA HZ)).1 (by rw[Bs zs (AA HZ),AA HN];omega);obtain⟨D,hD⟩:∃D,D=BK zs (P:Nat):=⟨_,rfl⟩
   have hDl:D.length=n:=by rw[hD,De];exact AA hl4
   obtain⟨AX,hAX⟩:∃A,A=Jw D st:=⟨_,rfl⟩
   have hAl:AX.length=n:=by rw[hAX,VD];exact hDl
   have HFP:Hid (f P=if BX sh AX sh.length=true then(dt.getD (place sh AX).toNat 0,0)else(Ec c,0)):=by rw[AA HF,hAX,hD];rfl
   have HDI:Hid (GC zs D):=by rw[hD];exact Ek (AA HFU) _
   have HAX:=AD hAX;have HDL:=AD hDl;have HAL:=AD hAl;have HLW:=AD (AA hst).low;have hwz:=(AA hst).low.size;clear hAX hDl hAl;go_wp2_with(go_at_call 55;refine(Kx z1 n zc zs (P:Nat) wo ((AA H4).below AC (AA HLW)) (by omega) (fun k=>((DE (AA HZ)).1.cell k).2) (AA HFU) (by omega) (by omega)).mono ?_;rintro e w2⟨rfl,hK2,hb2⟩;rw[<-hD]at hK2;have HK2:=AD hK2;have HB2:=AD hb2;clear hK2 hb2);obtain⟨q,hq⟩:∃q,wo.heap.size=q:=⟨_,rfl⟩
   rw[hq]at HK2 HB2 ⊢;go_loopw[11,12] (fun b i wx=>∃k:Nat,k<=n/\i=.int .i64 (k:Nat)/\b=.bool (BX sh AX k)/\Hid (BA wx q (AX.take k++D.drop k))/\Hid (Below q wo wx)) (fun _ i _=>n- (intOf i).toNat);case atStart=>exact⟨0,AS _,rfl,rfl,by simpa using HK2,HB2⟩
   case round=>
    obtain⟨k,hk,rfl,rfl,hb,hbl⟩:=hrel;clear HK2 HB2 w2;have HLX:=AD ((AA HLW).trans ((AA hbl).mono (by omega)));obtain⟨x0,x1,x2,x3,x4,x5,x6⟩:=((AA hb0).below (by omega) (AA hbl)).all;by_cases hlk:k<n
    .have hkm:k<m:=by omega
     obtain⟨bz,oz,rfl,hbz,hcz⟩:=(AA H3).get hkm;have hcy:=((AA HLX).cell (p:=⟨bz,oz+k,none⟩) hbz).trans hcz;have hcx:=(AA hb).cell (i:=k) (by rw[PB (by rw[AA HAL,AA HDL]) (by rw[AA HDL];exact hk),AA HDL];exact hlk);rw[Ya (by rw[AA HAL,AA HDL]) (by rw[AA HDL];exact hlk)]at hcx;have hfx:=(AA hb).free k;have hsb:=AA HST k hlk;have hxi:=AA HDI k (by rw[AA hl4];exact hlk);have hzc:=((DE (AA HZ)).1.cell k).2;have HAK:Hid (AX.getD k 0=D.getD k 0+st.getD k 0):=by rw[AA HAX,VE _ _ _ (by rw[AA HDL];exact hlk)];exact rfl
     obtain⟨x,hx⟩:∃x,x=D.getD k 0:=⟨_,rfl⟩
     obtain⟨y,hy⟩:∃y,y=st.getD k 0:=⟨_,rfl⟩
     rw[<-hx]at hcx hxi HAK;rw[<-hy]at hcy hsb HAK;have hwr:IntKind.i64.wrap (x+y)=x+y:=by rw[IntKind.wrap_i64];omega
     clear hcz hx hy;go_upto_region 11 with fail;go_cut[] (fun wy=>BA wy q (AX.take (k+1)++D.drop (k+1))/\Below q wo wy);case first=>
      as_aux_lemma=>
       go_region
       all_goals go_wp2_with fail
       all_goals go_meet
       all_goals case rel=>
        refine⟨?_,?_⟩
        .rw[<-PA (by rw[AA HAL,AA HDL]) (by rw[AA HDL];exact hlk),AA HAK];exact(AA hb).drew.set k _
        .repeat(first|exact AA hbl|refine BF ?_|refine BU ?_ (by exact AC) _)
     case rest=>
      obtain⟨w3,hw3⟩:∃x,x=wc:=⟨_,rfl⟩
      subst hw3;obtain⟨hb',hbl'⟩:=hcut;have HB':=AD hb';have HBL':=AD hbl';have HLY:=AD ((AA HLW).trans (hbl'.mono (by omega)));obtain⟨bs,os,rfl,hbs,hcs⟩:=(AA H1).get hlk;have hcs':=((AA HLY).cell (p:=⟨bs,os+k,none⟩) hbs).trans hcs;have hcz:=hb'.cell (i:=k) (by rw[PB (by rw[AA HAL,AA HDL]) (by rw[AA HDL];omega),AA HDL];exact hlk);have e9:(AX.take (k+1)++D.drop (k+1)).getD k 0=x+y:=by rw[<-AA HAK];exact YZ (by rw[AA HAL];exact hlk)
      rw[e9]at hcz;obtain⟨s,hse⟩:∃s,s=sh.getD k 0:=⟨_,rfl⟩
      rw[<-hse]at hcs';have HIN:Hid (BX sh AX (k+1)=(BX sh AX k&&(decide (0<=x+y)&&decide (x+y<s)))):=by rw[<-AA HAK,hse];exact rfl
      obtain⟨x0,x1,x2,x3,x4,x5,x6⟩:=((AA hb0).below (by omega) hbl').all;obtain⟨ib,hib⟩:∃b,b=BX sh AX k:=⟨_,rfl⟩
      rw[<-hib]at HIN ⊢;obtain⟨z,hz⟩:∃z,z=x+y:=⟨_,rfl⟩
      rw[<-hz]at HIN hcz;clear hb' hbl' hcs e9 hse hib hcx hcy hfx hwr hz hxi hsb HAK hbz hb hbl HLX;cases ib with
      |false=>
       go_wp2_with fail;go_quiet(fail);go_wp2_with fail;go_roundw;case rel=>exact⟨k+1,by omega,by go_num,by rw[AA HIN];rfl,BA.drewN (AA HB') nq,Below.drewN (AA HBL') nq⟩
       case measure=>simp[intOf];omega
      |true=>
       by_cases hz0:0<=z
       .have g1:decide (0<=z)=true:=AL hz0;by_cases hzs:z<s
        .have HIV:Hid (BX sh AX (k+1)=true):=by rw[AA HIN];show(true&&(decide (0<=z)&&decide (z<s)))=true;rw[AL hz0,AL hzs];rfl
         go_wp2_with fail;go_quiet(fail);go_wp2_with fail;go_roundw;case rel=>exact⟨k+1,by omega,by go_num,by rw[AA HIV],BA.drewN (AA HB') nq,Below.drewN (AA HBL') nq⟩
         case measure=>simp[intOf];omega
        .have HIV:Hid (BX sh AX (k+1)=false):=by rw[AA HIN];show(true&&(decide (0<=z)&&decide (z<s)))=false;rw[AL hz0,AK hzs];rfl
         go_wp2_with fail;go_quiet(fail);go_wp2_with fail;go_roundw;case rel=>exact⟨k+1,by omega,by go_num,by rw[AA HIV,AK (by omega)],BA.drewN (AA HB') nq,Below.drewN (AA HBL') nq⟩
         case measure=>simp[intOf];omega
       .have HIV:Hid (BX sh AX (k+1)=false):=by rw[AA HIN];show(true&&(decide (0<=z)&&decide (z<s)))=false;rw[AK hz0];rfl
        have g1:decide (0<=z)=false:=AK hz0;have g2:z<0:=by omega
        go_wp2_with fail;go_quiet(fail);go_wp2_with fail;go_roundw;case rel=>exact⟨k+1,by omega,by go_num,by rw[AA HIV],BA.drewN (AA HB') nq,Below.drewN (AA HBL') nq⟩
        case measure=>simp[intOf];omega
    .have hkn:k=n:=by omega
     subst hkn;have HST2:=AD ((AA hst).below (by rw[hq];exact AA hbl));have HC0:=AD ((AA hb0).below (by omega) (AA hbl));have HC1:=AD ((AA hb1).below (by omega) (AA hbl));have HAB:Hid (BA wr q AX):=by
      have:=AA hb
      rwa [AV (by rw[AA HAL];exact AC),List.drop_of_length_le (by rw[AA HDL];exact AC),Fd]at this
     clear hst hb0 hb1 hb hbl HLW;obtain⟨ib,hib⟩:∃b,BX sh AX k=b:=⟨_,rfl⟩
     rw[hib];have HIB:Hid (BX sh AX sh.length=ib):=by rw[AA hl1];exact hib
     clear hib;cases ib with
     |false=>
      obtain⟨r1,hr1⟩:∃r,r=Ec c:=⟨_,rfl⟩
      have HR:Hid ((f P).1=r1):=by rw[AA HFP,AH (by rw[AA HIB];simp),hr1];exact rfl
      have hcall:=Ix c wr;rw[<-hr1]at hcall;clear hr1;go_upto_region 16 with(go_at_call 74;refine hcall.mono ?_;rintro e w4⟨rfl,hw⟩;obtain rfl:=hw.symm);clear hcall x0 x1 x2 x3 x4 x5 x6;have hS:=AA HST2;have BJ:=hS.owns;have Ck:=hS.low.size;obtain⟨y0,y1,y2,y3,y4,y5,y6⟩:=hS.box.all;go_wp2_with(at_builtin;refine wpList_append_lies _ rfl _ _ 23 rfl w.heap.size 3 i0 (.int .i64 0) 1 8 underlying23 hi hz0 hz1 hz2 rfl (by decide) _ _ _ rfl (BJ.alloc _) ⟨wr.heap.size,0,none⟩ 1 1 [.int .i64 r1] rfl rfl (Bp _ _) (CD _) (by omega) (by unfold maxLen;omega) (by omega) (by simp;omega) (wr.heap.size+1) (by simp) ?_;intro g' Ak w7 BL An hat GB;obtain⟨hb7,hst7⟩:=hS.push _ (AA HR) BL An;have hc0:=(AA HC0).grown BJ _ An;have hc1:=(AA HC1).grown BJ _ An;obtain⟨z0',z1',z2',z3',z4',z5',z6'⟩:=hb7.all;clear An hat BL);go_roundw;case rel=>exact⟨P+1,g',Ak,by omega,by go_num,hst7,hc0.other (by simp;omega) _,hc1.other (by simp) _⟩
      case measure=>simp[intOf];omega
     |true=>
      have hin:=KO (AA HIB);have hpb:=Fp hin;obtain⟨hsin,hpl,_⟩:=AW (AA HOK);rw[hpl,AA hl2]at hpb;obtain⟨j,hj⟩:∃j:Nat,place sh AX=(j:Int):=⟨(place sh AX).toNat,by omega⟩
      have hjl:j<n2:=by omega
      obtain⟨bd,od,rfl,hbd,hcd⟩:=(AA H2).get hjl;have hcd':=((AA HLX).cell (p:=⟨bd,od+j,none⟩) hbd).trans hcd;obtain⟨r1,hr1⟩:∃r,r=dt.getD j 0:=⟨_,rfl⟩
      rw[<-hr1]at hcd';have HR:Hid ((f P).1=r1):=by rw[AA HFP,AI (AA HIB),hr1,hj];exact rfl
      have hbdl:bd<wr.heap.size:=AZ hbd (AA HLX).size;have hcall:=Ix c wr;have HCA:Hid (∀wy,Below wr.heap.size wr wy->Calls prog 56 #[.slice a1 k c1,.slice (some ⟨q,0,none⟩) k k] wy fun e w'=>e=.returned (.int .i64 (j:Nat))/\Below wy.heap.size wy w'):=by intro wy hwy;rw[<-hj];exact Qf a1 _ k c1 k k sh AX wy (((AA H1).below AC (AA HLX)).below AC hwy) (((AA HAB).below AC hwy).row (AA HAL) (by omega)) AC hsin hin
      clear hin hpb hsin hpl hj hr1 hcd;go_upto_region 15 with(go_at_call 74;refine hcall.mono ?_;rintro e w4⟨rfl,hw⟩;obtain rfl:=hw.symm);clear hcall;go_cut[13] (fun v wy=>v=.int .i64 r1/\Below wr.heap.size wr wy);case first=>
       as_aux_lemma=>
        have HKEEP:∀wy,Below wr.heap.size wr wy->Below wr.heap.size wr wy/\wy.cell? ⟨w.heap.size,1,none⟩=some (.slice a1 k c1)/\wy.cell? ⟨w.heap.size,2,none⟩=some (.slice (some ⟨bd,od,none⟩) n2 c2)/\wy.cell? ⟨bd,od+j,none⟩=some (.int .i64 r1):=fun wy hwy=>⟨hwy,((AA HC0).below AC hwy).cells.2.1,((AA HC0).below AC hwy).cells.2.2,(hwy.cell (p:=⟨bd,od+j,none⟩) hbdl).trans hcd'⟩
        go_region_held3 (fun wy=>Below wr.heap.size wr wy/\wy.cell? ⟨w.heap.size,1,none⟩=some (.slice a1 k c1)/\wy.cell? ⟨w.heap.size,2,none⟩=some (.slice (some ⟨bd,od,none⟩) n2 c2)/\wy.cell? ⟨bd,od+j,none⟩=some (.int .i64 r1)) (first|exact HKEEP _ hKA|exact HKEEP _ AG.drew|exact HKEEP _ AG) (first|(go_at_call 56;refine(AA HCA _ (by exact AG.drew)).mono ?_;rintro e wA⟨rfl,hbA⟩;have hKA:Below wr.heap.size wr wA:=AG.drew.trans (hbA.mono (by simp))))
        all_goals go_wp2_with fail
        all_goals go_meet
        all_goals case rel=>exact⟨rfl,hKA⟩
      case rest=>
       obtain⟨w5,hw5⟩:∃x,x=wc:=⟨_,rfl⟩
       subst hw5;obtain⟨rfl,hb5⟩:=hcut;have HST3:=AD ((AA HST2).below hb5);have HD0:=AD ((AA HC0).below AC hb5);have HD1:=AD ((AA HC1).below AC hb5);clear hb5 HCA HST2 HC0 HC1 HAB x0 x1 x2 x3 x4 x5 x6 hcd';have hS:=AA HST3;have BJ:=hS.owns;have Ck:=hS.low.size;obtain⟨y0,y1,y2,y3,y4,y5,y6⟩:=hS.box.all;go_wp2_with(at_builtin;refine wpList_append_lies _ rfl _ _ 23 rfl w.heap.size 3 i0 (.int .i64 0) 1 8 underlying23 hi hz0 hz1 hz2 rfl (by decide) _ _ _ rfl (BJ.alloc _) ⟨w5.heap.size,0,none⟩ 1 1 [.int .i64 r1] rfl rfl (Bp _ _) (CD _) (by omega) (by unfold maxLen;omega) (by omega) (by simp;omega) (w5.heap.size+1) (by simp) ?_;intro g' Ak w7 BL An hat GB;obtain⟨hb7,hst7⟩:=hS.push _ (AA HR) BL An;have hc0:=(AA HD0).grown BJ _ An;have hc1:=(AA HD1).grown BJ _ An;obtain⟨z0',z1',z2',z3',z4',z5',z6'⟩:=hb7.all;clear An hat BL);go_roundw;case rel=>exact⟨P+1,g',Ak,by omega,by go_num,hst7,hc0.other (by simp;omega) _,hc1.other (by simp) _⟩
       case measure=>simp[intOf];omega
  .have hPN:P=N:=by omega
   subst hPN;obtain⟨x0,x1,x2,x3,x4,x5,x6⟩:=(AA hb1).all;obtain⟨y0,y1,y2,y3,y4,y5,y6⟩:=(AA hst).box.all;have HLW:=AD (AA hst).low;obtain⟨ad',cd,hv,hD⟩:=Bt.of_owns (AA hst).owns (by omega);cases hv;have HD:=AD hD;have HBB:=AD (AA hb1);clear hst hb0 hb1 hD
   go_wp2
   refine bodyPost_ret (v:=.agg #[.bool c,.slice z1 n zc,.slice (some ⟨g,0,none⟩) P cap]) (by simp[results,results199,go_sem,x0,x1,x2]) rfl ?_;exact⟨g,cap,rfl,(AA HD).row.sets (AA HBB) _ _ _,(((AA HLW).setCell (by simp) _).setCell (by simp) _).setCell (by simp) _⟩
def cF:Array Oper:= #[{dst:=some 115,op:=Op.fieldAddr 25 (Operand.tmp 8) 2,type:=0,pos:= "l5_shape.go:187",after:= #[],guard:=none},{dst:=some 116,op:=Op.load 23 (Operand.tmp 115),type:=23,pos:= "l5_shape.go:187",after:= #[{on:=0,ground:=Ground.data}],guard:=none},{dst:=some 117,op:=Op.fieldAddr 25 (Operand.tmp 3) 2,type:=0,pos:= "l5_shape.go:187",after:= #[],guard:=none},{dst:=some 118,op:=Op.load 23 (Operand.tmp 117),type:=23,pos:= "l5_shape.go:187",after:= #[{on:=2,ground:=Ground.data}],guard:=none},{dst:=some 119,op:=Op.fieldAddr 25 (Operand.tmp 3) 1,type:=0,pos:= "l5_shape.go:187",after:= #[],guard:=none},{dst:=some 120,op:=Op.load 23 (Operand.tmp 119),type:=23,pos:= "l5_shape.go:187",after:= #[{on:=4,ground:=Ground.data}],guard:=none},{dst:=some 121,op:=Op.move (Operand.tmp 14),type:=23,pos:= "l5_shape.go:187",after:= #[],guard:=none},{dst:=some 122,op:=Op.call {callee:=Callee.value (Operand.func 56),args:= #[Operand.tmp 120,Operand.tmp 121],argTypes:= #[23,23]},type:=3,pos:= "l5_shape.go:187",after:= #[{on:=5,ground:=Ground.data},{on:=6,ground:=Ground.data}],guard:=none},{dst:=some 123,op:=Op.indexAddr 23 (Operand.tmp 118) (Operand.tmp 122),type:=0,pos:= "l5_shape.go:187",after:= #[{on:=3,ground:=Ground.data},{on:=7,ground:=Ground.data}],guard:=none},{dst:=some 124,op:=Op.load 3 (Operand.tmp 123),type:=3,pos:= "l5_shape.go:187",after:= #[{on:=8,ground:=Ground.data}],guard:=none},{dst:=some 125,op:=Op.buildSlice 23 1 #[(0,Operand.tmp 124)],type:=23,pos:= "l5_shape.go:187",after:= #[{on:=9,ground:=Ground.data}],guard:=none},{dst:=some 126,op:=Op.call {callee:=Callee.builtin Builtin.append,args:= #[Operand.tmp 116,Operand.tmp 125],argTypes:= #[23,23]},type:=23,pos:= "l5_shape.go:187",after:= #[{on:=1,ground:=Ground.data},{on:=10,ground:=Ground.data},{on:=7,ground:=Ground.chain}],guard:=none},{dst:=some 127,op:=Op.fieldAddr 25 (Operand.tmp 8) 2,type:=0,pos:= "l5_shape.go:187",after:= #[{on:=0,ground:=Ground.phase},{on:=1,ground:=Ground.phase},{on:=2,ground:=Ground.phase},{on:=3,ground:=Ground.phase},{on:=4,ground:=Ground.phase},{on:=5,ground:=Ground.phase},{on:=6,ground:=Ground.phase},{on:=7,ground:=Ground.phase},{on:=8,ground:=Ground.phase},{on:=9,ground:=Ground.phase},{on:=10,ground:=Ground.phase},{on:=11,ground:=Ground.phase}],guard:=none},{dst:=none,op:=Op.store 23 (Operand.tmp 127) (Operand.tmp 126),type:=0,pos:= "l5_shape.go:187",after:= #[{on:=12,ground:=Ground.data},{on:=11,ground:=Ground.data},{on:=11,ground:=Ground.chain},{on:=0,ground:=Ground.phase},{on:=1,ground:=Ground.phase},{on:=2,ground:=Ground.phase},{on:=3,ground:=Ground.phase},{on:=4,ground:=Ground.phase},{on:=5,ground:=Ground.phase},{on:=6,ground:=Ground.phase},{on:=7,ground:=Ground.phase},{on:=8,ground:=Ground.phase},{on:=9,ground:=Ground.phase},{on:=10,ground:=Ground.phase},{on:=11,ground:=Ground.phase}],guard:=none}]
section
variable {o:Oper}{a:Act}
def YE(x:Operand)(b k:Nat)(hk:k=1\/k=2)(ho:o.op=.fieldAddr 25 x k)(hx:a.eval x=.pointer (some ⟨b,0,none⟩))(w:World):(execOp a.eval o).run prog w=.ok (.value (.pointer (some ⟨b,k,none⟩))) w:=by
 unfold execOp;rcases hk with rfl|rfl
 .simp only[ho,hx]
  go_simp
 .simp only[ho,hx]
  go_simp
def ZP(x:Operand)(p:Addr){s:Option Addr}{l c:Nat}(ho:o.op=.load 23 x)(hx:a.eval x=.pointer (some p))(w:World)(hc:w.cell? p=some (.slice s l c)):(execOp a.eval o).run prog w=.ok (.value (.slice s l c)) w:=by
 unfold execOp;simp only[ho,hx]
 go_simp
def bu(x:Operand)(p:Addr){z:Int}(ho:o.op=.load 3 x)(hx:a.eval x=.pointer (some p))(w:World)(hc:w.cell? p=some (.int .i64 z)):(execOp a.eval o).run prog w=.ok (.value (.int .i64 z)) w:=by
 unfold execOp;simp only[ho,hx]
 go_simp
def br(x:Operand){v:Value}(ho:o.op=.move x)(hx:a.eval x=v)(w:World):(execOp a.eval o).run prog w=.ok (.value v) w:=by
 unfold execOp;simp only[ho,hx]
 go_simp
def bo(x y:Operand){b off m c J:Nat}(ho:o.op=.indexAddr 23 x y)(hx:a.eval x=.slice (some ⟨b,off,none⟩) m c)(hy:a.eval y=.int .i64 (J:Nat))(hJ:J<m)(w:World):(execOp a.eval o).run prog w=.ok (.value (.pointer (some ⟨b,off+J,none⟩))) w:=by
 have h1:(J:Int)<(m:Int):=by omega
 unfold execOp;simp only[ho,hx,hy]
 go_simp
def bw(t:Nat){z:Int}(ho:o.op=.buildSlice 23 1 #[(0,.tmp t)])(hx:a.eval (.tmp t)=.int .i64 z)(w:World):(execOp a.eval o).run prog w=.ok (.value (.slice (some ⟨w.heap.size,0,none⟩) 1 1)) (w.alloc (.cells #[.int .i64 z] 3)):=by
 have hx':a.tmps[t]?.getD undef=.int .i64 z:=by simpa[Act.eval]using hx
 unfold execOp;simp only[ho]
 go_simp
def bp(x y:Operand)(p:Nat){v1:Value}{s:Option Addr}{l c:Nat}(ho:o.op=.store 23 x y)(hx:a.eval x=.pointer (some ⟨p,2,none⟩))(hy:a.eval y=.slice s l c)(w:World)(hc:w.cell? ⟨p,2,none⟩=some v1)(hf:w.frozen? ⟨p,2,none⟩=false):(execOp a.eval o).run prog w=.ok .skip (w.setCell ⟨p,2,none⟩ (.slice s l c)):=by
 unfold execOp;simp only[ho,hx,hy]
 go_simp
end
def bv{K:Act->World->Prop}{Q:Exit->Act->World->Prop}{o:Oper}{a:Act}{w:World}(x y:Operand){u v:Value}(ho:o.op=.call {callee:=.value (.func 56),args:= #[x,y],argTypes:= #[23,23]})(hx:a.eval x=u)(hy:a.eval y=v)(h:Calls prog 56 #[u,v] w fun|.returned r,w'=>K (a.put o.dst r) w'|.panicked c,w'=>Q (.panic c) a w'|.outgrown,_=>LetsOut Q):o.wp prog a w K Q:=by
 have e:(execOp a.eval o).run prog w=.ok (.enter 56 #[u,v]) w:=by
  unfold execOp;simp only[ho]
  go_simp
  rw[<-hx,<-hy];exact⟨by cases x<;>simp[Act.eval],by cases y<;>simp[Act.eval]⟩
 unfold Oper.wp;rw[e];exact h
def ZZ(a:Act)(p b5:Nat)(vO vD vS vF:Value)(J:Nat)(pd:Addr)(x:Int)(hb:Nat)(v':Value):Act:=((((((((((((a.put (some 115) (.pointer (some ⟨p,2,none⟩))).put (some 116) vO).put (some 117) (.pointer (some ⟨b5,2,none⟩))).put (some 118) vD).put (some 119) (.pointer (some ⟨b5,1,none⟩))).put (some 120) vS).put (some 121) vF).put (some 122) (.int .i64 (J:Nat))).put (some 123) (.pointer (some pd))).put (some 124) (.int .i64 x)).put (some 125) (.slice (some ⟨hb,0,none⟩) 1 1)).put (some 126) v').put (some 127) (.pointer (some ⟨p,2,none⟩))
def YP{Q:Exit->Act->World->Prop}(a:Act)(W:World)(hsz:129<=a.tmps.size)(p b5:Nat)(h8:a.eval (.tmp 8)=.pointer (some ⟨p,0,none⟩))(h3:a.eval (.tmp 3)=.pointer (some ⟨b5,0,none⟩))(vF:Value)(h14:a.eval (.tmp 14)=vF)(g P cap:Nat)(xs:List Value)(bd od m2 d2 J:Nat)(b1:Option Addr)(n d1:Nat)(x:Int)(base:Nat)(hJ:J<m2)(hP:P<=1000000)(S:World->Prop)(hS:∀wx,S wx->wx.cell? ⟨p,2,none⟩=some (.slice (some ⟨g,0,none⟩) P cap)/\wx.cell? ⟨b5,2,none⟩=some (.slice (some ⟨bd,od,none⟩) m2 d2)/\wx.cell? ⟨b5,1,none⟩=some (.slice b1 n d1)/\wx.cell? ⟨bd,od+J,none⟩=some (.int .i64 x)/\wx.frozen? ⟨p,2,none⟩=false)(HK:∀wx,Below W.heap.size W wx->S wx)(HC:∀wx,Below W.heap.size W wx->Calls prog 56 #[.slice b1 n d1,vF] wx fun e w'=>e=.returned (.int .i64 (J:Nat))/\Below wx.heap.size wx w')(BJ:W.ownsRow base 3 1 (.slice (some ⟨g,0,none⟩) P cap) P xs)(hbase:base<=W.heap.size)(HA:∀wx w7,Below W.heap.size W wx->(wx.alloc (.cells #[.int .i64 x] 3)).grownBy w7 (some g)->S w7)(hQ:∀c a(d:Nat)v w,Q (.panic c) (a.put (some d) v) w->Q (.panic c) a w)(hend:∀wx g' Ak w7,Below W.heap.size W wx->w7.ownsRow base 3 1 (.slice (some ⟨g',0,none⟩) (P+1) Ak) (P+1) (xs++ [.int .i64 x])->(wx.alloc (.cells #[.int .i64 x] 3)).grownBy w7 (Value.ownBlock (.slice (some ⟨g,0,none⟩) P cap))->(Value.ownBlock (.slice (some ⟨g,0,none⟩) P cap)=some g'\/g'=wx.heap.size+1)->Q .normal (ZZ a p b5 (.slice (some ⟨g,0,none⟩) P cap) (.slice (some ⟨bd,od,none⟩) m2 d2) (.slice b1 n d1) vF J ⟨bd,od+J,none⟩ x wx.heap.size (.slice (some ⟨g',0,none⟩) (P+1) Ak)) (w7.setCell ⟨p,2,none⟩ (.slice (some ⟨g',0,none⟩) (P+1) Ak))):(Code.region 28 cF true).wp prog Q a W:=by
 have hb0:Below W.heap.size W {W with drawn:=W.drawn+1}:=AG.drew;have hS0:=HK _ hb0;obtain⟨i0,hi,hz0,hz1,hz2⟩:=info_parts A6;refine FL S 13 (by kernel_rfl) ?_;show CN _ _ _ _ _ _ (13+1) _ _ _;refine AQ 0 115 (.pointer (some ⟨p,2,none⟩)) rfl rfl (by kernel_rfl) (by kernel_rfl) (by kernel_rfl) (by kernel_rfl) hQ rfl (fun w _=>YE (.tmp 8) p 2 (.inr rfl) rfl h8 w) hS0 ?_;refine AQ 1 116 (.slice (some ⟨g,0,none⟩) P cap) rfl rfl (by kernel_rfl) (by kernel_rfl) (by kernel_rfl) (by kernel_rfl) hQ rfl (fun w hw=>ZP (.tmp 115) _ rfl (Ad (by omega)) w (hS w hw).1) hS0 ?_;refine AQ 2 117 (.pointer (some ⟨b5,2,none⟩)) rfl rfl (by kernel_rfl) (by kernel_rfl) (by kernel_rfl) (by kernel_rfl) hQ rfl (fun w _=>YE (.tmp 3) b5 2 (.inr rfl) rfl (by rw[AF (by decide),AF (by decide)];exact h3) w) hS0 ?_;refine AQ 3 118 (.slice (some ⟨bd,od,none⟩) m2 d2) rfl rfl (by kernel_rfl) (by kernel_rfl) (by kernel_rfl) (by kernel_rfl) hQ rfl (fun w hw=>ZP (.tmp 117) _ rfl (Ad (by rw[AE,AE];omega)) w (hS w hw).2.1) hS0 ?_;refine AQ 4 119 (.pointer (some ⟨b5,1,none⟩)) rfl rfl (by kernel_rfl) (by kernel_rfl) (by kernel_rfl) (by kernel_rfl) hQ rfl (fun w _=>YE (.tmp 3) b5 1 (.inl rfl) rfl (by rw[AF (by decide),AF (by decide),AF (by decide),AF (by decide)];exact h3) w) hS0 ?_;refine AQ 5 120 (.slice b1 n d1) rfl rfl (by kernel_rfl) (by kernel_rfl) (by kernel_rfl) (by kernel_rfl) hQ rfl (fun w hw=>ZP (.tmp 119) _ rfl (Ad (by rw[AE,AE,AE,AE];omega)) w (hS w hw).2.2.1) hS0 ?_;refine AQ 6 121 (vF) rfl rfl (by kernel_rfl) (by kernel_rfl) (by kernel_rfl) (by kernel_rfl) hQ rfl (fun w _=>br (.tmp 14) rfl (by rw[AF (by decide),AF (by decide),AF (by decide),AF (by decide),AF (by decide),AF (by decide)];exact h14) w) hS0 ?_;refine B9 (i:=7) (by kernel_rfl) ?_;refine FP rfl rfl ?_;have q1:(((((((a.put (some 115) (.pointer (some ⟨p,2,none⟩))).put (some 116) (.slice (some ⟨g,0,none⟩) P cap)).put (some 117) (.pointer (some ⟨b5,2,none⟩))).put (some 118) (.slice (some ⟨bd,od,none⟩) m2 d2)).put (some 119) (.pointer (some ⟨b5,1,none⟩))).put (some 120) (.slice b1 n d1)).put (some 121) vF).eval (.tmp 120)=.slice b1 n d1:=by rw[AF (by decide)];exact Ad (by rw[AE,AE,AE,AE,AE];omega)
 have q2:(((((((a.put (some 115) (.pointer (some ⟨p,2,none⟩))).put (some 116) (.slice (some ⟨g,0,none⟩) P cap)).put (some 117) (.pointer (some ⟨b5,2,none⟩))).put (some 118) (.slice (some ⟨bd,od,none⟩) m2 d2)).put (some 119) (.pointer (some ⟨b5,1,none⟩))).put (some 120) (.slice b1 n d1)).put (some 121) vF).eval (.tmp 121)=vF:=Ad (by rw[AE,AE,AE,AE,AE,AE];omega);have q3:(((((((a.put (some 115) (.pointer (some ⟨p,2,none⟩))).put (some 116) (.slice (some ⟨g,0,none⟩) P cap)).put (some 117) (.pointer (some ⟨b5,2,none⟩))).put (some 118) (.slice (some ⟨bd,od,none⟩) m2 d2)).put (some 119) (.pointer (some ⟨b5,1,none⟩))).put (some 120) (.slice b1 n d1)).put (some 121) vF).eval (.tmp 118)=.slice (some ⟨bd,od,none⟩) m2 d2:=by rw[AF (by decide),AF (by decide),AF (by decide)];exact Ad (by rw[AE,AE,AE];omega)
 have q4:(((((((a.put (some 115) (.pointer (some ⟨p,2,none⟩))).put (some 116) (.slice (some ⟨g,0,none⟩) P cap)).put (some 117) (.pointer (some ⟨b5,2,none⟩))).put (some 118) (.slice (some ⟨bd,od,none⟩) m2 d2)).put (some 119) (.pointer (some ⟨b5,1,none⟩))).put (some 120) (.slice b1 n d1)).put (some 121) vF).eval (.tmp 116)=.slice (some ⟨g,0,none⟩) P cap:=by rw[AF (by decide),AF (by decide),AF (by decide),AF (by decide),AF (by decide)];exact Ad (by rw[AE];omega)
 have q5:(((((((a.put (some 115) (.pointer (some ⟨p,2,none⟩))).put (some 116) (.slice (some ⟨g,0,none⟩) P cap)).put (some 117) (.pointer (some ⟨b5,2,none⟩))).put (some 118) (.slice (some ⟨bd,od,none⟩) m2 d2)).put (some 119) (.pointer (some ⟨b5,1,none⟩))).put (some 120) (.slice b1 n d1)).put (some 121) vF).eval (.tmp 8)=.pointer (some ⟨p,0,none⟩):=by rw[AF (by decide),AF (by decide),AF (by decide),AF (by decide),AF (by decide),AF (by decide),AF (by decide)];exact h8
 have q6:129<=(((((((a.put (some 115) (.pointer (some ⟨p,2,none⟩))).put (some 116) (.slice (some ⟨g,0,none⟩) P cap)).put (some 117) (.pointer (some ⟨b5,2,none⟩))).put (some 118) (.slice (some ⟨bd,od,none⟩) m2 d2)).put (some 119) (.pointer (some ⟨b5,1,none⟩))).put (some 120) (.slice b1 n d1)).put (some 121) vF).tmps.size:=by rw[AE,AE,AE,AE,AE,AE,AE];exact hsz
 unfold ZZ at hend;generalize (((((((a.put (some 115) (.pointer (some ⟨p,2,none⟩))).put (some 116) (.slice (some ⟨g,0,none⟩) P cap)).put (some 117) (.pointer (some ⟨b5,2,none⟩))).put (some 118) (.slice (some ⟨bd,od,none⟩) m2 d2)).put (some 119) (.pointer (some ⟨b5,1,none⟩))).put (some 120) (.slice b1 n d1)).put (some 121) vF)=A at*;refine bv (.tmp 120) (.tmp 121) rfl q1 q2 ((HC _ hb0).mono ?_);rintro e w2⟨rfl,hb2⟩;have hbw:Below W.heap.size W w2:=hb0.trans hb2;have hS2:=HK _ hbw;refine⟨fun _=>hS2,?_⟩;show CN _ _ _ _ _ _ (5+1) _ (A.put (some 122) _) _;refine AQ 8 123 (.pointer (some ⟨bd,od+J,none⟩)) rfl rfl (by kernel_rfl) (by kernel_rfl) (by kernel_rfl) (by kernel_rfl) hQ rfl (fun w _=>bo (.tmp 118) (.tmp 122) rfl (by rw[AF (by decide)];exact q3) (Ad (by omega)) hJ w) hS2 ?_;refine AQ 9 124 (.int .i64 x) rfl rfl (by kernel_rfl) (by kernel_rfl) (by kernel_rfl) (by kernel_rfl) hQ rfl (fun w hw=>bu (.tmp 123) _ rfl (Ad (by rw[AE];omega)) w (hS w hw).2.2.2.1) hS2 ?_;refine B9 (i:=10) (by kernel_rfl) ?_;refine FP rfl rfl ?_;unfold Oper.wp;rw[bw 124 rfl (Ad (by rw[AE,AE];omega)) w2];have hbx:Below W.heap.size W (w2.alloc (.cells #[.int .i64 x] 3)):=hbw.alloc hbw.size _;refine⟨fun _=>HK _ hbx,?_⟩;show CN _ _ _ _ _ _ (2+1) _ ((((A.put (some 122) _).put (some 123) _).put (some 124) _).put (some 125) _) _;refine B9 (i:=11) (by kernel_rfl) ?_;refine FP rfl rfl ?_;refine wp_append_lies _ (.tmp 116) (.tmp 125) 23 rfl base 3 i0 (.int .i64 0) 1 8 underlying23 hi hz0 hz1 hz2 rfl (by decide) (.slice (some ⟨g,0,none⟩) P cap) P xs (by rw[AF (by decide),AF (by decide),AF (by decide),AF (by decide)];exact q4) (BN BJ AC hbx) ⟨w2.heap.size,0,none⟩ 1 1 [.int .i64 x] (Ad (by rw[AE,AE,AE];omega)) rfl (Bp _ _) (CD _) (by omega) (by unfold maxLen;omega) (by omega) (by have:=hbw.size;simp;omega) (w2.heap.size+1) (by simp) ?_;intro g' Ak w7 hown7 An hat hlt;have hS7:=HA w2 w7 hbw An;refine⟨fun _=>hS7,?_⟩;show CN _ _ _ _ _ _ (1+1) _ (((((A.put (some 122) _).put (some 123) _).put (some 124) _).put (some 125) _).put (some 126) _) _;refine AQ 12 127 (.pointer (some ⟨p,2,none⟩)) rfl rfl (by kernel_rfl) (by kernel_rfl) (by kernel_rfl) (by kernel_rfl) hQ rfl (fun w _=>YE (.tmp 8) p 2 (.inr rfl) rfl (by rw[AF (by decide),AF (by decide),AF (by decide),AF (by decide),AF (by decide)];exact q5) w) hS7 ?_;refine B9 (i:=13) (by kernel_rfl) ?_;refine FP rfl rfl ?_;unfold Oper.wp;rw[bp (.tmp 127) (.tmp 126) p (s:=some ⟨g',0,none⟩) (l:=P+1) (c:=Ak) rfl (Ad (by rw[AE,AE,AE,AE,AE];omega)) (by rw[AF (by decide)];exact Ad (by rw[AE,AE,AE,AE];omega)) w7 (hS w7 hS7).1 (hS w7 hS7).2.2.2.2];refine⟨fun h=>absurd rfl h,?_⟩;refine Eh (by kernel_rfl) ?_ _;exact hend w2 g' Ak w7 hbw hown7 An hat
def Ai.set1{w:World}{p:Nat}{c:Bool}{v1 v2:Value}(h:Ai w p c v1 v2)(v:Value):Ai (w.setCell ⟨p,1,none⟩ v) p c v v2:=by unfold Ai at h ⊢;rw[Bj w p 1 _ _ _ h];simp
def Pi(w:World)(d:Bool)(r:Int)(n2 m2:Nat)(zs dt:List Int)(e:Ending)(w':World):Prop:=(∃e1 l1 f1 e2 l2 f2,e=.returned (.tuple #[.agg #[.bool d,.slice e1 l1 f1,.slice e2 l2 f2],.int .i64 r])/\(r=0->l1=n2/\l2=m2/\AO w' e1 n2 zs/\AO w' e2 m2 dt))/\Below w.heap.size w w'
def Ig(c d:Bool)(a1 a2 b1 b2:Addr)(n1 n2 m1 m2 c1 c2 d1 d2:Nat)(sh dt sh' dt':List Int)(w:World)(h1:AO w (some a1) n1 sh)(h2:AO w (some a2) n2 dt)(k1:AO w (some b1) m1 sh')(k2:AO w (some b2) m2 dt')(r:Int)(hr:Bv c n1 n2 m1=r):Calls prog 197 #[.agg #[.bool c,.slice (some a1) n1 c1,.slice (some a2) n2 c2],.agg #[.bool d,.slice (some b1) m1 d1,.slice (some b2) m2 d2]] w (Pi w d r n2 m2 (Al n2 sh') dt'):=by
 have hl3:=AD k1.len;have hs1:=h1.small;have hs2:=h2.small;have hs3:=k1.small;have K1:=AD k1;have K2:=AD k2;have HRR:=AD hr;clear h1 h2 k1 k2 hr;obtain⟨q,hq⟩:∃q,Ae c n1=q:=⟨_,rfl⟩
 have HQ:=AD hq;clear hq;go_enter func197,ntmps197;go_wp2_with fail;refine(EX c _ _ _ _ _ hs1 q HQ).mono ?_;rintro e w1⟨rfl,hb1⟩;obtain⟨B4,B5,B6,hB1⟩:=Az hb1;have C4:=AD B4;have C5:=AD B5;have C6:=AD B6;have HW1:=AD hB1;obtain⟨x0,x1,x2,x3,x4,x5,x6⟩:=B4.all;obtain⟨y0,y1,y2,y3,y4,y5,y6⟩:=B5.all;obtain⟨z0,z1,z2,z3,z4,z5,z6⟩:=B6.all;clear hb1 B4 B5 B6 hB1;by_cases h0:q=0
 .subst h0;have HG:=AD ((AA HRR).symm.trans (Gz (n2:=n2) (m1:=m1) (AA HQ)));have hcall:=Kz d b1 b2 m1 m2 d1 d2 sh' dt' w1 ((AA K1).below AC (AA HW1)) ((AA K2).below AC (AA HW1));go_upto_region 5 with(go_at_call 155;refine hcall.mono ?_;rintro e w2⟨s1,f1,s2,f2,rfl,ho,hr2,hap,hb2⟩;have HO:=AD ho;have HAP:=AD hap;have HR2:=AD hr2;have HB2:=AD hb2;clear ho hr2 hap hb2);have D4:=AD (((AA C4).below AC (AA HB2)).alloc (.cells #[.bool d,.slice s1 m1 f1,.slice s2 m2 f2] 25));have D5:=AD (((AA C5).below AC (AA HB2)).alloc (.cells #[.bool d,.slice s1 m1 f1,.slice s2 m2 f2] 25));have D6:=AD (((AA C6).below AC (AA HB2)).alloc (.cells #[.bool d,.slice s1 m1 f1,.slice s2 m2 f2] 25));have D7:=AD (Ai.new w2 d (.slice s1 m1 f1) (.slice s2 m2 f2));have HO3:=AD (BN (DG (base':=w.heap.size+3) (AA HO) (by have:=(AA C6).lt;omega)) AC ((AN w2.heap.size w2).alloc AC (.cells #[.bool d,.slice s1 m1 f1,.slice s2 m2 f2] 25)));have HR3:=AD ((AA HR2).alloc (.cells #[.bool d,.slice s1 m1 f1,.slice s2 m2 f2] 25));have hw12:=(AA HB2).size;have hww:=(AA HW1).size;have hz6:=(AA C6).lt;have HW3:=AD (((AA HW1).trans ((AA HB2).mono hww)).alloc (by omega) (.cells #[.bool d,.slice s1 m1 f1,.slice s2 m2 f2] 25));have hp2:w.heap.size+2<w2.heap.size:=by omega
  generalize w2.alloc (.cells #[.bool d,.slice s1 m1 f1,.slice s2 m2 f2] 25)=W at*;generalize w2.heap.size=p at*;clear x0 x1 x2 x3 x4 x5 x6 y0 y1 y2 y3 y4 y5 y6 z0 z1 z2 z3 z4 z5 z6 C4 C5 C6 HO HR2 HB2 hcall HW1;obtain⟨x0,x1,x2,x3,x4,x5,x6⟩:=(AA D4).all;obtain⟨y0,y1,y2,y3,y4,y5,y6⟩:=(AA D5).all;by_cases hm:m1=0
  .subst hm;rw[AI rfl]at HG;have hnil:sh'= []:=Af.mp (AA hl3);have HE:Hid (Al n2 sh'=List.replicate n2 1):=by show _=_;unfold Al;rw[AI hnil]
   have HO4:Hid (W.ownsRow (w.heap.size+3) 3 1 (.slice s1 0 f1) 0 ((List.replicate 0 (1:Int)).map (Value.int .i64))):=by have:=AA HO3;rw[hnil]at this;exact this
   have hWs:w.heap.size+3<=W.heap.size:=by have:=(AA D6).lt;omega
   clear hnil HO3;obtain⟨i0,hi,hz0,hz1,hz2⟩:=info_parts A6;go_wp2_with fail;go_loopw[8] (fun i wr=>∃k v,k<=n2/\k<=5/\i=.int .i64 (k:Nat)/\Hid (Ai wr p d v (.slice s2 m2 f2))/\Hid (wr.ownsRow (w.heap.size+3) 3 1 v k ((List.replicate k (1:Int)).map (Value.int .i64)))/\Hid (Bt wr w1.heap.size s2 m2 dt')/\Hid (∀x,At s2 m2 x->v.ownBlock≠some x)/\Hid (Below (w.heap.size+3) W wr)) (fun i _=>n2- (intOf i).toNat);case atStart=>exact⟨0,_,AS _,AS _,rfl,D7,HO4,HR3,HAP,AG⟩
   case round=>
    obtain⟨k,v,hk,hk5,rfl,hbx,BJ,hdat,hap,Ck⟩:=hrel;clear HO4 HR3 HAP x0 x1 x2 x3 x4 x5 x6 y0 y1 y2 y3 y4 y5 y6;obtain⟨sa,sc,rfl⟩:=CU (AA BJ);have E4:=AD ((AA D4).low (by omega) (AA Ck));have E5:=AD ((AA D5).low (by omega) (AA Ck));have E6:=AD ((AA D6).low (by omega) (AA Ck));have HWr:=AD ((AA HW3).trans ((AA Ck).mono (by omega)));obtain⟨x0,x1,x2,x3,x4,x5,x6⟩:=(AA E4).all;obtain⟨y0,y1,y2,y3,y4,y5,y6⟩:=(AA E5).all;obtain⟨z0,z1,z2,z3,z4,z5,z6⟩:=(AA E6).all;obtain⟨v0,v1,v2,v3,v4,v5,v6⟩:=(AA hbx).all;by_cases hlt:k<n2
    .by_cases h5:k=5
     .subst h5;rw[AI hlt]at HG;have HG':=AD (AA HG);obtain rfl:=AA HG'
      go_wp2
      refine bodyPost_ret (v:=.tuple #[.agg #[.bool d,(.slice (some b1) 0 d1),(.slice (some b2) m2 d2)],.int .i64 7]) (by simp[results,results197,go_sem,z0,z1,z2]) rfl ?_;refine⟨⟨_,_,_,_,_,_,rfl,fun h=>absurd h (by decide)⟩,(((AA HWr).setCell (by simp<;>omega) _).setCell (by simp<;>omega) _).setCell (by simp<;>omega) _⟩
     .have hwz:=(AA Ck).size;have hk4:k<5:=by omega
      go_wp2_with(at_builtin;refine wpList_append_lies _ rfl _ _ 23 rfl (w.heap.size+3) 3 i0 (.int .i64 0) 1 8 underlying23 hi hz0 hz1 hz2 rfl (by decide) _ _ _ rfl (BN (AA BJ) AC (AG.alloc AC _)) ⟨wr.heap.size,0,none⟩ 1 1 [.int .i64 1] rfl rfl (Bp _ _) (CD _) (by omega) (by unfold maxLen;omega) (by omega) (by simp;omega) (wr.heap.size+1) (by simp) ?_;intro g' Ak w7 BL An hat GB;have hb7:=(AA hbx).grown (AA BJ) _ An;have hl7:=Co _ (AA BJ) (by omega) An;have hd7:=(AA hdat).grownO _ An (AA hap);obtain⟨t0,t1,t2,t3,t4,t5,t6⟩:=hb7.all;have hap7:∀x,At s2 m2 x->(Value.slice (some ⟨g',0,none⟩) (k+1) Ak).ownBlock≠some x:=(fun x hx e=>by have e':g'=x:=(by simpa[Value.ownBlock]using e);have:=(AA hdat).row.hi hx;rcases hat with h|h;exact AA hap x hx (e'▸h);omega);clear An hat);go_roundw;case rel=>exact⟨k+1,_,by omega,by omega,by go_num,hb7.set1 _,by rw[UU];exact Eq BL hb7 _ _,hd7.other (fun x hx=>hd7.row.notBox hb7 hx) _,hap7,((AA Ck).trans hl7).setCell (by simp;omega) _⟩
      case measure=>simp[intOf];omega
    .have hkn:k=n2:=by omega
     subst hkn;rw[AH (by omega)]at HG;have HG':=AD (AA HG);obtain rfl:=AA HG';obtain⟨ad,cp,hv,BL⟩:=Bt.of_owns (AA BJ) hs2;cases hv;have HS:=AD BL;clear BL
     go_wp2
     refine bodyPost_ret (v:=.tuple #[.agg #[.bool d,(.slice sa k sc),(.slice s2 m2 f2)],.int .i64 0]) (by simp[results,results197,go_sem,z0,z1,z2]) rfl ?_;refine⟨⟨_,_,_,_,_,_,rfl,fun _=>⟨rfl,rfl,by rw[AA HE];exact(AA HS).row.sets (AA E6) _ _ _,(AA hdat).row.sets (AA E6) _ _ _⟩⟩,(((AA HWr).setCell (by simp<;>omega) _).setCell (by simp<;>omega) _).setCell (by simp<;>omega) _⟩
  .obtain⟨z0,z1,z2,z3,z4,z5,z6⟩:=(AA D6).all;obtain⟨v0,v1,v2,v3,v4,v5,v6⟩:=(AA D7).all;have g0:((m1:Int)==0)=false:=by simp;omega
   rw[AH hm]at HG;by_cases hn:n2=m1
   .subst hn;rw[AH (by simp)]at HG;have HG':=AD (AA HG);obtain rfl:=AA HG';have HE:Hid (Al n2 sh'=sh'):=by show _=_;unfold Al;rw[AH (by intro e;rw[e]at hl3;exact hm (AA hl3).symm)]
    obtain⟨ad,cp,hv,BJ⟩:=Bt.of_owns (AA HO3) hs2;cases hv;have HS:=AD BJ;clear BJ
    go_wp2
    refine bodyPost_ret (v:=.tuple #[.agg #[.bool d,(.slice s1 n2 f1),(.slice s2 m2 f2)],.int .i64 0]) (by simp[results,results197,go_sem,z0,z1,z2]) rfl ?_;refine⟨⟨_,_,_,_,_,_,rfl,fun _=>⟨rfl,rfl,by rw[AA HE];exact(AA HS).row.sets (AA D6) _ _ _,(AA HR3).row.sets (AA D6) _ _ _⟩⟩,(((AA HW3).setCell (by simp<;>omega) _).setCell (by simp<;>omega) _).setCell (by simp<;>omega) _⟩
   .have g1:((n2:Int) !=(m1:Int))=true:=by simp;omega
    rw[AI hn]at HG;have HG':=AD (AA HG);obtain rfl:=AA HG'
    go_wp2
    refine bodyPost_ret (v:=.tuple #[.agg #[.bool d,(.slice (some b1) m1 d1),(.slice (some b2) m2 d2)],.int .i64 5]) (by simp[results,results197,go_sem,z0,z1,z2]) rfl ?_;refine⟨⟨_,_,_,_,_,_,rfl,fun h=>absurd h (by decide)⟩,(((AA HW3).setCell (by simp<;>omega) _).setCell (by simp<;>omega) _).setCell (by simp<;>omega) _⟩
 .have g0:(q !=0)=true:=by simp[h0]
  have HG:=AD ((AA HRR).symm.trans (Gy (n2:=n2) (m1:=m1) (AA HQ) h0));obtain rfl:=AA HG;have HZ:=AD h0;clear h0
  go_wp2
  refine bodyPost_ret (v:=.tuple #[.agg #[.bool d,(.slice (some b1) m1 d1),(.slice (some b2) m2 d2)],.int .i64 r]) (by simp[results,results197,go_sem,z0,z1,z2]) rfl ?_;refine⟨⟨_,_,_,_,_,_,rfl,fun h=>absurd h (AA HZ)⟩,(((AA HW1).setCell (by simp<;>omega) _).setCell (by simp<;>omega) _).setCell (by simp<;>omega) _⟩
