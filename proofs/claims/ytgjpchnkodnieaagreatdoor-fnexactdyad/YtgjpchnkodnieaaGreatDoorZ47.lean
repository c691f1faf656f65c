import Derived.Test.YtgjpchnkodnieaaGreatDoorZ33
import Derived.Test.YtgjpchnkodnieaaGreatDoorZ34
set_option maxRecDepth 20000
set_option maxHeartbeats 8000000
set_option linter.defProp false
namespace Go.Proofs.YtgjpchnkodnieaaGreatDoor
open Go.RowKit Tryz
def RW(c d:Bool)(a1 a2 b1 b2:Addr)(n1 n2 m1 m2 c1 c2 d1 d2:Nat)(sh dt sh' dt':List Int)(w:World)(h1:AO w (some a1) n1 sh)(h2:AO w (some a2) n2 dt)(k1:AO w (some b1) m1 sh')(k2:AO w (some b2) m2 dt'):Calls prog 123 #[.agg #[.bool c,.slice (some a1) n1 c1,.slice (some a2) n2 c2],.agg #[.bool d,.slice (some b1) m1 d1,.slice (some b2) m2 d2]] w (CJ w (Ca c d sh dt sh' dt')):=by
 have hl1:=AD h1.len;have hl2:=AD h2.len;have hl3:=AD k1.len;have hl4:=AD k2.len;have hs1:=h1.small;have hs2:=h2.small;have hs3:=k1.small;have hs4:=k2.small;have H1:=AD h1;have H2:=AD h2;have K1:=AD k1;have K2:=AD k2;clear h1 h2 k1 k2;obtain⟨r1,hr1⟩:∃r,AJ c sh dt=r:=⟨_,rfl⟩
 obtain⟨r2,hr2⟩:∃r,AJ d sh' dt'=r:=⟨_,rfl⟩
 have HR1:=AD hr1;have HR2:=AD hr2;clear hr1 hr2;go_enter func123,ntmps123;go_wp2_with fail;refine(A0 _ _ _ _ _ _ _ sh dt _ ((((AA H1).alloc _).alloc _).alloc _) ((((AA H2).alloc _).alloc _).alloc _) _ HR1).mono ?_;rintro e w1⟨rfl,hb1⟩;obtain⟨B4,B5,B6,hB1⟩:=Az hb1;have hz1:=B6.lt;clear hb1;obtain⟨x0,x1,x2,x3,x4,x5,x6⟩:=B4.all;obtain⟨y0,y1,y2,y3,y4,y5,y6⟩:=B5.all;cases r1 with
 |false=>
  have HS:=AD (JR (d:=d) (sh':=sh') (dt':=dt') (AA HR1));go_wp2_with fail;refine(Aa _).mono ?_;rintro e w9⟨rfl,hb9⟩;obtain⟨q0,q1,q2,q3,q4,q5,q6⟩:=(B6.below AC hb9).all;have hB9:=AD ((hB1).trans (hb9.mono (hB1).size));clear hb9 hB1 B4 B5 B6 hz1 x0 x1 x2 x3 x4 x5 x6 y0 y1 y2 y3 y4 y5 y6
  go_wp2
  refine bodyPost_ret (v:=.tuple #[.agg #[.bool false,.slice none 0 0,.slice none 0 0],.int .i64 3]) (by simp[results,results123,go_sem,q0,q1,q2]) rfl ?_;rw[AA HS];exact⟨none,0,0,none,0,0,rfl,AP _ _,AP _ _,(((AA hB9).setCell (by simp<;>omega) _).setCell (by simp<;>omega) _).setCell (by simp<;>omega) _⟩
 |true=>
  go_wp2_with fail;refine(A0 _ _ _ _ _ _ _ sh' dt' _ ((AA K1).below AC hB1) ((AA K2).below AC hB1) _ HR2).mono ?_;rintro e w2⟨rfl,hb2⟩;have C4:=AD (B4.below AC hb2);have C5:=AD (B5.below AC hb2);have C6:=AD (B6.below AC hb2);have hB2:=AD (hB1.trans (hb2.mono hB1.size));clear hb2 hB1 B4 B5 B6 hz1 x0 x1 x2 x3 x4 x5 x6 y0 y1 y2 y3 y4 y5 y6 w1;cases r2 with
  |false=>
   have HS:=AD (JQ (c:=c) (sh:=sh) (dt:=dt) (AA HR2));go_wp2_with fail;refine(Aa _).mono ?_;rintro e w9⟨rfl,hb9⟩;obtain⟨q0,q1,q2,q3,q4,q5,q6⟩:=((AA C6).below AC hb9).all;have hB9:=AD (((AA hB2)).trans (hb9.mono ((AA hB2)).size));clear hb9 C4 C5 C6 hB2
   go_wp2
   refine bodyPost_ret (v:=.tuple #[.agg #[.bool false,.slice none 0 0,.slice none 0 0],.int .i64 3]) (by simp[results,results123,go_sem,q0,q1,q2]) rfl ?_;rw[AA HS];exact⟨none,0,0,none,0,0,rfl,AP _ _,AP _ _,(((AA hB9).setCell (by simp<;>omega) _).setCell (by simp<;>omega) _).setCell (by simp<;>omega) _⟩
  |true=>
   obtain⟨x0,x1,x2,x3,x4,x5,x6⟩:=(AA C4).all;obtain⟨r,hr⟩:∃r,Ae c n1=r:=⟨_,rfl⟩
   have HLC:=AD hr;clear hr;go_wp2_with fail;refine(EX c _ _ _ _ _ hs1 r HLC).mono ?_;rintro e w3⟨rfl,hb3⟩;have D4:=AD ((AA C4).below AC hb3);have D5:=AD ((AA C5).below AC hb3);have D6:=AD ((AA C6).below AC hb3);have hB3:=AD ((AA hB2).trans (hb3.mono (AA hB2).size));clear hb3 hB2 C4 C5 C6 x0 x1 x2 x3 x4 x5 x6 w2;by_cases hcode:r=0
   .subst hcode;have HL0:Hid (Ae c sh.length=0):=by show _=_;rw[AA hl1];exact AA HLC
    obtain⟨x0,x1,x2,x3,x4,x5,x6⟩:=(AA D4).all;have HW3:=AD (AA hB3);go_wp2_with fail
    go_loop [7] (fun i=>∃k:Nat,k<=n2/\i=.int .i64 k/\Hid ((dt.take k).all BE=true)) (fun i=>n2- (intOf i).toNat)
    case atStart=>exact⟨0,AS _,rfl,rfl⟩
    case round=>
     obtain⟨k,hk,rfl,hall⟩:=hrel;by_cases hlt:k<n2
     .obtain⟨ba,oa,hab,hblt,hc⟩:=(AA H2).get hlt;cases hab;have hc':=((AA HW3).cell (p:=⟨ba,oa+k,none⟩) hblt).trans hc;have hks:Hid (k<dt.length):=by show k<dt.length;rw[AA hl2];exact hlt
      obtain⟨x,hx⟩:∃x,x=dt.getD k 0:=⟨_,rfl⟩
      rw[<-hx]at hc';have HX:=AD hx;clear hx hc;by_cases hneg:x<0
      .have HS:=AD (Kn (AA HR1) (AA HR2) (AA HL0) (Fk dt BE k (AA hks) (by rw[<-AA HX];exact AK (by omega))));go_wp2_with fail;refine(Aa _).mono ?_;rintro e w9⟨rfl,hb9⟩;obtain⟨q0,q1,q2,q3,q4,q5,q6⟩:=((AA D6).below AC hb9).all;have hB9:=AD (((AA hB3)).trans (hb9.mono ((AA hB3)).size));clear hb9 D4 D5 D6 hB3 HW3 x0 x1 x2 x3 x4 x5 x6 hc'
       go_wp2
       refine bodyPost_ret (v:=.tuple #[.agg #[.bool false,.slice none 0 0,.slice none 0 0],.int .i64 3]) (by simp[results,results123,go_sem,q0,q1,q2]) rfl ?_;rw[AA HS];exact⟨none,0,0,none,0,0,rfl,AP _ _,AP _ _,(((AA hB9).setCell (by simp<;>omega) _).setCell (by simp<;>omega) _).setCell (by simp<;>omega) _⟩
      .have HA:=AD (FX dt BE k (AA hks) (AA hall) (by rw[<-AA HX];exact AL (by omega)))
       go_wp2
       go_round
       case rel=>exact⟨k+1,by omega,by go_num,HA⟩
       case measure=>simp[intOf];omega
     .have HA:Hid (dt.all BE=true):=by
       have:=AA hall
       rwa [AV (by rw[AA hl2];omega)]at this
      clear hall;obtain⟨sb,hsb⟩:∃r,Am dt=r:=⟨_,rfl⟩
      have HSB:=AD hsb;clear hsb;go_wp2_with fail;refine(Db _ _ _ dt _ ((AA H2).below AC (AA hB3)) sb HSB).mono ?_;rintro e w3⟨rfl,rfl⟩;cases sb with
      |false=>
       have HS:=AD (Ko (AA HR1) (AA HR2) (AA HL0) (AA HA) (AA HSB));go_wp2_with fail;refine(Aa _).mono ?_;rintro e w9⟨rfl,hb9⟩;obtain⟨q0,q1,q2,q3,q4,q5,q6⟩:=((AA D6).below AC hb9).all;have hB9:=AD (((AA hB3)).trans (hb9.mono ((AA hB3)).size));clear hb9 D4 D5 D6 hB3 HW3 x0 x1 x2 x3 x4 x5 x6
       go_wp2
       refine bodyPost_ret (v:=.tuple #[.agg #[.bool false,.slice none 0 0,.slice none 0 0],.int .i64 7]) (by simp[results,results123,go_sem,q0,q1,q2]) rfl ?_;rw[AA HS];exact⟨none,0,0,none,0,0,rfl,AP _ _,AP _ _,(((AA hB9).setCell (by simp<;>omega) _).setCell (by simp<;>omega) _).setCell (by simp<;>omega) _⟩
      |true=>
       have hcb:=CS (AA HSB);obtain⟨N,hN⟩:∃N:Nat,Ac dt=(N:Int):=⟨(Ac dt).toNat,by omega⟩
       rw[hN]at hcb;obtain⟨_,hNs⟩:=hcb;have HN:=AD hN;obtain⟨f,hf⟩:∃f:Nat->Int×Int,f=Dp d dt' m2:=⟨_,rfl⟩
       have HGO:Hid (Ca c d sh dt sh' dt'=Bc d dt f N):=by show _=_;rw[ME (AA HR1) (AA HR2) (AA HL0) (AA HA) (AA HSB) m2 N (AA hl4) hN,hf]
       have HFK:Hid (∀k,f k=Dp d dt' m2 k):=by intro k;rw[hf]
       clear hf hN;obtain⟨y0,y1,y2,y3,y4,y5,y6⟩:=(AA D5).all;obtain⟨i0,hi,hz0,hz1,hz2⟩:=info_parts A6;have hB3z:=(AA hB3).size;have hz4:=(AA D4).lt;have hz5:=(AA D5).lt;have hz6:=(AA D6).lt;go_upto_region 13 with fail;go_cut[8] (fun r wx=>TE w3 d n2 dt r wx);case first=>
        have HKEEP:∀wx,Below w3.heap.size w3 wx->Below w3.heap.size w3 wx/\wx.cell? ⟨w.heap.size+1,0,none⟩=some (.bool d)/\wx.cell? ⟨w.heap.size,2,none⟩=some (.slice (some a2) n2 c2):=fun wx hwx=>⟨hwx,((AA D5).below AC hwx).cells.1,((AA D4).below AC hwx).cells.2.2⟩
        go_region_held (fun wx=>Below w3.heap.size w3 wx/\wx.cell? ⟨w.heap.size+1,0,none⟩=some (.bool d)/\wx.cell? ⟨w.heap.size,2,none⟩=some (.slice (some a2) n2 c2)) (first|(refine HKEEP _ ?_;repeat(first|exact hKA|exact AG|refine BF ?_|refine BD ?_ (by first|omega|(simp<;>omega)) _|refine BU ?_ (by first|omega|(simp<;>omega)) _))) (first
         |(go_at_call 71;refine(D3 _ _ _ dt _ ((AA H2).below AC (by repeat(first|exact AA hB3|refine BF ?_|refine BD ?_ (by have:=(AA hB3).size;simp<;>omega) _)))).mono ?_;rintro e wA⟨ash,csh,rfl,hOA,hbA⟩;(have hKA:Below w3.heap.size w3 wA:=(by refine DZ ?_ (hbA.mono (by first|omega|(simp<;>omega)));repeat(first|exact AG|refine BF ?_|refine BD ?_ (by first|omega|(simp<;>omega)) _)));have hsA:=hKA.size;(first|(have hP5:=(Ai.new _ _ _ _).drew.below AC hbA;obtain⟨t0,t1,t2,t3,t4,t5,t6⟩:=hP5.free';(try simp at t0 t1 t2 t3 t4 t5 t6))|(have hP5:=((Ai.new _ _ _ _).alloc _).drew.below AC hbA;obtain⟨t0,t1,t2,t3,t4,t5,t6⟩:=hP5.free';(try simp at t0 t1 t2 t3 t4 t5 t6))|skip);(first|have hQ5:=(BA.new _).drew.below AC hbA|have hQ5:=((BA.new _).alloc _).drew.below AC hbA|skip)))
        all_goals go_wp2_with fail
        all_goals have HOW:Bt wA w3.heap.size ash n2 dt:=hOA.mono (by first|exact AC|(simp<;>omega))
        all_goals(go_meet;case rel=>first
         |with_reducible exact Jg HOW hKA
         |with_reducible exact Qd HOW hKA
         |with_reducible exact Qe HOW hKA hQ5 AC (fun x hx=>by have:=hOA.low hx;simp at this;omega)
         |with_reducible exact Tj HOW hKA (by simpa using hP5) (by first|exact AC|omega) (by simpa using hQ5) (by first|exact AC|omega) (fun x hx=>by have:=hOA.low hx;simp at this;omega)
         |with_reducible exact Qc HOW hKA (by simpa using hP5) (by first|exact AC|omega))
       case rest=>
        obtain⟨w4,hw4⟩:∃x,x=wc:=⟨_,rfl⟩
        subst hw4;obtain⟨p,g0,ash,csh,rfl,hbx,DI,hO,hb4,hp,hg,hne⟩:=hcut;have hst0:=AD (Es.start f hbx DI hO hb4 hp hg hne);have HW4:=AD ((AA hB3).trans (hb4.mono hB3z));obtain⟨v0,v1,v2,v3,v4,v5,v6⟩:=((AA D4).low hz4 hb4).all;clear hbx DI hO hb4 hg hne x0 x1 x2 x3 x4 x5 x6 y0 y1 y2 y3 y4 y5 y6;go_wp2_with(go_at_call 48;refine(EY _ _ _ dt _ ((AA H2).below AC (AA HW4)) _ HN).mono ?_;rintro e wq⟨rfl,rfl⟩);go_loopw[10] (fun i wr=>∃P g cap,P<=N/\i=.int .i64 (P:Nat)/\Hid (Es w3 p d ash n2 csh dt f P wr g cap)) (fun i _=>N- (intOf i).toNat);case atStart=>exact⟨0,g0,0,AS _,rfl,hst0⟩
        case round=>
         obtain⟨P,g,cap,hP,rfl,hst⟩:=hrel;clear hst0 v0 v1 v2 v3 v4 v5 v6;obtain⟨y0,y1,y2,y3,y4,y5,y6⟩:=((AA D5).low hz5 (AA hst).low).all;obtain⟨z0,z1,z2,z3,z4,z5,z6⟩:=(AA hst).box.all;have hst':=AA hst;by_cases hlt:P<N
         .by_cases hm0:m2=0
          .have g0':((m2:Int)==0)=true:=by simp[hm0]
           have HFP:Hid (f P=(Ec d,0)):=by show _=_;rw[AA HFK P];simp[Dp,hm0]
           clear hm0;go_wp2_with fail
           go_region_law (first
             |(refine step_append_lies _ (by rfl) _ _ _ (by rfl) w3.heap.size 3 i0 _ 1 8 underlying23 hi hz0 hz1 hz2 rfl (by omega) (.slice (some ⟨g,0,none⟩) P cap) P ((Bg f P).map (Value.int .i64)) (by rfl) (by first|exact(hst'.owns.alloc _).drew|exact hst'.drew.owns.alloc _) ⟨wr.heap.size,0,none⟩ 1 1 [.int .i64 (Ec d)] (by rfl) (by rfl) (by exact Bp wr _) (CD _) (by omega) (by unfold maxLen;omega) (by omega) (by have:=hst'.low.size;simp;omega) (wr.heap.size+1) (by simp) ?_;intro g' Ak w7 BL An hat GB;obtain⟨hb7,hst7⟩:=hst'.drew.push _ (AA HFP) BL (by exact An) hat;obtain⟨t0,t1,t2,t3,t4,t5,t6⟩:=hb7.all)
             |(go_simp;go_at_call 74;refine(Ix _ _).mono ?_;rintro e wq⟨rfl,rfl⟩))
           all_goals
            go_wp2_with fail;go_roundw;case rel=>exact⟨P+1,g',Ak,by omega,by go_num,hst7⟩
            case measure=>simp[intOf];omega
          .obtain⟨j,hj⟩:∃j,j=P % m2:=⟨_,rfl⟩
           have hjl:j<m2:=by rw[hj];exact Nat.mod_lt _ (by omega)
           have hq1:(P:Int).tmod (m2:Int)=(j:Int):=by rw[Au (by omega),hj];rfl
           have hq2:(P:Int) % (m2:Int)=(j:Int):=by rw[hj];rfl
           have hj0:(0:Int)<=(j:Int):=by omega
           have hj1:(j:Int)<(m2:Int):=by omega
           have g0':((m2:Int)==0)=false:=by simp;omega
           obtain⟨bb,ob,hab,hblt,hc⟩:=(AA K2).get hjl;cases hab;have hc':=(((AA hB3).trans (hst'.low.mono hB3z)).cell (p:=⟨bb,ob+j,none⟩) hblt).trans hc;obtain⟨x,hx⟩:∃x,x=dt'.getD j 0:=⟨_,rfl⟩
           rw[<-hx]at hc';have HFP:Hid (f P=(x,0)):=by show _=_;rw[AA HFK P,hx,hj];simp[Dp,hm0]
           have hm1:¬ m2=0:=hm0;clear hj hx hc;go_wp2_with fail
           go_region_law (first
             |(refine step_append_lies _ (by rfl) _ _ _ (by rfl) w3.heap.size 3 i0 _ 1 8 underlying23 hi hz0 hz1 hz2 rfl (by omega) (.slice (some ⟨g,0,none⟩) P cap) P ((Bg f P).map (Value.int .i64)) (by rfl) (by first|exact(hst'.owns.alloc _).drew|exact hst'.drew.owns.alloc _) ⟨wr.heap.size,0,none⟩ 1 1 [.int .i64 x] (by rfl) (by rfl) (by exact Bp wr _) (CD _) (by omega) (by unfold maxLen;omega) (by omega) (by have:=hst'.low.size;simp;omega) (wr.heap.size+1) (by simp) ?_;intro g' Ak w7 BL An hat GB;obtain⟨hb7,hst7⟩:=hst'.drew.push _ (AA HFP) BL (by exact An) hat;obtain⟨t0,t1,t2,t3,t4,t5,t6⟩:=hb7.all))
           all_goals
            go_wp2_with fail;go_roundw;case rel=>exact⟨P+1,g',Ak,by omega,by go_num,hst7⟩
            case measure=>simp[intOf];omega
         .have hPB:P=N:=by omega
          subst hPB;have HS:Hid (Ca c d sh dt sh' dt'=⟨d,dt,Bg f P,0⟩):=(AA HGO).trans (DY hst'.code);obtain⟨ad',cd,hv,hD⟩:=Bt.of_owns hst'.owns (by omega);cases hv;have G6:=AD ((AA D6).low hz6 hst'.low);obtain⟨q0,q1,q2,q3,q4,q5,q6⟩:=(AA G6).all;have HW6:=AD ((AA hB3).trans (hst'.low.mono hB3z));have HO6:=AD hst'.own;have HD:=AD hD;clear hst hst' hD HGO HFK
          go_wp2
          refine bodyPost_ret (v:=.tuple #[.agg #[.bool d,.slice ash n2 csh,.slice (some ⟨g,0,none⟩) P cap],.int .i64 0]) (by simp[results,results123,go_sem,q0,q1,q2]) rfl ?_;rw[AA HS];refine⟨ash,n2,csh,some ⟨g,0,none⟩,P,cap,rfl,?_,?_,(((AA HW6).setCell (by simp<;>omega) _).setCell (by simp<;>omega) _).setCell (by simp<;>omega) _⟩
          .exact(AA HO6).row.sets (AA G6) _ _ _
          .exact(AA HD).row.sets (AA G6) _ _ _
   .have HS:=AD (JP (AA HR1) (AA HR2) r (by rw[AA hl1];exact AA HLC) hcode);have hcb:(r !=0)=true:=by simp[hcode]
    clear hcode;go_wp2_with fail;refine(Aa _).mono ?_;rintro e w9⟨rfl,hb9⟩;obtain⟨q0,q1,q2,q3,q4,q5,q6⟩:=((AA D6).below AC hb9).all;have hB9:=AD (((AA hB3)).trans (hb9.mono ((AA hB3)).size));clear hb9 D4 D5 D6 hB3
    go_wp2
    refine bodyPost_ret (v:=.tuple #[.agg #[.bool false,.slice none 0 0,.slice none 0 0],.int .i64 r]) (by simp[results,results123,go_sem,q0,q1,q2]) rfl ?_;rw[AA HS];exact⟨none,0,0,none,0,0,rfl,AP _ _,AP _ _,(((AA hB9).setCell (by simp<;>omega) _).setCell (by simp<;>omega) _).setCell (by simp<;>omega) _⟩
def BA.new'{w:World}{g:Nat}(hg:g=w.heap.size):BA (w.alloc (.cells #[] 3)) g []:=by subst hg;exact BA.new w
def Ai.new'{w:World}{p:Nat}{c:Bool}{v1 v2:Value}(hp:p=w.heap.size):Ai (w.alloc (.cells #[.bool c,v1,v2] 25)) p c v1 v2:=by subst hp;exact Ai.new w c v1 v2
def US{w w':World}{base n g cap B:Nat}{xs:List Value}(h:w.ownsRow base 3 1 (.slice (some ⟨g,0,none⟩) n cap) n xs)(hg:g<B)(hb:Below B w w'):w'.ownsRow base 3 1 (.slice (some ⟨g,0,none⟩) n cap) n xs:=by
 obtain⟨h1,h2⟩:=h;refine⟨h1,?_⟩;rcases h2 with h2|⟨g',Ak,cur,hv,hg',hh,r⟩
 .exact Or.inl h2
 .have e:g=g':=by simp at hv;exact hv.1
  subst e;exact Or.inr ⟨g,Ak,cur,hv,hg',(hb.block g hg).trans hh,r⟩
def BA.grown{w w1:World}{g g2:Nat}{zs:List Int}(h:BA w g zs)(o:Obj)(hg:(w.alloc o).grownBy w1 (some g2))(hne:g≠g2):BA w1 g zs:=(hg.block g (by have:=h.lt;simp;omega) (fun e=>hne (by simpa using e))).trans (h.alloc o)
def SQ{w w1:World}{b o' g2:Nat}(o:Obj)(hg:(w.alloc o).grownBy w1 (some g2))(hb:b<w.heap.size)(hne:b≠g2):w1.cell? ⟨b,o',none⟩=w.cell? ⟨b,o',none⟩:=World.cell?_of_block (w:=w) (a:=⟨b,o',none⟩) ((hg.block b (by simp;omega) (fun e=>hne (by simpa using e))).trans (Ab w o b hb))
def X1(W:World)(d:Bool)(m:Nat)(r:Value)(wx:World):Prop:=∃p gs g0,r=.pointer (some ⟨p,0,none⟩)/\Ai wx p d (.slice (some ⟨gs,0,none⟩) m m) (.slice (some ⟨g0,0,none⟩) 0 0)/\BA wx gs (List.replicate m 0)/\BA wx g0 []/\Below W.heap.size W wx/\W.heap.size<=p/\W.heap.size<=gs/\W.heap.size<=g0/\gs≠g0/\gs≠p/\g0≠p
def Wx{W wx:World}{d:Bool}{m p gs g0:Nat}(h1:Ai wx p d (.slice (some ⟨gs,0,none⟩) m m) (.slice (some ⟨g0,0,none⟩) 0 0))(h2:BA wx gs (List.replicate m 0))(h3:BA wx g0 [])(h4:Below W.heap.size W wx)(h5:W.heap.size<=p/\W.heap.size<=gs/\W.heap.size<=g0/\gs≠g0/\gs≠p/\g0≠p):X1 W d m (.pointer (some ⟨p,0,none⟩)) wx:=⟨p,gs,g0,rfl,h1,h2,h3,h4,h5⟩
def Nv(c d:Bool)(a1 a2 b1 b2:Addr)(n1 n2 m1 m2 c1 c2 d1 d2:Nat)(sh dt sh' dt':List Int)(w:World)(h1:AO w (some a1) n1 sh)(h2:AO w (some a2) n2 dt)(k1:AO w (some b1) m1 sh')(k2:AO w (some b2) m2 dt'):Calls prog 14 #[.agg #[.bool c,.slice (some a1) n1 c1,.slice (some a2) n2 c2],.agg #[.bool d,.slice (some b1) m1 d1,.slice (some b2) m2 d2]] w (CJ w (BZ c d sh dt sh' dt')):=by
 have hl1:=AD h1.len;have hl2:=AD h2.len;have hl3:=AD k1.len;have hl4:=AD k2.len;have hs1:=h1.small;have hs2:=h2.small;have hs3:=k1.small;have hs4:=k2.small;have H1:=AD h1;have H2:=AD h2;have K1:=AD k1;have K2:=AD k2;clear h1 h2 k1 k2;obtain⟨r1,hr1⟩:∃r,AJ c sh dt=r:=⟨_,rfl⟩
 obtain⟨r2,hr2⟩:∃r,AJ d sh' dt'=r:=⟨_,rfl⟩
 have HR1:=AD hr1;have HR2:=AD hr2;clear hr1 hr2;go_enter func14,ntmps14;go_wp2_with fail;refine(A0 _ _ _ _ _ _ _ sh dt _ ((((AA H1).alloc _).alloc _).alloc _) ((((AA H2).alloc _).alloc _).alloc _) _ HR1).mono ?_;rintro e w1⟨rfl,hb1⟩;obtain⟨B4,B5,B6,hB1⟩:=Az hb1;have hz1:=B6.lt;clear hb1;obtain⟨x0,x1,x2,x3,x4,x5,x6⟩:=B4.all;obtain⟨y0,y1,y2,y3,y4,y5,y6⟩:=B5.all;cases r1 with
 |false=>
  have HS:Hid (BZ c d sh dt sh' dt'=AT 3):=Hk (AA HR1);go_wp2_with fail;refine(Aa _).mono ?_;rintro e w9⟨rfl,hb9⟩;obtain⟨q0,q1,q2,q3,q4,q5,q6⟩:=((B6).below AC hb9).all;have hB9:=AD ((hB1).trans (hb9.mono (hB1).size));clear hb9 hB1 B4 B5 B6 hz1 x0 x1 x2 x3 x4 x5 x6 y0 y1 y2 y3 y4 y5 y6
  go_wp2
  refine bodyPost_ret (v:=.tuple #[.agg #[.bool false,.slice none 0 0,.slice none 0 0],.int .i64 3]) (by simp[results,results14,go_sem,q0,q1,q2]) rfl ?_;rw[AA HS];exact⟨none,0,0,none,0,0,rfl,AP _ _,AP _ _,(((AA hB9).setCell (by simp<;>omega) _).setCell (by simp<;>omega) _).setCell (by simp<;>omega) _⟩
 |true=>
  go_wp2_with fail;refine(A0 _ _ _ _ _ _ _ sh' dt' _ ((AA K1).below AC hB1) ((AA K2).below AC hB1) _ HR2).mono ?_;rintro e w2⟨rfl,hb2⟩;have C4:=AD (B4.below AC hb2);have C5:=AD (B5.below AC hb2);have C6:=AD (B6.below AC hb2);have hB2:=AD (hB1.trans (hb2.mono hB1.size));clear hb2 hB1 B4 B5 B6 hz1 x0 x1 x2 x3 x4 x5 x6 y0 y1 y2 y3 y4 y5 y6 w1;cases r2 with
  |false=>
   have HS:Hid (BZ c d sh dt sh' dt'=AT 3):=Hj (AA HR2);go_wp2_with fail;refine(Aa _).mono ?_;rintro e w9⟨rfl,hb9⟩;obtain⟨q0,q1,q2,q3,q4,q5,q6⟩:=((AA C6).below AC hb9).all;have hB9:=AD ((AA hB2).trans (hb9.mono (AA hB2).size));clear hb9 C4 C5 C6 hB2
   go_wp2
   refine bodyPost_ret (v:=.tuple #[.agg #[.bool false,.slice none 0 0,.slice none 0 0],.int .i64 3]) (by simp[results,results14,go_sem,q0,q1,q2]) rfl ?_;rw[AA HS];exact⟨none,0,0,none,0,0,rfl,AP _ _,AP _ _,(((AA hB9).setCell (by simp<;>omega) _).setCell (by simp<;>omega) _).setCell (by simp<;>omega) _⟩
  |true=>
   obtain⟨x0,x1,x2,x3,x4,x5,x6⟩:=(AA C4).all;obtain⟨y0,y1,y2,y3,y4,y5,y6⟩:=(AA C5).all;obtain⟨r,hr⟩:∃r,Ae c n1=r:=⟨_,rfl⟩
   have HLC:=AD hr;have HCC:Hid (Ae c sh.length=r):=by rw[AA hl1];exact hr
   clear hr;go_upto_region 4 with(go_at_call 54;refine(EX c _ _ _ _ _ hs1 r HLC).mono ?_;rintro e w3⟨rfl,hb3⟩;have HB3:=AD hb3;clear hb3);have D4:=AD ((AA C4).below AC (AA HB3));have D5:=AD ((AA C5).below AC (AA HB3));have D6:=AD ((AA C6).below AC (AA HB3));have hB3:=AD ((AA hB2).trans ((AA HB3).mono (AA hB2).size));clear C4 C5 C6 hB2 HB3 x0 x1 x2 x3 x4 x5 x6 y0 y1 y2 y3 y4 y5 y6 w2;by_cases h0:r=0
   .subst h0;obtain⟨x0,x1,x2,x3,x4,x5,x6⟩:=(AA D4).all;obtain⟨y0,y1,y2,y3,y4,y5,y6⟩:=(AA D5).all;by_cases Bq:n2=m1
    .subst Bq;have hn5:n2<=5:=by rw[<-AA hl3];exact(AW (AA HR2)).2.2
     have hmk:=run_make_row' (P:=prog) 23 3 (.int .i64 0) 8 underlying23 A6 rfl .i64 .i64 n2 (by omega) (by omega);have hmb:=run_make_row' (P:=prog) 79 4 (.bool false) 1 underlying79 SK rfl .i64 .i64 n2 (by omega) (by omega);go_upto_region 9 with fail;go_cut[8] (fun r wx=>X1 w3 d n2 r wx);case first=>
      as_aux_lemma=>
       go_region
       all_goals go_wp2_with fail
       all_goals go_meet
       all_goals case rel=>
        apply Wx
        ·(repeat(first|with_reducible exact Ai.new' (by first|rfl|(simp;done)|(simp<;>omega))|with_reducible refine Ai.sets ?_|with_reducible refine Ai.alloc ?_ _|with_reducible refine Ai.drew ?_))
        ·(repeat(first|with_reducible exact BA.made _ _ _ (by first|rfl|(simp;done)|(simp<;>omega))|with_reducible exact BA.new' (by first|rfl|(simp;done)|(simp<;>omega))|with_reducible refine BA.alloc ?_ _|with_reducible refine BA.drew ?_|with_reducible refine BA.other ?_ (by first|omega|(simp<;>omega)) _))
        ·(repeat(first|with_reducible exact BA.made _ _ _ (by first|rfl|(simp;done)|(simp<;>omega))|with_reducible exact BA.new' (by first|rfl|(simp;done)|(simp<;>omega))|with_reducible refine BA.alloc ?_ _|with_reducible refine BA.drew ?_|with_reducible refine BA.other ?_ (by first|omega|(simp<;>omega)) _))
        ·(repeat(first|with_reducible exact AG|with_reducible refine BF ?_|with_reducible refine BD ?_ (by first|omega|(simp<;>omega)) _|with_reducible refine BU ?_ (by first|omega|(simp<;>omega)) _))
        .refine⟨?_,?_,?_,?_,?_,?_⟩<;>first|omega|(simp;done)|(simp<;>omega)
     case rest=>
      obtain⟨w4,hw4⟩:∃x,x=wc:=⟨_,rfl⟩
      subst hw4;obtain⟨p,gs,g0,rfl,hbx,hks,hk0,hb4,hp,hgs,hg0,hne1,hne2,hne3⟩:=hcut;have hw34:=hb4.size;have hz6:=(AA D6).lt;have E4:=AD ((AA D4).below AC hb4);have E5:=AD ((AA D5).below AC hb4);have E6:=AD ((AA D6).below AC hb4);have HW4:=AD ((AA hB3).trans (hb4.mono (AA hB3).size));have HBX:=AD hbx;have HKS:=AD hks;have HK0:=AD hk0;have hpl:=hbx.lt;have hgsl:=hks.lt;have hg0l:=hk0.lt;clear hbx hks hk0 hb4 x0 x1 x2 x3 x4 x5 x6 y0 y1 y2 y3 y4 y5 y6 D4 D5 D6 hB3;go_upto_region 11 with fail;have F4:=AD ((AA E4).alloc (.cells (madeCells #[.bool false] n2) 4));have F5:=AD ((AA E5).alloc (.cells (madeCells #[.bool false] n2) 4));have F6:=AD ((AA E6).alloc (.cells (madeCells #[.bool false] n2) 4));have FBX:=AD ((AA HBX).alloc (.cells (madeCells #[.bool false] n2) 4));have FKS:=AD ((AA HKS).alloc (.cells (madeCells #[.bool false] n2) 4));have FK0:=AD ((AA HK0).alloc (.cells (madeCells #[.bool false] n2) 4));have FSB:=AD (He.made w4 n2 w4.heap.size rfl);have FW:Hid (Below w.heap.size w (w4.alloc (.cells (madeCells #[.bool false] n2) 4))):=(AA HW4).alloc (by have:=(AA HW4).size;omega) _;have hWz:(w4.alloc (.cells (madeCells #[.bool false] n2) 4)).heap.size=w4.heap.size+1:=by simp
      generalize w4.alloc (.cells (madeCells #[.bool false] n2) 4)=W at*;generalize w4.heap.size=gb at*;generalize w3.heap.size=H at*;clear E4 E5 E6 HBX HKS HK0 HW4;go_wp2_with fail;go_loopw[10] (fun v wr=>∃i:Nat,i<=n2/\v=.int .i64 (i:Nat)/\Hid (Bd dt n2 i=true)/\Hid (BA wr gs (CZ dt sh' n2 i))/\Hid (He wr gb (EI dt n2 i))/\Hid (Ai wr p d (.slice (some ⟨gs,0,none⟩) n2 n2) (.slice (some ⟨g0,0,none⟩) 0 0))/\Hid (BA wr g0 [])/\Hid (Below H W wr)) (fun v _=>n2- (intOf v).toNat);case atStart=>exact⟨0,AS _,rfl,rfl,FKS,FSB,FBX,FK0,AG⟩
      case round=>
       obtain⟨i,hi,rfl,hord,hsh,hse,hbx,hk0,Ck⟩:=hrel;clear FKS FSB FBX FK0;have G4:=AD ((AA F4).low (by omega) (AA Ck));have G5:=AD ((AA F5).low (by omega) (AA Ck));have G6:=AD ((AA F6).low (by omega) (AA Ck));have GW:=AD ((AA FW).trans ((AA Ck).mono (by omega)));obtain⟨x0,x1,x2,x3,x4,x5,x6⟩:=(AA G4).all;obtain⟨y0,y1,y2,y3,y4,y5,y6⟩:=(AA G5).all;obtain⟨v0,v1,v2,v3,v4,v5,v6⟩:=(AA hbx).all;by_cases hlt:i<n2
       .obtain⟨bk,ok,hab,hbk,hck⟩:=(AA H2).get hlt;cases hab;have hckr:=((AA GW).cell (p:=⟨bk,ok+i,none⟩) hbk).trans hck;obtain⟨be,oe,hab,hbe,hce⟩:=(AA K1).get hlt;cases hab;have hcer:=((AA GW).cell (p:=⟨be,oe+i,none⟩) hbe).trans hce;have hxb:=Bl (AA HR1) (k:=i) (by rw[AA hl2];exact hlt);obtain⟨x,hx⟩:∃x,x=dt.getD i 0:=⟨_,rfl⟩
        obtain⟨y,hy⟩:∃y,y=sh'.getD i 0:=⟨_,rfl⟩
        rw[<-hx]at hckr hxb;rw[<-hy]at hcer;have HX:=AD hx;have HY:=AD hy;clear hx hy hck hce;by_cases hx0:x<1
        .have HS:Hid (BZ c d sh dt sh' dt'=AT 3):=FF (AA HR1) (AA HR2) (AA HCC) (by rw[AA hl2,AA hl3]) (by rw[AA hl3];exact KK hlt (by unfold EU;rw[<-AA HX,AK (by omega)];rfl));have g0':x- 1<0:=by omega
         clear hx0;go_wp2_with fail;refine(Aa _).mono ?_;rintro e w9⟨rfl,hb9⟩;obtain⟨q0,q1,q2,q3,q4,q5,q6⟩:=((AA G6).below AC hb9).all;have hB9:=AD ((AA GW).trans (hb9.mono (AA GW).size));clear hb9 G4 G5 G6 GW x0 x1 x2 x3 x4 x5 x6 y0 y1 y2 y3 y4 y5 y6 v0 v1 v2 v3 v4 v5 v6
         go_wp2
         refine bodyPost_ret (v:=.tuple #[.agg #[.bool false,.slice none 0 0,.slice none 0 0],.int .i64 3]) (by simp[results,results14,go_sem,q0,q1,q2]) rfl ?_;rw[AA HS];exact⟨none,0,0,none,0,0,rfl,AP _ _,AP _ _,(((AA hB9).setCell (by simp<;>omega) _).setCell (by simp<;>omega) _).setCell (by simp<;>omega) _⟩
        .by_cases hxn:(n2:Int)<x
         .have HS:Hid (BZ c d sh dt sh' dt'=AT 3):=FF (AA HR1) (AA HR2) (AA HCC) (by rw[AA hl2,AA hl3]) (by rw[AA hl3];exact KK hlt (by unfold EU;rw[<-AA HX,AK (by omega)];rfl));have g0':(n2:Int)<=x- 1:=by omega
          have g1':¬(x- 1<0):=by omega
          clear hx0 hxn;go_wp2_with fail;refine(Aa _).mono ?_;rintro e w9⟨rfl,hb9⟩;obtain⟨q0,q1,q2,q3,q4,q5,q6⟩:=((AA G6).below AC hb9).all;have hB9:=AD ((AA GW).trans (hb9.mono (AA GW).size));clear hb9 G4 G5 G6 GW x0 x1 x2 x3 x4 x5 x6 y0 y1 y2 y3 y4 y5 y6 v0 v1 v2 v3 v4 v5 v6
          go_wp2
          refine bodyPost_ret (v:=.tuple #[.agg #[.bool false,.slice none 0 0,.slice none 0 0],.int .i64 3]) (by simp[results,results14,go_sem,q0,q1,q2]) rfl ?_;rw[AA HS];exact⟨none,0,0,none,0,0,rfl,AP _ _,AP _ _,(((AA hB9).setCell (by simp<;>omega) _).setCell (by simp<;>omega) _).setCell (by simp<;>omega) _⟩
         .obtain⟨k,hk⟩:∃k:Nat,x=(k:Int)+1:=⟨(x- 1).toNat,by omega⟩
          have hkn:k<n2:=by omega
          have HAX:Hid (DS dt i=k):=by show _=_;unfold DS;rw[<-AA HX,hk];omega
          have hcs:=(AA hse).cell (i:=k) (by rw[IS];exact hkn);have hfs:=(AA hse).free k;have hct:=(AA hsh).cell (i:=k) (by rw[Do];exact hkn);have hft:=(AA hsh).free k;obtain⟨sb,hsb⟩:∃b,b=(EI dt n2 i).getD k false:=⟨_,rfl⟩
          rw[<-hsb]at hcs;have HSK:Hid (EU dt n2 i= !sb):=by show _=_;unfold EU;rw[<-AA HX,AL (by omega),AA HAX,hsb];rfl
          subst hk;have hwk:IntKind.i64.wrap ((k:Int)+1- 1)=(k:Int):=by rw[IntKind.wrap_i64];omega
          clear hsb hx0 hxn;cases sb with
          |true=>
           have HS:Hid (BZ c d sh dt sh' dt'=AT 3):=FF (AA HR1) (AA HR2) (AA HCC) (by rw[AA hl2,AA hl3]) (by rw[AA hl3];exact KK hlt (AA HSK));go_wp2_with fail;refine(Aa _).mono ?_;rintro e w9⟨rfl,hb9⟩;obtain⟨q0,q1,q2,q3,q4,q5,q6⟩:=((AA G6).below AC hb9).all;have hB9:=AD ((AA GW).trans (hb9.mono (AA GW).size));clear hb9 G4 G5 G6 GW x0 x1 x2 x3 x4 x5 x6 y0 y1 y2 y3 y4 y5 y6 v0 v1 v2 v3 v4 v5 v6
           go_wp2
           refine bodyPost_ret (v:=.tuple #[.agg #[.bool false,.slice none 0 0,.slice none 0 0],.int .i64 3]) (by simp[results,results14,go_sem,q0,q1,q2]) rfl ?_;rw[AA HS];exact⟨none,0,0,none,0,0,rfl,AP _ _,AP _ _,(((AA hB9).setCell (by simp<;>omega) _).setCell (by simp<;>omega) _).setCell (by simp<;>omega) _⟩
          |false=>
           have HO1:Hid (Bd dt n2 (i+1)=true):=by show(Bd dt n2 i&&EU dt n2 i)=true;rw[AA hord,AA HSK];rfl
           go_upto_region 18 with fail;have I4:=AD ((AA G4).other (q:=⟨gb,k,none⟩) (by show w.heap.size≠gb;omega) (.bool true));have I5:=AD ((AA G5).other (q:=⟨gb,k,none⟩) (by show w.heap.size+1≠gb;omega) (.bool true));have IBX:=AD ((AA hbx).other (q:=⟨gb,k,none⟩) (by show p≠gb;omega) (.bool true));have ISH:=AD ((AA hsh).other (p:=⟨gb,k,none⟩) (by show gs≠gb;omega) (.bool true));have IK0:=AD ((AA hk0).other (p:=⟨gb,k,none⟩) (by show g0≠gb;omega) (.bool true));have ISE:=AD ((AA hse).set k true);have ILW:=AD ((AA Ck).setCell (p:=⟨gb,k,none⟩) (by show H<=gb;omega) (.bool true));have IW:=AD ((AA GW).setCell (p:=⟨gb,k,none⟩) (by show w.heap.size<=gb;omega) (.bool true));clear x0 x1 x2 x3 x4 x5 x6 y0 y1 y2 y3 y4 y5 y6 v0 v1 v2 v3 v4 v5 v6 hcs hfs hct hft hckr hcer G4 G5 hbx hsh hk0 hse Ck GW G6;generalize wr.setCell ⟨gb,k,none⟩ (.bool true)=w7 at*;have hbew:be<w7.heap.size:=AZ hbe (AA IW).size;have hceY:w7.cell? ⟨be,oe+i,none⟩=some (.int .i64 y):=by obtain⟨be',oe',hab',_,hc'⟩:=((AA K1).below AC (AA IW)).get hlt;cases hab';rw[hc',AA HY]
           have hct:=(AA ISH).cell (i:=k) (by rw[Do];exact hkn);have hft:=(AA ISH).free k;obtain⟨x0,x1,x2,x3,x4,x5,x6⟩:=(AA I5).all;obtain⟨v0,v1,v2,v3,v4,v5,v6⟩:=(AA IBX).all;have HKEEP:∀wx,BS (fun k=>k=gs) w7 wx->BS (fun k=>k=gs) w7 wx/\wx.cell? ⟨p,1,none⟩=some (.slice (some ⟨gs,0,none⟩) n2 n2)/\wx.cell? ⟨w.heap.size+1,1,none⟩=some (.slice (some ⟨be,oe,none⟩) n2 d1)/\wx.cell? ⟨be,oe+i,none⟩=some (.int .i64 y):=fun wx hwx=>⟨hwx,((AA IBX).but hwx (fun e=>hne2 e.symm)).cells.2.1,((AA I5).but hwx (by show ¬(w.heap.size+1=gs);omega)).cells.2.1,(hwx.cellAt hbew (by omega)).trans hceY⟩
           go_region_held3 (fun wx=>BS (fun k=>k=gs) w7 wx/\wx.cell? ⟨p,1,none⟩=some (.slice (some ⟨gs,0,none⟩) n2 n2)/\wx.cell? ⟨w.heap.size+1,1,none⟩=some (.slice (some ⟨be,oe,none⟩) n2 d1)/\wx.cell? ⟨be,oe+i,none⟩=some (.int .i64 y)) (first|exact HKEEP _ ((BS.refl (fun k=>k=gs) w7).setCell (p:=⟨gs,k,none⟩) rfl (.int .i64 y)).drew|exact HKEEP _ (BS.refl (fun k=>k=gs) w7).drew|exact HKEEP _ (BS.refl _ _)) (first|fail)
           all_goals
            go_wp2_with fail;go_roundw;case rel=>exact⟨i+1,by omega,by go_num,HO1,by show BA _ _ ((CZ dt sh' n2 i).set (DS dt i) (sh'.getD i 0));rw[AA HAX,<-AA HY];exact BA.set (AA ISH) k y,He.other (by show He _ _ ((EI dt n2 i).set (DS dt i) true);rw[AA HAX];exact AA ISE) (by show gb≠gs;omega) _,Ai.other (AA IBX) (fun e=>hne2 e.symm) _,BA.other (AA IK0) (fun e=>hne1 e.symm) _,by first|exact(BU (AA ILW) (by show H<=gs;omega) _).drew|exact BU (AA ILW) (by show H<=gs;omega) _⟩
            case measure=>simp[intOf];omega
       .have hin:i=n2:=by omega
        subst hin;have HSI:=AD (AW (AA HR2)).1;obtain⟨ZS,hZS⟩:∃z,z=CZ dt sh' i i:=⟨_,rfl⟩
        have HZL:Hid (ZS.length=i):=by rw[hZS,Do];exact rfl
        obtain⟨f,hf⟩:∃f,f=IQ dt sh' dt':=⟨_,rfl⟩
        have HS:Hid (BZ c d sh dt sh' dt'=⟨d,ZS,Bg f m2,0⟩):=by
         rw[hZS,hf,<-AA hl4];have:=JD (AA HR1) (AA HR2) (AA HCC) (by rw[AA hl2,AA hl3]) (by rw[AA hl3];exact AA hord)
         rwa [AA hl3]at this
        have HFP:Hid (∀P,(f P).1=dt'.getD (place sh' (Fb dt (BK ZS (P:Nat)) i)).toNat 0):=by intro P;rw[hf,hZS];show dt'.getD (place sh' (Fb dt (BK (CZ dt sh' sh'.length sh'.length) P) sh'.length)).toNat 0=_;rw[AA hl3]
        have HZLE:Hid (∀k,ZS.getD k 0<=10000):=by rw[hZS];exact YB (AA hord) (fun k=>((AA HSI).cell k).2)
        have HZF:Hid (0<m2->F0 ZS):=fun h=>by rw[hZS];refine Nz (AA hord) (AA hl3) (FI (AA HSI) ?_);rw[(AW (AA HR2)).2.1,AA hl4];omega
        have HBI:Hid (∀D,GC ZS D->GC sh' (Fb dt D i)):=fun D hD=>Tx (AA hord) (AA hl3) (by rw[<-hZS];exact hD);have HSTP:Hid (∀j,j<i->DS dt j<i/\dt.getD j 0=(DS dt j:Int)+1):=fun j hj=>by have h9:=Da (AA hord) hj;refine⟨Fl h9,?_⟩;unfold EU at h9;simp only[Ah,BC]at h9;unfold DS;omega
        have hm4:m2<=10000:=by have h9:=(AW (AA HR2)).2.1;rw[AA hl4]at h9;have:=(AA HSI).bd;omega
        rw[<-hZS]at hsh;have HST0:=AD (VG.start f (AA hbx) (AA hk0) (AA GW) (by omega) (by omega));have HG0:Hid (g0≠gs):=fun e=>hne1 e.symm;obtain⟨i0,hi',hz0,hz1,hz2⟩:=info_parts A6;clear hZS hf x0 x1 x2 x3 x4 x5 x6 y0 y1 y2 y3 y4 y5 y6 v0 v1 v2 v3 v4 v5 v6 hbx hk0 hse Ck hmb F4 F5 F6 FW;obtain⟨y0,y1,y2,y3,y4,y5,y6⟩:=(AA G5).all;go_wp2_with fail;go_loopw[12] (fun v wr=>∃P g cap,P<=m2/\v=.int .i64 (P:Nat)/\Hid (VG w p d (.slice (some ⟨gs,0,none⟩) i i) f P wr g cap)/\Hid (g≠gs)/\Hid (BA wr gs ZS)/\Hid (Ai wr w.heap.size c (.slice (some a1) n1 c1) (.slice (some a2) i c2))/\Hid (Ai wr (w.heap.size+1) d (.slice (some b1) i d1) (.slice (some b2) m2 d2))/\Hid (Ai wr (w.heap.size+2) false (.slice none 0 0) (.slice none 0 0))) (fun v _=>m2- (intOf v).toNat);case atStart=>exact⟨0,_,0,AS _,rfl,HST0,HG0,hsh,G4,G5,G6⟩
        case round=>
         obtain⟨wo,hwo⟩:∃x,x=wr:=⟨_,rfl⟩
         subst hwo;obtain⟨P,g,cap,hP,rfl,hst,hgg,hzs,hb4,hb5,hb6⟩:=hrel;clear HST0 HG0 hsh G4 G5 G6 GW y0 y1 y2 y3 y4 y5 y6;obtain⟨x0,x1,x2,x3,x4,x5,x6⟩:=(AA hb4).all;obtain⟨y0,y1,y2,y3,y4,y5,y6⟩:=(AA hb5).all;obtain⟨v0,v1,v2,v3,v4,v5,v6⟩:=(AA hst).box.all;by_cases hlt2:P<m2
         .have HFU:=AD (AA HZF (by omega));obtain⟨D,hD⟩:∃D,D=BK ZS (P:Nat):=⟨_,rfl⟩
          have HDL:Hid (D.length=i):=by rw[hD,De];exact AA HZL
          have HDI:Hid (GC ZS D):=by rw[hD];exact Ek (AA HFU) _
          have hci:=Kx (some ⟨gs,0,none⟩) i i ZS (P:Nat) wo ((AA hzs).row (AA HZL) (by omega)) (by omega) (AA HZLE) (AA HFU) (by omega) (by omega);rw[<-hD]at hci;have HFPP:Hid ((f P).1=dt'.getD (place sh' (Fb dt D i)).toNat 0):=by rw[hD];exact AA HFP P
          clear hD;go_upto_region 24 with(go_at_call 55;refine hci.mono ?_;rintro e w2⟨rfl,hK2,hb2⟩;have HK2:=AD hK2;have HB2:=AD hb2;clear hK2 hb2);clear hci;have hwz:=(AA hst).low.size;have hwz2:=(AA HB2).size;have Jb4:=AD (((AA hb4).below AC (AA HB2)).alloc (.cells (madeCells #[.int .i64 0] i) 3));have Jb5:=AD (((AA hb5).below AC (AA HB2)).alloc (.cells (madeCells #[.int .i64 0] i) 3));have Jb6:=AD (((AA hb6).below AC (AA HB2)).alloc (.cells (madeCells #[.int .i64 0] i) 3));have Jzs:=AD (((AA hzs).below AC (AA HB2)).alloc (.cells (madeCells #[.int .i64 0] i) 3));have Jst:=AD ((AA hst).below ((AA HB2).alloc hwz2 (.cells (madeCells #[.int .i64 0] i) 3)));have JK:=AD ((AA HK2).alloc (.cells (madeCells #[.int .i64 0] i) 3));have JF:=AD (BA.made w2 i w2.heap.size rfl);have hgt:wo.heap.size<w2.heap.size:=(AA HK2).lt;have hl6:=(AA hb6).lt;have hlp:=(AA hst).box.lt;have hlz:=(AA hzs).lt;have hlg:=GI (AA hst).owns (g:=g) rfl;have hWs:(w2.alloc (.cells (madeCells #[.int .i64 0] i) 3)).heap.size=w2.heap.size+1:=by simp
          generalize w2.alloc (.cells (madeCells #[.int .i64 0] i) 3)=wf at*;generalize w2.heap.size=gf at*;generalize wo.heap.size=gt at*;clear hst hzs hb4 hb5 hb6 HK2 HB2 x0 x1 x2 x3 x4 x5 x6 y0 y1 y2 y3 y4 y5 y6 v0 v1 v2 v3 v4 v5 v6 w2;obtain⟨BI,hBI⟩:∃b,b=Fb dt D i:=⟨_,rfl⟩
          have HBL:Hid (BI.length=i):=by rw[hBI,S6];exact rfl
          have HBG:Hid (∀j,j<i->BI.getD j 0=D.getD (DS dt j) 0):=fun j hj=>by rw[hBI,NI _ _ _ _ hj]
          have HBN:Hid (GC sh' BI):=by rw[hBI];exact AA HBI D (AA HDI)
          rw[<-hBI]at HFPP;clear hBI;go_wp2_with fail;go_loopw[15] (fun v wr=>∃j:Nat,j<=i/\v=.int .i64 (j:Nat)/\Hid (BA wr gf (BI.take j++(List.replicate i 0).drop j))/\Hid (Below gf wf wr)) (fun v _=>i- (intOf v).toNat);case atStart=>exact⟨0,AS _,rfl,by simpa using JF,AG⟩
          case round=>
           obtain⟨j,hj,rfl,hbf,hlf⟩:=hrel;clear JF;have L4:=AD ((AA Jb4).low (by omega) (AA hlf));have HWr:=AD ((AA Jst).low.trans ((AA hlf).mono (by omega)));obtain⟨x0,x1,x2,x3,x4,x5,x6⟩:=(AA L4).all;by_cases hlj:j<i
           .obtain⟨bk,ok,hab,hbk,hck⟩:=(AA H2).get hlj;cases hab;have hckr:=((AA HWr).cell (p:=⟨bk,ok+j,none⟩) hbk).trans hck;obtain⟨hka,hkx⟩:=AA HSTP j hlj;rw[hkx]at hckr;have HGJ:=AD (AA HBG j hlj);obtain⟨k,hk⟩:∃k,k=DS dt j:=⟨_,rfl⟩
            rw[<-hk]at hka hckr HGJ;have hcd:=((AA hlf).cell (p:=⟨gt,k,none⟩) hgt).trans ((AA JK).cell (i:=k) (by rw[AA HDL];exact hka));have hcf:=(AA hbf).cell (i:=j) (by rw[PB (by rw[AA HBL];simp) (by simp;exact hj)];simpa using hlj);have hff:=(AA hbf).free j;obtain⟨y,hy⟩:∃y,y=D.getD k 0:=⟨_,rfl⟩
            rw[<-hy]at hcd HGJ;have HNX:Hid (BA (wr.setCell ⟨gf,j,none⟩ (.int .i64 y)) gf (BI.take (j+1)++(List.replicate i 0).drop (j+1))):=by
             have h9:=(AA hbf).set j y;rw[<-AA HGJ,PA (by rw[AA HBL];simp) (by simpa using hlj)]at h9
             rwa [AA HGJ]at h9
            clear hck hkx hk hy
            go_wp2
            go_roundw;case rel=>exact⟨j+1,by omega,by go_num,HNX,(AA hlf).setCell (by exact AC) _⟩
            case measure=>simp[intOf];omega
           .have hji:j=i:=by omega
            subst hji;have HBF:Hid (BA wr gf BI):=by
             have:=AA hbf
             rwa [AV (by rw[AA HBL];exact AC),List.drop_of_length_le (by simp),Fd]at this
            have M5:=AD ((AA Jb5).low (by omega) (AA hlf));have M6:=AD ((AA Jb6).low (by omega) (AA hlf));have MZ:Hid (BA wr gs ZS):=((AA hlf).block gs (by have:=(AA Jzs).lt;omega)).trans (AA Jzs);have NST:Hid (VG w p d (.slice (some ⟨gs,0,none⟩) j j) f P wr g cap):=⟨(AA Jst).box.low (by omega) (AA hlf),US (AA Jst).owns (by omega) (AA hlf),AA HWr,(AA Jst).place⟩
            have hpb:=Fp (AA HBN);rw[(AW (AA HR2)).2.1,AA hl4]at hpb;obtain⟨J,hJ⟩:∃J:Nat,place sh' BI=(J:Int):=⟨(place sh' BI).toNat,by omega⟩
            have hJl:J<m2:=by omega
            obtain⟨bd,od,hab,hbd,hcd⟩:=(AA K2).get hJl;cases hab;have hcdr:=((AA HWr).cell (p:=⟨bd,od+J,none⟩) hbd).trans hcd;have hbdl:bd<wr.heap.size:=AZ hbd (AA HWr).size;obtain⟨x,hx⟩:∃x,x=dt'.getD J 0:=⟨_,rfl⟩
            rw[<-hx]at hcdr;have HFX:Hid ((f P).1=x):=by rw[AA HFPP,hJ,hx];exact rfl
            have HKK:Hid (∀wx,Below wr.heap.size wr wx->wx.cell? ⟨p,2,none⟩=some (.slice (some ⟨g,0,none⟩) P cap)/\wx.cell? ⟨w.heap.size+1,2,none⟩=some (.slice (some ⟨bd,od,none⟩) m2 d2)/\wx.cell? ⟨w.heap.size+1,1,none⟩=some (.slice (some b1) j d1)/\wx.cell? ⟨bd,od+J,none⟩=some (.int .i64 x)/\wx.frozen? ⟨p,2,none⟩=false):=fun wx hwx=>⟨((AA NST).box.below AC hwx).cells.2.2,((AA M5).below AC hwx).cells.2.2,((AA M5).below AC hwx).cells.2.1,(hwx.cell (p:=⟨bd,od+J,none⟩) hbdl).trans hcdr,((AA NST).box.below AC hwx).free _⟩
            have HCC2:Hid (∀wx,Below wr.heap.size wr wx->Calls prog 56 #[.slice (some b1) j d1,.slice (some ⟨gf,0,none⟩) j j] wx fun e w'=>e=.returned (.int .i64 (J:Nat))/\Below wx.heap.size wx w'):=fun wx hwx=>by rw[<-hJ];exact Qf (some b1) (some ⟨gf,0,none⟩) j d1 j j sh' BI wx (((AA K1).below AC (AA HWr)).below AC hwx) (((AA HBF).below AC hwx).row (AA HBL) (by omega)) AC (AA HSI) (AA HBN)
            have HAA:Hid (∀wx w7,Below wr.heap.size wr wx->(wx.alloc (.cells #[.int .i64 x] 3)).grownBy w7 (some g)->w7.cell? ⟨p,2,none⟩=some (.slice (some ⟨g,0,none⟩) P cap)/\w7.cell? ⟨w.heap.size+1,2,none⟩=some (.slice (some ⟨bd,od,none⟩) m2 d2)/\w7.cell? ⟨w.heap.size+1,1,none⟩=some (.slice (some b1) j d1)/\w7.cell? ⟨bd,od+J,none⟩=some (.int .i64 x)/\w7.frozen? ⟨p,2,none⟩=false):=fun wx w7 hwx hg=>by
             have ho:=BN (AA NST).owns AC hwx;have q1:=((AA NST).box.below AC hwx).grown ho _ hg;have q2:=((AA M5).below AC hwx).grown ho _ hg;have hgw:w.heap.size<=g:=by
              rcases ho.2 with⟨hv,_⟩|⟨g',cp,cur,hv,hbg,_⟩
              .simp at hv
              .simp at hv;omega
             exact⟨q1.cells.2.2,q2.cells.2.2,q2.cells.2.1,(SQ _ hg (AZ hbdl hwx.size) (by omega)).trans ((hwx.cell (p:=⟨bd,od+J,none⟩) hbdl).trans hcdr),q1.free _⟩
            clear hpb hJ hcd hx hbf hlf JK Jst Jb4 Jb5 Jb6 Jzs;go_upto_region 28 with fail;refine YP _ wr (by simp) p (w.heap.size+1) rfl rfl (.slice (some ⟨gf,0,none⟩) j j) rfl g P cap ((Bg f P).map (Value.int .i64)) bd od m2 d2 J (some b1) j d1 x w.heap.size hJl (by omega) (fun wx=>wx.cell? ⟨p,2,none⟩=some (.slice (some ⟨g,0,none⟩) P cap)/\wx.cell? ⟨w.heap.size+1,2,none⟩=some (.slice (some ⟨bd,od,none⟩) m2 d2)/\wx.cell? ⟨w.heap.size+1,1,none⟩=some (.slice (some b1) j d1)/\wx.cell? ⟨bd,od+J,none⟩=some (.int .i64 x)/\wx.frozen? ⟨p,2,none⟩=false) (fun _ h=>h) (AA HKK) (AA HCC2) (AA NST).owns (AA HWr).size (AA HAA) (fun _ _ _ _ _ h=>h) ?_;intro wx g' Ak w7 hbx hown7 An hat;simp only[ZZ,Act.put,List.setIfInBounds_toArray,List.set_cons_zero,List.set_cons_succ];have ho:=BN (AA NST).owns AC hbx;obtain⟨hb7,hst7⟩:=((AA NST).below hbx).push _ (AA HFX) hown7 An;have N4:=(((AA L4).below AC hbx).grown ho _ An).other (q:=⟨p,2,none⟩) (by show w.heap.size≠p;omega) (.slice (some ⟨g',0,none⟩) (P+1) Ak);have N5:=(((AA M5).below AC hbx).grown ho _ An).other (q:=⟨p,2,none⟩) (by show w.heap.size+1≠p;omega) (.slice (some ⟨g',0,none⟩) (P+1) Ak);have N6:=(((AA M6).below AC hbx).grown ho _ An).other (q:=⟨p,2,none⟩) (by show w.heap.size+2≠p;omega) (.slice (some ⟨g',0,none⟩) (P+1) Ak);have NZ:=(((AA MZ).below AC hbx).grown _ An (fun e=>AA hgg e.symm)).other (p:=⟨p,2,none⟩) hne2 (.slice (some ⟨g',0,none⟩) (P+1) Ak);have hgs:g'≠gs:=by
             rcases hat with e|e
             .have e':g=g':=by simpa[Value.ownBlock]using e
              rw[<-e'];exact AA hgg
             .have:=((AA MZ).below AC hbx).lt;omega
            clear hb7 hown7 An hat ho hbx;go_wp2_with fail;go_roundw;case rel=>exact⟨P+1,g',Ak,by omega,by go_num,hst7,hgs,NZ,N4,N5,N6⟩
            case measure=>simp[intOf];omega
         .have hPN:P=m2:=by omega
          subst hPN;have HLW:=AD (AA hst).low;obtain⟨_,_,hv,hDD⟩:=Bt.of_owns (AA hst).owns (by omega);cases hv;have HD:=AD hDD;obtain⟨z0,z1,z2,z3,z4,z5,z6⟩:=(AA hb6).all;clear hst hDD
          go_wp2
          refine bodyPost_ret (v:=.tuple #[.agg #[.bool d,.slice (some ⟨gs,0,none⟩) i i,.slice (some ⟨g,0,none⟩) P cap],.int .i64 0]) (by simp[results,results14,go_sem,z0,z1,z2]) rfl ?_;rw[AA HS];exact⟨_,_,_,_,_,_,rfl,((AA hzs).row (AA HZL) (by omega)).sets (AA hb6) _ _ _,(AA HD).row.sets (AA hb6) _ _ _,(((AA HLW).setCell (by simp<;>omega) _).setCell (by simp<;>omega) _).setCell (by simp<;>omega) _⟩
    .have HS:Hid (BZ c d sh dt sh' dt'=AT 5):=Id (AA HR1) (AA HR2) (AA HCC) (by rw[AA hl2,AA hl3];exact Bq);have g0:((n2:Int) !=(m1:Int))=true:=by simp;omega
     clear Bq;go_wp2_with fail;refine(Aa _).mono ?_;rintro e w9⟨rfl,hb9⟩;obtain⟨q0,q1,q2,q3,q4,q5,q6⟩:=((AA D6).below AC hb9).all;have hB9:=AD ((AA hB3).trans (hb9.mono (AA hB3).size));clear hb9 D4 D5 D6 hB3 x0 x1 x2 x3 x4 x5 x6 y0 y1 y2 y3 y4 y5 y6
     go_wp2
     refine bodyPost_ret (v:=.tuple #[.agg #[.bool false,.slice none 0 0,.slice none 0 0],.int .i64 5]) (by simp[results,results14,go_sem,q0,q1,q2]) rfl ?_;rw[AA HS];exact⟨none,0,0,none,0,0,rfl,AP _ _,AP _ _,(((AA hB9).setCell (by simp<;>omega) _).setCell (by simp<;>omega) _).setCell (by simp<;>omega) _⟩
   .have HS:Hid (BZ c d sh dt sh' dt'=AT r):=Hi (AA HR1) (AA HR2) r (AA HCC) h0;have hcb:(r !=0)=true:=by simp[h0]
    clear h0;go_wp2_with fail;refine(Aa _).mono ?_;rintro e w9⟨rfl,hb9⟩;obtain⟨q0,q1,q2,q3,q4,q5,q6⟩:=((AA D6).below AC hb9).all;have hB9:=AD ((AA hB3).trans (hb9.mono (AA hB3).size));clear hb9 D4 D5 D6 hB3
    go_wp2
    refine bodyPost_ret (v:=.tuple #[.agg #[.bool false,.slice none 0 0,.slice none 0 0],.int .i64 r]) (by simp[results,results14,go_sem,q0,q1,q2]) rfl ?_;rw[AA HS];exact⟨none,0,0,none,0,0,rfl,AP _ _,AP _ _,(((AA hB9).setCell (by simp<;>omega) _).setCell (by simp<;>omega) _).setCell (by simp<;>omega) _⟩
def Ju{c:Bool}{n1 n2 m1:Nat}(h:Bv c n1 n2 m1=0)(h5:m1<=5):n2<=5:=by
 unfold Bv at h;split at h
 .rename_i h1;exact absurd h h1
 .split at h
  .split at h
   .cases h
   .omega
  .split at h
   .cases h
   .omega
def OU(x y:Int)(w:World)(hx: -1000000000000000<=x/\x<=1000000000000000)(hy:Eg x=y):Calls prog 198 #[.int .i64 x] w fun e w'=>e=.returned (.int .i64 y)/\w'=w:=by
 obtain⟨h1,h2⟩:=hx;subst hy;by_cases h:x<0
 .have HE:Hid (Eg x= -x):=by show _=_;unfold Eg;rw[AI h]
  go_enter func198,ntmps198
  go_wp2
  go_ret;exact⟨BM (by rw[AA HE]),rfl⟩
 .have HE:Hid (Eg x=x):=by show _=_;unfold Eg;rw[AH h]
  go_enter func198,ntmps198
  go_wp2
  go_ret;exact⟨BM (by rw[AA HE]),rfl⟩
structure Rd(W:World)(ST ZS:List Int)(k1 k2 g1 p1 g2 p2:Nat)(wr:World):Prop where
 o1:wr.ownsRow W.heap.size 3 1 (.slice (some ⟨g1,0,none⟩) k1 p1) k1 ((ST.take k1).map (Value.int .i64))
 o2:wr.ownsRow W.heap.size 3 1 (.slice (some ⟨g2,0,none⟩) k2 p2) k2 ((ZS.take k2).map (Value.int .i64))
 ne:g1≠g2
 low:Below W.heap.size W wr
def Rd.drew{W wr:World}{ST ZS:List Int}{k1 k2 g1 p1 g2 p2:Nat}(h:Rd W ST ZS k1 k2 g1 p1 g2 p2 wr):Rd W ST ZS k1 k2 g1 p1 g2 p2 wr.drew:=⟨BN h.o1 AC AG.drew,BN h.o2 AC AG.drew,h.ne,h.low.drew⟩
def Rd.start(W:World)(ST ZS:List Int):Rd W ST ZS 0 0 W.heap.size 0 (W.heap.size+1) 0 ((W.alloc (.cells #[] 3)).alloc (.cells #[] 3)):=by
 refine⟨?_,?_,by omega,(AG.alloc AC _).alloc (by simp) _⟩
 .exact((BA.new W).alloc _).owns AC
 .have:=BA.new (W.alloc (.cells #[] 3));have h2:BA ((W.alloc (.cells #[] 3)).alloc (.cells #[] 3)) (W.heap.size+1) []:=by simpa using this
  exact h2.owns (by omega)
def Rd.push1{W wr w7:World}{ST ZS:List Int}{k1 k2 g1 p1 g2 p2 g' p':Nat}{x:Int}(o:Obj)(h:Rd W ST ZS k1 k2 g1 p1 g2 p2 wr)(BJ:w7.ownsRow W.heap.size 3 1 (.slice (some ⟨g',0,none⟩) (k1+1) p') (k1+1) ((ST.take k1).map (Value.int .i64)++ [.int .i64 x]))(hx:ST.getD k1 0=x)(hk:k1<ST.length)(hg:(wr.alloc o).grownBy w7 (Value.ownBlock (.slice (some ⟨g1,0,none⟩) k1 p1)))(hat:Value.ownBlock (.slice (some ⟨g1,0,none⟩) k1 p1)=some g'\/g'=wr.heap.size+1):Rd W ST ZS (k1+1) k2 g' p' g2 p2 w7:=by
 have hg1:(wr.alloc o).grownBy w7 (some g1):=hg;refine⟨?_,MP h.o2 o hg1 (fun e=>h.ne e.symm) AC,?_,h.low.trans (Co o h.o1 h.low.size hg)⟩
 .rw[C3 ST k1 hk,hx];simpa using BJ
 .rcases hat with e|e
  .have e':g1=g':=by simpa[Value.ownBlock]using e
   rw[<-e'];exact h.ne
  .have:=GI h.o2 (g:=g2) rfl;omega
def Rd.push2{W wr w7:World}{ST ZS:List Int}{k1 k2 g1 p1 g2 p2 g' p':Nat}{x:Int}(o:Obj)(h:Rd W ST ZS k1 k2 g1 p1 g2 p2 wr)(BJ:w7.ownsRow W.heap.size 3 1 (.slice (some ⟨g',0,none⟩) (k2+1) p') (k2+1) ((ZS.take k2).map (Value.int .i64)++ [.int .i64 x]))(hx:ZS.getD k2 0=x)(hk:k2<ZS.length)(hg:(wr.alloc o).grownBy w7 (Value.ownBlock (.slice (some ⟨g2,0,none⟩) k2 p2)))(hat:Value.ownBlock (.slice (some ⟨g2,0,none⟩) k2 p2)=some g'\/g'=wr.heap.size+1):Rd W ST ZS k1 (k2+1) g1 p1 g' p' w7:=by
 have hg1:(wr.alloc o).grownBy w7 (some g2):=hg;refine⟨MP h.o1 o hg1 h.ne AC,?_,?_,h.low.trans (Co o h.o2 h.low.size hg)⟩
 .rw[C3 ZS k2 hk,hx];simpa using BJ
 .rcases hat with e|e
  .have e':g2=g':=by simpa[Value.ownBlock]using e
   rw[<-e'];exact h.ne
  .have:=GI h.o1 (g:=g1) rfl;omega
def Xy(c d:Bool)(a1 a2 b1 b2:Addr)(n1 n2 m1 m2 c1 c2 d1 d2:Nat)(sh dt sh' dt':List Int)(w:World)(h1:AO w (some a1) n1 sh)(h2:AO w (some a2) n2 dt)(k1:AO w (some b1) m1 sh')(k2:AO w (some b2) m2 dt'):Calls prog 127 #[.agg #[.bool c,.slice (some a1) n1 c1,.slice (some a2) n2 c2],.agg #[.bool d,.slice (some b1) m1 d1,.slice (some b2) m2 d2]] w (CJ w (Ib c d sh dt sh' dt')):=by
 have hl1:=AD h1.len;have hl2:=AD h2.len;have hl3:=AD k1.len;have hs2:=h2.small;have hs4:=k2.small;have H1:=AD h1;have H2:=AD h2;have K1:=AD k1;have K2:=AD k2;clear h1 h2 k1 k2;obtain⟨r1,hr1⟩:∃r,AJ c sh dt=r:=⟨_,rfl⟩
 obtain⟨r2,hr2⟩:∃r,AJ d sh' dt'=r:=⟨_,rfl⟩
 have HR1:=AD hr1;have HR2:=AD hr2;clear hr1 hr2;go_enter func127,ntmps127;go_wp2_with fail;refine(A0 _ _ _ _ _ _ _ sh dt _ ((((AA H1).alloc _).alloc _).alloc _) ((((AA H2).alloc _).alloc _).alloc _) _ HR1).mono ?_;rintro e w1⟨rfl,hb1⟩;obtain⟨B4,B5,B6,hB1⟩:=Az hb1;have hz1:=B6.lt;clear hb1;obtain⟨x0,x1,x2,x3,x4,x5,x6⟩:=B4.all;obtain⟨y0,y1,y2,y3,y4,y5,y6⟩:=B5.all;cases r1 with
 |false=>
  have HS:Hid (Ib c d sh dt sh' dt'=AT 3):=GE (AA HR1);go_wp2_with fail;refine(Aa _).mono ?_;rintro e w9⟨rfl,hb9⟩;obtain⟨q0,q1,q2,q3,q4,q5,q6⟩:=((B6).below AC hb9).all;have hB9:=AD ((hB1).trans (hb9.mono (hB1).size));clear hb9 hB1 B4 B5 B6 hz1 x0 x1 x2 x3 x4 x5 x6 y0 y1 y2 y3 y4 y5 y6
  go_wp2
  refine bodyPost_ret (v:=.tuple #[.agg #[.bool false,.slice none 0 0,.slice none 0 0],.int .i64 3]) (by simp[results,results127,go_sem,q0,q1,q2]) rfl ?_;rw[AA HS];exact⟨none,0,0,none,0,0,rfl,AP _ _,AP _ _,(((AA hB9).setCell (by simp<;>omega) _).setCell (by simp<;>omega) _).setCell (by simp<;>omega) _⟩
 |true=>
  go_wp2_with fail;refine(A0 _ _ _ _ _ _ _ sh' dt' _ ((AA K1).below AC hB1) ((AA K2).below AC hB1) _ HR2).mono ?_;rintro e w2⟨rfl,hb2⟩;have C4:=AD (B4.below AC hb2);have C5:=AD (B5.below AC hb2);have C6:=AD (B6.below AC hb2);have hB2:=AD (hB1.trans (hb2.mono hB1.size));clear hb2 hB1 B4 B5 B6 hz1 x0 x1 x2 x3 x4 x5 x6 y0 y1 y2 y3 y4 y5 y6 w1;cases r2 with
  |false=>
   have HS:Hid (Ib c d sh dt sh' dt'=AT 3):=GD (AA HR2);go_wp2_with fail;refine(Aa _).mono ?_;rintro e w9⟨rfl,hb9⟩;obtain⟨q0,q1,q2,q3,q4,q5,q6⟩:=((AA C6).below AC hb9).all;have hB9:=AD ((AA hB2).trans (hb9.mono (AA hB2).size));clear hb9 C4 C5 C6 hB2
   go_wp2
   refine bodyPost_ret (v:=.tuple #[.agg #[.bool false,.slice none 0 0,.slice none 0 0],.int .i64 3]) (by simp[results,results127,go_sem,q0,q1,q2]) rfl ?_;rw[AA HS];exact⟨none,0,0,none,0,0,rfl,AP _ _,AP _ _,(((AA hB9).setCell (by simp<;>omega) _).setCell (by simp<;>omega) _).setCell (by simp<;>omega) _⟩
  |true=>
   obtain⟨r,hr⟩:∃r,Bv c n1 n2 m1=r:=⟨_,rfl⟩
   have hcall:=Ig c d a1 a2 b1 b2 n1 n2 m1 m2 c1 c2 d1 d2 sh dt sh' dt' w2 ((AA H1).below AC (AA hB2)) ((AA H2).below AC (AA hB2)) ((AA K1).below AC (AA hB2)) ((AA K2).below AC (AA hB2)) r hr;have HCC:Hid (Bv c sh.length dt.length sh'.length=r):=by rw[AA hl1,AA hl2,AA hl3];exact hr
   have HN5:Hid (r=0->n2<=5):=fun e=>Ju (hr.trans e) (by rw[<-AA hl3];exact(AW (AA HR2)).2.2);clear hr;obtain⟨x0,x1,x2,x3,x4,x5,x6⟩:=(AA C4).all;obtain⟨y0,y1,y2,y3,y4,y5,y6⟩:=(AA C5).all;go_upto_region 4 with(go_at_call 197;refine hcall.mono ?_;rintro e w3⟨⟨e1,l1,f1,e2,l2,f2,rfl,hz⟩,hb3⟩;have HZ:=AD hz;have HB3:=AD hb3;clear hz hb3);clear hcall x0 x1 x2 x3 x4 x5 x6 y0 y1 y2 y3 y4 y5 y6;have D4:=AD (((AA C4).below AC (AA HB3)).alloc (.cells #[.bool d,.slice e1 l1 f1,.slice e2 l2 f2] 25));have D6:=AD (((AA C6).below AC (AA HB3)).alloc (.cells #[.bool d,.slice e1 l1 f1,.slice e2 l2 f2] 25));have D7:=AD (Ai.new w3 d (.slice e1 l1 f1) (.slice e2 l2 f2));have hww:=(AA hB2).size;have hw23:=(AA HB3).size;have hz6:=(AA C6).lt;have HW:=AD (((AA hB2).trans ((AA HB3).mono hww)).alloc (by omega) (.cells #[.bool d,.slice e1 l1 f1,.slice e2 l2 f2] 25));have HZ':Hid (r=0->l1=n2/\l2=m2/\AO (w3.alloc (.cells #[.bool d,.slice e1 l1 f1,.slice e2 l2 f2] 25)) e1 n2 (Al n2 sh')/\AO (w3.alloc (.cells #[.bool d,.slice e1 l1 f1,.slice e2 l2 f2] 25)) e2 m2 dt'):=fun h=>by obtain⟨q1,q2,q3,q4⟩:=AA HZ h;exact⟨q1,q2,q3.alloc _,q4.alloc _⟩
   have hp2:w.heap.size+2<w3.heap.size:=by omega
   have hpW:w3.heap.size<(w3.alloc (.cells #[.bool d,.slice e1 l1 f1,.slice e2 l2 f2] 25)).heap.size:=by simp
   generalize w3.alloc (.cells #[.bool d,.slice e1 l1 f1,.slice e2 l2 f2] 25)=W at*;generalize w3.heap.size=p at*;clear C4 C5 C6 hB2 HB3 HZ hww hw23 hz6 w3 w2;by_cases h0:r=0
   .subst h0;obtain⟨ql1,ql2,hR1,hR2⟩:=AA HZ' rfl;subst l1;subst l2;have hn5:=AA HN5 rfl;have HP1:=AD hR1;have HP2:=AD hR2;have HBO:Hid (AJ d (Al n2 sh') dt'=true):=M9 (AA HR2) hn5;clear HZ' hR1 hR2;obtain⟨bs,hbs⟩:∃b,b=Al n2 sh':=⟨_,rfl⟩
    rw[<-hbs]at HP1 HBO;have HBS:Hid (Al dt.length sh'=bs):=by rw[AA hl2];exact hbs.symm
    clear hbs;obtain⟨ZS,hZS⟩:∃z,z=FM dt:=⟨_,rfl⟩
    obtain⟨ST,hST⟩:∃z,z=Gn bs dt:=⟨_,rfl⟩
    have HZL:Hid (ZS.length=n2):=by rw[hZS,N3];exact AA hl2
    have HSL:Hid (ST.length=n2):=by rw[hST,Rj];exact AA hl2
    have HZD:=AD hZS;have HSD:=AD hST;clear hZS hST;obtain⟨x0,x1,x2,x3,x4,x5,x6⟩:=(AA D4).all;obtain⟨i0,hi,hz0,hz1,hz2⟩:=info_parts A6;go_upto_region 8 with fail;have HT0:=AD (Rd.start W ST ZS);go_wp2_with fail;go_loopw[8,9,10] (fun s z i wr=>∃k g1 p1 g2 p2,k<=n2/\i=.int .i64 (k:Nat)/\s=.slice (some ⟨g1,0,none⟩) k p1/\z=.slice (some ⟨g2,0,none⟩) k p2/\Hid (Rd W ST ZS k k g1 p1 g2 p2 wr)) (fun _ _ i _=>n2- (intOf i).toNat);case atStart=>exact⟨0,_,0,_,0,AS _,rfl,rfl,rfl,HT0⟩
    case round=>
     obtain⟨k,g1,p1,g2,p2,hk,rfl,rfl,rfl,ht⟩:=hrel;clear HT0 x0 x1 x2 x3 x4 x5 x6;have Ck:=(AA ht).low;have hlz:=Ck.size;have hp3:p<wr.heap.size:=by omega
     obtain⟨x0,x1,x2,x3,x4,x5,x6⟩:=((AA D4).low (by omega) Ck).all;obtain⟨y0,y1,y2,y3,y4,y5,y6⟩:=((AA D7).low (by omega) Ck).all;by_cases hlt:k<n2
     .obtain⟨bk,ok,hab,hbk,hck⟩:=(AA H2).get hlt;cases hab;have hbkW:bk<W.heap.size:=AZ hbk (AA HW).size;have hckW:=((AA HW).cell (p:=⟨bk,ok+k,none⟩) hbk).trans hck;have hckr:=(Ck.cell (p:=⟨bk,ok+k,none⟩) hbkW).trans hckW;obtain⟨be,oe,rfl,hbe,hce⟩:=(AA HP1).get hlt;have hcer:=(Ck.cell (p:=⟨be,oe+k,none⟩) hbe).trans hce;have hxb:=Bl (AA HR1) (k:=k) (by rw[AA hl2];exact hlt);have hbb:=(AW (AA HBO)).1.cell k;obtain⟨x,hx⟩:∃x,x=dt.getD k 0:=⟨_,rfl⟩
      obtain⟨b,hb⟩:∃b,b=bs.getD k 0:=⟨_,rfl⟩
      have HZG:=AD (UD dt k (by rw[AA hl2];exact hlt));have HSG:=AD (Lz bs dt k (by rw[AA hl2];exact hlt));rw[<-AA HZD,<-hx]at HZG;rw[<-AA HSD,<-hx,<-hb]at HSG;rw[<-hx]at hckW hckr hxb;rw[<-hb]at hce hcer hbb;clear hx hb hck;have HAB:Hid (Eg x=Eg x):=rfl;obtain⟨y,hy⟩:∃y,Eg x=y:=⟨_,rfl⟩
      rw[hy]at HZG;have hca:=OU x y wr hxb hy;clear hy HAB;go_upto_region 12 with(first|(go_at_call 198;refine hca.mono ?_;rintro e wq⟨rfl,hw⟩;obtain rfl:=hw.symm)|(at_builtin;refine wpList_append_lies _ rfl _ _ 23 rfl W.heap.size 3 i0 (.int .i64 0) 1 8 underlying23 hi hz0 hz1 hz2 rfl (by decide) _ _ _ rfl (BN (AA ht).o2 AC (AG.alloc AC _)) ⟨wr.heap.size,0,none⟩ 1 1 [.int .i64 y] rfl rfl (Bp _ _) (CD _) (by omega) (by unfold maxLen;omega) (by omega) (by have:=(AA ht).low.size;simp;omega) (wr.heap.size+1) (by simp) ?_;intro g2' p2' w7 BL An hat GB;have ht7:=AD ((AA ht).push2 _ BL (AA HZG) (by rw[AA HZL];exact hlt) An hat);clear An hat BL GB));clear hca x0 x1 x2 x3 x4 x5 x6 y0 y1 y2 y3 y4 y5 y6 hckr hcer;have hlow7:=(AA ht7).low;have hlz7:=hlow7.size;obtain⟨x0,x1,x2,x3,x4,x5,x6⟩:=((AA D4).low (by omega) hlow7).all;obtain⟨y0,y1,y2,y3,y4,y5,y6⟩:=((AA D7).low (by omega) hlow7).all;have hckr:=(hlow7.cell (p:=⟨bk,ok+k,none⟩) hbkW).trans hckW;have hcer:=(hlow7.cell (p:=⟨be,oe+k,none⟩) hbe).trans hce;by_cases hneg:x<0
      .rw[AI hneg]at HSG;have hwr:IntKind.i64.wrap (b+x)=b+x:=by rw[IntKind.wrap_i64];omega
       go_upto_region 13 with fail;have HKEEP:∀wx,Below W.heap.size W wx->Below W.heap.size W wx/\wx.cell? ⟨p,1,none⟩=some (.slice (some ⟨be,oe,none⟩) n2 f1)/\wx.cell? ⟨w.heap.size,2,none⟩=some (.slice (some ⟨bk,ok,none⟩) n2 c2)/\wx.cell? ⟨bk,ok+k,none⟩=some (.int .i64 x)/\wx.cell? ⟨be,oe+k,none⟩=some (.int .i64 b):=fun wx hwx=>⟨hwx,((AA D7).low (by omega) hwx).cells.2.1,((AA D4).low (by omega) hwx).cells.2.2,(hwx.cell (p:=⟨bk,ok+k,none⟩) hbkW).trans hckW,(hwx.cell (p:=⟨be,oe+k,none⟩) hbe).trans hce⟩
       have ht7':=(AA ht7).drew
       go_region_held3 (fun wx=>Below W.heap.size W wx/\wx.cell? ⟨p,1,none⟩=some (.slice (some ⟨be,oe,none⟩) n2 f1)/\wx.cell? ⟨w.heap.size,2,none⟩=some (.slice (some ⟨bk,ok,none⟩) n2 c2)/\wx.cell? ⟨bk,ok+k,none⟩=some (.int .i64 x)/\wx.cell? ⟨be,oe+k,none⟩=some (.int .i64 b)) (first|exact HKEEP _ ht8.low|exact HKEEP _ hlow7.drew|exact HKEEP _ hlow7|exact HKEEP _ (BD hlow7.drew (by simp;omega) _)|exact HKEEP _ (BF (BD hlow7 (by omega) _))) (first|(refine step_append_lies _ (by rfl) _ _ _ (by rfl) W.heap.size 3 i0 _ 1 8 underlying23 hi hz0 hz1 hz2 rfl (by omega) (.slice (some ⟨g1,0,none⟩) k p1) k ((ST.take k).map (Value.int .i64)) (by rfl) (by first|exact BN ht7'.o1 AC (AG.alloc AC _)|exact BN (AA ht7).o1 AC (AG.alloc AC _).drew) ⟨w7.heap.size,0,none⟩ 1 1 [.int .i64 (b+x)] (by rfl) (by rfl) (by exact Bp w7 _) (CD _) (by omega) (by unfold maxLen;omega) (by omega) (by simp;omega) (w7.heap.size+1) (by simp) ?_;intro g' p' w8 BL An hat hlt8;have ht8:=ht7'.push1 _ BL (AA HSG) (by rw[AA HSL];exact hlt) (by exact An) hat))
       all_goals
        have HT8:=AD ht8;clear ht7' ht7 hlow7 x0 x1 x2 x3 x4 x5 x6 y0 y1 y2 y3 y4 y5 y6
        go_wp2
        go_roundw;case rel=>exact⟨k+1,_,_,_,_,by omega,by go_num,rfl,rfl,HT8⟩
        case measure=>simp[intOf];omega
      .rw[AH hneg]at HSG;go_wp2_with(at_builtin;refine wpList_append_lies _ rfl _ _ 23 rfl W.heap.size 3 i0 (.int .i64 0) 1 8 underlying23 hi hz0 hz1 hz2 rfl (by decide) _ _ _ rfl (BN (AA ht7).o1 AC (AG.alloc AC _)) ⟨w7.heap.size,0,none⟩ 1 1 [.int .i64 0] rfl rfl (Bp _ _) (CD _) (by omega) (by unfold maxLen;omega) (by omega) (by have:=(AA ht7).low.size;simp;omega) (w7.heap.size+1) (by simp) ?_;intro g1' p1' w8 BL An hat GB;have ht8:=AD ((AA ht7).push1 _ BL (AA HSG) (by rw[AA HSL];exact hlt) An hat);clear An hat BL GB);go_roundw;case rel=>exact⟨k+1,_,_,_,_,by omega,by go_num,rfl,rfl,ht8⟩
       case measure=>simp[intOf];omega
     .have hkn:k=n2:=by omega
      subst hkn;have HZE:Hid (wr.ownsRow W.heap.size 3 1 (.slice (some ⟨g2,0,none⟩) k p2) k (ZS.map (Value.int .i64))):=by have:=(AA ht).o2;rwa [AV (by rw[AA HZL];exact AC)]at this
      have HSE:Hid (wr.ownsRow W.heap.size 3 1 (.slice (some ⟨g1,0,none⟩) k p1) k (ST.map (Value.int .i64))):=by have:=(AA ht).o1;rwa [AV (by rw[AA HSL];exact AC)]at this
      obtain⟨_,_,ev,hOz⟩:=Bt.of_owns (AA HZE) hs2;cases ev;obtain⟨_,_,ev,hOs⟩:=Bt.of_owns (AA HSE) hs2;cases ev;have HOZ:=AD hOz;have HOS:=AD hOs;have E6:=AD ((AA D6).low (by omega) Ck);have E7:=AD ((AA D7).low (by omega) Ck);have HWr:=AD ((AA HW).trans (Ck.mono (AA HW).size));have HQ1:=AD ((AA HP1).below AC Ck);have HQ2:=AD ((AA HP2).below AC Ck);clear ht Ck hOz hOs HZE HSE;obtain⟨sb,hsb⟩:∃r,Am ZS=r:=⟨_,rfl⟩
      have HSB:=AD hsb;clear hsb;cases sb with
      |false=>
       have HS:Hid (Ib c d sh dt sh' dt'=AT 7):=Lv (AA HR1) (AA HR2) (AA HCC) rfl (by show Am (FM dt)=false;rw[<-AA HZD];exact AA HSB);go_upto_region 16 with(go_at_call 158;refine(Db _ _ _ ZS _ (AA HOZ).row _ HSB).mono ?_;rintro e wq⟨rfl,hw⟩;obtain rfl:=hw.symm);go_wp2_with fail;refine(Aa _).mono ?_;rintro e w9⟨rfl,hb9⟩;obtain⟨q0,q1,q2,q3,q4,q5,q6⟩:=((AA E6).below AC hb9).all;have hB9:=AD ((AA HWr).trans (hb9.mono (AA HWr).size));clear hb9 E6 E7 HWr HOZ HOS y0 y1 y2 y3 y4 y5 y6 x0 x1 x2 x3 x4 x5 x6
       go_wp2
       refine bodyPost_ret (v:=.tuple #[.agg #[.bool false,.slice none 0 0,.slice none 0 0],.int .i64 7]) (by simp[results,results127,go_sem,q0,q1,q2]) rfl ?_;rw[AA HS];exact⟨none,0,0,none,0,0,rfl,AP _ _,AP _ _,(((AA hB9).setCell (by simp<;>omega) _).setCell (by simp<;>omega) _).setCell (by simp<;>omega) _⟩
      |true=>
       have hcb:=CS (AA HSB);obtain⟨N,hN⟩:∃N:Nat,Ac ZS=(N:Int):=⟨(Ac ZS).toNat,by omega⟩
       have hNs:N<=10000:=by omega
       have HSTB:Hid (∀i,i<k→-1000000000000000<=ST.getD i 0/\ST.getD i 0<=1000000000000000):=by
        intro i hi;have hi':i<dt.length:=by rw[AA hl2];exact hi
        have h1:=Bl (AA HR1) hi';have h2:=(AW (AA HBO)).1.cell i;rw[AA HSD,Lz _ _ _ hi'];split<;>omega
       have hcall:=Jh d (e1) e2 (some ⟨g1,0,none⟩) (some ⟨g2,0,none⟩) k m2 k f1 f2 p1 p2 bs dt' ST ZS wr (AA HQ1) (AA HQ2) (AA HOS).row (AA HOZ).row AC (AA HBO) (AA HSB) (AA HSTB) N hN;have HS:Hid (Ib c d sh dt sh' dt'=⟨d,ZS,Bg (Em d bs dt' ST ZS) N,0⟩):=by have:=J0 (lim:=true) (Z:=fun _=>FM) (S:=Gn) (AA HR1) (AA HR2) (AA HCC) (fun _=>by show Am (FM dt)=true;rw[<-AA HZD];exact AA HSB) N (by show Ac (FM dt)=_;rw[<-AA HZD];exact hN);rw[AA HBS]at this;rw[AA HZD,AA HSD];exact this
       clear hcb hN;go_wp2_with(first|(go_at_call 158;refine(Db _ _ _ ZS _ (AA HOZ).row _ HSB).mono ?_;rintro e wq⟨rfl,hw⟩;obtain rfl:=hw.symm)|(go_at_call 199;refine hcall.mono ?_;rintro e w8⟨g8,k8,rfl,hr8,hb8⟩;have HR8:=AD hr8;have HB8:=AD hb8;obtain⟨t0,t1,t2,t3,t4,t5,t6⟩:=((AA E6).below AC hb8).all;clear hr8 hb8));refine bodyPost_ret (v:=.tuple #[.agg #[.bool d,.slice (some ⟨g2,0,none⟩) k p2,.slice (some ⟨g8,0,none⟩) N k8],.int .i64 0]) (by simp[results,results127,go_sem,t0,t1,t2]) rfl ?_;have E8:=(AA E6).below AC (AA HB8);rw[AA HS];exact⟨_,_,_,_,_,_,rfl,((AA HOZ).row.below AC (AA HB8)).sets E8 _ _ _,(AA HR8).sets E8 _ _ _,((((AA HWr).trans ((AA HB8).mono (AA HWr).size)).setCell (by simp<;>omega) _).setCell (by simp<;>omega) _).setCell (by simp<;>omega) _⟩
   .have HS:Hid (Ib c d sh dt sh' dt'=AT r):=EA (AA HR1) (AA HR2) r (AA HCC) h0;have hcb:(r !=0)=true:=by simp[h0]
    clear h0;go_wp2_with fail;refine(Aa _).mono ?_;rintro e w9⟨rfl,hb9⟩;obtain⟨q0,q1,q2,q3,q4,q5,q6⟩:=((AA D6).below AC hb9).all;have hB9:=AD ((AA HW).trans (hb9.mono (AA HW).size));clear hb9 D4 D6 D7 HW
    go_wp2
    refine bodyPost_ret (v:=.tuple #[.agg #[.bool false,.slice none 0 0,.slice none 0 0],.int .i64 r]) (by simp[results,results127,go_sem,q0,q1,q2]) rfl ?_;rw[AA HS];exact⟨none,0,0,none,0,0,rfl,AP _ _,AP _ _,(((AA hB9).setCell (by simp<;>omega) _).setCell (by simp<;>omega) _).setCell (by simp<;>omega) _⟩
def X6(c d:Bool)(a1 a2 b1 b2:Addr)(n1 n2 m1 m2 c1 c2 d1 d2:Nat)(sh dt sh' dt':List Int)(w:World)(h1:AO w (some a1) n1 sh)(h2:AO w (some a2) n2 dt)(k1:AO w (some b1) m1 sh')(k2:AO w (some b2) m2 dt'):Calls prog 128 #[.agg #[.bool c,.slice (some a1) n1 c1,.slice (some a2) n2 c2],.agg #[.bool d,.slice (some b1) m1 d1,.slice (some b2) m2 d2]] w (CJ w (I0 c d sh dt sh' dt')):=by
 have hl1:=AD h1.len;have hl2:=AD h2.len;have hl3:=AD k1.len;have hs2:=h2.small;have hs4:=k2.small;have H1:=AD h1;have H2:=AD h2;have K1:=AD k1;have K2:=AD k2;clear h1 h2 k1 k2;obtain⟨r1,hr1⟩:∃r,AJ c sh dt=r:=⟨_,rfl⟩
 obtain⟨r2,hr2⟩:∃r,AJ d sh' dt'=r:=⟨_,rfl⟩
 have HR1:=AD hr1;have HR2:=AD hr2;clear hr1 hr2;go_enter func128,ntmps128;go_wp2_with fail;refine(A0 _ _ _ _ _ _ _ sh dt _ ((((AA H1).alloc _).alloc _).alloc _) ((((AA H2).alloc _).alloc _).alloc _) _ HR1).mono ?_;rintro e w1⟨rfl,hb1⟩;obtain⟨B4,B5,B6,hB1⟩:=Az hb1;have hz1:=B6.lt;clear hb1;obtain⟨x0,x1,x2,x3,x4,x5,x6⟩:=B4.all;obtain⟨y0,y1,y2,y3,y4,y5,y6⟩:=B5.all;cases r1 with
 |false=>
  have HS:Hid (I0 c d sh dt sh' dt'=AT 3):=GE (AA HR1);go_wp2_with fail;refine(Aa _).mono ?_;rintro e w9⟨rfl,hb9⟩;obtain⟨q0,q1,q2,q3,q4,q5,q6⟩:=((B6).below AC hb9).all;have hB9:=AD ((hB1).trans (hb9.mono (hB1).size));clear hb9 hB1 B4 B5 B6 hz1 x0 x1 x2 x3 x4 x5 x6 y0 y1 y2 y3 y4 y5 y6
  go_wp2
  refine bodyPost_ret (v:=.tuple #[.agg #[.bool false,.slice none 0 0,.slice none 0 0],.int .i64 3]) (by simp[results,results128,go_sem,q0,q1,q2]) rfl ?_;rw[AA HS];exact⟨none,0,0,none,0,0,rfl,AP _ _,AP _ _,(((AA hB9).setCell (by simp<;>omega) _).setCell (by simp<;>omega) _).setCell (by simp<;>omega) _⟩
 |true=>
  go_wp2_with fail;refine(A0 _ _ _ _ _ _ _ sh' dt' _ ((AA K1).below AC hB1) ((AA K2).below AC hB1) _ HR2).mono ?_;rintro e w2⟨rfl,hb2⟩;have C4:=AD (B4.below AC hb2);have C5:=AD (B5.below AC hb2);have C6:=AD (B6.below AC hb2);have hB2:=AD (hB1.trans (hb2.mono hB1.size));clear hb2 hB1 B4 B5 B6 hz1 x0 x1 x2 x3 x4 x5 x6 y0 y1 y2 y3 y4 y5 y6 w1;cases r2 with
  |false=>
   have HS:Hid (I0 c d sh dt sh' dt'=AT 3):=GD (AA HR2);go_wp2_with fail;refine(Aa _).mono ?_;rintro e w9⟨rfl,hb9⟩;obtain⟨q0,q1,q2,q3,q4,q5,q6⟩:=((AA C6).below AC hb9).all;have hB9:=AD ((AA hB2).trans (hb9.mono (AA hB2).size));clear hb9 C4 C5 C6 hB2
   go_wp2
   refine bodyPost_ret (v:=.tuple #[.agg #[.bool false,.slice none 0 0,.slice none 0 0],.int .i64 3]) (by simp[results,results128,go_sem,q0,q1,q2]) rfl ?_;rw[AA HS];exact⟨none,0,0,none,0,0,rfl,AP _ _,AP _ _,(((AA hB9).setCell (by simp<;>omega) _).setCell (by simp<;>omega) _).setCell (by simp<;>omega) _⟩
  |true=>
   obtain⟨r,hr⟩:∃r,Bv c n1 n2 m1=r:=⟨_,rfl⟩
   have hcall:=Ig c d a1 a2 b1 b2 n1 n2 m1 m2 c1 c2 d1 d2 sh dt sh' dt' w2 ((AA H1).below AC (AA hB2)) ((AA H2).below AC (AA hB2)) ((AA K1).below AC (AA hB2)) ((AA K2).below AC (AA hB2)) r hr;have HCC:Hid (Bv c sh.length dt.length sh'.length=r):=by rw[AA hl1,AA hl2,AA hl3];exact hr
   have HN5:Hid (r=0->n2<=5):=fun e=>Ju (hr.trans e) (by rw[<-AA hl3];exact(AW (AA HR2)).2.2);clear hr;obtain⟨x0,x1,x2,x3,x4,x5,x6⟩:=(AA C4).all;obtain⟨y0,y1,y2,y3,y4,y5,y6⟩:=(AA C5).all;go_upto_region 4 with(go_at_call 197;refine hcall.mono ?_;rintro e w3⟨⟨e1,l1,f1,e2,l2,f2,rfl,hz⟩,hb3⟩;have HZ:=AD hz;have HB3:=AD hb3;clear hz hb3);clear hcall x0 x1 x2 x3 x4 x5 x6 y0 y1 y2 y3 y4 y5 y6;have D4:=AD (((AA C4).below AC (AA HB3)).alloc (.cells #[.bool d,.slice e1 l1 f1,.slice e2 l2 f2] 25));have D6:=AD (((AA C6).below AC (AA HB3)).alloc (.cells #[.bool d,.slice e1 l1 f1,.slice e2 l2 f2] 25));have D7:=AD (Ai.new w3 d (.slice e1 l1 f1) (.slice e2 l2 f2));have hww:=(AA hB2).size;have hw23:=(AA HB3).size;have hz6:=(AA C6).lt;have HW:=AD (((AA hB2).trans ((AA HB3).mono hww)).alloc (by omega) (.cells #[.bool d,.slice e1 l1 f1,.slice e2 l2 f2] 25));have HZ':Hid (r=0->l1=n2/\l2=m2/\AO (w3.alloc (.cells #[.bool d,.slice e1 l1 f1,.slice e2 l2 f2] 25)) e1 n2 (Al n2 sh')/\AO (w3.alloc (.cells #[.bool d,.slice e1 l1 f1,.slice e2 l2 f2] 25)) e2 m2 dt'):=fun h=>by obtain⟨q1,q2,q3,q4⟩:=AA HZ h;exact⟨q1,q2,q3.alloc _,q4.alloc _⟩
   have hp2:w.heap.size+2<w3.heap.size:=by omega
   have hpW:w3.heap.size<(w3.alloc (.cells #[.bool d,.slice e1 l1 f1,.slice e2 l2 f2] 25)).heap.size:=by simp
   generalize w3.alloc (.cells #[.bool d,.slice e1 l1 f1,.slice e2 l2 f2] 25)=W at*;generalize w3.heap.size=p at*;clear C4 C5 C6 hB2 HB3 HZ hww hw23 hz6 w3 w2;by_cases h0:r=0
   .subst h0;obtain⟨ql1,ql2,hR1,hR2⟩:=AA HZ' rfl;subst l1;subst l2;have hn5:=AA HN5 rfl;have HP1:=AD hR1;have HP2:=AD hR2;have HBO:Hid (AJ d (Al n2 sh') dt'=true):=M9 (AA HR2) hn5;clear HZ' hR1 hR2;obtain⟨bs,hbs⟩:∃b,b=Al n2 sh':=⟨_,rfl⟩
    rw[<-hbs]at HP1 HBO;have HBS:Hid (Al dt.length sh'=bs):=by rw[AA hl2];exact hbs.symm
    clear hbs;obtain⟨ZS,hZS⟩:∃z,z=Hb bs dt:=⟨_,rfl⟩
    obtain⟨ST,hST⟩:∃z,z=Fa dt:=⟨_,rfl⟩
    have HZL:Hid (ZS.length=n2):=by rw[hZS,IZ];exact AA hl2
    have HSL:Hid (ST.length=n2):=by rw[hST,Sp];exact AA hl2
    have HZD:=AD hZS;have HSD:=AD hST;clear hZS hST;obtain⟨x0,x1,x2,x3,x4,x5,x6⟩:=(AA D4).all;obtain⟨i0,hi,hz0,hz1,hz2⟩:=info_parts A6;go_upto_region 8 with fail;have HT0:=AD (Rd.start W ST ZS);go_wp2_with fail;go_loopw[8,9,10] (fun s z i wr=>∃k g1 p1 g2 p2,k<=n2/\i=.int .i64 (k:Nat)/\s=.slice (some ⟨g1,0,none⟩) k p1/\z=.slice (some ⟨g2,0,none⟩) k p2/\Hid (Rd W ST ZS k k g1 p1 g2 p2 wr)) (fun _ _ i _=>n2- (intOf i).toNat);case atStart=>exact⟨0,_,0,_,0,AS _,rfl,rfl,rfl,HT0⟩
    case round=>
     obtain⟨k,g1,p1,g2,p2,hk,rfl,rfl,rfl,ht⟩:=hrel;clear HT0 x0 x1 x2 x3 x4 x5 x6;have Ck:=(AA ht).low;have hlz:=Ck.size;have hp3:p<wr.heap.size:=by omega
     obtain⟨x0,x1,x2,x3,x4,x5,x6⟩:=((AA D4).low (by omega) Ck).all;obtain⟨y0,y1,y2,y3,y4,y5,y6⟩:=((AA D7).low (by omega) Ck).all;by_cases hlt:k<n2
     .obtain⟨bk,ok,hab,hbk,hck⟩:=(AA H2).get hlt;cases hab;have hbkW:bk<W.heap.size:=AZ hbk (AA HW).size;have hckW:=((AA HW).cell (p:=⟨bk,ok+k,none⟩) hbk).trans hck;have hckr:=(Ck.cell (p:=⟨bk,ok+k,none⟩) hbkW).trans hckW;obtain⟨be,oe,rfl,hbe,hce⟩:=(AA HP1).get hlt;have hcer:=(Ck.cell (p:=⟨be,oe+k,none⟩) hbe).trans hce;have hxb:=Bl (AA HR1) (k:=k) (by rw[AA hl2];exact hlt);have hbb:=(AW (AA HBO)).1.cell k;obtain⟨x,hx⟩:∃x,x=dt.getD k 0:=⟨_,rfl⟩
      obtain⟨b,hb⟩:∃b,b=bs.getD k 0:=⟨_,rfl⟩
      have HZG:=AD (KZ bs dt k (by rw[AA hl2];exact hlt));have HSG:=AD (M0 dt k (by rw[AA hl2];exact hlt));rw[<-AA HZD,<-hx,<-hb]at HZG;rw[<-AA HSD,<-hx]at HSG;rw[<-hx]at hckW hckr hxb;rw[<-hb]at hce hcer hbb;clear hx hb hck;obtain⟨y,hy⟩:∃y,Eg x=y:=⟨_,rfl⟩
      rw[hy]at HZG;have hyb:0<=y/\y<=1000000000000000:=by rw[<-hy];unfold Eg;split<;>omega
      have HCA:Hid (∀wx,Calls prog 198 #[.int .i64 x] wx fun e w'=>e=.returned (.int .i64 y)/\w'=wx):=fun wx=>OU x y wx hxb hy;have hwr:IntKind.i64.wrap (b- y)=b- y:=by rw[IntKind.wrap_i64];omega
      clear hy;go_upto_region 11 with fail;go_cut[11] (fun v wx=>v=.int .i64 (b- y)/\Rd W ST ZS k k g1 p1 g2 p2 wx);case first=>
       as_aux_lemma=>
        have HKEEP:∀wx,Below W.heap.size W wx->Below W.heap.size W wx/\wx.cell? ⟨p,1,none⟩=some (.slice (some ⟨be,oe,none⟩) n2 f1)/\wx.cell? ⟨w.heap.size,2,none⟩=some (.slice (some ⟨bk,ok,none⟩) n2 c2)/\wx.cell? ⟨bk,ok+k,none⟩=some (.int .i64 x)/\wx.cell? ⟨be,oe+k,none⟩=some (.int .i64 b):=fun wx hwx=>⟨hwx,((AA D7).low (by omega) hwx).cells.2.1,((AA D4).low (by omega) hwx).cells.2.2,(hwx.cell (p:=⟨bk,ok+k,none⟩) hbkW).trans hckW,(hwx.cell (p:=⟨be,oe+k,none⟩) hbe).trans hce⟩
        go_region_held3 (fun wx=>Below W.heap.size W wx/\wx.cell? ⟨p,1,none⟩=some (.slice (some ⟨be,oe,none⟩) n2 f1)/\wx.cell? ⟨w.heap.size,2,none⟩=some (.slice (some ⟨bk,ok,none⟩) n2 c2)/\wx.cell? ⟨bk,ok+k,none⟩=some (.int .i64 x)/\wx.cell? ⟨be,oe+k,none⟩=some (.int .i64 b)) (first|exact HKEEP _ Ck.drew|exact HKEEP _ Ck) (first|(go_at_call 198;refine(AA HCA _).mono ?_;rintro e wq⟨rfl,hw⟩;obtain rfl:=hw.symm))
        all_goals go_wp2_with fail
        all_goals go_meet
        all_goals case rel=>exact⟨rfl,(AA ht).drew⟩
      case rest=>
       obtain⟨w6,hw6⟩:∃x,x=wc:=⟨_,rfl⟩
       subst hw6;obtain⟨rfl,ht6⟩:=hcut;clear ht Ck hlz hp3 x0 x1 x2 x3 x4 x5 x6 y0 y1 y2 y3 y4 y5 y6 hckr hcer HCA hwr wr;obtain⟨wr,hwr⟩:∃x,x=w6:=⟨_,rfl⟩
       subst hwr;have ht:=AD ht6;have Ck:=ht6.low;have hlz:=Ck.size;clear ht6;by_cases hneg:b- y<0
       .rw[AI hneg]at HZG;go_upto_region 15 with(at_builtin;refine wpList_append_lies _ rfl _ _ 23 rfl W.heap.size 3 i0 (.int .i64 0) 1 8 underlying23 hi hz0 hz1 hz2 rfl (by decide) _ _ _ rfl (BN (AA ht).o2 AC (AG.alloc AC _)) ⟨wr.heap.size,0,none⟩ 1 1 [.int .i64 0] rfl rfl (Bp _ _) (CD _) (by omega) (by unfold maxLen;omega) (by omega) (by have:=(AA ht).low.size;simp;omega) (wr.heap.size+1) (by simp) ?_;intro g2' p2' w7 BL An hat GB;have ht7:=AD ((AA ht).push2 _ BL (AA HZG) (by rw[AA HZL];exact hlt) An hat);clear An hat BL GB);have hlow7:=(AA ht7).low;have hlz7:=hlow7.size;obtain⟨x0,x1,x2,x3,x4,x5,x6⟩:=((AA D4).low (by omega) hlow7).all;have hckr:=(hlow7.cell (p:=⟨bk,ok+k,none⟩) hbkW).trans hckW;by_cases hpos:0<x
        .rw[AI hpos]at HSG;go_wp2_with(at_builtin;refine wpList_append_lies _ rfl _ _ 23 rfl W.heap.size 3 i0 (.int .i64 0) 1 8 underlying23 hi hz0 hz1 hz2 rfl (by decide) _ _ _ rfl (BN (AA ht7).o1 AC (AG.alloc AC _)) ⟨w7.heap.size,0,none⟩ 1 1 [.int .i64 x] rfl rfl (Bp _ _) (CD _) (by omega) (by unfold maxLen;omega) (by omega) (by have:=(AA ht7).low.size;simp;omega) (w7.heap.size+1) (by simp) ?_;intro g1' p1' w8 BL An hat GB;have ht8:=AD ((AA ht7).push1 _ BL (AA HSG) (by rw[AA HSL];exact hlt) An hat);clear An hat BL GB);go_roundw;case rel=>exact⟨k+1,_,_,_,_,by omega,by go_num,rfl,rfl,ht8⟩
         case measure=>simp[intOf];omega
        .rw[AH hpos]at HSG;go_wp2_with(at_builtin;refine wpList_append_lies _ rfl _ _ 23 rfl W.heap.size 3 i0 (.int .i64 0) 1 8 underlying23 hi hz0 hz1 hz2 rfl (by decide) _ _ _ rfl (BN (AA ht7).o1 AC (AG.alloc AC _)) ⟨w7.heap.size,0,none⟩ 1 1 [.int .i64 0] rfl rfl (Bp _ _) (CD _) (by omega) (by unfold maxLen;omega) (by omega) (by have:=(AA ht7).low.size;simp;omega) (w7.heap.size+1) (by simp) ?_;intro g1' p1' w8 BL An hat GB;have ht8:=AD ((AA ht7).push1 _ BL (AA HSG) (by rw[AA HSL];exact hlt) An hat);clear An hat BL GB);go_roundw;case rel=>exact⟨k+1,_,_,_,_,by omega,by go_num,rfl,rfl,ht8⟩
         case measure=>simp[intOf];omega
       .rw[AH hneg]at HZG;go_upto_region 15 with(at_builtin;refine wpList_append_lies _ rfl _ _ 23 rfl W.heap.size 3 i0 (.int .i64 0) 1 8 underlying23 hi hz0 hz1 hz2 rfl (by decide) _ _ _ rfl (BN (AA ht).o2 AC (AG.alloc AC _)) ⟨wr.heap.size,0,none⟩ 1 1 [.int .i64 (b- y)] rfl rfl (Bp _ _) (CD _) (by omega) (by unfold maxLen;omega) (by omega) (by have:=(AA ht).low.size;simp;omega) (wr.heap.size+1) (by simp) ?_;intro g2' p2' w7 BL An hat GB;have ht7:=AD ((AA ht).push2 _ BL (AA HZG) (by rw[AA HZL];exact hlt) An hat);clear An hat BL GB);have hlow7:=(AA ht7).low;have hlz7:=hlow7.size;obtain⟨x0,x1,x2,x3,x4,x5,x6⟩:=((AA D4).low (by omega) hlow7).all;have hckr:=(hlow7.cell (p:=⟨bk,ok+k,none⟩) hbkW).trans hckW;by_cases hpos:0<x
        .rw[AI hpos]at HSG;go_wp2_with(at_builtin;refine wpList_append_lies _ rfl _ _ 23 rfl W.heap.size 3 i0 (.int .i64 0) 1 8 underlying23 hi hz0 hz1 hz2 rfl (by decide) _ _ _ rfl (BN (AA ht7).o1 AC (AG.alloc AC _)) ⟨w7.heap.size,0,none⟩ 1 1 [.int .i64 x] rfl rfl (Bp _ _) (CD _) (by omega) (by unfold maxLen;omega) (by omega) (by have:=(AA ht7).low.size;simp;omega) (w7.heap.size+1) (by simp) ?_;intro g1' p1' w8 BL An hat GB;have ht8:=AD ((AA ht7).push1 _ BL (AA HSG) (by rw[AA HSL];exact hlt) An hat);clear An hat BL GB);go_roundw;case rel=>exact⟨k+1,_,_,_,_,by omega,by go_num,rfl,rfl,ht8⟩
         case measure=>simp[intOf];omega
        .rw[AH hpos]at HSG;go_wp2_with(at_builtin;refine wpList_append_lies _ rfl _ _ 23 rfl W.heap.size 3 i0 (.int .i64 0) 1 8 underlying23 hi hz0 hz1 hz2 rfl (by decide) _ _ _ rfl (BN (AA ht7).o1 AC (AG.alloc AC _)) ⟨w7.heap.size,0,none⟩ 1 1 [.int .i64 0] rfl rfl (Bp _ _) (CD _) (by omega) (by unfold maxLen;omega) (by omega) (by have:=(AA ht7).low.size;simp;omega) (w7.heap.size+1) (by simp) ?_;intro g1' p1' w8 BL An hat GB;have ht8:=AD ((AA ht7).push1 _ BL (AA HSG) (by rw[AA HSL];exact hlt) An hat);clear An hat BL GB);go_roundw;case rel=>exact⟨k+1,_,_,_,_,by omega,by go_num,rfl,rfl,ht8⟩
         case measure=>simp[intOf];omega
     .have hkn:k=n2:=by omega
      subst hkn;have HZE:Hid (wr.ownsRow W.heap.size 3 1 (.slice (some ⟨g2,0,none⟩) k p2) k (ZS.map (Value.int .i64))):=by have:=(AA ht).o2;rwa [AV (by rw[AA HZL];exact AC)]at this
      have HSE:Hid (wr.ownsRow W.heap.size 3 1 (.slice (some ⟨g1,0,none⟩) k p1) k (ST.map (Value.int .i64))):=by have:=(AA ht).o1;rwa [AV (by rw[AA HSL];exact AC)]at this
      obtain⟨_,_,ev,hOz⟩:=Bt.of_owns (AA HZE) hs2;cases ev;obtain⟨_,_,ev,hOs⟩:=Bt.of_owns (AA HSE) hs2;cases ev;have HOZ:=AD hOz;have HOS:=AD hOs;have E6:=AD ((AA D6).low (by omega) Ck);have E7:=AD ((AA D7).low (by omega) Ck);have HWr:=AD ((AA HW).trans (Ck.mono (AA HW).size));have HQ1:=AD ((AA HP1).below AC Ck);have HQ2:=AD ((AA HP2).below AC Ck);clear ht Ck hOz hOs HZE HSE;have HSB:Hid (Am ZS=true):=by
       refine N9 (MC (AW (AA HBO)).1 ?_ ?_) (by rw[AA HZL];exact hn5)
       .rw[AA HZL,(AA HP1).len]
       .intro i hi;have hi':i<dt.length:=by rw[AA hl2,<-(AA HP1).len];exact hi
        rw[AA HZD,KZ _ _ _ hi'];have:=(AW (AA HBO)).1.cell i;have h3:0<=Eg (dt.getD i 0):=by unfold Eg;split<;>omega
        split<;>omega
      have hcb:=CS (AA HSB);obtain⟨N,hN⟩:∃N:Nat,Ac ZS=(N:Int):=⟨(Ac ZS).toNat,by omega⟩
      have hNs:N<=10000:=by omega
      have HSTB:Hid (∀i,i<k→-1000000000000000<=ST.getD i 0/\ST.getD i 0<=1000000000000000):=by
       intro i hi;have hi':i<dt.length:=by rw[AA hl2];exact hi
       have h1:=Bl (AA HR1) hi';have h2:=(AW (AA HBO)).1.cell i;rw[AA HSD,M0 _ _ hi'];split<;>omega
      have hcall:=Jh d (e1) e2 (some ⟨g1,0,none⟩) (some ⟨g2,0,none⟩) k m2 k f1 f2 p1 p2 bs dt' ST ZS wr (AA HQ1) (AA HQ2) (AA HOS).row (AA HOZ).row AC (AA HBO) (AA HSB) (AA HSTB) N hN;have HS:Hid (I0 c d sh dt sh' dt'=⟨d,ZS,Bg (Em d bs dt' ST ZS) N,0⟩):=by have:=J0 (lim:=false) (Z:=Hb) (S:=fun _=>Fa) (AA HR1) (AA HR2) (AA HCC) (fun h=>by cases h) N (by rw[AA HBS];show Ac (Hb bs dt)=_;rw[<-AA HZD];exact hN);rw[AA HBS]at this;rw[AA HZD,AA HSD];exact this
      clear hcb hN;go_wp2_with(first|(go_at_call 199;refine hcall.mono ?_;rintro e w8⟨g8,k8,rfl,hr8,hb8⟩;have HR8:=AD hr8;have HB8:=AD hb8;obtain⟨t0,t1,t2,t3,t4,t5,t6⟩:=((AA E6).below AC hb8).all;clear hr8 hb8));refine bodyPost_ret (v:=.tuple #[.agg #[.bool d,.slice (some ⟨g2,0,none⟩) k p2,.slice (some ⟨g8,0,none⟩) N k8],.int .i64 0]) (by simp[results,results128,go_sem,t0,t1,t2]) rfl ?_;have E8:=(AA E6).below AC (AA HB8);rw[AA HS];exact⟨_,_,_,_,_,_,rfl,((AA HOZ).row.below AC (AA HB8)).sets E8 _ _ _,(AA HR8).sets E8 _ _ _,((((AA HWr).trans ((AA HB8).mono (AA HWr).size)).setCell (by simp<;>omega) _).setCell (by simp<;>omega) _).setCell (by simp<;>omega) _⟩
   .have HS:Hid (I0 c d sh dt sh' dt'=AT r):=EA (AA HR1) (AA HR2) r (AA HCC) h0;have hcb:(r !=0)=true:=by simp[h0]
    clear h0;go_wp2_with fail;refine(Aa _).mono ?_;rintro e w9⟨rfl,hb9⟩;obtain⟨q0,q1,q2,q3,q4,q5,q6⟩:=((AA D6).below AC hb9).all;have hB9:=AD ((AA HW).trans (hb9.mono (AA HW).size));clear hb9 D4 D6 D7 HW
    go_wp2
    refine bodyPost_ret (v:=.tuple #[.agg #[.bool false,.slice none 0 0,.slice none 0 0],.int .i64 r]) (by simp[results,results128,go_sem,q0,q1,q2]) rfl ?_;rw[AA HS];exact⟨none,0,0,none,0,0,rfl,AP _ _,AP _ _,(((AA hB9).setCell (by simp<;>omega) _).setCell (by simp<;>omega) _).setCell (by simp<;>omega) _⟩
def Oy{op:Int}{c d:Bool}{sh dt sh' dt':List Int}(h:AJ c sh dt=false):B8 op c d sh dt sh' dt'=AT 3:=by unfold B8;rw[AH (by simp[h])]
def Ox{op:Int}{c d:Bool}{sh dt sh' dt':List Int}(h:AJ d sh' dt'=false):B8 op c d sh dt sh' dt'=AT 3:=by unfold B8;rw[AH (by simp[h])]
def JJ{op:Int}{c d:Bool}{sh dt sh' dt':List Int}(h:¬(1<=op/\op<=16)):B8 op c d sh dt sh' dt'=AT 3:=by unfold B8;rw[AH (by simp[Gb,h])]
def C1(op:Int)(c d wide tall:Bool)(sh dt sh' dt':List Int):Ic:=if(!wide&&!tall)=true/\sh.length≠sh'.length then AT 4 else if(!wide&&!tall)=true/\sh≠sh' then AT 5 else if(c||d)=true/\GA op=false then AT 3 else Bc false (if wide then sh' else sh) (fun i=>E9 op c dt (i % dt.length) d dt' (i % dt'.length)) (Ac (if wide then sh' else sh)).toNat
def Ov{op:Int}{c d:Bool}{sh dt sh' dt':List Int}(h1:AJ c sh dt=true)(h2:AJ d sh' dt'=true)(h3:1<=op/\op<=16)(n1 n2 m1 m2:Nat)(l1:sh.length=n1)(l2:dt.length=n2)(l3:sh'.length=m1)(l4:dt'.length=m2):B8 op c d sh dt sh' dt'=C1 op c d (Cb n1 n2 m1 m2) (decide (m2=1)&&!(Cb n1 n2 m1 m2)) sh dt sh' dt':=by subst l1 l2 l3 l4;unfold B8;rw[AI ⟨h1,h2,AL h3⟩];rfl
def UK{op:Int}{c d:Bool}{sh dt sh' dt':List Int}(h:sh.length≠sh'.length):C1 op c d false false sh dt sh' dt'=AT 4:=by unfold C1;rw[AI ⟨rfl,h⟩]
def Vo{op:Int}{c d:Bool}{sh dt sh' dt':List Int}(h:sh.length=sh'.length)(h2:sh≠sh'):C1 op c d false false sh dt sh' dt'=AT 5:=by unfold C1;rw[AH (fun e=>e.2 h),AI ⟨rfl,h2⟩]
def VL(wide tall:Bool)(sh sh' shp:List Int):Prop:=(wide=true/\shp=sh')\/(wide=false/\tall=true/\shp=sh)\/(wide=false/\tall=false/\shp=sh/\sh=sh')
def To{op:Int}{c d wide tall:Bool}{sh dt sh' dt' shp:List Int}(h:VL wide tall sh sh' shp):C1 op c d wide tall sh dt sh' dt'=if(c||d)=true/\GA op=false then AT 3 else Bc false shp (fun i=>E9 op c dt (i % dt.length) d dt' (i % dt'.length)) (Ac shp).toNat:=by rcases h with⟨rfl,rfl⟩|⟨rfl,rfl,rfl⟩|⟨rfl,rfl,rfl,rfl⟩<;>simp[C1]
def UL{op:Int}{c d wide tall:Bool}{sh dt sh' dt' shp:List Int}(h:VL wide tall sh sh' shp)(h2:((c||d)&&!GA op)=true):C1 op c d wide tall sh dt sh' dt'=AT 3:=by rw[To h,AI (by simpa using h2)]
def YK{op:Int}{c d wide tall:Bool}{sh dt sh' dt' shp:List Int}(h:VL wide tall sh sh' shp)(h2:((c||d)&&!GA op)=false)(n2 m2:Nat)(l2:dt.length=n2)(l4:dt'.length=m2):C1 op c d wide tall sh dt sh' dt'=Bc false shp (fun i=>E9 op c dt (i % n2) d dt' (i % m2)) (Ac shp).toNat:=by subst l2 l4;rw[To h,AH (fun e=>by simp[e.1,e.2]at h2)]
def RF{c:Bool}{sh dt:List Int}(h:AJ c sh dt=true):Ac sh=dt.length:=by unfold AJ at h;simp only[Ah,BC]at h;exact h.2.1
def XI{c d wide tall:Bool}{sh dt sh' dt' shp:List Int}(h:VL wide tall sh sh' shp)(hw:Cb sh.length dt.length sh'.length dt'.length=wide)(ht:(decide (dt'.length=1)&&!wide)=tall)(h1:AJ c sh dt=true)(h2:AJ d sh' dt'=true):0<=Ac shp/\Ac shp<=10000/\(0<Ac shp->0<dt.length/\0<dt'.length):=by
 have e1:=RF h1;have e2:=RF h2;have b1:=FV sh;have b2:=FV sh';rcases h with⟨rfl,rfl⟩|⟨rfl,rfl,rfl⟩|⟨rfl,rfl,rfl,rfl⟩
 .simp[Cb]at hw;omega
 .simp at ht;omega
 .omega
def RU(op:Int)(c d:Bool)(a1 a2 b1 b2:Option Addr)(n1 n2 m1 m2 c1 c2 d1 d2:Nat)(sh dt sh' dt':List Int)(w:World)(h1:AO w a1 n1 sh)(h2:AO w a2 n2 dt)(k1:AO w b1 m1 sh')(k2:AO w b2 m2 dt'):Calls prog 108 #[.int .i64 op,.agg #[.bool c,.slice a1 n1 c1,.slice a2 n2 c2],.agg #[.bool d,.slice b1 m1 d1,.slice b2 m2 d2]] w (CJ w (B8 op c d sh dt sh' dt')):=by
 have hl1:=AD h1.len;have hl2:=AD h2.len;have hl3:=AD k1.len;have hl4:=AD k2.len;have hs1:=h1.small;have hs2:=h2.small;have hs3:=k1.small;have hs4:=k2.small;have H1:=AD h1;have H2:=AD h2;have K1:=AD k1;have K2:=AD k2;clear h1 h2 k1 k2;obtain⟨r1,hr1⟩:∃r,AJ c sh dt=r:=⟨_,rfl⟩
 obtain⟨r2,hr2⟩:∃r,AJ d sh' dt'=r:=⟨_,rfl⟩
 have HR1:=AD hr1;have HR2:=AD hr2;clear hr1 hr2;go_enter func108,ntmps108;go_wp2_with fail;refine(A0 _ _ _ _ _ _ _ sh dt _ ((((AA H1).alloc _).alloc _).alloc _) ((((AA H2).alloc _).alloc _).alloc _) _ HR1).mono ?_;rintro e w1⟨rfl,hb1⟩;obtain⟨B4,B5,B6,hB1⟩:=Az hb1;have hz1:=B6.lt;clear hb1;obtain⟨x0,x1,x2,x3,x4,x5,x6⟩:=B4.all;obtain⟨y0,y1,y2,y3,y4,y5,y6⟩:=B5.all;cases r1 with
 |false=>
  have HS:=AD (Oy (op:=op) (d:=d) (sh':=sh') (dt':=dt') (AA HR1));go_wp2_with fail;refine(Aa _).mono ?_;rintro e w9⟨rfl,hb9⟩;obtain⟨q0,q1,q2,q3,q4,q5,q6⟩:=(B6.below AC hb9).all;have hB9:=AD ((hB1).trans (hb9.mono (hB1).size));clear hb9 hB1 B4 B5 B6 hz1 x0 x1 x2 x3 x4 x5 x6 y0 y1 y2 y3 y4 y5 y6
  go_wp2
  refine bodyPost_ret (v:=.tuple #[.agg #[.bool false,.slice none 0 0,.slice none 0 0],.int .i64 3]) (by simp[results,results108,go_sem,q0,q1,q2]) rfl ?_;rw[AA HS];exact⟨none,0,0,none,0,0,rfl,AP _ _,AP _ _,(((AA hB9).setCell (by simp<;>omega) _).setCell (by simp<;>omega) _).setCell (by simp<;>omega) _⟩
 |true=>
  go_wp2_with fail;refine(A0 _ _ _ _ _ _ _ sh' dt' _ ((AA K1).below AC hB1) ((AA K2).below AC hB1) _ HR2).mono ?_;rintro e w2⟨rfl,hb2⟩;have C4:=AD (B4.below AC hb2);have C5:=AD (B5.below AC hb2);have C6:=AD (B6.below AC hb2);have hB2:=AD (hB1.trans (hb2.mono hB1.size));clear hb2 hB1 B4 B5 B6 hz1 x0 x1 x2 x3 x4 x5 x6 y0 y1 y2 y3 y4 y5 y6 w1;cases r2 with
  |false=>
   have HS:=AD (Ox (op:=op) (c:=c) (sh:=sh) (dt:=dt) (AA HR2));go_wp2_with fail;refine(Aa _).mono ?_;rintro e w9⟨rfl,hb9⟩;obtain⟨q0,q1,q2,q3,q4,q5,q6⟩:=((AA C6).below AC hb9).all;have hB9:=AD (((AA hB2)).trans (hb9.mono ((AA hB2)).size));clear hb9 C4 C5 C6 hB2
   go_wp2
   refine bodyPost_ret (v:=.tuple #[.agg #[.bool false,.slice none 0 0,.slice none 0 0],.int .i64 3]) (by simp[results,results108,go_sem,q0,q1,q2]) rfl ?_;rw[AA HS];exact⟨none,0,0,none,0,0,rfl,AP _ _,AP _ _,(((AA hB9).setCell (by simp<;>omega) _).setCell (by simp<;>omega) _).setCell (by simp<;>omega) _⟩
  |true=>
   by_cases hop1:op<1
   .have HS:=AD (JJ (op:=op) (c:=c) (d:=d) (sh:=sh) (dt:=dt) (sh':=sh') (dt':=dt') (by omega));go_wp2_with fail;refine(Aa _).mono ?_;rintro e w9⟨rfl,hb9⟩;obtain⟨q0,q1,q2,q3,q4,q5,q6⟩:=((AA C6).below AC hb9).all;have hB9:=AD (((AA hB2)).trans (hb9.mono ((AA hB2)).size));clear hb9 C4 C5 C6 hB2
    go_wp2
    refine bodyPost_ret (v:=.tuple #[.agg #[.bool false,.slice none 0 0,.slice none 0 0],.int .i64 3]) (by simp[results,results108,go_sem,q0,q1,q2]) rfl ?_;rw[AA HS];exact⟨none,0,0,none,0,0,rfl,AP _ _,AP _ _,(((AA hB9).setCell (by simp<;>omega) _).setCell (by simp<;>omega) _).setCell (by simp<;>omega) _⟩
   by_cases hop2:16<op
   .have HS:=AD (JJ (op:=op) (c:=c) (d:=d) (sh:=sh) (dt:=dt) (sh':=sh') (dt':=dt') (by omega));go_wp2_with fail;refine(Aa _).mono ?_;rintro e w9⟨rfl,hb9⟩;obtain⟨q0,q1,q2,q3,q4,q5,q6⟩:=((AA C6).below AC hb9).all;have hB9:=AD (((AA hB2)).trans (hb9.mono ((AA hB2)).size));clear hb9 C4 C5 C6 hB2
    go_wp2
    refine bodyPost_ret (v:=.tuple #[.agg #[.bool false,.slice none 0 0,.slice none 0 0],.int .i64 3]) (by simp[results,results108,go_sem,q0,q1,q2]) rfl ?_;rw[AA HS];exact⟨none,0,0,none,0,0,rfl,AP _ _,AP _ _,(((AA hB9).setCell (by simp<;>omega) _).setCell (by simp<;>omega) _).setCell (by simp<;>omega) _⟩
   have HRS:=AD (Ov (AA HR1) (AA HR2) (by omega:1<=op/\op<=16) n1 n2 m1 m2 (AA hl1) (AA hl2) (AA hl3) (AA hl4));have HIN:Hid (Gb op=true):=AL (by omega);obtain⟨x0,x1,x2,x3,x4,x5,x6⟩:=(AA C4).all;obtain⟨y0,y1,y2,y3,y4,y5,y6⟩:=(AA C5).all;obtain⟨wide,hwide⟩:∃r,Cb n1 n2 m1 m2=r:=⟨_,rfl⟩
   have HWD:=AD hwide;clear hwide;go_upto_region 3 with fail;go_cut[8] (fun b wx=>b=.bool wide/\w2=wx);case first=>
    by_cases e1:n2=1
    .have f1:((n2:Int)==1)=true:=by simp[e1]
     by_cases e2:m2=1
     .have f2:((m2:Int) !=1)=false:=by simp[e2]
      by_cases e3:n1<m1
      .have HE:Hid (wide=true):=by show _=_;rw[<-AA HWD];simp[Cb,e1,e3]
       clear e1 e2
       go_wp2
       go_meet
       case rel=>exact⟨by rw[AA HE],rfl⟩
      .have HE:Hid (wide=false):=by show _=_;rw[<-AA HWD];simp[Cb,e2];omega
       clear e1 e2
       go_wp2
       go_meet
       case rel=>exact⟨by rw[AA HE],rfl⟩
     .have f2:((m2:Int) !=1)=true:=by simp;omega
      have HE:Hid (wide=true):=by show _=_;rw[<-AA HWD];simp[Cb,e1,e2]
      clear e1 e2
      go_wp2
      go_meet
      case rel=>exact⟨by rw[AA HE],rfl⟩
    .have f1:((n2:Int)==1)=false:=by simp;omega
     have HE:Hid (wide=false):=by show _=_;rw[<-AA HWD];simp[Cb,e1]
     clear e1
     go_wp2
     go_meet
     case rel=>exact⟨by rw[AA HE],rfl⟩
   case rest=>
    obtain⟨rfl,rfl⟩:=hcut;obtain⟨tall,htall⟩:∃r,(decide (m2=1)&&!wide)=r:=⟨_,rfl⟩
    have HTL:=AD htall;clear htall;go_upto_region 4 with fail;go_cut[9] (fun b wx=>b=.bool tall/\w2=wx);case first=>
     by_cases e2:m2=1
     .have f2:((m2:Int)==1)=true:=by simp[e2]
      have HE:Hid ((!wide)=tall):=by show _=_;rw[<-AA HTL];simp[e2]
      clear e2
      go_wp2
      go_meet
      case rel=>exact⟨by rw[<-AA HE],rfl⟩
     .have f2:((m2:Int)==1)=false:=by simp;omega
      have HE:Hid (false=tall):=by show _=_;rw[<-AA HTL];simp[e2]
      clear e2
      go_wp2
      go_meet
      case rel=>exact⟨by rw[<-AA HE],rfl⟩
    case rest=>
     obtain⟨rfl,rfl⟩:=hcut;have HRS':Hid (B8 op c d sh dt sh' dt'=C1 op c d wide tall sh dt sh' dt'):=by show _=_;rw[AA HRS,AA HWD,AA HTL]
     clear HRS;have hcase:∃(ad:Option Addr)(an ac:Nat)(shp:List Int),(wide=true/\tall=false/\ad=b1/\an=m1/\ac=d1/\shp=sh')\/(wide=false/\ad=a1/\an=n1/\ac=c1/\shp=sh):=by
      cases wide
      .exact⟨a1,n1,c1,sh,.inr ⟨rfl,rfl,rfl,rfl,rfl⟩⟩
      .exact⟨b1,m1,d1,sh',.inl ⟨rfl,by rw[<-AA HTL];simp,rfl,rfl,rfl,rfl⟩⟩
     obtain⟨ad,an,ac,shp,hcase⟩:=hcase;have HSP:Hid (AO w ad an shp):=by
      rcases hcase with⟨_,_,rfl,rfl,rfl,rfl⟩|⟨_,rfl,rfl,rfl,rfl⟩
      .exact K1
      .exact H1
     go_upto_if 62 with fail
     go_cut[10] (fun b wx=>w2=wx/\b=.slice ad an ac);case first=>
      rcases hcase with⟨rfl,_,rfl,rfl,rfl,rfl⟩|⟨rfl,rfl,rfl,rfl,rfl⟩
      .go_wp2
       go_meet
       case rel=>exact⟨rfl,rfl⟩
      .go_wp2
       go_meet
       case rel=>exact⟨rfl,rfl⟩
     case rest=>
      obtain⟨rfl,rfl⟩:=hcut;go_upto_region 8 with fail;have HC6:=C6;go_cut[79] (fun b wx=>w2=wx/\b=.bool (!wide&&!tall&&decide (n1≠m1)));case first=>
       cases wide<;>cases tall
       .by_cases e1:n1=m1
        .have f1:((n1:Int) !=(m1:Int))=false:=by simp[e1]
         have HD:Hid (decide (n1≠m1)=false):=by show _=_;simp[e1]
         clear e1
         go_wp2
         go_meet
         case rel=>exact⟨rfl,by rw[AA HD];rfl⟩
        .have f1:((n1:Int) !=(m1:Int))=true:=by simp;omega
         have HD:Hid (decide (n1≠m1)=true):=by show _=_;simp[e1]
         clear e1
         go_wp2
         go_meet
         case rel=>exact⟨rfl,by rw[AA HD];rfl⟩
       all_goals
        go_wp2
        go_meet
        case rel=>exact⟨rfl,rfl⟩
      case rest=>
       obtain⟨rfl,rfl⟩:=hcut;obtain⟨rk,hrk⟩:∃r,(!wide&&!tall&&decide (n1≠m1))=r:=⟨_,rfl⟩
       rw[hrk];have HRK:=AD hrk;clear hrk;cases rk with
       |true=>
        have HS:Hid (B8 op c d sh dt sh' dt'=AT 4):=by show _=_;rw[AA HRS'];have:=AA HRK;simp at this;obtain⟨⟨h1,h2⟩,h3⟩:=this;rw[h1,h2];exact UK (by rw[AA hl1,AA hl3];exact h3)
        go_wp2_with fail;refine(Aa _).mono ?_;rintro e w9⟨rfl,hb9⟩;obtain⟨q0,q1,q2,q3,q4,q5,q6⟩:=((AA C6).below AC hb9).all;have hB9:=AD (((AA hB2)).trans (hb9.mono ((AA hB2)).size));clear hb9 C4 C5 C6 HC6 hB2 x0 x1 x2 x3 x4 x5 x6 y0 y1 y2 y3 y4 y5 y6
        go_wp2
        refine bodyPost_ret (v:=.tuple #[.agg #[.bool false,.slice none 0 0,.slice none 0 0],.int .i64 4]) (by simp[results,results108,go_sem,q0,q1,q2]) rfl ?_;rw[AA HS];exact⟨none,0,0,none,0,0,rfl,AP _ _,AP _ _,(((AA hB9).setCell (by simp<;>omega) _).setCell (by simp<;>omega) _).setCell (by simp<;>omega) _⟩
       |false=>
        clear HC6;go_upto_region 10 with fail;go_cut[94] (fun b wx=>Below w2.heap.size w2 wx/\b=.bool (!wide&&!tall&&decide (sh≠sh')));case first=>
         cases wide<;>cases tall
         .obtain⟨r4,hr4⟩:∃r,decide (sh=sh')=r:=⟨_,rfl⟩
          have HR4:=AD hr4;have HD:Hid (decide (sh≠sh')= !r4):=by show _=_;rw[<-hr4];simp
          clear hr4;go_wp2_with(go_at_call 179;refine(OV _ _ _ _ _ _ sh sh' _ ((AA H1).below AC (AA hB2)) ((AA K1).below AC (AA hB2)) r4 HR4).mono ?_;rintro e wq⟨rfl,q,rfl⟩)
          go_meet
          case rel=>exact⟨Below.drewN AG _,by rw[AA HD];rfl⟩
         all_goals
          go_wp2
          go_meet
          case rel=>exact⟨AG,rfl⟩
        case rest=>
         obtain⟨w3,hw3⟩:∃x,x=wc:=⟨_,rfl⟩
         subst hw3;obtain⟨hb3,rfl⟩:=hcut;have D4:=AD ((AA C4).below AC hb3);have D5:=AD ((AA C5).below AC hb3);have D6:=AD ((AA C6).below AC hb3);have hB3:=AD ((AA hB2).trans (hb3.mono (AA hB2).size));clear hb3 C4 C5 C6 hB2 x0 x1 x2 x3 x4 x5 x6 y0 y1 y2 y3 y4 y5 y6;obtain⟨ln,hln⟩:∃r,(!wide&&!tall&&decide (sh≠sh'))=r:=⟨_,rfl⟩
         rw[hln];have HLN:=AD hln;clear hln;cases ln with
         |true=>
          have HS:Hid (B8 op c d sh dt sh' dt'=AT 5):=by show _=_;rw[AA HRS'];have:=AA HLN;simp at this;obtain⟨⟨h1,h2⟩,h3⟩:=this;have h4:=AA HRK;rw[h1,h2]at h4 ⊢;simp at h4;exact Vo (by rw[AA hl1,AA hl3];exact h4) h3
          go_wp2_with fail;refine(Aa _).mono ?_;rintro e w9⟨rfl,hb9⟩;obtain⟨q0,q1,q2,q3,q4,q5,q6⟩:=((AA D6).below AC hb9).all;have hB9:=AD (((AA hB3)).trans (hb9.mono ((AA hB3)).size));clear hb9 D4 D5 D6 hB3
          go_wp2
          refine bodyPost_ret (v:=.tuple #[.agg #[.bool false,.slice none 0 0,.slice none 0 0],.int .i64 5]) (by simp[results,results108,go_sem,q0,q1,q2]) rfl ?_;rw[AA HS];exact⟨none,0,0,none,0,0,rfl,AP _ _,AP _ _,(((AA hB9).setCell (by simp<;>omega) _).setCell (by simp<;>omega) _).setCell (by simp<;>omega) _⟩
         |false=>
          have HF:Hid (VL wide tall sh sh' shp):=by
           show VL _ _ _ _ _;have h5:=AA HLN;rcases hcase with⟨h1,_,_,_,_,h6⟩|⟨h1,_,_,_,h6⟩
           .exact .inl ⟨h1,h6⟩
           .cases tall
            .rw[h1]at h5;simp at h5;exact .inr (.inr ⟨h1,rfl,h6,h5⟩)
            .exact .inr (.inl ⟨h1,rfl,h6⟩)
          clear hcase HLN HRK;obtain⟨x0,x1,x2,x3,x4,x5,x6⟩:=(AA D4).all;obtain⟨y0,y1,y2,y3,y4,y5,y6⟩:=(AA D5).all;go_upto_region 12 with fail;go_cut[106] (fun b wx=>w3=wx/\b=.bool ((c||d)&&!GA op));case first=>
           cases c<;>cases d;all_goals
            go_wp2_with(go_at_call 180;refine(Ql _ _).mono ?_;rintro e wq⟨rfl,rfl⟩)
            go_meet
            case rel=>exact⟨rfl,rfl⟩
          case rest=>
           obtain⟨rfl,rfl⟩:=hcut;obtain⟨bad,hbad⟩:∃r,((c||d)&&!GA op)=r:=⟨_,rfl⟩
           rw[hbad];have HBD:=AD hbad;clear hbad;cases bad with
           |true=>
            have HS:=AD ((AA HRS').trans (UL (AA HF) (AA HBD)));go_wp2_with fail;refine(Aa _).mono ?_;rintro e w9⟨rfl,hb9⟩;obtain⟨q0,q1,q2,q3,q4,q5,q6⟩:=((AA D6).below AC hb9).all;have hB9:=AD (((AA hB3)).trans (hb9.mono ((AA hB3)).size));clear hb9 D4 D5 D6 hB3 x0 x1 x2 x3 x4 x5 x6 y0 y1 y2 y3 y4 y5 y6
            go_wp2
            refine bodyPost_ret (v:=.tuple #[.agg #[.bool false,.slice none 0 0,.slice none 0 0],.int .i64 3]) (by simp[results,results108,go_sem,q0,q1,q2]) rfl ?_;rw[AA HS];exact⟨none,0,0,none,0,0,rfl,AP _ _,AP _ _,(((AA hB9).setCell (by simp<;>omega) _).setCell (by simp<;>omega) _).setCell (by simp<;>omega) _⟩
           |false=>
            obtain⟨f,hf⟩:∃f:Nat->Int×Int,f=fun i=>E9 op c dt (i % n2) d dt' (i % m2):=⟨_,rfl⟩
            have hfp:=XI (AA HF) (by rw[AA hl1,AA hl2,AA hl3,AA hl4];exact AA HWD) (by rw[AA hl4];exact AA HTL) (AA HR1) (AA HR2);rw[AA hl2,AA hl4]at hfp;obtain⟨N,hN⟩:∃N:Nat,Ac shp=(N:Int):=⟨(Ac shp).toNat,by omega⟩
            rw[hN]at hfp;have HGO:Hid (B8 op c d sh dt sh' dt'=Bc false shp f N):=by show _=_;rw[AA HRS',YK (AA HF) (AA HBD) n2 m2 (AA hl2) (AA hl4),hN,hf,DL]
            have HFK:Hid (∀k,f k=E9 op c dt (k % n2) d dt' (k % m2)):=by intro k;rw[hf]
            obtain⟨_,hNs,hpos⟩:=hfp;have HN:=AD hN;have HPOS:=AD hpos;have HV1:=AD (Xu (AA HR1));have HV2:=AD (Xu (AA HR2));clear hf hN hpos HRS' HF HBD HWD HTL;obtain⟨i0,hi,hz0,hz1,hz2⟩:=info_parts A6;go_wp2_with fail;refine(SF _ _ _ shp _ ((AA HSP).below AC (AA hB3))).mono ?_;rintro e w4⟨ash,csh,rfl,hO,hb4⟩;have E4:=AD ((AA D4).below AC hb4);have E5:=AD ((AA D5).below AC hb4);have E6:=AD ((AA D6).below AC hb4);have HB4:=AD ((AA hB3).trans (hb4.mono (AA hB3).size));have HO:=AD (hO.mono (B':=w.heap.size) (AA hB3).size);have HOl:Hid (∀k,At ash an k->k<w4.heap.size):=fun k hk=>hO.row.hi hk;have hy3:=(AA D6).lt;have HOp:Hid (∀k,At ash an k->k≠w.heap.size+2):=fun k hk=>by have:=hO.low hk;omega
            have hy4:=(AA E6).lt;have hsp:=(AA HSP).len;clear hb4 hB3 D4 D5 D6 hO hy3 x0 x1 x2 x3 x4 x5 x6 y0 y1 y2 y3 y4 y5 y6;go_wp2_with(go_at_call 48;refine(EY _ _ _ shp _ (by exact((((AA HSP).below AC (AA HB4)).alloc _).alloc _)) _ HN).mono ?_;rintro e wq⟨rfl,rfl⟩);go_loopw[13] (fun i wr=>∃(k:Nat)(v:Value),k<=N/\i=.int .i64 k/\Ai wr (w4.heap.size+1) false (.slice ash an csh) v/\wr.ownsRow w4.heap.size 3 1 v k ((Bg f k).map (Value.int .i64))/\Below w4.heap.size w4 wr/\Ay f k=0) (fun i _=>N- (intOf i).toNat);case atStart=>
             refine⟨0,.slice (some ⟨w4.heap.size,0,none⟩) 0 0,AS _,rfl,?_,?_,(AG.alloc AC _).alloc (by simp) _,rfl⟩
             .have:=Ai.new (w4.alloc (.cells #[] 3)) false (.slice ash an csh) (.slice (some ⟨w4.heap.size,0,none⟩) 0 0);simpa using this
             .exact(Fs w4).alloc _
            case round=>
             obtain⟨k,v,hk,rfl,hbx,BJ,hbl,hgood⟩:=hrel;have HW:=AD ((AA HB4).trans (hbl.mono (AA HB4).size));have F4:=AD ((AA E4).low (by omega) hbl);have F5:=AD ((AA E5).low (by omega) hbl);have F6:=AD ((AA E6).low hy4 hbl);have HO':=AD ((AA HO).low' (AA HOl) hbl);have hwr:w4.heap.size<=wr.heap.size:=hbl.size;by_cases hlt:k<N
             .obtain⟨hn2,hm2⟩:=AA HPOS (by omega);obtain⟨x0,x1,x2,x3,x4,x5,x6⟩:=(AA F4).all;obtain⟨y0,y1,y2,y3,y4,y5,y6⟩:=(AA F5).all;have hq1:(k:Int).tmod (n2:Int)=((k % n2:Nat):Int):=by rw[Au (by omega)];rfl
              have hq2:(k:Int).tmod (m2:Int)=((k % m2:Nat):Int):=by rw[Au (by omega)];rfl
              have g1:((n2:Int)==0)=false:=by simp;omega
              have g2:((m2:Int)==0)=false:=by simp;omega
              obtain⟨r,hr⟩:∃r,f k=r:=⟨_,rfl⟩
              obtain⟨r1,r2⟩:=r;have HRR:=AD hr;have HRE:Hid (E9 op c dt (k % n2) d dt' (k % m2)=(r1,r2)):=by show _=_;rw[<-AA HFK k];exact hr
              clear hr;have HBX:=AD hbx;have HBL:=AD hbl;have HG:=AD hgood;have HOW:=AD BJ;clear hbx hbl hgood BJ;go_upto_region 19 with fail;go_cut[14,15] (fun v14 v15 wx=>v14=.int .i64 r1/\v15=.int .i64 r2/\Below wr.heap.size wr wx);case first=>
               have HKEEP:∀wx,Below wr.heap.size wr wx->Below wr.heap.size wr wx/\wx.cell? ⟨w.heap.size,0,none⟩=some (.bool c)/\wx.cell? ⟨w.heap.size,1,none⟩=some (.slice a1 n1 c1)/\wx.cell? ⟨w.heap.size,2,none⟩=some (.slice a2 n2 c2)/\wx.cell? ⟨w.heap.size+1,0,none⟩=some (.bool d)/\wx.cell? ⟨w.heap.size+1,1,none⟩=some (.slice b1 m1 d1)/\wx.cell? ⟨w.heap.size+1,2,none⟩=some (.slice b2 m2 d2):=fun wx hwx=>⟨hwx,((AA F4).below AC hwx).cells.1,((AA F4).below AC hwx).cells.2.1,((AA F4).below AC hwx).cells.2.2,((AA F5).below AC hwx).cells.1,((AA F5).below AC hwx).cells.2.1,((AA F5).below AC hwx).cells.2.2⟩
               go_region_held (fun wx=>Below wr.heap.size wr wx/\wx.cell? ⟨w.heap.size,0,none⟩=some (.bool c)/\wx.cell? ⟨w.heap.size,1,none⟩=some (.slice a1 n1 c1)/\wx.cell? ⟨w.heap.size,2,none⟩=some (.slice a2 n2 c2)/\wx.cell? ⟨w.heap.size+1,0,none⟩=some (.bool d)/\wx.cell? ⟨w.heap.size+1,1,none⟩=some (.slice b1 m1 d1)/\wx.cell? ⟨w.heap.size+1,2,none⟩=some (.slice b2 m2 d2)) (first|exact HKEEP _ hK5|exact HKEEP _ AG.drew) (first|(go_at_call 181;refine(Mb op c d _ _ _ _ n2 m2 _ _ dt dt' (k % n2) (k % m2) _ ((AA H2).below AC (AA HW).drew) ((AA K2).below AC (AA HW).drew) (Nat.mod_lt _ hn2) (Nat.mod_lt _ hm2) (AA HIN) (AA HV1) (AA HV2) r1 r2 HRE).mono ?_;rintro e w5⟨rfl,hb5⟩;have hK5:Below wr.heap.size wr w5:=AG.drew.trans (hb5.mono (by simp))))
               all_goals go_wp2_with fail
               all_goals(go_meet;case rel=>exact⟨rfl,rfl,hK5⟩)
              case rest=>
               obtain⟨w5,hw5⟩:∃x,x=wc:=⟨_,rfl⟩
               subst hw5;obtain⟨rfl,rfl,hb5⟩:=hcut;have G6:=AD ((AA F6).below AC hb5);have HW5:=AD ((AA HW).trans (hb5.mono (AA HW).size));have HBX5:=AD ((AA HBX).below AC hb5);have HOW5:=AD (BN (AA HOW) AC hb5);have HBL5:=AD ((AA HBL).trans (hb5.mono hwr));have HO5:=AD ((AA HO').below AC hb5);have hwr5:w4.heap.size<=w5.heap.size:=(AA HBL5).size;clear hb5 HBX HOW HBL HO' F4 F5 F6 HW x0 x1 x2 x3 x4 x5 x6 y0 y1 y2 y3 y4 y5 y6;by_cases hcode:r2=0
               .subst hcode;obtain⟨z0,z1,z2,z3,z4,z5,z6⟩:=(AA HBX5).all;have BJ:=AA HOW5;go_wp2_with(at_builtin;refine wpList_append_own _ rfl _ _ 23 rfl w4.heap.size 3 i0 (.int .i64 0) 1 8 underlying23 hi hz0 hz1 hz2 rfl (by decide) _ _ _ rfl (BJ.alloc _) ⟨w5.heap.size,0,none⟩ 1 1 [.int .i64 r1] rfl rfl (Bp _ _) (CD _) (by unfold maxLen;omega) (by omega) (by simp;omega) ?_;intro v1 w6 BL An hnil;clear hnil;obtain⟨av,cv,rfl⟩:=CU BL;have HB:=AD (Co _ BJ hwr5 An);have HX6:=AD ((AA HBX5).grown BJ _ An);obtain⟨z0',z1',z2',z3',z4',z5',z6'⟩:=(AA HX6).all;clear An);have HN':Hid (w6.ownsRow w4.heap.size 3 1 (.slice av (k+1) cv) (k+1) ((Bg f (k+1)).map (Value.int .i64))):=by show w6.ownsRow _ _ _ _ _ _;rw[J3,AA HRR];exact BL
                go_roundw;case rel=>exact⟨k+1,.slice av (k+1) cv,by omega,by go_num,(AA HX6).set2 _,Eq (AA HN') (AA HX6) _ _,((AA HBL5).trans (AA HB)).setCell (by simp) _,Ia (AA HG) (by rw[AA HRR])⟩
                case measure=>simp[intOf];omega
               .have HS:Hid (B8 op c d sh dt sh' dt'=AT r2):=by show _=_;have:=SU (c:=false) (sh:=shp) (AA HG) hlt (by rw[AA HRR];exact hcode);rw[AA HGO,this,AA HRR]
                have hcb:(r2 !=0)=true:=by simp[hcode]
                clear hcode;go_wp2_with fail;refine(Aa _).mono ?_;rintro e w9⟨rfl,hb9⟩;obtain⟨q0,q1,q2,q3,q4,q5,q6⟩:=((AA G6).below AC hb9).all;have hB9:=AD (((AA HW5)).trans (hb9.mono ((AA HW5)).size));clear hb9 G6 HW5 HO5 HBX5 HOW5 HBL5
                go_wp2
                refine bodyPost_ret (v:=.tuple #[.agg #[.bool false,.slice none 0 0,.slice none 0 0],.int .i64 r2]) (by simp[results,results108,go_sem,q0,q1,q2]) rfl ?_;rw[AA HS];exact⟨none,0,0,none,0,0,rfl,AP _ _,AP _ _,(((AA hB9).setCell (by simp<;>omega) _).setCell (by simp<;>omega) _).setCell (by simp<;>omega) _⟩
             .have hkn:k=N:=by omega
              subst hkn;have HS:Hid (B8 op c d sh dt sh' dt'=⟨false,shp,Bg f k,0⟩):=(AA HGO).trans (DY hgood);obtain⟨ad',cd,rfl,hD⟩:=Bt.of_owns BJ (by omega);have HD:=AD hD;obtain⟨z0,z1,z2,z3,z4,z5,z6⟩:=hbx.all;obtain⟨q0,q1,q2,q3,q4,q5,q6⟩:=(AA F6).all;clear BJ hgood hD hbx hbl F4 F5 F6 HGO HFK
              go_wp2
              refine bodyPost_ret (v:=.tuple #[.agg #[.bool false,.slice ash an csh,.slice ad' k cd],.int .i64 0]) (by simp[results,results108,go_sem,q0,q1,q2]) rfl ?_;rw[AA HS];refine⟨ash,an,csh,ad',k,cd,rfl,?_,?_,(((AA HW).setCell (by simp<;>omega) _).setCell (by simp<;>omega) _).setCell (by simp<;>omega) _⟩
              .exact((((AA HO').other (AA HOp) _).other (AA HOp) _).other (AA HOp) _).row
              .have hp:∀x,At ad' k x->x≠w.heap.size+2:=fun x hx=>by have:=(AA HD).low hx;omega
               exact((((AA HD).other hp _).other hp _).other hp _).row
