import Derived.Test.YtgjpchnkodnieaaGreatDoorZ34
import Derived.Test.YtgjpchnkodnieaaGreatDoorZ29
import Derived.Deep.RegionLaw
import Derived.Test.YtgjpchnkodnieaaGreatDoorZ27
set_option maxRecDepth 20000
set_option maxHeartbeats 64000000
set_option linter.defProp false
namespace Go.Proofs.YtgjpchnkodnieaaGreatDoor
open Go.RowKit Tryz
def Ux{c d:Bool}{sh dt sh' dt':List Int}(h:AJ c sh dt=false):FU c d sh dt sh' dt'=AT 3:=by unfold FU;rw[AH (by simp[h])]
def Uw{c d:Bool}{sh dt sh' dt':List Int}(h:AJ d sh' dt'=false):FU c d sh dt sh' dt'=AT 3:=by unfold FU;rw[AH (by simp[h])]
def Uv{c d:Bool}{sh dt sh' dt':List Int}(h1:AJ c sh dt=true)(h2:AJ d sh' dt'=true)(h:sh.length≠1):FU c d sh dt sh' dt'=AT 4:=by unfold FU;rw[AI ⟨h1,h2⟩,AI h]
def Ym{c d:Bool}{sh dt sh' dt':List Int}(h1:AJ c sh dt=true)(h2:AJ d sh' dt'=true)(h:sh.length=1)(m2:Nat)(l4:dt'.length=m2):FU c d sh dt sh' dt'=Bc false sh' (fun k=>((CM c dt (dt'.getD k 0) d:Int)+1,0)) m2:=by unfold FU;rw[AI ⟨h1,h2⟩,AH (by omega),l4]
def X2(c d:Bool)(a1 a2 b1 b2:Addr)(n1 n2 m1 m2 c1 c2 d1 d2:Nat)(sh dt sh' dt':List Int)(w:World)(h1:AO w (some a1) n1 sh)(h2:AO w (some a2) n2 dt)(k1:AO w (some b1) m1 sh')(k2:AO w (some b2) m2 dt'):Calls prog 124 #[.agg #[.bool c,.slice (some a1) n1 c1,.slice (some a2) n2 c2],.agg #[.bool d,.slice (some b1) m1 d1,.slice (some b2) m2 d2]] w (CJ w (FU c d sh dt sh' dt')):=by
 have hl1:=AD h1.len;have hl2:=AD h2.len;have hl3:=AD k1.len;have hl4:=AD k2.len;have hs1:=h1.small;have hs2:=h2.small;have hs3:=k1.small;have hs4:=k2.small;have H1:=AD h1;have H2:=AD h2;have K1:=AD k1;have K2:=AD k2;clear h1 h2 k1 k2;obtain⟨r1,hr1⟩:∃r,AJ c sh dt=r:=⟨_,rfl⟩
 obtain⟨r2,hr2⟩:∃r,AJ d sh' dt'=r:=⟨_,rfl⟩
 have HR1:=AD hr1;have HR2:=AD hr2;clear hr1 hr2;go_enter func124,ntmps124;go_wp2_with fail;refine(A0 _ _ _ _ _ _ _ sh dt _ ((((AA H1).alloc _).alloc _).alloc _) ((((AA H2).alloc _).alloc _).alloc _) _ HR1).mono ?_;rintro e w1⟨rfl,hb1⟩;obtain⟨B4,B5,B6,hB1⟩:=Az hb1;have hz1:=B6.lt;clear hb1;obtain⟨x0,x1,x2,x3,x4,x5,x6⟩:=B4.all;obtain⟨y0,y1,y2,y3,y4,y5,y6⟩:=B5.all;cases r1 with
 |false=>
  have HS:=AD (Ux (d:=d) (sh':=sh') (dt':=dt') (AA HR1));go_wp2_with fail;refine(Aa _).mono ?_;rintro e w9⟨rfl,hb9⟩;obtain⟨q0,q1,q2,q3,q4,q5,q6⟩:=(B6.below AC hb9).all;have hB9:=AD ((hB1).trans (hb9.mono (hB1).size));clear hb9 hB1 B4 B5 B6 hz1 x0 x1 x2 x3 x4 x5 x6 y0 y1 y2 y3 y4 y5 y6
  go_wp2
  refine bodyPost_ret (v:=.tuple #[.agg #[.bool false,.slice none 0 0,.slice none 0 0],.int .i64 3]) (by simp[results,results124,go_sem,q0,q1,q2]) rfl ?_;rw[AA HS];exact⟨none,0,0,none,0,0,rfl,AP _ _,AP _ _,(((AA hB9).setCell (by simp<;>omega) _).setCell (by simp<;>omega) _).setCell (by simp<;>omega) _⟩
 |true=>
  go_wp2_with fail;refine(A0 _ _ _ _ _ _ _ sh' dt' _ ((AA K1).below AC hB1) ((AA K2).below AC hB1) _ HR2).mono ?_;rintro e w2⟨rfl,hb2⟩;have C4:=AD (B4.below AC hb2);have C5:=AD (B5.below AC hb2);have C6:=AD (B6.below AC hb2);have hB2:=AD (hB1.trans (hb2.mono hB1.size));clear hb2 hB1 B4 B5 B6 hz1 x0 x1 x2 x3 x4 x5 x6 y0 y1 y2 y3 y4 y5 y6 w1;cases r2 with
  |false=>
   have HS:=AD (Uw (c:=c) (sh:=sh) (dt:=dt) (AA HR2));go_wp2_with fail;refine(Aa _).mono ?_;rintro e w9⟨rfl,hb9⟩;obtain⟨q0,q1,q2,q3,q4,q5,q6⟩:=((AA C6).below AC hb9).all;have hB9:=AD (((AA hB2)).trans (hb9.mono ((AA hB2)).size));clear hb9 C4 C5 C6 hB2
   go_wp2
   refine bodyPost_ret (v:=.tuple #[.agg #[.bool false,.slice none 0 0,.slice none 0 0],.int .i64 3]) (by simp[results,results124,go_sem,q0,q1,q2]) rfl ?_;rw[AA HS];exact⟨none,0,0,none,0,0,rfl,AP _ _,AP _ _,(((AA hB9).setCell (by simp<;>omega) _).setCell (by simp<;>omega) _).setCell (by simp<;>omega) _⟩
  |true=>
   obtain⟨x0,x1,x2,x3,x4,x5,x6⟩:=(AA C4).all;obtain⟨y0,y1,y2,y3,y4,y5,y6⟩:=(AA C5).all;by_cases hn1:n1=1
   .have g1:((n1:Int) !=1)=false:=by simp[hn1]
    obtain⟨f,hf⟩:∃f:Nat->Int×Int,f=fun k=>((CM c dt (dt'.getD k 0) d:Int)+1,0):=⟨_,rfl⟩
    have HGO:Hid (FU c d sh dt sh' dt'=Bc false sh' f m2):=by show _=_;rw[Ym (AA HR1) (AA HR2) ((AA hl1).trans hn1) m2 (AA hl4),hf]
    have HFK:Hid (∀k,f k=((CM c dt (dt'.getD k 0) d:Int)+1,0)):=by intro k;rw[hf]
    clear hf hn1;obtain⟨i0,hi,hz0,hz1,hz2⟩:=info_parts A6;go_wp2_with fail;refine(D3 _ _ _ sh' _ ((AA K1).below AC (AA hB2))).mono ?_;rintro e w3⟨ash,csh,rfl,hOJ,hb3⟩;have hlaid:=Jg (c:=false) (csh:=csh) hOJ hb3;obtain⟨p,g0,ash',csh',e1,hbx,DI,hO,hb4,hp,hg,hne⟩:=hlaid;have hpe:p=w3.heap.size+1:=by simpa using e1.symm
    subst hpe;have hst0:=AD (Es.start f hbx DI hO hb4 hp hg hne);have hB2z:=(AA hB2).size;have hz4:=(AA C4).lt;have hz5:=(AA C5).lt;have hz6':=(AA C6).lt;clear e1 hbx DI hO hb4 hg hne hOJ hb3 x0 x1 x2 x3 x4 x5 x6 y0 y1 y2 y3 y4 y5 y6;go_wp2_with fail;go_loopw[7] (fun i wr=>∃P g cap,P<=m2/\i=.int .i64 (P:Nat)/\Hid (Es w2 (w3.heap.size+1) false ash' m1 csh' sh' f P wr g cap)) (fun i _=>m2- (intOf i).toNat);case atStart=>exact⟨0,g0,0,AS _,rfl,hst0⟩
    case round=>
     obtain⟨P,g,cap,hP,rfl,hst⟩:=hrel;clear hst0;obtain⟨y0,y1,y2,y3,y4,y5,y6⟩:=((AA C5).low hz5 (AA hst).low).all;have HWy:=AD ((AA hB2).trans ((AA hst).low.mono hB2z));by_cases hlt:P<m2
     .obtain⟨bb,ob,hab,hblt,hc⟩:=(AA K2).get hlt;cases hab;have hc':=((AA HWy).cell (p:=⟨bb,ob+P,none⟩) hblt).trans hc;obtain⟨x,hx⟩:∃x,x=dt'.getD P 0:=⟨_,rfl⟩
      rw[<-hx]at hc';obtain⟨r1,hr1⟩:∃r1:Int,r1=(CM c dt x d:Int)+1:=⟨_,rfl⟩
      have hfk:f P=(r1,0):=by rw[AA HFK P,<-hx,hr1]
      have HFQ:=AD hfk;have HR1':=AD hr1;have hfl:=Qv c dt x d;rw[AA hl2]at hfl;clear hfk hr1 hc hx;obtain⟨q,hq⟩:∃q:Nat,CM c dt x d=q:=⟨_,rfl⟩
      have HQ:=AD hq;rw[hq]at hfl HR1';have HFP:Hid (f P=((q:Int)+1,0)):=by show _=_;rw[AA HFQ,AA HR1']
      clear hq HFQ HR1';have hPs:P<17592186044416:=by omega
      obtain⟨z0,z1,z2,z3,z4,z5,z6⟩:=(AA hst).box.all;have hst':=AA hst;have hwq:IntKind.i64.wrap ((q:Int)+1)=(q:Int)+1:=by rw[IntKind.wrap_i64];omega
      obtain⟨x0,x1,x2,x3,x4,x5,x6⟩:=((AA C4).low hz4 hst'.low).all;go_wp2_with fail
      go_region_law (first
        |(refine step_append_lies _ (by rfl) _ _ _ (by rfl) w2.heap.size 3 i0 _ 1 8 underlying23 hi hz0 hz1 hz2 rfl (by omega) (.slice (some ⟨g,0,none⟩) P cap) P ((Bg f P).map (Value.int .i64)) (by rfl) (hst5.owns.alloc _) ⟨w5.heap.size,0,none⟩ 1 1 [.int .i64 ((q:Int)+1)] (by rfl) (by rfl) (Bp _ _) (CD _) (by omega) (by unfold maxLen;omega) (by omega) (by have:=hst5.low.size;simp;omega) (w5.heap.size+1) (by simp) ?_;intro g' Ak w7 BL An hat GB;have hlow7:Below w2.heap.size w2 w7:=hst5.low.trans (Co _ hst5.owns hst5.low.size An);obtain⟨hb7,hst7⟩:=hst5.push _ (AA HFP) BL An hat;obtain⟨t0,t1,t2,t3,t4,t5,t6⟩:=hb7.all)
        |(go_simp;go_at_call 193;refine(Kw c d _ _ n2 _ dt x _ ((AA H2).below AC (AA HWy).drew)).mono ?_;rw[AA HQ];rintro e w5⟨rfl,hb5⟩;have hst5:=hst'.drew.below hb5;obtain⟨u0,u1,u2,u3,u4,u5,u6⟩:=hst5.box.all))
      all_goals
       go_wp2_with fail;go_roundw;case rel=>exact⟨P+1,g',Ak,by omega,by go_num,hst7⟩
       case measure=>simp[intOf];omega
     .have hPB:P=m2:=by omega
      subst hPB;have HS:Hid (FU c d sh dt sh' dt'=⟨false,sh',Bg f P,0⟩):=(AA HGO).trans (DY (AA hst).code);obtain⟨ad',cd,hv,hD⟩:=Bt.of_owns (AA hst).owns (by omega);cases hv;obtain⟨z0,z1,z2,z3,z4,z5,z6⟩:=(AA hst).box.all;have G6:=AD ((AA C6).low hz6' (AA hst).low);obtain⟨q0,q1,q2,q3,q4,q5,q6⟩:=(AA G6).all;have HW6:=AD ((AA hB2).trans ((AA hst).low.mono hB2z));have HO6:=AD (AA hst).own;have HD:=AD hD;clear hst hD HGO HFK HWy
      go_wp2
      refine bodyPost_ret (v:=.tuple #[.agg #[.bool false,.slice ash' m1 csh',.slice (some ⟨g,0,none⟩) P cap],.int .i64 0]) (by simp[results,results124,go_sem,q0,q1,q2]) rfl ?_;rw[AA HS];refine⟨ash',m1,csh',some ⟨g,0,none⟩,P,cap,rfl,?_,?_,(((AA HW6).setCell (by simp<;>omega) _).setCell (by simp<;>omega) _).setCell (by simp<;>omega) _⟩
      .exact(AA HO6).row.sets (AA G6) _ _ _
      .exact(AA HD).row.sets (AA G6) _ _ _
   .have g1:((n1:Int) !=1)=true:=by simp;omega
    have HS:=AD (Uv (AA HR1) (AA HR2) (by rw[AA hl1];exact hn1));clear hn1;go_wp2_with fail;refine(Aa _).mono ?_;rintro e w9⟨rfl,hb9⟩;obtain⟨q0,q1,q2,q3,q4,q5,q6⟩:=((AA C6).below AC hb9).all;have hB9:=AD (((AA hB2)).trans (hb9.mono ((AA hB2)).size));clear hb9 C4 C5 C6 hB2 x0 x1 x2 x3 x4 x5 x6 y0 y1 y2 y3 y4 y5 y6
    go_wp2
    refine bodyPost_ret (v:=.tuple #[.agg #[.bool false,.slice none 0 0,.slice none 0 0],.int .i64 4]) (by simp[results,results124,go_sem,q0,q1,q2]) rfl ?_;rw[AA HS];exact⟨none,0,0,none,0,0,rfl,AP _ _,AP _ _,(((AA hB9).setCell (by simp<;>omega) _).setCell (by simp<;>omega) _).setCell (by simp<;>omega) _⟩
def QZ{c d:Bool}{sh dt sh' dt':List Int}(h:AJ c sh dt=false):Cz c d sh dt sh' dt'=AT 3:=by unfold Cz;rw[AH (by simp[h])]
def QY{c d:Bool}{sh dt sh' dt':List Int}(h:AJ d sh' dt'=false):Cz c d sh dt sh' dt'=AT 3:=by unfold Cz;rw[AH (by simp[h])]
def UY{c d:Bool}{sh dt sh' dt':List Int}(h1:AJ c sh dt=true)(h2:AJ d sh' dt'=true):Cz c d sh dt sh' dt'=Bc false sh (fun k=>(Bh (decide (CM d dt' (dt.getD k 0) c<dt'.length)),0)) dt.length:=by unfold Cz;rw[AI ⟨h1,h2⟩]
def Wm{w w1:World}{g b o:Nat}(ob:Obj)(hg:(w.alloc ob).grownBy w1 (some g))(hb:b<w.heap.size)(hne:b≠g):w1.cell? ⟨b,o,none⟩=w.cell? ⟨b,o,none⟩:=World.cell?_of_block (w:=w) (a:=⟨b,o,none⟩) ((hg.block b (by simp;omega) (fun e=>by cases e;exact hne rfl)).trans (Ab w ob b hb))
def TD(c d:Bool)(a1 a2 b1 b2:Addr)(n1 n2 m1 m2 c1 c2 d1 d2:Nat)(sh dt sh' dt':List Int)(w:World)(h1:AO w (some a1) n1 sh)(h2:AO w (some a2) n2 dt)(k1:AO w (some b1) m1 sh')(k2:AO w (some b2) m2 dt'):Calls prog 129 #[.agg #[.bool c,.slice (some a1) n1 c1,.slice (some a2) n2 c2],.agg #[.bool d,.slice (some b1) m1 d1,.slice (some b2) m2 d2]] w (CJ w (Cz c d sh dt sh' dt')):=by
 have hl1:=AD h1.len;have hl2:=AD h2.len;have hl3:=AD k1.len;have hl4:=AD k2.len;have hs1:=h1.small;have hs2:=h2.small;have hs3:=k1.small;have hs4:=k2.small;have H1:=AD h1;have H2:=AD h2;have K1:=AD k1;have K2:=AD k2;clear h1 h2 k1 k2;obtain⟨r1,hr1⟩:∃r,AJ c sh dt=r:=⟨_,rfl⟩
 obtain⟨r2,hr2⟩:∃r,AJ d sh' dt'=r:=⟨_,rfl⟩
 have HR1:=AD hr1;have HR2:=AD hr2;clear hr1 hr2;go_enter func129,ntmps129;go_wp2_with fail;refine(A0 _ _ _ _ _ _ _ sh dt _ ((((AA H1).alloc _).alloc _).alloc _) ((((AA H2).alloc _).alloc _).alloc _) _ HR1).mono ?_;rintro e w1⟨rfl,hb1⟩;obtain⟨B4,B5,B6,hB1⟩:=Az hb1;have hz1:=B6.lt;clear hb1;obtain⟨x0,x1,x2,x3,x4,x5,x6⟩:=B4.all;obtain⟨y0,y1,y2,y3,y4,y5,y6⟩:=B5.all;cases r1 with
 |false=>
  have HS:Hid (Cz c d sh dt sh' dt'=AT 3):=QZ (AA HR1);go_wp2_with fail;refine(Aa _).mono ?_;rintro e w9⟨rfl,hb9⟩;obtain⟨q0,q1,q2,q3,q4,q5,q6⟩:=((B6).below AC hb9).all;have hB9:=AD ((hB1).trans (hb9.mono (hB1).size));clear hb9 hB1 B4 B5 B6 hz1 x0 x1 x2 x3 x4 x5 x6 y0 y1 y2 y3 y4 y5 y6
  go_wp2
  refine bodyPost_ret (v:=.tuple #[.agg #[.bool false,.slice none 0 0,.slice none 0 0],.int .i64 3]) (by simp[results,results129,go_sem,q0,q1,q2]) rfl ?_;rw[AA HS];exact⟨none,0,0,none,0,0,rfl,AP _ _,AP _ _,(((AA hB9).setCell (by simp<;>omega) _).setCell (by simp<;>omega) _).setCell (by simp<;>omega) _⟩
 |true=>
  go_wp2_with fail;refine(A0 _ _ _ _ _ _ _ sh' dt' _ ((AA K1).below AC hB1) ((AA K2).below AC hB1) _ HR2).mono ?_;rintro e w2⟨rfl,hb2⟩;have C4:=AD (B4.below AC hb2);have C5:=AD (B5.below AC hb2);have C6:=AD (B6.below AC hb2);have hB2:=AD (hB1.trans (hb2.mono hB1.size));clear hb2 hB1 B4 B5 B6 hz1 x0 x1 x2 x3 x4 x5 x6 y0 y1 y2 y3 y4 y5 y6 w1;cases r2 with
  |false=>
   have HS:Hid (Cz c d sh dt sh' dt'=AT 3):=QY (AA HR2);go_wp2_with fail;refine(Aa _).mono ?_;rintro e w9⟨rfl,hb9⟩;obtain⟨q0,q1,q2,q3,q4,q5,q6⟩:=((AA C6).below AC hb9).all;have hB9:=AD ((AA hB2).trans (hb9.mono (AA hB2).size));clear hb9 C4 C5 C6 hB2
   go_wp2
   refine bodyPost_ret (v:=.tuple #[.agg #[.bool false,.slice none 0 0,.slice none 0 0],.int .i64 3]) (by simp[results,results129,go_sem,q0,q1,q2]) rfl ?_;rw[AA HS];exact⟨none,0,0,none,0,0,rfl,AP _ _,AP _ _,(((AA hB9).setCell (by simp<;>omega) _).setCell (by simp<;>omega) _).setCell (by simp<;>omega) _⟩
  |true=>
   obtain⟨x0,x1,x2,x3,x4,x5,x6⟩:=(AA C4).all;obtain⟨y0,y1,y2,y3,y4,y5,y6⟩:=(AA C5).all;obtain⟨f,hf⟩:∃f:Nat->Int×Int,f=fun k=>(Bh (decide (CM d dt' (dt.getD k 0) c<dt'.length)),0):=⟨_,rfl⟩
   have HGO:Hid (Cz c d sh dt sh' dt'=Bc false sh f n2):=by show _=_;rw[UY (AA HR1) (AA HR2),hf,AA hl2]
   have HFK:Hid (∀k,f k=(Bh (decide (CM d dt' (dt.getD k 0) c<dt'.length)),0)):=by intro k;rw[hf]
   obtain⟨_,pr1,_⟩:=AW (AA HR1);have hbd1:=(AW (AA HR1)).1.bd;rw[pr1,AA hl2]at hbd1;have hn2b:n2<=10000:=by omega
   clear hf pr1 hbd1;go_wp2_with fail;refine(D3 _ _ _ sh _ ((AA H1).below AC (AA hB2))).mono ?_;rintro e w3⟨ash,csh,rfl,hOJ,hb3⟩;have hlaid:=Jg (c:=false) (csh:=csh) hOJ hb3;obtain⟨p,g0,ash',csh',e1,hbx,DI,hO,hb4,hp,hg,hne⟩:=hlaid;have hpe:p=w3.heap.size+1:=by simpa using e1.symm
   subst hpe;have hst0:=AD (Es.start f hbx DI hO hb4 hp hg hne);have hB2z:=(AA hB2).size;have hz4:=(AA C4).lt;have hz5:=(AA C5).lt;have hz6':=(AA C6).lt;clear e1 hbx DI hO hb4 hg hne hOJ hb3 x0 x1 x2 x3 x4 x5 x6 y0 y1 y2 y3 y4 y5 y6;go_wp2_with fail;go_loopw[7] (fun i wr=>∃P g cap,P<=n2/\i=.int .i64 (P:Nat)/\Hid (Es w2 (w3.heap.size+1) false ash' n1 csh' sh f P wr g cap)) (fun i _=>n2- (intOf i).toNat);case atStart=>exact⟨0,g0,0,AS _,rfl,hst0⟩
   case round=>
    obtain⟨P,g,cap,hP,rfl,hst⟩:=hrel;clear hst0;have hA:Ai wr w.heap.size c (.slice (some a1) n1 c1) (.slice (some a2) n2 c2):=(AA C4).low hz4 (AA hst).low;have hBb:Ai wr (w.heap.size+1) d (.slice (some b1) m1 d1) (.slice (some b2) m2 d2):=(AA C5).low hz5 (AA hst).low;have HWy:=AD ((AA hB2).trans ((AA hst).low.mono hB2z));by_cases hlt:P<n2
    .obtain⟨bd,od,hab,hblt,hc⟩:=(AA H2).get hlt;cases hab;have hc':=((AA HWy).cell (p:=⟨bd,od+P,none⟩) hblt).trans hc;obtain⟨x,hx⟩:∃x,x=dt.getD P 0:=⟨_,rfl⟩
     rw[<-hx]at hc';obtain⟨q,hq⟩:∃q:Nat,CM d dt' x c=q:=⟨_,rfl⟩
     obtain⟨r,hr⟩:∃r,decide (q<m2)=r:=⟨_,rfl⟩
     have HFP:Hid (f P=(Bh r,0)):=by show _=_;rw[AA HFK P,<-hx,hq,AA hl4,hr]
     have hst':=AA hst;have hwl:=(AA HWy).size;have hbdl:bd<wr.heap.size:=by omega
     have hgw:w2.heap.size<=g:=by
      rcases hst'.owns.2 with⟨hv,_⟩|⟨g',cp,cur,hv,hbg,_⟩
      .simp at hv
      .simp at hv;omega
     have HKK:Hid (∀wx,Below wr.heap.size wr wx->wx.cell? ⟨w3.heap.size+1,2,none⟩=some (.slice (some ⟨g,0,none⟩) P cap)/\wx.frozen? ⟨w3.heap.size+1,2,none⟩=false/\wx.cell? ⟨w.heap.size+1,0,none⟩=some (.bool d)/\wx.cell? ⟨w.heap.size+1,1,none⟩=some (.slice (some b1) m1 d1)/\wx.cell? ⟨w.heap.size+1,2,none⟩=some (.slice (some b2) m2 d2)/\wx.cell? ⟨w.heap.size,2,none⟩=some (.slice (some ⟨bd,od,none⟩) n2 c2)/\wx.cell? ⟨w.heap.size,0,none⟩=some (.bool c)/\wx.cell? ⟨bd,od+P,none⟩=some (.int .i64 x)):=fun wx hwx=>by obtain⟨b0,b1',b2',_⟩:=(hBb.below AC hwx).all;obtain⟨a0,_,a2',_⟩:=(hA.below AC hwx).all;exact⟨(hst'.box.below AC hwx).all.2.2.1,(hst'.box.below AC hwx).free _,b0,b1',b2',a2',a0,(hwx.cell (p:=⟨bd,od+P,none⟩) hbdl).trans hc'⟩
     have HCC:Hid (∀wx,Below wr.heap.size wr wx->Calls prog 193 #[.agg #[.bool d,.slice (some b1) m1 d1,.slice (some b2) m2 d2],.int .i64 x,.bool c] wx fun e w'=>e=.returned (.int .i64 (q:Nat))/\Below wx.heap.size wx w'):=fun wx hwx=>by rw[<-hq];exact Kw d c _ _ m2 _ dt' x wx (((AA K2).below AC (AA HWy)).below AC hwx)
     have HAA:Hid (∀wx w7,Below wr.heap.size wr wx->(wx.alloc (.cells #[.int .i64 (Bh r)] 3)).grownBy w7 (some g)->w7.cell? ⟨w3.heap.size+1,2,none⟩=some (.slice (some ⟨g,0,none⟩) P cap)/\w7.frozen? ⟨w3.heap.size+1,2,none⟩=false/\w7.cell? ⟨w.heap.size+1,0,none⟩=some (.bool d)/\w7.cell? ⟨w.heap.size+1,1,none⟩=some (.slice (some b1) m1 d1)/\w7.cell? ⟨w.heap.size+1,2,none⟩=some (.slice (some b2) m2 d2)/\w7.cell? ⟨w.heap.size,2,none⟩=some (.slice (some ⟨bd,od,none⟩) n2 c2)/\w7.cell? ⟨w.heap.size,0,none⟩=some (.bool c)/\w7.cell? ⟨bd,od+P,none⟩=some (.int .i64 x)):=fun wx w7 hwx hg=>by have ho:=BN hst'.owns AC hwx;have q1:=(hst'.box.below AC hwx).grown ho _ hg;have q2:=(hBb.below AC hwx).grown ho _ hg;have q3:=(hA.below AC hwx).grown ho _ hg;exact⟨q1.all.2.2.1,q1.free _,q2.all.1,q2.all.2.1,q2.all.2.2.1,q3.all.2.2.1,q3.all.1,(Wm _ hg (AZ hbdl hwx.size) (by omega)).trans ((hwx.cell (p:=⟨bd,od+P,none⟩) hbdl).trans hc')⟩
     have HR:=AD hr;have HST:=AD hst';have hbase:=hst'.low.size;clear hx hq hr hst' hc hc';obtain⟨y0,y1,y2,y3,y4,y5,y6⟩:=hA.all;go_upto_region 7 with fail;clear y0 y1 y2 y3 y4 y5 y6;refine YQ _ wr (by simp) (w3.heap.size+1) w.heap.size (w.heap.size+1) rfl rfl rfl c d (some b1) (some b2) g P cap bd od n2 c2 m1 d1 m2 d2 rfl ((Bg f P).map (Value.int .i64)) x w2.heap.size q r HR.out hlt (by omega) (fun wx=>wx.cell? ⟨w3.heap.size+1,2,none⟩=some (.slice (some ⟨g,0,none⟩) P cap)/\wx.frozen? ⟨w3.heap.size+1,2,none⟩=false/\wx.cell? ⟨w.heap.size+1,0,none⟩=some (.bool d)/\wx.cell? ⟨w.heap.size+1,1,none⟩=some (.slice (some b1) m1 d1)/\wx.cell? ⟨w.heap.size+1,2,none⟩=some (.slice (some b2) m2 d2)/\wx.cell? ⟨w.heap.size,2,none⟩=some (.slice (some ⟨bd,od,none⟩) n2 c2)/\wx.cell? ⟨w.heap.size,0,none⟩=some (.bool c)/\wx.cell? ⟨bd,od+P,none⟩=some (.int .i64 x)) (fun _ h=>h) HKK.out HCC.out HST.out.owns hbase HAA.out (fun _ _ _ _ _ h=>h) ?_;intro wx g' Ak w7 hbx hown7 An hat;simp only[Za,Act.put,List.setIfInBounds_toArray,List.set_cons_zero,List.set_cons_succ];obtain⟨hb7,hst7⟩:=(HST.out.below hbx).push _ HFP.out hown7 An hat;clear hb7 hown7 An hat hbx;go_wp2_with fail;go_roundw;case rel=>exact⟨P+1,g',Ak,by omega,by go_num,hst7⟩
     case measure=>simp[intOf];omega
    .have hPB:P=n2:=by omega
     subst hPB;have HS:Hid (Cz c d sh dt sh' dt'=⟨false,sh,Bg f P,0⟩):=(AA HGO).trans (DY (AA hst).code);obtain⟨ad',cd,hv,hD⟩:=Bt.of_owns (AA hst).owns (by omega);cases hv;obtain⟨y0,y1,y2,y3,y4,y5,y6⟩:=hA.all;obtain⟨z0,z1,z2,z3,z4,z5,z6⟩:=(AA hst).box.all;have G6:=AD ((AA C6).low hz6' (AA hst).low);obtain⟨q0,q1,q2,q3,q4,q5,q6⟩:=(AA G6).all;have HW6:=AD ((AA hB2).trans ((AA hst).low.mono hB2z));have HO6:=AD (AA hst).own;have HD:=AD hD;clear hst hD HGO HFK HWy hA hBb
     go_wp2
     refine bodyPost_ret (v:=.tuple #[.agg #[.bool false,.slice ash' n1 csh',.slice (some ⟨g,0,none⟩) P cap],.int .i64 0]) (by simp[results,results129,go_sem,q0,q1,q2]) rfl ?_;rw[AA HS];refine⟨ash',n1,csh',some ⟨g,0,none⟩,P,cap,rfl,?_,?_,(((AA HW6).setCell (by simp<;>omega) _).setCell (by simp<;>omega) _).setCell (by simp<;>omega) _⟩
     .exact(AA HO6).row.sets (AA G6) _ _ _
     .exact(AA HD).row.sets (AA G6) _ _ _
def Uz{c d:Bool}{sh dt sh' dt':List Int}{n2 m2:Nat}(l2:dt.length=n2)(l4:dt'.length=m2)(h1:AJ c sh dt=true)(h2:AJ d sh' dt'=true)(h:Am (sh++sh')=true):n2*m2<=10000:=by
 obtain⟨_,p1,_⟩:=AW h1;obtain⟨_,p2,_⟩:=AW h2;have hb:=(Ey _ h (sh++sh').length).2;rw[List.take_length,Bi,p1,p2,l2,l4]at hb;have e:((n2*m2:Nat):Int)<=10000:=by rw[Int.natCast_mul];exact hb
 omega
def QX{a:Int}(ha:0<a)(x:Int):0<=Bk a x/\Bk a x<a:=by
 unfold Bk;rw[AH (by omega)];have h1:=Int.tmod_lt_of_pos x ha;have h2: -a<x.tmod a:=Int.lt_tmod_of_pos x ha;split
 .rename_i h
  have h4:x.tmod a<0:=by
   by_cases h4:x.tmod a<0
   .exact h4
   .exfalso;apply h.2;rw[AK h4,AK (by omega)]
  omega
 .rename_i h
  have h4:¬ x.tmod a<0:=by intro h4;apply h;refine⟨by omega,?_⟩;rw[AL h4,AK (by omega)];simp
  omega
def TF(c d:Bool)(a1 a2 b1 b2:Addr)(n1 n2 m1 m2 c1 c2 d1 d2:Nat)(sh dt sh' dt':List Int)(w:World)(h1:AO w (some a1) n1 sh)(h2:AO w (some a2) n2 dt)(k1:AO w (some b1) m1 sh')(k2:AO w (some b2) m2 dt'):Calls prog 132 #[.agg #[.bool c,.slice (some a1) n1 c1,.slice (some a2) n2 c2],.agg #[.bool d,.slice (some b1) m1 d1,.slice (some b2) m2 d2]] w (CJ w (CW c d sh dt sh' dt')):=by
 have hl1:=AD h1.len;have hl2:=AD h2.len;have hl3:=AD k1.len;have hl4:=AD k2.len;have hs1:=h1.small;have hs2:=h2.small;have hs3:=k1.small;have hs4:=k2.small;have H1:=AD h1;have H2:=AD h2;have K1:=AD k1;have K2:=AD k2;clear h1 h2 k1 k2;obtain⟨r1,hr1⟩:∃r,AJ c sh dt=r:=⟨_,rfl⟩
 obtain⟨r2,hr2⟩:∃r,AJ d sh' dt'=r:=⟨_,rfl⟩
 have HR1:=AD hr1;have HR2:=AD hr2;clear hr1 hr2;go_enter func132,ntmps132;go_wp2_with fail;refine(A0 _ _ _ _ _ _ _ sh dt _ ((((AA H1).alloc _).alloc _).alloc _) ((((AA H2).alloc _).alloc _).alloc _) _ HR1).mono ?_;rintro e w1⟨rfl,hb1⟩;obtain⟨B4,B5,B6,hB1⟩:=Az hb1;have hz1:=B6.lt;clear hb1;obtain⟨x0,x1,x2,x3,x4,x5,x6⟩:=B4.all;obtain⟨y0,y1,y2,y3,y4,y5,y6⟩:=B5.all;cases r1 with
 |false=>
  have HS:Hid (CW c d sh dt sh' dt'=AT 3):=LB (AA HR1);go_wp2_with fail;refine(Aa _).mono ?_;rintro e w9⟨rfl,hb9⟩;obtain⟨q0,q1,q2,q3,q4,q5,q6⟩:=((B6).below AC hb9).all;have hB9:=AD ((hB1).trans (hb9.mono (hB1).size));clear hb9 hB1 B4 B5 B6 hz1 x0 x1 x2 x3 x4 x5 x6 y0 y1 y2 y3 y4 y5 y6
  go_wp2
  refine bodyPost_ret (v:=.tuple #[.agg #[.bool false,.slice none 0 0,.slice none 0 0],.int .i64 3]) (by simp[results,results132,go_sem,q0,q1,q2]) rfl ?_;rw[AA HS];exact⟨none,0,0,none,0,0,rfl,AP _ _,AP _ _,(((AA hB9).setCell (by simp<;>omega) _).setCell (by simp<;>omega) _).setCell (by simp<;>omega) _⟩
 |true=>
  go_wp2_with fail;refine(A0 _ _ _ _ _ _ _ sh' dt' _ ((AA K1).below AC hB1) ((AA K2).below AC hB1) _ HR2).mono ?_;rintro e w2⟨rfl,hb2⟩;have C4:=AD (B4.below AC hb2);have C5:=AD (B5.below AC hb2);have C6:=AD (B6.below AC hb2);have hB2:=AD (hB1.trans (hb2.mono hB1.size));clear hb2 hB1 B4 B5 B6 hz1 x0 x1 x2 x3 x4 x5 x6 y0 y1 y2 y3 y4 y5 y6 w1;cases r2 with
  |false=>
   have HS:Hid (CW c d sh dt sh' dt'=AT 3):=LA (AA HR2);go_wp2_with fail;refine(Aa _).mono ?_;rintro e w9⟨rfl,hb9⟩;obtain⟨q0,q1,q2,q3,q4,q5,q6⟩:=((AA C6).below AC hb9).all;have hB9:=AD ((AA hB2).trans (hb9.mono (AA hB2).size));clear hb9 C4 C5 C6 hB2
   go_wp2
   refine bodyPost_ret (v:=.tuple #[.agg #[.bool false,.slice none 0 0,.slice none 0 0],.int .i64 3]) (by simp[results,results132,go_sem,q0,q1,q2]) rfl ?_;rw[AA HS];exact⟨none,0,0,none,0,0,rfl,AP _ _,AP _ _,(((AA hB9).setCell (by simp<;>omega) _).setCell (by simp<;>omega) _).setCell (by simp<;>omega) _⟩
  |true=>
   obtain⟨x0,x1,x2,x3,x4,x5,x6⟩:=(AA C4).all;obtain⟨r,hr⟩:∃r,Ae c n1=r:=⟨_,rfl⟩
   have HLC:=AD hr;clear hr;go_wp2_with fail;refine(EX c _ _ _ _ _ hs1 r HLC).mono ?_;rintro e w3⟨rfl,hb3⟩;have D4:=AD ((AA C4).below AC hb3);have D5:=AD ((AA C5).below AC hb3);have D6:=AD ((AA C6).below AC hb3);have hB3:=AD ((AA hB2).trans (hb3.mono (AA hB2).size));clear hb3 hB2 C4 C5 C6 x0 x1 x2 x3 x4 x5 x6 w2;by_cases hcode:r=0
   .subst hcode;have HL0:Hid (Ae c sh.length=0):=by show _=_;rw[AA hl1];exact AA HLC
    obtain⟨x0,x1,x2,x3,x4,x5,x6⟩:=(AA D4).all;have HW3:=AD (AA hB3);go_wp2_with fail
    go_loop [7] (fun i=>∃k:Nat,k<=n2/\i=.int .i64 k/\Hid ((dt.take k).all BE=true)) (fun i=>n2- (intOf i).toNat)
    case atStart=>exact⟨0,AS _,rfl,rfl⟩
    case round=>
     obtain⟨k,hk,rfl,hall⟩:=hrel;by_cases hlt:k<n2
     .obtain⟨ba,oa,hab,hblt,hc⟩:=(AA H2).get hlt;cases hab;have hc':=((AA HW3).cell (p:=⟨ba,oa+k,none⟩) hblt).trans hc;have hks:Hid (k<dt.length):=by show k<dt.length;rw[AA hl2];exact hlt
      obtain⟨x,hx⟩:∃x,x=dt.getD k 0:=⟨_,rfl⟩
      rw[<-hx]at hc';have HX:=AD hx;clear hx hc;by_cases hneg:x<0
      .have HS:Hid (CW c d sh dt sh' dt'=AT 3):=Mu (AA HR1) (AA HR2) (AA HL0) (Fk dt BE k (AA hks) (by rw[<-AA HX];exact AK (by omega)));go_wp2_with fail;refine(Aa _).mono ?_;rintro e w9⟨rfl,hb9⟩;obtain⟨q0,q1,q2,q3,q4,q5,q6⟩:=((AA D6).below AC hb9).all;have hB9:=AD ((AA hB3).trans (hb9.mono (AA hB3).size));clear hb9 D4 D5 D6 hB3 HW3 x0 x1 x2 x3 x4 x5 x6 hc'
       go_wp2
       refine bodyPost_ret (v:=.tuple #[.agg #[.bool false,.slice none 0 0,.slice none 0 0],.int .i64 3]) (by simp[results,results132,go_sem,q0,q1,q2]) rfl ?_;rw[AA HS];exact⟨none,0,0,none,0,0,rfl,AP _ _,AP _ _,(((AA hB9).setCell (by simp<;>omega) _).setCell (by simp<;>omega) _).setCell (by simp<;>omega) _⟩
      .have HA:=AD (FX dt BE k (AA hks) (AA hall) (by rw[<-AA HX];exact AL (by omega)))
       go_wp2
       go_round
       case rel=>exact⟨k+1,by omega,by go_num,HA⟩
       case measure=>simp[intOf];omega
     .have HA:Hid (dt.all BE=true):=by
       have:=AA hall
       rwa [AV (by rw[AA hl2];omega)]at this
      clear hall x0 x1 x2 x3 x4 x5 x6 HW3;obtain⟨x0,x1,x2,x3,x4,x5,x6⟩:=(AA D4).all;obtain⟨y0,y1,y2,y3,y4,y5,y6⟩:=(AA D5).all;cases d with
      |true=>
       have HS:Hid (CW c true sh dt sh' dt'=AT 3):=K9 (AA HR1) (AA HR2) (AA HL0) (AA HA);go_wp2_with fail;refine(Aa _).mono ?_;rintro e w9⟨rfl,hb9⟩;obtain⟨q0,q1,q2,q3,q4,q5,q6⟩:=((AA D6).below AC hb9).all;have hB9:=AD ((AA hB3).trans (hb9.mono (AA hB3).size));clear hb9 D4 D5 D6 hB3 x0 x1 x2 x3 x4 x5 x6 y0 y1 y2 y3 y4 y5 y6
       go_wp2
       refine bodyPost_ret (v:=.tuple #[.agg #[.bool false,.slice none 0 0,.slice none 0 0],.int .i64 3]) (by simp[results,results132,go_sem,q0,q1,q2]) rfl ?_;rw[AA HS];exact⟨none,0,0,none,0,0,rfl,AP _ _,AP _ _,(((AA hB9).setCell (by simp<;>omega) _).setCell (by simp<;>omega) _).setCell (by simp<;>omega) _⟩
      |false=>
       have hz1:n1<=10000:=by have:=(AW (AA HR1)).2.2;rw[AA hl1]at this;omega
       have hz3:m1<=10000:=by have:=(AW (AA HR2)).2.2;rw[AA hl3]at this;omega
       obtain⟨sb,hsb⟩:∃r,Am (sh++sh')=r:=⟨_,rfl⟩
       have HSB:=AD hsb;clear hsb;go_wp2_with fail;refine(PI a1 b1 n1 m1 c1 d1 sh sh' _ ((AA H1).below AC (AA hB3)) ((AA K1).below AC (AA hB3)) hz1 hz3 sb HSB).mono ?_;rintro e w4⟨ash,csh,rfl,hO,hb4⟩;have HO:=AD hO;have E4:=AD ((AA D4).below AC hb4);have E5:=AD ((AA D5).below AC hb4);have E6:=AD ((AA D6).below AC hb4);have hB4:=AD ((AA hB3).trans (hb4.mono (AA hB3).size));have hz4:=(AA hB3).size;have hz3b:w.heap.size+2<w3.heap.size:=(AA D6).lt;clear hO hb4 hB3 D4 D5 D6 x0 x1 x2 x3 x4 x5 x6 y0 y1 y2 y3 y4 y5 y6;cases sb with
       |false=>
        have HS:Hid (CW c false sh dt sh' dt'=AT 7):=Mv (AA HR1) (AA HR2) (AA HL0) (AA HA) (AA HSB);go_wp2_with fail;refine(Aa _).mono ?_;rintro e w9⟨rfl,hb9⟩;obtain⟨q0,q1,q2,q3,q4,q5,q6⟩:=((AA E6).below AC hb9).all;have hB9:=AD ((AA hB4).trans (hb9.mono (AA hB4).size));clear hb9 E4 E5 E6 hB4 HO
        go_wp2
        refine bodyPost_ret (v:=.tuple #[.agg #[.bool false,.slice none 0 0,.slice none 0 0],.int .i64 7]) (by simp[results,results132,go_sem,q0,q1,q2]) rfl ?_;rw[AA HS];exact⟨none,0,0,none,0,0,rfl,AP _ _,AP _ _,(((AA hB9).setCell (by simp<;>omega) _).setCell (by simp<;>omega) _).setCell (by simp<;>omega) _⟩
       |true=>
        have HS:Hid (CW c false sh dt sh' dt'=⟨false,sh++sh',GT dt dt' m2,0⟩):=by rw[<-AA hl4];exact OY (AA HR1) (AA HR2) (AA HL0) (AA HA) (AA HSB)
        have hcnt:=Uz (AA hl2) (AA hl4) (AA HR1) (AA HR2) (AA HSB);obtain⟨T,hT⟩:∃T,T=n2*m2:=⟨_,rfl⟩
        rw[<-hT]at hcnt;have hTI:IntKind.i64.wrap ((n2:Int)*(m2:Int))=(T:Int):=by rw[<-Int.natCast_mul,<-hT,IntKind.wrap_i64];omega
        have hTM:(n2:Int)*(m2:Int)=(T:Int):=by rw[<-Int.natCast_mul,<-hT]
        have HT:=AD hT;clear hT;have hmk:=run_make_row' (P:=prog) 23 3 (.int .i64 0) 8 underlying23 A6 rfl .i64 .i64 T (by omega) (by omega);obtain⟨x0,x1,x2,x3,x4,x5,x6⟩:=(AA E4).all;obtain⟨y0,y1,y2,y3,y4,y5,y6⟩:=(AA E5).all;go_wp2_with fail;obtain⟨gs,hgs⟩:∃gs,gs=w4.heap.size:=⟨_,rfl⟩
        obtain⟨pb,hpb⟩:∃pb,pb=w4.heap.size+1:=⟨_,rfl⟩
        obtain⟨wz,hwz⟩:∃wz,wz=(w4.alloc (.cells (madeCells #[.int .i64 0] T) 3)).alloc (.cells #[.bool false,.slice ash (n1+m1) csh,.slice (some ⟨w4.heap.size,0,none⟩) T T] 25):=⟨_,rfl⟩
        have HZ4:Hid (Ai wz w.heap.size c (.slice (some a1) n1 c1) (.slice (some a2) n2 c2)):=by rw[hwz];exact((AA E4).alloc _).alloc _
        have HZ5:Hid (Ai wz (w.heap.size+1) false (.slice (some b1) m1 d1) (.slice (some b2) m2 d2)):=by rw[hwz];exact((AA E5).alloc _).alloc _
        have HZ6:Hid (Ai wz (w.heap.size+2) false (.slice none 0 0) (.slice none 0 0)):=by rw[hwz];exact((AA E6).alloc _).alloc _
        have HZP:Hid (Ai wz pb false (.slice ash (n1+m1) csh) (.slice (some ⟨gs,0,none⟩) T T)):=by rw[hwz,hpb,hgs];have:=Ai.new (w4.alloc (.cells (madeCells #[.int .i64 0] T) 3)) false (.slice ash (n1+m1) csh) (.slice (some ⟨w4.heap.size,0,none⟩) T T);rw[World.size_alloc]at this;exact this
        have HZO:=AD (show Bt wz w3.heap.size ash (n1+m1) (sh++sh') by rw[hwz];exact((AA HO).alloc _).alloc _);have HZG:Hid (BA wz gs (Ed dt dt' m2 0 0)):=by show BA wz gs _;rw[Qy,AA hl2,<-AA HT,hwz];exact(BA.made _ _ _ hgs).alloc _
        have HZB:Hid (Below w.heap.size w wz):=by rw[hwz];exact((AA hB4).alloc (AA hB4).size _).alloc (by have:=(AA hB4).size;simp;omega) _
        have hzp:pb<wz.heap.size:=HZP.out.lt;have hgp:gs<pb:=by omega
        have HW3Z:Hid (w.heap.size+2<w3.heap.size):=hz3b;have hwg:w.heap.size+2<gs:=by have:=(AA E6).lt;omega
        have HOL:Hid (∀x,At ash (n1+m1) x->x<gs):=fun x h=>by rw[hgs];exact(AA HO).row.hi h
        rw[<-hwz,<-hpb];rw[<-hgs]at*;clear hwz hpb hgs hmk E4 E5 E6 hB4 HO x0 x1 x2 x3 x4 x5 x6 y0 y1 y2 y3 y4 y5 y6 hz4;have HDB:Hid (∀q,q<n2->0<=dt.getD q 0/\dt.getD q 0<=1000000000000000):=fun q hq=>⟨OQ (AA HA) (by rw[AA hl2];exact hq),(Bl (AA HR1) (by rw[AA hl2];exact hq)).2⟩
        have HBB:Hid (∀q,q<m2→-1000000000000000<=dt'.getD q 0/\dt'.getD q 0<=1000000000000000):=fun q hq=>Bl (AA HR2) (by rw[AA hl4];exact hq);have HP2:Hid (∀q,At (some a2) n2 q->q<w.heap.size):=fun q h=>(AA H2).hi h;have HP4:Hid (∀q,At (some b2) m2 q->q<w.heap.size):=fun q h=>(AA K2).hi h;have H2Z:=AD ((AA H2).below AC (AA HZB));have K2Z:=AD ((AA K2).below AC (AA HZB));go_loopw[12] (fun i wr=>∃j:Nat,j<=m2/\i=.int .i64 (j:Nat)/\Hid (BA wr gs (Ed dt dt' m2 j 0))/\Hid (BS (fun x=>x=gs) wz wr)) (fun i _=>m2- (intOf i).toNat);case atStart=>exact⟨0,AS _,rfl,HZG,AD (BS.refl _ _)⟩
        case round=>
         obtain⟨j,hj,rfl,hb,hbut⟩:=hrel;have hzr:=hbut.out.size;obtain⟨x0,x1,x2,x3,x4,x5,x6⟩:=(show Ai wr w.heap.size c (.slice (some a1) n1 c1) (.slice (some a2) n2 c2)from(hbut.out.block _ (by omega) (by omega)).trans HZ4.out).all;obtain⟨y0,y1,y2,y3,y4,y5,y6⟩:=(show Ai wr (w.heap.size+1) false (.slice (some b1) m1 d1) (.slice (some b2) m2 d2)from(hbut.out.block _ (by omega) (by omega)).trans HZ5.out).all;obtain⟨z0,z1,z2,z3,z4,z5,z6⟩:=(show Ai wr pb false (.slice ash (n1+m1) csh) (.slice (some ⟨gs,0,none⟩) T T)from(hbut.out.block _ (by omega) (by omega)).trans HZP.out).all;by_cases hjm:j<m2
         .obtain⟨bb,ob,hbb,_,cb⟩:=(hbut.out.row K2Z.out (by rintro x rfl h;have:=HP4.out _ h;omega)).get hjm;cases hbb;obtain⟨b,hbv⟩:∃b,dt'.getD j 0=b:=⟨_,rfl⟩
          rw[hbv]at cb;have hbd: -1000000000000000<=b/\b<=1000000000000000:=by rw[<-hbv];exact HBB.out j hjm
          have HBV:=AD hbv;clear hbv;obtain⟨wo,hwo⟩:∃x,x=wr:=⟨_,rfl⟩
          subst hwo;go_wp2_with fail;go_loopw[13,14] (fun x i wr=>∃t:Nat,t<=n2/\i=.int .i64 ((n2:Int)- 1- (t:Nat))/\x=.int .i64 (Cm dt b t)/\Hid (BA wr gs (Ed dt dt' m2 j t))/\Hid (BS (fun x=>x=gs) wo wr)) (fun _ i _=>(intOf i+1).toNat);case atStart=>exact⟨0,AS _,by simp,rfl,hb,AD (BS.refl _ _)⟩
          case round=>
           obtain⟨t,ht,rfl,rfl,hb2,hbut2⟩:=hrel;have hzr2:=hbut2.out.size;have x2':=(hbut2.out.cellAt (b:=w.heap.size) (o:=2) (by omega) (by omega)).trans x2;have z2':=(hbut2.out.cellAt (b:=pb) (o:=2) (by omega) (by omega)).trans z2;have hbw:BS (fun x=>x=gs) wz wr:=(hbut.out.trans hbut2.out).mono (by rintro q(h|h)<;>exact h);have HBW:=AD hbw;by_cases htn:t<n2
           .obtain⟨i0,hi0⟩:∃i0:Nat,i0=n2- 1- t:=⟨_,rfl⟩
            have e1:(n2:Int)- 1- (t:Nat)=(i0:Nat):=by omega
            have hil:i0<n2:=by omega
            obtain⟨ba,oa,hba,_,ca⟩:=(hbw.row H2Z.out (by rintro q rfl h;have:=HP2.out _ h;omega)).get hil;cases hba;have hev:dt.length- 1- t=i0:=by rw[AA hl2];omega
            have hev2:dt.length- 1- i0=t:=by rw[AA hl2];omega
            obtain⟨a,hav⟩:∃a,dt.getD i0 0=a:=⟨_,rfl⟩
            obtain⟨x,hxv⟩:∃x,Cm dt b t=x:=⟨_,rfl⟩
            obtain⟨dg,hdv⟩:∃dg,Bk a x=dg:=⟨_,rfl⟩
            have hxb: -1000000000000000<=x/\x<=1000000000000000:=by rw[<-hxv];exact Gx (fun q hq=>(HDB.out q (by rw[<-AA hl2];exact hq)).1) hbd t (by rw[AA hl2];exact ht)
            have hab:0<=a/\a<=1000000000000000:=by rw[<-hav];exact HDB.out i0 hil
            have HDG:Hid (Cd dt (dt'.getD j 0) (dt.length- 1- t)=dg):=by show _=_;rw[hev];unfold Cd;rw[hev2,hav,HBV.out,hxv];exact hdv
            have hmod:=KN a x;rw[hdv]at hmod;obtain⟨P,hP⟩:∃P,P=i0*m2:=⟨_,rfl⟩
            obtain⟨Qp,hQ⟩:∃Qp,Qp=P+j:=⟨_,rfl⟩
            have hPl:Qp<T:=by rw[AA HT,hQ,hP];exact QJ hil hjm
            have hPi:(i0:Int)*(m2:Int)=(P:Int):=by rw[hP,Int.natCast_mul]
            have hwP:IntKind.i64.wrap ((i0:Int)*(m2:Int))=(P:Int):=by rw[hPi,IntKind.wrap_i64];omega
            have hwQ:IntKind.i64.wrap ((P:Int)+(j:Int))=(Qp:Int):=by rw[IntKind.wrap_i64];omega
            have hQi:(P:Int)+(j:Int)=(Qp:Int):=by omega
            have cg:=hb2.out.cell (i:=Qp) (by rw[Sd,AA hl2,<-AA HT];exact hPl);have cf:=hb2.out.free Qp;have HST:Hid (Ed dt dt' m2 j (t+1)=(Ed dt dt' m2 j t).set Qp dg):=by have h:=Qz dt dt' hjm (show t<dt.length by rw[AA hl2];exact htn);rw[HDG.out,hev,<-hP,<-hQ]at h;exact h.symm
            rw[hav]at ca;rw[e1,hxv];have HI:=AD hi0;have HXV:=AD hxv;have HAV:=AD hav;have HEV:=AD hev;have HDV:=AD hdv;have HBUT2:=AD hbut2.out;clear hi0 hev hev2 hav hxv hdv hP hQ e1 hbw cb x0 x1 x2 x3 x4 x5 x6 y0 y1 y2 y3 y4 y5 y6 z0 z1 z2 z3 z4 z5 z6;have ca2:(wr.setCell ⟨gs,Qp,none⟩ (.int .i64 dg)).cell? ⟨ba,oa+i0,none⟩=some (.int .i64 a):=(CE _ _ _ _ (by have:ba<w.heap.size:=HP2.out ba ⟨by omega,_,rfl,rfl⟩;simp<;>omega)).trans ca;have x22:(wr.setCell ⟨gs,Qp,none⟩ (.int .i64 dg)).cell? ⟨w.heap.size,2,none⟩=some (.slice (some ⟨ba,oa,none⟩) n2 c2):=(CE _ _ _ _ (by simp<;>omega)).trans x2';by_cases ha0:a=0
            .have HNL:Hid (Cm dt b (t+1)=0):=by show(if dt.getD (dt.length- 1- t) 0=0 then 0 else _)=_;rw[HEV.out,HAV.out,AI ha0]
             subst ha0;clear hab;go_wp2_with(go_at_call 196;refine(hmod _ (by omega) (by omega)).mono ?_;rintro e w8⟨rfl,hw8⟩;obtain rfl:=hw8.symm);go_roundw;case rel=>
              refine⟨t+1,by omega,by rw[HI.out];go_num,by rw[HNL.out],?_,AD (HBUT2.out.setCell (p:=⟨gs,Qp,none⟩) rfl _)⟩;show BA _ _ _;rw[HST.out];exact hb2.out.set Qp dg
             case measure=>simp[intOf]
            .have hpos:0<a:=by omega
             have hdl:=M1 (x:=x) hpos;rw[HDV.out]at hdl;have HNL:Hid (Cm dt b (t+1)=x / a):=by show(if dt.getD (dt.length- 1- t) 0=0 then 0 else Cm dt b t / dt.getD (dt.length- 1- t) 0)=_;rw[HEV.out,HAV.out,AH ha0,HXV.out]
             have hnb: -1000000000000000<=x / a/\x / a<=1000000000000000:=by rw[<-HNL.out];exact Gx (fun q hq=>(HDB.out q (by rw[<-AA hl2];exact hq)).1) hbd (t+1) (by rw[AA hl2];exact htn)
             obtain⟨y,hy⟩:∃y,x / a=y:=⟨_,rfl⟩
             rw[hy]at hdl hnb HNL;have hdgb:0<=dg/\dg<a:=by have h:=HDV.out;have hm:=QX hpos x;rw[h]at hm;exact hm
             have hws:IntKind.i64.wrap (x- dg)=x- dg:=by rw[IntKind.wrap_i64];omega
             have hwy:IntKind.i64.wrap y=y:=by rw[IntKind.wrap_i64];omega
             have hq:(a==0)=false:=by simp[ha0]
             clear hy;go_wp2_with(go_at_call 196;refine(hmod _ (by omega) (by omega)).mono ?_;rintro e w8⟨rfl,hw8⟩;obtain rfl:=hw8.symm);go_roundw;case rel=>
              refine⟨t+1,by omega,by rw[HI.out];go_num,by rw[HNL.out],?_,AD (HBUT2.out.setCell (p:=⟨gs,Qp,none⟩) rfl _)⟩;show BA _ _ _;rw[HST.out];exact hb2.out.set Qp dg
             case measure=>simp[intOf]
           .obtain rfl:t=n2:=by omega
            have e1:(t:Int)- 1- (t:Nat)= -1:=by omega
            rw[e1];have HCOL:Hid (BA wr gs (Ed dt dt' m2 (j+1) 0)):=by have h:=hb2.out;rw[<-AA hl2,Se]at h;exact h
            obtain⟨xl,hxl⟩:∃xl,Cm dt b t=xl:=⟨_,rfl⟩
            rw[hxl];clear hxl e1;go_wp2_with fail;go_roundw;case rel=>exact⟨j+1,by omega,by go_num,HCOL,HBW⟩
            case measure=>simp[intOf];omega
         .obtain rfl:j=m2:=by omega
          have HROW:Hid (AO wr ash (n1+m1) (sh++sh')):=hbut.out.row HZO.out.row (by rintro q rfl h;have:=HOL.out _ h;omega);have HB6:Hid (Ai wr (w.heap.size+2) false (.slice none 0 0) (.slice none 0 0)):=(hbut.out.block _ (by omega) (by omega)).trans HZ6.out;have HBL:Hid (Below w.heap.size w wr):=HZB.out.trans (hbut.out.below (by omega) (by rintro q rfl;omega));obtain⟨q0,q1,q2,q3,q4,q5,q6⟩:=HB6.out.all;have HDT:Hid (BA wr gs (GT dt dt' j)):=by have h:=hb.out;rw[Sf]at h;exact h
          go_wp2_with fail;have hx:=HB6.out.sets (c':=false) (u1:=.slice ash (n1+m1) csh) (u2:=.slice (some ⟨gs,0,none⟩) T T);obtain⟨r0,r1,r2,_,_,_⟩:=hx.all;refine bodyPost_ret (v:=.tuple #[.agg #[.bool false,.slice ash (n1+m1) csh,.slice (some ⟨gs,0,none⟩) T T],.int .i64 0]) (by simp[results,results132,go_sem,r0,r1,r2]) rfl ?_;rw[AA HS];have hbx:BS (fun q=>q=w.heap.size+2) wr (((wr.setCell ⟨w.heap.size+2,0,none⟩ (.bool false)).setCell ⟨w.heap.size+2,1,none⟩ (.slice ash (n1+m1) csh)).setCell ⟨w.heap.size+2,2,none⟩ (.slice (some ⟨gs,0,none⟩) T T)):=(((BS.refl (fun q=>q=w.heap.size+2) wr).setCell (p:=⟨w.heap.size+2,0,none⟩) rfl _).setCell (p:=⟨w.heap.size+2,1,none⟩) rfl _).setCell (p:=⟨w.heap.size+2,2,none⟩) rfl _;refine⟨ash,n1+m1,csh,some ⟨gs,0,none⟩,T,T,rfl,hbx.row HROW.out ?_,hbx.row (HDT.out.row ?_ (by omega)) ?_,HBL.out.trans (hbx.below (by omega) (by rintro q rfl;omega))⟩
          .rintro q rfl h;have:=HZO.out.low h;have:=HW3Z.out;omega
          .simp[GT,AA hl2,<-AA HT]
          .rintro q rfl h;have:=DT h;omega
   .have HS:Hid (CW c d sh dt sh' dt'=AT r):=K8 (AA HR1) (AA HR2) r (by rw[AA hl1];exact AA HLC) hcode;have hq:(r !=0)=true:=by simp[hcode]
    clear hcode;go_wp2_with fail;refine(Aa _).mono ?_;rintro e w9⟨rfl,hb9⟩;obtain⟨q0,q1,q2,q3,q4,q5,q6⟩:=((AA D6).below AC hb9).all;have hB9:=AD ((AA hB3).trans (hb9.mono (AA hB3).size));clear hb9 D4 D5 D6 hB3
    go_wp2
    refine bodyPost_ret (v:=.tuple #[.agg #[.bool false,.slice none 0 0,.slice none 0 0],.int .i64 r]) (by simp[results,results132,go_sem,q0,q1,q2]) rfl ?_;rw[AA HS];exact⟨none,0,0,none,0,0,rfl,AP _ _,AP _ _,(((AA hB9).setCell (by simp<;>omega) _).setCell (by simp<;>omega) _).setCell (by simp<;>omega) _⟩
def VP(w:World)(f:Nat)(args:Array Value)(X:Ic):Prop:=∀W,Below w.heap.size w W->Calls prog f args W (CJ W X)
def DU(op:Int)(c d:Bool)(a1 a2 b1 b2:Addr)(n1 n2 m1 m2 c1 c2 d1 d2:Nat)(sh dt sh' dt':List Int)(w:World)(h1:AO w (some a1) n1 sh)(h2:AO w (some a2) n2 dt)(k1:AO w (some b1) m1 sh')(k2:AO w (some b2) m2 dt')(hok:AJ c sh dt=true)(hok':AJ d sh' dt'=true)(rc:Bool)(rsh rdt:List Int)(rp:Int)(hm:By op c d sh dt sh' dt'=⟨rc,rsh,rdt,rp⟩)(hcl:(op=18/\VP w 123 #[.agg #[.bool c,.slice (some a1) n1 c1,.slice (some a2) n2 c2],.agg #[.bool d,.slice (some b1) m1 d1,.slice (some b2) m2 d2]] ⟨rc,rsh,rdt,rp⟩)\/(op=19/\VP w 124 #[.agg #[.bool c,.slice (some a1) n1 c1,.slice (some a2) n2 c2],.agg #[.bool d,.slice (some b1) m1 d1,.slice (some b2) m2 d2]] ⟨rc,rsh,rdt,rp⟩)\/(op=20/\VP w 125 #[.agg #[.bool c,.slice (some a1) n1 c1,.slice (some a2) n2 c2],.agg #[.bool d,.slice (some b1) m1 d1,.slice (some b2) m2 d2]] ⟨rc,rsh,rdt,rp⟩)\/(op=21/\VP w 126 #[.agg #[.bool c,.slice (some a1) n1 c1,.slice (some a2) n2 c2],.agg #[.bool d,.slice (some b1) m1 d1,.slice (some b2) m2 d2],.bool false] ⟨rc,rsh,rdt,rp⟩)\/(op=22/\VP w 126 #[.agg #[.bool c,.slice (some a1) n1 c1,.slice (some a2) n2 c2],.agg #[.bool d,.slice (some b1) m1 d1,.slice (some b2) m2 d2],.bool true] ⟨rc,rsh,rdt,rp⟩)\/(op=23/\VP w 14 #[.agg #[.bool c,.slice (some a1) n1 c1,.slice (some a2) n2 c2],.agg #[.bool d,.slice (some b1) m1 d1,.slice (some b2) m2 d2]] ⟨rc,rsh,rdt,rp⟩)\/(op=24/\VP w 127 #[.agg #[.bool c,.slice (some a1) n1 c1,.slice (some a2) n2 c2],.agg #[.bool d,.slice (some b1) m1 d1,.slice (some b2) m2 d2]] ⟨rc,rsh,rdt,rp⟩)\/(op=25/\VP w 128 #[.agg #[.bool c,.slice (some a1) n1 c1,.slice (some a2) n2 c2],.agg #[.bool d,.slice (some b1) m1 d1,.slice (some b2) m2 d2]] ⟨rc,rsh,rdt,rp⟩)\/(op=28/\VP w 129 #[.agg #[.bool c,.slice (some a1) n1 c1,.slice (some a2) n2 c2],.agg #[.bool d,.slice (some b1) m1 d1,.slice (some b2) m2 d2]] ⟨rc,rsh,rdt,rp⟩)\/(op=29/\VP w 130 #[.agg #[.bool c,.slice (some a1) n1 c1,.slice (some a2) n2 c2],.agg #[.bool d,.slice (some b1) m1 d1,.slice (some b2) m2 d2],.bool false] ⟨rc,rsh,rdt,rp⟩)\/(op=30/\VP w 130 #[.agg #[.bool c,.slice (some a1) n1 c1,.slice (some a2) n2 c2],.agg #[.bool d,.slice (some b1) m1 d1,.slice (some b2) m2 d2],.bool true] ⟨rc,rsh,rdt,rp⟩)\/(op=31/\VP w 131 #[.agg #[.bool c,.slice (some a1) n1 c1,.slice (some a2) n2 c2],.agg #[.bool d,.slice (some b1) m1 d1,.slice (some b2) m2 d2]] ⟨rc,rsh,rdt,rp⟩)\/(op=32/\VP w 132 #[.agg #[.bool c,.slice (some a1) n1 c1,.slice (some a2) n2 c2],.agg #[.bool d,.slice (some b1) m1 d1,.slice (some b2) m2 d2]] ⟨rc,rsh,rdt,rp⟩)):Calls prog 42 #[.int .i64 op,.agg #[.bool c,.slice (some a1) n1 c1,.slice (some a2) n2 c2],.agg #[.bool d,.slice (some b1) m1 d1,.slice (some b2) m2 d2]] w (CJ w (By op c d sh dt sh' dt')):=by
 have HS:=AD hm;have H1:=AD h1;have H2:=AD h2;have J1:=AD k1;have J2:=AD k2;have HR:Hid (AJ c sh dt=true):=hok;have HR':Hid (AJ d sh' dt'=true):=hok';clear hm h1 h2 k1 k2 hok hok';obtain⟨W0,hW0⟩:∃W0,W0=((w.alloc (.cells #[.bool c,.slice (some a1) n1 c1,.slice (some a2) n2 c2] 25)).alloc (.cells #[.bool d,.slice (some b1) m1 d1,.slice (some b2) m2 d2] 25)).alloc (.cells #[.bool false,.slice none 0 0,.slice none 0 0] 25):=⟨_,rfl⟩
 obtain⟨B4,B5,B6,hB0⟩:=Az (w:=w) (c:=c) (v1:=.slice (some a1) n1 c1) (v2:=.slice (some a2) n2 c2) (d:=d) (u1:=.slice (some b1) m1 d1) (u2:=.slice (some b2) m2 d2) AG;rw[<-hW0]at B4 B5 B6 hB0;have D4:=AD B4;have D5:=AD B5;have D6:=AD B6;have HB0:=AD hB0;obtain⟨x0,x1,x2,x3,x4,x5,x6⟩:=B4.all;obtain⟨y0,y1,y2,y3,y4,y5,y6⟩:=B5.all;have hz6:=(AA D6).lt;have hca:=A0 c (some a1) (some a2) n1 n2 c1 c2 sh dt W0 ((AA H1).below AC hB0) ((AA H2).below AC hB0) true HR;rw[hW0]at hca x0 x1 x2 x3 x4 x5 x6 y0 y1 y2 y3 y4 y5 y6;clear B4 B5 B6 hB0;rcases hcl with⟨rfl,hcl⟩|⟨rfl,hcl⟩|⟨rfl,hcl⟩|⟨rfl,hcl⟩|⟨rfl,hcl⟩|⟨rfl,hcl⟩|⟨rfl,hcl⟩|⟨rfl,hcl⟩|⟨rfl,hcl⟩|⟨rfl,hcl⟩|⟨rfl,hcl⟩|⟨rfl,hcl⟩|⟨rfl,hcl⟩;all_goals as_aux_lemma=>
  go_enter func42,ntmps42;go_wp2_with(first|(have hz:=HB2;go_at_call_of 10 (Value.slice (some b1) m1 d1);refine(A0 d (some b1) (some b2) m1 m2 d1 d2 sh' dt' _ ((AA J1).below AC (AA HBa)) ((AA J2).below AC (AA HBa)) true HR').mono ?_;rintro e w3⟨rfl,hb3⟩;have HB3:=AD ((AA HB2).trans (hb3.mono (AA HB2).size));have E4:=AD ((AA D4).below AC (AA HB3));have E5:=AD ((AA D5).below AC (AA HB3));have E6:=AD ((AA D6).below AC (AA HB3));have HB:=AD ((AA HB0).trans ((AA HB3).mono (AA HB0).size));clear x0 x1 x2 x3 x4 x5 x6 y0 y1 y2 y3 y4 y5 y6;obtain⟨x0,x1,x2,x3,x4,x5,x6⟩:=(AA E4).all;obtain⟨y0,y1,y2,y3,y4,y5,y6⟩:=(AA E5).all;clear hb3 hz D4 D5 D6 HB0 HB2 HB3 C5 HBa hca hW0;have hz6:=(AA E6).lt)|(go_at_call_of 10 (Value.slice (some a1) n1 c1);refine hca.mono ?_;rintro e w2⟨rfl,hb2⟩;rw[<-hW0]at hb2;have HB2:=AD hb2;have C5:=AD ((AA D5).below AC hb2);have HBa:=AD ((AA HB0).trans (hb2.mono (AA HB0).size));clear y0 y1 y2 y3 y4 y5 y6;obtain⟨y0,y1,y2,y3,y4,y5,y6⟩:=(AA C5).all;clear hb2)|(have hz:=HB;(first|go_at_call 123|go_at_call 124|go_at_call 125|go_at_call 126|go_at_call 14|go_at_call 127|go_at_call 128|go_at_call 129|go_at_call 130|go_at_call 131|go_at_call 132);refine(hcl _ (AA HB)).mono ?_;rintro e w4⟨e1,k1,f1,e2,k2,f2,rfl,r1,r2,hb4⟩;have R1:=AD r1;have R2:=AD r2;have HX:=AD ((AA E6).below AC hb4);have HBX:=AD ((AA HB).trans (hb4.mono (AA HB).size));simp only;obtain⟨q0,q1,q2,q3,q4,q5,q6⟩:=(AA HX).all;clear r1 r2 hb4 hz));have hx:=(AA HX).sets (c':=rc) (u1:=.slice e1 k1 f1) (u2:=.slice e2 k2 f2);obtain⟨s0,s1,s2,_,_,_⟩:=hx.all;refine bodyPost_ret (v:=.tuple #[.agg #[.bool rc,.slice e1 k1 f1,.slice e2 k2 f2],.int .i64 rp]) (by simp[results,results42,go_sem,s0,s1,s2]) rfl ?_;rw[AA HS];exact⟨_,_,_,_,_,_,rfl,(AA R1).sets (AA HX) _ _ _,(AA R2).sets (AA HX) _ _ _,(((AA HBX).setCell (by simp<;>omega) _).setCell (by simp<;>omega) _).setCell (by simp<;>omega) _⟩
