import Derived.Test.YtgjpchnkodnieaaGreatDoorZ18
import Derived.Test.YtgjpchnkodnieaaGreatDoorZ16
import Derived.Test.YtgjpchnkodnieaaGreatDoorZ07
set_option maxRecDepth 20000
set_option maxHeartbeats 8000000
set_option linter.defProp false
namespace Go.Proofs.YtgjpchnkodnieaaGreatDoor
open Go.RowKit Tryz
def Dm(w:World)(r:Ic)(e:Ending)(w':World):Prop:=∃b1 m1 d1 b2 m2 d2,e=.returned (.tuple #[.agg #[.bool r.c,.slice b1 m1 d1,.slice b2 m2 d2],.int .i64 r.code])/\Bt w' w.heap.size b1 m1 r.sh/\Bt w' w.heap.size b2 m2 r.dt/\Ip b1 m1 b2 m2/\Below w.heap.size w w'/\(m1<=d1/\m2<=d2/\(r.code=0->∃ad,b2=some ad))
def Gf{w w':World}{code:Int}(hc:code≠0)(h:Below w.heap.size w w'):Dm w (AT code) (.returned (.tuple #[.agg #[.bool false,.slice none 0 0,.slice none 0 0],.int .i64 code])) w':=⟨none,0,0,none,0,0,rfl,Hv _ _ _,Hv _ _ _,fun _ h=>absurd rfl h.1,h,AC,AC,fun e=>absurd e hc⟩
def I3.setC{w W:World}{d:Bool}{zs ys:List Int}{n N box gd csh:Nat}{ash:Option Addr}{v1 v2:Value}{c:Bool}(hb:Ai W box c v1 v2)(hO:Bt W w.heap.size ash n zs)(hg:w.heap.size<=gd)(hB:BA W gd ys)(hne:¬ At ash n gd)(hbl:Below w.heap.size w W)(hb1:¬ At ash n box)(hb2:gd≠box)(hw:w.heap.size<=box)(hc:n<=csh):∃ash' csh' gd',Ai (((W.setCell ⟨box,0,none⟩ (.bool d)).setCell ⟨box,1,none⟩ (.slice ash n csh)).setCell ⟨box,2,none⟩ (.slice (some ⟨gd,0,none⟩) N N)) box d (.slice ash' n csh') (.slice (some ⟨gd',0,none⟩) N N)/\Bt (((W.setCell ⟨box,0,none⟩ (.bool d)).setCell ⟨box,1,none⟩ (.slice ash n csh)).setCell ⟨box,2,none⟩ (.slice (some ⟨gd,0,none⟩) N N)) w.heap.size ash' n zs/\w.heap.size<=gd'/\BA (((W.setCell ⟨box,0,none⟩ (.bool d)).setCell ⟨box,1,none⟩ (.slice ash n csh)).setCell ⟨box,2,none⟩ (.slice (some ⟨gd,0,none⟩) N N)) gd' ys/\¬ At ash' n gd'/\Below w.heap.size w (((W.setCell ⟨box,0,none⟩ (.bool d)).setCell ⟨box,1,none⟩ (.slice ash n csh)).setCell ⟨box,2,none⟩ (.slice (some ⟨gd,0,none⟩) N N))/\n<=csh':=by have hk:∀k,At ash n k->k≠box:=fun k hk e=>hb1 (e▸hk);exact⟨ash,csh,gd,hb.sets,((hO.other (q:=⟨box,0,none⟩) hk _).other (q:=⟨box,1,none⟩) hk _).other (q:=⟨box,2,none⟩) hk _,hg,((hB.other (p:=⟨box,0,none⟩) hb2 _).other (p:=⟨box,1,none⟩) hb2 _).other (p:=⟨box,2,none⟩) hb2 _,hne,((hbl.setCell (p:=⟨box,0,none⟩) hw _).setCell (p:=⟨box,1,none⟩) hw _).setCell (p:=⟨box,2,none⟩) hw _,hc⟩
def Tv{w wx:World}{d:Bool}{zs ys:List Int}{n N gd csh:Nat}{ash:Option Addr}(hl:ys.length=N)(hN:N<=17592186044416)(hO:Bt wx w.heap.size ash n zs)(hg:w.heap.size<=gd)(hB:BA wx gd ys)(hne:¬ At ash n gd)(hbl:Below w.heap.size w wx)(hc:n<=csh):Dm w ⟨d,zs,ys,0⟩ (.returned (.tuple #[.agg #[.bool d,.slice ash n csh,.slice (some ⟨gd,0,none⟩) N N],.int .i64 0])) wx:=⟨ash,n,csh,some ⟨gd,0,none⟩,N,N,rfl,hO,hB.own hl hN hg,fun k h1 h2=>by have:=DT h2;subst this;exact hne h1,hbl,hc,AC,fun _=>⟨_,rfl⟩⟩
def PG(c:Bool)(v1:Value)(a2:Option Addr)(n2 c2:Nat)(w:World)(hs:n2<=17592186044416)(r:Int)(hr:Hid (CQ c n2=r)):Calls prog 154 #[.agg #[.bool c,v1,.slice a2 n2 c2]] w fun e w'=>e=.returned (.int .i64 r)/\Below w.heap.size w w':=by
 rw[<-hr.out];have hW:∀o,Below w.heap.size w (w.alloc o):=fun o=>AG.alloc AC _;by_cases h:n2=1
 .subst h;cases c
  .go_enter func154,ntmps154
   go_wp2
   go_ret;exact⟨rfl,hW _⟩
  .go_enter func154,ntmps154
   go_wp2
   go_ret;exact⟨rfl,hW _⟩
 .have g0:((n2:Int) !=1)=true:=by simp;omega
  have HE:Hid (CQ c n2=5):=by show _=_;unfold CQ;rw[AI h]
  go_enter func154,ntmps154
  go_wp2
  go_ret;exact⟨BM HE.out.symm,hW _⟩
def EX(c:Bool)(a1:Option Addr)(n1 c1:Nat)(v2:Value)(w:World)(hs:n1<=17592186044416)(r:Int)(hr:Hid (Ae c n1=r)):Calls prog 54 #[.agg #[.bool c,.slice a1 n1 c1,v2]] w fun e w'=>e=.returned (.int .i64 r)/\Below w.heap.size w w':=by
 rw[<-hr.out];have hW:∀o,Below w.heap.size w (w.alloc o):=fun o=>AG.alloc AC _;by_cases h:1<n1
 .have HE:Hid (Ae c n1=4):=by show _=_;unfold Ae;rw[AI h]
  go_enter func54,ntmps54
  go_wp2
  go_ret;exact⟨BM HE.out.symm,hW _⟩
 .cases c
  .have HE:Hid (Ae false n1=0):=by show _=_;unfold Ae;rw[AH h];rfl
   go_enter func54,ntmps54
   go_wp2
   go_ret;exact⟨BM HE.out.symm,hW _⟩
  .have HE:Hid (Ae true n1=3):=by show _=_;unfold Ae;rw[AH h];rfl
   go_enter func54,ntmps54
   go_wp2
   go_ret;exact⟨BM HE.out.symm,hW _⟩
def Ix(c:Bool)(w:World):Calls prog 74 #[.bool c] w fun e w'=>e=.returned (.int .i64 (Ec c))/\w'=w:=by
 cases c;all_goals
  go_enter func74,ntmps74
  go_wp2
  go_ret;exact⟨rfl,rfl⟩
def Ih(b off n cap:Nat)(sh:List Int)(first:Bool)(w:World)(h:AO w (some ⟨b,off,none⟩) n sh)(hn:0<n)(hcap:n<=cap):Calls prog 105 #[.slice (some ⟨b,off,none⟩) n cap,.bool first] w fun e w'=>∃a' Ak,e=.returned (.slice a' (n- 1) Ak)/\Bt w' w.heap.size a' (n- 1) (Cx sh first)/\Below w.heap.size w w':=by
 have H:=AD h;have Bq:=AD h.len;have hsm:=h.small;clear h;have hz:∀(ad:Addr),n- 1=0->AO w (some ad) (n- 1) (sh.drop 1):=fun ad h0=>by rw[h0];exact⟨by rw[Gj,AA Bq];exact h0,by omega,.inl rfl⟩
 cases first with
 |true=>
  go_enter func105,ntmps105;go_wp2_with fail;all_goals
   refine(D3 _ _ _ (sh.drop 1) _ (by first|exact Vh (AA H) hn|exact hz _ (by omega))).mono ?_;rintro e w1⟨a',Ak,rfl,hO,hb⟩
   go_wp2
   go_ret;exact⟨a',Ak,rfl,hO,hb⟩
 |false=>
  have HE:Hid (Cx sh false=sh.take (n- 1)):=by show _=_;unfold Cx;rw[AA Bq];rfl
  have hn1:(n:Int)- 1=((n- 1:Nat):Int):=by omega
  go_enter func105,ntmps105;go_wp2_with fail;all_goals
   refine(D3 _ _ _ (sh.take (n- 1)) _ (by first|exact P3 (AA H) (Nat.sub_le _ _))).mono ?_;rintro e w1⟨a',Ak,rfl,hO,hb⟩
   go_wp2
   go_ret;exact⟨a',Ak,rfl,by rw[AA HE];exact hO,hb⟩
def H6(b off n cap:Nat)(sh:List Int)(w:World)(h:AO w (some ⟨b,off,none⟩) n sh)(hn:0<n)(hcap:n<=cap):Calls prog 105 #[.slice (some ⟨b,off,none⟩) n cap,.bool false] w fun e w'=>∃a' Ak,e=.returned (.slice a' (n- 1) Ak)/\w'.ownsRow w.heap.size 3 1 (.slice a' (n- 1) Ak) (n- 1) ((Cx sh false).map (Value.int .i64))/\Below w.heap.size w w':=by
 have H:=AD h;have Bq:=AD h.len;have hsm:=h.small;clear h;have HE:Hid (Cx sh false=sh.take (n- 1)):=by show _=_;unfold Cx;rw[AA Bq];rfl
 have hn1:(n:Int)- 1=((n- 1:Nat):Int):=by omega
 go_enter func105,ntmps105;go_wp2_with fail;all_goals
  refine(FT _ _ _ (sh.take (n- 1)) _ (by first|exact P3 (AA H) (Nat.sub_le _ _))).mono ?_;rintro e w1⟨a',Ak,rfl,hO,hb⟩
  go_wp2
  go_ret;exact⟨a',Ak,rfl,by rw[AA HE];exact hO,hb⟩
def Qf(a1 a2:Option Addr)(n c1 c2 m:Nat)(sh ix:List Int)(w:World)(h1:AO w a1 n sh)(h2:AO w a2 m ix)(hm:n<=m)(hs:Aq sh)(hi:GC sh ix):Calls prog 56 #[.slice a1 n c1,.slice a2 m c2] w fun e w'=>e=.returned (.int .i64 (place sh ix))/\Below w.heap.size w w':=by
 have hl:=AD h1.len;have hsm:=h1.small;have hsm2:=h2.small;have H1:=AD h1;have H2:=AD h2;have HS:=AD hs;have HI:=AD hi;clear h1 h2 hs hi;go_enter func56,ntmps56
 go_wp2
 go_loopw[5,6] (fun p i wr=>∃k:Nat,k<=n/\i=.int .i64 k/\p=.int .i64 (BO sh ix k)/\Hid (Below w.heap.size w wr)) (fun _ i _=>n- (intOf i).toNat);case atStart=>exact⟨0,AS _,rfl,rfl,AG⟩
 case round=>
  obtain⟨k,hk,rfl,rfl,hb⟩:=hrel;by_cases hlt:k<n
  .obtain⟨b,off,rfl,hblt,hc⟩:=(AA H1).get hlt;obtain⟨b',aq,rfl,hblt',hc'⟩:=(AA H2).get (by omega:k<m);have hcx:=((AA hb).cell (p:=⟨b,off+k,none⟩) hblt).trans hc;have hcy:=((AA hb).cell (p:=⟨b',aq+k,none⟩) hblt').trans hc';have hlm:k<m:=by omega
   have hsc:=(AA HS).cell k;have hic:=AA HI k (by rw[AA hl];exact hlt);have hpn:=GY (AA HI) k (by rw[AA hl];omega);have hpb:=((AA HS).take k).bd;obtain⟨P,hP⟩:∃P,P=BO sh ix k:=⟨_,rfl⟩
   obtain⟨s,hse⟩:∃s,s=sh.getD k 0:=⟨_,rfl⟩
   obtain⟨i,hie⟩:∃i,i=ix.getD k 0:=⟨_,rfl⟩
   rw[<-hP]at hpn ⊢;rw[<-hse]at hsc hic hcx;rw[<-hie]at hic hcy;have hq0:0<=P*s:=Int.mul_nonneg hpn.1 hsc.1;have hq1:P*s<=10000*10000:=Int.mul_le_mul (by omega) hsc.2 hsc.1 (by omega);have HN:Hid (BO sh ix (k+1)=P*s+i):=by rw[hP,hse,hie];rfl
   obtain⟨z,hz⟩:∃z,z=P*s:=⟨_,rfl⟩
   rw[<-hz]at hq0 hq1;have HZ:=AD hz;have hw1:IntKind.i64.wrap (P*s)=z:=by rw[IntKind.wrap_i64,<-hz];omega
   have hw2:IntKind.i64.wrap (z+i)=z+i:=by rw[IntKind.wrap_i64];omega
   clear hP hse hie hz hpn hpb hc hc';go_wp2_with fail;go_quiet(fail);go_wp2_with fail;go_roundw;case rel=>exact⟨k+1,by omega,by go_num,by rw[AA HN,<-AA HZ],Below.drewN (AA hb) nq⟩
   case measure=>simp[intOf];omega
  .have hkn:k=n:=by omega
   subst hkn
   go_wp2
   go_ret;refine⟨BM ?_,AA hb⟩;unfold place;rw[AA hl]
def Tz{c:Bool}{sh dt:List Int}(h:AJ c sh dt=true)(k:Nat): -1000000000000000<=dt.getD k 0/\dt.getD k 0<=1000000000000000:=by
 by_cases hk:k<dt.length
 .have h1:dt.all (BY c)=true:=by simp[AJ]at h;simpa using h.2.2
  have h2:=A7.mp h1 (dt.getD k 0) (by simp[hk]);simp[BY]at h2;simpa using h2.2
 .have e:dt.getD k 0=0:=by simp[List.getD,List.getElem?_eq_none (by omega:dt.length<=k)]
  rw[e];omega
def Vi(w:World)(v:Int):AO (w.alloc (.cells #[.int .i64 v] 3)) (some ⟨w.heap.size,0,none⟩) 1 [v]:=by
 refine⟨rfl,by omega,.inr ⟨w.heap.size,0,rfl,by simp,fun i hi=> ?_⟩⟩;have e:i=0:=by omega
 subst e;simp
def TG(c d:Bool)(a1 a2 b1 b2:Addr)(n1 n2 m1 m2 c1 c2 d1 d2:Nat)(sh dt sh' dt':List Int)(w:World)(h1:AO w (some a1) n1 sh)(h2:AO w (some a2) n2 dt)(k1:AO w (some b1) m1 sh')(k2:AO w (some b2) m2 dt'):Calls prog 131 #[.agg #[.bool c,.slice (some a1) n1 c1,.slice (some a2) n2 c2],.agg #[.bool d,.slice (some b1) m1 d1,.slice (some b2) m2 d2]] w (CJ w (C8 c d sh dt sh' dt')):=by
 have hl1:=AD h1.len;have hl2:=AD h2.len;have hl3:=AD k1.len;have hl4:=AD k2.len;have hs1:=h1.small;have hs2:=h2.small;have hs3:=k1.small;have hs4:=k2.small;have H1:=AD h1;have H2:=AD h2;have K1:=AD k1;have K2:=AD k2;clear h1 h2 k1 k2;obtain⟨r1,hr1⟩:∃r,AJ c sh dt=r:=⟨_,rfl⟩
 obtain⟨r2,hr2⟩:∃r,AJ d sh' dt'=r:=⟨_,rfl⟩
 have HR1:=AD hr1;have HR2:=AD hr2;clear hr1 hr2;go_enter func131,ntmps131;go_wp2_with fail;refine(A0 _ _ _ _ _ _ _ sh dt _ ((((AA H1).alloc _).alloc _).alloc _) ((((AA H2).alloc _).alloc _).alloc _) _ HR1).mono ?_;rintro e w1⟨rfl,hb1⟩;obtain⟨B4,B5,B6,hB1⟩:=Az hb1;have hz1:=B6.lt;clear hb1;obtain⟨x0,x1,x2,x3,x4,x5,x6⟩:=B4.all;obtain⟨y0,y1,y2,y3,y4,y5,y6⟩:=B5.all;cases r1 with
 |false=>
  have HS:=AD (RA (d:=d) (sh':=sh') (dt':=dt') (AA HR1));go_wp2_with fail;refine(Aa _).mono ?_;rintro e w9⟨rfl,hb9⟩;obtain⟨q0,q1,q2,q3,q4,q5,q6⟩:=(B6.below AC hb9).all;have hB9:=AD ((hB1).trans (hb9.mono (hB1).size));clear hb9 hB1 B4 B5 B6 hz1 x0 x1 x2 x3 x4 x5 x6 y0 y1 y2 y3 y4 y5 y6
  go_wp2
  refine bodyPost_ret (v:=.tuple #[.agg #[.bool false,.slice none 0 0,.slice none 0 0],.int .i64 3]) (by simp[results,results131,go_sem,q0,q1,q2]) rfl ?_;rw[AA HS];exact⟨none,0,0,none,0,0,rfl,AP _ _,AP _ _,(((AA hB9).setCell (by simp<;>omega) _).setCell (by simp<;>omega) _).setCell (by simp<;>omega) _⟩
 |true=>
  go_wp2_with fail;refine(A0 _ _ _ _ _ _ _ sh' dt' _ ((AA K1).below AC hB1) ((AA K2).below AC hB1) _ HR2).mono ?_;rintro e w2⟨rfl,hb2⟩;have C4:=AD (B4.below AC hb2);have C5:=AD (B5.below AC hb2);have C6:=AD (B6.below AC hb2);have hB2:=AD (hB1.trans (hb2.mono hB1.size));clear hb2 hB1 B4 B5 B6 hz1 x0 x1 x2 x3 x4 x5 x6 y0 y1 y2 y3 y4 y5 y6 w1;cases r2 with
  |false=>
   have HS:=AD (Q9 (c:=c) (sh:=sh) (dt:=dt) (AA HR2));go_wp2_with fail;refine(Aa _).mono ?_;rintro e w9⟨rfl,hb9⟩;obtain⟨q0,q1,q2,q3,q4,q5,q6⟩:=((AA C6).below AC hb9).all;have hB9:=AD (((AA hB2)).trans (hb9.mono ((AA hB2)).size));clear hb9 C4 C5 C6 hB2
   go_wp2
   refine bodyPost_ret (v:=.tuple #[.agg #[.bool false,.slice none 0 0,.slice none 0 0],.int .i64 3]) (by simp[results,results131,go_sem,q0,q1,q2]) rfl ?_;rw[AA HS];exact⟨none,0,0,none,0,0,rfl,AP _ _,AP _ _,(((AA hB9).setCell (by simp<;>omega) _).setCell (by simp<;>omega) _).setCell (by simp<;>omega) _⟩
  |true=>
   obtain⟨x0,x1,x2,x3,x4,x5,x6⟩:=(AA C4).all;obtain⟨rc,hrc⟩:∃r,Dw c d n1 m1=r:=⟨_,rfl⟩
   have HDC:=AD hrc;clear hrc;obtain⟨ra,hra⟩:∃r,Ae c n1=r:=⟨_,rfl⟩
   have HLA:=AD hra;clear hra;go_wp2_with fail;refine(EX c _ _ _ _ _ hs1 ra HLA).mono ?_;rintro e w3⟨rfl,hb3⟩;have D4:=AD ((AA C4).below AC hb3);have D5:=AD ((AA C5).below AC hb3);have D6:=AD ((AA C6).below AC hb3);have hB3:=AD ((AA hB2).trans (hb3.mono (AA hB2).size));clear hb3 hB2 C4 C5 C6 x0 x1 x2 x3 x4 x5 x6 w2;obtain⟨y0,y1,y2,y3,y4,y5,y6⟩:=(AA D5).all
   go_upto_if 24 with fail
   go_cut[6] (fun b wx=>Below w3.heap.size w3 wx/\b=.int .i64 rc);case first=>
    by_cases e0:ra=0
    .have f0:(ra==0)=true:=by simp[e0]
     have HLB:Hid (Ae d m1=rc):=by show _=_;rw[<-AA HDC];unfold Dw;rw[AH (by rw[AA HLA];simp[e0])]
     clear e0;go_wp2_with(go_at_call 54;refine(EX d _ _ _ _ _ hs3 rc HLB).mono ?_;rintro e w4⟨rfl,hb4⟩)
     go_meet
     case rel=>exact⟨hb4,rfl⟩
    .have f0:(ra==0)=false:=by simp[e0]
     have HE:Hid (ra=rc):=by show _=_;rw[<-AA HDC];unfold Dw;rw[AI (by rw[AA HLA];exact e0)];exact(AA HLA).symm
     clear e0
     go_wp2
     go_meet
     case rel=>exact⟨AG,by rw[AA HE]⟩
   case rest=>
    obtain⟨w4,hw4⟩:∃x,x=wc:=⟨_,rfl⟩
    subst hw4;obtain⟨hb4,rfl⟩:=hcut;have E4:=AD ((AA D4).below AC hb4);have E5:=AD ((AA D5).below AC hb4);have E6:=AD ((AA D6).below AC hb4);have hB4:=AD ((AA hB3).trans (hb4.mono (AA hB3).size));clear hb4 hB3 D4 D5 D6 y0 y1 y2 y3 y4 y5 y6 w3 HLA;by_cases hcode:rc=0
    .subst hcode;have HD0:Hid (Dw c d sh.length sh'.length=0):=by show _=_;rw[AA hl1,AA hl3];exact AA HDC
     obtain⟨x0,x1,x2,x3,x4,x5,x6⟩:=(AA E4).all;obtain⟨y0,y1,y2,y3,y4,y5,y6⟩:=(AA E5).all;obtain⟨n,hn⟩:∃n,Bu n2 m2=n:=⟨_,rfl⟩
     have HN:=AD hn;clear hn
     go_upto_if 35 with fail
     go_cut[7] (fun b wx=>w4=wx/\b=.int .i64 (n:Nat));case first=>
      by_cases e1:m2=1
      .have f1:((m2:Int)==1)=true:=by simp[e1]
       have HE:Hid (n2=n):=by show _=_;rw[<-AA HN];unfold Bu;rw[AI e1]
       clear e1
       go_wp2
       go_meet
       case rel=>exact⟨rfl,by rw[AA HE]⟩
      .have f1:((m2:Int)==1)=false:=by simp;omega
       have HE:Hid (m2=n):=by show _=_;rw[<-AA HN];unfold Bu;rw[AH e1]
       clear e1
       go_wp2
       go_meet
       case rel=>exact⟨rfl,by rw[AA HE]⟩
     case rest=>
      obtain⟨rfl,rfl⟩:=hcut;by_cases hbad:n2≠1/\n2≠n
      .have HS:=AD (M3 (AA HR1) (AA HR2) (AA HD0) n2 m2 (AA hl2) (AA hl4) hbad.1 (by rw[AA HN];exact hbad.2));have f1:((n2:Int) !=1)=true:=by simp;omega
       have f2:((n2:Int) !=(n:Int))=true:=by simp;omega
       clear hbad;go_wp2_with fail;refine(Aa _).mono ?_;rintro e w9⟨rfl,hb9⟩;obtain⟨q0,q1,q2,q3,q4,q5,q6⟩:=((AA E6).below AC hb9).all;have hB9:=AD (((AA hB4)).trans (hb9.mono ((AA hB4)).size));clear hb9 E4 E5 E6 hB4 x0 x1 x2 x3 x4 x5 x6 y0 y1 y2 y3 y4 y5 y6
       go_wp2
       refine bodyPost_ret (v:=.tuple #[.agg #[.bool false,.slice none 0 0,.slice none 0 0],.int .i64 5]) (by simp[results,results131,go_sem,q0,q1,q2]) rfl ?_;rw[AA HS];exact⟨none,0,0,none,0,0,rfl,AP _ _,AP _ _,(((AA hB9).setCell (by simp<;>omega) _).setCell (by simp<;>omega) _).setCell (by simp<;>omega) _⟩
      .have hor:n2=1\/n2=n:=by omega
       have HGO:=AD (Ob (AA HR1) (AA HR2) (AA HD0) n2 m2 (AA hl2) (AA hl4) (by rw[AA HN];exact hor));rw[AA HN]at HGO;have hpos:0<n->0<n2/\0<m2:=by intro h0;have:=AA HN;unfold Bu at this;split at this<;>omega
       have hns:n<=17592186044416:=by have:=AA HN;unfold Bu at this;split at this<;>omega
       have HV1:=AD (Tz (AA HR1));have HV2:=AD (Tz (AA HR2));clear hbad;go_upto_region 11 with fail;go_cut[49] (fun b wx=>w4=wx/\b=.bool false);case first=>
        rcases hor with e1|e1
        .have f1:((n2:Int) !=1)=false:=by simp[e1]
         clear e1
         go_wp2
         go_meet
         case rel=>exact⟨rfl,rfl⟩
        .by_cases e2:n2=1
         .have f1:((n2:Int) !=1)=false:=by simp[e2]
          clear e1 e2
          go_wp2
          go_meet
          case rel=>exact⟨rfl,rfl⟩
         .have f1:((n2:Int) !=1)=true:=by simp;omega
          have f2:((n2:Int) !=(n:Int))=false:=by simp[e1]
          clear e1 e2
          go_wp2
          go_meet
          case rel=>exact⟨rfl,rfl⟩
       case rest=>
        obtain⟨rfl,rfl⟩:=hcut;have hz4:=(AA E4).lt;have hz5:=(AA E5).lt;have hz6:=(AA E6).lt;clear x0 x1 x2 x3 x4 x5 x6 y0 y1 y2 y3 y4 y5 y6 hor;go_wp2_with fail;go_loopw[8,9] (fun a i wr=>∃(k:Nat)(v:Int),k<=n/\i=.int .i64 (k:Nat)/\a=.int .i64 v/\Hid (Bw dt dt' n2 m2 k=some v)/\Hid (-1000000000000000<=v/\v<=1000000000000000)/\Hid (Below w4.heap.size w4 wr)) (fun _ i _=>n- (intOf i).toNat);case atStart=>exact⟨0,0,AS _,rfl,rfl,rfl,by show _/\_;omega,AG⟩
        case round=>
         obtain⟨k,v,hk,rfl,rfl,hdec,hvb,hbl⟩:=hrel;have HW:=AD ((AA hB4).trans ((AA hbl).mono (AA hB4).size));have G6:=AD ((AA E6).low hz6 (AA hbl));obtain⟨x0,x1,x2,x3,x4,x5,x6⟩:=((AA E4).low hz4 (AA hbl)).all;obtain⟨y0,y1,y2,y3,y4,y5,y6⟩:=((AA E5).low hz5 (AA hbl)).all;by_cases hlt:k<n
         .obtain⟨hn2,hm2⟩:=hpos (by omega);obtain⟨j,hj⟩:∃j,j=k % n2:=⟨_,rfl⟩
          obtain⟨l,hl⟩:∃l,l=k % m2:=⟨_,rfl⟩
          have hjl:j<n2:=by rw[hj];exact Nat.mod_lt _ hn2
          have hll:l<m2:=by rw[hl];exact Nat.mod_lt _ hm2
          have hq1:(k:Int).tmod (n2:Int)=(j:Int):=by rw[Au (by omega),hj];rfl
          have hq2:(k:Int) % (n2:Int)=(j:Int):=by rw[hj];rfl
          have hq3:(k:Int).tmod (m2:Int)=(l:Int):=by rw[Au (by omega),hl];rfl
          have hq4:(k:Int) % (m2:Int)=(l:Int):=by rw[hl];rfl
          have hj1:(j:Int)<(n2:Int):=by omega
          have hl1':(l:Int)<(m2:Int):=by omega
          have g1:((n2:Int)==0)=false:=by simp;omega
          have g2:((m2:Int)==0)=false:=by simp;omega
          have g3:¬ n2=0:=by omega
          have g4:¬ m2=0:=by omega
          obtain⟨ba,oa,hab,hblt,hca⟩:=(AA H2).get hjl;cases hab;obtain⟨bb,ob,hab,hblt',hcb⟩:=(AA K2).get hll;cases hab;have hca':=((AA HW).cell (p:=⟨ba,oa+j,none⟩) hblt).trans hca;have hcb':=((AA HW).cell (p:=⟨bb,ob+l,none⟩) hblt').trans hcb;have hxb:=AA HV1 j;have hyb:=AA HV2 l;obtain⟨x,hx⟩:∃x,x=dt.getD j 0:=⟨_,rfl⟩
          obtain⟨y,hy⟩:∃y,y=dt'.getD l 0:=⟨_,rfl⟩
          rw[<-hx]at hca' hxb;rw[<-hy]at hcb' hyb;obtain⟨r,hr⟩:∃r,Bo v x=r:=⟨_,rfl⟩
          obtain⟨r1,r2⟩:=r;have HT:=AD hr;have hrb:=Pt hr;obtain⟨hrb1,hrb2⟩:=hrb;obtain⟨hyb1,hyb2⟩:=hyb;have HSTEP:Hid (Bw dt dt' n2 m2 (k+1)=if r2=true/\Dv (r1+y)=true then some (r1+y)else none):=by show _=_;have:=RB (r1:=r1) (r2:=r2) (AA hdec) (by rw[<-hj,<-hx];exact hr);rw[<-hl,<-hy]at this;exact this
          clear hr hx hy hca hcb hj hl hdec;cases r2 with
          |false=>
           have HS:Hid (C8 c d sh dt sh' dt'=AT 7):=by show _=_;have h1:=AA HSTEP;rw[AH (by simp)]at h1;rw[AA HGO,Jt h1 (by omega)];rfl
           have HIM:Hid (Dv (r1+y)=Dv (r1+y)):=rfl
           go_wp2
           go_quiet((go_at_call 201;exact Calls.quiet_of_same (D2 _ _ _ (AA hvb) hxb r1 false HT)))
           go_wp2
           go_quiet(fail);go_wp2_with(go_at_call 202;refine(H7 _ _).mono ?_;rw[AA HIM];rintro e wq⟨rfl,rfl⟩);refine(Aa _).mono ?_;rintro e w9⟨rfl,hb9⟩;have hb9':Below wr.heap.size wr w9:=DZ (by repeat(first|exact AG|refine Below.drewN ?_ _|refine BF ?_)) (hb9.mono (by simp));obtain⟨q0,q1,q2,q3,q4,q5,q6⟩:=((AA G6).below AC hb9').all;have hB9:=AD ((AA HW).trans (hb9'.mono (AA HW).size));clear hb9 hb9'
           go_wp2
           refine bodyPost_ret (v:=.tuple #[.agg #[.bool false,.slice none 0 0,.slice none 0 0],.int .i64 7]) (by simp[results,results131,go_sem,q0,q1,q2]) rfl ?_;rw[AA HS];exact⟨none,0,0,none,0,0,rfl,AP _ _,AP _ _,(((AA hB9).setCell (by simp<;>omega) _).setCell (by simp<;>omega) _).setCell (by simp<;>omega) _⟩
          |true=>
           cases him:Dv (r1+y)with
           |false=>
            have HIM:=AD him;have HS:Hid (C8 c d sh dt sh' dt'=AT 7):=by show _=_;have h1:=AA HSTEP;rw[AH (by simp[him])]at h1;rw[AA HGO,Jt h1 (by omega)];rfl
            clear him
            go_wp2
            go_quiet((go_at_call 201;exact Calls.quiet_of_same (D2 _ _ _ (AA hvb) hxb r1 true HT)))
            go_wp2
            go_quiet(fail);go_wp2_with(go_at_call 202;refine(H7 _ _).mono ?_;rw[AA HIM];rintro e wq⟨rfl,rfl⟩);refine(Aa _).mono ?_;rintro e w9⟨rfl,hb9⟩;have hb9':Below wr.heap.size wr w9:=DZ (by repeat(first|exact AG|refine Below.drewN ?_ _|refine BF ?_)) (hb9.mono (by simp));obtain⟨q0,q1,q2,q3,q4,q5,q6⟩:=((AA G6).below AC hb9').all;have hB9:=AD ((AA HW).trans (hb9'.mono (AA HW).size));clear hb9 hb9'
            go_wp2
            refine bodyPost_ret (v:=.tuple #[.agg #[.bool false,.slice none 0 0,.slice none 0 0],.int .i64 7]) (by simp[results,results131,go_sem,q0,q1,q2]) rfl ?_;rw[AA HS];exact⟨none,0,0,none,0,0,rfl,AP _ _,AP _ _,(((AA hB9).setCell (by simp<;>omega) _).setCell (by simp<;>omega) _).setCell (by simp<;>omega) _⟩
           |true=>
            have HIM:=AD him;have HNX:Hid (Bw dt dt' n2 m2 (k+1)=some (r1+y)):=by
             show _=_;have h1:=AA HSTEP
             rwa [AI ⟨rfl,him⟩]at h1
            have HBD:Hid (-1000000000000000<=r1+y/\r1+y<=1000000000000000):=IB him;clear him
            go_wp2
            go_quiet((go_at_call 201;exact Calls.quiet_of_same (D2 _ _ _ (AA hvb) hxb r1 true HT)))
            go_wp2
            go_quiet(fail);go_wp2_with(go_at_call 202;refine(H7 _ _).mono ?_;rw[AA HIM];rintro e wq⟨rfl,rfl⟩);go_roundw;case rel=>exact⟨k+1,r1+y,by omega,by go_num,rfl,HNX,HBD,(by show Below _ _ _;repeat(first|exact AA hbl|refine Below.drewN ?_ _|refine BF ?_))⟩
            case measure=>simp[intOf];omega
         .have hkn:k=n:=by omega
          subst hkn;have HS:Hid (C8 c d sh dt sh' dt'=⟨false,[],[v],0⟩):=by show _=_;rw[AA HGO,AA hdec];rfl
          obtain⟨q0,q1,q2,q3,q4,q5,q6⟩:=(AA G6).all;have q7:w.heap.size+1+1<wr.heap.size:=q6;have q8:w.heap.size+1+1<wr.heap.size+1:=by omega
          go_wp2
          refine bodyPost_ret (v:=.tuple #[.agg #[.bool false,.slice (some ⟨wr.heap.size,0,none⟩) 0 0,.slice (some ⟨wr.heap.size+1,0,none⟩) 1 1],.int .i64 0]) (by simp[results,results131,go_sem,q0,q1,q2,q7,q8,World.cell?_alloc_past]) rfl ?_;rw[AA HS];refine⟨some ⟨wr.heap.size,0,none⟩,0,0,some ⟨wr.heap.size+1,0,none⟩,1,1,rfl,AP _ _,?_,?_⟩
          .have h1:=Vi ((((wr.setCell ⟨w.heap.size+1+1,0,none⟩ (.bool false)).setCell ⟨w.heap.size+1+1,1,none⟩ (.slice (some ⟨wr.heap.size,0,none⟩) 0 0)).setCell ⟨w.heap.size+1+1,2,none⟩ (.slice (some ⟨wr.heap.size+1,0,none⟩) 1 1)).alloc (.cells #[] 3)) v;simpa using h1
          .repeat(first|exact AA HW|refine BU ?_ (by simp<;>omega) _|refine BD ?_ (by have:=(AA HW).size;first|omega|(simp<;>omega)) _)
    .have HS:=AD (LE (AA HR1) (AA HR2) rc (by rw[AA hl1,AA hl3];exact AA HDC) hcode);have hcb:(rc !=0)=true:=by simp[hcode]
     clear hcode;go_wp2_with fail;refine(Aa _).mono ?_;rintro e w9⟨rfl,hb9⟩;obtain⟨q0,q1,q2,q3,q4,q5,q6⟩:=((AA E6).below AC hb9).all;have hB9:=AD (((AA hB4)).trans (hb9.mono ((AA hB4)).size));clear hb9 E4 E5 E6 hB4
     go_wp2
     refine bodyPost_ret (v:=.tuple #[.agg #[.bool false,.slice none 0 0,.slice none 0 0],.int .i64 rc]) (by simp[results,results131,go_sem,q0,q1,q2]) rfl ?_;rw[AA HS];exact⟨none,0,0,none,0,0,rfl,AP _ _,AP _ _,(((AA hB9).setCell (by simp<;>omega) _).setCell (by simp<;>omega) _).setCell (by simp<;>omega) _⟩
