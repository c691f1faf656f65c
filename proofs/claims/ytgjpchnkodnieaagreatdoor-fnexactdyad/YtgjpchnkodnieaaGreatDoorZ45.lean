import Derived.Test.YtgjpchnkodnieaaGreatDoorZ38
import Derived.Deep.RegionHeld
set_option maxRecDepth 20000
set_option maxHeartbeats 4000000
set_option linter.defProp false
namespace Go.Proofs.YtgjpchnkodnieaaGreatDoor
open Go.RowKit Tryz
section
open Go.Shelf
def H8(c d:Bool)(a1 a2 b1 b2:Option Addr)(n1 n2 m1 m2 c1 c2 d1 d2:Nat)(sh dt sh' dt':List Int)(w:World)(h1:AO w a1 n1 sh)(hk1:AO w b1 m1 sh')(hok:AJ c sh dt=true)(hok':AJ d sh' dt'=true)(hl:dt.length=n2)(hl':dt'.length=m2)(hr:n1<=1)(hr':m1<=1)(code:Int)(hc:Hid ((if n2≠1/\n2≠Bu n2 m2 then 5 else 0)=code)):Calls prog 296 #[.agg #[.bool c,.slice a1 n1 c1,.slice a2 n2 c2],.agg #[.bool d,.slice b1 m1 d1,.slice b2 m2 d2]] w fun e w'=>∃cnt:Nat,e=.returned (.tuple #[.int .i64 (cnt:Nat),.int .i64 code])/\(code=0->cnt=Bu n2 m2)/\Below w.heap.size w w':=by
 obtain⟨hin,hpr,_⟩:=AW hok;obtain⟨hin',hpr',_⟩:=AW hok';have hbd:=hin.bd;have hbd':=hin'.bd;rw[hpr,hl]at hbd;rw[hpr',hl']at hbd';have Bq:=h1.len;have hlen':=hk1.len;rw[hl]at hpr;rw[hl']at hpr';have one:∀ {s:List Int}{k m:Nat},s.length=k->AM s=((m:Nat):Int)->k=1->s= [(m:Int)]:=fun {s k m}hs hp h=>by obtain⟨x,rfl⟩:=List.length_eq_one_iff.1 (hs.trans h);simp[AM]at hp;rw[hp]
 have non:∀ {s:List Int}{k m:Nat},s.length=k->AM s=((m:Nat):Int)->k=0->m=1:=fun {s k m}hs hp h=>by have e:=Af.1 (hs.trans h);subst e;simp[AM]at hp;omega
 have HJC:Hid (BT n1 n2 m1 m2 sh sh'=code):=by
  show _=_;rw[<-AA hc];unfold BT;by_cases hB:m2=1
  .rw[AI (show Cb n1 n2 m1 m2=true\/m2=1 from .inr hB),AH (show ¬(n2≠1/\n2≠Bu n2 m2)from by simp[Bu,hB])]
  .by_cases hA:n2=1
   .rw[AI (show Cb n1 n2 m1 m2=true\/m2=1 from .inl (by simp[Cb,hA,hB])),AH (show ¬(n2≠1/\n2≠Bu n2 m2)from by simp[hA])]
   .rw[AH (show ¬(Cb n1 n2 m1 m2=true\/m2=1)from by simp[Cb,hA,hB])];have e1:n1=1:=by
     rcases Bz n1 1 with h|h
     .exact absurd (non Bq hpr (by omega)) hA
     .omega
    have e2:m1=1:=by
     rcases Bz m1 1 with h|h
     .exact absurd (non hlen' hpr' (by omega)) hB
     .omega
    rw[AH (show ¬ n1≠m1 by omega),one Bq hpr e1,one hlen' hpr' e2];by_cases hnl:n2=m2
    .rw[AH (show ¬([(n2:Int)]≠ [(m2:Int)]) by simp[hnl]),AH (show ¬(n2≠1/\n2≠Bu n2 m2)from by simp[Bu,hB,hnl])]
    .rw[AI (show[(n2:Int)]≠ [(m2:Int)] by simp;omega),AI (show n2≠1/\n2≠Bu n2 m2 from⟨hA,by simp[Bu,hB,hnl]⟩)]
 have HJS:Hid (code=0->Aq (Ba n1 n2 m1 m2 sh sh')/\AM (Ba n1 n2 m1 m2 sh sh')=((Bu n2 m2:Nat):Int)):=fun h0=>by
  have hnc:¬(n2≠1/\n2≠Bu n2 m2):=fun hh=>by have:=AA hc;rw[AI hh]at this;omega
  unfold Ba Cb;unfold Bu at hnc ⊢;by_cases hw:(decide (n2=1)&&(decide (m2≠1)||decide (n1<m1)))=true
  .rw[AI hw];refine⟨hin',?_⟩;rw[hpr'];simp at hw;split<;>omega
  .rw[AH hw];refine⟨hin,?_⟩;rw[hpr];simp at hw;split
   .rfl
   .rename_i hm
    rw[AH hm]at hnc;by_cases hn:n2=1
    .exact absurd (hw hn).1 hm
    .have:n2=m2:=by omega
     rw[this]
 have HJ:=AD (DR c d a1 a2 b1 b2 n1 n2 m1 m2 c1 c2 d1 d2 sh sh');have H1:=AD h1;have K1:=AD hk1;clear h1 hk1 hok hok' hin hin' hpr hpr' one non hc Bq hlen' hl hl';go_enter func296,ntmps296;go_wp2_with fail;refine(AA HJ _ (((AA H1).alloc _).alloc _) (((AA K1).alloc _).alloc _) (by omega) (by omega)).mono ?_;rintro e w1⟨hcase,hb1⟩;rw[AA HJC]at hcase;have HB1:Hid (Below w.heap.size w w1):=((((AN _ w).alloc AC _).alloc (by simp) _).trans (hb1.mono (by simp;omega)))
 clear hb1;rcases hcase with⟨h0,a',k,Ak,rfl,hO⟩|⟨h0,rfl⟩
 .subst h0;obtain⟨s1,s2⟩:=AA HJS rfl;have HP:=AD s2;have HO:=AD hO;clear hO s2;go_wp2_with(go_at_call 116;refine(NH _ _ _ _ _ (AA HO).row s1 _ HP).mono ?_;rintro e w2⟨rfl,hw⟩;obtain rfl:=hw.symm);go_ret2;first|exact⟨_,rfl,rfl,AA HB1⟩|exact⟨_,rfl,fun _=>rfl,AA HB1⟩
 .have s1:Aq []:=⟨rfl,1,rfl⟩
  have HP:Hid (AM []=((1:Nat):Int)):=AD rfl;go_wp2_with(go_at_call 116;refine(NH none 0 0 [] _ (AP _ _) s1 _ HP).mono ?_;rintro e w2⟨rfl,hw⟩;obtain rfl:=hw.symm);go_ret2;exact⟨1,rfl,fun h=>absurd h h0,AA HB1⟩
def XK{dt:List Int}{n2 m:Nat}(h:n2=1\/n2=m)(k:Nat)(hk:k<m):0+k*(if n2=1 then 0 else 1)<n2/\dt.getD (0+k*(if n2=1 then 0 else 1)) 0=dt.getD (k % n2) 0:=by
 by_cases h1:n2=1
 .subst h1;simp[Nat.mod_one]
 .have e:n2=m:=by omega
  rw[AH h1,IP,Cq,Nat.mod_eq_of_lt (by omega)];exact⟨by omega,rfl⟩
def Oc(ga gb:Addr)(c d:Bool)(a1 a2 b1 b2:Option Addr)(n1 n2 m1 m2 c1 c2 d1 d2 pa pc pb m k:Nat)(dt dt':List Int)(W:World)(hA:Ai W pa c (.slice a1 n1 c1) (.slice a2 n2 c2))(hB:Ai W pb d (.slice b1 m1 d1) (.slice b2 m2 d2))(hC:W.cell? ⟨pc,0,none⟩=some (.int .i64 (m:Nat)))(h2:AO W a2 n2 dt)(k2:AO W b2 m2 dt')(hG:VK W ga gb)(hm:m<=10000)(hn:n2=1\/n2=m)(hn':m2=1\/m2=m)(hb:∀k,-1000000000000000<=dt.getD k 0/\dt.getD k 0<=1000000000000000)(hb':∀k,-1000000000000000<=dt'.getD k 0/\dt'.getD k 0<=1000000000000000):Calls prog 301 #[.int .i64 (k:Nat),.pointer (some ⟨pa,0,none⟩),.pointer (some ⟨pc,0,none⟩),.pointer (some ⟨pb,0,none⟩)] W fun e w'=>e=.returned (.tuple #[.int .i64 (M7 (Bw dt dt' n2 m2 m)).1,E3 ga gb (M7 (Bw dt dt' n2 m2 m)).2])/\Below W.heap.size W w':=by
 obtain⟨z,hz⟩:∃z:Nat,z=0:=⟨_,rfl⟩
 have hs2:=h2.small;have hs4:=k2.small;have HE:Hid (∀wx,Calls prog 292 #[.agg #[.bool c,.slice a1 n1 c1,.slice a2 n2 c2],.int .i64 (m:Nat)] wx fun e w'=>e=.returned (.agg #[.slice a2 n2 c2,.int .i64 (z:Nat),.int .i64 ((if n2=1 then 0 else 1:Nat):Int),.int .i64 (m:Nat)])/\Below wx.heap.size wx w'):=fun wx=>by rw[hz];exact Dd c a1 a2 n1 n2 c1 c2 m hs2 wx
 have HE':Hid (∀wx,Calls prog 292 #[.agg #[.bool d,.slice b1 m1 d1,.slice b2 m2 d2],.int .i64 (m:Nat)] wx fun e w'=>e=.returned (.agg #[.slice b2 m2 d2,.int .i64 (z:Nat),.int .i64 ((if m2=1 then 0 else 1:Nat):Int),.int .i64 (m:Nat)])/\Below wx.heap.size wx w'):=fun wx=>by rw[hz];exact Dd d b1 b2 m1 m2 d1 d2 m hs4 wx
 have HD:Hid (∀wx,Below W.heap.size W wx->_):=fun wx hwx=>Q8 ga gb a2 b2 n2 m2 c2 d2 z (if n2=1 then 0 else 1) (if m2=1 then 0 else 1) m dt dt' wx (h2.below AC hwx) (k2.below AC hwx) (hG.below hwx) hm (fun k hk=>by rw[hz];exact XK hn k hk) (fun k hk=>by rw[hz];exact XK hn' k hk) hb hb';have hpl:=AU _ _ hC;have HKEEP:∀wx,Below W.heap.size W wx->Below W.heap.size W wx/\wx.cell? ⟨pc,0,none⟩=some (.int .i64 (m:Nat))/\(wx.cell? ⟨pa,0,none⟩=some (.bool c)/\wx.cell? ⟨pa,1,none⟩=some (.slice a1 n1 c1)/\wx.cell? ⟨pa,2,none⟩=some (.slice a2 n2 c2))/\(wx.cell? ⟨pb,0,none⟩=some (.bool d)/\wx.cell? ⟨pb,1,none⟩=some (.slice b1 m1 d1)/\wx.cell? ⟨pb,2,none⟩=some (.slice b2 m2 d2)):=fun wx hwx=>⟨hwx,(hwx.cell (p:=⟨pc,0,none⟩) hpl).trans hC,(hA.below AC hwx).cells,(hB.below AC hwx).cells⟩
 generalize M7 (Bw dt dt' n2 m2 m)=r at*;obtain⟨r1,r2⟩:=r;generalize (if n2=1 then 0 else 1)=s1 at*;generalize (if m2=1 then 0 else 1)=s2 at*;obtain⟨ev,hev⟩:∃ev,ev=E3 ga gb r2:=⟨_,rfl⟩
 simp only[<-hev];have HEV:=AD hev;clear hz hev h2 k2 hA hB hC hG hb hb' hn hn';obtain⟨_,z0,⟨x0,x1,x2⟩,⟨y0,y1,y2⟩⟩:=HKEEP _ AG;go_enter func301,ntmps301;go_wp2_with fail
 go_region_held (fun wx=>Below W.heap.size W wx/\wx.cell? ⟨pc,0,none⟩=some (.int .i64 (m:Nat))/\(wx.cell? ⟨pa,0,none⟩=some (.bool c)/\wx.cell? ⟨pa,1,none⟩=some (.slice a1 n1 c1)/\wx.cell? ⟨pa,2,none⟩=some (.slice a2 n2 c2))/\(wx.cell? ⟨pb,0,none⟩=some (.bool d)/\wx.cell? ⟨pb,1,none⟩=some (.slice b1 m1 d1)/\wx.cell? ⟨pb,2,none⟩=some (.slice b2 m2 d2))) (first|(refine HKEEP _ ?_;repeat(first|exact hKC|exact hKB|exact hKA|exact AG|refine BF ?_))) (first
  |(go_at_call_of 292 (Value.slice a2 n2 c2);refine(AA HE _).mono ?_;rintro e wA⟨rfl,hbA⟩;have hKA:Below W.heap.size W wA:=AG.drew.trans (hbA.mono (by simp));obtain⟨_,z0,⟨x0,x1,x2⟩,⟨y0,y1,y2⟩⟩:=HKEEP _ hKA)
  |(go_at_call_of 292 (Value.slice b2 m2 d2);refine(AA HE' _).mono ?_;rintro e wB⟨rfl,hbB⟩;have hKB:Below W.heap.size W wB:=hKA.trans (hbB.mono hKA.size))
  |(go_at_call 302;refine(AA HD _ hKB).mono ?_;rintro e wC⟨rfl,hbC⟩;have hKC:Below W.heap.size W wC:=hKB.trans (hbC.mono hKB.size);simp only[<-AA HEV]))
 go_wp2
 go_ret2;exact⟨rfl,hKC⟩
def Ls{c:Bool}{sh dt:List Int}(h:AJ c sh dt=true)(k:Nat): -1000000000000000<=dt.getD k 0/\dt.getD k 0<=1000000000000000:=by
 by_cases hk:k<dt.length
 .exact Bl h hk
 .simp[List.getD,Nat.le_of_not_lt hk]
def OJ(ga gb:Addr)(g:Nat)(lb:Array Value)(eg:∀args w,(callFunc g args).run prog w=.ok (.enter g args) w)(r1 r2:Int)(hr:r2=0\/r2=7)(w:World)(hG:VK w ga gb)(hE:F8 ga gb g lb (fun _=>(r1,r2)) 1 w):Calls prog 118 #[.slice none 0 0,.func (.func g) #[] lb] w (bV w (fun _=>(r1,r2)) 1 none 0 0):=by
 have hf:∀k,k<1->G0 (((fun _=>(r1,r2)):Nat->Int×Int) k).2:=fun k _=>by rcases hr with h|h<;>simp[G0,h]
 have HE:Hid (∀o,F8 ga gb g lb (fun _=>(r1,r2)) 1 (w.alloc o)):=fun o=>hE.low (AG.alloc AC _);have HF:=AD hf;have HS:Hid (Am []=true):=AD rfl;have HC:Hid (Ac []=((1:Nat):Int)):=AD rfl;have HG:=AD hG;have HFC:Hid (Ay ((fun _=>(r1,r2)):Nat->Int×Int) 1=r2):=AD (by simp[Ay]);clear hE hf hG;have HW:Hid (∀o,Below w.heap.size w (w.alloc o)):=fun o=>AG.alloc AC _;by_cases h0:Ay ((fun _=>(r1,r2)):Nat->Int×Int) 1=0
 .have HZ:=AD h0;clear h0;go_enter func118,ntmps118;go_wp2_with(first
   |(go_at_call 116;refine(Cn _ _ _ [] _ (AP _ _) (AA HS) _ HC).mono ?_;rintro e w1⟨rfl,rfl⟩)
   |(go_at_call 121;refine(Gv ga gb g lb eg _ 1 _ (by omega) (AA HF) (AA HE _)).mono ?_;rintro e w2⟨hr,hb2⟩;obtain⟨_,rfl,DI⟩|⟨hne,_⟩:=hr;rotate_left;exact absurd (AA HZ) hne;have hB:=Ai.below (Ai.new w false (.slice none 0 0) (.slice none 0 0)) AC hb2;obtain⟨q0,q1,q2,q3,q4,q5,q6⟩:=hB.all;have HK:=AD DI;have HL:=AD ((AA HW _).trans (hb2.mono (by simp)));clear hb2 DI hB))
  refine bodyPost_ret (v:=.tuple #[.agg #[.bool false,.slice none 0 0,.slice (some ⟨w.heap.size+1,0,none⟩) 1 1],.int .i64 0]) (by simp[results,results118,go_sem,q0,q1,q2]) rfl ?_;refine⟨.inl ⟨AA HZ,w.heap.size+1,by omega,rfl,?_⟩,(((AA HL).setCell AC _).setCell AC _).setCell AC _⟩;have hk:BA w2 (w.heap.size+1) (Bg ((fun _=>(r1,r2)):Nat->Int×Int) 1):=by simpa using AA HK
  exact((hk.other (by simp) _).other (by simp) _).other (by simp) _
 .have HZ:=AD h0;have HCD:Hid (∀W,VK W ga gb->Calls prog 190 #[.iface 278 (.pointer (some gb))] W fun e w'=>e=.returned (.int .i64 7)/\w'=W):=fun W h=>Ys ga gb W h;have hr7:r2=7:=by rw[AA HFC]at h0;omega
  subst hr7;clear h0;go_enter func118,ntmps118;go_wp2_with(first
   |(go_at_call 116;refine(Cn _ _ _ [] _ (AP _ _) (AA HS) _ HC).mono ?_;rintro e w1⟨rfl,rfl⟩)
   |(go_at_call 121;refine(Gv ga gb g lb eg _ 1 _ (by omega) (AA HF) (AA HE _)).mono ?_;rintro e w2⟨hr,hb2⟩;obtain⟨hne,_⟩|⟨_,hci,rfl⟩:=hr;exact absurd hne (AA HZ);rw[AA HFC];have hB:=Ai.below (Ai.new w false (.slice none 0 0) (.slice none 0 0)) AC hb2;obtain⟨q0,q1,q2,q3,q4,q5,q6⟩:=hB.all;have HL:=AD ((AA HW _).trans (hb2.mono (by simp)));rw[ID];clear hb2 hB hci)
   |(go_at_call 190;refine(AA HCD _ ((AA HG).below (AA HL))).mono ?_;rintro e w3⟨rfl,rfl⟩))
  refine bodyPost_ret (v:=.tuple #[.agg #[.bool false,.slice none 0 0,.slice none 0 0],.int .i64 7]) (by simp[results,results118,go_sem,q0,q1,q2]) rfl ?_;exact⟨.inr ⟨AA HZ,by rw[AA HFC]⟩,(((AA HL).setCell AC _).setCell AC _).setCell AC _⟩
end
section
open Go.Shelf
def Ha(c d:Bool)(a1 a2 b1 b2:Option Addr)(n1 n2 m1 m2 c1 c2 d1 d2:Nat)(sh dt sh' dt':List Int)(w:World)(h1:AO w a1 n1 sh)(h2:AO w a2 n2 dt)(k1:AO w b1 m1 sh')(k2:AO w b2 m2 dt')(r1 r2:Int)(hr1:Hid (Ap c d sh dt sh' dt'=r1))(hr2:Hid (Ap d c sh' dt' sh dt=r2))(r:Int)(hr:MQ r1 r2=r)(h0:r≠0):Calls prog 263 #[.agg #[.bool c,.slice a1 n1 c1,.slice a2 n2 c2],.agg #[.bool d,.slice b1 m1 d1,.slice b2 m2 d2]] w (Ag w (AT r)):=by
 have q:(r !=0)=true:=by simp[h0]
 have HR:=AD hr;clear hr h0;have hs2:=h2.small;have hs4:=k2.small;obtain⟨W0,hW0⟩:∃W0,W0=(((w.alloc (.cells #[.bool c,.slice a1 n1 c1,.slice a2 n2 c2] 25)).alloc (.cells #[.bool d,.slice b1 m1 d1,.slice b2 m2 d2] 25)).alloc (.cells #[.bool false,.slice none 0 0,.slice none 0 0] 25)):=⟨_,rfl⟩
 have hbW:Below w.heap.size w W0:=by rw[hW0];exact(((AN _ w).alloc AC _).alloc (by simp) _).alloc (by simp;omega) _
 have HBOX:Hid (∀wx,Below W0.heap.size W0 wx->Ai wx w.heap.size c (.slice a1 n1 c1) (.slice a2 n2 c2)/\Ai wx (w.heap.size+1) d (.slice b1 m1 d1) (.slice b2 m2 d2)/\Ai wx (w.heap.size+2) false (.slice none 0 0) (.slice none 0 0)/\Below w.heap.size w wx):=fun wx hwx=>by rw[hW0]at hwx;exact Az hwx
 have HL1:Hid (∀wx,Below W0.heap.size W0 wx->Calls prog 57 #[.agg #[.bool c,.slice a1 n1 c1,.slice a2 n2 c2],.agg #[.bool d,.slice b1 m1 d1,.slice b2 m2 d2]] wx fun e w'=>e=.returned (.int .i64 r1)/\Below wx.heap.size wx w'):=fun wx hwx=>Ao c d a1 a2 b1 b2 n1 n2 m1 m2 c1 c2 d1 d2 sh dt sh' dt' wx (h1.below AC (hbW.trans (hwx.mono hbW.size))) (h2.below AC (hbW.trans (hwx.mono hbW.size))) (k1.below AC (hbW.trans (hwx.mono hbW.size))) (k2.below AC (hbW.trans (hwx.mono hbW.size))) r1 hr1;have HL2:Hid (∀wx,Below W0.heap.size W0 wx->Calls prog 57 #[.agg #[.bool d,.slice b1 m1 d1,.slice b2 m2 d2],.agg #[.bool c,.slice a1 n1 c1,.slice a2 n2 c2]] wx fun e w'=>e=.returned (.int .i64 r2)/\Below wx.heap.size wx w'):=fun wx hwx=>Ao d c b1 b2 a1 a2 m1 m2 n1 n2 d1 d2 c1 c2 sh' dt' sh dt wx (k1.below AC (hbW.trans (hwx.mono hbW.size))) (k2.below AC (hbW.trans (hwx.mono hbW.size))) (h1.below AC (hbW.trans (hwx.mono hbW.size))) (h2.below AC (hbW.trans (hwx.mono hbW.size))) r2 hr2;have HKEEP:∀wx,Below W0.heap.size W0 wx->Below W0.heap.size W0 wx/\(wx.cell? ⟨w.heap.size,0,none⟩=some (.bool c)/\wx.cell? ⟨w.heap.size,1,none⟩=some (.slice a1 n1 c1)/\wx.cell? ⟨w.heap.size,2,none⟩=some (.slice a2 n2 c2))/\(wx.cell? ⟨w.heap.size+1,0,none⟩=some (.bool d)/\wx.cell? ⟨w.heap.size+1,1,none⟩=some (.slice b1 m1 d1)/\wx.cell? ⟨w.heap.size+1,2,none⟩=some (.slice b2 m2 d2)):=fun wx hwx=>⟨hwx,(AA HBOX _ hwx).1.cells,(AA HBOX _ hwx).2.1.cells⟩
 clear h1 h2 k1 k2 hr1 hr2 hbW;obtain⟨_,⟨x0,x1,x2⟩,⟨y0,y1,y2⟩⟩:=HKEEP _ AG;go_enter func263,ntmps263;go_upto_region 1 with fail;rw[<-hW0];clear hW0
 go_region_held (fun wx=>Below W0.heap.size W0 wx/\(wx.cell? ⟨w.heap.size,0,none⟩=some (.bool c)/\wx.cell? ⟨w.heap.size,1,none⟩=some (.slice a1 n1 c1)/\wx.cell? ⟨w.heap.size,2,none⟩=some (.slice a2 n2 c2))/\(wx.cell? ⟨w.heap.size+1,0,none⟩=some (.bool d)/\wx.cell? ⟨w.heap.size+1,1,none⟩=some (.slice b1 m1 d1)/\wx.cell? ⟨w.heap.size+1,2,none⟩=some (.slice b2 m2 d2))) (first|exact HKEEP _ hKC|exact HKEEP _ (hKB.alloc hKB.size _)|exact HKEEP _ hKB|exact HKEEP _ hKA|exact HKEEP _ AG.drew|(refine HKEEP _ ?_;repeat(first|exact hKC|exact hKB|exact hKA|exact AG|refine BF ?_|refine BD ?_ (by first|omega|(simp<;>omega)) _))) (first
  |(go_at_call 57;have hz:=hKA;refine(AA HL2 _ hKA).mono ?_;rintro e wB⟨rfl,hbB⟩;have hKB:Below W0.heap.size W0 wB:=hKA.trans (hbB.mono hKA.size);obtain⟨_,⟨x0,x1,x2⟩,⟨y0,y1,y2⟩⟩:=HKEEP _ hKB)
  |(go_at_call 57;refine(AA HL1 _ AG.drew).mono ?_;rintro e wA⟨rfl,hbA⟩;have hKA:Below W0.heap.size W0 wA:=AG.drew.trans (hbA.mono (by simp));obtain⟨_,⟨x0,x1,x2⟩,⟨y0,y1,y2⟩⟩:=HKEEP _ hKA)
  |(go_at_call 300;refine(O6 r1 r2 wB.heap.size _ (by exact cell_of_row _ _ 0 _ _ (0,0) (heap_alloc_last wB _)) (by exact cell_of_row _ _ 1 _ _ (0,0) (heap_alloc_last wB _))).mono ?_;rintro e wC⟨rfl,hwC⟩;have hKC:Below W0.heap.size W0 wC:=(by rw[hwC];repeat(first|exact hKB|refine BF ?_|refine BD ?_ (by first|omega|(have:=hKB.size;omega)) _));clear hwC;obtain⟨_,⟨x0,x1,x2⟩,⟨y0,y1,y2⟩⟩:=HKEEP _ hKC))
 all_goals rw[AA HR]
 all_goals(obtain⟨q0,q1,q2,q3,q4,q5,q6⟩:=(AA HBOX _ hKC).2.2.1.all;have HBw:=AD (AA HBOX _ hKC).2.2.2)
 all_goals go_wp2_with fail
 all_goals refine bodyPost_ret (v:=.tuple #[.agg #[.bool false,.slice none 0 0,.slice none 0 0],.int .i64 r]) (by simp[results,results263,go_sem,q0,q1,q2]) rfl ?_
 all_goals exact As ((((AA HBw).setCell (by simp<;>omega) _).setCell (by simp<;>omega) _).setCell (by simp<;>omega) _)
end
section
open Go.Shelf
def Ml(c d:Bool)(a1 a2 b1 b2:Option Addr)(n1 n2 m1 m2 c1 c2 d1 d2:Nat)(sh dt sh' dt':List Int)(w:World)(h1:AO w a1 n1 sh)(h2:AO w a2 n2 dt)(k1:AO w b1 m1 sh')(k2:AO w b2 m2 dt')(r1 r2:Int)(hr1:Hid (Ap c d sh dt sh' dt'=r1))(hr2:Hid (Ap d c sh' dt' sh dt=r2))(hr:MQ r1 r2=0)(hok:AJ c sh dt=true)(hok':AJ d sh' dt'=true)(hn:n1<=1)(hm:m1<=1)(hne:n2≠1/\n2≠Bu n2 m2):Calls prog 263 #[.agg #[.bool c,.slice a1 n1 c1,.slice a2 n2 c2],.agg #[.bool d,.slice b1 m1 d1,.slice b2 m2 d2]] w (Ag w (AT 5)):=by
 have HR:=AD hr;have HJ:Hid (∀wx,Below w.heap.size w wx->_):=fun wx hwx=>H8 c d a1 a2 b1 b2 n1 n2 m1 m2 c1 c2 d1 d2 sh dt sh' dt' wx (h1.below AC hwx) (k1.below AC hwx) hok hok' h2.len k2.len hn hm 5 (AD (by rw[AI hne]));clear hr hok hok' hn hm hne;have hs2:=h2.small;have hs4:=k2.small;obtain⟨W0,hW0⟩:∃W0,W0=(((w.alloc (.cells #[.bool c,.slice a1 n1 c1,.slice a2 n2 c2] 25)).alloc (.cells #[.bool d,.slice b1 m1 d1,.slice b2 m2 d2] 25)).alloc (.cells #[.bool false,.slice none 0 0,.slice none 0 0] 25)):=⟨_,rfl⟩
 have hbW:Below w.heap.size w W0:=by rw[hW0];exact(((AN _ w).alloc AC _).alloc (by simp) _).alloc (by simp;omega) _
 have HBOX:Hid (∀wx,Below W0.heap.size W0 wx->Ai wx w.heap.size c (.slice a1 n1 c1) (.slice a2 n2 c2)/\Ai wx (w.heap.size+1) d (.slice b1 m1 d1) (.slice b2 m2 d2)/\Ai wx (w.heap.size+2) false (.slice none 0 0) (.slice none 0 0)/\Below w.heap.size w wx):=fun wx hwx=>by rw[hW0]at hwx;exact Az hwx
 have HL1:Hid (∀wx,Below W0.heap.size W0 wx->Calls prog 57 #[.agg #[.bool c,.slice a1 n1 c1,.slice a2 n2 c2],.agg #[.bool d,.slice b1 m1 d1,.slice b2 m2 d2]] wx fun e w'=>e=.returned (.int .i64 r1)/\Below wx.heap.size wx w'):=fun wx hwx=>Ao c d a1 a2 b1 b2 n1 n2 m1 m2 c1 c2 d1 d2 sh dt sh' dt' wx (h1.below AC (hbW.trans (hwx.mono hbW.size))) (h2.below AC (hbW.trans (hwx.mono hbW.size))) (k1.below AC (hbW.trans (hwx.mono hbW.size))) (k2.below AC (hbW.trans (hwx.mono hbW.size))) r1 hr1;have HL2:Hid (∀wx,Below W0.heap.size W0 wx->Calls prog 57 #[.agg #[.bool d,.slice b1 m1 d1,.slice b2 m2 d2],.agg #[.bool c,.slice a1 n1 c1,.slice a2 n2 c2]] wx fun e w'=>e=.returned (.int .i64 r2)/\Below wx.heap.size wx w'):=fun wx hwx=>Ao d c b1 b2 a1 a2 m1 m2 n1 n2 d1 d2 c1 c2 sh' dt' sh dt wx (k1.below AC (hbW.trans (hwx.mono hbW.size))) (k2.below AC (hbW.trans (hwx.mono hbW.size))) (h1.below AC (hbW.trans (hwx.mono hbW.size))) (h2.below AC (hbW.trans (hwx.mono hbW.size))) r2 hr2;have HKEEP:∀wx,Below W0.heap.size W0 wx->Below W0.heap.size W0 wx/\(wx.cell? ⟨w.heap.size,0,none⟩=some (.bool c)/\wx.cell? ⟨w.heap.size,1,none⟩=some (.slice a1 n1 c1)/\wx.cell? ⟨w.heap.size,2,none⟩=some (.slice a2 n2 c2))/\(wx.cell? ⟨w.heap.size+1,0,none⟩=some (.bool d)/\wx.cell? ⟨w.heap.size+1,1,none⟩=some (.slice b1 m1 d1)/\wx.cell? ⟨w.heap.size+1,2,none⟩=some (.slice b2 m2 d2)):=fun wx hwx=>⟨hwx,(AA HBOX _ hwx).1.cells,(AA HBOX _ hwx).2.1.cells⟩
 clear h1 h2 k1 k2 hr1 hr2 hbW;obtain⟨_,⟨x0,x1,x2⟩,⟨y0,y1,y2⟩⟩:=HKEEP _ AG;go_enter func263,ntmps263;go_upto_region 1 with fail;rw[<-hW0];clear hW0
 go_region_held (fun wx=>Below W0.heap.size W0 wx/\(wx.cell? ⟨w.heap.size,0,none⟩=some (.bool c)/\wx.cell? ⟨w.heap.size,1,none⟩=some (.slice a1 n1 c1)/\wx.cell? ⟨w.heap.size,2,none⟩=some (.slice a2 n2 c2))/\(wx.cell? ⟨w.heap.size+1,0,none⟩=some (.bool d)/\wx.cell? ⟨w.heap.size+1,1,none⟩=some (.slice b1 m1 d1)/\wx.cell? ⟨w.heap.size+1,2,none⟩=some (.slice b2 m2 d2))) (first|exact HKEEP _ hKC|exact HKEEP _ (hKB.alloc hKB.size _)|exact HKEEP _ hKB|exact HKEEP _ hKA|exact HKEEP _ AG.drew|(refine HKEEP _ ?_;repeat(first|exact hKC|exact hKB|exact hKA|exact AG|refine BF ?_|refine BD ?_ (by first|omega|(simp<;>omega)) _))) (first
  |(go_at_call 57;have hz:=hKA;refine(AA HL2 _ hKA).mono ?_;rintro e wB⟨rfl,hbB⟩;have hKB:Below W0.heap.size W0 wB:=hKA.trans (hbB.mono hKA.size);obtain⟨_,⟨x0,x1,x2⟩,⟨y0,y1,y2⟩⟩:=HKEEP _ hKB)
  |(go_at_call 57;refine(AA HL1 _ AG.drew).mono ?_;rintro e wA⟨rfl,hbA⟩;have hKA:Below W0.heap.size W0 wA:=AG.drew.trans (hbA.mono (by simp));obtain⟨_,⟨x0,x1,x2⟩,⟨y0,y1,y2⟩⟩:=HKEEP _ hKA)
  |(go_at_call 300;refine(O6 r1 r2 wB.heap.size _ (by exact cell_of_row _ _ 0 _ _ (0,0) (heap_alloc_last wB _)) (by exact cell_of_row _ _ 1 _ _ (0,0) (heap_alloc_last wB _))).mono ?_;rintro e wC⟨rfl,hwC⟩;have hKC:Below W0.heap.size W0 wC:=(by rw[hwC];repeat(first|exact hKB|refine BF ?_|refine BD ?_ (by first|omega|(have:=hKB.size;omega)) _));clear hwC;obtain⟨_,⟨x0,x1,x2⟩,⟨y0,y1,y2⟩⟩:=HKEEP _ hKC))
 all_goals rw[AA HR]
 all_goals go_wp2_with fail
 all_goals refine(AA HJ _ (AA HBOX _ hKC).2.2.2).mono ?_
 all_goals(rintro e wJ⟨cnt,rfl,_,hbJ⟩;have hKJ:Below W0.heap.size W0 wJ:=hKC.trans (hbJ.mono hKC.size);obtain⟨q0,q1,q2,q3,q4,q5,q6⟩:=(AA HBOX _ hKJ).2.2.1.all;have HBw:=AD (AA HBOX _ hKJ).2.2.2;clear hbJ)
 all_goals go_wp2_with fail
 all_goals
  have hx:Ai ((((wJ.setCell ⟨w.heap.size+1+1,0,none⟩ (.bool false)).setCell ⟨w.heap.size+1+1,1,none⟩ (.slice none 0 0)).setCell ⟨w.heap.size+1+1,2,none⟩ (.slice none 0 0)).alloc (.cells #[.int .i64 (cnt:Nat)] 3)) (w.heap.size+1+1) false (.slice none 0 0) (.slice none 0 0):=((AA HBOX _ hKJ).2.2.1.sets (c':=false) (u1:=.slice none 0 0) (u2:=.slice none 0 0)).alloc _;obtain⟨s0,s1,s2,_,_,_,_⟩:=hx.all;refine bodyPost_ret (v:=.tuple #[.agg #[.bool false,.slice none 0 0,.slice none 0 0],.int .i64 5]) (by simp[results,results263,go_sem,s0,s1,s2]) rfl ?_;exact As (((((AA HBw).setCell (by simp<;>omega) _).setCell (by simp<;>omega) _).setCell (by simp<;>omega) _).alloc (by have:=(AA HBw).size;simp;omega) _)
end
section
open Go.Shelf
def Lc(c d:Bool)(a1 a2 b1 b2:Option Addr)(n1 n2 m1 m2 c1 c2 d1 d2:Nat)(sh dt sh' dt':List Int)(w:World)(h1:AO w a1 n1 sh)(h2:AO w a2 n2 dt)(k1:AO w b1 m1 sh')(k2:AO w b2 m2 dt')(r1 r2:Int)(hr1:Hid (Ap c d sh dt sh' dt'=r1))(hr2:Hid (Ap d c sh' dt' sh dt=r2))(ga gb:Addr)(hG:VK w ga gb)(hr:MQ r1 r2=0)(hok:AJ c sh dt=true)(hok':AJ d sh' dt'=true)(hn:n1<=1)(hm:m1<=1)(hne:n2=1\/n2=Bu n2 m2)(v:Int)(hrr:Bw dt dt' n2 m2 (Bu n2 m2)=some v):Calls prog 263 #[.agg #[.bool c,.slice a1 n1 c1,.slice a2 n2 c2],.agg #[.bool d,.slice b1 m1 d1,.slice b2 m2 d2]] w (Ag w (⟨false,[],[v],0⟩)):=by
 have HR:=AD hr;have hlm:m2=1\/m2=Bu n2 m2:=by unfold Bu;split<;>omega
 have HJ:Hid (∀wx,Below w.heap.size w wx->_):=fun wx hwx=>H8 c d a1 a2 b1 b2 n1 n2 m1 m2 c1 c2 d1 d2 sh dt sh' dt' wx (h1.below AC hwx) (k1.below AC hwx) hok hok' h2.len k2.len hn hm 0 (AD (by rw[AH (by omega)]));have Bq:Bu n2 m2<=10000:=by have e1:=(Fn hok).2;have e2:=(FV sh).2;have e3:=(Fn hok').2;have e4:=(FV sh').2;rw[h2.len]at e1;rw[k2.len]at e3;unfold Bu;split<;>omega
 obtain⟨m,hmm⟩:∃m,Bu n2 m2=m:=⟨_,rfl⟩
 rw[hmm]at Bq hne hlm HJ hrr;have hbd:∀k,-1000000000000000<=dt.getD k 0/\dt.getD k 0<=1000000000000000:=fun k=>Ls hok k;have hbd':∀k,-1000000000000000<=dt'.getD k 0/\dt'.getD k 0<=1000000000000000:=fun k=>Ls hok' k;have HCLO:Hid (∀pc W,Ai W w.heap.size c (.slice a1 n1 c1) (.slice a2 n2 c2)->Ai W (w.heap.size+1) d (.slice b1 m1 d1) (.slice b2 m2 d2)->W.cell? ⟨pc,0,none⟩=some (.int .i64 (m:Nat))->Below w.heap.size w W->F8 ga gb 301 #[.pointer (some ⟨w.heap.size,0,none⟩),.pointer (some ⟨pc,0,none⟩),.pointer (some ⟨w.heap.size+1,0,none⟩)] (fun _=>M7 (Bw dt dt' n2 m2 m)) 1 W):=fun pc W hA hB hC hb k hk W2 hW2=>by have hpl:=AU _ _ hC;exact Oc ga gb c d a1 a2 b1 b2 n1 n2 m1 m2 c1 c2 d1 d2 w.heap.size pc (w.heap.size+1) m k dt dt' W2 (hA.below AC hW2) (hB.below AC hW2) ((hW2.cell (p:=⟨pc,0,none⟩) hpl).trans hC) (h2.below AC (hb.trans (hW2.mono hb.size))) (k2.below AC (hb.trans (hW2.mono hb.size))) (hG.below (hb.trans (hW2.mono hb.size))) Bq hne hlm hbd hbd'
 have HGD:=AD hG;rw[hrr]at HCLO;clear hr hok hok' hn hm hne hlm hbd hbd' Bq hmm hrr hG;have hs2:=h2.small;have hs4:=k2.small;obtain⟨W0,hW0⟩:∃W0,W0=(((w.alloc (.cells #[.bool c,.slice a1 n1 c1,.slice a2 n2 c2] 25)).alloc (.cells #[.bool d,.slice b1 m1 d1,.slice b2 m2 d2] 25)).alloc (.cells #[.bool false,.slice none 0 0,.slice none 0 0] 25)):=⟨_,rfl⟩
 have hbW:Below w.heap.size w W0:=by rw[hW0];exact(((AN _ w).alloc AC _).alloc (by simp) _).alloc (by simp;omega) _
 have HBOX:Hid (∀wx,Below W0.heap.size W0 wx->Ai wx w.heap.size c (.slice a1 n1 c1) (.slice a2 n2 c2)/\Ai wx (w.heap.size+1) d (.slice b1 m1 d1) (.slice b2 m2 d2)/\Ai wx (w.heap.size+2) false (.slice none 0 0) (.slice none 0 0)/\Below w.heap.size w wx):=fun wx hwx=>by rw[hW0]at hwx;exact Az hwx
 have HL1:Hid (∀wx,Below W0.heap.size W0 wx->Calls prog 57 #[.agg #[.bool c,.slice a1 n1 c1,.slice a2 n2 c2],.agg #[.bool d,.slice b1 m1 d1,.slice b2 m2 d2]] wx fun e w'=>e=.returned (.int .i64 r1)/\Below wx.heap.size wx w'):=fun wx hwx=>Ao c d a1 a2 b1 b2 n1 n2 m1 m2 c1 c2 d1 d2 sh dt sh' dt' wx (h1.below AC (hbW.trans (hwx.mono hbW.size))) (h2.below AC (hbW.trans (hwx.mono hbW.size))) (k1.below AC (hbW.trans (hwx.mono hbW.size))) (k2.below AC (hbW.trans (hwx.mono hbW.size))) r1 hr1;have HL2:Hid (∀wx,Below W0.heap.size W0 wx->Calls prog 57 #[.agg #[.bool d,.slice b1 m1 d1,.slice b2 m2 d2],.agg #[.bool c,.slice a1 n1 c1,.slice a2 n2 c2]] wx fun e w'=>e=.returned (.int .i64 r2)/\Below wx.heap.size wx w'):=fun wx hwx=>Ao d c b1 b2 a1 a2 m1 m2 n1 n2 d1 d2 c1 c2 sh' dt' sh dt wx (k1.below AC (hbW.trans (hwx.mono hbW.size))) (k2.below AC (hbW.trans (hwx.mono hbW.size))) (h1.below AC (hbW.trans (hwx.mono hbW.size))) (h2.below AC (hbW.trans (hwx.mono hbW.size))) r2 hr2;have HKEEP:∀wx,Below W0.heap.size W0 wx->Below W0.heap.size W0 wx/\(wx.cell? ⟨w.heap.size,0,none⟩=some (.bool c)/\wx.cell? ⟨w.heap.size,1,none⟩=some (.slice a1 n1 c1)/\wx.cell? ⟨w.heap.size,2,none⟩=some (.slice a2 n2 c2))/\(wx.cell? ⟨w.heap.size+1,0,none⟩=some (.bool d)/\wx.cell? ⟨w.heap.size+1,1,none⟩=some (.slice b1 m1 d1)/\wx.cell? ⟨w.heap.size+1,2,none⟩=some (.slice b2 m2 d2)):=fun wx hwx=>⟨hwx,(AA HBOX _ hwx).1.cells,(AA HBOX _ hwx).2.1.cells⟩
 clear h1 h2 k1 k2 hr1 hr2 hbW;obtain⟨_,⟨x0,x1,x2⟩,⟨y0,y1,y2⟩⟩:=HKEEP _ AG;go_enter func263,ntmps263;go_upto_region 1 with fail;rw[<-hW0];clear hW0
 go_region_held (fun wx=>Below W0.heap.size W0 wx/\(wx.cell? ⟨w.heap.size,0,none⟩=some (.bool c)/\wx.cell? ⟨w.heap.size,1,none⟩=some (.slice a1 n1 c1)/\wx.cell? ⟨w.heap.size,2,none⟩=some (.slice a2 n2 c2))/\(wx.cell? ⟨w.heap.size+1,0,none⟩=some (.bool d)/\wx.cell? ⟨w.heap.size+1,1,none⟩=some (.slice b1 m1 d1)/\wx.cell? ⟨w.heap.size+1,2,none⟩=some (.slice b2 m2 d2))) (first|exact HKEEP _ hKC|exact HKEEP _ (hKB.alloc hKB.size _)|exact HKEEP _ hKB|exact HKEEP _ hKA|exact HKEEP _ AG.drew|(refine HKEEP _ ?_;repeat(first|exact hKC|exact hKB|exact hKA|exact AG|refine BF ?_|refine BD ?_ (by first|omega|(simp<;>omega)) _))) (first
  |(go_at_call 57;have hz:=hKA;refine(AA HL2 _ hKA).mono ?_;rintro e wB⟨rfl,hbB⟩;have hKB:Below W0.heap.size W0 wB:=hKA.trans (hbB.mono hKA.size);obtain⟨_,⟨x0,x1,x2⟩,⟨y0,y1,y2⟩⟩:=HKEEP _ hKB)
  |(go_at_call 57;refine(AA HL1 _ AG.drew).mono ?_;rintro e wA⟨rfl,hbA⟩;have hKA:Below W0.heap.size W0 wA:=AG.drew.trans (hbA.mono (by simp));obtain⟨_,⟨x0,x1,x2⟩,⟨y0,y1,y2⟩⟩:=HKEEP _ hKA)
  |(go_at_call 300;refine(O6 r1 r2 wB.heap.size _ (by exact cell_of_row _ _ 0 _ _ (0,0) (heap_alloc_last wB _)) (by exact cell_of_row _ _ 1 _ _ (0,0) (heap_alloc_last wB _))).mono ?_;rintro e wC⟨rfl,hwC⟩;have hKC:Below W0.heap.size W0 wC:=(by rw[hwC];repeat(first|exact hKB|refine BF ?_|refine BD ?_ (by first|omega|(have:=hKB.size;omega)) _));clear hwC;obtain⟨_,⟨x0,x1,x2⟩,⟨y0,y1,y2⟩⟩:=HKEEP _ hKC))
 all_goals rw[AA HR]
 all_goals go_wp2_with fail
 all_goals refine(AA HJ _ (AA HBOX _ hKC).2.2.2).mono ?_
 all_goals(rintro e wJ⟨cnt,rfl,hcnt,hbJ⟩;have hct:=hcnt trivial;subst hct;have hKJ:Below W0.heap.size W0 wJ:=hKC.trans (hbJ.mono hKC.size);clear hbJ hcnt)
 all_goals
  have hKX:Below W0.heap.size W0 (wJ.alloc (.cells #[.int .i64 (cnt:Nat)] 3)):=hKJ.alloc hKJ.size _;obtain⟨bA,bB,bR,bl⟩:=AA HBOX _ hKX;have hcC:(wJ.alloc (.cells #[.int .i64 (cnt:Nat)] 3)).cell? ⟨wJ.heap.size,0,none⟩=some (.int .i64 (cnt:Nat)):=cell_of_row _ _ 0 _ _ (0,0) (heap_alloc_last wJ _);have HEL:=AD (AA HCLO wJ.heap.size _ bA bB hcC bl);have HGX:=AD ((AA HGD).below bl);have HBR:=AD bR;have HBL:=AD bl;have egd:∀args w,(callFunc 301 args).run prog w=.ok (.enter 301 args) w:=enters_of func301 (by kernel_rfl) rfl;clear bA bB bR bl hcC hKX;go_wp2_with(go_at_call 118;refine(OJ ga gb 301 _ egd _ _ (.inl rfl) _ (AA HGX) (AA HEL)).mono ?_;rintro e wR⟨hres,hbR⟩;obtain⟨_,p,hp,rfl,DI⟩|⟨hne,_⟩:=hres;rotate_left;exact absurd (by simp[Ay]) hne;have HK:=AD (show BA wR p [v]from DI);have HP:=AD hp;clear DI hp;have HBX:=AD ((AA HBR).below AC hbR);have HLW:=AD ((AA HBL).trans (hbR.mono (AA HBL).size));obtain⟨q0,q1,q2,q3,q4,q5,q6⟩:=(AA HBX).all;clear hbR);have hx:Ai (((wR.setCell ⟨w.heap.size+1+1,0,none⟩ (.bool false)).setCell ⟨w.heap.size+1+1,1,none⟩ (.slice none 0 0)).setCell ⟨w.heap.size+1+1,2,none⟩ (.slice (some ⟨p,0,none⟩) 1 1)) (w.heap.size+1+1) false (.slice none 0 0) (.slice (some ⟨p,0,none⟩) 1 1):=(AA HBX).sets;obtain⟨s0,s1,s2,_,_,_,_⟩:=hx.all;refine bodyPost_ret (v:=.tuple #[.agg #[.bool false,.slice none 0 0,.slice (some ⟨p,0,none⟩) 1 1],.int .i64 0]) (by simp[results,results263,go_sem,s0,s1,s2]) rfl ?_;have hz:=(AA HBR).lt;have hk:BA wR p [v]:=AA HK;have hp':=AA HP;have hne:p≠w.heap.size+2:=by omega
  refine⟨none,0,0,some ⟨p,0,none⟩,1,1,rfl,Hv _ _ _,BA.own (((hk.other (p:=⟨w.heap.size+2,0,none⟩) hne _).other (p:=⟨w.heap.size+2,1,none⟩) hne _).other (p:=⟨w.heap.size+2,2,none⟩) hne _) rfl (by omega) (by have:=(AA HBL).size;omega),fun _ h=>absurd rfl h.1,(((AA HLW).setCell (by simp<;>omega) _).setCell (by simp<;>omega) _).setCell (by simp<;>omega) _⟩
def Ld(c d:Bool)(a1 a2 b1 b2:Option Addr)(n1 n2 m1 m2 c1 c2 d1 d2:Nat)(sh dt sh' dt':List Int)(w:World)(h1:AO w a1 n1 sh)(h2:AO w a2 n2 dt)(k1:AO w b1 m1 sh')(k2:AO w b2 m2 dt')(r1 r2:Int)(hr1:Hid (Ap c d sh dt sh' dt'=r1))(hr2:Hid (Ap d c sh' dt' sh dt=r2))(ga gb:Addr)(hG:VK w ga gb)(hr:MQ r1 r2=0)(hok:AJ c sh dt=true)(hok':AJ d sh' dt'=true)(hn:n1<=1)(hm:m1<=1)(hne:n2=1\/n2=Bu n2 m2)(hrr:Bw dt dt' n2 m2 (Bu n2 m2)=none):Calls prog 263 #[.agg #[.bool c,.slice a1 n1 c1,.slice a2 n2 c2],.agg #[.bool d,.slice b1 m1 d1,.slice b2 m2 d2]] w (Ag w (AT 7)):=by
 have HR:=AD hr;have hlm:m2=1\/m2=Bu n2 m2:=by unfold Bu;split<;>omega
 have HJ:Hid (∀wx,Below w.heap.size w wx->_):=fun wx hwx=>H8 c d a1 a2 b1 b2 n1 n2 m1 m2 c1 c2 d1 d2 sh dt sh' dt' wx (h1.below AC hwx) (k1.below AC hwx) hok hok' h2.len k2.len hn hm 0 (AD (by rw[AH (by omega)]));have Bq:Bu n2 m2<=10000:=by have e1:=(Fn hok).2;have e2:=(FV sh).2;have e3:=(Fn hok').2;have e4:=(FV sh').2;rw[h2.len]at e1;rw[k2.len]at e3;unfold Bu;split<;>omega
 obtain⟨m,hmm⟩:∃m,Bu n2 m2=m:=⟨_,rfl⟩
 rw[hmm]at Bq hne hlm HJ hrr;have hbd:∀k,-1000000000000000<=dt.getD k 0/\dt.getD k 0<=1000000000000000:=fun k=>Ls hok k;have hbd':∀k,-1000000000000000<=dt'.getD k 0/\dt'.getD k 0<=1000000000000000:=fun k=>Ls hok' k;have HCLO:Hid (∀pc W,Ai W w.heap.size c (.slice a1 n1 c1) (.slice a2 n2 c2)->Ai W (w.heap.size+1) d (.slice b1 m1 d1) (.slice b2 m2 d2)->W.cell? ⟨pc,0,none⟩=some (.int .i64 (m:Nat))->Below w.heap.size w W->F8 ga gb 301 #[.pointer (some ⟨w.heap.size,0,none⟩),.pointer (some ⟨pc,0,none⟩),.pointer (some ⟨w.heap.size+1,0,none⟩)] (fun _=>M7 (Bw dt dt' n2 m2 m)) 1 W):=fun pc W hA hB hC hb k hk W2 hW2=>by have hpl:=AU _ _ hC;exact Oc ga gb c d a1 a2 b1 b2 n1 n2 m1 m2 c1 c2 d1 d2 w.heap.size pc (w.heap.size+1) m k dt dt' W2 (hA.below AC hW2) (hB.below AC hW2) ((hW2.cell (p:=⟨pc,0,none⟩) hpl).trans hC) (h2.below AC (hb.trans (hW2.mono hb.size))) (k2.below AC (hb.trans (hW2.mono hb.size))) (hG.below (hb.trans (hW2.mono hb.size))) Bq hne hlm hbd hbd'
 have HGD:=AD hG;rw[hrr]at HCLO;clear hr hok hok' hn hm hne hlm hbd hbd' Bq hmm hrr hG;have hs2:=h2.small;have hs4:=k2.small;obtain⟨W0,hW0⟩:∃W0,W0=(((w.alloc (.cells #[.bool c,.slice a1 n1 c1,.slice a2 n2 c2] 25)).alloc (.cells #[.bool d,.slice b1 m1 d1,.slice b2 m2 d2] 25)).alloc (.cells #[.bool false,.slice none 0 0,.slice none 0 0] 25)):=⟨_,rfl⟩
 have hbW:Below w.heap.size w W0:=by rw[hW0];exact(((AN _ w).alloc AC _).alloc (by simp) _).alloc (by simp;omega) _
 have HBOX:Hid (∀wx,Below W0.heap.size W0 wx->Ai wx w.heap.size c (.slice a1 n1 c1) (.slice a2 n2 c2)/\Ai wx (w.heap.size+1) d (.slice b1 m1 d1) (.slice b2 m2 d2)/\Ai wx (w.heap.size+2) false (.slice none 0 0) (.slice none 0 0)/\Below w.heap.size w wx):=fun wx hwx=>by rw[hW0]at hwx;exact Az hwx
 have HL1:Hid (∀wx,Below W0.heap.size W0 wx->Calls prog 57 #[.agg #[.bool c,.slice a1 n1 c1,.slice a2 n2 c2],.agg #[.bool d,.slice b1 m1 d1,.slice b2 m2 d2]] wx fun e w'=>e=.returned (.int .i64 r1)/\Below wx.heap.size wx w'):=fun wx hwx=>Ao c d a1 a2 b1 b2 n1 n2 m1 m2 c1 c2 d1 d2 sh dt sh' dt' wx (h1.below AC (hbW.trans (hwx.mono hbW.size))) (h2.below AC (hbW.trans (hwx.mono hbW.size))) (k1.below AC (hbW.trans (hwx.mono hbW.size))) (k2.below AC (hbW.trans (hwx.mono hbW.size))) r1 hr1;have HL2:Hid (∀wx,Below W0.heap.size W0 wx->Calls prog 57 #[.agg #[.bool d,.slice b1 m1 d1,.slice b2 m2 d2],.agg #[.bool c,.slice a1 n1 c1,.slice a2 n2 c2]] wx fun e w'=>e=.returned (.int .i64 r2)/\Below wx.heap.size wx w'):=fun wx hwx=>Ao d c b1 b2 a1 a2 m1 m2 n1 n2 d1 d2 c1 c2 sh' dt' sh dt wx (k1.below AC (hbW.trans (hwx.mono hbW.size))) (k2.below AC (hbW.trans (hwx.mono hbW.size))) (h1.below AC (hbW.trans (hwx.mono hbW.size))) (h2.below AC (hbW.trans (hwx.mono hbW.size))) r2 hr2;have HKEEP:∀wx,Below W0.heap.size W0 wx->Below W0.heap.size W0 wx/\(wx.cell? ⟨w.heap.size,0,none⟩=some (.bool c)/\wx.cell? ⟨w.heap.size,1,none⟩=some (.slice a1 n1 c1)/\wx.cell? ⟨w.heap.size,2,none⟩=some (.slice a2 n2 c2))/\(wx.cell? ⟨w.heap.size+1,0,none⟩=some (.bool d)/\wx.cell? ⟨w.heap.size+1,1,none⟩=some (.slice b1 m1 d1)/\wx.cell? ⟨w.heap.size+1,2,none⟩=some (.slice b2 m2 d2)):=fun wx hwx=>⟨hwx,(AA HBOX _ hwx).1.cells,(AA HBOX _ hwx).2.1.cells⟩
 clear h1 h2 k1 k2 hr1 hr2 hbW;obtain⟨_,⟨x0,x1,x2⟩,⟨y0,y1,y2⟩⟩:=HKEEP _ AG;go_enter func263,ntmps263;go_upto_region 1 with fail;rw[<-hW0];clear hW0
 go_region_held (fun wx=>Below W0.heap.size W0 wx/\(wx.cell? ⟨w.heap.size,0,none⟩=some (.bool c)/\wx.cell? ⟨w.heap.size,1,none⟩=some (.slice a1 n1 c1)/\wx.cell? ⟨w.heap.size,2,none⟩=some (.slice a2 n2 c2))/\(wx.cell? ⟨w.heap.size+1,0,none⟩=some (.bool d)/\wx.cell? ⟨w.heap.size+1,1,none⟩=some (.slice b1 m1 d1)/\wx.cell? ⟨w.heap.size+1,2,none⟩=some (.slice b2 m2 d2))) (first|exact HKEEP _ hKC|exact HKEEP _ (hKB.alloc hKB.size _)|exact HKEEP _ hKB|exact HKEEP _ hKA|exact HKEEP _ AG.drew|(refine HKEEP _ ?_;repeat(first|exact hKC|exact hKB|exact hKA|exact AG|refine BF ?_|refine BD ?_ (by first|omega|(simp<;>omega)) _))) (first
  |(go_at_call 57;have hz:=hKA;refine(AA HL2 _ hKA).mono ?_;rintro e wB⟨rfl,hbB⟩;have hKB:Below W0.heap.size W0 wB:=hKA.trans (hbB.mono hKA.size);obtain⟨_,⟨x0,x1,x2⟩,⟨y0,y1,y2⟩⟩:=HKEEP _ hKB)
  |(go_at_call 57;refine(AA HL1 _ AG.drew).mono ?_;rintro e wA⟨rfl,hbA⟩;have hKA:Below W0.heap.size W0 wA:=AG.drew.trans (hbA.mono (by simp));obtain⟨_,⟨x0,x1,x2⟩,⟨y0,y1,y2⟩⟩:=HKEEP _ hKA)
  |(go_at_call 300;refine(O6 r1 r2 wB.heap.size _ (by exact cell_of_row _ _ 0 _ _ (0,0) (heap_alloc_last wB _)) (by exact cell_of_row _ _ 1 _ _ (0,0) (heap_alloc_last wB _))).mono ?_;rintro e wC⟨rfl,hwC⟩;have hKC:Below W0.heap.size W0 wC:=(by rw[hwC];repeat(first|exact hKB|refine BF ?_|refine BD ?_ (by first|omega|(have:=hKB.size;omega)) _));clear hwC;obtain⟨_,⟨x0,x1,x2⟩,⟨y0,y1,y2⟩⟩:=HKEEP _ hKC))
 all_goals rw[AA HR]
 all_goals go_wp2_with fail
 all_goals refine(AA HJ _ (AA HBOX _ hKC).2.2.2).mono ?_
 all_goals(rintro e wJ⟨cnt,rfl,hcnt,hbJ⟩;have hct:=hcnt trivial;subst hct;have hKJ:Below W0.heap.size W0 wJ:=hKC.trans (hbJ.mono hKC.size);clear hbJ hcnt)
 all_goals
  have hKX:Below W0.heap.size W0 (wJ.alloc (.cells #[.int .i64 (cnt:Nat)] 3)):=hKJ.alloc hKJ.size _;obtain⟨bA,bB,bR,bl⟩:=AA HBOX _ hKX;have hcC:(wJ.alloc (.cells #[.int .i64 (cnt:Nat)] 3)).cell? ⟨wJ.heap.size,0,none⟩=some (.int .i64 (cnt:Nat)):=cell_of_row _ _ 0 _ _ (0,0) (heap_alloc_last wJ _);have HEL:=AD (AA HCLO wJ.heap.size _ bA bB hcC bl);have HGX:=AD ((AA HGD).below bl);have HBR:=AD bR;have HBL:=AD bl;have egd:∀args w,(callFunc 301 args).run prog w=.ok (.enter 301 args) w:=enters_of func301 (by kernel_rfl) rfl;clear bA bB bR bl hcC hKX;go_wp2_with(go_at_call 118;refine(OJ ga gb 301 _ egd _ _ (.inr rfl) _ (AA HGX) (AA HEL)).mono ?_;rintro e wR⟨hres,hbR⟩;obtain⟨hne,_⟩|⟨_,he⟩:=hres;exact absurd hne (by decide);have he7:e=.returned (.tuple #[.agg #[.bool false,.slice none 0 0,.slice none 0 0],.int .i64 7]):=he;subst he7;clear he;have HBX:=AD ((AA HBR).below AC hbR);have HLW:=AD ((AA HBL).trans (hbR.mono (AA HBL).size));obtain⟨q0,q1,q2,q3,q4,q5,q6⟩:=(AA HBX).all;clear hbR);have hx:Ai (((wR.setCell ⟨w.heap.size+1+1,0,none⟩ (.bool false)).setCell ⟨w.heap.size+1+1,1,none⟩ (.slice none 0 0)).setCell ⟨w.heap.size+1+1,2,none⟩ (.slice none 0 0)) (w.heap.size+1+1) false (.slice none 0 0) (.slice none 0 0):=(AA HBX).sets;obtain⟨s0,s1,s2,_,_,_,_⟩:=hx.all;refine bodyPost_ret (v:=.tuple #[.agg #[.bool false,.slice none 0 0,.slice none 0 0],.int .i64 7]) (by simp[results,results263,go_sem,s0,s1,s2]) rfl ?_;exact As ((((AA HLW).setCell (by simp<;>omega) _).setCell (by simp<;>omega) _).setCell (by simp<;>omega) _)
end
section
open Go.Shelf
def Mm(c d:Bool)(a1 a2 b1 b2:Option Addr)(n1 n2 m1 m2 c1 c2 d1 d2:Nat)(sh dt sh' dt':List Int)(w:World)(h1:AO w a1 n1 sh)(h2:AO w a2 n2 dt)(k1:AO w b1 m1 sh')(k2:AO w b2 m2 dt')(ga gb:Addr)(hG:VK w ga gb):Calls prog 263 #[.agg #[.bool c,.slice a1 n1 c1,.slice a2 n2 c2],.agg #[.bool d,.slice b1 m1 d1,.slice b2 m2 d2]] w (Ag w (C8 c d sh dt sh' dt')):=by
 by_cases hok:AJ c sh dt=true/\AJ d sh' dt'=true;case neg=>
  have e1:Ap c d sh dt sh' dt'=3:=by unfold Ap;rw[AH (by simpa using hok)]
  have e2:Ap d c sh' dt' sh dt=3:=by unfold Ap;rw[AH (fun h=>hok ⟨h.2,h.1⟩)]
  have e3:C8 c d sh dt sh' dt'=AT 3:=by unfold C8;rw[AH hok]
  rw[e3];exact Ha c d a1 a2 b1 b2 n1 n2 m1 m2 c1 c2 d1 d2 sh dt sh' dt' w h1 h2 k1 k2 3 3 (AD e1) (AD e2) 3 rfl (by decide)
 obtain⟨ok1,ok2⟩:=hok;have e1:Ap c d sh dt sh' dt'=Ae c n1:=by unfold Ap;rw[AI ⟨ok1,ok2⟩,h1.len]
 have e2:Ap d c sh' dt' sh dt=Ae d m1:=by unfold Ap;rw[AI ⟨ok2,ok1⟩,k1.len]
 have ec:MQ (Ae c n1) (Ae d m1)=Dw c d n1 m1:=by unfold MQ Dw;rfl
 by_cases h0:Dw c d n1 m1=0;case neg=>
  rw[LE ok1 ok2 (Dw c d n1 m1) (by rw[h1.len,k1.len]) h0];exact Ha c d a1 a2 b1 b2 n1 n2 m1 m2 c1 c2 d1 d2 sh dt sh' dt' w h1 h2 k1 k2 _ _ (AD e1) (AD e2) _ ec h0
 have hl:n1<=1/\m1<=1:=by
  have h0':=h0;unfold Dw Ae at h0';refine⟨?_,?_⟩
  .rcases Bz 1 n1 with h|h
   .simp[h]at h0'
   .exact h
  .rcases Bz 1 m1 with h|h
   .by_cases hc:1<n1
    .simp[hc]at h0'
    .cases c<;>simp[h,hc]at h0'
   .exact h
 by_cases Bq:n2≠1/\n2≠Bu n2 m2
 .rw[M3 ok1 ok2 (by rw[h1.len,k1.len];exact h0) n2 m2 h2.len k2.len Bq.1 Bq.2];exact Ml c d a1 a2 b1 b2 n1 n2 m1 m2 c1 c2 d1 d2 sh dt sh' dt' w h1 h2 k1 k2 _ _ (AD e1) (AD e2) (ec.trans h0) ok1 ok2 hl.1 hl.2 Bq
 .have hne:n2=1\/n2=Bu n2 m2:=by omega
  rw[Ob ok1 ok2 (by rw[h1.len,k1.len];exact h0) n2 m2 h2.len k2.len hne];cases hs:Bw dt dt' n2 m2 (Bu n2 m2)with
  |none=>exact Ld c d a1 a2 b1 b2 n1 n2 m1 m2 c1 c2 d1 d2 sh dt sh' dt' w h1 h2 k1 k2 _ _ (AD e1) (AD e2) ga gb hG (ec.trans h0) ok1 ok2 hl.1 hl.2 hne hs
  |some v=>exact Lc c d a1 a2 b1 b2 n1 n2 m1 m2 c1 c2 d1 d2 sh dt sh' dt' w h1 h2 k1 k2 _ _ (AD e1) (AD e2) ga gb hG (ec.trans h0) ok1 ok2 hl.1 hl.2 hne v hs
end
