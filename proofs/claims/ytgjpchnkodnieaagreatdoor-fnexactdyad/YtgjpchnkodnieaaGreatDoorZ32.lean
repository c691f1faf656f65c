import Derived.Test.YtgjpchnkodnieaaGreatDoorZ30
import Derived.Laws.EntriesVeiled
import Derived.Deep.WholeRow
set_option maxHeartbeats 4000000
set_option linter.defProp false
namespace Go.Proofs.YtgjpchnkodnieaaGreatDoor
open Go.RowKit Tryz
section
open Go.Shelf
def Zl(a b:Int)(w:World)(r:Int)(hr:Hid ((if a<b then a else b)=r)):Calls prog 256 #[.int .i64 a,.int .i64 b] w fun e w'=>e=.returned (.int .i64 r)/\w'=w:=by
 rw[<-AA hr];clear hr;by_cases h:a<b
 .rw[AI h];go_enter func256,ntmps256
  go_wp2
  go_ret;exact⟨by first|rfl|(simp;done)|(simp;omega),rfl⟩
 .rw[AH h];by_cases h2:a=b
  .subst h2;go_enter func256,ntmps256
   go_wp2
   go_ret;exact⟨by first|rfl|(simp;done)|(simp;omega),rfl⟩
  .have h3:b<a:=by omega
   clear h2;go_enter func256,ntmps256
   go_wp2
   go_ret;exact⟨by first|rfl|(simp;done)|(simp;omega),rfl⟩
def Zm(a b:Int)(w:World)(r:Int)(hr:Hid ((if a<b then b else a)=r)):Calls prog 257 #[.int .i64 a,.int .i64 b] w fun e w'=>e=.returned (.int .i64 r)/\w'=w:=by
 rw[<-AA hr];clear hr;by_cases h:a<b
 .rw[AI h];go_enter func257,ntmps257
  go_wp2
  go_ret;exact⟨by first|rfl|(simp;done)|(simp;omega),rfl⟩
 .rw[AH h];by_cases h2:a=b
  .subst h2;go_enter func257,ntmps257
   go_wp2
   go_ret;exact⟨by first|rfl|(simp;done)|(simp;omega),rfl⟩
  .have h3:b<a:=by omega
   clear h2;go_enter func257,ntmps257
   go_wp2
   go_ret;exact⟨by first|rfl|(simp;done)|(simp;omega),rfl⟩
def Qb{a b op:Int}(h:¬((a=0\/a=1)/\(b=0\/b=1)))(hop:op=15\/op=16):BQ op a b=(0,3):=by rcases hop with rfl|rfl<;>simp[BQ]<;>omega
def Uc{a b:Int}(ha:a=0\/a=1)(hb:b=0\/b=1):BQ 15 a b=(if a<b then a else b,0):=by rcases ha with rfl|rfl<;>rcases hb with rfl|rfl<;>decide
def Wq{a b:Int}(ha:a=0\/a=1)(hb:b=0\/b=1):BQ 16 a b=(if a<b then b else a,0):=by rcases ha with rfl|rfl<;>rcases hb with rfl|rfl<;>decide
def Po{a:Int}(h:a=0\/a=1):Cj a 0 1=true:=AL (by omega)
def Kj{a:Int}(h:¬(a=0\/a=1)):Cj a 0 1=false:=AK (by omega)
def TX(op a b:Int)(ga gb:Addr)(p:Nat)(w:World)(hG:Gl w ga gb)(hop:(op=15/\w.cell? ⟨p,0,none⟩=some (.func (.func 256) #[] #[]))\/(op=16/\w.cell? ⟨p,0,none⟩=some (.func (.func 257) #[] #[]))):Calls prog 282 #[.int .i64 a,.int .i64 b,.pointer (some ⟨p,0,none⟩)] w (Cp ga gb (BQ op a b) w):=by
 have hc:=hG.no;clear hG;by_cases hA:a=0\/a=1
 .have HWA:=AD (Po hA);by_cases hB:b=0\/b=1
  .have HWB:=AD (Po hB);rcases hop with⟨rfl,hf⟩|⟨rfl,hf⟩
   .have HE:=AD (Uc hA hB);obtain⟨r,hr⟩:∃r,(if a<b then a else b)=r:=⟨_,rfl⟩
    rw[hr]at HE;have HR:=AD hr;clear hr hA hB;go_enter func282,ntmps282;go_wp2_with(first
     |(go_at_call_of 283 (Value.int .i64 a);refine(EZ _ _ _ HWA).mono ?_;rintro e w⟨rfl,rfl⟩)
     |(go_at_call_of 283 (Value.int .i64 b);refine(EZ _ _ _ HWB).mono ?_;rintro e w⟨rfl,rfl⟩)
     |(go_at_call 256;refine(Zl _ _ _ _ HR).mono ?_;rintro e w⟨rfl,rfl⟩))
    go_ret2;exact A3 (c:=0) (q:=0) HE.out rfl
   .have HE:=AD (Wq hA hB);obtain⟨r,hr⟩:∃r,(if a<b then b else a)=r:=⟨_,rfl⟩
    rw[hr]at HE;have HR:=AD hr;clear hr hA hB;go_enter func282,ntmps282;go_wp2_with(first
     |(go_at_call_of 283 (Value.int .i64 a);refine(EZ _ _ _ HWA).mono ?_;rintro e w⟨rfl,rfl⟩)
     |(go_at_call_of 283 (Value.int .i64 b);refine(EZ _ _ _ HWB).mono ?_;rintro e w⟨rfl,rfl⟩)
     |(go_at_call 257;refine(Zm _ _ _ _ HR).mono ?_;rintro e w⟨rfl,rfl⟩))
    go_ret2;exact A3 (c:=0) (q:=0) HE.out rfl
  .have HWB:=AD (Kj hB);have HE:=AD (Qb (op:=op) (a:=a) (b:=b) (fun h=>hB h.2) (by rcases hop with h|h;exact .inl h.1;exact .inr h.1));clear hop hA hB;go_enter func282,ntmps282;go_wp2_with(first
    |(go_at_call_of 283 (Value.int .i64 a);refine(EZ _ _ _ HWA).mono ?_;rintro e w⟨rfl,rfl⟩)
    |(go_at_call_of 283 (Value.int .i64 b);refine(EZ _ _ _ HWB).mono ?_;rintro e w⟨rfl,rfl⟩))
   go_quiet(fail)
   go_wp2
   go_ret2;exact A3 (c:=3) HE.out rfl
 .have HWA:=AD (Kj hA);have HE:=AD (Qb (op:=op) (a:=a) (b:=b) (fun h=>hA h.1) (by rcases hop with h|h;exact .inl h.1;exact .inr h.1));clear hop hA;go_enter func282,ntmps282;go_wp2_with(go_at_call 283;refine(EZ _ _ _ HWA).mono ?_;rintro e w⟨rfl,rfl⟩);go_quiet(fail)
  go_wp2
  go_ret2;exact A3 (c:=3) HE.out rfl
def I6(ga gb:Addr)(f:Int->Int->Int×Int)(v:Value)(w:World):Prop:=∃g lb,v=.func (.func g) #[] lb/\(∀args w,(callFunc g args).run prog w=.ok (.enter g args) w)/\∀(W:World)(a b:Int),Below w.heap.size w W->(-1000000000000000<=a/\a<=1000000000000000)->(-1000000000000000<=b/\b<=1000000000000000)->Calls prog g (#[.int .i64 a,.int .i64 b]++lb) W (Cp ga gb (f a b) W)
def I6.below{ga gb:Addr}{f:Int->Int->Int×Int}{v:Value}{w w':World}(h:I6 ga gb f v w)(hb:Below w.heap.size w w'):I6 ga gb f v w':=by obtain⟨g,lb,hv,eg,hc⟩:=h;exact⟨g,lb,hv,eg,fun W a b hW ha hbb=>hc W a b (hb.trans (hW.mono hb.size)) ha hbb⟩
def I6.alloc{ga gb:Addr}{f:Int->Int->Int×Int}{v:Value}{w:World}(h:I6 ga gb f v w)(o:Obj):I6 ga gb f v (w.alloc o):=h.below (AG.alloc AC _)
def Kt(p q:Nat):Array Value:= #[.nilFunc,.func (.func 238) #[] #[],.func (.func 240) #[] #[],.func (.func 241) #[] #[],.func (.func 242) #[] #[],.func (.func 243) #[] #[],.func (.func 244) #[] #[],.func (.func 245) #[] #[],.func (.func 247) #[] #[],.func (.func 248) #[] #[],.func (.func 250) #[] #[],.func (.func 251) #[] #[],.func (.func 252) #[] #[],.func (.func 253) #[] #[],.func (.func 254) #[] #[],.func (.func 282) #[] #[.pointer (some ⟨p,0,none⟩)],.func (.func 282) #[] #[.pointer (some ⟨q,0,none⟩)]]
def WC(ga gb:Addr)(p q k:Nat)(v:Value)(w:World)(hG:Gl w ga gb)(hk:1<=k/\k<=16)(hv:(Kt p q)[k]? =some v)(hp:w.cell? ⟨p,0,none⟩=some (.func (.func 256) #[] #[]))(hq:w.cell? ⟨q,0,none⟩=some (.func (.func 257) #[] #[])):I6 ga gb (BQ k) v w:=by
 have hpl:=AU _ _ hp;have hql:=AU _ _ hq;rcases(show k=1\/k=2\/k=3\/k=4\/k=5\/k=6\/k=7\/k=8\/k=9\/k=10\/k=11\/k=12\/k=13\/k=14\/k=15\/k=16 by omega)with rfl|rfl|rfl|rfl|rfl|rfl|rfl|rfl|rfl|rfl|rfl|rfl|rfl|rfl|rfl|rfl;all_goals(obtain rfl:=Dn hv)
 .exact⟨_,_,rfl,enters_of func238 (by kernel_rfl) rfl,fun W a b hW ha hb=>ap a b ga gb W (hG.below hW) ha hb⟩
 .exact⟨_,_,rfl,enters_of func240 (by kernel_rfl) rfl,fun W a b hW ha hb=>ai a b ga gb W (hG.below hW) ha hb⟩
 .exact⟨_,_,rfl,enters_of func241 (by kernel_rfl) rfl,fun W a b hW ha hb=>Y7 a b ga gb W (hG.below hW) ha hb⟩
 .exact⟨_,_,rfl,enters_of func242 (by kernel_rfl) rfl,fun W a b hW ha hb=>ao a b ga gb W (hG.below hW) ha hb⟩
 .exact⟨_,_,rfl,enters_of func243 (by kernel_rfl) rfl,fun W a b _ ha hb=>al a b ga gb W ha hb⟩
 .exact⟨_,_,rfl,enters_of func244 (by kernel_rfl) rfl,fun W a b _ ha hb=>am a b ga gb W ha hb⟩
 .exact⟨_,_,rfl,enters_of func245 (by kernel_rfl) rfl,fun W a b _ ha hb=>ak a b ga gb W ha hb⟩
 .exact⟨_,_,rfl,enters_of func247 (by kernel_rfl) rfl,fun W a b hW ha hb=>aj a b ga gb W (hG.below hW) ha hb⟩
 .exact⟨_,_,rfl,enters_of func248 (by kernel_rfl) rfl,fun W a b _ ha hb=>YX a b ga gb W ha hb⟩
 .exact⟨_,_,rfl,enters_of func250 (by kernel_rfl) rfl,fun W a b _ ha hb=>cK a b ga gb W ha hb⟩
 .exact⟨_,_,rfl,enters_of func251 (by kernel_rfl) rfl,fun W a b _ ha hb=>cM a b ga gb W ha hb⟩
 .exact⟨_,_,rfl,enters_of func252 (by kernel_rfl) rfl,fun W a b _ ha hb=>cO a b ga gb W ha hb⟩
 .exact⟨_,_,rfl,enters_of func253 (by kernel_rfl) rfl,fun W a b _ ha hb=>cR a b ga gb W ha hb⟩
 .exact⟨_,_,rfl,enters_of func254 (by kernel_rfl) rfl,fun W a b _ ha hb=>cQ a b ga gb W ha hb⟩
 .exact⟨_,_,rfl,enters_of func282 (by kernel_rfl) rfl,fun W a b hW _ _=>TX 15 a b ga gb p W (hG.below hW) (.inl ⟨rfl,(hW.cell (p:=⟨p,0,none⟩) hpl).trans hp⟩)⟩
 .exact⟨_,_,rfl,enters_of func282 (by kernel_rfl) rfl,fun W a b hW _ _=>TX 16 a b ga gb q W (hG.below hW) (.inr ⟨rfl,(hW.cell (p:=⟨q,0,none⟩) hql).trans hq⟩)⟩
def JZ(v:Value)(hv:v=.func (.func 256) #[] #[]\/v=.func (.func 257) #[] #[])(w:World):Calls prog 255 #[v] w fun e w'=>e=.returned (.func (.func 282) #[] #[.pointer (some ⟨w.heap.size,0,none⟩)])/\w'=w.alloc (.cells #[v] 91):=by
 rcases hv with rfl|rfl;all_goals
  go_enter func255,ntmps255
  go_wp2
  go_ret;exact⟨rfl,rfl⟩
end
section
open Go.Shelf
def LM(k:Nat)(ga gb:Addr)(w:World)(hG:Gl w ga gb)(hk:1<=k/\k<=16):Calls prog 186 #[.int .i64 (k:Nat)] w fun e w'=>∃v,e=.returned v/\I6 ga gb (BQ k) v w'/\Below w.heap.size w w':=by
 obtain⟨v,hv⟩:∃v,(Kt w.heap.size (w.heap.size+1))[k]? =some v:=⟨_,EJ (by show k<17;omega)⟩
 have HV:=AD hv;have HG:=AD hG;have HK:=AD hk;obtain⟨hk1,hk2⟩:=hk;have hc:(((w.alloc (.cells #[.func (.func 256) #[] #[]] 91)).alloc (.cells #[.func (.func 257) #[] #[]] 91)).alloc (.cells (Kt w.heap.size (w.heap.size+1)) 207)).cell? ⟨w.heap.size+1+1,k,none⟩=some v:=by rw[cell_of_row _ _ k (Kt w.heap.size (w.heap.size+1)) 207 (0,0) (by simpa using heap_alloc_last ((w.alloc (.cells #[.func (.func 256) #[] #[]] 91)).alloc (.cells #[.func (.func 257) #[] #[]] 91)) (.cells (Kt w.heap.size (w.heap.size+1)) 207))];exact hv
 unfold Kt at hc;clear hv hG;go_enter func186,ntmps186;go_wp2_with fail;refine(JZ _ (.inl rfl) _).mono ?_;rintro e w1⟨rfl,rfl⟩;go_wp2_with fail;refine(JZ _ (.inr rfl) _).mono ?_;rintro e w1⟨rfl,rfl⟩
 go_wp2
 go_ret;refine⟨v,rfl,?_,((AG.alloc AC _).alloc (by simp) _).alloc (by simp;omega) _⟩;have hA:=AN (w.heap.size+1) (w.alloc (.cells #[.func (.func 256) #[] #[]] 91));have hA2:=(hA.alloc (by simp) (.cells #[.func (.func 257) #[] #[]] 91)).alloc (by simp) (.cells (Kt w.heap.size (w.heap.size+1)) 207);have hB2:=(AN (w.heap.size+2) ((w.alloc (.cells #[.func (.func 256) #[] #[]] 91)).alloc (.cells #[.func (.func 257) #[] #[]] 91))).alloc (by simp) (.cells (Kt w.heap.size (w.heap.size+1)) 207);have hp:=(hA2.cell (p:=⟨w.heap.size,0,none⟩) (by simp)).trans (cell_of_row _ _ 0 _ _ (0,0) (heap_alloc_last w _));have hq:=(hB2.cell (p:=⟨w.heap.size+1,0,none⟩) (by simp)).trans (cell_of_row _ _ 0 _ _ (0,0) (by simpa using heap_alloc_last (w.alloc (.cells #[.func (.func 256) #[] #[]] 91)) (.cells #[.func (.func 257) #[] #[]] 91)));exact WC ga gb w.heap.size (w.heap.size+1) k v _ ((((AA HG).alloc _).alloc _).alloc _) (AA HK) (AA HV) hp hq
def WD{op:Int}(h:Gb op=true):∃k:Nat,op=k/\1<=k/\k<=16:=by have:=BB h;exact⟨op.toNat,by omega,by omega,by omega⟩
def Hx(op:Int)(ga gb:Addr)(w:World)(hG:Gl w ga gb)(h:Gb op=true):Calls prog 186 #[.int .i64 op] w fun e w'=>∃v,e=.returned v/\I6 ga gb (BQ op) v w'/\Below w.heap.size w w':=by obtain⟨k,rfl,hk⟩:=WD h;exact LM k ga gb w hG hk
def Ef(op:Int)(c d:Bool)(x y:Int):Int×Int:=if c≠d then(Bh (decide (op=10)),0)else BQ op x y
def bS(op:Int)(ga gb:Addr)(p:Nat)(v:Value)(x y:Int)(W:World)(hv:I6 ga gb (BQ op) v W)(hop:GA op=true)(hc:W.cell? ⟨p,0,none⟩=some v):Calls prog 187 #[.int .i64 x,.int .i64 y,.pointer (some ⟨p,0,none⟩)] W (Cp ga gb (Bh (decide (op=10)),0) W):=by
 obtain⟨g,lb,rfl,eg,hcall⟩:=hv;have h01:=hcall W 0 1 AG (by omega) (by omega);have he:BQ op 0 1=(Bh (decide (op=10)),0):=by have:=BB hop;rcases this with rfl|rfl<;>rfl
 rw[he]at h01;have HC:=AD h01;clear h01 hcall he hop;obtain⟨t,ht⟩:∃t,Bh (decide (op=10))=t:=⟨_,rfl⟩
 rw[ht]at HC ⊢;clear ht;go_enter func187,ntmps187;go_wp2_with(go_at_fn g;refine(AA HC).mono ?_;rintro e w1⟨rfl,q,rfl⟩;simp only[IE]);go_ret2;exact A3 (c:=0) rfl rfl
def cW(ga gb:Addr)(op:Int)(c d:Bool)(v:Value)(w:World):Prop:=((c||d)=true/\GA op=false/\v=.nilFunc)\/(¬((c||d)=true/\GA op=false)/\I6 ga gb (Ef op c d) v w)
end
section
open Go.Shelf
def LC{op:Int}{c:Bool}:Ef op c c=BQ op:=by funext x y;simp[Ef]
def Q2{op:Int}{c d:Bool}(h:c≠d):Ef op c d=fun _ _=>(Bh (decide (op=10)),0):=by funext x y;simp[Ef,h]
def Pr{w w1:World}{c d:Bool}{v1 v2 u1 u2:Value}(hb:Below ((w.alloc (.cells #[.bool c,v1,v2] 25)).alloc (.cells #[.bool d,u1,u2] 25)).heap.size ((w.alloc (.cells #[.bool c,v1,v2] 25)).alloc (.cells #[.bool d,u1,u2] 25)) w1):Ai w1 w.heap.size c v1 v2/\Ai w1 (w.heap.size+1) d u1 u2/\Below w.heap.size w w1:=by refine⟨((Ai.new w c v1 v2).alloc _).below AC hb,?_,((AG.alloc AC _).alloc (by simp) _).trans (hb.mono (by simp;omega))⟩;have:=(Ai.new (w.alloc (.cells #[.bool c,v1,v2] 25)) d u1 u2).below AC hb;simpa using this
def Zn{ga gb:Addr}{op:Int}{c d:Bool}{v:Value}{w1:World}(hv:I6 ga gb (BQ op) v w1)(hop:GA op=true)(hne:c≠d):I6 ga gb (Ef op c d) (.func (.func 187) #[] #[.pointer (some ⟨w1.heap.size,0,none⟩)]) (w1.alloc (.cells #[v] 137)):=by refine⟨_,_,rfl,enters_of func187 (by kernel_rfl) rfl,fun W a b hW _ _=> ?_⟩;rw[Q2 hne];exact bS op ga gb _ v a b W ((hv.alloc _).below hW) hop ((hW.cell (p:=⟨w1.heap.size,0,none⟩) (by simp)).trans (cell_of_row _ _ 0 _ _ (0,0) (heap_alloc_last w1 _)))
def FY(op:Int)(c d:Bool)(a1 a2 b1 b2:Option Addr)(n1 n2 m1 m2 c1 c2 d1 d2:Nat)(ga gb:Addr)(w:World)(hG:Gl w ga gb)(hop:Gb op=true):Calls prog 115 #[.int .i64 op,.agg #[.bool c,.slice a1 n1 c1,.slice a2 n2 c2],.agg #[.bool d,.slice b1 m1 d1,.slice b2 m2 d2]] w fun e w'=>∃v,e=.returned v/\cW ga gb op c d v w'/\Below w.heap.size w w':=by
 have HG:=AD hG;have HOP:=AD hop;clear hG hop;by_cases he:GA op=true
 .have he':=BB he;have HE:=AD he;clear he;cases c<;>cases d;all_goals rcases he' with rfl|rfl
  all_goals
   go_enter func115,ntmps115;go_wp2_with(go_at_call 186;refine(Hx _ ga gb _ (((AA HG).alloc _).alloc _) (AA HOP)).mono ?_;rintro e w1⟨v,rfl,hv,hb1⟩;obtain⟨B3,B4,hB1⟩:=Pr hb1;obtain⟨x0,x1,x2,x3,x4,x5,x6⟩:=B3.all;obtain⟨y0,y1,y2,y3,y4,y5,y6⟩:=B4.all;have HV:=AD hv;have HB:=AD hB1;obtain⟨g,lb,rfl,eg,_⟩:=hv;clear hb1 hB1 B3 B4);go_ret;refine⟨_,rfl,.inr ⟨fun h=>(by have:=AA HE;rw[this]at h;cases h.2),?_⟩,(AA HB).alloc (by omega) _⟩;first|(rw[LC];exact(AA HV).alloc _)|exact Zn (AA HV) (AA HE) (by decide)
 .have he2:GA op=false:=by simpa using he
  have HE:=AD he2;have he3:=of_decide_eq_false he2;have q9:(op !=9)=true:=by simp;omega
  have q10:(op !=10)=true:=by simp;omega
  clear he he2 he3;cases c<;>cases d;all_goals
   go_enter func115,ntmps115;go_wp2_with(go_at_call 186;refine(Hx _ ga gb _ (((AA HG).alloc _).alloc _) (AA HOP)).mono ?_;rintro e w1⟨v,rfl,hv,hb1⟩;obtain⟨B3,B4,hB1⟩:=Pr hb1;obtain⟨x0,x1,x2,x3,x4,x5,x6⟩:=B3.all;obtain⟨y0,y1,y2,y3,y4,y5,y6⟩:=B4.all;have HV:=AD hv;have HB:=AD hB1;obtain⟨g,lb,rfl,eg,_⟩:=hv;clear hb1 hB1 B3 B4);go_ret;first
   |exact⟨_,rfl,.inr ⟨fun h=>(by cases h.1),by rw[LC];exact(AA HV).alloc _⟩,(AA HB).alloc (by omega) _⟩
   |exact⟨_,rfl,.inl ⟨rfl,AA HE,rfl⟩,(AA HB).alloc (by omega) _⟩
end
