import Derived.Test.YtgjpchnkodnieaaGreatDoorZ23
import Derived.Test.YtgjpchnkodnieaaGreatDoorZ01
import Derived.Test.YtgjpchnkodnieaaGreatDoorZ21
import Derived.Shelf.Slices.In.SortNone
import Derived.Sort.OwnSortedInts
set_option maxHeartbeats 1000000
set_option linter.defProp false
namespace Go.Proofs.YtgjpchnkodnieaaGreatDoor
open Go.RowKit Tryz
section
open Go.Shelf
def Xz(base n:Nat)(v:Value)(zs:List Int)(w:World)(E2:w.ownsRow base 3 1 v n (zs.map (Value.int .i64)))(hnil:v=.slice none 0 0↔n=0)(hl:zs.length=n)(hn:n<=10000)(hb:base<=w.heap.size):Calls prog 225 #[v] w fun e w'=>e=.returned (.tuple #[])/\w'.ownsRow base 3 1 v n ((CG zs).map (Value.int .i64))/\Below base w w':=by
 by_cases h0:n=0
 .obtain rfl:=hnil.2 h0;subst h0;have hz:zs= []:=Af.1 hl;subst hz;refine(Any.slices_Sort_int_none Tryz.sortI none 0 w).mono ?_;rintro e w'⟨rfl,rfl⟩;exact⟨rfl,by simpa[CG]using E2,AG⟩
 .obtain⟨h1,h2⟩:=E2;rcases h2 with⟨h,_⟩|⟨g,cap,cur,rfl,hg,hgb,hc1,hc2,hc3,hc4⟩
  .exact absurd (hnil.1 h) h0
  .have hH:=holds_of_blockI (ss:=zs) hgb (by rw[hl];simpa using hc4);have hgl:g<w.heap.size:=(BW.1 hgb).1;subst hl;refine(Any.slices_Sort_int Tryz.sortI g 0 cap zs w hH hgl (by omega)).mono ?_;rintro e w'⟨rfl,q,os,rfl⟩;refine⟨rfl,ownsRow_sortedI (GF zs) hg hgb hc1 hc2 hc3,?_⟩;exact(AN base w).grown (grownBy_sortedI _) hb (fun k e=>by cases e;exact hg)
def Ra(Bn:Nat)(sa:Option Addr)(n cap:Nat)(zs:List Int)(w:World)(hBox:w.cell? ⟨Bn,0,none⟩=some (.slice sa n cap))(hBn:Bn<w.heap.size)(hr:AO w sa n zs)(hn:n<=10000):Calls prog 224 #[.func (.func 226) #[] #[.pointer (some ⟨Bn,0,none⟩)]] w fun e w'=>∃v,e=.returned v/\w'.ownsRow w.heap.size 3 1 v n (zs.map (Value.int .i64))/\(v=.slice none 0 0↔n=0)/\Below w.heap.size w w':=by have HC:=AD (Nt Bn sa n cap zs w hBox hBn hr hn);clear hBox hBn hr;go_enter func224,ntmps224;go_wp2_with(go_at_call 272;refine HC.out.mono ?_;rintro e w1⟨v,rfl,hv1,hv2,hv3⟩);go_ret;exact⟨v,rfl,hv1,hv2,hv3⟩
def TC(Bn:Nat)(sa:Option Addr)(n cap:Nat)(zs:List Int)(w:World)(hBox:w.cell? ⟨Bn,0,none⟩=some (.slice sa n cap))(hBn:Bn<w.heap.size)(hr:AO w sa n zs)(hn:n<=10000):Calls prog 146 #[.func (.func 226) #[] #[.pointer (some ⟨Bn,0,none⟩)]] w fun e w'=>∃a cp,e=.returned (.slice a n cp)/\AO w' a n (CG zs)/\Below w.heap.size w w':=by have HC:=AD (Ra Bn sa n cap zs w hBox hBn hr hn);have HL:=AD hr.len;clear hBox hBn hr;go_enter func146,ntmps146;go_wp2_with(first|(go_at_call 224;refine HC.out.mono ?_;rintro e w1⟨v,rfl,hv1,hv2,hv3⟩;have H1:=AD hv1;have H2:Hid (v=.slice none 0 0↔n=0):=hv2;have H3:=AD hv3;clear hv1 hv2 hv3)|(go_at_call 225;refine(Xz w.heap.size n v zs _ H1.out H2.out HL.out hn H3.out.size).mono ?_;rintro e w2⟨rfl,ho,hb⟩;have HO:=AD ho;have HB:=AD hb;clear ho hb));go_ret;obtain⟨a,cp,rfl,ho⟩:=Bt.of_owns HO.out (by omega);exact⟨a,cp,rfl,ho.row,H3.out.trans (HB.out)⟩
def K3(sa:Option Addr)(n cap:Nat)(zs:List Int)(w:World)(hr:AO w sa n zs)(hn:n<=10000)(r:Bool)(hres:Hid (D8 (CG zs) n=r)):Calls prog 58 #[.slice sa n cap] w fun e w'=>e=.returned (.bool r)/\Below w.heap.size w w':=by
 have HS:Hid (Calls prog 146 #[.func (.func 226) #[] #[.pointer (some ⟨w.heap.size,0,none⟩)]] (w.alloc (.cells #[.slice sa n cap] 23)) fun e w'=>∃a cp,e=.returned (.slice a n cp)/\AO w' a n (CG zs)/\Below (w.alloc (.cells #[.slice sa n cap] 23)).heap.size (w.alloc (.cells #[.slice sa n cap] 23)) w'):=TC w.heap.size sa n cap zs _ (Boxed.new w _ _).cell (by simp) (hr.alloc _) hn;clear hr;go_enter func58,ntmps58;go_wp2_with(first|(go_at_call 147;refine(TB _ _ _ _).mono ?_;rintro e w1⟨rfl,hw1⟩;subst hw1)|(go_at_call 146;refine HS.out.mono ?_;rintro e w2⟨a,cp,rfl,hro,hbl⟩;have HR:=AD hro;have HB:Hid (Below w.heap.size w w2):=((AN _ w).alloc AC _).trans (hbl.mono (by simp));clear hro hbl));clear HS;obtain⟨ys,hys⟩:∃ys,ys=CG zs:=⟨_,rfl⟩
 rw[<-hys]at hres HR;clear hys;go_loopw[9] (fun i wr=>∃k:Nat,k<=n/\i=.int .i64 (k:Nat)/\wr=w2/\Hid (D8 ys k=true)) (fun i _=>n- (intOf i).toNat);case atStart=>exact⟨0,AS _,rfl,rfl,rfl⟩
 case round=>
  obtain⟨k,hk,rfl,hw,hin⟩:=hrel;subst hw;by_cases hlt:k<n
  .obtain⟨b,off,rfl,hblt,hc⟩:=HR.out.get hlt;obtain⟨x,hx⟩:∃x,x=ys.getD k 0:=⟨_,rfl⟩
   rw[<-hx]at hc;by_cases he:x=(k:Int)+1
   .have HN:Hid (D8 ys (k+1)=true):=by simp only[D8,Ah,BC];exact⟨hin.out,by rw[<-hx];exact he⟩
    subst he;clear hx;go_wp2_with fail;go_roundw;case rel=>exact⟨k+1,by omega,by go_num,by first|rfl|trivial,HN⟩
    case measure=>simp[intOf];omega
   .obtain rfl:r=false:=by rw[<-hres.out];exact SM hlt (by rw[<-hx];exact he)
    have hq:(x !=(k:Int)+1)=true:=by simp[he]
    clear hx he;go_wp2_with fail;go_ret;exact⟨rfl,HB.out⟩
  .have:k=n:=by omega
   subst this;obtain rfl:r=true:=by rw[<-hres.out];exact hin.out
   go_wp2_with fail;go_ret;exact⟨rfl,HB.out⟩
end
