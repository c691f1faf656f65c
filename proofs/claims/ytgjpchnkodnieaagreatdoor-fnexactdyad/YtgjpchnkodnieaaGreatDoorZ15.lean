import Derived.Test.YtgjpchnkodnieaaGreatDoorZ11
import Derived.Test.YtgjpchnkodnieaaGreatDoorZ12
import Derived.Laws.EntriesVeiled
set_option maxRecDepth 20000
set_option maxHeartbeats 2000000
set_option linter.defProp false
namespace Go.Proofs.YtgjpchnkodnieaaGreatDoor
open Go.RowKit Tryz
def Fz(g:Nat)(lb:Array Value)(f:List Int->Nat->Int)(zs:List Int)(r:Nat)(w:World):Prop:=∀D,GC zs D->D.length=zs.length->∀k,k<r->∀(ib:Nat)W,Below w.heap.size w W->BA W ib D->Calls prog g (#[.slice (some ⟨ib,0,none⟩) zs.length zs.length,.int .i64 (k:Nat)]++lb) W fun e w'=>e=.returned (.int .i64 (f D k))/\Below W.heap.size W w'
def Fz.low{g:Nat}{lb:Array Value}{f:List Int->Nat->Int}{zs:List Int}{r:Nat}{w w1:World}(h:Fz g lb f zs r w)(hb:Below w.heap.size w w1):Fz g lb f zs r w1:=fun D h1 h2 k hk ib W hW hB=>h D h1 h2 k hk ib W (hb.trans (hW.mono hb.size)) hB
def Ks(g:Nat)(lb:Array Value)(eg:∀args w,(callFunc g args).run prog w=.ok (.enter g args) w)(f:List Int->Nat->Int)(zs D sh:List Int)(sa:Option Addr)(n cap ib:Nat)(w:World)(hr:AO w sa n sh)(hN:Fz g lb f zs n w)(hD:GC zs D)(hDl:D.length=zs.length)(hb:BA w ib D)(hs:Aq sh)(r:Bool)(hres:Hid (BX sh (Cc sh f D) sh.length=r))(p:Int)(hp:Hid ((if r then place sh (Cc sh f D)else 0)=p)):Calls prog 151 #[.slice sa n cap,.slice (some ⟨ib,0,none⟩) zs.length zs.length,.func (.func g) #[] lb] w fun e w'=>e=.returned (.tuple #[.int .i64 p,.bool r])/\Below w.heap.size w w':=by
 have hl:=hr.len;have hsm:=hr.small;obtain⟨zl,hzl⟩:∃zl,zs.length=zl:=⟨_,rfl⟩
 have HNUM:Hid (∀k,k<n->∀W,Below w.heap.size w W->Calls prog g (#[.slice (some ⟨ib,0,none⟩) zl zl,.int .i64 (k:Nat)]++lb) W fun e w'=>e=.returned (.int .i64 (f D k))/\Below W.heap.size W w'):=fun k hk W hW=>by
  have:=hN D hD hDl k hk ib W hW (hb.below AC hW)
  rwa [hzl]at this
 rw[hzl];clear hN hD hDl hb hzl;obtain⟨M,hM⟩:∃M,M=Cc sh f D:=⟨_,rfl⟩
 have HMG:Hid (∀k,k<n->M.getD k 0=f D k):=fun k hk=>by rw[hM];exact IV sh f D k (by omega)
 rw[<-hM]at hres hp;have HR:=AD hr;have HS:=AD hs;have HL:=AD hl;clear hr hs hM;go_enter func151,ntmps151;go_wp2_with fail;go_loopw[8,14] (fun q i wr=>∃k:Nat,k<=n/\i=.int .i64 (k:Nat)/\q=.int .i64 (BO sh M k)/\Hid (BX sh M k=true)/\Hid (Below w.heap.size w wr)) (fun _ i _=>n- (intOf i).toNat);case atStart=>exact⟨0,AS _,rfl,rfl,rfl,AD AG⟩
 case round=>
  obtain⟨k,hk,rfl,rfl,hin,hbl⟩:=hrel;by_cases hlt:k<n
  .obtain⟨s,hs'⟩:∃s,s=sh.getD k 0:=⟨_,rfl⟩
   obtain⟨v,hv⟩:∃v,v=f D k:=⟨_,rfl⟩
   obtain⟨q,hq⟩:∃q,q=BO sh M k:=⟨_,rfl⟩
   obtain⟨b,off,rfl,hblt,hcs⟩:=(HR.out.below AC hbl.out).get hlt;have hcall:=HNUM.out k hlt wr hbl.out;rw[<-hv]at hcall;rw[<-hs']at hcs;have hmv:M.getD k 0=v:=by rw[HMG.out k hlt,hv]
   have hsb:0<=s/\s<=10000:=by rw[hs'];exact HS.out.cell k
   have hw1:IntKind.i64.wrap (s- 1)=s- 1:=by rw[IntKind.wrap_i64];omega
   by_cases hvi:0<=v/\v<s
   .have hin1:BX sh M (k+1)=true:=K5 hin.out (by omega) (by rw[hmv,<-hs'];omega);have hpn:BO sh M (k+1)=q*s+v:=by show BO sh M k*_+_=_;rw[<-hq,<-hs',hmv]
    have hbd:=MO (k+1) hin1 (by rw[HL.out];omega);have hpb:=(HS.out.take (k+1)).bd;have hq0:0<=q:=by
     rcases MO k hin.out (by rw[HL.out];omega)with h|h
     .rw[hq];exact h.1
     .subst h;rw[hq];exact Int.le_refl _
    have hqs:0<=q*s:=Int.mul_nonneg hq0 hsb.1;have hw2:IntKind.i64.wrap (q*s)=q*s:=by rw[IntKind.wrap_i64];rw[hpn]at hbd;omega
    have hw3:IntKind.i64.wrap (q*s+v)=q*s+v:=by rw[IntKind.wrap_i64];rw[hpn]at hbd;omega
    have HWI:Hid (Cj v 0 (s- 1)=true):=AL ⟨hvi.1,by omega⟩;obtain⟨t,ht⟩:∃t,t=q*s:=⟨_,rfl⟩
    rw[<-ht]at hw2 hw3 hpn;have HPN:=AD hpn;have HQ:=AD hq;have HIN1:=AD hin1;have ht2:q*s=t:=ht.symm;rw[<-hq];clear hbd hpb hqs hin1 hpn hq hs' hv hmv ht hin hvi hsb hq0 HS HMG;go_wp2_with(first|(go_at_fn g;refine hcall.mono ?_;rintro e w2⟨rfl,hb2⟩;have HL2:=AD (hbl.out.trans (hb2.mono hbl.out.size));clear hb2)|(go_at_call 50;refine(CP _ _ _ _ true HWI).mono ?_;rintro e w'⟨rfl,rfl⟩));go_roundw;case rel=>exact⟨k+1,by omega,by go_num,by rw[HPN.out],HIN1,HL2⟩
    case measure=>simp[intOf];omega
   .have hno:BX sh M sh.length=false:=SJ (by rw[HL.out];exact hlt) (by rw[hmv,<-hs'];exact hvi);obtain rfl:r=false:=by rw[<-hres.out,hno]
    obtain rfl:p=0:=by rw[<-hp.out];rfl
    have HWI:Hid (Cj v 0 (s- 1)=false):=AK (by omega);obtain⟨q',hq'⟩:∃q',q'=BO sh M k:=⟨_,rfl⟩
    rw[<-hq'];clear hno hmv hs' hv hvi hsb hres hp hin HS HMG hq hq';go_wp2_with(first|(go_at_fn g;refine hcall.mono ?_;rintro e w2⟨rfl,hb2⟩;have HL2:=AD (hbl.out.trans (hb2.mono hbl.out.size));clear hb2)|(go_at_call 50;refine(CP _ _ _ _ false HWI).mono ?_;rintro e w'⟨rfl,rfl⟩));go_ret2;exact⟨rfl,HL2.out⟩
  .have:k=n:=by omega
   subst this;have hfin:BX sh M sh.length=true:=by rw[HL.out];exact hin.out
   obtain rfl:r=true:=by rw[<-hres.out,hfin]
   have hpp:BO sh M k=p:=by rw[<-hp.out,AI rfl];unfold place;rw[HL.out]
   rw[hpp];clear hfin hpp
   go_wp2
   go_ret2;exact⟨rfl,hbl.out⟩
section
open Go.Shelf
def OZ:∀args w,(callFunc 152 args).run prog w=.ok (.enter 152 args) w:=enters_of func152 (by kernel_rfl) rfl
def O8(a:Nat)(v:Value)(w:World)(g:Nat)(lb:Array Value)(hv:v=.func (.func g) #[] lb):Calls prog 64 #[.int .i64 (a:Nat),v] w fun e w'=>e=.returned (.func (.func 152) #[] #[.pointer (some ⟨w.heap.size,0,none⟩),.pointer (some ⟨w.heap.size+1,0,none⟩)])/\w'=(w.alloc (.cells #[.int .i64 (a:Nat)] 3)).alloc (.cells #[v] 92):=by
 subst hv;go_enter func64,ntmps64
 go_wp2
 go_ret;exact⟨rfl,rfl⟩
def RP(a:Nat)(h:Int->Int)(D:List Int)(k:Nat):Int:=if k=a then h (D.getD k 0)else D.getD k 0
def Ty(zs:List Int)(r pa pf a g:Nat)(lb:Array Value)(eg:∀args w,(callFunc g args).run prog w=.ok (.enter g args) w)(h:Int->Int)(w:World)(hr:r<=zs.length)(ha:a<zs.length)(h1:w.cell? ⟨pa,0,none⟩=some (.int .i64 (a:Nat)))(h2:w.cell? ⟨pf,0,none⟩=some (.func (.func g) #[] lb))(hm:∀v,0<=v->v<zs.getD a 0->∀W,Below w.heap.size w W->Calls prog g (#[.int .i64 v]++lb) W fun e w'=>e=.returned (.int .i64 (h v))/\∃q,w'=W.drewN q):Fz 152 #[.pointer (some ⟨pa,0,none⟩),.pointer (some ⟨pf,0,none⟩)] (RP a h) zs r w:=by
 intro D hD hDl k hk ib W hW hB;have cd:=hB.cell (i:=k) (by omega);have hDk:=hD k (by omega);have c1:=(hW.cell (p:=⟨pa,0,none⟩) (AU _ _ h1)).trans h1;have c2:=(hW.cell (p:=⟨pf,0,none⟩) (AU _ _ h2)).trans h2;obtain⟨n,hn⟩:∃n,zs.length=n:=⟨_,rfl⟩
 obtain⟨v,hv⟩:∃v,D.getD k 0=v:=⟨_,rfl⟩
 have HF:Hid (RP a h D k=if k=a then h v else v):=by show _=_;unfold RP;rw[hv]
 rw[hn]at hr ⊢;rw[hv]at cd hDk;have hkn:(k:Int)<(n:Int):=by omega
 by_cases hka:k=a
 .subst hka;rw[AI rfl]at HF;have hcall:∀q,Calls prog g (#[.int .i64 v]++lb) (W.drewN q) fun e w'=>e=.returned (.int .i64 (h v))/\∃m,w'=(W.drewN q).drewN m:=fun q=>hm v hDk.1 hDk.2 _ (hW.trans (Below.drewN AG _));clear hD hDl hW hB hn hv h1 h2 hDk hm;go_enter func152,ntmps152;go_wp2_with fail;go_quiet((go_at_fn g;exact Calls.quiet_of (hcall _)));go_wp2_with fail;go_ret;exact⟨BM HF.out.symm,Below.drewN AG _⟩
 .rw[AH hka]at HF;have q:((k:Int)==(a:Int))=false:=by simp;omega
  clear hka hD hDl hW hB hn hv h1 h2 hDk hm;go_enter func152,ntmps152;go_wp2_with fail;go_ret;exact⟨BM HF.out.symm,AG⟩
end
section
open Go.Shelf
def PW:∀args w,(callFunc 166 args).run prog w=.ok (.enter 166 args) w:=enters_of func166 (by kernel_rfl) rfl
def Pc(pf n cf:Nat)(gf:Option Addr)(st zs:List Int)(w:World)(hc:w.cell? ⟨pf,0,none⟩=some (.slice gf n cf))(hr:AO w gf n st)(hb:∀k,k<n→-1000000000010000<=st.getD k 0/\st.getD k 0<=1000000000010000)(hz:zs.length=n)(hs:∀k,zs.getD k 0<=10000):Fz 166 #[.pointer (some ⟨pf,0,none⟩)] (IG st) zs n w:=by
 intro D hD hDl k hk ib W hW hB;have hd:=hD k (by omega);have hsk:=hs k;have hbk:=hb k hk;have hc1:=(hW.cell (p:=⟨pf,0,none⟩) (AU _ _ hc)).trans hc;obtain⟨bf,of,rfl,_,cf1⟩:=(hr.below AC hW).get hk;have cd:=hB.cell (i:=k) (by omega);obtain⟨x,hx⟩:∃x,D.getD k 0=x:=⟨_,rfl⟩
 obtain⟨y,hy⟩:∃y,st.getD k 0=y:=⟨_,rfl⟩
 rw[hx]at cd hd;rw[hy]at cf1 hbk;have HF:Hid (IG st D k=y+x):=by show _=_;unfold IG;rw[hx,hy]
 have w1:IntKind.i64.wrap (y+x)=y+x:=by rw[IntKind.wrap_i64];omega
 rw[hz];clear hW hB hD hDl hc hr hx hy hz hs hb;go_enter func166,ntmps166;go_wp2_with fail;go_quiet(fail);go_wp2_with fail;go_ret;exact⟨BM HF.out.symm,Below.drewN AG _⟩
end
section
open Go.Shelf
abbrev Dl:=Hm
abbrev Ce:=J9
abbrev Cu:=IF
abbrev Bx:=PZ
def RV{k len:Int}(hk: -1000000000000000<=k/\k<=1000000000000000)(hl:0<=len/\len<=10000): -1000000000010000<=Dl k len/\Dl k len<=1000000000010000:=by show-1000000000010000<=Hm k len/\Hm k len<=1000000000010000;unfold Hm;split<;>omega
def Nw{k len:Int}(hk: -1000000000000000<=k/\k<=1000000000000000)(_hl:0<=len/\len<=10000): -1000000000010000<=Cu k len/\Cu k len<=1000000000010000:=by show-1000000000010000<=IF k len/\IF k len<=1000000000010000;unfold IF;split<;>omega
def Pv(k len:Int)(w:World)(hk: -1000000000000000<=k/\k<=1000000000000000)(hl:0<=len/\len<=10000):Calls prog 354 #[.agg #[],.int .i64 k,.int .i64 len] w fun e w'=>e=.returned (.tuple #[.int .i64 (Hm k len),.int .i64 (J9 k len)])/\Below w.heap.size w w':=by
 by_cases h:k<0
 .have HS:Hid (Hm k len=len+k):=AI h;have HZ:Hid (J9 k len= -k):=AI h;have w1:IntKind.i64.wrap (len+k)=len+k:=by rw[IntKind.wrap_i64];omega
  have w2:IntKind.i64.wrap (-k)= -k:=by rw[IntKind.wrap_i64];omega
  go_enter func354,ntmps354
  go_wp2
  go_ret2;exact⟨CH HS.out.symm HZ.out.symm,by first|exact AG|exact(AN _ w).alloc AC _⟩
 .have HS:Hid (Hm k len=0):=AH h;have HZ:Hid (J9 k len=k):=AH h;go_enter func354,ntmps354
  go_wp2
  go_ret2;exact⟨CH HS.out.symm HZ.out.symm,by first|exact AG|exact(AN _ w).alloc AC _⟩
def MX(k:Int)(w:World)(hk: -1000000000000000<=k/\k<=1000000000000000):Calls prog 281 #[.int .i64 k] w fun e w'=>e=.returned (.int .i64 (Eg k))/\w'=w:=by
 have w2:IntKind.i64.wrap (-k)= -k:=by rw[IntKind.wrap_i64];omega
 go_enter func281,ntmps281
 go_wp2
 all_goals go_ret
 all_goals(refine⟨BM ?_,rfl⟩;unfold Eg;split<;>omega)
def NQ(k len:Int)(w:World)(hk: -1000000000000000<=k/\k<=1000000000000000)(hl:0<=len/\len<=10000):Calls prog 353 #[.agg #[],.int .i64 k,.int .i64 len] w fun e w'=>e=.returned (.tuple #[.int .i64 (IF k len),.int .i64 (PZ k len)])/\Below w.heap.size w w':=by
 have hab:0<=Eg k/\Eg k<=1000000000000000:=by unfold Eg;split<;>omega
 have w2:IntKind.i64.wrap (len- Eg k)=len- Eg k:=by rw[IntKind.wrap_i64];omega
 obtain⟨m,hm⟩:∃m,Eg k=m:=⟨_,rfl⟩
 have HM:=AD hm;rw[hm]at w2 hab;clear hm;go_enter func353,ntmps353;go_wp2_with(go_at_call 281;refine(MX _ _ hk).mono ?_;rintro e w1⟨rfl,hw1⟩;obtain rfl:=hw1.symm;rw[HM.out]);all_goals go_ret2
 all_goals(refine⟨CH ?_ ?_,by first|exact AG|exact(AN _ w).alloc AC _⟩)
 all_goals first|(unfold IF;split<;>omega)|(unfold PZ;rw[HM.out];split<;>omega)
end
section
open Go.Shelf
def My:∀args w,(callFunc 164 args).run prog w=.ok (.enter 164 args) w:=enters_of func164 (by kernel_rfl) rfl
def M8(pf n cf:Nat)(gf:Option Addr)(st zs:List Int)(w:World)(hc:w.cell? ⟨pf,0,none⟩=some (.slice gf n cf))(hr:AO w gf n st)(hb:∀k,k<n→-1000000000010000<=st.getD k 0/\st.getD k 0<=1000000000010000)(hz:zs.length=n)(hs:∀k,zs.getD k 0<=10000):Fz 164 #[.pointer (some ⟨pf,0,none⟩)] (IG st) zs n w:=by
 intro D hD hDl k hk ib W hW hB;have hd:=hD k (by omega);have hsk:=hs k;have hbk:=hb k hk;have hc1:=(hW.cell (p:=⟨pf,0,none⟩) (AU _ _ hc)).trans hc;obtain⟨bf,of,rfl,_,cf1⟩:=(hr.below AC hW).get hk;have cd:=hB.cell (i:=k) (by omega);obtain⟨x,hx⟩:∃x,D.getD k 0=x:=⟨_,rfl⟩
 obtain⟨y,hy⟩:∃y,st.getD k 0=y:=⟨_,rfl⟩
 rw[hx]at cd hd;rw[hy]at cf1 hbk;have HF:Hid (IG st D k=y+x):=by show _=_;unfold IG;rw[hx,hy]
 have w1:IntKind.i64.wrap (y+x)=y+x:=by rw[IntKind.wrap_i64];omega
 rw[hz];clear hW hB hD hDl hc hr hx hy hz hs hb;go_enter func164,ntmps164;go_wp2_with fail;go_quiet(fail);go_wp2_with fail;go_ret;exact⟨BM HF.out.symm,Below.drewN AG _⟩
end
