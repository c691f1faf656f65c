import Derived.Test.YtgjpchnkodnieaaGreatDoorZ15
import Derived.Test.YtgjpchnkodnieaaGreatDoorZ18
import Derived.Deep.RegionHeld3
import Derived.RangeFuncRecord
set_option maxRecDepth 20000
set_option maxHeartbeats 4000000
set_option linter.defProp false
namespace Go.Proofs.YtgjpchnkodnieaaGreatDoor
open Go.RowKit Tryz
section
open Go.Shelf
namespace Spanstaking
def Zq:∀w,(method 414 115 (.agg #[]) "loop.example/s02542/impl.span").run prog w=.ok (354,.agg #[]) w:=by intro w;kernel_rfl
def IL{W:World}{g L:Nat}(h:W.heap[g]? =some (.cells (madeCells #[.int .i64 0] L) 3 (0,0))):BA W g (List.replicate L 0):=by rw[Je]at h;unfold BA;rw[h];simp
def NK(W:World)(L:Nat)(v8 v9:Value)(wx:World):Prop:=∃gf gs,v8=.slice (some ⟨gf,0,none⟩) L L/\v9=.slice (some ⟨gs,0,none⟩) L L/\BA wx gf (List.replicate L 0)/\BA wx gs (List.replicate L 0)/\W.heap.size<=gf/\W.heap.size<=gs/\gf≠gs/\Below W.heap.size W wx
def Xx(w:World)(o0 o1:Obj):((w.alloc o0).alloc o1).drew.heap[w.heap.size]? =some o0:=(Ab _ _ _ (by simp)).trans (World.alloc_heap_new w o0)
def Xw(w:World)(o0 o1:Obj):((w.alloc o0).alloc o1).drew.heap[w.heap.size+1]? =some o1:=by have:=World.alloc_heap_new (w.alloc o0) o1;rwa [World.size_alloc]at this
def Xv(w:World)(o0 o1:Obj):Below w.heap.size w ((w.alloc o0).alloc o1).drew:=(((AN _ w).alloc AC _).alloc (by simp) _).drew
def JB{W wx:World}{L gf gs:Nat}(h2:wx.heap[gf]? =some (.cells (madeCells #[.int .i64 0] L) 3 (0,0)))(h3:wx.heap[gs]? =some (.cells (madeCells #[.int .i64 0] L) 3 (0,0)))(b1:W.heap.size<=gf)(b2:W.heap.size<=gs)(b3:gf≠gs)(hb:Below W.heap.size W wx):NK W L (.slice (some ⟨gf,0,none⟩) L L) (.slice (some ⟨gs,0,none⟩) L L) wx:=⟨gf,gs,rfl,rfl,IL h2,IL h3,b1,b2,b3,hb⟩
def cy(a2 sa:Option Addr)(L c2 ca:Nat)(dt bs:List Int)(w:World)(h2:AO w a2 L dt)(hr:AO w sa L bs)(hL:L<=10000)(hdb:∀k,k<L→-1000000000000000<=dt.getD k 0/\dt.getD k 0<=1000000000000000)(hsb:∀k,0<=bs.getD k 0/\bs.getD k 0<=10000):Calls prog 165 #[.agg #[],.slice a2 L c2,.slice sa L ca] w fun e w'=>∃gf gs,e=.returned (.tuple #[.slice (some ⟨gf,0,none⟩) L L,.slice (some ⟨gs,0,none⟩) L L])/\BA w' gf (Cs Dl dt bs L)/\BA w' gs (Cs Ce dt bs L)/\w.heap.size<=gf/\w.heap.size<=gs/\gf≠gs/\Below w.heap.size w w':=by
 obtain⟨W,hW⟩:∃W,W=w.alloc (.cells #[] 115):=⟨_,rfl⟩
 have HXH:Hid (W.heap[w.heap.size]? =some (.cells #[] 115 (0,0))):=by rw[hW];exact World.alloc_heap_new w _
 have HB0:Hid (Below w.heap.size w W):=by rw[hW];exact(AN _ w).alloc AC _
 have hWz:W.heap.size=w.heap.size+1:=by rw[hW];simp
 have HWZ:=AD hWz;have H2:=AD (h2.below AC (AA HB0));have HR:=AD (hr.below AC (AA HB0));have HDB:=AD hdb;have HSB:=AD hsb;have hmk:=run_make_row' (P:=prog) 23 3 (.int .i64 0) 8 underlying23 A6 rfl .i64 .i64 L (by omega) (by omega);clear h2 hr hdb hsb hWz;go_enter func165,ntmps165;go_upto_region 1 with fail;rw[<-hW];clear hW;go_cut[8,9] (fun v8 v9 wx=>NK W L v8 v9 wx);case first=>as_aux_lemma=>
  go_region
  all_goals go_wp2_with fail
  all_goals(go_meet;case rel=>first|exact JB (Xx _ _ _) (Xw _ _ _) (by omega) (by omega) (by omega) (Xv _ _ _)|exact JB (Xw _ _ _) (Xx _ _ _) (by omega) (by omega) (by omega) (Xv _ _ _))
 case rest=>
  obtain⟨w3,hw3⟩:∃x,x=wc:=⟨_,rfl⟩
  subst hw3;obtain⟨gf,gs,rfl,rfl,hgf,hgs,bgf,bgs,nfs,hbl⟩:=hcut;have HGF:Hid (BA w3 gf (EW Dl dt bs L 0)):=by show BA _ _ _;rw[GH];exact hgf
  have HGS:Hid (BA w3 gs (EW Ce dt bs L 0)):=by show BA _ _ _;rw[GH];exact hgs
  have HBL:=AD hbl;clear hgf hgs hbl hmk;go_wp2_with fail;go_loopw[20] (fun i wr=>∃k:Nat,k<=L/\i=.int .i64 (k:Nat)/\Hid (BA wr gf (EW Dl dt bs L k))/\Hid (BA wr gs (EW Ce dt bs L k))/\Hid (BS (fun x=>x=gf\/x=gs) w3 wr)) (fun i _=>L- (intOf i).toNat);case atStart=>exact⟨0,AS _,rfl,HGF,HGS,AD (BS.refl _ _)⟩
  case round=>
   obtain⟨k,hk,rfl,hf,hs,hbut⟩:=hrel;by_cases hlt:k<L
   .have hzr:=hbut.out.size;have hz3:=HBL.out.size;obtain⟨bb,ob,hbb,hbl1,cs⟩:=(hbut.out.row (HR.out.below AC HBL.out) (by rintro x(rfl|rfl)h<;>have:=HR.out.hi h<;>omega)).get hlt;obtain⟨ba,oa,hba,hbl2,ck⟩:=(hbut.out.row (H2.out.below AC HBL.out) (by rintro x(rfl|rfl)h<;>have:=H2.out.hi h<;>omega)).get hlt;have hbaw:ba<W.heap.size:=H2.out.hi ⟨by omega,_,hba,rfl⟩;cases hbb;cases hba;obtain⟨s,hss⟩:∃s,bs.getD k 0=s:=⟨_,rfl⟩
    obtain⟨kk,hkk⟩:∃kk,dt.getD k 0=kk:=⟨_,rfl⟩
    rw[hss]at cs;rw[hkk]at ck;have hkb: -1000000000000000<=kk/\kk<=1000000000000000:=by rw[<-hkk];exact HDB.out k hlt
    have hsb:0<=s/\s<=10000:=by rw[<-hss];exact HSB.out k
    obtain⟨S1,hS1⟩:∃S1,Dl kk s=S1:=⟨_,rfl⟩
    obtain⟨Z1,hZ1⟩:∃Z1,Ce kk s=Z1:=⟨_,rfl⟩
    have HS1:Hid (Dl (dt.getD k 0) (bs.getD k 0)=S1):=by rw[hkk,hss];exact hS1
    have HZ1:Hid (Ce (dt.getD k 0) (bs.getD k 0)=Z1):=by rw[hkk,hss];exact hZ1
    have HSP:Hid (∀W,Calls prog 354 #[.agg #[],.int .i64 kk,.int .i64 s] W fun e w'=>e=.returned (.tuple #[.int .i64 S1,.int .i64 Z1])/\Below W.heap.size W w'):=fun W=>by rw[<-hS1,<-hZ1];exact Pv kk s W hkb hsb
    have hWz:=AA HWZ;have HHR:Hid (wr.heap[w.heap.size]? =some (.cells #[] 115 (0,0))):=(hbut.out.block _ (by omega) (by omega)).trans ((HBL.out.block _ (by omega)).trans HXH.out);clear hss hkk hS1 hZ1 hkb hsb hWz;go_upto_region 5 with fail;have HKEEP:∀wx,BS (fun x=>x=gf\/x=gs) wr wx->wx.cell? ⟨ba,oa+k,none⟩=some (.int .i64 kk):=fun wx hwx=>(hwx.cellAt (by omega) (by omega)).trans ck;have z2:=HKEEP _ (BS.refl _ _);have hhr:=HHR.out;have hmeth:=Zq
    go_region_held3 (fun wx=>wx.cell? ⟨ba,oa+k,none⟩=some (.int .i64 kk)) (first|exact HKEEP _ (BS.refl _ _).drew|exact HKEEP _ (BS.of_below HKS.out)|exact HKEEP _ ((BS.of_below (S:=fun x=>x=gf\/x=gs) HKS.out).setCell (p:=⟨gf,k,none⟩) (.inl rfl) _)|exact HKEEP _ (((BS.of_below (S:=fun x=>x=gf\/x=gs) HKS.out).setCell (p:=⟨gf,k,none⟩) (.inl rfl) _).setCell (p:=⟨gs,k,none⟩) (.inr rfl) _)) (first
     |(go_at_call 354;go_loud (refine(HSP.out _).mono ?_);rintro e wS⟨rfl,hbS⟩;have HKS:Hid (Below wr.heap.size wr wS):=(AN _ wr).drew.trans hbS;clear hbS z2 hhr;have z2:=HKEEP _ (BS.of_below HKS.out);have cf1:=(hf.out.below AC HKS.out).cell (i:=k) (by rw[Gs];exact hlt);have cf2:=(hf.out.below AC HKS.out).free k;have cs1:=(hs.out.below AC HKS.out).cell (i:=k) (by rw[Gs];exact hlt);have cs2:=(hs.out.below AC HKS.out).free k))
    all_goals go_wp2_with fail
    all_goals go_roundw
    case rel=>
     have e1:=((hf.out.below AC HKS.out).set k S1).other (p:=⟨gs,k,none⟩) (by show gf≠gs;omega) (.int .i64 Z1);have e2:=((hs.out.below AC HKS.out).other (p:=⟨gf,k,none⟩) (by show gs≠gf;omega) (.int .i64 S1)).set k Z1;rw[Gr _ _ _ _ _ _ HS1.out]at e1;rw[Gr _ _ _ _ _ _ HZ1.out]at e2;exact⟨k+1,by omega,by go_num,e1,e2,(hbut.out.trans (((BS.of_below (S:=fun x=>x=gf\/x=gs) HKS.out).setCell (p:=⟨gf,k,none⟩) (.inl rfl) _).setCell (p:=⟨gs,k,none⟩) (.inr rfl) _)).mono (by rintro x(h|h)<;>exact h)⟩
    case measure=>simp[intOf];omega
   .have e:k=L:=by omega
    subst k;have hWz:=AA HWZ;have HBW:Hid (Below w.heap.size w wr):=HB0.out.trans ((HBL.out.trans (hbut.out.below (by have:=HBL.out.size;omega) (by rintro x(rfl|rfl)<;>omega))).mono HB0.out.size);have HF:Hid (BA wr gf (Cs Dl dt bs L)):=by have h:=hf.out;rw[Gt]at h;exact h
    have HG:Hid (BA wr gs (Cs Ce dt bs L)):=by have h:=hs.out;rw[Gt]at h;exact h
    clear hlt hk;go_wp2_with fail;go_ret2;exact⟨gf,gs,rfl,HF.out,HG.out,by omega,by omega,nfs,HBW.out⟩
end Spanstaking
end
section
open Go.Shelf
namespace Spansdropping
def Zq:∀w,(method 414 113 (.agg #[]) "loop.example/s02542/impl.span").run prog w=.ok (353,.agg #[]) w:=by intro w;kernel_rfl
def IL{W:World}{g L:Nat}(h:W.heap[g]? =some (.cells (madeCells #[.int .i64 0] L) 3 (0,0))):BA W g (List.replicate L 0):=by rw[Je]at h;unfold BA;rw[h];simp
def NK(W:World)(L:Nat)(v8 v9:Value)(wx:World):Prop:=∃gf gs,v8=.slice (some ⟨gf,0,none⟩) L L/\v9=.slice (some ⟨gs,0,none⟩) L L/\BA wx gf (List.replicate L 0)/\BA wx gs (List.replicate L 0)/\W.heap.size<=gf/\W.heap.size<=gs/\gf≠gs/\Below W.heap.size W wx
def Xx(w:World)(o0 o1:Obj):((w.alloc o0).alloc o1).drew.heap[w.heap.size]? =some o0:=(Ab _ _ _ (by simp)).trans (World.alloc_heap_new w o0)
def Xw(w:World)(o0 o1:Obj):((w.alloc o0).alloc o1).drew.heap[w.heap.size+1]? =some o1:=by have:=World.alloc_heap_new (w.alloc o0) o1;rwa [World.size_alloc]at this
def Xv(w:World)(o0 o1:Obj):Below w.heap.size w ((w.alloc o0).alloc o1).drew:=(((AN _ w).alloc AC _).alloc (by simp) _).drew
def JB{W wx:World}{L gf gs:Nat}(h2:wx.heap[gf]? =some (.cells (madeCells #[.int .i64 0] L) 3 (0,0)))(h3:wx.heap[gs]? =some (.cells (madeCells #[.int .i64 0] L) 3 (0,0)))(b1:W.heap.size<=gf)(b2:W.heap.size<=gs)(b3:gf≠gs)(hb:Below W.heap.size W wx):NK W L (.slice (some ⟨gf,0,none⟩) L L) (.slice (some ⟨gs,0,none⟩) L L) wx:=⟨gf,gs,rfl,rfl,IL h2,IL h3,b1,b2,b3,hb⟩
def cy(a2 sa:Option Addr)(L c2 ca:Nat)(dt bs:List Int)(w:World)(h2:AO w a2 L dt)(hr:AO w sa L bs)(hL:L<=10000)(hdb:∀k,k<L→-1000000000000000<=dt.getD k 0/\dt.getD k 0<=1000000000000000)(hsb:∀k,0<=bs.getD k 0/\bs.getD k 0<=10000):Calls prog 163 #[.agg #[],.slice a2 L c2,.slice sa L ca] w fun e w'=>∃gf gs,e=.returned (.tuple #[.slice (some ⟨gf,0,none⟩) L L,.slice (some ⟨gs,0,none⟩) L L])/\BA w' gf (Cs Cu dt bs L)/\BA w' gs (Cs Bx dt bs L)/\w.heap.size<=gf/\w.heap.size<=gs/\gf≠gs/\Below w.heap.size w w':=by
 obtain⟨W,hW⟩:∃W,W=w.alloc (.cells #[] 113):=⟨_,rfl⟩
 have HXH:Hid (W.heap[w.heap.size]? =some (.cells #[] 113 (0,0))):=by rw[hW];exact World.alloc_heap_new w _
 have HB0:Hid (Below w.heap.size w W):=by rw[hW];exact(AN _ w).alloc AC _
 have hWz:W.heap.size=w.heap.size+1:=by rw[hW];simp
 have HWZ:=AD hWz;have H2:=AD (h2.below AC (AA HB0));have HR:=AD (hr.below AC (AA HB0));have HDB:=AD hdb;have HSB:=AD hsb;have hmk:=run_make_row' (P:=prog) 23 3 (.int .i64 0) 8 underlying23 A6 rfl .i64 .i64 L (by omega) (by omega);clear h2 hr hdb hsb hWz;go_enter func163,ntmps163;go_upto_region 1 with fail;rw[<-hW];clear hW;go_cut[8,9] (fun v8 v9 wx=>NK W L v8 v9 wx);case first=>as_aux_lemma=>
  go_region
  all_goals go_wp2_with fail
  all_goals(go_meet;case rel=>first|exact JB (Xx _ _ _) (Xw _ _ _) (by omega) (by omega) (by omega) (Xv _ _ _)|exact JB (Xw _ _ _) (Xx _ _ _) (by omega) (by omega) (by omega) (Xv _ _ _))
 case rest=>
  obtain⟨w3,hw3⟩:∃x,x=wc:=⟨_,rfl⟩
  subst hw3;obtain⟨gf,gs,rfl,rfl,hgf,hgs,bgf,bgs,nfs,hbl⟩:=hcut;have HGF:Hid (BA w3 gf (EW Cu dt bs L 0)):=by show BA _ _ _;rw[GH];exact hgf
  have HGS:Hid (BA w3 gs (EW Bx dt bs L 0)):=by show BA _ _ _;rw[GH];exact hgs
  have HBL:=AD hbl;clear hgf hgs hbl hmk;go_wp2_with fail;go_loopw[20] (fun i wr=>∃k:Nat,k<=L/\i=.int .i64 (k:Nat)/\Hid (BA wr gf (EW Cu dt bs L k))/\Hid (BA wr gs (EW Bx dt bs L k))/\Hid (BS (fun x=>x=gf\/x=gs) w3 wr)) (fun i _=>L- (intOf i).toNat);case atStart=>exact⟨0,AS _,rfl,HGF,HGS,AD (BS.refl _ _)⟩
  case round=>
   obtain⟨k,hk,rfl,hf,hs,hbut⟩:=hrel;by_cases hlt:k<L
   .have hzr:=hbut.out.size;have hz3:=HBL.out.size;obtain⟨bb,ob,hbb,hbl1,cs⟩:=(hbut.out.row (HR.out.below AC HBL.out) (by rintro x(rfl|rfl)h<;>have:=HR.out.hi h<;>omega)).get hlt;obtain⟨ba,oa,hba,hbl2,ck⟩:=(hbut.out.row (H2.out.below AC HBL.out) (by rintro x(rfl|rfl)h<;>have:=H2.out.hi h<;>omega)).get hlt;have hbaw:ba<W.heap.size:=H2.out.hi ⟨by omega,_,hba,rfl⟩;cases hbb;cases hba;obtain⟨s,hss⟩:∃s,bs.getD k 0=s:=⟨_,rfl⟩
    obtain⟨kk,hkk⟩:∃kk,dt.getD k 0=kk:=⟨_,rfl⟩
    rw[hss]at cs;rw[hkk]at ck;have hkb: -1000000000000000<=kk/\kk<=1000000000000000:=by rw[<-hkk];exact HDB.out k hlt
    have hsb:0<=s/\s<=10000:=by rw[<-hss];exact HSB.out k
    obtain⟨S1,hS1⟩:∃S1,Cu kk s=S1:=⟨_,rfl⟩
    obtain⟨Z1,hZ1⟩:∃Z1,Bx kk s=Z1:=⟨_,rfl⟩
    have HS1:Hid (Cu (dt.getD k 0) (bs.getD k 0)=S1):=by rw[hkk,hss];exact hS1
    have HZ1:Hid (Bx (dt.getD k 0) (bs.getD k 0)=Z1):=by rw[hkk,hss];exact hZ1
    have HSP:Hid (∀W,Calls prog 353 #[.agg #[],.int .i64 kk,.int .i64 s] W fun e w'=>e=.returned (.tuple #[.int .i64 S1,.int .i64 Z1])/\Below W.heap.size W w'):=fun W=>by rw[<-hS1,<-hZ1];exact NQ kk s W hkb hsb
    have hWz:=AA HWZ;have HHR:Hid (wr.heap[w.heap.size]? =some (.cells #[] 113 (0,0))):=(hbut.out.block _ (by omega) (by omega)).trans ((HBL.out.block _ (by omega)).trans HXH.out);clear hss hkk hS1 hZ1 hkb hsb hWz;go_upto_region 5 with fail;have HKEEP:∀wx,BS (fun x=>x=gf\/x=gs) wr wx->wx.cell? ⟨ba,oa+k,none⟩=some (.int .i64 kk):=fun wx hwx=>(hwx.cellAt (by omega) (by omega)).trans ck;have z2:=HKEEP _ (BS.refl _ _);have hhr:=HHR.out;have hmeth:=Zq
    go_region_held3 (fun wx=>wx.cell? ⟨ba,oa+k,none⟩=some (.int .i64 kk)) (first|exact HKEEP _ (BS.refl _ _).drew|exact HKEEP _ (BS.of_below HKS.out)|exact HKEEP _ ((BS.of_below (S:=fun x=>x=gf\/x=gs) HKS.out).setCell (p:=⟨gf,k,none⟩) (.inl rfl) _)|exact HKEEP _ (((BS.of_below (S:=fun x=>x=gf\/x=gs) HKS.out).setCell (p:=⟨gf,k,none⟩) (.inl rfl) _).setCell (p:=⟨gs,k,none⟩) (.inr rfl) _)) (first
     |(go_at_call 353;go_loud (refine(HSP.out _).mono ?_);rintro e wS⟨rfl,hbS⟩;have HKS:Hid (Below wr.heap.size wr wS):=(AN _ wr).drew.trans hbS;clear hbS z2 hhr;have z2:=HKEEP _ (BS.of_below HKS.out);have cf1:=(hf.out.below AC HKS.out).cell (i:=k) (by rw[Gs];exact hlt);have cf2:=(hf.out.below AC HKS.out).free k;have cs1:=(hs.out.below AC HKS.out).cell (i:=k) (by rw[Gs];exact hlt);have cs2:=(hs.out.below AC HKS.out).free k))
    all_goals go_wp2_with fail
    all_goals go_roundw
    case rel=>
     have e1:=((hf.out.below AC HKS.out).set k S1).other (p:=⟨gs,k,none⟩) (by show gf≠gs;omega) (.int .i64 Z1);have e2:=((hs.out.below AC HKS.out).other (p:=⟨gf,k,none⟩) (by show gs≠gf;omega) (.int .i64 S1)).set k Z1;rw[Gr _ _ _ _ _ _ HS1.out]at e1;rw[Gr _ _ _ _ _ _ HZ1.out]at e2;exact⟨k+1,by omega,by go_num,e1,e2,(hbut.out.trans (((BS.of_below (S:=fun x=>x=gf\/x=gs) HKS.out).setCell (p:=⟨gf,k,none⟩) (.inl rfl) _).setCell (p:=⟨gs,k,none⟩) (.inr rfl) _)).mono (by rintro x(h|h)<;>exact h)⟩
    case measure=>simp[intOf];omega
   .have e:k=L:=by omega
    subst k;have hWz:=AA HWZ;have HBW:Hid (Below w.heap.size w wr):=HB0.out.trans ((HBL.out.trans (hbut.out.below (by have:=HBL.out.size;omega) (by rintro x(rfl|rfl)<;>omega))).mono HB0.out.size);have HF:Hid (BA wr gf (Cs Cu dt bs L)):=by have h:=hf.out;rw[Gt]at h;exact h
    have HG:Hid (BA wr gs (Cs Bx dt bs L)):=by have h:=hs.out;rw[Gt]at h;exact h
    clear hlt hk;go_wp2_with fail;go_ret2;exact⟨gf,gs,rfl,HF.out,HG.out,by omega,by omega,nfs,HBW.out⟩
end Spansdropping
end
