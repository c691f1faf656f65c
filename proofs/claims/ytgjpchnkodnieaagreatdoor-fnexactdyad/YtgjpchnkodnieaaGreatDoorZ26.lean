import Derived.Test.YtgjpchnkodnieaaGreatDoorZ22
import Derived.Test.YtgjpchnkodnieaaGreatDoorZ13
import Derived.Test.YtgjpchnkodnieaaGreatDoorCards
import Derived.Test.YtgjpchnkodnieaaGreatDoorTie
import Derived.SevenTiedAt
set_option maxRecDepth 100000
set_option linter.defProp false
namespace Go.Proofs.YtgjpchnkodnieaaGreatDoor
open Go.RowKit Go.Proofs.Tryz
section
open Go.ChangeShapes Go.WideShapes Go.ChangeAt Go.Joins
namespace OpenDyad
def XZ(os:Os)(args:Array Value):laidMetH prog Rows.fnExactDyadRow.laid ((World.doorLaid prog 400 os).forCall (fun _ _=>0) ⟨#[],args,[]⟩).memory:=laidMetH_of_parts3 (fuel:=8) (laidMet_of_run' 8 (by kernel_rfl) (by kernel_rfl)) (by kernel_rfl) (by kernel_rfl)
def Zt{F:Int->Bool->Bool->List Int->List Int->List Int->List Int->Ic}(hspec:LawDyad.bT F)(himp:LawDyad.bX F)(os:Os)(started:os.Started)(H:Type)(enc:TypeId×Value->H):ReturnsInHanded {} Tryz.checked os 7 .any (fun w args=>(Rows.fnExactDyadSpec.pre enc prog Tryz.f7 [] false w args/\laidMetH prog Rows.fnExactDyadRow.laid w)/\sizedMet enc prog Tryz.f7 (OpenSpec.ofChange Rows.fnExactDyadSpec) false w args) (Rows.fnExactDyadSpec.post enc prog Tryz.f7 false true false false):=by
 refine returnsInHanded_of_change_and (C:=Tryz.checked) (X:=fun w _=>laidMetH prog Rows.fnExactDyadRow.laid w) (fun _ _ _ hh h=>h.of_heap hh) own started (by kernel_rfl) func7 (ChangeSpec.witness_shaped (enc:=enc) (C:=Tryz.checked) (os:=os) (X:=fun w _=>laidMetH prog Rows.fnExactDyadRow.laid w) false (World.doorLaid prog 400 os) #[.int .i64 0,.agg #[.bool false,.slice none 0 0,.slice none 0 0],.agg #[.bool false,.slice none 0 0,.slice none 0 0]] 8 rfl (World.shaped_of_RefB (by kernel_rfl) (by kernel_rfl)) (by kernel_rfl) (by kernel_rfl) (by kernel_rfl) (XZ os _)) ?_;intro W base args ds gs before hval0 hW _ _ hL _;have hval:∀(j:Nat)t v,Tryz.f7.params[j]? =some t->args[j]? =some v->Value.okWide prog W .any base t v:=hval0;have hW':=hW;obtain⟨p,q,hA0,hV0,rfl,hfz,hnd⟩:=hW;have hA:DataW.TrodAll enc prog W 0 (fun _=>true) true Tryz.f7.params.toList args.toList ds p:=hA0;have hV:DataW.TrodVars enc prog W (fun _=>true) ["loop.example/s02542/impl.errTooGreat","loop.example/s02542/impl.errNoResult"] gs q:=hV0;rw[Tryz.params7]at hA hval;obtain⟨v0,vs0,d0,ds0,p0,q0,hargs,rfl,rfl,h0,r0⟩:=trodAll_cons hA;obtain⟨v1,vs1,d1,ds1,p1,q1,rfl,rfl,rfl,h1,r1⟩:=trodAll_cons r0;obtain⟨v2,vs2,d2,ds2,p2,q2,rfl,rfl,rfl,h2,r2⟩:=trodAll_cons r1;obtain⟨rfl,rfl,rfl⟩:=trodAll_nil r2;obtain rfl:args= #[v0,v1,v2]:=by cases args;simp_all
 obtain⟨ga,gb,hG,hv1',hv0'⟩:=SS hL;have vr:∀ {X:World},X.var? prog "loop.example/s02542/impl.errTooGreat"=some #[.iface 278 (.pointer (some gb))]->X.var? prog "loop.example/s02542/impl.errNoResult"=some #[.iface 278 (.pointer (some ga))]->∀sp:Nat->Bool,DataW.TrodVars enc prog X sp ["loop.example/s02542/impl.errTooGreat","loop.example/s02542/impl.errNoResult"] [tok enc (.iface 278 (.pointer (some gb))),tok enc (.iface 278 (.pointer (some ga)))] [.cell 1 0,.cell 2 0]:=fun x0 x1 sp=>vars_read2 enc Z4 aZ underlying143 x0 trivial cS cX underlying143 x1 trivial sp;obtain⟨rfl,rfl⟩:=hV.unique (vr hv0' hv1' _);have k0:=h0;have lt0:∀x∈p0,x.block<W.heap.size:=by obtain⟨m,hm⟩:=k0;exact DataW.trod_lt m _ _ _ hm
 have k1:=h1;have lt1:∀x∈p1,x.block<W.heap.size:=by obtain⟨m,hm⟩:=k1;exact DataW.trod_lt m _ _ _ hm
 have k2:=h2;have lt2:∀x∈p2,x.block<W.heap.size:=by obtain⟨m,hm⟩:=k2;exact DataW.trod_lt m _ _ _ hm
 obtain⟨op,rfl,_,_,_⟩:=open_int underlying3 (hval 0 3 v0 rfl rfl) h0;obtain⟨c,a1,n1,c1,sh,a2,n2,c2,dt,rfl,s1,s2⟩:=TU (hval 1 40 v1 rfl rfl) h1;obtain⟨d,b1,m1,d1,sh',b2,m2,d2,dt',rfl,s3,s4⟩:=TU (hval 2 40 v2 rfl rfl) h2;clear hA0 hval0 hV0 hV;refine(LawDyad.bF F hspec himp op c d a1 a2 b1 b2 n1 n2 m1 m2 c1 c2 d1 d2 sh dt sh' dt' W s1 s2 s3 s4 ga gb hG).mono fun e W'⟨he,bel⟩=> ?_;subst he;exact⟨_,rfl,_,_,_,[],_,_,hW',trodAll_mk1 (shut_bool underlying4 _),(trodAll_cons_mk (Below.trod PF (by kernel_rfl) (BB (by kernel_rfl)) k0 bel lt0) (trodAll_cons_mk (Below.trod PF (by kernel_rfl) (BB (by kernel_rfl)) k1 bel lt1) (trodAll_cons_mk (Below.trod PF (by kernel_rfl) (BB (by kernel_rfl)) k2 bel lt2) trodAll_mk0))),vr (Ny hv0' bel) (Ny hv1' bel) _,bel.frame _,fun h=>by cases h⟩
end OpenDyad
end
section
open Go.ChangeShapes Go.WideShapes Go.ChangeAt Go.Joins
namespace OpenDyad
def Yf:(Rows.fnExactDyadRow.inPlace==prog.inPlace 7)=true:=by kernel_rfl
def bG:(Rows.fnExactDyadRow.unfollowed==prog.unfollowed 7)=true:=by kernel_rfl
def bH:(Rows.fnExactDyadRow.recurses==prog.recurses 7)=true:=by kernel_rfl
def Yg:(Rows.fnExactDyadRow.named==prog.varsNamed 7)=true:=by kernel_rfl
def bI:laidOutB prog=true:=by kernel_rfl
def Yh:prog.mayEnter=true:=by kernel_rfl
def Z3:(Rows.fnExactDyadRow.lifted==prog.liftsFinal)=true:=by kernel_rfl
def Z2:joinedFacts prog 7 Tryz.f7 Rows.fnExactDyadSpec Rows.fnExactDyadRow=true:=by unfold joinedFacts;rw[Yf,bG,bH,Yg,bI,Yh,Z3];kernel_rfl
theorem cD{F:Int->Bool->Bool->List Int->List Int->List Int->List Int->Ic}(hspec:LawDyad.bT F)(himp:LawDyad.bX F):Rows.FnExactDyadSaid:=OpenClaim.holds_of_wide 7 Tryz.f7 rfl rfl rfl rfl rfl rfl rfl ⟨rfl,rfl,rfl,rfl,rfl⟩ rfl rfl rfl rfl rfl (by kernel_rfl) func7 Z2 (BB (by kernel_rfl)) (by unfold Func.isWrapper;first|(rw[AI (by decide+kernel)];kernel_rfl)|(rw[AH (by decide+kernel)];exact⟨rfl,rfl⟩)) (fun os started H enc _=>Zt hspec himp os started H enc)
end OpenDyad
end
namespace OpenDyad
def On{ps:Array TypeId}(hall:ps.toList.all (fun t=> !prog.wantsStandIn t)=true){j:Nat}{t:TypeId}(ht:ps[j]? =some t):prog.wantsStandIn t=false:=by have hm:t∈ps.toList:=Array.mem_toList_iff.mpr (Array.mem_of_getElem? ht);simpa using A7.mp hall t hm
def cU:Rows.fnExactDyadRow.wfByText (OpenSpec.ofChange Rows.fnExactDyadSpec)=true:=by kernel_rfl
def Yz:true=prog.looks []:=by kernel_rfl
def aV:false=OpenClaim.goesBy Rows.fnExactDyadRow prog:=by kernel_rfl
def cV:prog.funcNamed "loop.example/s02542/laws.FnExactDyad"=some 7:=by kernel_rfl
def Yy:Tryz.f7.params.toList.all (fun t=> !prog.wantsStandIn t)=true:=by kernel_rfl
theorem cx{F:Int->Bool->Bool->List Int->List Int->List Int->List Int->Ic}(hspec:LawDyad.bT F)(himp:LawDyad.bX F):Rows.FnExactDyadCardSaid:=Claim7.holds_tied_plain_at .later [] [.sentinel,.sentinel] true (true,"5d477d54a310af48a2ae95aa7344c239ed9683e9d3c3bda78b6853dad3090a7c") true (cD hspec himp) (fun _ h=>by cases h) cU (fun _ h=>by cases h) fnExactDyad_row_tie rfl ⟨rfl,rfl⟩ (by kernel_rfl) rfl (fun f fn hf hfn=>by obtain rfl:f=7:=Dn (cV.symm.trans hf)|>.symm;obtain rfl:fn=Tryz.f7:=(Dn (func7.symm.trans hfn)).symm;exact⟨Yz,fun j t ht=>On Yy ht⟩)
  aV
end OpenDyad
