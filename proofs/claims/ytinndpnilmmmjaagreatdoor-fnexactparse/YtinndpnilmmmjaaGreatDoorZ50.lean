import Derived.Test.YtinndpnilmmmjaaGreatDoorZ49
import Derived.Stop.LaidErr
set_option maxRecDepth 100000
set_option linter.defProp false
namespace Go.Proofs.YtinndpnilmmmjaaGreatDoor
open Go.RowKit Go.Proofs.Tryz
section
open Go.ChangeShapes Go.WideShapes Go.ChangeAt Go.Joins
namespace OpenParse
open OpenLex (own Tg X2 OW Tx)
open OpenTok (cj Tm)
def gE:prog.globalNamed "loop.example/s02542/impl.errNoLine"=some 1:=by kernel_rfl
def tE:(prog.globals[1]?).map (·.type)=some 66:=by kernel_rfl
def cu: "*"++ "errors.errorString"= "*errors.errorString":=by decide
def bR(u:TypeId)(h:prog.typeName? 3 u=some "*errors.errorString"):u=236:=typeName_ptr_named (nm:= "errors.errorString") (by rw[cu];kernel_rfl) (by kernel_rfl) (by decide) u (by rw[cu];exact h)
def YS:prog.cellsOf 238=1:=by kernel_rfl
def YR:prog.cellsOf 9=1:=by kernel_rfl
def et:prog.globalNamed "errors.errorType"=some 0:=by kernel_rfl
def rt:(prog.cutTypes.find? (·.1== "internal/reflectlite.rtype")).map (·.2)=some 169:=by kernel_rfl
def bW:((List.range 267).filter fun t=>prog.rowNamed t [101,114,114,111,114])= [66]:=by kernel_rfl
def size:prog.types.size=267:=by kernel_rfl
def Dr:List (String×DataW Unit):= [("math/bits.deBruijn32tab",Rows.laid_math_bits_deBruijn32tab),("math/bits.deBruijn64tab",Rows.laid_math_bits_deBruijn64tab),("internal/strconv.uint64pow10",Rows.laid_internal_strconv_uint64pow10),("unicode/utf8.acceptRanges",Rows.laid_unicode_utf8_acceptRanges),("strconv.ErrRange",Rows.laid_strconv_ErrRange),("strconv.ErrSyntax",Rows.laid_strconv_ErrSyntax),("loop.example/s02542/impl.errNoLine",Rows.laid_loop_example_s02542_impl_errNoLine),("unicode/utf8.first",Rows.laid_unicode_utf8_first)]
def QX:(Rows.fnExactParseRow.laid.filter fun x=>x.2.handleName?.isNone)=Dr:=by kernel_rfl
def Tl:(Rows.fnExactParseRow.laid.filter fun x=>x.2.handleName?.isSome)= [("errors.errorType",Rows.laid_errors_errorType)]:=by kernel_rfl
def SW{W:World}(h:laidMetH prog Rows.fnExactParseRow.laid W):laidMet prog Dr W/\handlesMet prog [("errors.errorType",Rows.laid_errors_errorType)] W:=by unfold laidMetH at h;rw[Tl,QX]at h;exact h
def VH{W:World}(h:handlesMet prog [("errors.errorType",Rows.laid_errors_errorType)] W):W.cell? ⟨0,0,none⟩=some (.iface 169 (.agg #[.pointer (some ⟨10,66,none⟩)])):=by
 obtain⟨name,u,ty,e1,e2,e3,e4,e5⟩:=h _ (AY.2 rfl);have en:name= [101,114,114,111,114]:=(Ac e1).symm;subst en;obtain rfl:=Ac (rt.symm.trans e2);have hm:ty∈(List.range 267).filter fun t=>prog.rowNamed t [101,114,114,111,114]:=List.mem_filter.2 ⟨DZ.2 (by rw[<-size];exact e3),e4⟩;rw[bW]at hm;obtain rfl:=AY.1 hm;have hh:typeHandle prog 66=.pointer (some ⟨10,66,none⟩):=by kernel_rfl
 rw[hh]at e5;simpa using World.var?_cell et e5 0
def cI{W:World}(h:laidMet prog Dr W):∃a,W.var? prog "loop.example/s02542/impl.errNoLine"=some #[.iface 236 (.pointer (some a))]:=by obtain⟨a,_,hv,_⟩:=laid_sentinel h.tail.tail.tail.tail.tail.tail gE tE underlying66 bR underlying236 underlying238 rfl rfl underlying9 YS YR;exact⟨a,hv⟩
def Rm{W W':World}{n:String}{cs:Array Value}(h:W.var? prog n=some cs)(hb:Below W.heap.size W W'):W'.var? prog n=some cs:=by
 unfold World.var? at h ⊢;cases hg:prog.globalNamed n with
 |none=>simp[hg]at h
 |some g=>
  simp only[hg,Option.bind_some]at h ⊢;have hlt:g<W.heap.size:=by
   cases hh:W.heap[g]? with
   |none=>rw[hh]at h;cases h
   |some o=>exact(Array.getElem?_eq_some_iff.1 hh).1
  rw[hb.block g hlt];exact h
def LA:Obj->Obj
 |.cells _ t frozen=>.cells #[.iface 169 (.agg #[.pointer (some ⟨10,66,none⟩)])] t frozen
 |o=>o
def XK(os:Os):(({World.holding prog os ⟨#[],#[],[]⟩with heap:=(World.holding prog os ⟨#[],#[],[]⟩).heap.modify 0 LA}:World).layVars prog Dr).os=os:=(World.layVars_os _ _ _).trans rfl
def Qe(os:Os)(args:Array Value)(hf:({World.holding prog os ⟨#[],#[],[]⟩with heap:=(World.holding prog os ⟨#[],#[],[]⟩).heap.modify 0 LA}:World).layFits prog Dr []=true)(hi:({World.holding prog os ⟨#[],#[],[]⟩with heap:=(World.holding prog os ⟨#[],#[],[]⟩).heap.modify 0 LA}:World).layIfaces prog Dr (({World.holding prog os ⟨#[],#[],[]⟩with heap:=(World.holding prog os ⟨#[],#[],[]⟩).heap.modify 0 LA}:World).layVars prog Dr)=true):laidMet prog Dr ((({World.holding prog os ⟨#[],#[],[]⟩with heap:=(World.holding prog os ⟨#[],#[],[]⟩).heap.modify 0 LA}:World).layVars prog Dr).forCall (fun _ _=>0) ⟨#[],args,[]⟩).memory:=by
 have e1:(Dr.filter fun x=>(Dr.map (·.1)).contains x.1)=Dr:=List.filter_eq_self.2 fun x hx=>List.contains_iff_mem.2 (DT.2 ⟨x,hx,rfl⟩);have e2:(Dr.filter fun x=> !(Dr.map (·.1)).contains x.1)= []:=List.filter_eq_nil_iff.2 fun x hx=>by rw[List.contains_iff_mem.2 (DT.2 ⟨x,hx,rfl⟩)];simp
 have h:laidMet prog Dr (({World.holding prog os ⟨#[],#[],[]⟩with heap:=(World.holding prog os ⟨#[],#[],[]⟩).heap.modify 0 LA}:World).layVars prog Dr):=laidMet_layVars (w0:=({World.holding prog os ⟨#[],#[],[]⟩with heap:=(World.holding prog os ⟨#[],#[],[]⟩).heap.modify 0 LA}:World)) (Dr.map (·.1)) [] (by rw[e1]) (by rw[e1];exact hf) (by rw[e1];exact hi) (by rw[e2];exact LaidIn.none);exact h.of_heap (by simp[World.memory,World.forCall,Input.heap])
def Uu(os:Os)(args:Array Value):laidMetH prog Rows.fnExactParseRow.laid ((({World.holding prog os ⟨#[],#[],[]⟩with heap:=(World.holding prog os ⟨#[],#[],[]⟩).heap.modify 0 LA}:World).layVars prog Dr).forCall (fun _ _=>0) ⟨#[],args,[]⟩).memory:=laidMetH_of_parts (by rw[QX];exact Qe os args (by kernel_rfl) (by kernel_rfl)) (by rw[Tl];kernel_rfl)
def Zc(a:Option Addr)(n c:Nat)(zs:List Int)(w:World)(h:De w a n zs)(hz:∀z∈zs,0<=z/\z<256)(hG:Yi w):Calls prog 5 #[.slice a n c] w fun e w'=>e=.returned (.bool true)/\Below w.heap.size w w':=by
 by_cases hn:n<=1048576
 .have hs:(BU zs).size=n:=by rw[Fz];exact h.len
  have h':De w a (BU zs).size (bz (BU zs)):=by rw[hs,Tx hz];exact h
  have:=LawParse.ch a c (BU zs) w h' (by omega) hG;rw[hs]at this;exact this
 .exact LawParse.eF a n c w (by omega)
def bc(os:Os)(started:os.Started)(H:Type)(enc:TypeId×Value->H):ReturnsInHanded {} Tryz.checked os 5 .any (fun w args=>(Rows.fnExactParseSpec.pre enc prog Tryz.f5 [] false w args/\laidMetH prog Rows.fnExactParseRow.laid w)/\sizedMet enc prog Tryz.f5 (OpenSpec.ofChange Rows.fnExactParseSpec) false w args) (Rows.fnExactParseSpec.post enc prog Tryz.f5 false true false false):=by
 refine cj (C:=Tryz.checked) (X:=fun w _=>laidMetH prog Rows.fnExactParseRow.laid w) (fun _ _ _ hh h=>h.of_heap hh) own started (by kernel_rfl) func5 (ChangeSpec.witness_shaped (enc:=enc) (C:=Tryz.checked) (os:=os) (X:=fun w _=>laidMetH prog Rows.fnExactParseRow.laid w) false (({World.holding prog os ⟨#[],#[],[]⟩with heap:=(World.holding prog os ⟨#[],#[],[]⟩).heap.modify 0 LA}:World).layVars prog Dr) #[.slice none 0 0] 8 (XK os) (World.shaped_of_ZipB (by kernel_rfl) (by kernel_rfl)) (by kernel_rfl) (by kernel_rfl) (by kernel_rfl) (Uu os _)) ?_;intro W base args ds gs before hval0 hW hL hsh;have hval:∀(j:Nat)t v,Tryz.f5.params[j]? =some t->args[j]? =some v->Value.okWide prog W .any base t v:=hval0;have hW':=hW;obtain⟨p,q,hA0,hV0,rfl,hfz,hnd⟩:=hW;have hA:DataW.TrodAll enc prog W 0 (fun _=>true) true Tryz.f5.params.toList args.toList ds p:=hA0;have hV:DataW.TrodVars enc prog W (fun _=>true) ["loop.example/s02542/impl.errNoLine"] gs q:=hV0;rw[Tryz.params5]at hA hval;obtain⟨v0,vs0,d0,ds0,p0,q0,hargs,rfl,rfl,h0,r0⟩:=trodAll_cons hA;obtain⟨rfl,rfl,rfl⟩:=trodAll_nil r0;obtain rfl:args= #[v0]:=by cases args;simp_all
 obtain⟨hP,hH⟩:=SW hL;obtain⟨ga,hv⟩:=cI hP;have vr:∀ {X:World},X.var? prog "loop.example/s02542/impl.errNoLine"=some #[.iface 236 (.pointer (some ga))]->∀sp:Nat->Bool,DataW.TrodVars enc prog X sp ["loop.example/s02542/impl.errNoLine"] [tok enc (.iface 236 (.pointer (some ga)))] [.cell 1 0]:=fun x sp=>vars_read1 enc gE tE underlying66 x trivial sp;obtain⟨rfl,rfl⟩:=hV.unique (vr hv _);have hG:=Tm hP (by simp[Dr]) hsh;have hG2:=X2 hP (by simp[Dr]) (by simp[Dr]) (by simp[Dr]);have hGP:Yi W:=⟨⟨hG,hG2.1,hG2.2⟩,⟨_,ga,by simpa using World.var?_cell gE hv 0⟩,VH hH⟩
 have k0:=h0;have lt0:∀x∈p0,x.block<W.heap.size:=by obtain⟨m,hm⟩:=k0;exact DataW.trod_lt m _ _ _ hm
 have hv0:=hval 0 33 v0 rfl rfl;obtain⟨a1,l1,c1,rfl⟩:=okWide_slice underlying33 hv0;obtain⟨fuel,hf⟩:=h0;obtain⟨a,n,c,zs,hvv,hby,hz⟩:=OW hf;cases hvv;clear hA0 hval0 hV0 hV;refine(Zc _ _ _ zs W hby hz hGP).mono fun e W'⟨he,bel⟩=> ?_;subst he;exact⟨_,rfl,_,_,_,[],_,_,hW',trodAll_mk1 (shut_bool underlying4 _),(trodAll_cons_mk (Below.trod Tg (by kernel_rfl) (AT (by kernel_rfl)) k0 bel lt0) trodAll_mk0),vr (Rm hv bel) _,bel.frame _,fun h=>by cases h⟩
theorem fL:Rows.FnExactParseSaid:=OpenClaim.holds_of_wide 5 Tryz.f5 rfl rfl rfl rfl rfl rfl rfl ⟨rfl,rfl,rfl,rfl,rfl⟩ rfl rfl rfl rfl rfl (by kernel_rfl) func5 (by kernel_rfl) (AT (by kernel_rfl)) (by unfold Func.isWrapper;first|(rw[AL (by decide+kernel)];kernel_rfl)|(rw[AG (by decide+kernel)];exact⟨rfl,rfl⟩)) (fun os started H enc _=>bc os started H enc)
end OpenParse
end
