import Derived.Test.YtinndpnilmmmjaaGreatDoorZ12
import Derived.Deep.RegionHeld3
import Derived.Test.YtinndpnilmmmjaaGreatDoorZ14
import Derived.Test.YtinndpnilmmmjaaGreatDoorZ07
set_option maxRecDepth 20000
set_option maxHeartbeats 4000000
set_option linter.defProp false
namespace Go.Proofs.YtinndpnilmmmjaaGreatDoor
open Go.RowKit Tryz
def Al(ts:List CO)(AJ i:Nat):CO:=ts.getD i ⟨0,0,⟨#[]⟩,AJ⟩
def Bi(y:CO):Value:=.agg #[.int .i64 y.k,.int .i64 y.n,.string y.t,.int .i64 (y.p:Nat)]
def Rr{V:World}{q:Nat}{u0 u1 u2 u3:Value}{T:TypeId}(h:V.heap[q]? =some (.cells #[u0,u1,u2,u3] T (0,0)))(v0 v1 v2 v3:Value):((((V.setCell ⟨q,0,none⟩ v0).setCell ⟨q,1,none⟩ v1).setCell ⟨q,2,none⟩ v2).setCell ⟨q,3,none⟩ v3).heap[q]? =some (.cells #[v0,v1,v2,v3] T (0,0)):=by
 have h0:(V.setCell ⟨q,0,none⟩ v0).heap[q]? =some (.cells #[v0,u1,u2,u3] T (0,0)):=by rw[CX V q 0 _ _ _ h];simp
 have h1:((V.setCell ⟨q,0,none⟩ v0).setCell ⟨q,1,none⟩ v1).heap[q]? =some (.cells #[v0,v1,u2,u3] T (0,0)):=by rw[CX _ q 1 _ _ _ h0];simp
 have h2:(((V.setCell ⟨q,0,none⟩ v0).setCell ⟨q,1,none⟩ v1).setCell ⟨q,2,none⟩ v2).heap[q]? =some (.cells #[v0,v1,v2,u3] T (0,0)):=by rw[CX _ q 2 _ _ _ h1];simp
 rw[CX _ q 3 _ _ _ h2];simp
def OL{V:World}{q:Nat}{u0 u1 u2 u3:Value}{T:TypeId}(h:V.heap[q]? =some (.cells #[u0,u1,u2,u3] T (0,0)))(v0 v1 v2 v3:Value):(((((V.setCell ⟨q,0,none⟩ v0).setCell ⟨q,1,none⟩ v1).setCell ⟨q,2,none⟩ v2).setCell ⟨q,3,none⟩ v3).cell? ⟨q,0,none⟩=some v0/\((((V.setCell ⟨q,0,none⟩ v0).setCell ⟨q,1,none⟩ v1).setCell ⟨q,2,none⟩ v2).setCell ⟨q,3,none⟩ v3).cell? ⟨q,1,none⟩=some v1/\((((V.setCell ⟨q,0,none⟩ v0).setCell ⟨q,1,none⟩ v1).setCell ⟨q,2,none⟩ v2).setCell ⟨q,3,none⟩ v3).cell? ⟨q,2,none⟩=some v2/\((((V.setCell ⟨q,0,none⟩ v0).setCell ⟨q,1,none⟩ v1).setCell ⟨q,2,none⟩ v2).setCell ⟨q,3,none⟩ v3).cell? ⟨q,3,none⟩=some v3):=by have hb:=Rr h v0 v1 v2 v3;refine⟨?_,?_,?_,?_⟩<;>· unfold World.cell?;simp only[hb];rfl
def Tb(w:World)(v0 v1 v2 v3:Value)(q:Nat):((w.alloc (.cells #[v0,v1,v2,v3] 64)).drewN q).heap[w.heap.size]? =some (.cells #[v0,v1,v2,v3] 64 (0,0)):=by show(w.heap.push _)[w.heap.size]? =_;simp
def Vj(w:World)(p tn tc i c AJ:Nat)(ta:Option Addr)(ts:List CO)(hT:Ht w ta tn ts)(hp0:w.cell? ⟨p,0,none⟩=some (.slice ta tn tc))(hp1:w.cell? ⟨p,1,none⟩=some (.int .i64 (i:Nat)))(hp2:w.cell? ⟨p,2,none⟩=some (.int .i64 (AJ:Nat)))(hpl:p<w.heap.size)(hi:i+c<=1048576):Calls prog 158 #[.pointer (some ⟨p,0,none⟩),.int .i64 (c:Nat)] w fun e w'=>e=.returned (Bi (Al ts AJ (i+c)))/\Below w.heap.size w w':=by
 have hln:=hT.len;have hpw:p≠w.heap.size:=by omega
 obtain⟨j,hj⟩:∃j,i+c=j:=⟨_,rfl⟩
 have hsum:(i:Int)+(c:Int)=(j:Int):=by omega
 have hwr:IntKind.i64.wrap (j:Int)=(j:Int):=by rw[IntKind.wrap_i64];omega
 rw[hj];clear hj hi;by_cases hlt:j<tn;case neg=>
  have hl:decide ((j:Int)<(tn:Int))=false:=AD (by omega);have HE:Hid (Al ts AJ j=⟨0,0,⟨#[]⟩,AJ⟩):=by show _=_;unfold Al;rw[AP,CU (by omega)];rfl
  have hl2:¬(j:Int)<(tn:Int):=by omega
  clear hT hlt hln;go_enter func158,ntmps158;go_wp2_with fail
  go_big_quiet(fail)
  go_wp2_with fail;obtain⟨r0,r1,r2,r3⟩:=OL (Tb w (.int .i64 0) (.int .i64 0) (.string ⟨#[]⟩) (.int .i64 0) nq) (.int .i64 0) (.int .i64 0) (.string ⟨#[]⟩) (.int .i64 (AJ:Nat));refine bodyPost_ret (v:=.agg #[.int .i64 0,.int .i64 0,.string ⟨#[]⟩,.int .i64 (AJ:Nat)]) (by simp[results,results158,go_sem,r0,r1,r2,r3]) rfl ⟨?_,?_⟩
  .rw[AA HE];rfl
  .repeat(first|exact AI|refine Below.setCell ?_ (by simp) _|refine Below.drewN ?_ _|refine F3 ?_ AC _)
 case pos=>
  have hl:decide ((j:Int)<(tn:Int))=true:=AK (by omega);have hl2:(j:Int)<(tn:Int):=by omega
  have hj0:(0:Int)<=(j:Int):=by omega
  obtain⟨b,off,y,rfl,hbl,hy,a0,a1,a2,a3⟩:=hT.get hlt;have HE:Hid (Al ts AJ j=y):=by show _=_;unfold Al;rw[AP,hy];rfl
  obtain⟨yk,yn,yt,yp⟩:=y;have hbw:b≠w.heap.size:=by omega
  have HKEEP:Hid (∀wx,Below w.heap.size w wx->wx.cell? ⟨p,0,none⟩=some (.slice (some ⟨b,off,none⟩) tn tc)/\wx.cell? ⟨p,1,none⟩=some (.int .i64 (i:Nat))/\wx.cell? ⟨b,off+j*4,none⟩=some (.int .i64 yk)/\wx.cell? ⟨b,off+j*4+1,none⟩=some (.int .i64 yn)/\wx.cell? ⟨b,off+j*4+2,none⟩=some (.string yt)/\wx.cell? ⟨b,off+j*4+3,none⟩=some (.int .i64 (yp:Nat))):=fun wx hb=>⟨(hb.cell (p:=⟨p,0,none⟩) hpl).trans hp0,(hb.cell (p:=⟨p,1,none⟩) hpl).trans hp1,(hb.cell (p:=⟨b,off+j*4,none⟩) hbl).trans a0,(hb.cell (p:=⟨b,off+j*4+1,none⟩) hbl).trans a1,(hb.cell (p:=⟨b,off+j*4+2,none⟩) hbl).trans a2,(hb.cell (p:=⟨b,off+j*4+3,none⟩) hbl).trans a3⟩
  clear hT hlt hln hy;go_enter func158,ntmps158;go_wp2_with fail
  go_big_quiet(fail)
  go_wp2_with fail
  go_region_held3 (fun wx=>wx.cell? ⟨p,0,none⟩=some (.slice (some ⟨b,off,none⟩) tn tc)/\wx.cell? ⟨p,1,none⟩=some (.int .i64 (i:Nat))/\wx.cell? ⟨b,off+j*4,none⟩=some (.int .i64 yk)/\wx.cell? ⟨b,off+j*4+1,none⟩=some (.int .i64 yn)/\wx.cell? ⟨b,off+j*4+2,none⟩=some (.string yt)/\wx.cell? ⟨b,off+j*4+3,none⟩=some (.int .i64 (yp:Nat))) (first|exact AA HKEEP _ (by repeat(first|exact AI|refine Below.setCell ?_ (by simp) _|refine Below.drewN ?_ _|refine Aa ?_|refine F3 ?_ AC _))) (fail)
  all_goals go_wp2_with fail
  obtain⟨r0,r1,r2,r3⟩:=OL (Tb w (.int .i64 0) (.int .i64 0) (.string ⟨#[]⟩) (.int .i64 0) (nq+1)) (.int .i64 yk) (.int .i64 yn) (.string yt) (.int .i64 (yp:Nat));refine bodyPost_ret (v:=.agg #[.int .i64 yk,.int .i64 yn,.string yt,.int .i64 (yp:Nat)]) (by simp[results,results158,go_sem,r0,r1,r2,r3]) rfl ⟨?_,?_⟩
  .rw[AA HE];rfl
  .repeat(first|exact AI|refine Below.setCell ?_ (by simp) _|refine Below.drewN ?_ _|refine F3 ?_ AC _)
def Tj(l:List UInt8):Lib.index (39::l) [39]=((0:Nat):Int):=by rw[Lib.index];simp[List.isPrefixOf]
def Zj{b:UInt8}(hb:b≠39)(l:List UInt8):Lib.index (b::l) [39]=if Lib.index l [39]= -1 then-1 else Lib.index l [39]+1:=by
 rw[Lib.index];have h1:(39==b)=false:=by simpa using fun e=>hb e.symm
 simp[List.isPrefixOf,h1]
def Lw:∀l:List UInt8,Lib.replaceK [39] [39,39] (Lib.count l [39]) l=qd l
 | []=>by
  have hi:Lib.index [] [39]= -1:=by rw[Lib.index];rfl
  rw[Lib.count_miss hi];rfl
 |b::l=>by
  have ih:=Lw l;by_cases hb:b=39
  .subst hb;rw[Lib.count_hit (by simp) (Tj l),GH,Lib.replaceK_hit _ _ _ _ _ (Tj l)];show[]++ [39,39]++Lib.replaceK [39] [39,39] (Lib.count l [39]) l=_;rw[ih];unfold qd;rw[CY,AL rfl];rfl
  .have hq:qd (b::l)=b::qd l:=by unfold qd;rw[CY,AG hb];rfl
   rw[hq];have hi:=Zj hb l;by_cases h:Lib.index l [39]= -1
   .rw[AL h]at hi;rw[Lib.count_miss hi];rw[Lib.count_miss h]at ih;have:l=qd l:=ih;show b::l=_;rw[<-this]
   .rw[AG h]at hi;have hge:=Lib.index_ge l [39];obtain⟨i,hl⟩:∃i:Nat,Lib.index l [39]=i:=⟨(Lib.index l [39]).toNat,by omega⟩
    rw[hl]at hi;have hi':Lib.index (b::l) [39]=((i+1:Nat):Int):=by rw[hi];rfl
    rw[Lib.count_hit (by simp) hl,GH,Lib.replaceK_hit _ _ _ _ _ hl]at ih;rw[Lib.count_hit (by simp) hi',GH,Lib.replaceK_hit _ _ _ _ _ hi',<-ih];rfl
def Nz(l:List UInt8):Lib.replaceAll l [39] [39,39]=qd l:=by
 unfold Lib.replaceAll Lib.replace;rw[AG (by decide)];have:Lib.replaceNum l [39] (-1)=Lib.count l [39]:=by unfold Lib.replaceNum;rw[AL (by omega)]
 rw[this];exact Lw l
structure Vq(w:World):Prop where
 pow:Lib.TabIs prog w "internal/strconv.uint64pow10" .u64 Lib.pow10Tab
 len:∃m:Int,w.cell? ⟨4,0,none⟩=some (.int .i64 m)
def Rl{W W':World}{n:String}{cs:Array Value}(h:W.var? prog n=some cs)(hb:Below W.heap.size W W'):W'.var? prog n=some cs:=by
 unfold World.var? at h ⊢;cases hg:prog.globalNamed n with
 |none=>simp[hg]at h
 |some g=>
  simp only[hg,Option.bind_some]at h ⊢;have hlt:g<W.heap.size:=by
   cases hh:W.heap[g]? with
   |none=>rw[hh]at h;cases h
   |some o=>exact(Array.getElem?_eq_some_iff.1 hh).1
  rw[hb.block g hlt];exact h
def Vq.below{w w':World}(h:Vq w)(hb:Below w.heap.size w w'):Vq w':=by obtain⟨m,hm⟩:=h.len;exact⟨Rl h.pow hb,m,(hb.cell (p:=⟨4,0,none⟩) (Cb _ _ hm)).trans hm⟩
def NY:Builder.Extra prog Tryz.replAllS_ren where
 sizeBuilder:=by kernel_rfl
 liesBuilder:=by kernel_rfl
 t5:=underlying5
 a5:=isAgg5
 z5:=sizeOf5
 v5:=zeroValue5
 infoByte:=by kernel_rfl
 cellsByte:=by kernel_rfl
 sizeByte:=by kernel_rfl
 neB5:=by decide
def Xi{n:Int}(h:n.natAbs<10 ^ 19):(Lib.itoa n).length<=20:=by
 have h1:=LF 18 n.natAbs h;have h2:=LF 18 n.toNat (by omega);unfold Lib.itoa;split
 .rw[Hf];simp[zb];omega
 .rw[Hf];simp[zb];omega
def RR(w:World)(q:Nat)(os:Array Obj):Below w.heap.size w (Go.Sort.grow (w.drewN q) os):=⟨rfl,rfl,rfl,by simp[Go.Sort.grow],fun k hk=>by simp[Go.Sort.grow,Array.getElem?_append,hk]⟩
def UL(n at':Int)(t:AE)(hn: -9223372036854775808<=n/\n<=9223372036854775807)(w:World)(hG:Vq w):Calls prog 82 #[.agg #[.int .i64 1,.int .i64 n,.string t,.int .i64 at']] w fun e w'=>e=.returned (.string (BU (Fg n)))/\Below w.heap.size w w':=by
 have HG:=AB hG;have HN:=AB hn;clear hG hn;go_enter func82,ntmps82;go_wp2_with fail;refine(Any.strconv_Itoa Tryz.itoaS n (by have:=AA HN;omega) (by have:=AA HN;omega) _ (by exact((AA HG).below (AI.alloc AC _)).pow)).mono ?_;rintro e w1⟨rfl,q,os,hw1⟩;have hb1:Below w.heap.size w w1:=by rw[hw1];exact(AI.alloc AC _).trans ((RR _ _ _).mono (by simp))
 have HB:=AB hb1;clear hb1 hw1;obtain⟨m,hm⟩:=((AA HG).below (AA HB)).len;have hl:=Xi (n:=n) (by have:=AA HN;omega);go_wp2_with fail;refine(Any.strings_Replace (P:=prog) (ρ:=Tryz.replAllS_ren) {Tryz.replAllS with} NY ⟨(Lib.itoa n).toArray⟩ ⟨#[45]⟩ ⟨#[194,175]⟩ 1 m _ (by simp[ByteArray.size];omega) hm (by decide) (by have h7:=Lib.count_le (Lib.itoa n) [45];show(Lib.itoa n).toArray.size+Lib.count (Lib.itoa n) [45]*2<=_;simp;omega)).mono ?_;rintro e w2⟨rfl,hb2⟩;have HB2:=AB ((AA HB).trans (hb2.mono (AA HB).size));have HT:Hid ((ByteArray.mk (Lib.replace (Lib.itoa n) [45] [194,175] 1).toArray)=BU (Fg n)):=by show _=_;rw[VD];rfl
 clear hb2 hm hl;go_wp2_with fail;go_ret;exact⟨by rw[<-AA HT];rfl,AA HB2⟩
def Rw(n at':Int)(t:AE)(ht:t.size<=1048576)(w:World)(hG:Vq w):Calls prog 82 #[.agg #[.int .i64 2,.int .i64 n,.string t,.int .i64 at']] w fun e w'=>e=.returned (.string ⟨(EC t.data.toList).toArray⟩)/\Below w.heap.size w w':=by
 obtain⟨m,hm⟩:=(hG.below (AI.alloc AC (.cells #[.int .i64 2,.int .i64 n,.string t,.int .i64 at'] 64))).len;have hc:=Any.strings_ReplaceAll (P:=prog) (ρ:=Tryz.replAllS_ren) Tryz.replAllS NY t ⟨#[39]⟩ ⟨#[39,39]⟩ m (w.alloc (.cells #[.int .i64 2,.int .i64 n,.string t,.int .i64 at'] 64)) (by omega) hm (by decide) (by have h7:=Lib.count_le t.data.toList [39];show t.size+Lib.count t.data.toList [39]*2<=_;rw[<-Lib.size_eq]at h7;omega);obtain⟨x,hx⟩:∃x:AE,⟨(qd t.data.toList).toArray⟩=x:=⟨_,rfl⟩
 have hq:(ByteArray.mk (Lib.replaceAll t.data.toList (ByteArray.mk #[39]).data.toList (ByteArray.mk #[39,39]).data.toList).toArray)=x:=by rw[<-hx];show ByteArray.mk (Lib.replaceAll t.data.toList [39] [39,39]).toArray=_;rw[Nz]
 rw[hq]at hc;have HC:=AB hc;have hxs:x.size<=2097152:=by rw[<-hx];show(qd t.data.toList).toArray.size<=_;have:=(Mu t.data.toList).1;rw[<-Lib.size_eq]at this;rw[Eu];omega
 have HR:Hid ((ByteArray.mk #[39]++x)++ByteArray.mk #[39]=⟨(EC t.data.toList).toArray⟩):=by show _=_;rw[<-hx];refine CJ (CI.1 ?_);rw[ByteArray.data_append,ByteArray.data_append,Array.toList_append,Array.toList_append];unfold EC qd;simp
 have hno1:¬ 9223372036854775807<(ByteArray.mk #[39]).size+x.size:=by rw[show(ByteArray.mk #[39]).size=1 from rfl];omega
 have hno2:¬ 9223372036854775807<(ByteArray.mk #[39]++x).size+(ByteArray.mk #[39]).size:=by rw[ByteArray.size_append,show(ByteArray.mk #[39]).size=1 from rfl];omega
 clear hc hq hm hx hG ht;go_enter func82,ntmps82;go_wp2_with(go_at_call 126;refine(AA HC).mono ?_;rintro e w1⟨rfl,hb1⟩;have HB1:=AB (((DP _ w).alloc AC (.cells #[.int .i64 2,.int .i64 n,.string t,.int .i64 at'] 64)).trans (hb1.mono (by simp)));clear hb1);go_ret;exact⟨by rw[<-AA HR];rfl,AA HB1⟩
def QH(k n at':Int)(t:AE)(h1:k≠1)(h2:k≠2)(w:World):Calls prog 82 #[.agg #[.int .i64 k,.int .i64 n,.string t,.int .i64 at']] w fun e w'=>e=.returned (.string t)/\Below w.heap.size w w':=by
 have e1:(k==1)=false:=by simpa using h1
 have e2:(k==2)=false:=by simpa using h2
 clear h1 h2;go_enter func82,ntmps82;go_wp2_with fail;go_ret;exact⟨rfl,AI.alloc AC _⟩
def UM(k n at':Int)(t:AE)(hn: -9223372036854775808<=n/\n<=9223372036854775807)(ht:t.size<=1048576)(w:World)(hG:Vq w):Calls prog 82 #[.agg #[.int .i64 k,.int .i64 n,.string t,.int .i64 at']] w fun e w'=>e=.returned (.string (Dd k n t))/\Below w.heap.size w w':=by
 unfold Dd;by_cases h1:k=1
 .rw[AL h1,h1];exact UL n at' t hn w hG
 .rw[AG h1];by_cases h2:k=2
  .rw[AL h2,h2];exact Rw n at' t ht w hG
  .rw[AG h2];exact QH k n at' t h1 h2 w
structure cc(w:World)(B:Nat)(a:Option Addr)(n:Nat)(ts:List CO):Prop where
 len:ts.length=n
 at_:n=0\/∃g off,a=some ⟨g,off,none⟩/\B<=g/\g<w.heap.size/\(∀i,i<4*n->w.cell? ⟨g,off+i,none⟩=(ts.flatMap Bo)[i]?)/\(∀i,i<4*n->w.frozen? ⟨g,off+i,none⟩=false)
def cc.row{w:World}{B:Nat}{a:Option Addr}{n:Nat}{ts:List CO}(h:cc w B a n ts):Ht w a n ts:=by
 refine⟨h.len,?_⟩;rcases h.at_ with h0|⟨g,off,rfl,_,hlt,hc,_⟩
 .exact .inl h0
 .exact .inr ⟨g,off,rfl,hlt,hc⟩
def PQ{w:World}{B n:Nat}{v:Value}{ts:List CO}(h:w.ownsRow B 64 4 v n (ts.flatMap Bo)):∃a cap,v=.slice a n cap/\cc w B a n ts:=by
 have hl:ts.length=n:=by have:=h.1;rw[Ln]at this;omega
 rcases h.2 with⟨h',h0⟩|⟨g,cap,cur,h',hb,hg,_,_,hcs,ht⟩
 .subst h0;exact⟨none,0,h',hl,.inl rfl⟩
 .refine⟨some ⟨g,0,none⟩,cap,h',hl,.inr ⟨g,0,rfl,hb,lt_of_block hg,fun i hi=> ?_,fun i _=> ?_⟩⟩
  .rw[BY];have e:cur.toList[i]? =(ts.flatMap Bo)[i]? :=by rw[<-ht,BN,AL (by omega)]
   simpa[World.cell?,hg]using e
  .exact BJ w g _ _ _ hg
def XY(b off n cap:Nat)(ks:List Int)(w:World)(h:Df w (some ⟨b,off,none⟩) n ks):Calls prog 25 #[.int .i64 1,.slice (some ⟨b,off,none⟩) n cap] w fun e w'=>e=.returned (.bool (Bu 1 ks))/\Below w.heap.size w w':=by
 have Ae:=h.len;obtain⟨r,hr⟩:∃r,Bu 1 ks=r:=⟨_,rfl⟩
 rw[hr];have HR:Hid (B3 [] ks=r):=hr;clear hr;by_cases hn:n=0;case neg=>
  have hg:((0:Int) !=(n:Int))=true:=by simp;omega
  have HE:Hid (false=r):=by show _=_;rw[<-AA HR];exact(Cn _ _ (by rw[Ae];exact fun e=>hn e.symm)).symm
  clear hn;go_enter func25,ntmps25;go_wp2_with fail;go_ret;exact⟨AN (AA HE),AI.alloc AC _⟩
 subst hn;have H:=AB h;clear h;go_enter func25,ntmps25;go_wp2_with fail;go_loopw[7] (fun i wr=>∃j:Nat,j<=0/\i=.int .i64 j/\Hid (B3 (List.take j []) (ks.take j)=true)/\Hid (Below w.heap.size w wr)) (fun i _=>0- (intOf i).toNat);case atStart=>exact⟨0,AZ _,rfl,rfl,AI.alloc AC _⟩
 case round=>
  obtain⟨j,hj,rfl,HA,HB⟩:=hrel;have hjn:j=0:=by omega
  subst hjn;have HE:Hid (true=r):=by show _=_;rw[<-AA HR];have:=AA HA;rw[AO (by simp),AO (by omega)]at this;exact this.symm
  go_wp2_with fail;go_ret;exact⟨AN (AA HE),AA HB⟩
def XX(b off n cap:Nat)(ks:List Int)(w:World)(h:Df w (some ⟨b,off,none⟩) n ks):Calls prog 25 #[.int .i64 2,.slice (some ⟨b,off,none⟩) n cap] w fun e w'=>e=.returned (.bool (Bu 2 ks))/\Below w.heap.size w w':=by
 have Ae:=h.len;obtain⟨r,hr⟩:∃r,Bu 2 ks=r:=⟨_,rfl⟩
 rw[hr];have HR:Hid (B3 [] ks=r):=hr;clear hr;by_cases hn:n=0;case neg=>
  have hg:((0:Int) !=(n:Int))=true:=by simp;omega
  have HE:Hid (false=r):=by show _=_;rw[<-AA HR];exact(Cn _ _ (by rw[Ae];exact fun e=>hn e.symm)).symm
  clear hn;go_enter func25,ntmps25;go_wp2_with fail;go_ret;exact⟨AN (AA HE),AI.alloc AC _⟩
 subst hn;have H:=AB h;clear h;go_enter func25,ntmps25;go_wp2_with fail;go_loopw[7] (fun i wr=>∃j:Nat,j<=0/\i=.int .i64 j/\Hid (B3 (List.take j []) (ks.take j)=true)/\Hid (Below w.heap.size w wr)) (fun i _=>0- (intOf i).toNat);case atStart=>exact⟨0,AZ _,rfl,rfl,AI.alloc AC _⟩
 case round=>
  obtain⟨j,hj,rfl,HA,HB⟩:=hrel;have hjn:j=0:=by omega
  subst hjn;have HE:Hid (true=r):=by show _=_;rw[<-AA HR];have:=AA HA;rw[AO (by simp),AO (by omega)]at this;exact this.symm
  go_wp2_with fail;go_ret;exact⟨AN (AA HE),AA HB⟩
def XW(b off n cap:Nat)(ks:List Int)(w:World)(h:Df w (some ⟨b,off,none⟩) n ks):Calls prog 25 #[.int .i64 3,.slice (some ⟨b,off,none⟩) n cap] w fun e w'=>e=.returned (.bool (Bu 3 ks))/\Below w.heap.size w w':=by
 have Ae:=h.len;obtain⟨r,hr⟩:∃r,Bu 3 ks=r:=⟨_,rfl⟩
 rw[hr];have HR:Hid (B3 [] ks=r):=hr;clear hr;by_cases hn:n=0;case neg=>
  have hg:((0:Int) !=(n:Int))=true:=by simp;omega
  have HE:Hid (false=r):=by show _=_;rw[<-AA HR];exact(Cn _ _ (by rw[Ae];exact fun e=>hn e.symm)).symm
  clear hn;go_enter func25,ntmps25;go_wp2_with fail;go_ret;exact⟨AN (AA HE),AI.alloc AC _⟩
 subst hn;have H:=AB h;clear h;go_enter func25,ntmps25;go_wp2_with fail;go_loopw[7] (fun i wr=>∃j:Nat,j<=0/\i=.int .i64 j/\Hid (B3 (List.take j []) (ks.take j)=true)/\Hid (Below w.heap.size w wr)) (fun i _=>0- (intOf i).toNat);case atStart=>exact⟨0,AZ _,rfl,rfl,AI.alloc AC _⟩
 case round=>
  obtain⟨j,hj,rfl,HA,HB⟩:=hrel;have hjn:j=0:=by omega
  subst hjn;have HE:Hid (true=r):=by show _=_;rw[<-AA HR];have:=AA HA;rw[AO (by simp),AO (by omega)]at this;exact this.symm
  go_wp2_with fail;go_ret;exact⟨AN (AA HE),AA HB⟩
