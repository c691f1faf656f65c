import Derived.Test.YtinndpnilmmmjaaGreatDoorZ05
import Derived.Test.YtinndpnilmmmjaaGreatDoorZ04
set_option maxRecDepth 20000
set_option maxHeartbeats 4000000
set_option linter.defProp false
namespace Go.Proofs.YtinndpnilmmmjaaGreatDoor
open Go.RowKit Tryz
def Li:(prog.info? 47).map (fun i=>(i.zero,i.size,i.bytes))=some (some (.agg #[.int .i64 0,.int .i64 0,.int .i64 0,.string ⟨#[]⟩,.slice none 0 0,.slice none 0 0]),6,88):=by kernel_rfl
structure AW where
 d:AM
 v4:Value
 v5:Value
def AW.cells(x:AW):List Value:= [.int .i64 x.d.k,.int .i64 x.d.n,.int .i64 x.d.m,.string x.d.s,x.v4,x.v5]
def Dk(w:World)(B:Nat)(v:Value)(zs:List Int):Prop:=w.ownsRow B 3 1 v zs.length (zs.map (Value.int .i64))
def AW.Ok(w:World)(B:Nat)(x:AW):Prop:=Dk w B x.v4 x.d.nums/\Dk w B x.v5 x.d.kids
def AW.blks(x:AW):List Nat:=x.v4.ownBlock.toList++x.v5.ownBlock.toList
def Bm(xs:List AW):List Nat:=xs.flatMap AW.blks
def DE(xs ys:List AW):Bm (xs++ys)=Bm xs++Bm ys:=by unfold Bm;rw[DF]
structure PS(T:TypeId)(Z:World)(p:Nat)(v0 v2:Value)(w:World)(i:Nat)(nd:Value)(xs:List AW):Prop where
 box:w.heap[p]? =some (.cells #[v0,.int .i64 (i:Nat),v2,nd] T (0,0))
 own:w.ownsRow Z.heap.size 47 6 nd xs.length (xs.flatMap AW.cells)
 lists:∀x∈xs,x.Ok w Z.heap.size
 apart:(Bm xs).Nodup
 low:Below Z.heap.size Z w
 hp:Z.heap.size<=p
 ty:T≠47/\T≠3
def Gc(p:Nat)(nd:Value)(w w':World):Prop:=EF (fun x=>x=p\/nd.ownBlock=some x) w w'
section
variable {T:TypeId}{Z w w1 w2:World}{p i i1:Nat}{v0 v2 v2' nd nd1:Value}{xs ys zs:List AW}
def Ag{B e size n:Nat}{v:Value}{l:List Value}(h:w.ownsRow B e size v n l){g:Nat}(hg:v.ownBlock=some g):∃cur,w.heap[g]? =some (.cells cur e (0,0))/\B<=g:=by
 rcases h.2 with⟨rfl,_⟩|⟨g',cap,cur,rfl,hB,hh,_⟩
 .cases hg
 .cases hg;exact⟨cur,hh,hB⟩
def BP{B e size n:Nat}{v:Value}{l:List Value}(h:w.ownsRow B e size v n l)(hb:∀g,v.ownBlock=some g->w1.heap[g]? =w.heap[g]?):w1.ownsRow B e size v n l:=by
 refine⟨h.1,?_⟩;rcases h.2 with h2|⟨g,cap,cur,rfl,hB,hh,r⟩
 .exact .inl h2
 .exact .inr ⟨g,cap,cur,rfl,hB,(hb g rfl).trans hh,r⟩
def PS.keepI(h:PS T Z p v0 v2 w i nd xs)(hb:Gc p nd w w1){B:Nat}{v:Value}{l:List Int}(ho:Dk w B v l):Dk w1 B v l:=by
 refine BP ho fun g hg=> ?_;obtain⟨cur,hh,_⟩:=Ag ho hg;refine hb.block g (lt_of_block hh) ?_;rintro(rfl|hn)
 .rw[h.box]at hh;have:=Ac hh;simp at this;exact h.ty.2 this.2
 .obtain⟨cur',hh',_⟩:=Ag h.own hn;rw[hh']at hh;have:=Ac hh;simp at this
def PS.below(h:PS T Z p v0 v2 w i nd xs)(hb:Below w.heap.size w w1):PS T Z p v0 v2 w1 i nd xs:=by
 have hk:∀g,g<w.heap.size->w1.heap[g]? =w.heap[g]? :=fun g hg=>hb.block g hg;refine⟨(hk p (lt_of_block h.box)).trans h.box,BP h.own fun g hg=> ?_,fun x hx=>⟨BP (h.lists x hx).1 fun g hg=> ?_,BP (h.lists x hx).2 fun g hg=> ?_⟩,h.apart,h.low.trans (hb.mono h.low.size),h.hp,h.ty⟩
 .obtain⟨cur,hh,_⟩:=Ag h.own hg;exact hk g (lt_of_block hh)
 .obtain⟨cur,hh,_⟩:=Ag (h.lists x hx).1 hg;exact hk g (lt_of_block hh)
 .obtain⟨cur,hh,_⟩:=Ag (h.lists x hx).2 hg;exact hk g (lt_of_block hh)
def Gc.refl(p:Nat)(nd:Value)(w:World):Gc p nd w w:=EF.refl _ w
def Gc.of_below(hb:Below w.heap.size w w1):Gc p nd w w1:=EF.of_below hb
def Gc.trans(h1:Gc p nd w w1)(hn:nd1.ownBlock=nd.ownBlock\/∀b,nd1.ownBlock=some b->w.heap.size<=b)(h2:Gc p nd1 w1 w2):Gc p nd w w2:=by
 have hz:=h1.size;refine⟨h2.os.trans h1.os,h2.tape.trans h1.tape,h2.output.trans h1.output,Aw hz h2.size,fun k hk hn'=> ?_⟩;refine(h2.block k (by omega) ?_).trans (h1.block k hk hn');rintro(rfl|e)
 .exact hn' (.inl rfl)
 .rcases hn with hn|hn
  .exact hn' (.inr (hn▸e))
  .have:=hn k e;omega
def PS.setAt(h:PS T Z p v0 v2 w i nd xs)(j:Nat):PS T Z p v0 v2 (w.setCell ⟨p,1,none⟩ (.int .i64 (j:Nat))) j nd xs/\Gc p nd w (w.setCell ⟨p,1,none⟩ (.int .i64 (j:Nat))):=by
 have hb:Gc p nd w (w.setCell ⟨p,1,none⟩ (.int .i64 (j:Nat))):=(EF.refl _ w).setCell (.inl rfl) _;refine⟨⟨?_,BP h.own fun g hg=> ?_,fun x hx=>⟨h.keepI hb (h.lists x hx).1,h.keepI hb (h.lists x hx).2⟩,h.apart,h.low.setCell h.hp _,h.hp,h.ty⟩,hb⟩
 .rw[CX w p 1 _ _ _ h.box];simp
 .refine BZ w ⟨p,1,none⟩ g _ fun e=> ?_;obtain⟨cur,hh,_⟩:=Ag h.own hg;have e':g=p:=e;rw[e',h.box]at hh;have:=Ac hh;simp at this;exact h.ty.1 this.2
def PS.all(h:PS T Z p v0 v2 w i nd xs):w.cell? ⟨p,0,none⟩=some v0/\w.cell? ⟨p,1,none⟩=some (.int .i64 (i:Nat))/\w.cell? ⟨p,2,none⟩=some v2/\w.cell? ⟨p,3,none⟩=some nd/\w.frozen? ⟨p,0,none⟩=false/\w.frozen? ⟨p,1,none⟩=false/\w.frozen? ⟨p,2,none⟩=false/\w.frozen? ⟨p,3,none⟩=false/\p<w.heap.size:=by have hb:=h.box;refine⟨?_,?_,?_,?_,BJ w p 0 _ _ hb,BJ w p 1 _ _ hb,BJ w p 2 _ _ hb,BJ w p 3 _ _ hb,lt_of_block hb⟩<;>simp[World.cell?,hb]
def PS.put(h:PS T Z p v0 v2 w i nd xs){W:World}(hW:Below w.heap.size w W){x:AW}(hx:x.Ok W Z.heap.size)(hd:∀b∈x.blks,b∉Bm xs)(hnd:x.blks.Nodup){g cap:Nat}{w7:World}(ET:w7.ownsRow Z.heap.size 47 6 (.slice (some ⟨g,0,none⟩) (xs.length+1) cap) (xs.length+1) (xs.flatMap AW.cells++x.cells))(hg:W.grownBy w7 nd.ownBlock)(hat:nd.ownBlock=some g\/g=W.heap.size)(hnew:∀b∈x.blks,b<W.heap.size):PS T Z p v0 v2 (w7.setCell ⟨p,3,none⟩ (.slice (some ⟨g,0,none⟩) (xs.length+1) cap)) i (.slice (some ⟨g,0,none⟩) (xs.length+1) cap) (xs++ [x])/\Gc p nd w (w7.setCell ⟨p,3,none⟩ (.slice (some ⟨g,0,none⟩) (xs.length+1) cap))/\((Value.slice (some ⟨g,0,none⟩) (xs.length+1) cap).ownBlock=nd.ownBlock\/∀b,(Value.slice (some ⟨g,0,none⟩) (xs.length+1) cap).ownBlock=some b->w.heap.size<=b):=by
 have hz:=hW.size;have hpl:=lt_of_block h.box;have hW':=h.below hW;have hgp:g≠p:=by
  rcases hat with e|e
  .obtain⟨cur,hh,_⟩:=Ag h.own e;intro e';rw[e',h.box]at hh;have:=Ac hh;simp at this;exact h.ty.1 this.2
  .omega
 have hnp:some p≠nd.ownBlock:=fun e=>by obtain⟨cur,hh,_⟩:=Ag h.own e.symm;rw[h.box]at hh;have:=Ac hh;simp at this;exact h.ty.1 this.2
 have hb7:w7.heap[p]? =some (.cells #[v0,.int .i64 (i:Nat),v2,nd] T (0,0)):=(hg.block p (by omega) hnp).trans ((hW.block p hpl).trans h.box);have hI:∀ {v:Value}{l:List Int},Dk W Z.heap.size v l->Dk (w7.setCell ⟨p,3,none⟩ (.slice (some ⟨g,0,none⟩) (xs.length+1) cap)) Z.heap.size v l:=fun {v l}ho=>by
  refine BP ho fun k hk=> ?_;obtain⟨cur,hh,_⟩:=Ag ho hk;have hkp:k≠p:=fun e=>by rw[e,hW'.box]at hh;have:=Ac hh;simp at this;exact h.ty.2 this.2
  have hkn:some k≠nd.ownBlock:=fun e=>by obtain⟨cur',hh',_⟩:=Ag hW'.own e.symm;rw[hh']at hh;have:=Ac hh;simp at this
  rw[BZ w7 ⟨p,3,none⟩ k _ hkp];exact hg.block k (lt_of_block hh) hkn
 refine⟨⟨?_,?_,fun y hy=> ?_,?_,?_,h.hp,h.ty⟩,⟨?_,?_,?_,?_,fun k hk hn=> ?_⟩,?_⟩
 .rw[CX w7 p 3 _ _ _ hb7];simp
 .rw[AH,DF];have e: [x].flatMap AW.cells=x.cells:=by simp
  rw[e];exact BP ET fun k hk=>BZ w7 ⟨p,3,none⟩ k _ (fun e=>by simp[Value.ownBlock]at hk;exact hgp (hk.trans e))
 .rcases Ak.1 hy with h'|h'
  .exact⟨hI (hW'.lists y h').1,hI (hW'.lists y h').2⟩
  .rw[AY]at h';subst h';exact⟨hI hx.1,hI hx.2⟩
 .rw[DE,IA];refine⟨h.apart,by simpa[Bm]using hnd,fun b hb c hc e=> ?_⟩;subst e;exact hd b (by simpa[Bm]using hc) hb
 .have:Below Z.heap.size Z w7:=(h.low.trans (hW.mono h.low.size)).grown hg (Aw h.low.size hz) (fun k hk=>(Ag h.own hk).elim fun _ hc=>hc.2);exact this.setCell h.hp _
 .exact hg.os.trans hW.os
 .exact hg.tape.trans hW.tape
 .exact hg.output.trans hW.output
 .show w.heap.size<=(w7.setCell _ _).heap.size;have:=hg.size;simp;omega
 .rw[BZ w7 ⟨p,3,none⟩ k _ (fun e=>hn (.inl e))];exact(hg.block k (by omega) (fun e=>hn (.inr e.symm))).trans (hW.block k hk)
 .rcases hat with e|e
  .exact .inl (by rw[e];rfl)
  .exact .inr fun b hb=>by simp[Value.ownBlock]at hb;omega
end
def LX(t d r x:AE)(H:Bool)(c l:Nat)(w:World)(hH:CM t 0=H)(hd:(if H=true then t.extract 2 t.size else t)=d)(hc:Bp Es d=c)(hr:d.extract c d.size=r)(hx:d.extract 0 c=x)(hl:Bp El r=l)(hs:t.size<=17592186044416)(h0:c≠0)(h1:l=0)(h2:CM r 0=false)(h3:Lib.atoiAll x.data.toList=.range)(hR:Fo w):Calls prog 152 #[.string t] w fun e w'=>e=.returned (Bx 0 0 ⟨#[]⟩ 0 7)/\Below w.heap.size w w':=by
 have hds:d.size<=t.size:=by
  rw[<-hd];by_cases hh:H=true
  .rw[AL hh,A4];omega
  .rw[AG hh];exact AC
 have hle:c<=d.size:=by rw[<-hc];exact DV _ _
 have hrs:r.size<=d.size:=by rw[<-hr,A4];omega
 have hxs:x.size<=d.size:=by rw[<-hx,BH];omega
 have hlr:l<=r.size:=by rw[<-hl];exact DV _ _
 obtain⟨Q,hQ⟩:∃Q,Q=w.alloc (.cells #[.int .i64 0,.int .i64 0,.string ⟨#[]⟩,.int .i64 0] 64):=⟨_,rfl⟩
 have HQ:=AB hQ;have HBX:Hid (D9 Q w.heap.size (.int .i64 0) (.int .i64 0) (.string ⟨#[]⟩) (.int .i64 0)):=by rw[hQ];exact D9.new w _ _ _ _
 have HBQ:Hid (Below w.heap.size w Q):=by rw[hQ];exact AI.alloc AC _
 clear hQ;have HT:=AB (Ex t);have HS1:=AB (fun W=>CR 151 Su Es (fun v W=>DR v W) d W (by omega));have HS2:=AB (fun W=>CR 154 St El (fun v W=>DA v W) r W (by omega));have HP:=AB (Fs r);have hsl:=fun W=>F7 (s:=d) (q:=c) hle W;have hsx:=fun W=>Fd (s:=d) (q:=c) hle W;rw[hH,hd]at HT;rw[hc]at HS1;rw[hl]at HS2;rw[hr]at hsl;rw[hx]at hsx;clear hH hd hc hr hx hl;have h0i:¬(c:Int)=0:=by omega
 subst h1;rw[h2]at HP;clear h2;have HA:=AB (fun W(hb:Below w.heap.size w W)=>S4 x (by omega) h3 W (hR.below hb));clear h3 hR;go_enter func152,ntmps152;go_wp2_with(first|(go_at_call 182;rw[<-AA HQ];refine(AA HT _).mono ?_;rintro e w1⟨rfl,hw⟩;obtain rfl:=hw.symm)|(have hz5:=HB5;clear hz5;go_at_call 183;refine(AA HS2 _).mono ?_;rintro e w6⟨rfl,hb6⟩;have HB6:=AB ((AA HB5).trans (hb6.mono (AA HB5).size));have HX6:=AB ((AA HX5).below AC hb6);clear hb6)|(go_at_call 183;refine(AA HS1 _).mono ?_;rintro e w5⟨rfl,hb5⟩;have HB5:=AB ((AA HBQ).trans (hb5.mono (AA HBQ).size));have HX5:=AB ((AA HBX).below AC hb5);clear hb5)|(go_at_call 184;refine(AA HP _).mono ?_;rintro e w1⟨rfl,hw⟩;obtain rfl:=hw.symm)|(go_at_call 185;refine(AA HA _ (AA HB6)).mono ?_;rintro e w7⟨n,ty,p,rfl,hb7⟩;have HB7:=AB ((AA HB6).trans (hb7.mono (AA HB6).size));obtain⟨q0,q1,q2,q3,f0,f1,f2,f3⟩:=((AA HX6).below AC hb7).all;clear hb7));refine bodyPost_ret (v:=Bx 0 0 ⟨#[]⟩ 0 7) (by simp[results,results152,go_sem,q0,q1,q2,q3,Bx]) rfl ?_;exact⟨rfl,(((((AA HB7).setCell AC _).setCell AC _).setCell AC _).setCell AC _)⟩
def N0(t d r x:AE)(H:Bool)(c l:Nat)(n:Nat)(w:World)(hH:CM t 0=H)(hd:(if H=true then t.extract 2 t.size else t)=d)(hc:Bp Es d=c)(hr:d.extract c d.size=r)(hx:d.extract 0 c=x)(hl:Bp El r=l)(hs:t.size<=17592186044416)(h0:c≠0)(h1:l=0)(h2:CM r 0=false)(h3:Lib.atoiAll x.data.toList=.ok (n:Int))(h4:n<=1000000000000000)(hT:H=false):Calls prog 152 #[.string t] w fun e w'=>e=.returned (Bx 1 ((n:Int)) ⟨#[]⟩ (t.size- r.size) 0)/\Below w.heap.size w w':=by
 have hds:d.size<=t.size:=by
  rw[<-hd];by_cases hh:H=true
  .rw[AL hh,A4];omega
  .rw[AG hh];exact AC
 have hle:c<=d.size:=by rw[<-hc];exact DV _ _
 have hrs:r.size<=d.size:=by rw[<-hr,A4];omega
 have hxs:x.size<=d.size:=by rw[<-hx,BH];omega
 have hlr:l<=r.size:=by rw[<-hl];exact DV _ _
 have hdt:d.size=t.size:=by rw[<-hd,hT,AG (by decide)]
 obtain⟨Q,hQ⟩:∃Q,Q=w.alloc (.cells #[.int .i64 0,.int .i64 0,.string ⟨#[]⟩,.int .i64 0] 64):=⟨_,rfl⟩
 have HQ:=AB hQ;have HBX:Hid (D9 Q w.heap.size (.int .i64 0) (.int .i64 0) (.string ⟨#[]⟩) (.int .i64 0)):=by rw[hQ];exact D9.new w _ _ _ _
 have HBQ:Hid (Below w.heap.size w Q):=by rw[hQ];exact AI.alloc AC _
 clear hQ;have HT:=AB (Ex t);have HS1:=AB (fun W=>CR 151 Su Es (fun v W=>DR v W) d W (by omega));have HS2:=AB (fun W=>CR 154 St El (fun v W=>DA v W) r W (by omega));have HP:=AB (Fs r);have hsl:=fun W=>F7 (s:=d) (q:=c) hle W;have hsx:=fun W=>Fd (s:=d) (q:=c) hle W;rw[hH,hd]at HT;rw[hc]at HS1;rw[hl]at HS2;rw[hr]at hsl;rw[hx]at hsx;clear hH hd hc hr hx hl;have h0i:¬(c:Int)=0:=by omega
 subst h1;rw[h2]at HP;clear h2;have hlt:¬(d.size:Int)<(t.size:Int):=by omega
 have h4i:¬(1000000000000000:Int)<(n:Int):=by omega
 have HA:=AB (fun W=>P5 x n (by omega) h3 W);have hwd:((t.size- r.size:Nat):Int)=(t.size:Int)- (r.size:Int):=by omega
 clear h3 hT;go_enter func152,ntmps152;go_wp2_with(first|(go_at_call 182;rw[<-AA HQ];refine(AA HT _).mono ?_;rintro e w1⟨rfl,hw⟩;obtain rfl:=hw.symm)|(have hz5:=HB5;clear hz5;go_at_call 183;refine(AA HS2 _).mono ?_;rintro e w6⟨rfl,hb6⟩;have HB6:=AB ((AA HB5).trans (hb6.mono (AA HB5).size));have HX6:=AB ((AA HX5).below AC hb6);clear hb6)|(go_at_call 183;refine(AA HS1 _).mono ?_;rintro e w5⟨rfl,hb5⟩;have HB5:=AB ((AA HBQ).trans (hb5.mono (AA HBQ).size));have HX5:=AB ((AA HBX).below AC hb5);clear hb5)|(go_at_call 184;refine(AA HP _).mono ?_;rintro e w1⟨rfl,hw⟩;obtain rfl:=hw.symm)|(go_at_call 185;refine(AA HA _).mono ?_;rintro e w7⟨rfl,hb7⟩;have HB7:=AB ((AA HB6).trans (hb7.mono (AA HB6).size));obtain⟨q0,q1,q2,q3,f0,f1,f2,f3⟩:=((AA HX6).below AC hb7).all;clear hb7));refine bodyPost_ret (v:=Bx 1 ((n:Int)) ⟨#[]⟩ (t.size- r.size) 0) (by simp[results,results152,go_sem,q0,q1,q2,q3,Bx,hwd]) rfl ?_;exact⟨rfl,(((((AA HB7).setCell AC _).setCell AC _).setCell AC _).setCell AC _)⟩
def M4(k n m:Int)(s:AE)(s1 s2:Option Addr)(n1 c1 n2 c2:Nat):∀u∈([.int .i64 k,.int .i64 n,.int .i64 m,.string s,.slice s1 n1 c1,.slice s2 n2 c2]:List Value),u.oneCell'=true:=by intro u hu;simp at hu;rcases hu with rfl|rfl|rfl|rfl|rfl|rfl<;>rfl
def EP{w:World}{B e size n:Nat}{v:Value}{l:List Value}(h:w.ownsRow B e size v n l):∃a c,v=.slice a n c:=by
 rcases h.2 with⟨rfl,rfl⟩|⟨g,cap,cur,rfl,_⟩
 .exact⟨none,0,rfl⟩
 .exact⟨_,_,rfl⟩
def PS.grown{T:TypeId}{Z w W w7:World}{p i:Nat}{v0 v2 nd:Value}{xs:List AW}(h:PS T Z p v0 v2 w i nd xs)(hW:Below w.heap.size w W)(hg:W.grownBy w7 nd.ownBlock):w7.cell? ⟨p,3,none⟩=some nd/\w7.frozen? ⟨p,3,none⟩=false/\p<w7.heap.size:=by
 have hpl:=lt_of_block h.box;have hz:=hW.size;have hnp:some p≠nd.ownBlock:=fun e=>by obtain⟨cur,hh,_⟩:=Ag h.own e.symm;rw[h.box]at hh;have:=Ac hh;simp at this;exact h.ty.1 this.2
 have hb7:=(hg.block p (by omega) hnp).trans ((hW.block p hpl).trans h.box);exact⟨by simp[World.cell?,hb7],BJ w7 p 3 _ _ hb7,lt_of_block hb7⟩
def ah(w:World)(k n m:Int)(s:AE)(s1 s2:Option Addr)(n1 c1 n2 c2:Nat){o2:Obj}{w7:World}{r:Option Nat}{P:Prop}(hg:(((w.alloc (.cells #[.int .i64 k,.int .i64 n,.int .i64 m,.string s,.slice s1 n1 c1,.slice s2 n2 c2] 47)).drew).alloc o2).grownBy w7 r)(hne:∀g,r=some g->g<w.heap.size)(hP:P):P/\w7.cell? ⟨w.heap.size,0,none⟩=some (.int .i64 k)/\w7.cell? ⟨w.heap.size,1,none⟩=some (.int .i64 n)/\w7.cell? ⟨w.heap.size,2,none⟩=some (.int .i64 m)/\w7.cell? ⟨w.heap.size,3,none⟩=some (.string s)/\w7.cell? ⟨w.heap.size,4,none⟩=some (.slice s1 n1 c1)/\w7.cell? ⟨w.heap.size,5,none⟩=some (.slice s2 n2 c2):=by
 have h1:((w.alloc (.cells #[.int .i64 k,.int .i64 n,.int .i64 m,.string s,.slice s1 n1 c1,.slice s2 n2 c2] 47)).drew.alloc o2).heap[w.heap.size]? =some (.cells #[.int .i64 k,.int .i64 n,.int .i64 m,.string s,.slice s1 n1 c1,.slice s2 n2 c2] 47 (0,0)):=by rw[Cm _ _ _ (by simp)];show(w.heap.push _)[w.heap.size]? =_;simp
 have hbl:=(hg.block w.heap.size (by simp;omega) (fun e=>by have:=hne w.heap.size e.symm;omega)).trans h1;refine⟨hP,?_,?_,?_,?_,?_,?_⟩<;>simp[World.cell?,hbl]
def bT(Z:World)(p:Nat)(v0 v2:Value)(w:World)(i:Nat)(nd:Value)(xs:List AW)(h:PS 81 Z p v0 v2 w i nd xs)(k n m:Int)(s:AE)(nums kids:List Int)(s1 s2:Option Addr)(n1 c1 n2 c2:Nat)(hx:(⟨⟨k,n,m,s,nums,kids⟩,.slice s1 n1 c1,.slice s2 n2 c2⟩:AW).Ok w Z.heap.size)(hd:∀b∈(⟨⟨k,n,m,s,nums,kids⟩,.slice s1 n1 c1,.slice s2 n2 c2⟩:AW).blks,b∉Bm xs)(hnd:(⟨⟨k,n,m,s,nums,kids⟩,.slice s1 n1 c1,.slice s2 n2 c2⟩:AW).blks.Nodup)(Ae:xs.length<=1048576):Calls prog 45 #[.pointer (some ⟨p,0,none⟩),.agg #[.int .i64 k,.int .i64 n,.int .i64 m,.string s,.slice s1 n1 c1,.slice s2 n2 c2]] w fun e w'=>e=.returned (.int .i64 (xs.length:Nat))/\∃nd',PS 81 Z p v0 v2 w' i nd' (xs++ [⟨⟨k,n,m,s,nums,kids⟩,.slice s1 n1 c1,.slice s2 n2 c2⟩])/\Gc p nd w w'/\(nd'.ownBlock=nd.ownBlock\/∀b,nd'.ownBlock=some b->w.heap.size<=b):=by
 obtain⟨i0,hi,hz0,hz1,hz2⟩:=info_parts Li;obtain⟨a0,c0,rfl⟩:=EP h.own;obtain⟨p0,p1,p2,p3,f0,f1,f2,f3,hpl⟩:=h.all;have hpw:p≠w.heap.size:=by omega
 have HW:Hid (∀o:Obj,Below w.heap.size w ((w.alloc (.cells #[.int .i64 k,.int .i64 n,.int .i64 m,.string s,.slice s1 n1 c1,.slice s2 n2 c2] 47)).drew.alloc o)):=fun o=>((AI.alloc AC _).drew).alloc (by simp) _;have HX:Hid (∀W,Below w.heap.size w W->(⟨⟨k,n,m,s,nums,kids⟩,.slice s1 n1 c1,.slice s2 n2 c2⟩:AW).Ok W Z.heap.size):=fun W hW=>⟨BP hx.1 fun g hg=>hW.block g ((Ag hx.1 hg).elim fun _ hc=>lt_of_block hc.1),BP hx.2 fun g hg=>hW.block g ((Ag hx.2 hg).elim fun _ hc=>lt_of_block hc.1)⟩
 have HD:=AB hd;have HND:=AB hnd;have HNB:Hid (∀b∈(⟨⟨k,n,m,s,nums,kids⟩,.slice s1 n1 c1,.slice s2 n2 c2⟩:AW).blks,b<w.heap.size):=fun b hb=>by
  unfold AW.blks at hb;rcases Ak.1 hb with h'|h'
  .exact(Ag hx.1 (by simpa[Option.mem_toList]using h')).elim fun _ hc=>lt_of_block hc.1
  .exact(Ag hx.2 (by simpa[Option.mem_toList]using h')).elim fun _ hc=>lt_of_block hc.1
 have H:=AB h;have HOWN:Hid (∀W,Below w.heap.size w W->W.ownsRow Z.heap.size 47 6 (.slice a0 xs.length c0) xs.length (xs.flatMap AW.cells)):=fun W hW=>(h.below hW).own;have HNE:Hid (∀g,(Value.slice a0 xs.length c0).ownBlock=some g->g<w.heap.size):=fun g hg=>(Ag h.own hg).elim fun _ hc=>lt_of_block hc.1;have hzl:Z.heap.size<=w.heap.size:=h.low.size;have HNEW:Hid (∀(V:World)(j:Nat)(u:Value),([.int .i64 k,.int .i64 n,.int .i64 m,.string s,.slice s1 n1 c1,.slice s2 n2 c2]:List Value)[j]? =some u->(V.alloc (.cells #[.int .i64 k,.int .i64 n,.int .i64 m,.string s,.slice s1 n1 c1,.slice s2 n2 c2] 47)).cell? ((⟨V.heap.size,0,none⟩:Addr).add j)=some u):=fun V=>World.news_of_block (cs:= #[.int .i64 k,.int .i64 n,.int .i64 m,.string s,.slice s1 n1 c1,.slice s2 n2 c2]) (t:=47) (fr:=(0,0)) (by show(V.heap.push _)[V.heap.size]? =_;simp);clear h hx hd hnd;go_enter func45,ntmps45;go_wp2_with fail
 go_region_law (first|(refine step_append_lies _ (by rfl) _ _ _ (by rfl) Z.heap.size 47 i0 _ 6 88 underlying27 hi hz0 hz1 hz2 rfl (by omega) (.slice a0 xs.length c0) xs.length (xs.flatMap AW.cells) (by rfl) (AA HOWN _ (AA HW _)) ⟨w.heap.size+1,0,none⟩ 1 1 [.int .i64 k,.int .i64 n,.int .i64 m,.string s,.slice s1 n1 c1,.slice s2 n2 c2] (by rfl) (by rfl) (by have:=AA HNEW (w.alloc (.cells #[.int .i64 k,.int .i64 n,.int .i64 m,.string s,.slice s1 n1 c1,.slice s2 n2 c2] 47));simpa using this) (M4 _ _ _ _ _ _ _ _ _ _) (by omega) (by unfold maxLen;omega) (by omega) (by simp;omega) (w.heap.size+2) (by simp) ?_;intro g' CW w7 A2 Au hat Cu;obtain⟨y3,z3,yl⟩:=(AA H).grown (AA HW _) Au;have HP7:=AB ((AA H).put (AA HW _) (AA HX _ (AA HW _)) (AA HD) (AA HND) A2 Au (by simpa using hat) (fun b hb=>by have:=AA HNB b hb;simp;omega));obtain⟨_,b0,b1,b2,b3,b4,b5⟩:=ah w k n m s s1 s2 n1 c1 n2 c2 Au (AA HNE) trivial;clear A2 Au hat))
 all_goals go_wp2_with fail
 all_goals go_ret
 all_goals exact⟨by simp,_,AA HP7⟩
def eU(Z:World)(p:Nat)(v0 v2:Value)(w:World)(i:Nat)(nd:Value)(xs:List AW)(h:PS 88 Z p v0 v2 w i nd xs)(k n m:Int)(s:AE)(nums kids:List Int)(s1 s2:Option Addr)(n1 c1 n2 c2:Nat)(hx:(⟨⟨k,n,m,s,nums,kids⟩,.slice s1 n1 c1,.slice s2 n2 c2⟩:AW).Ok w Z.heap.size)(hd:∀b∈(⟨⟨k,n,m,s,nums,kids⟩,.slice s1 n1 c1,.slice s2 n2 c2⟩:AW).blks,b∉Bm xs)(hnd:(⟨⟨k,n,m,s,nums,kids⟩,.slice s1 n1 c1,.slice s2 n2 c2⟩:AW).blks.Nodup)(Ae:xs.length<=1048576):Calls prog 104 #[.pointer (some ⟨p,0,none⟩),.agg #[.int .i64 k,.int .i64 n,.int .i64 m,.string s,.slice s1 n1 c1,.slice s2 n2 c2]] w fun e w'=>e=.returned (.int .i64 (xs.length:Nat))/\∃nd',PS 88 Z p v0 v2 w' i nd' (xs++ [⟨⟨k,n,m,s,nums,kids⟩,.slice s1 n1 c1,.slice s2 n2 c2⟩])/\Gc p nd w w'/\(nd'.ownBlock=nd.ownBlock\/∀b,nd'.ownBlock=some b->w.heap.size<=b):=by
 obtain⟨i0,hi,hz0,hz1,hz2⟩:=info_parts Li;obtain⟨a0,c0,rfl⟩:=EP h.own;obtain⟨p0,p1,p2,p3,f0,f1,f2,f3,hpl⟩:=h.all;have hpw:p≠w.heap.size:=by omega
 have HW:Hid (∀o:Obj,Below w.heap.size w ((w.alloc (.cells #[.int .i64 k,.int .i64 n,.int .i64 m,.string s,.slice s1 n1 c1,.slice s2 n2 c2] 47)).drew.alloc o)):=fun o=>((AI.alloc AC _).drew).alloc (by simp) _;have HX:Hid (∀W,Below w.heap.size w W->(⟨⟨k,n,m,s,nums,kids⟩,.slice s1 n1 c1,.slice s2 n2 c2⟩:AW).Ok W Z.heap.size):=fun W hW=>⟨BP hx.1 fun g hg=>hW.block g ((Ag hx.1 hg).elim fun _ hc=>lt_of_block hc.1),BP hx.2 fun g hg=>hW.block g ((Ag hx.2 hg).elim fun _ hc=>lt_of_block hc.1)⟩
 have HD:=AB hd;have HND:=AB hnd;have HNB:Hid (∀b∈(⟨⟨k,n,m,s,nums,kids⟩,.slice s1 n1 c1,.slice s2 n2 c2⟩:AW).blks,b<w.heap.size):=fun b hb=>by
  unfold AW.blks at hb;rcases Ak.1 hb with h'|h'
  .exact(Ag hx.1 (by simpa[Option.mem_toList]using h')).elim fun _ hc=>lt_of_block hc.1
  .exact(Ag hx.2 (by simpa[Option.mem_toList]using h')).elim fun _ hc=>lt_of_block hc.1
 have H:=AB h;have HOWN:Hid (∀W,Below w.heap.size w W->W.ownsRow Z.heap.size 47 6 (.slice a0 xs.length c0) xs.length (xs.flatMap AW.cells)):=fun W hW=>(h.below hW).own;have HNE:Hid (∀g,(Value.slice a0 xs.length c0).ownBlock=some g->g<w.heap.size):=fun g hg=>(Ag h.own hg).elim fun _ hc=>lt_of_block hc.1;have hzl:Z.heap.size<=w.heap.size:=h.low.size;have HNEW:Hid (∀(V:World)(j:Nat)(u:Value),([.int .i64 k,.int .i64 n,.int .i64 m,.string s,.slice s1 n1 c1,.slice s2 n2 c2]:List Value)[j]? =some u->(V.alloc (.cells #[.int .i64 k,.int .i64 n,.int .i64 m,.string s,.slice s1 n1 c1,.slice s2 n2 c2] 47)).cell? ((⟨V.heap.size,0,none⟩:Addr).add j)=some u):=fun V=>World.news_of_block (cs:= #[.int .i64 k,.int .i64 n,.int .i64 m,.string s,.slice s1 n1 c1,.slice s2 n2 c2]) (t:=47) (fr:=(0,0)) (by show(V.heap.push _)[V.heap.size]? =_;simp);clear h hx hd hnd;go_enter func104,ntmps104;go_wp2_with fail
 go_region_law (first|(refine step_append_lies _ (by rfl) _ _ _ (by rfl) Z.heap.size 47 i0 _ 6 88 underlying27 hi hz0 hz1 hz2 rfl (by omega) (.slice a0 xs.length c0) xs.length (xs.flatMap AW.cells) (by rfl) (AA HOWN _ (AA HW _)) ⟨w.heap.size+1,0,none⟩ 1 1 [.int .i64 k,.int .i64 n,.int .i64 m,.string s,.slice s1 n1 c1,.slice s2 n2 c2] (by rfl) (by rfl) (by have:=AA HNEW (w.alloc (.cells #[.int .i64 k,.int .i64 n,.int .i64 m,.string s,.slice s1 n1 c1,.slice s2 n2 c2] 47));simpa using this) (M4 _ _ _ _ _ _ _ _ _ _) (by omega) (by unfold maxLen;omega) (by omega) (by simp;omega) (w.heap.size+2) (by simp) ?_;intro g' CW w7 A2 Au hat Cu;obtain⟨y3,z3,yl⟩:=(AA H).grown (AA HW _) Au;have HP7:=AB ((AA H).put (AA HW _) (AA HX _ (AA HW _)) (AA HD) (AA HND) A2 Au (by simpa using hat) (fun b hb=>by have:=AA HNB b hb;simp;omega));obtain⟨_,b0,b1,b2,b3,b4,b5⟩:=ah w k n m s s1 s2 n1 c1 n2 c2 Au (AA HNE) trivial;clear A2 Au hat))
 all_goals go_wp2_with fail
 all_goals go_ret
 all_goals exact⟨by simp,_,AA HP7⟩
def Kz(c:Nat)(r:Bool)(h:El c=r)(W:World):Calls prog 115 #[.int .u8 (c:Nat)] W fun e w'=>e=.returned (.bool r)/\w'=W:=by rw[<-h];exact FI c W
def Tt(c:Nat)(r:Bool)(h:Es c=r)(W:World):Calls prog 116 #[.int .u8 (c:Nat)] W fun e w'=>e=.returned (.bool r)/\w'=W:=by rw[<-h];exact E4 c W
def NA{s:AE}{hi:Bool}(h:¬(1<=s.size/\s.size<=20/\El (bt s 0)=true/\∀i,i<s.size->Bn (bt s i)=true)):C8 s hi=false:=by unfold C8;rw[AD h];rfl
def ND(s:AE)(hi:Bool)(w:World)(hs:s.size<=1048576):Calls prog 56 #[.string s,.bool hi] w fun e w'=>e=.returned (.bool (C8 s hi))/\w'=w:=by
 obtain⟨r,hr⟩:∃r,C8 s hi=r:=⟨_,rfl⟩
 rw[hr];have HR:=AB hr;clear hr;by_cases h0:s.size<1
 .have hg:(s.size:Int)<1:=by omega
  have HE:Hid (false=r):=by show _=_;rw[<-AA HR,NA (by omega)]
  clear h0;go_enter func56,ntmps56;go_wp2_with fail;go_ret;exact⟨AN (AA HE),rfl⟩
 have hg0:¬(s.size:Int)<1:=by omega
 by_cases h1:20<s.size
 .have hg:(20:Int)<(s.size:Int):=by omega
  have HE:Hid (false=r):=by show _=_;rw[<-AA HR,NA (by omega)]
  clear h0 h1;go_enter func56,ntmps56;go_wp2_with fail;go_ret;exact⟨AN (AA HE),rfl⟩
 have hg1:¬(20:Int)<(s.size:Int):=by omega
 have hi0:∀W,(Instr.index 9 (.string s) (.int .i64 0)).run prog W=.ok (.int .u8 (bt s 0:Nat)) W:=fun W=>C5 (s:=s) (k:=0) (by omega) W;have HNO:=AB (fun(h:¬(1<=s.size/\s.size<=20/\El (bt s 0)=true/\∀i,i<s.size->Bn (bt s i)=true))=>(NA (hi:=hi) h).symm.trans (AA HR));have HYES:Hid ((∀i,i<s.size->Bn (bt s i)=true)->El (bt s 0)=true->(decide (bt s 0<=90)==hi)=r):=fun h h'=>by rw[<-AA HR];unfold C8;rw[AK (show 1<=s.size/\s.size<=20/\El (bt s 0)=true/\∀i,i<s.size->Bn (bt s i)=true from⟨by omega,by omega,h',h⟩)];rfl
 obtain⟨c,hc⟩:∃c,bt s 0=c:=⟨_,rfl⟩
 rw[hc]at hi0 HNO HYES;clear hc HR;cases h2:El c with
 |false=>
  have HL:=AB (fun W=>Kz c false h2 W);have HE:Hid (false=r):=AA HNO (by rw[h2];simp);clear h0 h1 h2;go_enter func56,ntmps56;go_wp2_with(first|(go_at_call 115;refine(AA HL _).mono ?_;rintro e w1⟨rfl,rfl⟩));go_ret;exact⟨AN (AA HE),rfl⟩
 |true=>
  have HL:=AB (fun W=>Kz c true h2 W);have H2:=AB h2;clear h2;go_enter func56,ntmps56;go_wp2_with(first|(go_at_call 115;refine(AA HL _).mono ?_;rintro e w1⟨rfl,rfl⟩));clear HL;go_loopw[5] (fun i wr=>∃k:Nat,k<=s.size/\i=.int .i64 k/\Hid (∀i,i<k->Bn (bt s i)=true)/\wr=w1) (fun i _=>s.size- (intOf i).toNat);case atStart=>exact⟨0,AZ _,rfl,fun i hi=>absurd hi (Bc _),rfl⟩
  case round=>
   obtain⟨k,hk,rfl,HA,rfl⟩:=hrel;by_cases hlt:k<s.size
   .have Fr:(k:Int)<(s.size:Int):=by omega
    have hik:=fun W=>C5 (s:=s) (k:=k) hlt W;have HST:Hid (Bn (bt s k)=true->∀i,i<k+1->Bn (bt s i)=true):=fun h i hi=>by
     by_cases e:i=k
     .subst e;exact h
     .exact AA HA i (by omega)
    have HBAD:Hid (Bn (bt s k)=false->false=r):=fun h=>AA HNO (fun hh=>by have:=hh.2.2.2 k hlt;rw[h]at this;cases this);obtain⟨d,hd⟩:∃d,bt s k=d:=⟨_,rfl⟩
    rw[hd]at hik HST HBAD;clear hd HA;cases h3:El d with
    |true=>
     have HL:=AB (fun W=>Kz d true h3 W);have HT:Hid (∀i,i<k+1->Bn (bt s i)=true):=AA HST (by unfold Bn;rw[h3];rfl);clear h3 HST HBAD hi0;go_wp2_with(first|(go_at_call 115;refine(AA HL _).mono ?_;rintro e w1⟨rfl,rfl⟩));go_roundw;case rel=>exact⟨k+1,by omega,by go_num,HT,trivial⟩
     case measure=>simp[intOf];omega
    |false=>
     have HL:=AB (fun W=>Kz d false h3 W);cases h4:Es d with
     |true=>
      have HD:=AB (fun W=>Tt d true h4 W);have HT:Hid (∀i,i<k+1->Bn (bt s i)=true):=AA HST (by unfold Bn;rw[h3,h4];rfl);clear h3 h4 HST HBAD hi0;go_wp2_with(first|(go_at_call 115;refine(AA HL _).mono ?_;rintro e w1⟨rfl,rfl⟩)|(go_at_call 116;refine(AA HD _).mono ?_;rintro e w1⟨rfl,rfl⟩));go_roundw;case rel=>exact⟨k+1,by omega,by go_num,HT,trivial⟩
      case measure=>simp[intOf];omega
     |false=>
      have HD:=AB (fun W=>Tt d false h4 W);have HE:Hid (false=r):=AA HBAD (by unfold Bn;rw[h3,h4];rfl);clear h3 h4 HST HBAD hi0;go_wp2_with(first|(go_at_call 115;refine(AA HL _).mono ?_;rintro e w1⟨rfl,rfl⟩)|(go_at_call 116;refine(AA HD _).mono ?_;rintro e w1⟨rfl,rfl⟩));go_ret;exact⟨AN (AA HE),rfl⟩
   .have hkn:k=s.size:=by omega
    have Fr:¬(k:Int)<(s.size:Int):=by omega
    have HE:Hid ((decide (c<=90)==hi)=r):=AA HYES (by rw[<-hkn];exact AA HA) (AA H2);clear HA HNO HYES H2;go_wp2_with fail;go_ret;exact⟨AN (by rw[<-AA HE];exact AV (·==hi) (BQ.2 (by omega))),rfl⟩
def I0(k:Int)(n:Nat):Prop:=(k=7->1<=n)/\(k=9->2<=n)/\(k=10->3<=n)
def fC:Nat->List AM->Prop
 |0,_=>False
 |f+1,t=>∃k n m s nums ls,t=Ay k n m s nums ls/\(∀l∈ls,fC f l)/\I0 k ls.length
def fC.up:∀ {f:Nat}{t:List AM}(d:Nat),fC f t->fC (f+d) t
 |0,_,_,h=>h.elim
 |f+1,t,d,⟨k,n,m,s,nums,ls,h1,h2,h3⟩=>by rw[show f+1+d=f+d+1 by omega];exact⟨k,n,m,s,nums,ls,h1,fun l hl=>fC.up d (h2 l hl),h3⟩
def WF(t:List AM):Prop:=∃f,fC f t
def Vu:∀(ls:List (List AM)),(∀l∈ls,WF l)->∃f,∀l∈ls,fC f l
 | [],_=>⟨0,fun l h=>by cases h⟩
 |l::ls,h=>by
  obtain⟨f,hf⟩:=h l Bl;obtain⟨g,hg⟩:=Vu ls fun x hx=>h x (C2 _ hx);refine⟨f+g,fun x hx=> ?_⟩;rcases DU.1 hx with rfl|hx
  .exact hf.up g
  .rw[GH];exact(hg x hx).up f
def WF.mk(k n m:Int)(s:AE)(nums:List Int)(ls:List (List AM))(h:∀l∈ls,WF l)(hc:I0 k ls.length):WF (Ay k n m s nums ls):=by obtain⟨f,hf⟩:=Vu ls h;exact⟨f+1,k,n,m,s,nums,ls,rfl,hf,hc⟩
def WF.parts{t:List AM}(h:WF t):∃k n m s nums ls,t=Ay k n m s nums ls/\(∀l∈ls,WF l)/\I0 k ls.length:=by
 obtain⟨f,hf⟩:=h;cases f with
 |zero=>exact hf.elim
 |succ f=>
  obtain⟨k,n,m,s,nums,ls,h1,h2,h3⟩:=hf;exact⟨k,n,m,s,nums,ls,h1,fun l hl=>⟨f,h2 l hl⟩,h3⟩
def WF.ind{P:List AM->Prop}(mk:∀k n m s nums ls,(∀l∈ls,WF l)->I0 k ls.length->(∀l∈ls,P l)->P (Ay k n m s nums ls)){t:List AM}(h:WF t):P t:=by
 obtain⟨f,hf⟩:=h;induction f generalizing t with
 |zero=>exact hf.elim
 |succ f ih=>
  obtain⟨k,n,m,s,nums,ls,rfl,h2,h3⟩:=hf;exact mk k n m s nums ls (fun l hl=>⟨f,h2 l hl⟩) h3 fun l hl=>ih (h2 l hl)
abbrev Bv(es:List Nat):List Int:=es.map fun(a:Nat)=>(a:Int)
def Ir(ns:List AM):Nat->Nat->List AM->Prop
 |0,_,_=>False
 |f+1,e,t=>∃k n m s nums es ls,t=Ay k n m s nums ls/\ns[e]? =some ⟨k,n,m,s,nums,Bv es⟩/\es.length=ls.length/\(∀a∈es,a<e)/\I0 k ls.length/\∀(j:Nat)(a:Nat)(l:List AM),es[j]? =some a->ls[j]? =some l->Ir ns f a l
def Ir.at{ns:List AM}:∀ {f e:Nat}{t:List AM}(g:Nat),Ir ns f e t->e<g->Ir ns g e t
 |0,_,_,_,h,_=>h.elim
 |f+1,e,t,0,_,hg=>absurd hg (Bc _)
 |f+1,e,t,g+1,⟨k,n,m,s,nums,es,ls,h0,h1,h2,h3,h4,h5⟩,hg=>⟨k,n,m,s,nums,es,ls,h0,h1,h2,h3,h4,fun j a l x y=>Ir.at g (h5 j a l x y) (by have:=h3 a (A1 x);omega)⟩
def A0(ns:List AM)(e:Nat)(t:List AM):Prop:=Ir ns (e+1) e t
def A0.mk{ns:List AM}(e:Nat)(k n m:Int)(s:AE)(nums:List Int)(es:List Nat)(ls:List (List AM))(h1:ns[e]? =some ⟨k,n,m,s,nums,Bv es⟩)(h2:es.length=ls.length)(h3:∀a∈es,a<e)(h4:I0 k ls.length)(h5:∀(j:Nat)(a:Nat)(l:List AM),es[j]? =some a->ls[j]? =some l->A0 ns a l):A0 ns e (Ay k n m s nums ls):=⟨k,n,m,s,nums,es,ls,rfl,h1,h2,h3,h4,fun j a l x y=>Ir.at e (h5 j a l x y) (h3 a (A1 x))⟩
def A0.parts{ns:List AM}{e:Nat}{t:List AM}(h:A0 ns e t):∃k n m s nums es ls,t=Ay k n m s nums ls/\ns[e]? =some ⟨k,n,m,s,nums,Bv es⟩/\es.length=ls.length/\(∀a∈es,a<e)/\I0 k ls.length/\∀(j:Nat)(a:Nat)(l:List AM),es[j]? =some a->ls[j]? =some l->A0 ns a l:=by obtain⟨k,n,m,s,nums,es,ls,h0,h1,h2,h3,h4,h5⟩:=h;exact⟨k,n,m,s,nums,es,ls,h0,h1,h2,h3,h4,fun j a l x y=>Ir.at (a+1) (h5 j a l x y) (C0 _)⟩
def A0.ind{ns:List AM}{P:Nat->List AM->Prop}(mk:∀e k n m s nums es ls,ns[e]? =some ⟨k,n,m,s,nums,Bv es⟩->es.length=ls.length->(∀a∈es,a<e)->I0 k ls.length->(∀(j:Nat)(a:Nat)(l:List AM),es[j]? =some a->ls[j]? =some l->A0 ns a l)->(∀(j:Nat)(a:Nat)(l:List AM),es[j]? =some a->ls[j]? =some l->P a l)->P e (Ay k n m s nums ls)):∀ {e:Nat}{t:List AM},A0 ns e t->P e t:=by
 intro e t h;induction e using Nat.strongRecOn generalizing t with
 |ind e ih=>
  obtain⟨k,n,m,s,nums,es,ls,rfl,h1,h2,h3,h4,h5⟩:=h.parts;exact mk e k n m s nums es ls h1 h2 h3 h4 h5 fun j a l x y=>ih a (h3 a (A1 x)) (h5 j a l x y)
def Av(ns:List AM)(es:List Nat)(ls:List (List AM)):Prop:=es.length=ls.length/\∀(j:Nat)(a:Nat)(l:List AM),es[j]? =some a->ls[j]? =some l->A0 ns a l
def UN{b:Nat}{l l':List AM}(h:B0 b l=B0 b l'):l=l':=by unfold B0 at h;refine(Hm ?_).1 h;rintro⟨k,n,m,s,nums,kids⟩⟨k',n',m',s',nums',kids'⟩e;simp only[AM.mk.injEq]at e ⊢;obtain⟨e1,e2,e3,e4,e5,e6⟩:=e;exact⟨e1,e2,e3,e4,e5,(Hm (fun x y h=>by omega)).1 e6⟩
def TP:∀(ls ls':List (List AM)),DW ls=DW ls'->Az ls=Az ls'->ls=ls'
 | [],[],_,_=>rfl
 | [],_::_,h,_=>by simp[DW]at h
 |_::_,[],h,_=>by simp[DW]at h
 |l::ls,l'::ls',h,h2=>by
  rw[DW,DW,List.cons.injEq]at h;have hl:l.length=l'.length:=by omega
  rw[Az,Az]at h2;obtain⟨e1,e2⟩:=List.append_inj h2 hl;rw[hl]at e2 h;rw[e1,TP ls ls' ((Hm (fun x y h=>by omega)).1 h.2) (UN e2)]
def UF{k n m k' n' m':Int}{s s':AE}{nums nums':List Int}{ls ls':List (List AM)}(h:Ay k n m s nums ls=Ay k' n' m' s' nums' ls'):k=k'/\n=n'/\m=m'/\s=s'/\nums=nums'/\ls=ls':=by unfold Ay at h;obtain⟨e1,e2⟩:=List.append_inj' h rfl;simp only[List.cons.injEq,AM.mk.injEq,and_true]at e2;exact⟨e2.1,e2.2.1,e2.2.2.1,e2.2.2.2.1,e2.2.2.2.2.1,TP _ _ e2.2.2.2.2.2 e1⟩
section
variable {ns ms:List AM}{e e':Nat}{t:List AM}{es:List Nat}{ls:List (List AM)}
def A0.inv{k n m:Int}{s:AE}{nums:List Int}(h:A0 ns e (Ay k n m s nums ls)):∃es,ns[e]? =some ⟨k,n,m,s,nums,Bv es⟩/\Av ns es ls/\(∀a∈es,a<e)/\I0 k ls.length:=by obtain⟨k',n',m',s',nums',es,ls',ht,h1,h2,h3,h4,h5⟩:=h.parts;obtain⟨rfl,rfl,rfl,rfl,rfl,rfl⟩:=UF ht;exact⟨es,h1,⟨h2,h5⟩,h3,h4⟩
def A0.lt(h:A0 ns e t):e<ns.length:=by obtain⟨_,_,_,_,_,_,_,_,h1,_⟩:=h.parts;exact(DK.1 h1).1
def A0.mono(h:A0 ns e t):A0 (ns++ms) e t:=by refine A0.ind (P:=fun e t=>A0 (ns++ms) e t) ?_ h;intro e k n m s nums es ls h1 h2 h3 h4 _ ih;exact .mk e k n m s nums es ls (by rw[Bw (DK.1 h1).1];exact h1) h2 h3 h4 ih
def A0.wf(h:A0 ns e t):WF t:=by
 refine A0.ind (P:=fun _ t=>WF t) ?_ h
 .intro e k n m s nums es ls h1 h2 h3 h4 _ ih;refine .mk k n m s nums ls (fun l hl=> ?_) h4;obtain⟨j,hj,rfl⟩:=Gm.1 hl;exact ih j es[j] ls[j] (AR _) (AR _)
def A0.up{pre:List AM}(h:A0 ns e t):A0 (pre++B0 pre.length ns) (pre.length+e) t:=by
 refine A0.ind (P:=fun e t=>A0 (pre++B0 pre.length ns) (pre.length+e) t) ?_ h
 .intro e k n m s nums es ls h1 h2 h3 h4 _ ih;refine .mk (pre.length+e) k n m s nums (es.map (pre.length+·)) ls ?_ (by rw[AS];exact h2) (fun a ha=> ?_) h4 fun j a l ha hl=> ?_
  .rw[A5 (by omega),show pre.length+e- pre.length=e by omega];unfold B0;rw[BV,h1];simp only[Gt,Option.some.injEq,AM.mk.injEq,true_and,Bv,Do];refine B8 fun z _=> ?_;simp only[Function.comp];omega
  .obtain⟨b,hb,rfl⟩:=DT.1 ha;have:=h3 b hb;omega
  .rw[BV]at ha;cases hb:es[j]? with
   |none=>rw[hb]at ha;cases ha
   |some b=>rw[hb]at ha;cases ha;exact ih j b l hb hl
def Av.mono(h:Av ns es ls):Av (ns++ms) es ls:=⟨h.1,fun j a l h1 h2=>(h.2 j a l h1 h2).mono⟩
def Av.nil:Av ns [] []:=⟨rfl,fun j a l h1 _=>by simp at h1⟩
def Av.cons(h0:A0 ns e t)(h:Av ns es ls):Av ns (e::es) (t::ls):=by
 refine⟨by rw[Ba,Ba,h.1],fun j a l h1 h2=> ?_⟩;cases j with
 |zero=>cases h1;cases h2;exact h0
 |succ j=>exact h.2 j a l h1 h2
def Av.app{es':List Nat}{ls':List (List AM)}(h:Av ns es ls)(h':Av ns es' ls'):Av ns (es++es') (ls++ls'):=by
 refine⟨by rw[AH,AH,h.1,h'.1],fun j a l h1 h2=> ?_⟩;by_cases hj:j<es.length
 .rw[Bw hj]at h1;rw[Bw (by rw[<-h.1];exact hj)]at h2;exact h.2 j a l h1 h2
 .rw[A5 (by omega)]at h1;rw[A5 (by rw[<-h.1];omega),<-h.1]at h2;exact h'.2 _ a l h1 h2
def Av.one(h:A0 ns e t):Av ns [e] [t]:=Av.cons h Av.nil
def Av.lt(h:Av ns es ls){a:Nat}(ha:a∈es):a<ns.length:=by obtain⟨j,hj,rfl⟩:=Gm.1 ha;exact(h.2 j es[j] (ls[j]'(by rw[<-h.1];exact hj)) (AR _) (AR _)).lt
def Av.put(h:Av ns es ls)(k n m:Int)(s:AE)(nums:List Int)(hc:I0 k ls.length):A0 (ns++ [⟨k,n,m,s,nums,Bv es⟩]) ns.length (Ay k n m s nums ls):=.mk ns.length k n m s nums es ls (by rw[A5 AC,FM];rfl) h.1 (fun a ha=>h.lt ha) hc fun j a l h1 h2=>(h.2 j a l h1 h2).mono
def Ua:List (List AM)->List Nat
 | []=> []
 |l::ls=>(l.length- 1)::(Ua ls).map (l.length+·)
def Wa:∀(ls:List (List AM)),(∀l∈ls,A0 l (l.length- 1) l)->Av (Az ls) (Ua ls) ls/\DW ls=Bv (Ua ls)
 | [],_=>⟨Av.nil,rfl⟩
 |l::ls,h=>by
  obtain⟨h1,h2⟩:=Wa ls fun x hx=>h x (C2 _ hx);have h0:=h l Bl;have hlt:=h0.lt;refine⟨Av.cons h0.mono ⟨by rw[AS];exact h1.1,fun j a x ha hx=> ?_⟩,?_⟩
  .rw[BV]at ha;cases hb:(Ua ls)[j]? with
   |none=>rw[hb]at ha;cases ha
   |some b=>rw[hb]at ha;cases ha;exact(h1.2 j b x hb hx).up
  .rw[DW,Ua,h2];simp only[Bv,En,Do,List.cons.injEq];refine⟨by omega,B8 fun z _=> ?_⟩;simp only[Function.comp];omega
def WF.self(h:WF t):A0 t (t.length- 1) t:=by
 refine WF.ind (P:=fun t=>A0 t (t.length- 1) t) ?_ h
 .intro k n m s nums ls _ hc ih;obtain⟨h1,h2⟩:=Wa ls ih;have:=h1.put k n m s nums hc;unfold Ay;rw[h2];rw[show(Az ls++ [(⟨k,n,m,s,nums,Bv (Ua ls)⟩:AM)]).length- 1=(Az ls).length by rw[AH];rfl];unfold Ay at this;rw[h2]at this;exact this
def TR(t:List AM):AM:=t.getLast?.getD XC
def A0.root(h:A0 ns e t):(Af ns e).k=(TR t).k/\(Af ns e).n=(TR t).n:=by
 .obtain⟨k,n,m,s,nums,es,ls,rfl,h1,_⟩:=h.parts;have e1:Af ns e=⟨k,n,m,s,nums,Bv es⟩:=by unfold Af;rw[AP,h1];rfl
  have e2:TR (Ay k n m s nums ls)=⟨k,n,m,s,nums,DW ls⟩:=by unfold TR Ay;rw[List.getLast?_concat];rfl
  rw[e1,e2];exact⟨rfl,rfl⟩
def A0.selOk(h:A0 ns e t):GT ns e:=by
 refine⟨fun j=>∃t,A0 ns j t,⟨t,h⟩,fun j hj=> ?_⟩;obtain⟨t,ht⟩:=hj
 .obtain⟨k,n,m,s,nums,es,ls,rfl,h1,h2,h3,h4,h5⟩:=ht.parts;have e1:Af ns j=⟨k,n,m,s,nums,Bv es⟩:=by unfold Af;rw[AP,h1];rfl
  have e2:∀q,q<es.length->∃a,es[q]? =some a/\(Bv es).getD q 0=(a:Int):=fun q hq=>⟨es[q],AR _,by rw[AP,Bv,BV,AR hq];rfl⟩
  have e3:(Bv es).length=es.length:=by rw[Bv,AS]
  unfold T6 CV;rw[e1];refine⟨⟨fun q hq=> ?_,fun hk=> ?_,fun hk=> ?_,fun hk=> ?_⟩,fun q hq=> ?_⟩
  .obtain⟨a,ha,hv⟩:=e2 q (by rw[<-e3];exact hq);have:=h3 a (A1 ha);show 0<=(Bv es).getD q 0/\(Bv es).getD q 0<j;rw[hv];omega
  .show 1<=(Bv es).length;rw[e3,h2];exact h4.1 hk
  .show 2<=(Bv es).length;rw[e3,h2];exact h4.2.1 hk
  .show 3<=(Bv es).length;rw[e3,h2];exact h4.2.2 hk
  .obtain⟨a,ha,hv⟩:=e2 q (by rw[<-e3];exact hq);show∃t,A0 ns ((Bv es).getD q 0).toNat t;rw[hv];exact⟨_,h5 q a (ls[q]'(by rw[<-h2];rw[<-e3];exact hq)) ha (AR _)⟩
def Av.get(h:Av ns es ls){j:Nat}(hj:j<ls.length):∃a,es[j]? =some a/\(Bv es).getD j 0=(a:Int)/\A0 ns a (ls[j]):=by
 have hl:j<es.length:=by rw[h.1];exact hj
 exact⟨es[j],AR _,by rw[AP,Bv,BV,AR hl];rfl,h.2 j es[j] ls[j] (AR _) (AR _)⟩
def OU{a a':Nat}{l:List AM}(h:A0 ns a l)(h':A0 ms a' l)(lo hi:Int):D0 (Af ns a) lo hi=D0 (Af ms a') lo hi:=by unfold D0;rw[h.root.1,h.root.2,h'.root.1,h'.root.2]
def WQ(h:A0 ns e t):∀(ms:List AM)(e':Nat),A0 ms e' t->∀f f',e<f->e'<f'->IP ns f e=IP ms f' e':=by
 refine A0.ind (P:=fun e t=>∀(ms:List AM)(e':Nat),A0 ms e' t->∀f f',e<f->e'<f'->IP ns f e=IP ms f' e') ?_ h
 .intro e k n m s nums es ls h1 h2 h3 h4 h5 ih;intro ms e' h' f f' hf hf';obtain⟨es',k1,k2,k3,k4⟩:=h'.inv;have e1:Af ns e=⟨k,n,m,s,nums,Bv es⟩:=by unfold Af;rw[AP,h1];rfl
  have e2:Af ms e'=⟨k,n,m,s,nums,Bv es'⟩:=by unfold Af;rw[AP,k1];rfl
  obtain⟨g,rfl⟩:∃g,f=g+1:=⟨f- 1,by omega⟩
  obtain⟨g',rfl⟩:∃g,f'=g+1:=⟨f'- 1,by omega⟩
  have kid:∀j,j<ls.length->∃a a',CV (Af ns e) j=a/\CV (Af ms e') j=a'/\a<e/\a'<e'/\es[j]? =some a/\A0 ns a ls[j]! /\A0 ms a' ls[j]! /\ls[j]? =some ls[j]! :=fun j hj=>by
   obtain⟨a,ha,hv,ht⟩:=Av.get ⟨h2,h5⟩ hj;obtain⟨a',ha',hv',ht'⟩:=k2.get hj;have el:ls[j]! =ls[j]:=getElem!_pos ls j hj;refine⟨a,a',?_,?_,h3 a (A1 ha),k3 a' (A1 ha'),ha,by rw[el];exact ht,by rw[el];exact ht',by rw[el];exact AR _⟩
   .rw[e1];show((Bv es).getD j 0).toNat=a;rw[hv];rfl
   .rw[e2];show((Bv es').getD j 0).toNat=a';rw[hv'];rfl
  have kk:(Af ns e).k=k:=by rw[e1]
  have kk':(Af ms e').k=k:=by rw[e2]
  by_cases c3:k=3
  .rw[Je (by rw[kk];exact c3),Je (by rw[kk'];exact c3)]
  by_cases c7:k=7
  .obtain⟨a,a',x1,x2,x3,x4,x5,x6,x7,x8⟩:=kid 0 (h4.1 c7);rw[Fx (by rw[kk];exact c3) (Ta (by rw[kk];exact c7)),Fx (by rw[kk'];exact c3) (Ta (by rw[kk'];exact c7)),x1,x2];exact ih 0 a _ x5 x8 ms a' x7 g g' (by omega) (by omega)
  by_cases c9:k=9
  .have:=h4.2.1 c9;obtain⟨a,a',x1,x2,x3,x4,x5,x6,x7,x8⟩:=kid 0 (by omega);obtain⟨b,b',y1,y2,y3,y4,y5,y6,y7,y8⟩:=kid 1 (by omega);have hp:=OU x6 x7 20 23;cases hv:D0 (Af ns a) 20 23 with
   |true=>
    rw[Fx (by rw[kk];exact c3) (TZ (by rw[kk];exact c9) (by rw[x1];exact hv)),Fx (by rw[kk'];exact c3) (TZ (by rw[kk'];exact c9) (by rw[x2,<-hp];exact hv)),y1,y2];exact ih 1 b _ y5 y8 ms b' y7 g g' (by omega) (by omega)
   |false=>rw[Fw (by rw[kk];exact c3) (PW (by rw[kk];exact c9) (by rw[x1];exact hv)),Fw (by rw[kk'];exact c3) (PW (by rw[kk'];exact c9) (by rw[x2,<-hp];exact hv))]
  by_cases c10:k=10
  .have:=h4.2.2 c10;obtain⟨a,a',x1,x2,x3,x4,x5,x6,x7,x8⟩:=kid 1 (by omega);obtain⟨b,b',y1,y2,y3,y4,y5,y6,y7,y8⟩:=kid 2 (by omega);have hp:=OU x6 x7 21 25;cases hv:D0 (Af ns a) 21 25 with
   |true=>
    rw[Fx (by rw[kk];exact c3) (PX (by rw[kk];exact c10) (by rw[x1];exact hv)),Fx (by rw[kk'];exact c3) (PX (by rw[kk'];exact c10) (by rw[x2,<-hp];exact hv)),y1,y2];exact ih 2 b _ y5 y8 ms b' y7 g g' (by omega) (by omega)
   |false=>rw[Fw (by rw[kk];exact c3) (MJ (by rw[kk];exact c10) (by rw[x1];exact hv)),Fw (by rw[kk'];exact c3) (MJ (by rw[kk'];exact c10) (by rw[x2,<-hp];exact hv))]
  rw[Fw (by rw[kk];exact c3) (TY (by rw[kk];exact c7) (by rw[kk];exact c9) (by rw[kk];exact c10)),Fw (by rw[kk'];exact c3) (TY (by rw[kk'];exact c7) (by rw[kk'];exact c9) (by rw[kk'];exact c10))]
def A0.sel(h:A0 ns e t):Dh ns e=J8 t:=by have hs:=h.wf.self;unfold J8 Dh;rw[h.root.1,hs.root.1,WQ h t _ hs (e+1) (t.length- 1+1) (by omega) (by omega)]
end
def CS(x:Option B1):Prop:=∀q l,x=some (true,q,l)->l≠ []/\∀t∈l,WF t
def CS.ok{q:Nat}{l:List (List AM)}(h0:l≠ [])(h:∀t∈l,WF t):CS (C4 q l):=fun q' l' e=>by cases e;exact⟨h0,h⟩
def CS.one{q:Nat}{t:List AM}(h:WF t):CS (C4 q [t]):=CS.ok (by simp) fun x hx=>by rw[AY]at hx;subst hx;exact h
def CS.bad{q:Nat}:CS (Cp q):=fun q' l' e=>by cases e
def CS.bind{x:Option B1}{k:Nat->List (List AM)->Option B1}(h:CS x)(hk:∀q l,l≠ []->(∀t∈l,WF t)->CS (k q l)):CS (A7 x k):=by
 cases x with
 |none=>intro q l e;cases e
 |some r=>
  obtain⟨b,q,l⟩:=r;cases b with
  |false=>exact CS.bad
  |true=>exact hk q l (h q l rfl).1 (h q l rfl).2
def CS.ite{p:Prop} [Decidable p]{x y:Option B1}(h1:p->CS x)(h2:¬ p->CS y):CS (if p then x else y):=by
 split
 .exact h1 ‹_›
 .exact h2 ‹_›
def Hg{k:Int}(h7:k≠7)(h9:k≠9)(h10:k≠10)(n:Nat):I0 k n:=⟨fun h=>absurd h h7,fun h=>absurd h h9,fun h=>absurd h h10⟩
def FB(k n m:Int)(s:AE)(nums:List Int)(h7:k≠7)(h9:k≠9)(h10:k≠10):WF (Ay k n m s nums []):=.mk k n m s nums [] (fun l h=>by cases h) (Hg h7 h9 h10 _)
def Ib{k:Int}(n m:Int)(s:AE)(nums:List Int){ls:List (List AM)}(h:∀t∈ls,WF t)(hc:I0 k ls.length):WF (Ay k n m s nums ls):=.mk k n m s nums ls h hc
def Jg{ls:List (List AM)}(h:ls≠ []):1<=ls.length:=by cases ls with
 |nil=>exact absurd rfl h
 |cons a l=>simp
def Pm{ls:List (List AM)}(h0:ls≠ [])(h:∀t∈ls,WF t):WF (ls.headD []):=by cases ls with
 |nil=>exact absurd rfl h0
 |cons a l=>exact h a Bl
def Lp{ls ms:List (List AM)}(h:∀t∈ls,WF t)(h':∀t∈ms,WF t):∀t∈ls++ms,WF t:=fun t ht=>(Ak.1 ht).elim (h t) (h' t)
def Tu{a:List AM}{ls:List (List AM)}(h:WF a)(h':∀t∈ls,WF t):∀t∈a::ls,WF t:=fun t ht=>(DU.1 ht).elim (fun e=>e▸h) (h' t)
section
variable {X:DN}{R:Nat->Nat->List AM->Option B1}
def ZN(hR:∀m i a,(m=1->WF a)->CS (R m i a))(q:Nat){a:List AM}(ha:WF a):CS (Ff X R q a):=CS.ite (fun _=>CS.bind (hR 3 q [] (fun e=>by cases e)) fun q2 g g0 hg=>CS.bind (hR 0 q2 [] (fun e=>by cases e)) fun q3 b b0 hb=>CS.one (Ib _ _ _ _ (Tu ha (Lp hg hb)) ⟨fun e=>by simp at e,fun e=>by simp at e,fun _=>by have:=Jg g0;have:=Jg b0;rw[Ba,AH];omega⟩)) fun _=>CS.one ha
def Tn(hR:∀m i a,(m=1->WF a)->CS (R m i a))(q:Nat){a:List AM}(ha:WF a):CS (Gu X R q a):=CS.bind (hR 1 q a (fun _=>ha)) fun q2 _ l0 hl=>ZN hR q2 (Pm l0 hl)
def aK(hR:∀m i a,(m=1->WF a)->CS (R m i a))(i:Nat):CS (Dj X R i):=CS.ite (fun _=>CS.one (FB _ _ _ _ _ (by decide) (by decide) (by decide))) fun _=>CS.ite (fun _=>CS.bind (hR 0 (i+1) [] (fun e=>by cases e)) fun q l l0 hl=>CS.ite (fun _=>CS.ok l0 hl) fun _=>CS.bad) fun _=>CS.ite (fun _=>CS.one (FB _ _ _ _ _ (by decide) (by decide) (by decide))) fun _=>CS.ite (fun _=>CS.one (FB _ _ _ _ _ (by decide) (by decide) (by decide))) fun _=>CS.ite (fun _=>CS.one (FB _ _ _ _ _ (by decide) (by decide) (by decide))) fun _=>CS.ite (fun _=>CS.one (FB _ _ _ _ _ (by decide) (by decide) (by decide))) fun _=>CS.ite (fun _=>CS.one (FB _ _ _ _ _ (by decide) (by decide) (by decide))) fun _=>CS.bad
def Zz(hR:∀m i a,(m=1->WF a)->CS (R m i a))(i:Nat):CS (Hd X R i):=CS.ite (fun _=>CS.bind (hR 3 i [] (fun e=>by cases e)) fun q g g0 hg=>CS.bind (hR 0 q [] (fun e=>by cases e)) fun q2 b b0 hb=>CS.one (Ib _ _ _ _ (Lp hg hb) ⟨fun e=>by simp at e,fun _=>by have:=Jg g0;have:=Jg b0;rw[AH];omega,fun e=>by simp at e⟩)) fun _=>CS.bind (aK hR i) fun q l l0 hl=>Tn hR q (Pm l0 hl)
def bk(hR:∀m i a,(m=1->WF a)->CS (R m i a))(i:Nat){a:List AM}(ha:WF a):CS (Jt X R i a):=CS.ite (fun _=>CS.bind (hR 2 (i+1) [] (fun e=>by cases e)) fun q l l0 hl=>CS.ite (fun _=>hR 1 (q+1) _ fun _=>Ib _ _ _ _ (Tu ha hl) ⟨fun _=>by simp,fun e=>by simp at e,fun e=>by simp at e⟩) fun _=>CS.bad) fun _=>CS.one ha
def Wn(hR:∀m i a,(m=1->WF a)->CS (R m i a))(i:Nat):CS (Ik X R i):=CS.bind (CS.ite (fun _=>CS.one (FB _ _ _ _ _ (by decide) (by decide) (by decide))) fun _=>hR 0 i [] (fun e=>by cases e)) fun q l l0 hl=>CS.ite (fun _=>CS.bind (hR 2 (q+1) [] (fun e=>by cases e)) fun q2 l2 _ hl2=>CS.ok (by simp[l0]) (Lp hl hl2)) fun _=>CS.ok l0 hl
def ZH(i n:Nat):CS (Jy X i n):=by have one:∀(k m:Int)(q:Nat),k≠7->k≠9->k≠10->CS (C4 q [Ck k (n:Nat) m]):=fun k m q h1 h2 h3=>CS.one (FB _ _ _ _ _ h1 h2 h3);exact CS.ite (fun _=>one _ _ _ (by decide) (by decide) (by decide)) fun _=>CS.ite (fun _=>one _ _ _ (by decide) (by decide) (by decide)) fun _=>CS.ite (fun _=>one _ _ _ (by decide) (by decide) (by decide)) fun _=>CS.ite (fun _=>one _ _ _ (by decide) (by decide) (by decide)) fun _=>CS.ite (fun _=>CS.ite (fun _=>one _ _ _ (by decide) (by decide) (by decide)) fun _=>CS.bad) fun _=>one _ _ _ (by decide) (by decide) (by decide)
def Ou(hR:∀m i a,(m=1->WF a)->CS (R m i a))(i:Nat):CS (EJ X R i):=CS.ite (fun _=>CS.one (FB _ _ _ _ _ (by decide) (by decide) (by decide))) fun _=>CS.bind (hR 4 (i+1) [] (fun e=>by cases e)) fun q l l0 hl=>CS.ite (fun _=>CS.one (Ib _ _ _ _ hl (Hg (by decide) (by decide) (by decide) _))) fun _=>CS.bad
def dr(hR:∀m i a,(m=1->WF a)->CS (R m i a))(i:Nat):CS (Vo X R i):=CS.ite (fun _=>ZH _ _) fun _=>CS.ite (fun _=>CS.ite (fun _=>CS.ite (fun _=>CS.one (FB _ _ _ _ _ (by decide) (by decide) (by decide))) fun _=>CS.bad) fun _=>CS.bad) fun _=>CS.ite (fun _=>Ou hR i) fun _=>CS.ite (fun _=>CS.one (FB _ _ _ _ _ (by decide) (by decide) (by decide))) fun _=>CS.ite (fun _=>CS.one (FB _ _ _ _ _ (by decide) (by decide) (by decide))) fun _=>CS.ite (fun _=>CS.one (FB _ _ _ _ _ (by decide) (by decide) (by decide))) fun _=>CS.bad
def WO(hR:∀m i a,(m=1->WF a)->CS (R m i a))(m m' i:Nat)(h1:m≠1)(h2:m'≠1):CS (A7 (R m i []) fun q l=>if X.cl q=8900 then A7 (R m' (q+1) []) fun q2 l2=>C4 q2 (l++l2)else C4 q l):=CS.bind (hR m i [] (fun e=>absurd e h1)) fun q l l0 hl=>CS.ite (fun _=>CS.bind (hR m' (q+1) [] (fun e=>absurd e h2)) fun q2 l2 _ hl2=>CS.ok (by simp[l0]) (Lp hl hl2)) fun _=>CS.ok l0 hl
def Pt(hR:∀m i a,(m=1->WF a)->CS (R m i a)){k:Int}(h7:k≠7)(h9:k≠9)(h10:k≠10)(n:Int)(s:AE){ls:List (List AM)}(hl:∀t∈ls,WF t)(i:Nat):CS (F4 R k n s ls i):=CS.bind (hR 0 i [] (fun e=>by cases e)) fun q b _ hb=>CS.one (Ib _ _ _ _ (Lp hl hb) (Hg h7 h9 h10 _))
def Zg(hR:∀m i a,(m=1->WF a)->CS (R m i a))(i:Nat):CS (Ix X R i):=CS.bind (hR 5 i [] (fun e=>by cases e)) fun q l l0 hl=>CS.ite (fun _=>CS.bind (hR 0 (q+1) [] (fun e=>by cases e)) fun q2 b _ hb=>CS.one (Ib _ _ _ _ (Lp hl hb) (Hg (by decide) (by decide) (by decide) _))) fun _=>CS.ok l0 hl
def Yw(hR:∀m i a,(m=1->WF a)->CS (R m i a))(i:Nat):CS (Hz X R i):=by
 have nil:∀t∈([]:List (List AM)),WF t:=fun t h=>by cases h
 refine CS.ite (fun _=>CS.ite (fun _=>CS.bind (Ou hR _) fun q l _ hl=>CS.one (Ib _ _ _ _ hl (Hg (by decide) (by decide) (by decide) _))) fun _=>CS.bad) fun _=>CS.ite (fun _=>Pt hR (by decide) (by decide) (by decide) _ _ nil _) fun _=>CS.ite (fun _=>Pt hR (by decide) (by decide) (by decide) _ _ nil _) fun _=>CS.ite (fun _=> ?_) fun _=>CS.ite (fun _=> ?_) fun _=>hR 0 i [] (fun e=>by cases e)
 .exact CS.bind (hR 2 (i+2) [] (fun e=>by cases e)) fun q l _ hl=>CS.ite (fun _=>CS.ite (fun _=>Pt hR (by decide) (by decide) (by decide) _ _ hl _) fun _=>CS.bad) fun _=>CS.bad
 .exact CS.bind (hR 0 (i+1) [] (fun e=>by cases e)) fun q l l0 hl=>CS.ite (fun _=>CS.ite (fun _=>CS.ite (fun _=>Pt hR (by decide) (by decide) (by decide) _ _ hl _) fun _=>CS.bad) fun _=>Tn hR _ (Pm l0 hl)) fun _=>CS.bad
end
def LZ(X:DN):∀(f m i:Nat)(a:List AM),(m=1->WF a)->CS (Bh X f m i a)
 |0,_,_,_,_=>fun q l e=>by cases e
 |f+1,m,i,a,ha=>by have h:=LZ X f;rw[Bh];exact CS.ite (fun _=>Zz h i) fun _=>CS.ite (fun e=>bk h i (ha e)) fun _=>CS.ite (fun _=>Wn h i) fun _=>CS.ite (fun _=>dr h i) fun _=>CS.ite (fun _=>WO h 6 4 i (by decide) (by decide)) fun _=>CS.ite (fun _=>Yw h i) fun _=>CS.ite (fun _=>Zg h i) fun _=>WO h 5 7 i (by decide) (by decide)
def WF.behind{t:List AM}(h:WF t)(pre:List AM):A0 (pre++B0 pre.length t) (pre.length+(t.length- 1)) t:=h.self.up
def Gb:∀(xs:List AW)(i q:Nat)(x:AW),xs[i]? =some x->q<6->(xs.flatMap AW.cells)[i*6+q]? =x.cells[q]?
 | [],i,q,x,h,_=>by simp at h
 |y::ys,0,q,x,h,hq=>by
  have e:y=x:=by simpa using h
  subst e;rw[CY,Bw (by show 0*6+q<6;omega),Nat.zero_mul,BY]
 |y::ys,i+1,q,x,h,hq=>by rw[CY,A5 (by show 6<=_;omega),show(i+1)*6+q- y.cells.length=i*6+q by show(i+1)*6+q- 6=_;omega];exact Gb ys i q x (by simpa using h) hq
def KK{w:World}{B e size n:Nat}{v:Value}{l:List Value}(h:w.ownsRow B e size v n l):(v=.slice none 0 0/\n=0)\/∃g cap,v=.slice (some ⟨g,0,none⟩) n cap/\g<w.heap.size/\B<=g/\n<=cap/\∀(j:Nat)u,l[j]? =some u->w.cell? ⟨g,j,none⟩=some u:=by
 rcases h.2 with⟨rfl,h0⟩|⟨g,cap,cur,e,hB,hh,h1,h2,hs,ht⟩
 .exact .inl ⟨rfl,h0⟩
 .refine .inr ⟨g,cap,e,lt_of_block hh,hB,h1,fun j u hu=> ?_⟩;have:=World.news_of_block hh j u (by
   rw[<-ht]at hu;have:=BN (l:=cur.toList) (i:=n*size) (j:=j);rw[hu]at this;split at this
   .exact this.symm
   .cases this)
  rw[Addr.add]at this;split at this
  .rename_i hj
   have hj':j=0:=by simpa using hj
   rw[hj'];exact this
  .simpa using this
def Dk.row{w:World}{B:Nat}{v:Value}{zs:List Int}(h:Dk w B v zs):∃a c,v=.slice a zs.length c/\OJ w a zs.length zs/\zs.length<=c:=by
 rcases KK h with⟨rfl,h0⟩|⟨g,cap,rfl,hlt,_,hc,hu⟩
 .rw[h0];exact⟨none,0,rfl,⟨h0,.inl rfl⟩,AC⟩
 .refine⟨_,_,rfl,⟨rfl,.inr ⟨g,0,rfl,hlt,fun i hi=> ?_⟩⟩,hc⟩;rw[BY];refine hu i _ ?_;rw[BV,AR hi,AP,AR hi];rfl
def M8{xs:List AW}{i:Nat}{x:AW}(h:xs[i]? =some x):Af (xs.map AW.d) i=x.d:=by unfold Af;rw[AP,BV,h];rfl
def PS.nrow{T:TypeId}{Z w:World}{p i:Nat}{v0 v2 nd:Value}{xs:List AW}(h:PS T Z p v0 v2 w i nd xs)(hl:xs.length<=1048576):∃a c,nd=.slice a xs.length c/\I1 w a xs.length (xs.map AW.d):=by
 rcases KK h.own with⟨rfl,h0⟩|⟨g,cap,rfl,hlt,_,hc,hu⟩
 .rw[h0];exact⟨none,0,rfl,⟨by rw[AS];exact h0,by omega,.inl rfl⟩⟩
 .refine⟨_,_,rfl,⟨by rw[AS],hl,.inr ⟨g,0,rfl,hlt,fun j hj=> ?_⟩⟩⟩;obtain⟨x,hx⟩:∃x,xs[j]? =some x:=⟨_,AR hj⟩
  have hk:∀q u,q<6->x.cells[q]? =some u->w.cell? ⟨g,0+j*6+q,none⟩=some u:=fun q u hq hu'=>by rw[BY];exact hu _ _ ((Gb xs j q x hx hq).trans hu')
  obtain⟨h4,h5⟩:=h.lists x (A1 hx);obtain⟨a4,c4,e4,r4,_⟩:=h4.row;obtain⟨a5,c5,e5,r5,_⟩:=h5.row;rw[M8 hx];refine⟨a4,_,c4,a5,_,c5,?_,?_,?_,?_,?_,?_,r4,r5⟩
  .exact hk 0 _ (by omega) rfl
  .exact hk 1 _ (by omega) rfl
  .exact hk 2 _ (by omega) rfl
  .exact hk 3 _ (by omega) rfl
  .exact hk 4 _ (by omega) (by rw[<-e4];rfl)
  .exact hk 5 _ (by omega) (by rw[<-e5];rfl)
def Sm(A:Nat)(t:List AM):Prop:=∀x∈t,x.s.size<=A/\x.nums.length<=A
def IX(A:Nat)(ls:List (List AM)):Prop:=∀t∈ls,Sm A t
def Cf(A:Nat)(x:Option B1):Prop:=∀q l,x=some (true,q,l)->IX A l
section
variable {A:Nat}{ls ms:List (List AM)}{t:List AM}
def IX.nil:IX A []:=fun t h=>by cases h
def IX.app(h:IX A ls)(h':IX A ms):IX A (ls++ms):=fun t ht=>(Ak.1 ht).elim (h t) (h' t)
def IX.cons(h:Sm A t)(h':IX A ls):IX A (t::ls):=fun x hx=>(DU.1 hx).elim (fun e=>e▸h) (h' x)
def IX.head(h:IX A ls):Sm A (ls.headD []):=by cases ls with
 |nil=>exact fun x hx=>by cases hx
 |cons a l=>exact h a Bl
def Sm.shift(h:Sm A t)(b:Nat):Sm A (B0 b t):=fun x hx=>by unfold B0 at hx;obtain⟨y,hy,rfl⟩:=DT.1 hx;exact h y hy
def IX.row:∀ {ls:List (List AM)},IX A ls->Sm A (Az ls)
 | [],_=>fun x hx=>by cases hx
 |l::ls,h=>fun x hx=>by rw[Az]at hx;exact(Ak.1 hx).elim (h l Bl x) ((IX.row (ls:=ls) fun t ht=>h t (C2 _ ht)).shift _ x)
def Jb(k n m:Int){s:AE}{nums:List Int}(hs:s.size<=A)(hn:nums.length<=A)(h:IX A ls):Sm A (Ay k n m s nums ls):=fun x hx=>by
 unfold Ay at hx;rcases Ak.1 hx with hx|hx
 .exact h.row x hx
 .rw[AY]at hx;subst hx;exact⟨hs,hn⟩
def PV:E2.size<=A:=AZ _
def Jc(k n m:Int)(h:IX A ls):Sm A (Ay k n m E2 [] ls):=Jb k n m PV (AZ _) h
def Ep(k n m:Int):Sm A (Ck k n m):=Jc k n m IX.nil
def Cf.ok{q:Nat}(h:IX A ls):Cf A (C4 q ls):=fun q' l' e=>by cases e;exact h
def Cf.one{q:Nat}(h:Sm A t):Cf A (C4 q [t]):=Cf.ok (IX.cons h IX.nil)
def Cf.bad{q:Nat}:Cf A (Cp q):=fun q' l' e=>by cases e
def Cf.bind{x:Option B1}{k:Nat->List (List AM)->Option B1}(h:Cf A x)(hk:∀q l,IX A l->Cf A (k q l)):Cf A (A7 x k):=by
 cases x with
 |none=>intro q l e;cases e
 |some r=>
  obtain⟨b,q,l⟩:=r;cases b with
  |false=>exact Cf.bad
  |true=>exact hk q l (h q l rfl)
def Cf.ite{p:Prop} [Decidable p]{x y:Option B1}(h1:Cf A x)(h2:Cf A y):Cf A (if p then x else y):=by
 split
 .exact h1
 .exact h2
variable {X:DN}{R:Nat->Nat->List AM->Option B1}
def TX:∀(f i:Nat),(Ct X f i).length<=f
 |0,_=>AC
 |f+1,i=>by
  rw[Ct];split
  .have:=TX f (i+1);show(Ct X f (i+1)).length+1<=_;omega
  .exact AZ _
def ZO(hR:∀m i a,Sm A a->Cf A (R m i a))(q:Nat){a:List AM}(ha:Sm A a):Cf A (Ff X R q a):=Cf.ite (Cf.bind (hR 3 q [] (IX.nil.row)) fun q2 _ hg=>Cf.bind (hR 0 q2 [] (IX.nil.row)) fun _ _ hb=>Cf.one (Jc _ _ _ (IX.cons ha (hg.app hb)))) (Cf.one ha)
def To(hR:∀m i a,Sm A a->Cf A (R m i a))(q:Nat){a:List AM}(ha:Sm A a):Cf A (Gu X R q a):=Cf.bind (hR 1 q a ha) fun q2 _ hl=>ZO hR q2 hl.head
def Pu(hR:∀m i a,Sm A a->Cf A (R m i a))(k n:Int){s:AE}(hs:s.size<=A)(hl:IX A ls)(i:Nat):Cf A (F4 R k n s ls i):=Cf.bind (hR 0 i [] (IX.nil.row)) fun _ _ hb=>Cf.one (Jb _ _ _ hs (AZ _) (hl.app hb))
def Ov(hR:∀m i a,Sm A a->Cf A (R m i a))(i:Nat):Cf A (EJ X R i):=Cf.ite (Cf.one (Ep _ _ _)) (Cf.bind (hR 4 (i+1) [] (IX.nil.row)) fun _ _ hl=>Cf.ite (Cf.one (Jc _ _ _ hl)) Cf.bad)
def ZI(i n:Nat):Cf A (Jy X i n):=Cf.ite (Cf.one (Ep _ _ _)) (Cf.ite (Cf.one (Ep _ _ _)) (Cf.ite (Cf.one (Ep _ _ _)) (Cf.ite (Cf.one (Ep _ _ _)) (Cf.ite (Cf.ite (Cf.one (Ep _ _ _)) Cf.bad) (Cf.one (Ep _ _ _))))))
def WP(hR:∀m i a,Sm A a->Cf A (R m i a))(m m' i:Nat):Cf A (A7 (R m i []) fun q l=>if X.cl q=8900 then A7 (R m' (q+1) []) fun q2 l2=>C4 q2 (l++l2)else C4 q l):=Cf.bind (hR m i [] (IX.nil.row)) fun q _ hl=>Cf.ite (Cf.bind (hR m' (q+1) [] (IX.nil.row)) fun _ _ hl2=>Cf.ok (hl.app hl2)) (Cf.ok hl)
def Wh(hs:∀i,(X.sv i).size<=A)(hn:X.len+1<=A):∀(f m i:Nat)(a:List AM),Sm A a->Cf A (Bh X f m i a)
 |0,_,_,_,_=>fun q l e=>by cases e
 |f+1,m,i,a,ha=>by
  have h:=Wh hs hn f;have z:Sm A []:=IX.nil.row;have lf:∀k i,Sm A (Gh k (X.sv i)):=fun k i=>Jb _ _ _ (hs i) (AZ _) IX.nil;have at_:Cf A (Dj X (Bh X f) i):=Cf.ite (Cf.one (Jb _ _ _ PV (Aw (TX _ _) hn) IX.nil)) (Cf.ite (Cf.bind (h 0 (i+1) [] z) fun q l hl=>Cf.ite (Cf.ok hl) Cf.bad) (Cf.ite (Cf.one (lf _ _)) (Cf.ite (Cf.one (lf _ _)) (Cf.ite (Cf.one (Ep _ _ _)) (Cf.ite (Cf.one (Ep _ _ _)) (Cf.ite (Cf.one (Ep _ _ _)) Cf.bad))))));rw[Bh];refine Cf.ite ?_ (Cf.ite ?_ (Cf.ite ?_ (Cf.ite ?_ (Cf.ite (WP h 6 4 i) (Cf.ite ?_ (Cf.ite ?_ (WP h 5 7 i)))))))
  .exact Cf.ite (Cf.bind (h 3 i [] z) fun q g hg=>Cf.bind (h 0 q [] z) fun q2 b hb=>Cf.one (Jc _ _ _ (hg.app hb))) (Cf.bind at_ fun q l hl=>To h q hl.head)
  .exact Cf.ite (Cf.bind (h 2 (i+1) [] z) fun q l hl=>Cf.ite (h 1 (q+1) _ (Jc _ _ _ (IX.cons ha hl))) Cf.bad) (Cf.one ha)
  .exact Cf.bind (Cf.ite (Cf.one (Ep _ _ _)) (h 0 i [] z)) fun q l hl=>Cf.ite (Cf.bind (h 2 (q+1) [] z) fun q2 l2 hl2=>Cf.ok (hl.app hl2)) (Cf.ok hl)
  .exact Cf.ite (ZI _ _) (Cf.ite (Cf.ite (Cf.ite (Cf.one (Ep _ _ _)) Cf.bad) Cf.bad) (Cf.ite (Ov h i) (Cf.ite (Cf.one (lf _ _)) (Cf.ite (Cf.one (Ep _ _ _)) (Cf.ite (Cf.one (Ep _ _ _)) Cf.bad)))))
  .refine Cf.ite (Cf.ite (Cf.bind (Ov h _) fun q l hl=>Cf.one (Jb _ _ _ (hs i) (AZ _) hl)) Cf.bad) (Cf.ite (Pu h _ _ (hs i) IX.nil _) (Cf.ite (Pu h _ _ (hs i) IX.nil _) (Cf.ite (Cf.bind (h 2 (i+2) [] z) fun q l hl=>Cf.ite (Cf.ite (Pu h _ _ (hs i) hl _) Cf.bad) Cf.bad) (Cf.ite (Cf.bind (h 0 (i+1) [] z) fun q l hl=>Cf.ite (Cf.ite (Cf.ite (Pu h _ _ PV hl _) Cf.bad) (To h _ hl.head)) Cf.bad) (h 0 i [] z)))))
  .exact Cf.bind (h 5 i [] z) fun q l hl=>Cf.ite (Cf.bind (h 0 (q+1) [] z) fun q2 b hb=>Cf.one (Jc _ _ _ (hl.app hb))) (Cf.ok hl)
end
def QQ:∀ls:List (List AM),(DW ls).length=ls.length
 | []=>rfl
 |l::ls=>by rw[DW,Ba,AS,QQ ls];rfl
def Lo{t:List AM}(h:WF t):0<t.length:=by obtain⟨k,n,m,s,nums,ls,rfl,_⟩:=h.parts;unfold Ay;simp
def TQ:∀(ls:List (List AM)),(∀l∈ls,0<l.length)->ls.length<=(Az ls).length
 | [],_=>AZ _
 |l::ls,h=>by have h1:=TQ ls fun x hx=>h x (C2 _ hx);have h2:=h l Bl;rw[Fe];show ls.length+1<=_;omega
def R4{K:Nat}{t:List AM}(h:∀x∈t,x.kids.length<=K)(b:Nat):∀x∈B0 b t,x.kids.length<=K:=fun x hx=>by unfold B0 at hx;obtain⟨y,hy,rfl⟩:=DT.1 hx;show(y.kids.map _).length<=K;rw[AS];exact h y hy
def QO{K:Nat}:∀ {ls:List (List AM)},(∀l∈ls,∀x∈l,x.kids.length<=K)->∀x∈Az ls,x.kids.length<=K
 | [],_,x,hx=>by cases hx
 |l::ls,h,x,hx=>by
  rw[Az]at hx;rcases Ak.1 hx with hx|hx
  .exact h l Bl x hx
  .exact R4 (QO fun t ht=>h t (C2 _ ht)) _ x hx
def Lu:∀ {ls:List (List AM)}{l:List AM},l∈ls->l.length<=(Az ls).length
 |m::ls,l,h=>by
  rw[Fe];rcases DU.1 h with rfl|h
  .omega
  .have:=Lu h;omega
def Ys{t:List AM}(h:WF t):∀x∈t,x.kids.length<=t.length:=by
 refine WF.ind (P:=fun t=>∀x∈t,x.kids.length<=t.length) ?_ h
 .intro k n m s nums ls hl hc ih x hx;have Ae:(Ay k n m s nums ls).length=(Az ls).length+1:=CN k n m s nums ls;unfold Ay at hx;rcases Ak.1 hx with hx|hx
  .exact QO (fun l hl' y hy=>Aw (ih l hl' y hy) (by have:=Lu hl';omega)) x hx
  .rw[AY]at hx;subst hx;show(DW ls).length<=_;rw[QQ,Ae];have:=TQ ls fun l hl'=>Lo (hl l hl');omega
