import Derived.Test.YtgjpchnkodnieaaGreatDoorZ02
import Derived.Test.YtgjpchnkodnieaaGreatDoorZ12
set_option maxRecDepth 20000
set_option maxHeartbeats 4000000
set_option linter.defProp false
namespace Go.Proofs.YtgjpchnkodnieaaGreatDoor
open Go.RowKit Tryz
section
open Go.Shelf
def Lt(n:Nat):(Builtin.zeroCells (Value.int .i64 0).cells n).size=n:=by simp[Builtin.zeroCells,Value.cells]
def IN(n:Nat)(w:World)(hn:n<=17592186044416):Calls prog 185 #[.slice none 0 0,.int .i64 (n:Nat)] w fun e w'=>∃v,e=.returned v/\w'.ownsRow w.heap.size 3 1 v 0 []/\Below w.heap.size w w':=by
 obtain⟨i0,hi,hz0,hz1,hz2⟩:=info_parts A6;by_cases h0:n=0
 .subst h0;refine(Any8.slices_Grow_room Tryz.growI none 0 0 0 w AC (by omega) (by omega) (by omega)).mono ?_;rintro e w'⟨rfl,rfl⟩;exact⟨_,rfl,⟨rfl,.inl ⟨rfl,rfl⟩⟩,AG⟩
 .refine(Any8.slices_Grow_grow Tryz.growI i0 (.int .i64 0) hi hz0 (by rw[hz1];omega) none 0 0 n [] w AC (by omega) (by rw[hz2];omega) (by omega) (by simp) (fun _=>rfl) (fun a ha=>by cases ha)).mono ?_;rintro e w'⟨rfl,rfl⟩;have hge:=grownCap_ge w (0+n) 0 (Tryz.growI_ren.t 25);have hle:=grownCap_le_maxLen w (0+n) 0 (Tryz.growI_ren.t 25) (by unfold maxLen;omega);refine⟨_,rfl,⟨rfl,.inr ⟨w.heap.size,_,_,rfl,AC,by exact heap_alloc_last w.drew _,AS _,hle,?_,rfl⟩⟩,AG.drew.alloc (by simp) _⟩;simp only[Cq]at hge;simp only[Array.size_append,Lt];simp;omega
def Ds{w w1:World}{base n:Nat}{v:Value}{xs:List Value}(BJ:w.ownsRow base 3 1 v n xs)(hb:base<=w.heap.size)(hg:w.grownBy w1 v.ownBlock):Below base w w1:=AG.grown hg hb (by
  intro k hk;rcases BJ.2 with⟨rfl,_⟩|⟨g,cap,cur,rfl,hbg,_⟩
  .cases hk
  .cases hk;exact hbg)
def LI(bs:Nat)(a b:Addr)(n m ca cb:Nat)(xs ys:List Int)(w:World)(h0:w.cell? ⟨bs,0,none⟩=some (.slice (some a) n ca))(h1:w.cell? ⟨bs,1,none⟩=some (.slice (some b) m cb))(hx:AO w (some a) n xs)(hy:AO w (some b) m ys)(hn:n<=1000000)(hm:m<=1000000):Calls prog 113 #[.slice (some ⟨bs,0,none⟩) 2 2] w fun e w'=>∃a' Ak,e=.returned (.slice a' (n+m) Ak)/\Bt w' w.heap.size a' (n+m) (xs++ys)/\Below w.heap.size w w':=by
 have hl1:=hx.len;have hl2:=hy.len;have HX:=AD hx;have HY:=AD hy;clear hx hy;have hbs:=AU _ _ h0;obtain⟨i0,hi,hz0,hz1,hz2⟩:=info_parts A6;have hs1:(n:Int)+(m:Int)=((n+m:Nat):Int):=by simp
 obtain⟨s,hs⟩:∃s,s=n+m:=⟨_,rfl⟩
 rw[<-hs]at hs1;have HS:=AD hs;have hsb:s<=2000000:=by omega
 clear hs;go_enter func113,ntmps113
 go_wp2
 refine wp_loop_rounds 3 ?_;rw[rounds_succ]
 go_wp2
 rw[rounds_succ]
 go_wp2
 rw[rounds_succ];go_wp2_with fail;refine(IN s w (by omega)).mono ?_;rintro e w1⟨v,rfl,BJ,hb1⟩;have k0:=(hb1.cell (p:=⟨bs,0,none⟩) hbs).trans h0;have k1:=(hb1.cell (p:=⟨bs,1,none⟩) hbs).trans h1;have hsz:=hb1.size;have HB1:=AD hb1;have HC1:=AD h1;clear hb1 h0 h1
 go_wp2
 refine wp_loop_rounds 3 ?_;rw[rounds_succ];obtain⟨av,cv,rfl⟩:=CU BJ;go_wp2_with(at_builtin;refine wpList_append_own _ rfl _ _ 23 rfl w.heap.size 3 i0 (.int .i64 0) 1 8 underlying23 hi hz0 hz1 hz2 rfl (by decide) _ _ _ rfl BJ a n ca (xs.map (Value.int .i64)) rfl (by simpa using hl1) (Ct ((AA HX).below AC (AA HB1))) (DQ xs) (by unfold maxLen;omega) (by omega) (by omega) ?_;intro v1 w2 hown1 hgrow1 hnil1;clear hnil1;have HB2:=AD ((AA HB1).trans (Ds BJ hsz hgrow1));have hsz2:=(AA HB2).size;clear hgrow1 BJ k0 k1;have k1:=((AA HB2).cell (p:=⟨bs,1,none⟩) hbs).trans (AA HC1);obtain⟨av1,cv1,rfl⟩:=CU hown1);have hown1':w2.ownsRow w.heap.size 3 1 (.slice av1 n cv1) n (xs.map (Value.int .i64)):=by simpa using hown1
 clear hown1;rw[rounds_succ];go_wp2_with(at_builtin;refine wpList_append_own _ rfl _ _ 23 rfl w.heap.size 3 i0 (.int .i64 0) 1 8 underlying23 hi hz0 hz1 hz2 rfl (by decide) _ _ _ rfl hown1' b m cb (ys.map (Value.int .i64)) rfl (by simpa using hl2) (Ct ((AA HY).below AC (AA HB2))) (DQ ys) (by unfold maxLen;omega) (by omega) (by omega) ?_;intro v2 w3 hown2 hgrow2 hnil2;clear hnil2;have HB3:=AD ((AA HB2).trans (Ds hown1' hsz2 hgrow2));clear hgrow2 hown1' k1;obtain⟨av2,cv2,rfl⟩:=CU hown2);rw[rounds_succ]
 go_wp2
 go_ret;obtain⟨a',Ak,he,hO⟩:=Bt.of_owns (zs:=xs++ys) (by rw[Bf];exact hown2) (by omega);cases he;exact⟨_,_,rfl,hO,AA HB3⟩
end
section
open Go.Shelf
def G2(bs:Nat)(a b:Addr)(n m ca cb:Nat)(xs ys:List Int)(w:World)(h0:w.cell? ⟨bs,0,none⟩=some (.slice (some a) n ca))(h1:w.cell? ⟨bs,1,none⟩=some (.slice (some b) m cb))(hx:AO w (some a) n xs)(hy:AO w (some b) m ys)(hn:n<=1000000)(hm:m<=1000000):Calls prog 113 #[.slice (some ⟨bs,0,none⟩) 2 2] w fun e w'=>∃a' Ak,e=.returned (.slice a' (n+m) Ak)/\w'.ownsRow w.heap.size 3 1 (.slice a' (n+m) Ak) (n+m) ((xs++ys).map (Value.int .i64))/\Below w.heap.size w w':=by
 have hl1:=hx.len;have hl2:=hy.len;have HX:=AD hx;have HY:=AD hy;clear hx hy;have hbs:=AU _ _ h0;obtain⟨i0,hi,hz0,hz1,hz2⟩:=info_parts A6;have hs1:(n:Int)+(m:Int)=((n+m:Nat):Int):=by simp
 obtain⟨s,hs⟩:∃s,s=n+m:=⟨_,rfl⟩
 rw[<-hs]at hs1;have HS:=AD hs;have hsb:s<=2000000:=by omega
 clear hs;go_enter func113,ntmps113
 go_wp2
 refine wp_loop_rounds 3 ?_;rw[rounds_succ]
 go_wp2
 rw[rounds_succ]
 go_wp2
 rw[rounds_succ];go_wp2_with fail;refine(IN s w (by omega)).mono ?_;rintro e w1⟨v,rfl,BJ,hb1⟩;have k0:=(hb1.cell (p:=⟨bs,0,none⟩) hbs).trans h0;have k1:=(hb1.cell (p:=⟨bs,1,none⟩) hbs).trans h1;have hsz:=hb1.size;have HB1:=AD hb1;have HC1:=AD h1;clear hb1 h0 h1
 go_wp2
 refine wp_loop_rounds 3 ?_;rw[rounds_succ];obtain⟨av,cv,rfl⟩:=CU BJ;go_wp2_with(at_builtin;refine wpList_append_own _ rfl _ _ 23 rfl w.heap.size 3 i0 (.int .i64 0) 1 8 underlying23 hi hz0 hz1 hz2 rfl (by decide) _ _ _ rfl BJ a n ca (xs.map (Value.int .i64)) rfl (by simpa using hl1) (Ct ((AA HX).below AC (AA HB1))) (DQ xs) (by unfold maxLen;omega) (by omega) (by omega) ?_;intro v1 w2 hown1 hgrow1 hnil1;clear hnil1;have HB2:=AD ((AA HB1).trans (Ds BJ hsz hgrow1));have hsz2:=(AA HB2).size;clear hgrow1 BJ k0 k1;have k1:=((AA HB2).cell (p:=⟨bs,1,none⟩) hbs).trans (AA HC1);obtain⟨av1,cv1,rfl⟩:=CU hown1);have hown1':w2.ownsRow w.heap.size 3 1 (.slice av1 n cv1) n (xs.map (Value.int .i64)):=by simpa using hown1
 clear hown1;rw[rounds_succ];go_wp2_with(at_builtin;refine wpList_append_own _ rfl _ _ 23 rfl w.heap.size 3 i0 (.int .i64 0) 1 8 underlying23 hi hz0 hz1 hz2 rfl (by decide) _ _ _ rfl hown1' b m cb (ys.map (Value.int .i64)) rfl (by simpa using hl2) (Ct ((AA HY).below AC (AA HB2))) (DQ ys) (by unfold maxLen;omega) (by omega) (by omega) ?_;intro v2 w3 hown2 hgrow2 hnil2;clear hnil2;have HB3:=AD ((AA HB2).trans (Ds hown1' hsz2 hgrow2));clear hgrow2 hown1' k1;obtain⟨av2,cv2,rfl⟩:=CU hown2);rw[rounds_succ]
 go_wp2
 go_ret;exact⟨_,_,rfl,by rw[Bf];exact hown2,AA HB3⟩
end
section
open Go.Shelf
def Dt(w:World)(p:Nat)(a:Option Addr)(n c start step count:Nat):Prop:=w.heap[p]? =some (.cells #[.slice a n c,.int .i64 start,.int .i64 step,.int .i64 count] 145 (0,0))
def Dt.lt{w:World}{p:Nat}{a:Option Addr}{n c start step count:Nat}(h:Dt w p a n c start step count):p<w.heap.size:=lt_of_block h
def Dt.cells{w:World}{p:Nat}{a:Option Addr}{n c start step count:Nat}(h:Dt w p a n c start step count):w.cell? ⟨p,0,none⟩=some (.slice a n c)/\w.cell? ⟨p,1,none⟩=some (.int .i64 start)/\w.cell? ⟨p,2,none⟩=some (.int .i64 step)/\w.cell? ⟨p,3,none⟩=some (.int .i64 count):=by unfold Dt at h;simp[World.cell?,h]
def Dt.below{w w':World}{p B:Nat}{a:Option Addr}{n c start step count:Nat}(h:Dt w p a n c start step count)(hB:w.heap.size<=B)(hb:Below B w w'):Dt w' p a n c start step count:=(hb.block p (AZ h.lt hB)).trans h
def Dt.alloc{w:World}{p:Nat}{a:Option Addr}{n c start step count:Nat}(h:Dt w p a n c start step count)(o:Obj):Dt (w.alloc o) p a n c start step count:=(Ab w o p h.lt).trans h
def Dt.new(w:World)(a:Option Addr)(n c start step count:Nat):Dt (w.alloc (.cells #[.slice a n c,.int .i64 start,.int .i64 step,.int .i64 count] 145 (0,0))) w.heap.size a n c start step count:=heap_alloc_last w _
def IM(a:Option Addr)(n c start step count k:Nat)(zs:List Int)(w:World)(h:AO w a n zs)(hi:start+k*step<n):Calls prog 192 #[.agg #[.slice a n c,.int .i64 start,.int .i64 step,.int .i64 count],.int .i64 (k:Nat)] w fun e w'=>e=.returned (.int .i64 (zs.getD (start+k*step) 0))/\Below w.heap.size w w':=by
 obtain⟨b,off,rfl,hblt,hc⟩:=h.get hi;have hsm:=h.small;clear h;obtain⟨x,hx⟩:∃x,x=zs.getD (start+k*step) 0:=⟨_,rfl⟩
 rw[<-hx]at hc ⊢;clear hx;obtain⟨m,hm⟩:∃m,m=k*step:=⟨_,rfl⟩
 rw[<-hm]at hi hc;have hm':(k:Int)*(step:Int)=(m:Int):=by rw[hm];simp
 obtain⟨i,hie⟩:∃i,i=start+m:=⟨_,rfl⟩
 rw[<-hie]at hi hc;have hi':(start:Int)+(m:Int)=(i:Int):=by rw[hie];simp
 clear hm hie;have hc':=((AN w.heap.size w).alloc AC (.cells #[.slice (some ⟨b,off,none⟩) n c,.int .i64 start,.int .i64 step,.int .i64 count] 145)).cell (p:=⟨b,off+i,none⟩) hblt;rw[hc]at hc';go_enter func192,ntmps192
 go_wp2
 go_ret;exact⟨rfl,AG.alloc AC _⟩
end
section
open Go.Shelf
def TI(bs:Nat)(b:Addr)(n m ca cb:Nat)(xs ys:List Int)(w:World)(h0:w.cell? ⟨bs,0,none⟩=some (.slice none n ca))(h1:w.cell? ⟨bs,1,none⟩=some (.slice (some b) m cb))(hx:AO w none n xs)(hy:AO w (some b) m ys)(hn:n<=1000000)(hm:m<=1000000):Calls prog 113 #[.slice (some ⟨bs,0,none⟩) 2 2] w fun e w'=>∃a' Ak,e=.returned (.slice a' (n+m) Ak)/\Bt w' w.heap.size a' (n+m) (xs++ys)/\Below w.heap.size w w':=by
 have HN1:=AD (Hp hx);have hl1:=hx.len;have hl2:=hy.len;have HX:=AD hx;have HY:=AD hy;clear hx hy;have hbs:=AU _ _ h0;obtain⟨i0,hi,hz0,hz1,hz2⟩:=info_parts A6;have hs1:(n:Int)+(m:Int)=((n+m:Nat):Int):=by simp
 obtain⟨s,hs⟩:∃s,s=n+m:=⟨_,rfl⟩
 rw[<-hs]at hs1;have HS:=AD hs;have hsb:s<=2000000:=by omega
 clear hs;go_enter func113,ntmps113
 go_wp2
 refine wp_loop_rounds 3 ?_;rw[rounds_succ]
 go_wp2
 rw[rounds_succ]
 go_wp2
 rw[rounds_succ];go_wp2_with fail;refine(IN s w (by omega)).mono ?_;rintro e w1⟨v,rfl,BJ,hb1⟩;have k0:=(hb1.cell (p:=⟨bs,0,none⟩) hbs).trans h0;have k1:=(hb1.cell (p:=⟨bs,1,none⟩) hbs).trans h1;have hsz:=hb1.size;have HB1:=AD hb1;have HC1:=AD h1;clear hb1 h0 h1
 go_wp2
 refine wp_loop_rounds 3 ?_;rw[rounds_succ];obtain⟨av,cv,rfl⟩:=CU BJ;go_wp2_with(at_builtin;refine Cw rfl _ _ 23 rfl w.heap.size 3 i0 1 underlying23 hi _ 0 [] rfl BJ n (AA HN1).1 ca rfl ?_;have HB2:=HB1;have hsz2:=hsz;clear k0 k1;have k1:=((AA HB2).cell (p:=⟨bs,1,none⟩) hbs).trans (AA HC1));have hown1':=BJ;clear BJ;rw[rounds_succ];go_wp2_with(at_builtin;refine wpList_append_own _ rfl _ _ 23 rfl w.heap.size 3 i0 (.int .i64 0) 1 8 underlying23 hi hz0 hz1 hz2 rfl (by decide) _ _ _ rfl hown1' b m cb (ys.map (Value.int .i64)) rfl (by simpa using hl2) (Ct ((AA HY).below AC (AA HB2))) (DQ ys) (by unfold maxLen;omega) (by omega) (by omega) ?_;intro v2 w3 hown2 hgrow2 hnil2;clear hnil2;have HB3:=AD ((AA HB2).trans (Ds hown1' hsz2 hgrow2));clear hgrow2 hown1' k1;obtain⟨av2,cv2,rfl⟩:=CU hown2);rw[rounds_succ]
 go_wp2
 go_ret;obtain⟨rfl,rfl⟩:=AA HN1;obtain⟨a',Ak,he,hO⟩:=Bt.of_owns (zs:= []++ys) (by simpa using hown2) (by omega);cases he;rw[Cq];exact⟨_,_,rfl,hO,AA HB3⟩
def TH(bs:Nat)(a:Addr)(n m ca cb:Nat)(xs ys:List Int)(w:World)(h0:w.cell? ⟨bs,0,none⟩=some (.slice (some a) n ca))(h1:w.cell? ⟨bs,1,none⟩=some (.slice none m cb))(hx:AO w (some a) n xs)(hy:AO w none m ys)(hn:n<=1000000)(hm:m<=1000000):Calls prog 113 #[.slice (some ⟨bs,0,none⟩) 2 2] w fun e w'=>∃a' Ak,e=.returned (.slice a' (n+m) Ak)/\Bt w' w.heap.size a' (n+m) (xs++ys)/\Below w.heap.size w w':=by
 have HN2:=AD (Hp hy);have hl1:=hx.len;have hl2:=hy.len;have HX:=AD hx;have HY:=AD hy;clear hx hy;have hbs:=AU _ _ h0;obtain⟨i0,hi,hz0,hz1,hz2⟩:=info_parts A6;have hs1:(n:Int)+(m:Int)=((n+m:Nat):Int):=by simp
 obtain⟨s,hs⟩:∃s,s=n+m:=⟨_,rfl⟩
 rw[<-hs]at hs1;have HS:=AD hs;have hsb:s<=2000000:=by omega
 clear hs;go_enter func113,ntmps113
 go_wp2
 refine wp_loop_rounds 3 ?_;rw[rounds_succ]
 go_wp2
 rw[rounds_succ]
 go_wp2
 rw[rounds_succ];go_wp2_with fail;refine(IN s w (by omega)).mono ?_;rintro e w1⟨v,rfl,BJ,hb1⟩;have k0:=(hb1.cell (p:=⟨bs,0,none⟩) hbs).trans h0;have k1:=(hb1.cell (p:=⟨bs,1,none⟩) hbs).trans h1;have hsz:=hb1.size;have HB1:=AD hb1;have HC1:=AD h1;clear hb1 h0 h1
 go_wp2
 refine wp_loop_rounds 3 ?_;rw[rounds_succ];obtain⟨av,cv,rfl⟩:=CU BJ;go_wp2_with(at_builtin;refine wpList_append_own _ rfl _ _ 23 rfl w.heap.size 3 i0 (.int .i64 0) 1 8 underlying23 hi hz0 hz1 hz2 rfl (by decide) _ _ _ rfl BJ a n ca (xs.map (Value.int .i64)) rfl (by simpa using hl1) (Ct ((AA HX).below AC (AA HB1))) (DQ xs) (by unfold maxLen;omega) (by omega) (by omega) ?_;intro v1 w2 hown1 hgrow1 hnil1;clear hnil1;have HB2:=AD ((AA HB1).trans (Ds BJ hsz hgrow1));have hsz2:=(AA HB2).size;clear hgrow1 BJ k0 k1;have k1:=((AA HB2).cell (p:=⟨bs,1,none⟩) hbs).trans (AA HC1);obtain⟨av1,cv1,rfl⟩:=CU hown1);have hown1':w2.ownsRow w.heap.size 3 1 (.slice av1 n cv1) n (xs.map (Value.int .i64)):=by simpa using hown1
 clear hown1;rw[rounds_succ];go_wp2_with(at_builtin;refine Cw rfl _ _ 23 rfl w.heap.size 3 i0 1 underlying23 hi _ _ _ rfl hown1' m (AA HN2).1 cb rfl ?_;have HB3:=HB2);have hown2:=hown1';rw[rounds_succ]
 go_wp2
 go_ret;obtain⟨rfl,rfl⟩:=AA HN2;obtain⟨a',Ak,he,hO⟩:=Bt.of_owns (zs:=xs++ []) (by simpa using hown2) (by omega);cases he;exact⟨_,_,rfl,hO,AA HB3⟩
def TJ(bs:Nat)(n m ca cb:Nat)(xs ys:List Int)(w:World)(h0:w.cell? ⟨bs,0,none⟩=some (.slice none n ca))(h1:w.cell? ⟨bs,1,none⟩=some (.slice none m cb))(hx:AO w none n xs)(hy:AO w none m ys)(hn:n<=1000000)(hm:m<=1000000):Calls prog 113 #[.slice (some ⟨bs,0,none⟩) 2 2] w fun e w'=>∃a' Ak,e=.returned (.slice a' (n+m) Ak)/\Bt w' w.heap.size a' (n+m) (xs++ys)/\Below w.heap.size w w':=by
 have HN1:=AD (Hp hx);have HN2:=AD (Hp hy);have hl1:=hx.len;have hl2:=hy.len;have HX:=AD hx;have HY:=AD hy;clear hx hy;have hbs:=AU _ _ h0;obtain⟨i0,hi,hz0,hz1,hz2⟩:=info_parts A6;have hs1:(n:Int)+(m:Int)=((n+m:Nat):Int):=by simp
 obtain⟨s,hs⟩:∃s,s=n+m:=⟨_,rfl⟩
 rw[<-hs]at hs1;have HS:=AD hs;have hsb:s<=2000000:=by omega
 clear hs;go_enter func113,ntmps113
 go_wp2
 refine wp_loop_rounds 3 ?_;rw[rounds_succ]
 go_wp2
 rw[rounds_succ]
 go_wp2
 rw[rounds_succ];go_wp2_with fail;refine(IN s w (by omega)).mono ?_;rintro e w1⟨v,rfl,BJ,hb1⟩;have k0:=(hb1.cell (p:=⟨bs,0,none⟩) hbs).trans h0;have k1:=(hb1.cell (p:=⟨bs,1,none⟩) hbs).trans h1;have hsz:=hb1.size;have HB1:=AD hb1;have HC1:=AD h1;clear hb1 h0 h1
 go_wp2
 refine wp_loop_rounds 3 ?_;rw[rounds_succ];obtain⟨av,cv,rfl⟩:=CU BJ;go_wp2_with(at_builtin;refine Cw rfl _ _ 23 rfl w.heap.size 3 i0 1 underlying23 hi _ 0 [] rfl BJ n (AA HN1).1 ca rfl ?_;have HB2:=HB1;have hsz2:=hsz;clear k0 k1;have k1:=((AA HB2).cell (p:=⟨bs,1,none⟩) hbs).trans (AA HC1));have hown1':=BJ;clear BJ;rw[rounds_succ];go_wp2_with(at_builtin;refine Cw rfl _ _ 23 rfl w.heap.size 3 i0 1 underlying23 hi _ _ _ rfl hown1' m (AA HN2).1 cb rfl ?_;have HB3:=HB2);have hown2:=hown1';rw[rounds_succ]
 go_wp2
 go_ret;obtain⟨rfl,rfl⟩:=AA HN1;obtain⟨rfl,rfl⟩:=AA HN2;obtain⟨a',Ak,he,hO⟩:=Bt.of_owns (zs:= []++ []) (by simpa using hown2) (by omega);cases he;exact⟨_,_,rfl,hO,AA HB3⟩
def LH(bs:Nat)(oa ob:Option Addr)(n m ca cb:Nat)(xs ys:List Int)(w:World)(h0:w.cell? ⟨bs,0,none⟩=some (.slice oa n ca))(h1:w.cell? ⟨bs,1,none⟩=some (.slice ob m cb))(hx:AO w oa n xs)(hy:AO w ob m ys)(hn:n<=1000000)(hm:m<=1000000):Calls prog 113 #[.slice (some ⟨bs,0,none⟩) 2 2] w fun e w'=>∃a' Ak,e=.returned (.slice a' (n+m) Ak)/\Bt w' w.heap.size a' (n+m) (xs++ys)/\Below w.heap.size w w':=by
 cases oa with
 |none=>
  cases ob with
  |none=>exact TJ bs n m ca cb xs ys w h0 h1 hx hy hn hm
  |some b=>exact TI bs b n m ca cb xs ys w h0 h1 hx hy hn hm
 |some a=>
  cases ob with
  |none=>exact TH bs a n m ca cb xs ys w h0 h1 hx hy hn hm
  |some b=>exact LI bs a b n m ca cb xs ys w h0 h1 hx hy hn hm
end
