import Derived.RangeFuncRecord
import Derived.Test.YtgjpchnkodnieaaGreatDoorZ18
set_option maxHeartbeats 1000000
set_option linter.defProp false
namespace Go.Proofs.YtgjpchnkodnieaaGreatDoor
open Go.RowKit Tryz
def MY(c:Bool)(v1:Value)(a2:Option Addr)(n2 c2:Nat)(w:World):Calls prog 170 #[.agg #[.bool c,v1,.slice a2 n2 c2]] w fun e w'=>∃s,e=.returned (.agg #[.bool c,.slice (some ⟨s,0,none⟩) 1 1,.slice a2 n2 c2])/\w.heap.size<=s/\BA w' s [(n2:Int)]/\Below w.heap.size w w':=by
 have hB1:Ai ((w.alloc (.cells #[.bool c,v1,.slice a2 n2 c2] 25)).alloc (.cells #[.bool false,.slice none 0 0,.slice none 0 0] 25)) (w.heap.size+1) false (.slice none 0 0) (.slice none 0 0):=by have:=Ai.new (w.alloc (.cells #[.bool c,v1,.slice a2 n2 c2] 25)) false (.slice none 0 0) (.slice none 0 0);simpa using this
 have HB1:=AD hB1;clear hB1;obtain⟨W,hW⟩:∃W,W=(w.alloc (.cells #[.bool c,v1,.slice a2 n2 c2] 25)).alloc (.cells #[.bool false,.slice none 0 0,.slice none 0 0] 25):=⟨_,rfl⟩
 have hz:W.heap.size=w.heap.size+1+1:=by rw[hW];simp
 have HBL:Hid (Below w.heap.size w W):=by rw[hW];exact((AN _ w).alloc AC _).alloc (by simp) _
 have HX0:Hid (Ai W w.heap.size c v1 (.slice a2 n2 c2)):=by rw[hW];exact(Ai.new w _ _ _).alloc _
 rw[<-hW]at HB1;go_enter func170,ntmps170;go_upto_region 1 with fail;rw[<-hW];clear hW;obtain⟨p,hp⟩:∃p,p=W.heap.size:=⟨_,rfl⟩
 have hpw:w.heap.size+1<p:=by omega
 have DI:BA (W.alloc (.cells #[.int .i64 (n2:Nat)] 3)) p [(n2:Int)]:=by rw[hp];exact World.alloc_heap_new W _
 have HBK:=AD DI;have hbox:=HB1.out.alloc (.cells #[.int .i64 (n2:Nat)] 3);have HBX:=AD hbox;obtain⟨x0,x1,x2,x3,x4,x5⟩:=HX0.out.all;obtain⟨y0,y1,y2,y3,y4,y5⟩:=hbox.all;have HP:=AD hp;clear hz hp DI hbox;go_wp2_with fail;have hx:=HBX.out.sets (c':=c) (u1:=.slice (some ⟨W.heap.size,0,none⟩) 1 1) (u2:=.slice a2 n2 c2);obtain⟨q0,q1,q2,_,_,_⟩:=hx.all;refine bodyPost_ret (v:=.agg #[.bool c,.slice (some ⟨W.heap.size,0,none⟩) 1 1,.slice a2 n2 c2]) (by simp[results,results170,go_sem,q0,q1,q2]) rfl ?_;rw[<-HP.out];exact⟨p,rfl,by omega,((HBK.out.other (p:=⟨w.heap.size+1,0,none⟩) (by show p≠w.heap.size+1;omega) _).other (p:=⟨w.heap.size+1,1,none⟩) (by show p≠w.heap.size+1;omega) _).other (p:=⟨w.heap.size+1,2,none⟩) (by show p≠w.heap.size+1;omega) _,(((HBL.out.alloc (by rw[<-HP.out];omega) _).setCell (p:=⟨w.heap.size+1,0,none⟩) (by simp) _).setCell (p:=⟨w.heap.size+1,1,none⟩) (by simp) _).setCell (p:=⟨w.heap.size+1,2,none⟩) (by simp) _⟩
