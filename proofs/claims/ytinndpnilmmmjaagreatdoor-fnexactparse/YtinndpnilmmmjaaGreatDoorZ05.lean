import Derived.Test.YtinndpnilmmmjaaGreatDoorZ03
import Derived.Test.YtinndpnilmmmjaaGreatDoorZ02
import Derived.Shelf.Strconv.AtoiAll
import Derived.Test.YtinndpnilmmmjaaGreatDoorZ01
set_option maxRecDepth 100000
set_option maxHeartbeats 4000000
set_option linter.defProp false
namespace Go.Proofs.YtinndpnilmmmjaaGreatDoor
open Go.RowKit Tryz
def Uh{w:World}{B e size n:Nat}{v:Value}{xs:List Value}(h:w.ownsRow B e size v n xs):∀k,v.ownBlock=some k->B<=k:=by
 intro k hk;rcases h.2 with⟨h',_⟩|⟨g,cap,cur,h',hb,_⟩
 .rw[h']at hk;simp[Value.ownBlock]at hk
 .rw[h']at hk;simp[Value.ownBlock]at hk;omega
def uz(l:List UInt8):List Int:=l.map fun b=>((b.toNat:Nat):Int)
def O1(l:List UInt8):(uz l).length=l.length:=by unfold uz;simp
def Vv(l m:List UInt8):uz (l++m)=uz l++uz m:=by unfold uz;simp
def ao(s:AE):bz s=uz s.data.toList:=rfl
def LG(w:World)(s:AE):∃cap W1,(convert 9 33 (.string s)).run prog w=.ok (.slice (some ⟨w.heap.size,0,none⟩) s.size cap) W1/\s.size<=cap/\De W1 (some ⟨w.heap.size,0,none⟩) s.size (bz s)/\Below w.heap.size w W1/\w.heap.size<W1.heap.size:=by
 have h:=run_bytes_of_string (P:=prog) w 9 33 5 s underlying9 underlying33 underlying5;refine⟨_,_,h,grownCap_ge w _ 0 _,?_,(DP _ w).drew.alloc (by simp) _,by simp⟩;refine⟨cR s,.inr ⟨w.heap.size,0,rfl,by simp,fun i hi=> ?_⟩⟩;obtain⟨C,hC⟩:∃C,bytesRow s (grownCap w s.size 0 5)=C:=⟨_,rfl⟩
 have hCi:C[i]? =some (.int .u8 ((bz s).getD i 0)):=by
  rw[<-hC,IK hi];unfold bytesRow;have hi':i<s.data.size:=hi;have hsz:i<(s.data.map (fun b=>Value.int .u8 b.toNat)).size:=by simpa using hi'
  rw[Array.getElem?_append_left hsz,Nh hi,D1];rw[Array.getElem?_map,D3 hi'];rfl
 rw[hC];show(World.alloc _ _).cell? _=_;have hb:(w.drew.alloc (.cells C 5 (C.size,C.size+1))).heap[w.heap.size]? =some (.cells C 5 (C.size,C.size+1)):=by show(w.heap.push _)[w.heap.size]? =_;simp
 unfold World.cell?;rw[BY];show(match(w.drew.alloc (.cells C 5 (C.size,C.size+1))).heap[w.heap.size]? with|some (Obj.cells c _ _)=>c[i]?|_=>none)=_;rw[hb];exact hCi
def Jn{w:World}{b off cap:Nat}{l:List UInt8}(h:De w (some ⟨b,off,none⟩) l.length (uz l)):(convert 33 9 (.slice (some ⟨b,off,none⟩) l.length cap)).run prog w=.ok (.string ⟨l.toArray⟩) w:=by
 refine run_convert_bytes_back (P:=prog) w 33 9 5 ⟨b,off,none⟩ cap l underlying33 underlying5 underlying9 (fun j hj=> ?_);have h2:(⟨b,off,none⟩:Addr).add j=⟨b,off+j,none⟩:=by by_cases h:j=0<;>simp[Addr.add,h]
 rcases h.at_ with h0|⟨b',o',e,_,hc⟩
 .omega
 .cases e;rw[h2,hc j hj];simp[uz,hj]
def Kj{s:AE}{i:Nat}(h:i<s.size):i+(Am s i).2<=s.size/\(Am s i).2<=4:=by
 have hb:=GR s i;by_cases h1:bt s i<128
 .rw[Ig h1];exact⟨by simp;omega,by simp⟩
 .by_cases h2:bt s i<192\/248<=bt s i
  .rw[PF (by omega) h2];exact⟨by simp;omega,by simp⟩
  .by_cases h3:bt s i<224
   .rw[Mo (by omega) h3];split
    .rename_i h';have:=EL h'.1;exact⟨by simp;omega,by simp⟩
    .exact⟨by simp;omega,by simp⟩
   .by_cases h4:bt s i<240
    .rw[Mn (by omega) h4];split
     .rename_i h';have:=EL h'.2.1;exact⟨by simp;omega,by simp⟩
     .exact⟨by simp;omega,by simp⟩
    .rw[Mm (by omega) (by omega)];split
     .rename_i h';have:=EL h'.2.2.1;exact⟨by simp;omega,by simp⟩
     .exact⟨by simp;omega,by simp⟩
def De.piece{w:World}{b off:Nat}{s:AE}(h:De w (some ⟨b,off,none⟩) s.size (bz s)){i n:Nat}(hn:i+n<=s.size):De w (some ⟨b,off+i,none⟩) n (uz (s.extract i (i+n)).data.toList):=by
 have hl:(s.extract i (i+n)).data.toList.length=n:=by rw[Cq,CF,DO,<-Lib.size_eq];omega
 refine⟨by rw[O1,hl],?_⟩;by_cases h0:n=0
 .exact .inl h0
 .rcases h.at_ with h'|⟨b',o',e,hlt,hc⟩
  .omega
  .cases e;refine .inr ⟨b,_,rfl,hlt,fun k hk=> ?_⟩;rw[Ci,hc (i+k) (by omega),ao,Cq];unfold uz;have hik:i+k<s.data.toList.length:=by rw[<-Lib.size_eq];omega
   simp only[AP,BV,BN,Dw];rw[AL (by omega)]
def Ty(l:List UInt8):BU (uz l)=⟨l.toArray⟩:=by
 unfold BU uz;congr 2;rw[Do]
 conv=>rhs;rw[<-JY l]
 refine B8 fun b _=> ?_;show Nat.toUInt8 (Int.toNat (b.toNat:Int))=b;rw[CZ];exact UInt8.ofNat_toNat
def YV{l m:List Int}(hl:∀x∈l,0<=x/\x<256)(hm:∀x∈m,0<=x/\x<256)(h:BU l=BU m):l=m:=by
 have back:∀ {l:List Int},(∀x∈l,0<=x/\x<256)->uz (BU l).data.toList=l:=fun {l}hl=>by
  unfold uz BU;rw[Do]
  conv=>rhs;rw[<-JY l]
  refine B8 fun x hx=> ?_;have:=hl x hx;show(((x.toNat.toUInt8).toNat:Nat):Int)=x;rw[show x.toNat.toUInt8=UInt8.ofNat x.toNat from rfl,Fk (by simp[UInt8.size];omega)];omega
 rw[<-back hl,<-back hm,h]
def Ml{s:AE}{i:Nat}(h:i<s.size)(hn:0<(Am s i).2):uz (s.extract i (i+(Am s i).2)).data.toList=BW ((Am s i).1:Nat):=by
 have hb:=GR s i;have hl:i<s.data.toList.length:=by rw[<-Lib.size_eq];exact h
 have e0:=Cl h;rw[Cq];by_cases h1:bt s i<128
 .rw[Ig h1];simp only;rw[show i+1- i=0+1 by omega,EM hl];simp only[uz,Hl,En,FO,<-e0];unfold BW;rw[AL (by omega)]
 .by_cases h2:bt s i<192\/248<=bt s i
  .rw[PF (by omega) h2]at hn;simp at hn
  .by_cases h3:bt s i<224
   .have hr:=Mo (by omega) h3;by_cases hc:tl s (i+1)=true/\128<=v2 s i
    .rw[AL hc]at hr;have t1:=EL hc.1;have hl1:i+1<s.data.toList.length:=by rw[<-Lib.size_eq];exact t1.1
     have e1:=Cl t1.1;rw[hr];simp only;rw[show i+2- i=0+1+1 by omega,EM hl,EM hl1];simp only[uz,Hl,En,FO,<-e0,<-e1];have hv:v2 s i=bt s i % 32*64+bt s (i+1) % 64:=rfl;have hlt:v2 s i<2048:=by omega
     unfold BW;rw[AG (by omega),AL (by omega)];congr 1
     .omega
     .congr 1;omega
    .rw[AG hc]at hr;rw[hr]at hn;simp at hn
   .by_cases h4:bt s i<240
    .have hr:=Mn (by omega) h4;by_cases hc:tl s (i+1)=true/\tl s (i+2)=true/\2048<=v3 s i/\Utf8.valid (v3 s i:Nat)=true
     .rw[AL hc]at hr;have t1:=EL hc.1;have t2:=EL hc.2.1;have hl1:i+1<s.data.toList.length:=by rw[<-Lib.size_eq];exact t1.1
      have hl2:i+1+1<s.data.toList.length:=by rw[<-Lib.size_eq];exact t2.1
      have e1:=Cl t1.1;have e2:=Cl t2.1;rw[hr];simp only;rw[show i+3- i=0+1+1+1 by omega,EM hl,EM hl1,EM hl2];simp only[uz,Hl,En,FO,<-e0,<-e1,show i+1+1=i+2 from rfl,<-e2];have hv:v3 s i=bt s i % 16*4096+bt s (i+1) % 64*64+bt s (i+2) % 64:=rfl;have hlt:v3 s i<65536:=by omega
      have hge:=hc.2.2.1;unfold BW;rw[AG (by omega),AG (by omega),AL (by omega)];congr 1
      .omega
      .congr 1
       .omega
       .congr 1;omega
     .rw[AG hc]at hr;rw[hr]at hn;simp at hn
    .have hr:=Mm (by omega) (show bt s i<248 by omega);by_cases hc:tl s (i+1)=true/\tl s (i+2)=true/\tl s (i+3)=true/\65536<=v4 s i/\Utf8.valid (v4 s i:Nat)=true
     .rw[AL hc]at hr;have t1:=EL hc.1;have t2:=EL hc.2.1;have t3:=EL hc.2.2.1;have hl1:i+1<s.data.toList.length:=by rw[<-Lib.size_eq];exact t1.1
      have hl2:i+1+1<s.data.toList.length:=by rw[<-Lib.size_eq];exact t2.1
      have hl3:i+1+1+1<s.data.toList.length:=by rw[<-Lib.size_eq];exact t3.1
      have e1:=Cl t1.1;have e2:=Cl t2.1;have e3:=Cl t3.1;rw[hr];simp only;rw[show i+4- i=0+1+1+1+1 by omega,EM hl,EM hl1,EM hl2,EM hl3];simp only[uz,Hl,En,FO,<-e0,<-e1,show i+1+1=i+2 from rfl,<-e2,show i+2+1=i+3 from rfl,<-e3];have hv:v4 s i=bt s i % 8*262144+bt s (i+1) % 64*4096+bt s (i+2) % 64*64+bt s (i+3) % 64:=rfl;have hge:=hc.2.2.2.1;unfold BW;rw[AG (by omega),AG (by omega),AG (by omega)];congr 1
      .omega
      .congr 1
       .omega
       .congr 1
        .omega
        .congr 1;omega
     .rw[AG hc]at hr;rw[hr]at hn;simp at hn
def Lm{v:Nat}(h:v<=2097151):∀x∈BW (v:Int),0<=x/\x<256:=by
 unfold BW;intro x hx
 repeat' split at hx
 all_goals simp at hx
 all_goals omega
def YJ{v u:Nat}(hv:v<=2097151)(hu:u<=2097151)(h:BW (v:Int)=BW (u:Int)):v=u:=by
 unfold BW at h
 repeat' split at h
 all_goals simp at h
 all_goals omega
def FP:AE:=⟨(Ar.flatMap fun c=>((BW (c:Nat)).map fun x=>x.toNat.toUInt8)++ [32]).toArray⟩
def Qi(w:World):Calls prog 142 #[] w fun e w'=>e=.returned (.string FP)/\w'=w:=by
 have hs:∀x:AE,x=FP->Ending.returned (.string x)=.returned (.string FP):=fun x h=>by rw[h]
 go_enter func142,ntmps142
 go_wp2
 go_ret;exact⟨hs _ (by kernel_rfl),rfl⟩
def Lz(s:AE):Nat->Nat×List AE
 |0=>(0,[])
 |k+1=>if bt s k=32 then(k+1,(Lz s k).2++ [s.extract (Lz s k).1 k])else Lz s k
def SI(s:AE):∀k,(Lz s k).1<=k/\(Lz s k).2.length<=k
 |0=>by simp[Lz]
 |k+1=>by
  have ih:=SI s k;rw[Lz];split
  .simp;omega
  .omega
structure TC(w:World)(a:Option Addr)(n:Nat)(ps:List AE):Prop where
 len:ps.length=n
 at_:n=0\/∃b off,a=some ⟨b,off,none⟩/\b<w.heap.size/\∀i,i<n->w.cell? ⟨b,off+i,none⟩=some (.string (ps.getD i ⟨#[]⟩))
def TC.below{w w':World}{a:Option Addr}{n:Nat}{ps:List AE}{B:Nat}(h:TC w a n ps)(hB:w.heap.size<=B)(hb:Below B w w'):TC w' a n ps:=by
 refine⟨h.len,?_⟩;rcases h.at_ with h0|⟨b,off,rfl,hlt,hc⟩
 .exact .inl h0
 .exact .inr ⟨b,off,rfl,AX hlt hb.size,fun i hi=>(hb.cell (p:=⟨b,off+i,none⟩) (AX hlt hB)).trans (hc i hi)⟩
def Xu:(prog.info? 9).map (fun i=>(i.zero,i.size,i.bytes))=some (some (.string ⟨#[]⟩),1,16):=by kernel_rfl
structure GG(Q w:World)(g cap j:Nat)(ps:List AE):Prop where
 own:w.ownsRow Q.heap.size 9 1 (.slice (some ⟨g,0,none⟩) j cap) j (ps.map Value.string)
 low:Below Q.heap.size Q w
def GG.start(Q:World):GG Q (Q.alloc (.cells #[] 9)) Q.heap.size 0 0 []:=by refine⟨⟨by simp,.inr ⟨Q.heap.size,0,#[],rfl,AC,?_,by simp,by unfold maxLen;omega,by simp,by simp⟩⟩,AI.alloc AC _⟩;show(Q.heap.push _)[Q.heap.size]? =_;simp
def GG.below{Q w w':World}{g cap j:Nat}{ps:List AE}(h:GG Q w g cap j ps)(hb:Below w.heap.size w w'):GG Q w' g cap j ps:=⟨EW h.own AC hb,h.low.trans (hb.mono h.low.size)⟩
def GG.len{Q w:World}{g cap j:Nat}{ps:List AE}(h:GG Q w g cap j ps):ps.length=j:=by simpa using h.own.1
def GG.ge{Q w:World}{g cap j:Nat}{ps:List AE}(h:GG Q w g cap j ps):Q.heap.size<=g:=by
 rcases h.own.2 with⟨h',_⟩|⟨g',CW,cur,h',hb,_⟩
 .simp at h'
 .cases h';exact hb
def GG.push{Q w w1:World}{g cap j m g' CW:Nat}{ps qs:List AE}(h:GG Q w g cap j ps)(ET:w1.ownsRow Q.heap.size 9 1 (.slice (some ⟨g',0,none⟩) (j+m) CW) (j+m) (ps.map Value.string++qs.map Value.string))(hg:w.grownBy w1 (Value.ownBlock (.slice (some ⟨g,0,none⟩) j cap))):GG Q w1 g' CW (j+m) (ps++qs):=by have hge:=h.ge;refine⟨by rw[Ao];exact ET,⟨hg.os.trans h.low.os,hg.tape.trans h.low.tape,hg.output.trans h.low.output,Aw h.low.size hg.size,fun k hk=>(hg.block k (by have:=h.low.size;omega) (fun e=>by have:=(Ac e:k=g);omega)).trans (h.low.block k hk)⟩⟩
def GG.row{Q w:World}{g cap j:Nat}{ps:List AE}(h:GG Q w g cap j ps):TC w (some ⟨g,0,none⟩) j ps:=by
 refine⟨h.len,?_⟩;rcases h.own.2 with⟨h',_⟩|⟨g',CW,cur,h',_,hg,_,_,hcs,ht⟩
 .simp at h'
 .cases h';refine .inr ⟨g,0,rfl,lt_of_block hg,fun i hi=> ?_⟩;have hl:=h.len;have e:cur.toList[i]? =some (.string (ps.getD i ⟨#[]⟩)):=by
   have:(cur.toList.take (j*1))[i]? =(ps.map Value.string)[i]? :=by rw[ht]
   rw[BN,AL (by omega)]at this;rw[this];simp[hl,hi]
  simpa[World.cell?,hg]using e
def ba(w:World)(x:AE):∀(j:Nat)u,([x].map Value.string)[j]? =some u->(w.alloc (.cells #[.string x] 9)).cell? ((⟨w.heap.size,0,none⟩:Addr).add j)=some u:=by
 intro j u hj;have hj0:j=0:=by have:=(DK.1 hj).1;simpa using this
 subst hj0;simp at hj;subst hj;have h2:(⟨w.heap.size,0,none⟩:Addr).add 0=⟨w.heap.size,0,none⟩:=by simp[Addr.add]
 rw[h2];have hb:(w.alloc (.cells #[.string x] 9)).heap[w.heap.size]? =some (.cells #[.string x] 9):=by show(w.heap.push _)[w.heap.size]? =_;simp
 obtain⟨W,hW⟩:∃W,w.alloc (.cells #[.string x] 9)=W:=⟨_,rfl⟩
 rw[hW]at hb ⊢;simp[World.cell?,hb]
def W6(ps:List AE):∀u∈ps.map Value.string,u.oneCell'=true:=by intro u hu;obtain⟨x,_,rfl⟩:=DT.1 hu;rfl
def PG{s:AE}{p q:Nat}(h1:p<=q)(h2:q<=s.size)(W:World):(Instr.slice 9 (.string s) (some (.int .i64 (p:Nat))) (some (.int .i64 (q:Nat))) none).run prog W=.ok (.string (s.extract p q)) W:=by
 have h3:(q:Int)<=(s.size:Int):=by omega
 have h4:(p:Int)<=(q:Int):=by omega
 go_simp
def Jq(w:World)(ps:List AE)(e:Ending)(w':World):Prop:=∃g cap,e=.returned (.slice (some ⟨g,0,none⟩) ps.length cap)/\TC w' (some ⟨g,0,none⟩) ps.length ps/\Below w.heap.size w w'
def NF(s:AE)(w:World)(hs:s.size<=100000):Calls prog 141 #[.string s] w (Jq w (Lz s s.size).2):=by
 obtain⟨i0,hi,hz0,hz1,hz2⟩:=info_parts Xu;have HG0:=AB (GG.start w);go_enter func141,ntmps141;go_wp2_with fail;go_loopw[3,4,5] (fun u fr i wr=>∃(k g cp:Nat),u=.slice (some ⟨g,0,none⟩) (Lz s k).2.length cp/\fr=.int .i64 ((Lz s k).1:Nat)/\i=.int .i64 (k:Nat)/\k<=s.size/\Hid (GG w wr g cp (Lz s k).2.length (Lz s k).2)) (fun _ _ i _=>s.size- (intOf i).toNat);case atStart=>exact⟨0,w.heap.size,0,rfl,rfl,rfl,AZ _,HG0⟩
 case round=>
  obtain⟨k,g,cp,rfl,rfl,rfl,hk,HG⟩:=hrel;clear HG0;have hpl:=SI s k;obtain⟨ps,hps⟩:∃p,(Lz s k).2=p:=⟨_,rfl⟩
  obtain⟨fr,hfr⟩:∃p,(Lz s k).1=p:=⟨_,rfl⟩
  rw[hps,hfr]at hpl;rw[hps]at HG ⊢;rw[hfr];have HPS:=AB hps;have HFR:=AB hfr;have hnl:∃n,ps.length=n:=⟨_,rfl⟩
  obtain⟨n,hn⟩:=hnl;rw[hn]at hpl HG ⊢;have HN:=AB hn;clear hps hfr hn;by_cases hlt:k<s.size
  .have Fr:(k:Int)<(s.size:Int):=by omega
   have hix:=fun W=>C5 hlt W;obtain⟨y,hy⟩:∃y,bt s k=y:=⟨_,rfl⟩
   rw[hy]at hix;have HY:=AB hy;clear hy;by_cases h32:y=32
   .subst h32;have HP:Hid (Lz s (k+1)=(k+1,ps++ [s.extract fr k])):=by show _=_;rw[Lz,AL (AA HY),AA HPS,AA HFR]
    have hsl:=fun W=>PG (s:=s) (p:=fr) (q:=k) hpl.1 hk W;obtain⟨x,hx⟩:∃x,s.extract fr k=x:=⟨_,rfl⟩
    rw[hx]at hsl HP;have hgz:=(AA HG).low.size;clear hx;go_wp2_with(at_builtin;refine wpList_append_lies _ rfl _ _ 99 rfl w.heap.size 9 i0 (.string ⟨#[]⟩) 1 16 underlying99 hi hz0 hz1 hz2 rfl (by decide) _ _ _ rfl ((AA HG).below (AI.alloc AC _)).own ⟨wr.heap.size,0,none⟩ 1 1 ([x].map Value.string) rfl rfl (ba wr x) (W6 _) (by omega) (by unfold maxLen;omega) (by omega) (by simp;omega) (wr.heap.size+1) (by simp) ?_;intro g' CW w7 A2 Au hat Cu;have HF7:=AB (GG.push ((AA HG).below (AI.alloc AC _)) A2 Au);clear Au hat A2 Cu);go_roundw;case rel=>
     refine⟨k+1,g',CW,?_,?_,by go_num,by omega,?_⟩
     .rw[AA HP];simp[AA HN]
     .rw[AA HP];go_num
     .show GG _ _ _ _ _ _;rw[AA HP];simp only[AH,AA HN];exact AA HF7
    case measure=>simp[intOf];omega
   .have h32i:¬(y:Int)=32:=by omega
    have HP:Hid (Lz s (k+1)=Lz s k):=by show _=_;rw[Lz,AG (by rw[AA HY];exact h32)]
    go_wp2_with fail;go_roundw;case rel=>
     refine⟨k+1,g,cp,?_,?_,by go_num,by omega,?_⟩
     .rw[AA HP,AA HPS,AA HN]
     .rw[AA HP,AA HFR]
     .show GG _ _ _ _ _ _;rw[AA HP,AA HPS,AA HN];exact AA HG
    case measure=>simp[intOf];omega
  .have Fr:¬(k:Int)<(s.size:Int):=by omega
   obtain rfl:k=s.size:=by omega
   go_wp2_with fail;go_ret;refine⟨g,cp,?_,?_,(AA HG).low⟩
   .rw[AA HPS,AA HN];rfl
   .rw[AA HPS,AA HN];exact(AA HG).row
def NG(a:Option Addr)(n cap:Nat)(ps:List AE)(x:AE)(w:World)(h:TC w a n ps)(hn:n<=100000):Calls prog 140 #[.slice a n cap,.string x] w fun e w'=>e=.returned (.bool (ps.any fun p=>p.toList==x.toList))/\w'=w:=by
 have Ae:=AB h.len;have H:=AB h;clear h;go_enter func140,ntmps140;go_wp2_with fail
 go_loop [5] (fun i=>∃k:Nat,k<=n/\i=.int .i64 k/\Hid ((ps.take k).any (fun p=>p.toList==x.toList)=false)) (fun i=>n- (intOf i).toNat)
 case atStart=>exact⟨0,AZ _,rfl,rfl⟩
 case round=>
  obtain⟨k,hk,rfl,HA⟩:=hrel;by_cases hlt:k<n
  .have Fr:(k:Int)<(n:Int):=by omega
   obtain⟨b,off,e,hc⟩:∃b off,a=some ⟨b,off,none⟩/\w.cell? ⟨b,off+k,none⟩=some (.string (ps.getD k ⟨#[]⟩)):=by
    rcases(AA H).at_ with h0|⟨b,off,e,_,hc⟩
    .omega
    .exact⟨b,off,e,hc k hlt⟩
   subst e;have hkl:k<ps.length:=by rw[AA Ae];exact hlt
   have htk:ps.take (k+1)=ps.take k++ [ps.getD k ⟨#[]⟩]:=by rw[A9 hkl];simp[hkl]
   have hmem:ps.getD k ⟨#[]⟩∈ps:=by simp[hkl]
   obtain⟨y,hy⟩:∃y,ps.getD k ⟨#[]⟩=y:=⟨_,rfl⟩
   rw[hy]at hc htk hmem;cases hq:(y.toList==x.toList)with
   |true=>
    have HE:Hid ((ps.any fun p=>p.toList==x.toList)=true):=List.any_eq_true.2 ⟨y,hmem,hq⟩;have HQ:=AB hq;clear htk hmem hy;go_wp2_with fail;go_ret;exact⟨AN (AA HE).symm,rfl⟩
   |false=>
    have HA2:Hid ((ps.take (k+1)).any (fun p=>p.toList==x.toList)=false):=by show _=_;rw[htk,List.any_append,AA HA];simp[hq]
    clear htk hmem hy;go_wp2_with fail
    go_round
    case rel=>exact⟨k+1,by omega,by go_num,HA2⟩
    case measure=>simp[intOf];omega
  .have Fr:¬(k:Int)<(n:Int):=by omega
   have HE:Hid ((ps.any fun p=>p.toList==x.toList)=false):=by
    have:=AA HA
    rwa [AO (by rw[AA Ae];omega)]at this
   go_wp2_with fail;go_ret;exact⟨AN (AA HE).symm,rfl⟩
def PB:(Lz FP FP.size).2=Ar.map fun c=>BU (BW (c:Nat)):=by kernel_rfl
def OP:FP.size<=100000:=by
 have:decide (FP.size<=100000)=true:=by kernel_rfl
 exact AT this
def OQ:∀c∈Ar,c<=2097151:=by
 have:(Ar.all fun c=>decide (c<=2097151))=true:=by kernel_rfl
 intro c hc;exact AT (Ax.1 this c hc)
def WH{s:AE}{i:Nat}(h:i<s.size)(hn:0<(Am s i).2)(hv:(Am s i).1<=2097151):((Lz FP FP.size).2.any fun p=>p.toList==(s.extract i (i+(Am s i).2)).toList)=decide ((Am s i).1∈Ar):=by
 have hb:=Ml h hn;have hx:s.extract i (i+(Am s i).2)=BU (BW ((Am s i).1:Nat)):=by rw[<-hb,Ty]
 rw[hx,PB,List.any_map];by_cases hm:(Am s i).1∈Ar
 .rw[AK hm];exact List.any_eq_true.2 ⟨_,hm,by simp⟩
 .rw[AD hm,List.any_eq_false];intro c hc he;have h1:(BU (BW (c:Nat))).toList=(BU (BW ((Am s i).1:Nat))).toList:=by simpa using he
  rw[Lib.toList_data,Lib.toList_data]at h1;have h2:BU (BW (c:Nat))=BU (BW ((Am s i).1:Nat)):=CJ (CI.1 h1);have h3:=YJ (OQ c hc) hv (YV (Lm (OQ c hc)) (Lm hv) h2);exact hm (h3▸hc)
def Yj(w:World)(x:AE)(T:Bool)(n:Nat)(e:Ending)(w':World):Prop:=∃g cl,e=.returned (.slice (some ⟨g,0,none⟩) n cl)/\(∀W,Below w'.heap.size w' W->Calls prog 140 #[.slice (some ⟨g,0,none⟩) n cl,.string x] W fun e w''=>e=.returned (.bool T)/\w''=W)/\Below w.heap.size w w'
section
variable {o:Oper}{a:Act}{ops:Array Oper}
def Hw(h:o.guard=none):Region.wanted o (yielded ops a.tmps)=true:=by simp[Region.wanted,h]
def FC{j slot:Nat}(hg:o.guard=some (j,true))(hj:(ops[j]?).bind (·.dst)=some slot)(hv:a.eval (.tmp slot)=.bool true)(hs:slot<a.tmps.size):Region.wanted o (yielded ops a.tmps)=true:=by
 have h1:a.tmps[slot]? =some (.bool true):=by
  have:a.tmps[slot]?.getD undef=.bool true:=by simpa[Act.eval]using hv
  rw[D3 hs]at this ⊢;simpa using this
 unfold Region.wanted yielded;simp[hg,hj,h1]
def EB{P:Program}{Q:Exit->Act->World->Prop}{md:Region.Mode}{S:World->Prop}(i d:Nat)(v:Value){oi:Oper}{fuel:Nat}{listed:Array Bool}{w:World}(hi:ops[i]? =some oi)(hd:oi.dst=some d)(hs:Region.noSelect ops=true)(hf:Region.free md ops listed i=true)(hr:(Region.ready md ops listed).contains i=true)(hQ:∀c a(d:Nat)v w,Q (.panic c) (a.put (some d) v) w->Q (.panic c) a w)(hg:Region.wanted oi (yielded ops a.tmps)=true)(hy:∀w,S w->(execOp a.eval oi).run P w=.ok (.value v) w)(hS:S w)(h:wpAnyH P md ops Q S fuel (listed.setIfInBounds i true) (a.put (some d) v) w):wpAnyH P md ops Q S (fuel+1) listed a w:=wpAnyH_take hi hs hf hr (fun c a w h=>by rw[hd]at h;exact hQ c a d v w h) (Or.inl ⟨hg,hy⟩) hS (by rw[hd];exact h)
def Ri{P:Program}{Q:Exit->Act->World->Prop}{md:Region.Mode}{S:World->Prop}{i fuel:Nat}{listed:Array Bool}{w:World}(hr:Region.ready md ops listed= [i])(h:wpOp P ops Q i (fun a' w'=>S w'/\wpAnyH P md ops Q S fuel (listed.setIfInBounds i true) a' w') a w):wpAnyH P md ops Q S (fuel+1) listed a w:=wpAnyH_all hr (by simp) (fun j hj=>by
  have e:j=i:=by simpa using hj
  rw[e];exact h)
def W5{P:Program}{Q:Exit->Act->World->Prop}{K:Act->World->Prop}{w:World}{i d f:Nat}{args:Array Value}{R:Ending->World->Prop}(hi:ops[i]? =some o)(hd:o.dst=some d)(hg:Region.wanted o (yielded ops a.tmps)=true)(he:(execOp a.eval o).run P w=.ok (.enter f args) w)(hc:Calls P f args w R)(hno:∀e w',R e w'->∃v,e=.returned v)(h:∀v w',R (.returned v) w'->K (a.put (some d) v) w'):wpOp P ops Q i K a w:=by refine dN hi hg ?_;unfold Oper.wp;rw[he];show Calls _ _ _ _ _;refine hc.mono ?_;rintro e w' hr;obtain⟨v,rfl⟩:=hno _ _ hr;show K (a.put o.dst v) w';rw[hd];exact h v w' hr
def I5{P:Program}{Q:Exit->Act->World->Prop}{md:Region.Mode}{fuel:Nat}{listed:Array Bool}{w:World}{i d f:Nat}{args:Array Value}{R:Ending->World->Prop}(hr:Region.ready md ops listed= [i])(hi:ops[i]? =some o)(hd:o.dst=some d)(hg:Region.wanted o (yielded ops a.tmps)=true)(he:(execOp a.eval o).run P w=.ok (.enter f args) w)(hc:Calls P f args w R)(hno:∀e w',R e w'->∃v,e=.returned v)(h:∀v w',R (.returned v) w'->wpAnyH P md ops Q (fun _=>True) fuel (listed.setIfInBounds i true) (a.put (some d) v) w'):wpAnyH P md ops Q (fun _=>True) (fuel+1) listed a w:=Ri hr (W5 hi hd hg he hc hno (fun v w' hv=>⟨trivial,h v w' hv⟩))
def cg(x:Operand){v:Value}(ho:o.op=.move x)(hx:a.eval x=v)(w:World):(execOp a.eval o).run prog w=.ok (.value v) w:=by
 unfold execOp;simp only[ho,hx]
 go_simp
def fI(x:Operand){n:Nat}(ho:o.op=.binOp .gtr 3 x (.const (.int .i64 0)) 3)(hx:a.eval x=.int .i64 (n:Nat))(hn:0<n)(w:World):(execOp a.eval o).run prog w=.ok (.value (.bool true)) w:=by
 have h1:(0:Int)<(n:Int):=by omega
 unfold execOp;simp only[ho,hx]
 go_simp
def fJ(x y:Operand){i j k:Nat}(ho:o.op=.binOp .add 3 x y 3)(hx:a.eval x=.int .i64 (i:Nat))(hy:a.eval y=.int .i64 (j:Nat))(hk:IntKind.i64.wrap ((i:Int)+(j:Int))=(k:Nat))(w:World):(execOp a.eval o).run prog w=.ok (.value (.int .i64 (k:Nat))) w:=by
 unfold execOp;simp only[ho,hx,hy]
 go_simp
def eQ(x y z:Operand){s t:AE}{i k:Nat}(ho:o.op=.slice 9 x (some y) (some z) none)(hx:a.eval x=.string s)(hy:a.eval y=.int .i64 (i:Nat))(hz:a.eval z=.int .i64 (k:Nat))(hsl:∀W,(Instr.slice 9 (.string s) (some (.int .i64 (i:Nat))) (some (.int .i64 (k:Nat))) none).run prog W=.ok (.string t) W)(w:World):(execOp a.eval o).run prog w=.ok (.value (.string t)) w:=by
 unfold execOp;simp only[ho,hx,hy,hz,Gt,Option.map_none];have:=hsl w
 go_simp
def fH(x y:Operand){T:Bool}(ho:o.op=.pick x y (.const (.bool false)))(hx:a.eval x=.bool true)(hy:a.eval y=.bool T)(w:World):(execOp a.eval o).run prog w=.ok (.value (.bool T)) w:=by
 unfold execOp;simp only[ho,hx,hy]
 go_simp
def eT{w:World}(ho:o.op=.call {callee:=.value (.func 142),args:= #[],argTypes:= #[]}):(execOp a.eval o).run prog w=.ok (.enter 142 #[]) w:=by
 unfold execOp;simp only[ho]
 go_simp
def eS{w:World}{v:Value}{t:Nat}(ho:o.op=.call {callee:=.value (.func 141),args:= #[.tmp t],argTypes:= #[9]})(hx:a.eval (.tmp t)=v):(execOp a.eval o).run prog w=.ok (.enter 141 #[v]) w:=by
 have hx':a.tmps[t]?.getD undef=v:=by simpa[Act.eval]using hx
 unfold execOp;simp only[ho]
 go_simp
def eR{w:World}{v u:Value}{t q:Nat}(ho:o.op=.call {callee:=.value (.func 140),args:= #[.tmp t,.tmp q],argTypes:= #[99,9]})(hx:a.eval (.tmp t)=v)(hy:a.eval (.tmp q)=u):(execOp a.eval o).run prog w=.ok (.enter 140 #[v,u]) w:=by
 have hx':a.tmps[t]?.getD undef=v:=by simpa[Act.eval]using hx
 have hy':a.tmps[q]?.getD undef=u:=by simpa[Act.eval]using hy
 unfold execOp;simp only[ho]
 go_simp
end
def dX:Oper:= {dst:=some 70,op:=Op.move (Operand.tmp 7),type:=3,pos:= "l1_text.go:193",after:= #[],guard:=none}
def dW:Oper:= {dst:=some 71,op:=Op.binOp BinOp.gtr 3 (Operand.tmp 70) (Operand.const (Value.int IntKind.i64 0)) 3,type:=4,pos:= "l1_text.go:193",after:= #[{on:=0,ground:=Ground.data}],guard:=none}
def dV:Oper:= {dst:=some 72,op:=Op.move (Operand.tmp 71),type:=4,pos:= "l1_text.go:193",after:= #[{on:=1,ground:=Ground.data}],guard:=none}
def dU:Oper:= {dst:=some 73,op:=Op.call {callee:=Callee.value (Operand.func 142),args:= #[],argTypes:= #[]},type:=9,pos:= "l1_text.go:193",after:= #[{on:=2,ground:=Ground.chain},{on:=2,ground:=Ground.guard}],guard:=some (2,true)}
def dT:Oper:= {dst:=some 74,op:=Op.call {callee:=Callee.value (Operand.func 141),args:= #[Operand.tmp 73],argTypes:= #[9]},type:=99,pos:= "l1_text.go:193",after:= #[{on:=3,ground:=Ground.data},{on:=3,ground:=Ground.chain},{on:=2,ground:=Ground.guard}],guard:=some (2,true)}
def dS:Oper:= {dst:=some 75,op:=Op.move (Operand.tmp 0),type:=9,pos:= "l1_text.go:193",after:= #[{on:=2,ground:=Ground.guard}],guard:=some (2,true)}
def dR:Oper:= {dst:=some 76,op:=Op.move (Operand.tmp 1),type:=3,pos:= "l1_text.go:193",after:= #[{on:=2,ground:=Ground.guard}],guard:=some (2,true)}
def dQ:Oper:= {dst:=some 77,op:=Op.move (Operand.tmp 1),type:=3,pos:= "l1_text.go:193",after:= #[{on:=2,ground:=Ground.guard}],guard:=some (2,true)}
def dP:Oper:= {dst:=some 78,op:=Op.move (Operand.tmp 7),type:=3,pos:= "l1_text.go:193",after:= #[{on:=2,ground:=Ground.guard}],guard:=some (2,true)}
def dO:Oper:= {dst:=some 79,op:=Op.binOp BinOp.add 3 (Operand.tmp 77) (Operand.tmp 78) 3,type:=3,pos:= "l1_text.go:193",after:= #[{on:=7,ground:=Ground.data},{on:=8,ground:=Ground.data},{on:=2,ground:=Ground.guard}],guard:=some (2,true)}
def aZ:Oper:= {dst:=some 80,op:=Op.slice 9 (Operand.tmp 75) (some (Operand.tmp 76)) (some (Operand.tmp 79)) none,type:=9,pos:= "l1_text.go:193",after:= #[{on:=5,ground:=Ground.data},{on:=6,ground:=Ground.data},{on:=9,ground:=Ground.data},{on:=2,ground:=Ground.guard}],guard:=some (2,true)}
def aY:Oper:= {dst:=some 81,op:=Op.call {callee:=Callee.value (Operand.func 140),args:= #[Operand.tmp 74,Operand.tmp 80],argTypes:= #[99,9]},type:=4,pos:= "l1_text.go:193",after:= #[{on:=4,ground:=Ground.data},{on:=10,ground:=Ground.data},{on:=4,ground:=Ground.chain},{on:=2,ground:=Ground.guard}],guard:=some (2,true)}
def aX:Oper:= {dst:=some 82,op:=Op.pick (Operand.tmp 72) (Operand.tmp 81) (Operand.const (Value.bool false)),type:=4,pos:= "l1_text.go:193",after:= #[{on:=2,ground:=Ground.data},{on:=11,ground:=Ground.data}],guard:=none}
def eV:Array Oper:= #[dX,dW,dV,dU,dT,dS,dR,dQ,dP,dO,aZ,aY,aX]
def dI(a:Act)(s x SG:AE)(i rn e0 nl g cl:Nat)(T:Bool):Act:=(((((((((((((a.put (some 70) (.int .i64 (rn:Nat))).put (some 71) (.bool true)).put (some 72) (.bool true)).put (some 75) (.string s)).put (some 76) (.int .i64 (i:Nat))).put (some 77) (.int .i64 (i:Nat))).put (some 78) (.int .i64 (rn:Nat))).put (some 79) (.int .i64 (e0:Nat))).put (some 80) (.string x)).put (some 73) (.string SG)).put (some 74) (.slice (some ⟨g,0,none⟩) nl cl)).put (some 81) (.bool T)).put (some 82) (.bool T))
def ZP{Q:Exit->Act->World->Prop}(a:Act)(W:World)(hsz:95<=a.tmps.size)(s x SG:AE)(i rn e0 nl:Nat)(T:Bool)(h0:a.eval (.tmp 0)=.string s)(h1:a.eval (.tmp 1)=.int .i64 (i:Nat))(h7:a.eval (.tmp 7)=.int .i64 (rn:Nat))(hpos:0<rn)(hadd:IntKind.i64.wrap ((i:Int)+(rn:Int))=(e0:Nat))(hsl:∀W,(Instr.slice 9 (.string s) (some (.int .i64 (i:Nat))) (some (.int .i64 (e0:Nat))) none).run prog W=.ok (.string x) W)(HSG:∀W,Calls prog 142 #[] W fun e w'=>e=.returned (.string SG)/\w'=W)(HLI:∀W,Calls prog 141 #[.string SG] W (Yj W x T nl))(hQ:∀c a(d:Nat)v w,Q (.panic c) (a.put (some d) v) w->Q (.panic c) a w)(hend:∀g cl w',Below W.heap.size W w'->Q .normal (dI a s x SG i rn e0 nl g cl T) w'):(Code.region 13 eV true).wp prog Q a W:=by refine wp_region_held (S:=fun _=>True) (by kernel_rfl) ?_;show wpAnyH _ _ _ _ _ (12+1) _ _ _;refine EB 0 70 (.int .i64 (rn:Nat)) (oi:=dX) rfl rfl (by kernel_rfl) (by kernel_rfl) (by kernel_rfl) hQ (Hw rfl) (fun w _=>cg (.tmp 7) rfl h7 w) trivial ?_;refine EB 1 71 (.bool true) (oi:=dW) rfl rfl (by kernel_rfl) (by kernel_rfl) (by kernel_rfl) hQ (Hw rfl) (fun w _=>fI (.tmp 70) rfl (DS (by omega)) hpos w) trivial ?_;refine EB 2 72 (.bool true) (oi:=dV) rfl rfl (by kernel_rfl) (by kernel_rfl) (by kernel_rfl) hQ (Hw rfl) (fun w _=>cg (.tmp 71) rfl (DS (by rw[AU];omega)) w) trivial ?_;refine EB 5 75 (.string s) (oi:=dS) rfl rfl (by kernel_rfl) (by kernel_rfl) (by kernel_rfl) hQ (FC rfl rfl (DS (by rw[AU,AU];omega)) (by rw[AU,AU,AU];omega)) (fun w _=>cg (.tmp 0) rfl (by rw[Aq (by decide),Aq (by decide),Aq (by decide)];exact h0) w) trivial ?_;refine EB 6 76 (.int .i64 (i:Nat)) (oi:=dR) rfl rfl (by kernel_rfl) (by kernel_rfl) (by kernel_rfl) hQ (FC rfl rfl (by rw[Aq (by decide)];exact DS (by rw[AU,AU];omega)) (by rw[AU,AU,AU,AU];omega)) (fun w _=>cg (.tmp 1) rfl (by rw[Aq (by decide),Aq (by decide),Aq (by decide),Aq (by decide)];exact h1) w) trivial ?_;refine EB 7 77 (.int .i64 (i:Nat)) (oi:=dQ) rfl rfl (by kernel_rfl) (by kernel_rfl) (by kernel_rfl) hQ (FC rfl rfl (by rw[Aq (by decide),Aq (by decide)];exact DS (by rw[AU,AU];omega)) (by rw[AU,AU,AU,AU,AU];omega)) (fun w _=>cg (.tmp 1) rfl (by rw[Aq (by decide),Aq (by decide),Aq (by decide),Aq (by decide),Aq (by decide)];exact h1) w) trivial ?_;refine EB 8 78 (.int .i64 (rn:Nat)) (oi:=dP) rfl rfl (by kernel_rfl) (by kernel_rfl) (by kernel_rfl) hQ (FC rfl rfl (by rw[Aq (by decide),Aq (by decide),Aq (by decide)];exact DS (by rw[AU,AU];omega)) (by rw[AU,AU,AU,AU,AU,AU];omega)) (fun w _=>cg (.tmp 7) rfl (by rw[Aq (by decide),Aq (by decide),Aq (by decide),Aq (by decide),Aq (by decide),Aq (by decide)];exact h7) w) trivial ?_;refine EB 9 79 (.int .i64 (e0:Nat)) (oi:=dO) rfl rfl (by kernel_rfl) (by kernel_rfl) (by kernel_rfl) hQ (FC rfl rfl (by rw[Aq (by decide),Aq (by decide),Aq (by decide),Aq (by decide)];exact DS (by rw[AU,AU];omega)) (by rw[AU,AU,AU,AU,AU,AU,AU];omega)) (fun w _=>fJ (.tmp 77) (.tmp 78) rfl (by rw[Aq (by decide)];exact DS (by rw[AU,AU,AU,AU,AU];omega)) (DS (by rw[AU,AU,AU,AU,AU,AU];omega)) hadd w) trivial ?_;refine EB 10 80 (.string x) (oi:=aZ) rfl rfl (by kernel_rfl) (by kernel_rfl) (by kernel_rfl) hQ (FC rfl rfl (by rw[Aq (by decide),Aq (by decide),Aq (by decide),Aq (by decide),Aq (by decide)];exact DS (by rw[AU,AU];omega)) (by rw[AU,AU,AU,AU,AU,AU,AU,AU];omega)) (fun w _=>eQ (.tmp 75) (.tmp 76) (.tmp 79) rfl (by rw[Aq (by decide),Aq (by decide),Aq (by decide),Aq (by decide)];exact DS (by rw[AU,AU,AU];omega)) (by rw[Aq (by decide),Aq (by decide),Aq (by decide)];exact DS (by rw[AU,AU,AU,AU];omega)) (DS (by rw[AU,AU,AU,AU,AU,AU,AU];omega)) hsl w) trivial ?_;refine I5 (i:=3) (o:=dU) (d:=73) (by kernel_rfl) rfl rfl (FC rfl rfl (by rw[Aq (by decide),Aq (by decide),Aq (by decide),Aq (by decide),Aq (by decide),Aq (by decide)];exact DS (by rw[AU,AU];omega)) (by rw[AU,AU,AU,AU,AU,AU,AU,AU,AU];omega)) (eT rfl) (HSG _) (by rintro e w'⟨rfl,_⟩;exact⟨_,rfl⟩) ?_;rintro v w6⟨hv,hw6⟩;cases hv;subst hw6;refine I5 (i:=4) (o:=dT) (d:=74) (by kernel_rfl) rfl rfl (FC rfl rfl (by rw[Aq (by decide),Aq (by decide),Aq (by decide),Aq (by decide),Aq (by decide),Aq (by decide),Aq (by decide)];exact DS (by rw[AU,AU];omega)) (by rw[AU,AU,AU,AU,AU,AU,AU,AU,AU,AU];omega)) (eS rfl (DS (by rw[AU,AU,AU,AU,AU,AU,AU,AU,AU];omega))) (HLI _) (by rintro e w'⟨g,cl,rfl,_⟩;exact⟨_,rfl⟩) ?_;rintro v w7⟨g,cl,hv,hin,hb7⟩;cases hv;refine I5 (i:=11) (o:=aY) (d:=81) (by kernel_rfl) rfl rfl (FC rfl rfl (by rw[Aq (by decide),Aq (by decide),Aq (by decide),Aq (by decide),Aq (by decide),Aq (by decide),Aq (by decide),Aq (by decide)];exact DS (by rw[AU,AU];omega)) (by rw[AU,AU,AU,AU,AU,AU,AU,AU,AU,AU,AU];omega)) (eR rfl (DS (by rw[AU,AU,AU,AU,AU,AU,AU,AU,AU,AU];omega)) (by rw[Aq (by decide),Aq (by decide)];exact DS (by rw[AU,AU,AU,AU,AU,AU,AU,AU];omega))) (hin _ AI) (by rintro e w'⟨rfl,_⟩;exact⟨_,rfl⟩) ?_;rintro v w8⟨hv,hw8⟩;cases hv;subst hw8;refine EB 12 82 (.bool T) (oi:=aX) rfl rfl (by kernel_rfl) (by kernel_rfl) (by kernel_rfl) hQ (Hw rfl) (fun w _=>fH (.tmp 72) (.tmp 81) rfl (by rw[Aq (by decide),Aq (by decide),Aq (by decide),Aq (by decide),Aq (by decide),Aq (by decide),Aq (by decide),Aq (by decide),Aq (by decide)];exact DS (by rw[AU,AU];omega)) (DS (by rw[AU,AU,AU,AU,AU,AU,AU,AU,AU,AU,AU];omega)) w) trivial ?_;refine wpAnyH_done (by kernel_rfl) ?_ _;exact hend g cl _ ((DP _ W).drew.trans hb7)
def D9(w:World)(p:Nat)(v0 v1 v2 v3:Value):Prop:=w.heap[p]? =some (.cells #[v0,v1,v2,v3] 64 (0,0))
def D9.all{w:World}{p:Nat}{v0 v1 v2 v3:Value}(h:D9 w p v0 v1 v2 v3):w.cell? ⟨p,0,none⟩=some v0/\w.cell? ⟨p,1,none⟩=some v1/\w.cell? ⟨p,2,none⟩=some v2/\w.cell? ⟨p,3,none⟩=some v3/\w.frozen? ⟨p,0,none⟩=false/\w.frozen? ⟨p,1,none⟩=false/\w.frozen? ⟨p,2,none⟩=false/\w.frozen? ⟨p,3,none⟩=false:=by unfold D9 at h;refine⟨?_,?_,?_,?_,BJ w p 0 _ _ h,BJ w p 1 _ _ h,BJ w p 2 _ _ h,BJ w p 3 _ _ h⟩<;>simp[World.cell?,h]
def D9.lt{w:World}{p:Nat}{v0 v1 v2 v3:Value}(h:D9 w p v0 v1 v2 v3):p<w.heap.size:=lt_of_block h
def D9.below{w w':World}{p B:Nat}{v0 v1 v2 v3:Value}(h:D9 w p v0 v1 v2 v3)(hB:w.heap.size<=B)(hb:Below B w w'):D9 w' p v0 v1 v2 v3:=(hb.block p (AX h.lt hB)).trans h
def D9.new(w:World)(v0 v1 v2 v3:Value):D9 (w.alloc (.cells #[v0,v1,v2,v3] 64 (0,0))) w.heap.size v0 v1 v2 v3:=by show(w.heap.push _)[w.heap.size]? =_;simp
def Bx(k n:Int)(t:AE)(wd:Nat)(c:Int):Value:=.tuple #[.agg #[.int .i64 k,.int .i64 n,.string t,.int .i64 0],.int .i64 (wd:Nat),.int .i64 c]
def Fd{s:AE}{q:Nat}(h2:q<=s.size)(W:World):(Instr.slice 9 (.string s) none (some (.int .i64 (q:Nat))) none).run prog W=.ok (.string (s.extract 0 q)) W:=by
 have h3:(q:Int)<=(s.size:Int):=by omega
 go_simp
def DV{p:Nat->Bool}{s:AE}:∀(F i:Nat),Ek p s F i<=s.size
 |0,_=>AC
 |F+1,i=>by
  rw[Ek];split
  .split
   .exact DV F _
   .omega
  .exact AC
def dx:∀args w,(callFunc 189 args).run prog w=.ok (.enter 189 args) w:=enters_of func189 (by kernel_rfl) rfl
def Su:∀args w,(callFunc 151 args).run prog w=.ok (.enter 151 args) w:=enters_of func151 (by kernel_rfl) rfl
def St:∀args w,(callFunc 154 args).run prog w=.ok (.enter 154 args) w:=enters_of func154 (by kernel_rfl) rfl
def PL(t:AE)(w:World)(hs:t.size<=17592186044416):Calls prog 155 #[.string t] w fun e w'=>e=.returned (if 20<Bp Bn t then Bx 0 0 ⟨#[]⟩ 0 1 else Bx 3 0 (t.extract 0 (Bp Bn t)) (Bp Bn t) 0)/\Below w.heap.size w w':=by
 obtain⟨Q,hQ⟩:∃Q,Q=w.alloc (.cells #[.int .i64 0,.int .i64 0,.string ⟨#[]⟩,.int .i64 0] 64):=⟨_,rfl⟩
 have HQ:=AB hQ;have HBX:Hid (D9 Q w.heap.size (.int .i64 0) (.int .i64 0) (.string ⟨#[]⟩) (.int .i64 0)):=by rw[hQ];exact D9.new w _ _ _ _
 have HBQ:Hid (Below w.heap.size w Q):=by rw[hQ];exact AI.alloc AC _
 clear hQ;have HST:=AB (CR 189 dx Bn (fun v W=>Si v W) t Q hs);have hle:Bp Bn t<=t.size:=DV _ _;have hsl:=fun W=>Fd (s:=t) (q:=Bp Bn t) hle W;obtain⟨c,hc⟩:∃c,Bp Bn t=c:=⟨_,rfl⟩
 rw[hc]at HST hsl hle ⊢;clear hc;obtain⟨x,hx⟩:∃x,t.extract 0 c=x:=⟨_,rfl⟩
 rw[hx]at hsl ⊢;clear hx;by_cases h20:20<c
 .rw[AL h20];have h20i:(20:Int)<(c:Int):=by omega
  go_enter func155,ntmps155;go_wp2_with(go_at_call 183;rw[<-AA HQ];refine(AA HST).mono ?_;rintro e w5⟨rfl,hb5⟩;obtain⟨q0,q1,q2,q3,f0,f1,f2,f3⟩:=((AA HBX).below AC hb5).all;have HB5:=AB ((AA HBQ).trans (hb5.mono (AA HBQ).size));clear hb5);refine bodyPost_ret (v:=Bx 0 0 ⟨#[]⟩ 0 1) (by simp[results,results155,go_sem,q0,q1,q2,q3,Bx]) rfl ?_;exact⟨rfl,(((((AA HB5).setCell AC _).setCell AC _).setCell AC _).setCell AC _)⟩
 .rw[AG h20];have h20i:¬(20:Int)<(c:Int):=by omega
  go_enter func155,ntmps155;go_wp2_with(go_at_call 183;rw[<-AA HQ];refine(AA HST).mono ?_;rintro e w5⟨rfl,hb5⟩;obtain⟨q0,q1,q2,q3,f0,f1,f2,f3⟩:=((AA HBX).below AC hb5).all;have HB5:=AB ((AA HBQ).trans (hb5.mono (AA HBQ).size));clear hb5);refine bodyPost_ret (v:=Bx 3 0 x c 0) (by simp[results,results155,go_sem,q0,q1,q2,q3,Bx]) rfl ?_;exact⟨rfl,(((((AA HB5).setCell AC _).setCell AC _).setCell AC _).setCell AC _)⟩
def dv(acc:Nat)(l:List UInt8):Nat:=l.foldl (fun a c=>a*10+(c.toNat- 48)) acc
def an:∀(l:List UInt8)(acc:Nat),acc<=dv acc l
 | [],_=>AC
 |c::r,acc=>Aw (by omega) (an r (acc*10+(c.toNat- 48)))
def Lq:∀(l:List UInt8)(acc:Nat),(∀c∈l,Es c.toNat=true)->Lib.parseUint10 acc l=.ok (dv acc l)\/(Lib.parseUint10 acc l=.range/\18446744073709551616<=dv acc l)
 | [],_,_=>Or.inl rfl
 |c::r,acc,h=>by
  have hc:48<=c.toNat/\c.toNat<=57:=AT (h c Bl);have hge:=an r (acc*10+(c.toNat- 48));have e:dv acc (c::r)=dv (acc*10+(c.toNat- 48)) r:=rfl;rw[Lib.parseUint10,AL hc,e];split
  .exact Or.inr ⟨rfl,by omega⟩
  .split
   .exact Or.inr ⟨rfl,by omega⟩
   .exact Lq r _ fun x hx=>h x (C2 _ hx)
def RT(l:List UInt8)(h0:l≠ [])(h:∀c∈l,Es c.toNat=true):Lib.atoiAll l=.ok ((dv 0 l:Nat):Int)\/(Lib.atoiAll l=.range/\9223372036854775808<=dv 0 l):=by
 cases l with
 |nil=>exact absurd rfl h0
 |cons c r=>
  have hc:48<=c.toNat/\c.toNat<=57:=AT (h c Bl);rw[Lib.atoiAll_plain c r (by omega) (by omega)];have hm:Lib.parseMag (c::r)=Lib.parseUint10 0 (c::r):=by unfold Lib.parseMag;rw[AG (by simp)]
  rw[hm];rcases Lq (c::r) 0 h with e|⟨e,hb⟩
  .rw[e];unfold Lib.signless;by_cases hb:9223372036854775808<=dv 0 (c::r)
   .exact Or.inr ⟨by simp[hb],hb⟩
   .exact Or.inl (by simp[hb])
  .rw[e];exact Or.inr ⟨rfl,by omega⟩
def LP(t:AE)(k:Nat):(t.extract 0 k).data.toList=t.data.toList.take k:=by rw[ByteArray.data_extract,Array.toList_extract];simp
def Ts(t:AE):∀k,k<=t.size->dv 0 (t.data.toList.take k)=GE t 0 k
 |0,_=>rfl
 |k+1,h=>by
  have hl:k<t.data.toList.length:=by rw[<-Lib.size_eq];exact h
  rw[A9 hl,dv,List.foldl_append];show dv 0 (t.data.toList.take k)*10+((t.data.toList[k]).toNat- 48)=_;have eb:bt t k=(t.data.toList[k]).toNat:=by rw[Cl h,AP,AR hl];rfl
  rw[Ts t k (by omega),GE,BY,eb]
def Mx(s p:AE):Lib.hasPrefix s.data.toList p.data.toList=D6 s 0 p:=by rw[<-Lib.hasPrefix_raw];unfold D6;rw[BY]
def Lr(s p:AE):(⟨(Lib.trimPrefix s.data.toList p.data.toList).toArray⟩:AE)=if D6 s 0 p=true then s.extract p.size s.size else s:=by
 by_cases h:D6 s 0 p=true
 .rw[AL h];unfold D6 at h;rw[BY,An,As]at h;exact Lib.trimPrefix_hit s p h.1 h.2
 .rw[AG h];have h':D6 s 0 p=false:=by simpa using h
  unfold D6 at h';rw[BY]at h';exact Lib.trimPrefix_miss s p h'
def OM{s:AE}{i j:Nat}(h:i<=s.size):CM (s.extract i s.size) j=CM s (i+j):=by
 unfold CM;rw[A4];by_cases h2:i+j+2<=s.size
 .rw[EH (by omega),EH (by omega),Ci i j 1];exact BQ.2 ⟨fun⟨_,b⟩=>⟨h2,b⟩,fun⟨_,b⟩=>⟨by omega,b⟩⟩
 .rw[AD (fun hh=>h2 (by omega)),AD (fun hh=>h2 hh.1)]
def ON{s:AE}{i f:Nat}:∀k,i+f+k<=s.size->GE (s.extract i s.size) f k=GE s (i+f) k
 |0,_=>rfl
 |k+1,h=>by rw[GE,GE,ON k (by omega),EH (by omega),Ci]
end Go.Proofs.YtinndpnilmmmjaaGreatDoor
namespace Go.Proofs
open Go.Shelf Tryz
def Tryz.atoiS_ren:Go.Shelf.Ren:=⟨fun|172=>185|244=>210|245=>211|247=>233|279=>234|280=>235|281=>236|282=>237|287=>250|316=>251|171=>125|205=>252|321=>255|322=>256|243=>176|246=>207|283=>229|284=>230|285=>231|286=>232|129=>246|317=>245|318=>247|319=>248|320=>249|337=>253|338=>254|n=>n,fun|9=>9|3=>3|75=>66|76=>68|4=>4|5=>5|167=>217|37=>33|0=>0|85=>218|2=>2|168=>220|53=>212|175=>230|46=>207|210=>233|127=>115|145=>238|143=>236|21=>21|171=>211|173=>215|212=>227|51=>223|20=>20|213=>228|232=>239|233=>240|80=>74|n=>n,fun|15=>6|16=>7|17=>5|18=>8|19=>9|n=>n⟩
def Tryz.atoiS:Go.Proofs.LaysC.n172 prog Tryz.atoiS_ren:= {
 mixed:=by kernel_rfl
 f129:=func246.trans (congrArg some (by kernel_rfl))
 f171:=func125.trans (congrArg some (by kernel_rfl))
 f172:=func185.trans (congrArg some (by kernel_rfl))
 f205:=func252.trans (congrArg some (by kernel_rfl))
 f243:=func176.trans (congrArg some (by kernel_rfl))
 f244:=func210.trans (congrArg some (by kernel_rfl))
 f245:=func211.trans (congrArg some (by kernel_rfl))
 f246:=func207.trans (congrArg some (by kernel_rfl))
 f247:=func233.trans (congrArg some (by kernel_rfl))
 f279:=func234.trans (congrArg some (by kernel_rfl))
 f280:=func235.trans (congrArg some (by kernel_rfl))
 f281:=func236.trans (congrArg some (by kernel_rfl))
 f282:=func237.trans (congrArg some (by kernel_rfl))
 f283:=func229.trans (congrArg some (by kernel_rfl))
 f284:=func230.trans (congrArg some (by kernel_rfl))
 f285:=func231.trans (congrArg some (by kernel_rfl))
 f286:=func232.trans (congrArg some (by kernel_rfl))
 f287:=func250.trans (congrArg some (by kernel_rfl))
 f316:=func251.trans (congrArg some (by kernel_rfl))
 f317:=func245.trans (congrArg some (by kernel_rfl))
 f318:=func247.trans (congrArg some (by kernel_rfl))
 f319:=func248.trans (congrArg some (by kernel_rfl))
 f320:=func249.trans (congrArg some (by kernel_rfl))
 f321:=func255.trans (congrArg some (by kernel_rfl))
 f322:=func256.trans (congrArg some (by kernel_rfl))
 f337:=func253.trans (congrArg some (by kernel_rfl))
 f338:=func254.trans (congrArg some (by kernel_rfl))
 t0:=underlying0
 a0:=isAgg0
 z0:=sizeOf0
 v0:=zeroValue0
 t2:=underlying2
 a2:=isAgg2
 z2:=sizeOf2
 v2:=zeroValue2
 t3:=underlying3
 a3:=isAgg3
 z3:=sizeOf3
 v3:=zeroValue3
 t4:=underlying4
 a4:=isAgg4
 z4:=sizeOf4
 v4:=zeroValue4
 t5:=underlying5
 a5:=isAgg5
 z5:=sizeOf5
 v5:=zeroValue5
 t9:=underlying9
 a9:=isAgg9
 z9:=sizeOf9
 v9:=zeroValue9
 t20:=underlying20
 a20:=isAgg20
 z20:=sizeOf20
 v20:=zeroValue20
 t21:=underlying21
 a21:=isAgg21
 z21:=sizeOf21
 v21:=zeroValue21
 t37:=underlying33
 a37:=isAgg33
 z37:=sizeOf33
 v37:=zeroValue33
 t46:=underlying207
 a46:=isAgg207
 z46:=sizeOf207
 v46:=zeroValue207
 t51:=underlying223
 a51:=isAgg223
 z51:=sizeOf223
 v51:=zeroValue223
 t53:=underlying212
 a53:=isAgg212
 z53:=sizeOf212
 v53:=zeroValue212
 t75:=underlying66
 a75:=isAgg66
 z75:=sizeOf66
 v75:=zeroValue66
 t76:=underlying68
 a76:=isAgg68
 z76:=sizeOf68
 v76:=zeroValue68
 t85:=underlying218
 a85:=isAgg218
 z85:=sizeOf218
 v85:=zeroValue218
 t127:=underlying115
 a127:=isAgg115
 z127:=sizeOf115
 v127:=zeroValue115
 t143:=underlying236
 a143:=isAgg236
 z143:=sizeOf236
 v143:=zeroValue236
 t145:=underlying238
 a145:=isAgg238
 z145:=sizeOf238
 v145:=zeroValue238
 t167:=underlying217
 a167:=isAgg217
 z167:=sizeOf217
 v167:=zeroValue217
 t168:=underlying220
 a168:=isAgg220
 z168:=sizeOf220
 v168:=zeroValue220
 t171:=underlying211
 a171:=isAgg211
 z171:=sizeOf211
 v171:=zeroValue211
 t173:=underlying215
 a173:=isAgg215
 z173:=sizeOf215
 v173:=zeroValue215
 t175:=underlying230
 a175:=isAgg230
 z175:=sizeOf230
 v175:=zeroValue230
 t210:=underlying233
 a210:=isAgg233
 z210:=sizeOf233
 v210:=zeroValue233
 t212:=underlying227
 a212:=isAgg227
 z212:=sizeOf227
 v212:=zeroValue227
 t213:=underlying228
 a213:=isAgg228
 z213:=sizeOf228
 t232:=underlying239
 a232:=isAgg239
 z232:=sizeOf239
 v232:=zeroValue239
 t233:=underlying240
 a233:=isAgg240
 z233:=sizeOf240
 v233:=zeroValue240
 g15:=by kernel_rfl
 g16:=by kernel_rfl
 g17:=by kernel_rfl
 g18:=by kernel_rfl
 g19:=by kernel_rfl
 t80:=underlying74
 a80:=isAgg74
 z80:=sizeOf74
 v80:=zeroValue74
 i0:=by kernel_rfl
 i2:=by kernel_rfl
 i3:=by kernel_rfl
 i4:=by kernel_rfl
 i5:=by kernel_rfl
 i9:=by kernel_rfl
 i20:=by kernel_rfl
 i21:=by kernel_rfl
 i37:=by kernel_rfl
 i46:=by kernel_rfl
 i51:=by kernel_rfl
 i53:=by kernel_rfl
 i75:=by kernel_rfl
 i76:=by kernel_rfl
 i80:=by kernel_rfl
 i85:=by kernel_rfl
 i127:=by kernel_rfl
 i143:=by kernel_rfl
 i145:=by kernel_rfl
 i167:=by kernel_rfl
 i168:=by kernel_rfl
 i171:=by kernel_rfl
 i173:=by kernel_rfl
 i175:=by kernel_rfl
 i210:=by kernel_rfl
 i212:=by kernel_rfl
 i232:=by kernel_rfl
 i233:=by kernel_rfl
 m15:=by kernel_rfl
 m16:=by kernel_rfl
 m17:=by kernel_rfl
 m18:=by kernel_rfl
 m19:=by kernel_rfl
 c0:=by kernel_rfl
 c2:=by kernel_rfl
 c3:=by kernel_rfl
 c4:=by kernel_rfl
 c5:=by kernel_rfl
 c9:=by kernel_rfl
 c20:=by kernel_rfl
 c21:=by kernel_rfl
 c37:=by kernel_rfl
 c46:=by kernel_rfl
 c51:=by kernel_rfl
 c53:=by kernel_rfl
 c75:=by kernel_rfl
 c76:=by kernel_rfl
 c80:=by kernel_rfl
 c85:=by kernel_rfl
 c127:=by kernel_rfl
 c143:=by kernel_rfl
 c145:=by kernel_rfl
 c167:=by kernel_rfl
 c168:=by kernel_rfl
 c171:=by kernel_rfl
 c173:=by kernel_rfl
 c175:=by kernel_rfl
 c210:=by kernel_rfl
 c212:=by kernel_rfl
 c213:=by kernel_rfl
 c232:=by kernel_rfl
 c233:=by kernel_rfl}
end Go.Proofs
namespace Go.Proofs.YtinndpnilmmmjaaGreatDoor
open Go.RowKit Tryz
def Ex(t:AE)(w:World):Calls prog 182 #[.string t,.string ⟨#[194,175]⟩] w fun e w'=>e=.returned (.string (if CM t 0=true then t.extract 2 t.size else t))/\w'=w:=by have h:=Any.strings_TrimPrefix Tryz.trimPreS t ⟨#[194,175]⟩ w;rw[Lr,Gg]at h;exact h
def Fs(t:AE)(w:World):Calls prog 184 #[.string t,.string ⟨#[194,175]⟩] w fun e w'=>e=.returned (.bool (CM t 0))/\w'=w:=by have h:=Any.strings_HasPrefix Tryz.hasPreS t ⟨#[194,175]⟩ w;rw[Mx,Gg]at h;exact h
def Fo(w:World):Prop:=∃ev,w.cell? ⟨Tryz.atoiS_ren.g 16,0,none⟩=some ev/\(ev=.nilIface\/∃te pe,ev=.iface te pe)
def Fo.below{w w':World}(h:Fo w)(hb:Below w.heap.size w w'):Fo w':=by obtain⟨ev,h1,h2⟩:=h;exact⟨ev,(hb.cell (show(⟨Tryz.atoiS_ren.g 16,0,none⟩:Addr).block<w.heap.size from Lib.lt_of_cell h1)).trans h1,h2⟩
def P5(x:AE)(n:Nat)(hs:x.size<=17592186044416)(h:Lib.atoiAll x.data.toList=.ok (n:Int))(w:World):Calls prog 185 #[.string x] w fun e w'=>e=.returned (.tuple #[.int .i64 (n:Int),.nilIface])/\Below w.heap.size w w':=by
 refine(Any.strconv_Atoi_ok Tryz.atoiS x (by omega) n h w).mono ?_;rintro e w'⟨rfl,hw⟩;refine⟨rfl,?_⟩;rcases hw with rfl|⟨t,rfl⟩
 .exact AI
 .exact Lib.bytesWorld_below _ _ _
def S4(x:AE)(hs:x.size<=17592186044416)(h:Lib.atoiAll x.data.toList=.range)(w:World)(hR:Fo w):Calls prog 185 #[.string x] w fun e w'=>∃n ty p,e=.returned (.tuple #[.int .i64 n,.iface ty p])/\Below w.heap.size w w':=by obtain⟨ev,h1,h2⟩:=hR;refine(Any.strconv_Atoi_range Tryz.atoiS x (by omega) h ev w h1 h2).mono ?_;rintro e w'⟨N,rfl,-,-,hb⟩;exact⟨_,_,_,rfl,hb⟩
def F7{s:AE}{q:Nat}(h2:q<=s.size)(W:World):(Instr.slice 9 (.string s) (some (.int .i64 (q:Nat))) none none).run prog W=.ok (.string (s.extract q s.size)) W:=by
 have h3:(q:Int)<=(s.size:Int):=by omega
 go_simp
def Mq(t d r x:AE)(H:Bool)(c l:Nat)(n:Nat)(w:World)(hH:CM t 0=H)(hd:(if H=true then t.extract 2 t.size else t)=d)(hc:Bp Es d=c)(hr:d.extract c d.size=r)(hx:d.extract 0 c=x)(hl:Bp El r=l)(hs:t.size<=17592186044416)(h0:c≠0)(h1:l=0)(h2:CM r 0=false)(h3:Lib.atoiAll x.data.toList=.ok (n:Int))(h4:n<=1000000000000000)(hT:H=true):Calls prog 152 #[.string t] w fun e w'=>e=.returned (Bx 1 (-(n:Int)) ⟨#[]⟩ (t.size- r.size) 0)/\Below w.heap.size w w':=by
 have hds:d.size<=t.size:=by
  rw[<-hd];by_cases hh:H=true
  .rw[AL hh,A4];omega
  .rw[AG hh];exact AC
 have hle:c<=d.size:=by rw[<-hc];exact DV _ _
 have hrs:r.size<=d.size:=by rw[<-hr,A4];omega
 have hxs:x.size<=d.size:=by rw[<-hx,BH];omega
 have hlr:l<=r.size:=by rw[<-hl];exact DV _ _
 have hdt:d.size<t.size:=by have h2:=AT (hH.trans hT);rw[<-hd,hT,AL rfl,A4];omega
 obtain⟨Q,hQ⟩:∃Q,Q=w.alloc (.cells #[.int .i64 0,.int .i64 0,.string ⟨#[]⟩,.int .i64 0] 64):=⟨_,rfl⟩
 have HQ:=AB hQ;have HBX:Hid (D9 Q w.heap.size (.int .i64 0) (.int .i64 0) (.string ⟨#[]⟩) (.int .i64 0)):=by rw[hQ];exact D9.new w _ _ _ _
 have HBQ:Hid (Below w.heap.size w Q):=by rw[hQ];exact AI.alloc AC _
 clear hQ;have HT:=AB (Ex t);have HS1:=AB (fun W=>CR 151 Su Es (fun v W=>DR v W) d W (by omega));have HS2:=AB (fun W=>CR 154 St El (fun v W=>DA v W) r W (by omega));have HP:=AB (Fs r);have hsl:=fun W=>F7 (s:=d) (q:=c) hle W;have hsx:=fun W=>Fd (s:=d) (q:=c) hle W;rw[hH,hd]at HT;rw[hc]at HS1;rw[hl]at HS2;rw[hr]at hsl;rw[hx]at hsx;clear hH hd hc hr hx hl;have h0i:¬(c:Int)=0:=by omega
 subst h1;rw[h2]at HP;clear h2;have hlt:(d.size:Int)<(t.size:Int):=by omega
 have h4i:¬(1000000000000000:Int)<(n:Int):=by omega
 have HA:=AB (fun W=>P5 x n (by omega) h3 W);have hwd:((t.size- r.size:Nat):Int)=(t.size:Int)- (r.size:Int):=by omega
 clear h3 hT;go_enter func152,ntmps152;go_wp2_with(first|(go_at_call 182;rw[<-AA HQ];refine(AA HT _).mono ?_;rintro e w1⟨rfl,hw⟩;obtain rfl:=hw.symm)|(have hz5:=HB5;clear hz5;go_at_call 183;refine(AA HS2 _).mono ?_;rintro e w6⟨rfl,hb6⟩;have HB6:=AB ((AA HB5).trans (hb6.mono (AA HB5).size));have HX6:=AB ((AA HX5).below AC hb6);clear hb6)|(go_at_call 183;refine(AA HS1 _).mono ?_;rintro e w5⟨rfl,hb5⟩;have HB5:=AB ((AA HBQ).trans (hb5.mono (AA HBQ).size));have HX5:=AB ((AA HBX).below AC hb5);clear hb5)|(go_at_call 184;refine(AA HP _).mono ?_;rintro e w1⟨rfl,hw⟩;obtain rfl:=hw.symm)|(go_at_call 185;refine(AA HA _).mono ?_;rintro e w7⟨rfl,hb7⟩;have HB7:=AB ((AA HB6).trans (hb7.mono (AA HB6).size));obtain⟨q0,q1,q2,q3,f0,f1,f2,f3⟩:=((AA HX6).below AC hb7).all;clear hb7));refine bodyPost_ret (v:=Bx 1 (-(n:Int)) ⟨#[]⟩ (t.size- r.size) 0) (by simp[results,results152,go_sem,q0,q1,q2,q3,Bx,hwd]) rfl ?_;exact⟨rfl,(((((AA HB7).setCell AC _).setCell AC _).setCell AC _).setCell AC _)⟩
def Kf:AE:=⟨(Ar.flatMap fun c=>(BW (c:Nat)).map fun x=>x.toNat.toUInt8).toArray⟩
def FE(b:Nat)(l:List AM):(B0 b l).length=l.length:=by unfold B0;simp
def Fe(a:List AM)(ls:List (List AM)):(Az (a::ls)).length=a.length+(Az ls).length:=by rw[Az,AH,FE]
def EI:∀(ls ms:List (List AM)),(Az (ls++ms)).length=(Az ls).length+(Az ms).length
 | [],ms=>by simp[Az]
 |l::ls,ms=>by rw[ES,Fe,Fe,EI ls ms];omega
def CN(k n m:Int)(s:AE)(nums:List Int)(ls:List (List AM)):(Ay k n m s nums ls).length=(Az ls).length+1:=by unfold Ay;simp
def BL(t:List AM):(Az [t]).length=t.length:=by rw[Fe];simp[Az]
def DL(k n m:Int):(Ck k n m).length=1:=by unfold Ck;rw[CN];simp[Az]
def Le(k:Int)(s:AE):(Gh k s).length=1:=by unfold Gh;rw[CN];simp[Az]
def Jx(l:List (List AM)):Prop:=∃t,l= [t]/\0<t.length
def Jx.tree(k n m:Int)(s:AE)(nums:List Int)(ls:List (List AM)):Jx [Ay k n m s nums ls]:=⟨_,rfl,by rw[CN];omega⟩
def BD(X:DN)(i s d:Nat)(o:Bool)(x:Option B1):Prop:=∀q l,x=some (true,q,l)->i<=q/\q<=X.len/\(Az l).length+s<=4*(q- i)+d/\(o=true->Jx l)
section
variable {X:DN}
def BD.ok{i s d q:Nat}{o:Bool}{l:List (List AM)}(h1:i<=q)(h2:q<=X.len)(h3:(Az l).length+s<=4*(q- i)+d)(h4:o=true->Jx l):BD X i s d o (C4 q l):=fun q' l' e=>by unfold C4 at e;cases e;exact⟨h1,h2,h3,h4⟩
def BD.bad{i s d q:Nat}{o:Bool}:BD X i s d o (Cp q):=fun q' l' e=>by unfold Cp at e;cases e
def BD.bind{i s d:Nat}{o:Bool}{j sj dj st:Nat}{oj:Bool}{x:Option B1}{k:Nat->List (List AM)->Option B1}(hA:CB X j st x)(h:BD X j sj dj oj x)(hk:∀q l,j+st<=q->q<=X.len->(Az l).length+sj<=4*(q- j)+dj->(oj=true->Jx l)->BD X i s d o (k q l)):BD X i s d o (A7 x k):=by
 cases x with
 |none=>intro q l e;cases e
 |some r=>
  obtain⟨b,q,l⟩:=r;cases b with
  |false=>exact BD.bad
  |true=>
   obtain⟨h1,h2,h3,h4⟩:=h q l rfl;exact hk q l (hA.q rfl).1 h2 h3 h4
def BD.ite{c:Prop} [Decidable c]{i s d:Nat}{o:Bool}{x y:Option B1}(h1:c->BD X i s d o x)(h2:¬ c->BD X i s d o y):BD X i s d o (if c then x else y):=by
 split
 .exact h1 ‹_›
 .exact h2 ‹_›
def BD.back{i j s d s' e:Nat}{o:Bool}{x:Option B1}(h:BD X j s d o x)(hi:i<=j)(hd:4*i+d+s'<=4*j+e+s):BD X i s' e o x:=fun q l he=>by obtain⟨h1,h2,h3,h4⟩:=h q l he;exact⟨by omega,h2,by omega,h4⟩
def BD.any{i s d:Nat}{o:Bool}{x:Option B1}(h:BD X i s d o x):BD X i s d false x:=fun q l he=>by obtain⟨h1,h2,h3,h4⟩:=h q l he;exact⟨h1,h2,h3,fun e=>by cases e⟩
def OZ(m:Nat)(a:List AM):Nat:=if m=1 then a.length else if m=2 then 1 else 0
def LQ(m:Nat):Nat:=if m=1\/m=2 then 0 else 1
def ZW(m:Nat):Bool:=decide (m=0\/m=1\/m=3\/m=5\/m=6)
structure Du(X:DN)(R:Nat->Nat->List AM->Option B1):Prop where
 adv:∀m i a,i<=X.len->CB X i (C3 m) (R m i a)
 fair:∀m i a,i<=X.len->(m=1->0<a.length)->BD X i (LQ m) (OZ m a) (ZW m) (R m i a)
section
variable {R:Nat->Nat->List AM->Option B1}
def M5{l:List (List AM)}(h:Jx l):(Az l).length=(l.headD []).length/\l= [l.headD []]/\0<(l.headD []).length:=by obtain⟨t,rfl,ht⟩:=h;exact⟨BL t,rfl,ht⟩
def Du.m0(K:Du X R){i:Nat}(hi:i<=X.len):BD X i 1 0 true (R 0 i []):=K.fair 0 i [] hi (fun h=>by cases h)
def Du.m3(K:Du X R){i:Nat}(hi:i<=X.len):BD X i 1 0 true (R 3 i []):=K.fair 3 i [] hi (fun h=>by cases h)
def Du.m2(K:Du X R){i:Nat}(hi:i<=X.len):BD X i 0 1 false (R 2 i []):=K.fair 2 i [] hi (fun h=>by cases h)
def Du.m1(K:Du X R){i:Nat}(a:List AM)(hi:i<=X.len)(ha:0<a.length):BD X i 0 a.length true (R 1 i a):=K.fair 1 i a hi (fun _=>ha)
def Du.a0(K:Du X R){i:Nat}(hi:i<=X.len):CB X i 1 (R 0 i []):=K.adv 0 i [] hi
def Du.a3(K:Du X R){i:Nat}(hi:i<=X.len):CB X i 1 (R 3 i []):=K.adv 3 i [] hi
def Du.a2(K:Du X R){i:Nat}(hi:i<=X.len):CB X i 0 (R 2 i []):=K.adv 2 i [] hi
def Du.a1(K:Du X R){i:Nat}(a:List AM)(hi:i<=X.len):CB X i 0 (R 1 i a):=K.adv 1 i a hi
def UX(K:Du X R){i q d:Nat}(a:List AM)(ha:0<a.length)(hi:i<=q)(hq:q<=X.len)(hd:a.length+1<=4*(q- i)+d):BD X i 1 d true (Ff X R q a):=by
 refine BD.ite (fun _=> ?_) fun _=>BD.ok hi hq (by rw[BL];exact hd) fun _=>⟨a,rfl,ha⟩
 refine BD.bind (K.a3 hq) (K.m3 hq) fun q2 g h1 h2 h3 _=>BD.bind (K.a0 h2) (K.m0 h2) fun q3 b h4 h5 h6 _=>BD.ok (by omega) h5 ?_ fun _=>Jx.tree _ _ _ _ _ _;rw[BL,CN,Fe,EI];omega
def Oo(K:Du X R){i q d:Nat}(a:List AM)(ha:0<a.length)(hi:i<=q)(hq:q<=X.len)(hd:a.length+1<=4*(q- i)+d):BD X i 1 d true (Gu X R q a):=by refine BD.bind (K.a1 a hq) (K.m1 a hq ha) fun q2 l h1 h2 h3 h4=> ?_;obtain⟨g1,g2,g3⟩:=M5 (h4 rfl);exact UX K _ g3 (by omega) h2 (by omega)
def GX(hE:X.Ends){i c:Nat}{t:List AM}(h:X.cl i=c)(hc:c≠0)(ht:t.length=1):BD X i 1 0 true (C4 (i+1) [t]):=BD.ok (by omega) (hE i (by rw[h];exact hc)) (by rw[BL];omega) fun _=>⟨t,rfl,by omega⟩
def Ow(hE:X.Ends)(K:Du X R){i:Nat}(hi:i<=X.len):BD X i 1 0 true (Dj X R i):=by
 refine BD.ite (fun h1=> ?_) fun _=>BD.ite (fun h=> ?_) fun _=>BD.ite (fun h=>GX hE h (by decide) (Le _ _)) fun _=>BD.ite (fun h=>GX hE h (by decide) (Le _ _)) fun _=>BD.ite (fun h=>GX hE h (by decide) (DL _ _ _)) fun _=>BD.ite (fun h=>GX hE h (by decide) (DL _ _ _)) fun _=>BD.ite (fun h=>GX hE h (by decide) (DL _ _ _)) fun _=>BD.bad
 .have:=M6 h1 X.len;refine BD.ok (by omega) (Jh hE _ _ hi) ?_ fun _=>Jx.tree _ _ _ _ _ _;rw[BL,CN];simp[Az];omega
 .have hl:=hE i (by rw[h];decide);refine BD.bind (K.a0 hl) (K.m0 hl) fun q l h1 h2 h3 h4=>BD.ite (fun h5=>BD.ok (by omega) (hE q (by rw[h5];decide)) (by omega) h4) fun _=>BD.bad
def VR(hE:X.Ends)(K:Du X R){i:Nat}(hi:i<=X.len):BD X i 1 0 true (Hd X R i):=by
 refine BD.ite (fun _=> ?_) fun _=> ?_
 .refine BD.bind (K.a3 hi) (K.m3 hi) fun q2 g h1 h2 h3 _=>BD.bind (K.a0 h2) (K.m0 h2) fun q3 b h4 h5 h6 _=>BD.ok (by omega) h5 ?_ fun _=>Jx.tree _ _ _ _ _ _;rw[BL,CN,EI];omega
 .refine BD.bind (JW hE K.adv hi) (Ow hE K hi) fun q l h1 h2 h3 h4=> ?_;obtain⟨g1,g2,g3⟩:=M5 (h4 rfl);exact Oo K _ g3 (by omega) h2 (by omega)
def Xz(hE:X.Ends)(K:Du X R){i:Nat}(a:List AM)(ha:0<a.length)(hi:i<=X.len):BD X i 0 a.length true (Jt X R i a):=by
 refine BD.ite (fun h=> ?_) fun _=>BD.ok AC hi (by rw[BL];omega) fun _=>⟨a,rfl,ha⟩
 have hl:=hE i (by rw[h];decide);refine BD.bind (K.a2 hl) (K.m2 hl) fun q l h1 h2 h3 _=>BD.ite (fun h4=> ?_) fun _=>BD.bad;have h5:=hE q (by rw[h4];decide);have ht:(Ay 7 0 0 E2 [] (a::l)).length=a.length+(Az l).length+1:=by rw[CN,Fe]
 exact(K.m1 (Ay 7 0 0 E2 [] (a::l)) h5 (by omega)).back (by omega) (by omega)
def SJ(hE:X.Ends)(K:Du X R){i:Nat}(hi:i<=X.len):BD X i 0 1 false (Ik X R i):=by
 have hp:BD X i 0 1 false (if X.cl i=59\/X.cl i=93 then C4 i [Ck 8 0 0]else R 0 i []):=BD.ite (fun _=>BD.ok AC hi (by rw[BL,DL];omega) fun h=>by cases h) fun _=>((K.m0 hi).any).back AC (by omega);have ha:CB X i 0 (if X.cl i=59\/X.cl i=93 then C4 i [Ck 8 0 0]else R 0 i []):=CB.ite (fun _=>CB.ok AC hi (by simp)) fun _=>(K.a0 hi).weak (by omega);refine BD.bind ha hp fun q l h1 h2 h3 _=>BD.ite (fun h=> ?_) fun _=>BD.ok (by omega) h2 (by omega) fun h=>by cases h
 have h4:=hE q (by rw[h];decide);refine BD.bind (K.a2 h4) (K.m2 h4) fun q2 l2 h5 h6 h7 _=>BD.ok (by omega) h6 ?_ fun h=>by cases h
 rw[EI];omega
def UR(hE:X.Ends){i n:Nat}(hi:i+1<=X.len):BD X i 1 0 true (Jy X (i+1) n):=by
 have one:∀ {c q:Nat}{t:List AM},i+1<=q->q<=X.len->t.length=1->c=c->BD X i 1 0 true (C4 q [t]):=fun {c q t}h1 h2 ht _=>BD.ok (by omega) h2 (by rw[BL];omega) fun _=>⟨t,rfl,by omega⟩
 have two:∀ {c:Nat}{t:List AM},X.cl (i+1)=c->c≠0->t.length=1->BD X i 1 0 true (C4 (i+1+1) [t]):=fun {c t}h hc ht=>one (c:=0) (by omega) (hE (i+1) (by rw[h];exact hc)) ht rfl;refine BD.ite (fun h=>two h (by decide) (DL _ _ _)) fun _=>BD.ite (fun h=>two h (by decide) (DL _ _ _)) fun _=>BD.ite (fun h=>two h (by decide) (DL _ _ _)) fun _=>BD.ite (fun h=>two h (by decide) (DL _ _ _)) fun _=>BD.ite (fun h=>BD.ite (fun h3=>one (c:=0) (by omega) (Gz hE h3) (DL _ _ _) rfl) fun _=>BD.bad) fun _=>one (c:=0) AC hi (DL _ _ _) rfl
def K4(K:Du X R){i:Nat}(hi:i<=X.len):BD X i 1 0 false (R 4 i []):=K.fair 4 i [] hi (fun h=>by cases h)
def H9(hE:X.Ends)(K:Du X R){i:Nat}(h:X.cl i=123):BD X i 1 0 true (EJ X R i):=by have hl:=hE i (by rw[h];decide);refine BD.ite (fun h2=>BD.ok (by omega) (hE (i+1) (by rw[h2];decide)) (by rw[BL,DL];omega) fun _=>Jx.tree _ _ _ _ _ _) fun _=> ?_;refine BD.bind (K.adv 4 (i+1) [] hl) (K4 K hl) fun q l h1 h2 h3 _=>BD.ite (fun h5=>BD.ok (by omega) (hE q (by rw[h5];decide)) (by rw[BL,CN];omega) fun _=>Jx.tree _ _ _ _ _ _) fun _=>BD.bad
def Zw(hE:X.Ends)(K:Du X R){i:Nat}:BD X i 1 0 true (Vo X R i):=by refine BD.ite (fun h=>UR hE (Gz hE h)) fun _=>BD.ite (fun _=>BD.ite (fun _=>BD.ite (fun h4=>BD.ok (by omega) (Gz hE h4) (by rw[BL,DL];omega) fun _=>Jx.tree _ _ _ _ _ _) fun _=>BD.bad) fun _=>BD.bad) fun _=>BD.ite (fun h=>H9 hE K h) fun _=>BD.ite (fun h=>GX hE h (by decide) (Le _ _)) fun _=>BD.ite (fun h=>GX hE h (by decide) (DL _ _ _)) fun _=>BD.ite (fun h=>BD.ok (by omega) (OT hE h) (by rw[BL,DL];omega) fun _=>Jx.tree _ _ _ _ _ _) fun _=>BD.bad
def NI(hE:X.Ends)(K:Du X R)(m m':Nat)(hm:m=5\/m=6)(hm':m'=4\/m'=7){i:Nat}(hi:i<=X.len):BD X i 1 0 false (A7 (R m i []) fun q l=>if X.cl q=8900 then A7 (R m' (q+1) []) fun q2 l2=>C4 q2 (l++l2)else C4 q l):=by
 have f:∀ {j:Nat},j<=X.len->BD X j 1 0 true (R m j []):=fun {j}hj=>by rcases hm with rfl|rfl<;>exact K.fair _ j [] hj (fun h=>by cases h)
 have f':∀ {j:Nat},j<=X.len->BD X j 1 0 false (R m' j []):=fun {j}hj=>by rcases hm' with rfl|rfl<;>exact K.fair _ j [] hj (fun h=>by cases h)
 refine BD.bind (K.adv m i [] hi) (f hi) fun q l h1 h2 h3 _=>BD.ite (fun h=> ?_) fun _=>BD.ok (by omega) h2 (by omega) fun h=>by cases h
 have h4:=hE q (by rw[h];decide);refine BD.bind (K.adv m' (q+1) [] h4) (f' h4) fun q2 l2 h5 h6 h7 _=>BD.ok (by omega) h6 ?_ fun h=>by cases h
 rw[EI];omega
def K5(K:Du X R){i:Nat}(hi:i<=X.len):BD X i 1 0 true (R 5 i []):=K.fair 5 i [] hi (fun h=>by cases h)
def VF(hE:X.Ends)(K:Du X R){i:Nat}(hi:i<=X.len):BD X i 1 0 true (Ix X R i):=by refine BD.bind (K.adv 5 i [] hi) (K5 K hi) fun q l h1 h2 h3 h4=>BD.ite (fun h=> ?_) fun _=>BD.ok (by omega) h2 (by omega) h4;have h5:=hE q (by rw[h.2];decide);refine BD.bind (K.a0 h5) (K.m0 h5) fun q2 l2 h6 h7 h8 _=>BD.ok (by omega) h7 ?_ fun _=>Jx.tree _ _ _ _ _ _;rw[BL,CN,EI];omega
def LD(K:Du X R){i j:Nat}(k n:Int)(s:AE)(ls:List (List AM))(hij:i<=j)(hj:j<=X.len)(hl:(Az ls).length+1<=4*(j- i)):BD X i 1 0 true (F4 R k n s ls j):=by refine BD.bind (K.a0 hj) (K.m0 hj) fun q b h1 h2 h3 _=>BD.ok (by omega) h2 ?_ fun _=>Jx.tree _ _ _ _ _ _;rw[BL,CN,EI];omega
def UK(hE:X.Ends)(K:Du X R){i:Nat}(hi:i<=X.len):BD X i 1 0 true (Hz X R i):=by
 have n0:(Az []).length=0:=rfl;refine BD.ite (fun h=> ?_) fun _=>BD.ite (fun h=> ?_) fun _=>BD.ite (fun h=> ?_) fun _=>BD.ite (fun h=> ?_) fun _=>BD.ite (fun h=> ?_) fun _=>K.m0 hi
 .refine BD.ite (fun h2=> ?_) fun _=>BD.bad;refine BD.bind (Iq hE K.adv h2) (H9 hE K h2) fun q l h1 h3 h4 _=>BD.ok (by omega) h3 ?_ fun _=>Jx.tree _ _ _ _ _ _;rw[BL,CN];omega
 .exact LD K _ _ _ _ (by omega) (hE (i+1) (by rw[h.2];decide)) (by omega)
 .exact LD K _ _ _ _ (by omega) (hE (i+2) (by rw[h.2.2];decide)) (by omega)
 .have h1:=hE (i+1) (by rw[h.2.1];decide);refine BD.bind (K.a2 h1) (K.m2 h1) fun q l h2 h3 h4 _=>BD.ite (fun h5=>BD.ite (fun h6=> ?_) fun _=>BD.bad) fun _=>BD.bad;exact LD K _ _ _ _ (by omega) (hE (q+1) (by rw[h6];decide)) (by omega)
 .have h1:=hE i (by rw[h];decide);refine BD.bind (K.a0 h1) (K.m0 h1) fun q l h2 h3 h4 h4'=>BD.ite (fun h5=> ?_) fun _=>BD.bad;have h6:=hE q (by rw[h5];decide);refine BD.ite (fun h7=>BD.ite (fun _=>LD K _ _ _ _ (by omega) (hE (q+1) (by rw[h7];decide)) (by omega)) fun _=>BD.bad) fun _=> ?_;obtain⟨g1,g2,g3⟩:=M5 (h4' rfl);exact Oo K _ g3 (by omega) h6 (by omega)
end
def FF(hE:X.Ends):∀f,Du X (Bh X f)
 |0=>⟨Cc hE 0,fun _ _ _ _ _=>fun _ _ e=>by cases e⟩
 |f+1=>by
  have K:=FF hE f;refine⟨Cc hE (f+1),fun m i a hi ha=> ?_⟩;rw[Bh];by_cases h0:m=0
  .rw[AL h0];subst h0;exact VR hE K hi
  rw[AG h0];by_cases h1:m=1
  .rw[AL h1];subst h1;exact Xz hE K a (ha rfl) hi
  rw[AG h1];by_cases h2:m=2
  .rw[AL h2];subst h2;exact SJ hE K hi
  rw[AG h2];have hs:LQ m=1:=by unfold LQ;rw[AG (by omega)]
  have hm:OZ m a=0:=by unfold OZ;rw[AG h1,AG h2]
  rw[hs,hm];by_cases h3:m=3
  .rw[AL h3];subst h3;exact Zw hE K
  rw[AG h3];by_cases h4:m=4
  .rw[AL h4];subst h4;exact NI hE K 6 4 (.inr rfl) (.inl rfl) hi
  rw[AG h4];by_cases h5:m=5
  .rw[AL h5];subst h5;exact UK hE K hi
  rw[AG h5];by_cases h6:m=6
  .rw[AL h6];subst h6;exact VF hE K hi
  rw[AG h6];have ho:ZW m=false:=by unfold ZW;rw[AD (by omega)]
  rw[ho];exact NI hE K 5 7 (.inl rfl) (.inr rfl) hi
end
def IN(b:Nat)(l m:List AM):B0 b (l++m)=B0 b l++B0 b m:=by unfold B0;simp
def Jd(a b:Nat)(l:List AM):B0 a (B0 b l)=B0 (a+b) l:=by unfold B0;rw[Do];refine B8 fun x _=> ?_;simp only[Function.comp,Do];congr 1;refine B8 fun z _=> ?_;simp only[Function.comp];omega
def J6(l:List AM):B0 0 l=l:=by
 unfold B0
 conv=>rhs;rw[<-JY l]
 refine B8 fun x _=> ?_;obtain⟨k,n,m,s,nums,kids⟩:=x;simp
def Ih:∀(ls ms:List (List AM)),Az (ls++ms)=Az ls++B0 (Az ls).length (Az ms)
 | [],ms=>by
  show Az ms= []++B0 0 (Az ms);rw[J6];rfl
 |l::ls,ms=>by rw[ES,Az,Az,Ih ls ms,IN,Jd,Aj,AH,FE]
def Kk:∀(ls ms:List (List AM)),DW (ls++ms)=DW ls++(DW ms).map (·+((Az ls).length:Int))
 | [],ms=>by
  show DW ms= []++(DW ms).map (·+((0:Nat):Int));simp
 |l::ls,ms=>by rw[ES,DW,DW,Kk ls ms,Ao,Do,Fe,ES];congr 2;refine B8 fun z _=> ?_;simp only[Function.comp];omega
def UW(t:List AM):DW [t]= [(t.length:Int)- 1]:=by simp[DW]
def IR(t:List AM):Az [t]=t:=by show t++B0 t.length (Az [])=t;simp[Az,B0]
def BB(n:Nat)(ls:List (List AM)):List Int:=(DW ls).map (·+(n:Int))
def Ij(n:Nat)(ls ms:List (List AM)):BB n (ls++ms)=BB n ls++BB (n+(Az ls).length) ms:=by unfold BB;rw[Kk,Ao,Do];congr 1;refine B8 fun z _=> ?_;simp only[Function.comp];omega
def Ec(n:Nat)(t:List AM):BB n [t]= [((n+t.length:Nat):Int)- 1]:=by unfold BB;rw[UW];simp;omega
def Ma(b:Nat)(k n m:Int)(s:AE)(nums:List Int)(ls:List (List AM)):B0 b (Ay k n m s nums ls)=B0 b (Az ls)++ [⟨k,n,m,s,nums,BB b ls⟩]:=by unfold Ay;rw[IN];rfl
