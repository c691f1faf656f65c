import Derived.Test.YtinndpnilmmmjaaGreatDoorZ05
set_option maxRecDepth 100000
set_option maxHeartbeats 16000000
set_option linter.defProp false
namespace Go.Proofs.YtinndpnilmmmjaaGreatDoor
open Go.RowKit Tryz
def MC(t d r x:AE)(H:Bool)(c l:Nat)(w:World)(hH:CM t 0=H)(hd:(if H=true then t.extract 2 t.size else t)=d)(hc:Bp Es d=c)(hr:d.extract c d.size=r)(hx:d.extract 0 c=x)(hl:Bp El r=l)(hs:t.size<=17592186044416)(h0:c=0):Calls prog 152 #[.string t] w fun e w'=>e=.returned (Bx 0 0 ⟨#[]⟩ 0 1)/\Below w.heap.size w w':=by
 have hds:d.size<=t.size:=by
  rw[<-hd];by_cases hh:H=true
  .rw[AL hh,A4];omega
  .rw[AG hh];exact AC
 have hle:c<=d.size:=by rw[<-hc];exact DV _ _
 have hrs:r.size<=d.size:=by rw[<-hr,A4];omega
 have hxs:x.size<=d.size:=by rw[<-hx,BH];omega
 have hlr:l<=r.size:=by rw[<-hl];exact DV _ _
 obtain⟨Q,hQ⟩:∃Q,Q=w.alloc (.cells #[.int .i64 0,.int .i64 0,.string ⟨#[]⟩,.int .i64 0] 64):=⟨_,rfl⟩
 have HQ:=AB hQ;have HBX:Hid (D9 Q w.heap.size (.int .i64 0) (.int .i64 0) (.string ⟨#[]⟩) (.int .i64 0)):=by rw[hQ];exact D9.new w _ _ _ _
 have HBQ:Hid (Below w.heap.size w Q):=by rw[hQ];exact AI.alloc AC _
 clear hQ;have HT:=AB (Ex t);have HS1:=AB (fun W=>CR 151 Su Es (fun v W=>DR v W) d W (by omega));have HS2:=AB (fun W=>CR 154 St El (fun v W=>DA v W) r W (by omega));have HP:=AB (Fs r);have hsl:=fun W=>F7 (s:=d) (q:=c) hle W;have hsx:=fun W=>Fd (s:=d) (q:=c) hle W;rw[hH,hd]at HT;rw[hc]at HS1;rw[hl]at HS2;rw[hr]at hsl;rw[hx]at hsx;clear hH hd hc hr hx hl;subst h0;go_enter func152,ntmps152;go_wp2_with(first|(go_at_call 182;rw[<-AA HQ];refine(AA HT _).mono ?_;rintro e w1⟨rfl,hw⟩;obtain rfl:=hw.symm)|(go_at_call 183;refine(AA HS1 _).mono ?_;rintro e w5⟨rfl,hb5⟩;have HB5:=AB ((AA HBQ).trans (hb5.mono (AA HBQ).size));have HX5:=AB ((AA HBX).below AC hb5);clear hb5;obtain⟨q0,q1,q2,q3,f0,f1,f2,f3⟩:=(AA HX5).all));refine bodyPost_ret (v:=Bx 0 0 ⟨#[]⟩ 0 1) (by simp[results,results152,go_sem,q0,q1,q2,q3,Bx]) rfl ?_;exact⟨rfl,(((((AA HB5).setCell AC _).setCell AC _).setCell AC _).setCell AC _)⟩
def Kl(t d r x:AE)(H:Bool)(c l:Nat)(w:World)(hH:CM t 0=H)(hd:(if H=true then t.extract 2 t.size else t)=d)(hc:Bp Es d=c)(hr:d.extract c d.size=r)(hx:d.extract 0 c=x)(hl:Bp El r=l)(hs:t.size<=17592186044416)(h0:c≠0)(h1:0<l):Calls prog 152 #[.string t] w fun e w'=>e=.returned (Bx 0 0 ⟨#[]⟩ 0 1)/\Below w.heap.size w w':=by
 have hds:d.size<=t.size:=by
  rw[<-hd];by_cases hh:H=true
  .rw[AL hh,A4];omega
  .rw[AG hh];exact AC
 have hle:c<=d.size:=by rw[<-hc];exact DV _ _
 have hrs:r.size<=d.size:=by rw[<-hr,A4];omega
 have hxs:x.size<=d.size:=by rw[<-hx,BH];omega
 have hlr:l<=r.size:=by rw[<-hl];exact DV _ _
 obtain⟨Q,hQ⟩:∃Q,Q=w.alloc (.cells #[.int .i64 0,.int .i64 0,.string ⟨#[]⟩,.int .i64 0] 64):=⟨_,rfl⟩
 have HQ:=AB hQ;have HBX:Hid (D9 Q w.heap.size (.int .i64 0) (.int .i64 0) (.string ⟨#[]⟩) (.int .i64 0)):=by rw[hQ];exact D9.new w _ _ _ _
 have HBQ:Hid (Below w.heap.size w Q):=by rw[hQ];exact AI.alloc AC _
 clear hQ;have HT:=AB (Ex t);have HS1:=AB (fun W=>CR 151 Su Es (fun v W=>DR v W) d W (by omega));have HS2:=AB (fun W=>CR 154 St El (fun v W=>DA v W) r W (by omega));have HP:=AB (Fs r);have hsl:=fun W=>F7 (s:=d) (q:=c) hle W;have hsx:=fun W=>Fd (s:=d) (q:=c) hle W;rw[hH,hd]at HT;rw[hc]at HS1;rw[hl]at HS2;rw[hr]at hsl;rw[hx]at hsx;clear hH hd hc hr hx hl;have h0i:¬(c:Int)=0:=by omega
 have h1i:(0:Int)<(l:Int):=by omega
 go_enter func152,ntmps152;go_wp2_with(first|(go_at_call 182;rw[<-AA HQ];refine(AA HT _).mono ?_;rintro e w1⟨rfl,hw⟩;obtain rfl:=hw.symm)|(have hz5:=HB5;clear hz5;go_at_call 183;refine(AA HS2 _).mono ?_;rintro e w6⟨rfl,hb6⟩;have HB6:=AB ((AA HB5).trans (hb6.mono (AA HB5).size));have HX6:=AB ((AA HX5).below AC hb6);clear hb6;obtain⟨q0,q1,q2,q3,f0,f1,f2,f3⟩:=(AA HX6).all)|(go_at_call 183;refine(AA HS1 _).mono ?_;rintro e w5⟨rfl,hb5⟩;have HB5:=AB ((AA HBQ).trans (hb5.mono (AA HBQ).size));have HX5:=AB ((AA HBX).below AC hb5);clear hb5));refine bodyPost_ret (v:=Bx 0 0 ⟨#[]⟩ 0 1) (by simp[results,results152,go_sem,q0,q1,q2,q3,Bx]) rfl ?_;exact⟨rfl,(((((AA HB6).setCell AC _).setCell AC _).setCell AC _).setCell AC _)⟩
def MD(t d r x:AE)(H:Bool)(c l:Nat)(w:World)(hH:CM t 0=H)(hd:(if H=true then t.extract 2 t.size else t)=d)(hc:Bp Es d=c)(hr:d.extract c d.size=r)(hx:d.extract 0 c=x)(hl:Bp El r=l)(hs:t.size<=17592186044416)(h0:c≠0)(h1:l=0)(h2:CM r 0=true):Calls prog 152 #[.string t] w fun e w'=>e=.returned (Bx 0 0 ⟨#[]⟩ 0 1)/\Below w.heap.size w w':=by
 have hds:d.size<=t.size:=by
  rw[<-hd];by_cases hh:H=true
  .rw[AL hh,A4];omega
  .rw[AG hh];exact AC
 have hle:c<=d.size:=by rw[<-hc];exact DV _ _
 have hrs:r.size<=d.size:=by rw[<-hr,A4];omega
 have hxs:x.size<=d.size:=by rw[<-hx,BH];omega
 have hlr:l<=r.size:=by rw[<-hl];exact DV _ _
 obtain⟨Q,hQ⟩:∃Q,Q=w.alloc (.cells #[.int .i64 0,.int .i64 0,.string ⟨#[]⟩,.int .i64 0] 64):=⟨_,rfl⟩
 have HQ:=AB hQ;have HBX:Hid (D9 Q w.heap.size (.int .i64 0) (.int .i64 0) (.string ⟨#[]⟩) (.int .i64 0)):=by rw[hQ];exact D9.new w _ _ _ _
 have HBQ:Hid (Below w.heap.size w Q):=by rw[hQ];exact AI.alloc AC _
 clear hQ;have HT:=AB (Ex t);have HS1:=AB (fun W=>CR 151 Su Es (fun v W=>DR v W) d W (by omega));have HS2:=AB (fun W=>CR 154 St El (fun v W=>DA v W) r W (by omega));have HP:=AB (Fs r);have hsl:=fun W=>F7 (s:=d) (q:=c) hle W;have hsx:=fun W=>Fd (s:=d) (q:=c) hle W;rw[hH,hd]at HT;rw[hc]at HS1;rw[hl]at HS2;rw[hr]at hsl;rw[hx]at hsx;clear hH hd hc hr hx hl;have h0i:¬(c:Int)=0:=by omega
 subst h1;rw[h2]at HP;clear h2;go_enter func152,ntmps152;go_wp2_with(first|(go_at_call 182;rw[<-AA HQ];refine(AA HT _).mono ?_;rintro e w1⟨rfl,hw⟩;obtain rfl:=hw.symm)|(have hz5:=HB5;clear hz5;go_at_call 183;refine(AA HS2 _).mono ?_;rintro e w6⟨rfl,hb6⟩;have HB6:=AB ((AA HB5).trans (hb6.mono (AA HB5).size));have HX6:=AB ((AA HX5).below AC hb6);clear hb6;obtain⟨q0,q1,q2,q3,f0,f1,f2,f3⟩:=(AA HX6).all)|(go_at_call 183;refine(AA HS1 _).mono ?_;rintro e w5⟨rfl,hb5⟩;have HB5:=AB ((AA HBQ).trans (hb5.mono (AA HBQ).size));have HX5:=AB ((AA HBX).below AC hb5);clear hb5)|(go_at_call 184;refine(AA HP _).mono ?_;rintro e w1⟨rfl,hw⟩;obtain rfl:=hw.symm));refine bodyPost_ret (v:=Bx 0 0 ⟨#[]⟩ 0 1) (by simp[results,results152,go_sem,q0,q1,q2,q3,Bx]) rfl ?_;exact⟨rfl,(((((AA HB6).setCell AC _).setCell AC _).setCell AC _).setCell AC _)⟩
def Mr(t d r x:AE)(H:Bool)(c l:Nat)(n:Nat)(w:World)(hH:CM t 0=H)(hd:(if H=true then t.extract 2 t.size else t)=d)(hc:Bp Es d=c)(hr:d.extract c d.size=r)(hx:d.extract 0 c=x)(hl:Bp El r=l)(hs:t.size<=17592186044416)(h0:c≠0)(h1:l=0)(h2:CM r 0=false)(h3:Lib.atoiAll x.data.toList=.ok (n:Int))(h4:1000000000000000<n):Calls prog 152 #[.string t] w fun e w'=>e=.returned (Bx 0 0 ⟨#[]⟩ 0 7)/\Below w.heap.size w w':=by
 have hds:d.size<=t.size:=by
  rw[<-hd];by_cases hh:H=true
  .rw[AL hh,A4];omega
  .rw[AG hh];exact AC
 have hle:c<=d.size:=by rw[<-hc];exact DV _ _
 have hrs:r.size<=d.size:=by rw[<-hr,A4];omega
 have hxs:x.size<=d.size:=by rw[<-hx,BH];omega
 have hlr:l<=r.size:=by rw[<-hl];exact DV _ _
 obtain⟨Q,hQ⟩:∃Q,Q=w.alloc (.cells #[.int .i64 0,.int .i64 0,.string ⟨#[]⟩,.int .i64 0] 64):=⟨_,rfl⟩
 have HQ:=AB hQ;have HBX:Hid (D9 Q w.heap.size (.int .i64 0) (.int .i64 0) (.string ⟨#[]⟩) (.int .i64 0)):=by rw[hQ];exact D9.new w _ _ _ _
 have HBQ:Hid (Below w.heap.size w Q):=by rw[hQ];exact AI.alloc AC _
 clear hQ;have HT:=AB (Ex t);have HS1:=AB (fun W=>CR 151 Su Es (fun v W=>DR v W) d W (by omega));have HS2:=AB (fun W=>CR 154 St El (fun v W=>DA v W) r W (by omega));have HP:=AB (Fs r);have hsl:=fun W=>F7 (s:=d) (q:=c) hle W;have hsx:=fun W=>Fd (s:=d) (q:=c) hle W;rw[hH,hd]at HT;rw[hc]at HS1;rw[hl]at HS2;rw[hr]at hsl;rw[hx]at hsx;clear hH hd hc hr hx hl;have h0i:¬(c:Int)=0:=by omega
 subst h1;rw[h2]at HP;clear h2;have h4i:(1000000000000000:Int)<(n:Int):=by omega
 have HA:=AB (fun W=>P5 x n (by omega) h3 W);clear h3;go_enter func152,ntmps152;go_wp2_with(first|(go_at_call 182;rw[<-AA HQ];refine(AA HT _).mono ?_;rintro e w1⟨rfl,hw⟩;obtain rfl:=hw.symm)|(have hz5:=HB5;clear hz5;go_at_call 183;refine(AA HS2 _).mono ?_;rintro e w6⟨rfl,hb6⟩;have HB6:=AB ((AA HB5).trans (hb6.mono (AA HB5).size));have HX6:=AB ((AA HX5).below AC hb6);clear hb6)|(go_at_call 183;refine(AA HS1 _).mono ?_;rintro e w5⟨rfl,hb5⟩;have HB5:=AB ((AA HBQ).trans (hb5.mono (AA HBQ).size));have HX5:=AB ((AA HBX).below AC hb5);clear hb5)|(go_at_call 184;refine(AA HP _).mono ?_;rintro e w1⟨rfl,hw⟩;obtain rfl:=hw.symm)|(go_at_call 185;refine(AA HA _).mono ?_;rintro e w7⟨rfl,hb7⟩;have HB7:=AB ((AA HB6).trans (hb7.mono (AA HB6).size));obtain⟨q0,q1,q2,q3,f0,f1,f2,f3⟩:=((AA HX6).below AC hb7).all;clear hb7));refine bodyPost_ret (v:=Bx 0 0 ⟨#[]⟩ 0 7) (by simp[results,results152,go_sem,q0,q1,q2,q3,Bx]) rfl ?_;exact⟨rfl,(((((AA HB7).setCell AC _).setCell AC _).setCell AC _).setCell AC _)⟩
def IG(v:Nat):Bool:= !(decide (v=39))&&!(decide (v=10))
def RF(v:Nat)(x b:AE)(hx:Utf8.encode (v:Int)=x)(c:Nat)(he:Utf8.encode (v:Int)=b↔v=c):x.toList=b.toList↔v=c:=by rw[<-hx,<-he,Lib.toList_data,Lib.toList_data];exact⟨fun e=>CJ (CI.1 e),fun e=>by rw[e]⟩
def am(v:Nat)(x:AE)(hx:Utf8.encode (v:Int)=x):x.toList= [39]↔v=39:=by have e:=RF v x ⟨#[39]⟩ hx 39 (Z5 v 39 (by omega));simp only[Lib.toList_data]at e ⊢;exact e
def cK(v:Nat)(x:AE)(hx:Utf8.encode (v:Int)=x):x.toList= [194,175]↔v=175:=by have e:=RF v x ⟨#[194,175]⟩ hx 175 (YI v);simp only[Lib.toList_data]at e ⊢;exact e
def RH(v:Nat)(x:AE)(hx:Utf8.encode (v:Int)=x)(w:World):(convert 21 9 (.int .i32 (v:Int))).run prog w=.ok (.string x) w:=by rw[<-hx];exact run_convert_int_string w _ _ .i32 _ (by kernel_rfl) (by kernel_rfl)
def NQ(v:Nat)(w:World):Calls prog 186 #[.int .i32 (v:Nat)] w fun e w'=>e=.returned (.bool (IG v))/\w'=w:=by
 obtain⟨r,hr⟩:∃r,IG v=r:=⟨_,rfl⟩
 rw[hr];have HR:=AB hr;clear hr;obtain⟨x,hx⟩:∃x,Utf8.encode (v:Int)=x:=⟨_,rfl⟩
 have he:=am v x hx;have hcv:=RH v x hx;clear hx;by_cases h1:v=39
 .have hq:=he.2 h1;have HX:=AB h1;clear h1 he;go_enter func186,ntmps186
  go_wp2
  go_ret;exact⟨AN (by rw[<-AA HR,IG,AK (AA HX)];rfl),rfl⟩
 .have hq:¬ x.toList= [39]:=fun h=>h1 (he.1 h);have HX:=AB h1;clear h1 he;go_enter func186,ntmps186
  go_wp2
  go_ret;refine⟨AN ?_,rfl⟩;rw[<-AA HR,IG,AD (AA HX)];by_cases h2:v=10
  .subst h2;simp
  .have h2i:¬(v:Int)=10:=by omega
   rw[AD h2];simp[h2i,hq]
def dy:∀args w,(callFunc 186 args).run prog w=.ok (.enter 186 args) w:=enters_of func186 (by kernel_rfl) rfl
def Dx(v:Nat):Nat:=if Es v=true\/v=175 then 152 else if v=39 then 153 else if El v=true then 155 else 156
def PJ(v:Nat)(w:World):Calls prog 100 #[.int .i32 (v:Nat)] w fun e w'=>e=.returned (.func (.func (Dx v)) #[] #[])/\w'=w:=by
 have HD:=AB (DR v w);have HL:=AB (DA v w);obtain⟨x,hx⟩:∃x,Utf8.encode (v:Int)=x:=⟨_,rfl⟩
 have he39:=am v x hx;have he175:=cK v x hx;have hcv:=RH v x hx;clear hx;cases hd:Es v with
 |true=>
  have HE:Hid (Dx v=152):=AB (by unfold Dx;rw[AL (Or.inl hd)]);rw[hd]at HD;clear HL he39 he175;go_enter func100,ntmps100;go_wp2_with(go_at_call 151;refine(AA HD).mono ?_;rintro e w1⟨rfl,hw⟩;obtain rfl:=hw.symm);go_ret;exact⟨by rw[AA HE];rfl,rfl⟩
 |false=>
  rw[hd]at HD;by_cases h1:v=175
  .have HE:Hid (Dx v=152):=AB (by unfold Dx;rw[AL (Or.inr h1)]);have he:=he175.2 h1;clear HL h1 hd he39 he175;go_enter func100,ntmps100;go_wp2_with(go_at_call 151;refine(AA HD).mono ?_;rintro e w1⟨rfl,hw⟩;obtain rfl:=hw.symm);go_ret;exact⟨by rw[AA HE];rfl,rfl⟩
  .have he:¬ x.toList= [194,175]:=fun h=>h1 (he175.1 h);have heb:(x.toList== [194,175])=false:=BC.2 he;have hno:¬(Es v=true\/v=175):=by rw[hd];simp[h1]
   clear h1 hd he175;by_cases h2:v=39
   .have HE:Hid (Dx v=153):=AB (by unfold Dx;rw[AG hno,AL h2]);have he2:=he39.2 h2;clear HL h2 hno he39 he heb;go_enter func100,ntmps100;go_wp2_with(go_at_call 151;refine(AA HD).mono ?_;rintro e w1⟨rfl,hw⟩;obtain rfl:=hw.symm);go_ret;exact⟨by rw[AA HE];rfl,rfl⟩
   .have he2:¬ x.toList= [39]:=fun h=>h2 (he39.1 h);have heb2:(x.toList== [39])=false:=BC.2 he2;cases hl:El v with
    |true=>
     have HE:Hid (Dx v=155):=AB (by unfold Dx;rw[AG hno,AG h2,AL hl]);rw[hl]at HL;clear h2 hno hl he39;go_enter func100,ntmps100;go_wp2_with(first|(go_at_call 151;refine(AA HD).mono ?_;rintro e w1⟨rfl,hw⟩;obtain rfl:=hw.symm)|(go_at_call 154;refine(AA HL).mono ?_;rintro e w1⟨rfl,hw⟩;obtain rfl:=hw.symm));go_ret;exact⟨by rw[AA HE];rfl,rfl⟩
    |false=>
     have HE:Hid (Dx v=156):=AB (by unfold Dx;rw[AG hno,AG h2,AG (by rw[hl];decide)]);rw[hl]at HL;clear h2 hno hl he39;go_enter func100,ntmps100;go_wp2_with(first|(go_at_call 151;refine(AA HD).mono ?_;rintro e w1⟨rfl,hw⟩;obtain rfl:=hw.symm)|(go_at_call 154;refine(AA HL).mono ?_;rintro e w1⟨rfl,hw⟩;obtain rfl:=hw.symm));go_ret;exact⟨by rw[AA HE];rfl,rfl⟩
def Fv(s:AE)(i:Nat):(s.extract i s.size).data.toList=s.data.toList.drop i:=by rw[Cq,AO];rw[DO,<-Lib.size_eq];exact AC
def JZ(s:AE)(i j:Nat):(s.extract i s.size).extract j (s.extract i s.size).size=s.extract (i+j) s.size:=by refine CJ (CI.1 ?_);rw[Fv,Fv,Fv,Hn]
def Cd(s:AE)(i:Nat):Bool:=decide (i+1<=s.size/\bt s i=39)
def E5(s:AE)(p:Nat):Nat:=p+Bp IG (s.extract p s.size)
def IL(s:AE):Nat->Nat->List UInt8->Option (Nat×List UInt8)
 |0,_,_=>none
 |f+1,p,out=>
  if Cd s (E5 s p)=true then
   (if Cd s (E5 s p+1)=true then IL s f (E5 s p+2) (out++(s.extract p (E5 s p)).data.toList++ [39])else some (E5 s p+1,out++(s.extract p (E5 s p)).data.toList))
  else none
def CA{s:AE}{i:Nat}(h:i<s.size):i+(Utf8.decode s i).2<=s.size:=by
 rw[BX];split
 .exact h
 .split
  .rename_i c
   have:=(EL c.2).1;split<;>simp<;>omega
  .split
   .rename_i c
    have:=(EL c.2.2).1;split<;>simp<;>omega
   .split
    .rename_i c
     have:=(EL c.2.2.2).1;split<;>simp<;>omega
    .simp;omega
def MV{q:Nat->Bool}{s:AE}{i:Nat}(hi:i<=s.size):∀(F j:Nat),i+j<=s.size->Ek q (s.extract i s.size) F j+i=Ek q s F (i+j)
 |0,j,_=>by rw[Ek,Ek,A4];omega
 |F+1,j,hj=>by
  rw[Ek,Ek,A4];by_cases h:i+j<s.size
  .rw[AL h,AL (by omega),Hy h];by_cases hq:q (Utf8.decode s (i+j)).1=true
   .rw[AL hq,AL hq];have:=CA h;rw[MV hi F _ (by omega),Ci]
   .rw[AG hq,AG hq];omega
  .rw[AG h,AG (by omega)];omega
def J4{q:Nat->Bool}{s:AE}:∀(F G i:Nat),s.size- i<F->s.size- i<G->Ek q s F i=Ek q s G i
 |0,_,_,h,_=>by omega
 |_+1,0,_,_,h=>by omega
 |F+1,G+1,i,h1,h2=>by
  rw[Ek,Ek];by_cases h:i<s.size
  .rw[AL h,AL h];have:=Lib.decode_width_pos s i h;rw[J4 F G (i+(Utf8.decode s i).2) (by omega) (by omega)]
  .rw[AG h,AG h]
def LC{s:AE}{p:Nat}(h:p<=s.size):E5 s p=Ek IG s (s.size+1) p:=by unfold E5 Bp;have:=MV (q:=IG) h ((s.extract p s.size).size+1) 0 (by omega);rw[Ad]at this;rw[GH,this];exact J4 _ _ _ (by rw[A4];omega) (by omega)
def Qt{s:AE}{p:Nat}(h:p<s.size)(hq:IG (Utf8.decode s p).1=true):E5 s p=E5 s (p+(Utf8.decode s p).2):=by have h1:=CA h;have h2:=Lib.decode_width_pos s p h;rw[LC (by omega),LC h1,Ek,AL h,AL hq];exact J4 _ _ _ (by omega) (by omega)
def NP{s:AE}{p:Nat}(h:p<s.size)(hq:¬ IG (Utf8.decode s p).1=true):E5 s p=p:=by rw[LC (by omega),Ek,AL h,AG hq]
def Lk{s:AE}:E5 s s.size=s.size:=by rw[LC AC,Ek,AG (by omega)]
def Ju(s:AE):Nat->Nat->List UInt8->Option (Nat×List UInt8)
 |0,_,_=>none
 |f+1,p,out=>
  if p<s.size then
   if IG (Utf8.decode s p).1=true then Ju s f (p+(Utf8.decode s p).2) (out++(s.extract p (p+(Utf8.decode s p).2)).data.toList)
   else if Cd s p=true then(if Cd s (p+1)=true then Ju s f (p+2) (out++ [39])else some (p+1,out))
   else none
  else none
def NO{s:AE}:∀(d p:Nat),s.size- p<=d->p<=s.size->p<=E5 s p/\E5 s p<=s.size
 |0,p,hd,hp=>by
  have:p=s.size:=by omega
  subst this;rw[Lk];omega
 |d+1,p,hd,hp=>by
  by_cases h:p<s.size
  .by_cases hq:IG (Utf8.decode s p).1=true
   .have h1:=CA h;have h2:=Lib.decode_width_pos s p h;rw[Qt h hq];have:=NO d (p+(Utf8.decode s p).2) (by omega) h1;omega
   .rw[NP h hq];omega
  .have:p=s.size:=by omega
   subst this;rw[Lk];omega
def V4{s:AE}{F p:Nat}{out:List UInt8}(h:p<s.size)(hq:IG (Utf8.decode s p).1=true):IL s (F+1) p out=IL s (F+1) (p+(Utf8.decode s p).2) (out++(s.extract p (p+(Utf8.decode s p).2)).data.toList):=by
 have h1:=CA h;have h3:=(NO _ (p+(Utf8.decode s p).2) AC h1)
 have e:=Qt h hq;rw[IL,IL,<-e];rw[<-e]at h3;have hx:(s.extract p (E5 s p)).data.toList=(s.extract p (p+(Utf8.decode s p).2)).data.toList++(s.extract (p+(Utf8.decode s p).2) (E5 s p)).data.toList:=by rw[Cq,Cq,Cq,<-Hn,show E5 s p- p=(Utf8.decode s p).2+(E5 s p- (p+(Utf8.decode s p).2)) by omega,List.take_add,show p+(Utf8.decode s p).2- p=(Utf8.decode s p).2 by omega]
 rw[hx];simp only[Aj]
def LO{s:AE}:∀(f F p:Nat)(out:List UInt8),s.size- p<F->s.size- p<f->p<=s.size->IL s F p out=Ju s f p out
 |0,_,_,_,_,h,_=>by omega
 |_+1,0,_,_,h,_,_=>by omega
 |f+1,F+1,p,out,h1,h2,hp=>by
  by_cases h:p<s.size
  .by_cases hq:IG (Utf8.decode s p).1=true
   .have a:=CA h;have b:=Lib.decode_width_pos s p h;rw[V4 h hq,Ju,AL h,AL hq];exact LO f (F+1) _ _ (by omega) (by omega) a
   .have hx:(s.extract p p).data.toList= []:=by rw[Cq,FM];rfl
    rw[IL,Ju,AL h,AG hq,NP h hq,hx,A6];by_cases c:Cd s p=true
    .rw[AL c,AL c];by_cases c2:Cd s (p+1)=true
     .rw[AL c2,AL c2];have:p+2<=s.size:=by unfold Cd at c2;have:=AT c2;omega
      exact LO f F _ _ (by omega) (by omega) this
     .rw[AG c2,AG c2]
    .rw[AG c,AG c]
  .have:p=s.size:=by omega
   subst this;rw[IL,Ju,AG h,Lk,AG (fun c=>by unfold Cd at c;have:=AT c;omega)]
def JO(b:UInt8):Bool:=decide (128<=b.toNat)
def TG:∀(l:List UInt8)(k:Nat),k<=(l.takeWhile JO).length->((k<l.length/\JO (l.getD k 0)=true)↔k<(l.takeWhile JO).length)/\(k<(l.takeWhile JO).length->l.getD k 0=(l.takeWhile JO).getD k 0)
 | [],k,h=>by simp at h ⊢
 |a::t,0,_=>by
  by_cases ha:JO a=true
  .rw[DC ha];simp[ha]
  .rw[Ch ha];simp[ha]
 |a::t,k+1,h=>by
  by_cases ha:JO a=true
  .rw[DC ha]at h ⊢;have:=TG t k (by simpa using h);simpa using this
  .rw[Ch ha]at h;simp at h
def ae{l:List UInt8}{k:Nat}(h:k<l.length):bt ⟨l.toArray⟩ k=(l.getD k 0).toNat:=by rw[Cl (by simpa[ByteArray.size]using h)]
def aU(l:List UInt8)(k:Nat)(h:k<=(l.takeWhile JO).length):tl ⟨l.toArray⟩ k=decide (k<(l.takeWhile JO).length/\((l.takeWhile JO).getD k 0).toNat<192)/\(tl ⟨l.toArray⟩ k=true->bt ⟨l.toArray⟩ k=((l.takeWhile JO).getD k 0).toNat/\k+1<=(l.takeWhile JO).length):=by
 obtain⟨h1,h2⟩:=TG l k h;have key:tl ⟨l.toArray⟩ k=decide (k<(l.takeWhile JO).length/\((l.takeWhile JO).getD k 0).toNat<192):=by
  unfold tl;refine BQ.2 ?_;have hz:(ByteArray.mk l.toArray).size=l.length:=by simp[ByteArray.size]
  rw[hz];constructor
  .rintro⟨a,b,c⟩;rw[ae a]at b c;have:=h1.1 ⟨a,by unfold JO;exact AK b⟩;exact⟨this,by rw[<-h2 this];exact c⟩
  .rintro⟨a,b⟩;obtain⟨c,d⟩:=h1.2 a;rw[<-h2 a]at b;rw[ae c];exact⟨c,by unfold JO at d;exact AT d,b⟩
 refine⟨key,fun ht=> ?_⟩;rw[key]at ht;obtain⟨a,b⟩:=AT ht;rw[ae (h1.2 a).1,h2 a];exact⟨rfl,a⟩
def P0{x y:AE}{i j:Nat}(h0:bt x i=bt y j)(h1:tl x (i+1)=tl y (j+1))(h2:tl y (j+1)=true->bt x (i+1)=bt y (j+1)/\tl x (i+2)=tl y (j+2)/\(tl y (j+2)=true->bt x (i+2)=bt y (j+2)/\tl x (i+3)=tl y (j+3)/\(tl y (j+3)=true->bt x (i+3)=bt y (j+3)))):Utf8.decode x i=Utf8.decode y j:=by
 rw[BX,BX,h0,h1];by_cases c0:bt y j<128
 .rw[AL c0,AL c0]
 .rw[AG c0,AG c0];by_cases t1:tl y (j+1)=true
  .obtain⟨b1,e2,h3⟩:=h2 t1;have w2:v2 x i=v2 y j:=by unfold v2;rw[h0,b1]
   rw[e2,w2];by_cases t2:tl y (j+2)=true
   .obtain⟨b2,e3,h4⟩:=h3 t2;have w3:v3 x i=v3 y j:=by unfold v3;rw[h0,b1,b2]
    rw[e3,w3];by_cases t3:tl y (j+3)=true
    .have w4:v4 x i=v4 y j:=by unfold v4;rw[h0,b1,b2,h4 t3]
     rw[w4]
    .simp[t3]
   .simp[t2]
  .simp[t1]
def P1(l m:List UInt8)(h:l.takeWhile JO=m.takeWhile JO)(hne:l.takeWhile JO≠ []):Lib.decodeL l=Lib.decodeL m:=by
 have hl:0<(l.takeWhile JO).length:=Dm.2 hne;obtain⟨a1,a2⟩:=TG l 0 (by omega);obtain⟨b1,b2⟩:=TG m 0 (by rw[<-h];omega);unfold Lib.decodeL;have z0:bt ⟨l.toArray⟩ 0=bt ⟨m.toArray⟩ 0:=by rw[ae (a1.2 hl).1,ae (b1.2 (by rw[<-h];exact hl)).1,a2 hl,b2 (by rw[<-h];exact hl),h]
 have step:∀k,k<=(l.takeWhile JO).length->tl ⟨l.toArray⟩ k=tl ⟨m.toArray⟩ k/\(tl ⟨m.toArray⟩ k=true->bt ⟨l.toArray⟩ k=bt ⟨m.toArray⟩ k/\k+1<=(l.takeWhile JO).length):=fun k hk=>by
  obtain⟨p1,p2⟩:=aU l k hk;obtain⟨q1,q2⟩:=aU m k (by rw[<-h];exact hk);have e:tl ⟨l.toArray⟩ k=tl ⟨m.toArray⟩ k:=by rw[p1,q1,h]
  exact⟨e,fun ht=>⟨by rw[(p2 (e▸ht)).1,(q2 ht).1,h],(p2 (e▸ht)).2⟩⟩
 obtain⟨s1,s1'⟩:=step 1 (by omega);refine P0 z0 s1 fun t1=>⟨(s1' t1).1,?_⟩
 obtain⟨s2,s2'⟩:=step 2 (s1' t1).2;refine⟨s2,fun t2=>⟨(s2' t2).1,?_⟩⟩;obtain⟨s3,s3'⟩:=step 3 (s2' t2).2;exact⟨s3,fun t3=>(s3' t3).1⟩
def UB{a b c:List UInt8}(h:b.takeWhile JO=c.takeWhile JO):(a++b).takeWhile JO=(a++c).takeWhile JO:=by
 induction a with
 |nil=>exact h
 |cons x t ih=>
  rw[ES,ES];by_cases hx:JO x=true
  .rw[DC hx,DC hx,ih]
  .rw[Ch hx,Ch hx]
def OE{x y:AE}{i j:Nat}(hi:i<x.size)(hb:∀k,i+k<x.size->j+k<y.size/\bt y (j+k)=bt x (i+k))(hg:Utf8.decode x i≠(65533,1)):Utf8.decode y j=Utf8.decode x i:=by
 have e0:bt y j=bt x i:=(hb 0 hi).2;have ht:∀k,tl x (i+k)=true->tl y (j+k)=true/\bt y (j+k)=bt x (i+k):=fun k h=>by obtain⟨p,q,r⟩:=EL h;obtain⟨a,b⟩:=hb k p;refine⟨?_,b⟩;unfold tl;rw[b];exact AK ⟨a,q,r⟩
 rw[BX]at hg;rw[BX,BX x i,e0];by_cases c0:bt x i<128
 .rw[AL c0,AL c0]
 .rw[AG c0]at hg ⊢;rw[AG c0];by_cases c1:bt x i / 32=6/\tl x (i+1)=true
  .have w:v2 y j=v2 x i:=by unfold v2;rw[e0,(ht 1 c1.2).2]
   rw[AL c1,AL ⟨c1.1,(ht 1 c1.2).1⟩,w]
  .rw[AG c1]at hg ⊢;by_cases c2:bt x i / 16=14/\tl x (i+1)=true/\tl x (i+2)=true
   .have w:v3 y j=v3 x i:=by unfold v3;rw[e0,(ht 1 c2.2.1).2,(ht 2 c2.2.2).2]
    rw[AL c2,AG (by omega),AL ⟨c2.1,(ht 1 c2.2.1).1,(ht 2 c2.2.2).1⟩,w]
   .rw[AG c2]at hg ⊢;by_cases c3:bt x i / 8=30/\tl x (i+1)=true/\tl x (i+2)=true/\tl x (i+3)=true
    .have w:v4 y j=v4 x i:=by unfold v4;rw[e0,(ht 1 c3.2.1).2,(ht 2 c3.2.2.1).2,(ht 3 c3.2.2.2).2]
     rw[AL c3,AG (by omega),AG (by omega),AL ⟨c3.1,(ht 1 c3.2.1).1,(ht 2 c3.2.2.1).1,(ht 3 c3.2.2.2).1⟩,w]
    .rw[AG c3]at hg;exact absurd rfl hg
def Nd{a b:List UInt8}(ha:a≠ [])(hg:Lib.decodeL a≠(65533,1)):Lib.decodeL (a++b)=Lib.decodeL a:=by
 have hl:0<a.length:=Dm.2 ha;unfold Lib.decodeL at hg ⊢;have hz:(ByteArray.mk a.toArray).size=a.length:=by simp[ByteArray.size]
 refine OE (by omega) (fun k hk=> ?_) hg;have h1:0+k<a.length:=by omega
 have h2:0+k<(a++b).length:=by rw[AH];omega
 refine⟨by simpa[ByteArray.size]using h2,?_⟩;rw[ae h1,ae h2];congr 1;simp only[AP];rw[Bw h1]
def Ge:∀(n:Nat)(a b:List UInt8),a.length<=n->Lib.validD a=true->Lib.validD (a++b)=Lib.validD b
 |0,a,b,hn,_=>by
  have:a= []:=List.eq_nil_of_length_eq_zero (by omega);subst this;rfl
 |n+1,a,b,hn,hv=>by
  by_cases ha:a= []
  .subst ha;rfl
  .have hl:0<a.length:=Dm.2 ha;rw[Lib.validD_step a ha]at hv;by_cases hg:(Lib.decodeL a).1=65533/\(Lib.decodeL a).2=1
   .rw[AL hg]at hv;cases hv
   .rw[AG hg]at hv;have hg':Lib.decodeL a≠(65533,1):=fun e=>hg ⟨by rw[e],by rw[e]⟩;have hw:=Lib.decodeL_width a;have hle:(Lib.decodeL a).2<=a.length:=by have:=CA (s:=⟨a.toArray⟩) (i:=0) (by simpa[ByteArray.size]using hl);simpa[ByteArray.size,Lib.decodeL]using this
    rw[Lib.validD_step (a++b) (by simp[ha]),Nd ha hg',AG hg,List.drop_append_of_le_length hle];exact Ge n _ b (by rw[DO];omega) hv
def Sv{s x:AE}{p n:Nat}(hn:(Utf8.decode s p).2=n)(hp:1<=n)(hxs:x.size=n)(hb:∀k,k<n->p+k<s.size/\bt x k=bt s (p+k))(hg:Utf8.decode s p≠(65533,1)):Utf8.decode x 0=Utf8.decode s p:=by
 have ht:∀k,k<n->tl x (0+k)=tl s (p+k):=fun k hk=>by unfold tl;rw[BY,(hb k hk).2,hxs];exact BQ.2 ⟨fun⟨_,b⟩=>⟨(hb k hk).1,b⟩,fun⟨_,b⟩=>⟨hk,b⟩⟩
 have e0:bt x 0=bt s p:=by rw[(hb 0 (by omega)).2,Ad]
 have hd:=BX s p;rw[BX x 0,hd,e0];rw[hd]at hn;by_cases c0:bt s p<128
 .rw[AL c0,AL c0]
 .rw[AG c0]at hd hn ⊢;rw[AG c0];by_cases c1:bt s p / 32=6/\tl s (p+1)=true
  .rw[AL c1]at hd hn;have hn:n=2:=by
    by_cases c:128<=v2 s p
    .rw[AL c]at hn;exact hn.symm
    .rw[AG c]at hd;exact absurd hd hg
   have w:v2 x 0=v2 s p:=by unfold v2;rw[e0,(hb 1 (by omega)).2]
   rw[AL c1,AL ⟨c1.1,by rw[ht 1 (by omega)];exact c1.2⟩,w]
  .rw[AG c1]at hd hn ⊢;by_cases c2:bt s p / 16=14/\tl s (p+1)=true/\tl s (p+2)=true
   .rw[AL c2]at hd hn;have hn:n=3:=by
     by_cases c:2048<=v3 s p/\Utf8.valid (v3 s p:Nat)=true
     .rw[AL c]at hn;exact hn.symm
     .rw[AG c]at hd;exact absurd hd hg
    have w:v3 x 0=v3 s p:=by unfold v3;rw[e0,(hb 1 (by omega)).2,(hb 2 (by omega)).2]
    rw[AL c2,AG (by omega),AL ⟨c2.1,by rw[ht 1 (by omega)];exact c2.2.1,by rw[ht 2 (by omega)];exact c2.2.2⟩,w]
   .rw[AG c2]at hd hn ⊢;by_cases c3:bt s p / 8=30/\tl s (p+1)=true/\tl s (p+2)=true/\tl s (p+3)=true
    .rw[AL c3]at hd hn;have hn:n=4:=by
      by_cases c:65536<=v4 s p/\Utf8.valid (v4 s p:Nat)=true
      .rw[AL c]at hn;exact hn.symm
      .rw[AG c]at hd;exact absurd hd hg
     have w:v4 x 0=v4 s p:=by unfold v4;rw[e0,(hb 1 (by omega)).2,(hb 2 (by omega)).2,(hb 3 (by omega)).2]
     rw[AL c3,AG (by omega),AG (by omega),AL ⟨c3.1,by rw[ht 1 (by omega)];exact c3.2.1,by rw[ht 2 (by omega)];exact c3.2.2.1,by rw[ht 3 (by omega)];exact c3.2.2.2⟩,w]
    .rw[AG c3]at hd;exact absurd hd hg
def Rn{s:AE}{p:Nat}(h:p<s.size)(hg:Utf8.decode s p≠(65533,1)):Lib.validD (s.extract p (p+(Utf8.decode s p).2)).data.toList=true:=by
 have h1:=CA h;have h2:=Lib.decode_width_pos s p h;obtain⟨n,hn⟩:∃n,(Utf8.decode s p).2=n:=⟨_,rfl⟩
 rw[hn]at h1 h2 ⊢;have Ae:(s.extract p (p+n)).data.toList.length=n:=by rw[Cq,CF,DO,<-Lib.size_eq];omega
 have hdec:Lib.decodeL (s.extract p (p+n)).data.toList=Utf8.decode s p:=by unfold Lib.decodeL;refine Sv hn h2 Ae (fun k hk=>⟨by omega,?_⟩) hg;rw[ae (by rw[Ae];exact hk),Cl (by omega),Cq];simp only[AP,BN,Dw];rw[AL (by omega)]
 have hne:(s.extract p (p+n)).data.toList≠ []:=List.ne_nil_of_length_pos (by omega);rw[Lib.validD_step _ hne,hdec,AG (fun h=>hg (Prod.ext h.1 h.2)),hn,List.drop_of_length_le (by omega)];rfl
def Py{s:AE}:∀(f p:Nat)(out:List UInt8)(e:Nat)(o:List UInt8),Ju s f p out=some (e,o)->p<=s.size->∃r,o=out++r/\r.takeWhile JO=(s.data.toList.drop p).takeWhile JO
 |0,_,_,_,_,h,_=>by rw[Ju]at h;cases h
 |f+1,p,out,e,o,h,hp=>by
  rw[Ju]at h;by_cases hlt:p<s.size
  .rw[AL hlt]at h;have hl:p<s.data.toList.length:=by rw[<-Lib.size_eq];exact hlt
   by_cases hq:IG (Utf8.decode s p).1=true
   .rw[AL hq]at h;have h1:=CA hlt;obtain⟨r,hr,ht⟩:=Py f _ _ e o h h1;refine⟨(s.extract p (p+(Utf8.decode s p).2)).data.toList++r,by rw[hr,Aj],?_⟩;rw[UB ht,Cq,C1,<-Hn,GU]
   .rw[AG hq]at h;by_cases c:Cd s p=true
    .have hb:JO (s.data.toList[p])=false:=by unfold Cd at c;have c2:=(AT c).2;rw[Cl hlt,AP,AR hl]at c2;rw[Cz]at c2;unfold JO;exact AD (by omega)
     have hz:(s.data.toList.drop p).takeWhile JO= []:=by rw[CL hl,Ch (by rw[hb];simp)]
     rw[AL c]at h;by_cases c2:Cd s (p+1)=true
     .rw[AL c2]at h;have h2:p+2<=s.size:=by unfold Cd at c2;have:=AT c2;omega
      obtain⟨r,hr,ht⟩:=Py f _ _ e o h h2;refine⟨39::r,by rw[hr,Aj];rfl,?_⟩;rw[hz,Ch (by decide)]
     .rw[AG c2]at h;obtain⟨rfl,rfl⟩:p+1=e/\out=o:=by simpa using h
      exact⟨[],by simp,by rw[hz];rfl⟩
    .rw[AG c]at h;cases h
  .rw[AG hlt]at h;cases h
def bY{s:AE}{p:Nat}(hq:¬ IG (Utf8.decode s p).1=true):bt s p=39\/bt s p=10:=by
 have hv:(Utf8.decode s p).1=39\/(Utf8.decode s p).1=10:=by
  unfold IG at hq;by_cases a:(Utf8.decode s p).1=39
  .exact Or.inl a
  .by_cases b:(Utf8.decode s p).1=10
   .exact Or.inr b
   .simp[a,b]at hq
 have hb:bt s p<128:=by
  by_cases h:bt s p<128
  .exact h
  .have:=Jm h;omega
 rw[BX,AL hb]at hv;exact hv
def dg{s:AE}{p:Nat}(hq:IG (Utf8.decode s p).1=true):bt s p≠39/\bt s p≠10:=by
 constructor
 .intro e;rw[BX,AL (by omega),e]at hq;exact absurd hq (by decide)
 .intro e;rw[BX,AL (by omega),e]at hq;exact absurd hq (by decide)
def Px{s:AE}:∀(f p:Nat)(out:List UInt8),p<=s.size->Lib.validD out=true->BF s f p out=match Ju s f p out with
  |none=>Di 1
  |some (e,o)=>if Lib.validD o=true then⟨2,0,⟨o.toArray⟩,e,0⟩else Di 1
 |0,_,_,_,_=>by rw[BF,Ju]
 |f+1,p,out,hp,hv=>by
  rw[BF,Ju];by_cases hlt:p<s.size
  .rw[AL hlt,AL hlt];by_cases hq:IG (Utf8.decode s p).1=true
   .obtain⟨n39,n10⟩:=dg hq;rw[AG n39,AL hq];by_cases hg:Utf8.decode s p=(65533,1)
    .have hr:Am s p=(0,0):=D4 hg;rw[AL (Or.inl (by rw[hr]))];cases hd:Ju s f (p+(Utf8.decode s p).2) (out++(s.extract p (p+(Utf8.decode s p).2)).data.toList)with
     |none=>rfl
     |some x=>
      obtain⟨e,o⟩:=x;have hd2:Ju s (f+1) p out=some (e,o):=by rw[Ju,AL hlt,AL hq];exact hd
      obtain⟨r,hr,ht⟩:=Py (f+1) p out e o hd2 hp;have hl:p<s.data.toList.length:=by rw[<-Lib.size_eq];exact hlt
      have hhi:JO (s.data.toList[p])=true:=by
       have hb:¬ bt s p<128:=fun h=>by rw[BX,AL h]at hg;have:=AV Prod.fst hg;simp at this;omega
       rw[Cl hlt,AP,AR hl]at hb;unfold JO;exact AK (by simpa using hb)
      have hne:(s.data.toList.drop p).takeWhile JO≠ []:=by rw[CL hl,DC hhi];exact List.cons_ne_nil _ _
      have hdl:Lib.decodeL r=(65533,1):=by rw[P1 r (s.data.toList.drop p) ht (by rw[ht];exact hne),<-hg,<-Fv];exact(Hy (i:=p) (j:=0) hlt)
      have hrn:r≠ []:=fun e=>by rw[e]at ht;exact hne ht.symm
      have hvf:Lib.validD o=false:=by rw[hr,Ge _ out r AC hv,Lib.validD_step r hrn,hdl];rfl
      show Di 1=if Lib.validD o=true then _ else Di 1
      rw[hvf,AG (by decide)]
    .have hr:Am s p=Utf8.decode s p:=by unfold Am;rw[AG hg]
     have h1:=CA hlt;have h2:=Lib.decode_width_pos s p hlt;rw[hr,AG (fun h=>by rcases h with h|h<;>omega)];exact Px f _ _ h1 (by rw[Ge _ out _ AC hv];exact Rn hlt hg)
   .rw[AG hq];rcases bY hq with h39|h10
    .have c:Cd s p=true:=by unfold Cd;exact AK ⟨hlt,h39⟩
     have hqq:Eo s p=Cd s (p+1):=by unfold Eo Cd;exact BQ.2 ⟨fun⟨a,_,b⟩=>⟨a,b⟩,fun⟨a,b⟩=>⟨a,h39,b⟩⟩
     rw[AL h39,AL c,hqq];by_cases c2:Cd s (p+1)=true
     .rw[AL c2,AL c2];have h2:p+2<=s.size:=by unfold Cd at c2;have:=AT c2;omega
      exact Px f _ _ h2 (by rw[Ge _ out _ AC hv];decide)
     .rw[AG c2,AG c2];show _=if Lib.validD out=true then _ else Di 1
      rw[AL hv]
    .rw[AG (by omega),AL (Or.inr h10),AG (fun c=>by unfold Cd at c;have:=AT c;omega)]
  .rw[AG hlt,AG hlt]
def QD{s:AE}{i j:Nat}:Eo (s.extract i s.size) j=Eo s (i+j):=by
 unfold Eo;by_cases h:i+j+2<=s.size
 .rw[EH (by omega),EH (by omega),A4];exact BQ.2 ⟨fun⟨_,b⟩=>⟨h,b⟩,fun⟨_,b⟩=>⟨by omega,b⟩⟩
 .rw[AD (fun hh=>h (by have:=hh.1;rw[A4]at this;omega)),AD (fun hh=>h hh.1)]
def J7(i:Nat)(g:Vp):Vp:=if g.c=0 then⟨g.k,g.n,g.t,g.e+i,g.c⟩else Di 1
def IM(i:Nat):J7 i (Di 1)=Di 1:=by unfold J7;rw[AG (by simp[Di])]
def MT{s:AE}{i:Nat}:∀(f p:Nat)(out:List UInt8),BF s f (i+p) out=J7 i (BF (s.extract i s.size) f p out)
 |0,p,out=>by rw[BF,BF,IM]
 |f+1,p,out=>by
  rw[BF,BF];by_cases h:i+p<s.size
  .have hd:Am (s.extract i s.size) p=Am s (i+p):=by unfold Am;rw[Hy h]
   have h2:p<(s.extract i s.size).size:=by rw[A4];omega
   rw[AL h,AL h2,EH h,QD,hd];by_cases c1:bt s (i+p)=39
   .rw[AL c1,AL c1];by_cases c2:Eo s (i+p)=true
    .rw[AL c2,AL c2];exact MT f (p+2) _
    .rw[AG c2,AG c2];unfold J7;rw[AL rfl];simp only[Vp.mk.injEq,true_and,and_true];omega
   .rw[AG c1,AG c1];by_cases c2:(Am s (i+p)).2=0\/bt s (i+p)=10
    .rw[AL c2,AL c2,IM]
    .rw[AG c2,AG c2];have hw:i+p+(Am s (i+p)).2<=s.size:=by
      by_cases hg:Utf8.decode s (i+p)=(65533,1)
      .exact absurd (Or.inl (by rw[D4 hg])) c2
      .have hr:Am s (i+p)=Utf8.decode s (i+p):=by unfold Am;rw[AG hg]
       rw[hr];exact CA h
     have hx:(s.extract i s.size).extract p (p+(Am s (i+p)).2)=s.extract (i+p) (i+p+(Am s (i+p)).2):=by refine CJ (CI.1 ?_);rw[Cq,Fv,Cq,Hn,C1,C1]
     rw[hx,Ci];exact MT f _ _
  .have h2:¬ p<(s.extract i s.size).size:=by rw[A4];omega
   rw[AG h,AG h2,IM]
def SH:List Nat:= [43,45,215,247,8970,8968,124,42,61,8800,60,8804,8805,62,8743,8744,126,9076,9075,44,9021,8854,9033,8593,8595,9035,9042,8714,47,9023,8869,8868,8802]
def OV:AE:=⟨(SH.flatMap fun c=>((BW (c:Nat)).map fun x=>x.toNat.toUInt8)++ [32]).toArray⟩
def Ii:List AE:=SH.map fun c=>BU (BW (c:Nat))
def QW:(Lz OV OV.size).2=Ii:=by kernel_rfl
def SF:Ii.length=33:=by kernel_rfl
def UZ:OV.size<=100000:=by
 have:OV.size=110:=by kernel_rfl
 omega
def Qf(w:World):Calls prog 122 #[] w (Jq w Ii):=by
 have HC:∀x:AE,x=OV->Calls prog 141 #[.string x] w (Jq w Ii):=fun x h=>by rw[h,<-QW];exact NF OV w UZ
 have HL:=AB HC;clear HC;go_enter func122,ntmps122;go_wp2_with(go_at_call 141;refine(AA HL _ (by kernel_rfl)).mono ?_;rintro e w5⟨g,cap,rfl,hr,hb⟩;have HR:=AB hr;have HB:=AB hb;clear hr hb);go_ret;exact⟨g,cap,rfl,AA HR,AA HB⟩
def VJ(st:List (Nat×Nat))(n:Nat):List Int:=st.map (fun p=>((p.1:Nat):Int)- 1)++List.replicate (n- st.length) 0
def Nv(st:List (Nat×Nat))(n:Nat):List Int:=st.map (fun p=>((p.2:Nat):Int))++List.replicate (n- st.length) 0
def TL{α:Type}(l:List α)(m:Nat)(z x:α)(h:0<m):(l++List.replicate m z).set l.length x=(l++ [x])++List.replicate (m- 1) z:=by
 obtain⟨k,rfl⟩:∃k,m=k+1:=⟨m- 1,by omega⟩
 rw[List.replicate_succ,List.set_append_right _ _ AC,FM,List.set_cons_zero,Aj];rfl
def Zt{st:List (Nat×Nat)}{n:Nat}(h:st.length<n)(p:Nat×Nat):(VJ st n).set st.length (((p.1:Nat):Int)- 1)=VJ (st++ [p]) n:=by unfold VJ;have:=TL (st.map (fun p:Nat×Nat=>((p.1:Nat):Int)- 1)) (n- st.length) 0 (((p.1:Nat):Int)- 1) (by omega);rw[AS]at this;rw[this,Ao,AH,show n- st.length- 1=n- (st.length+ [p].length) by simp;omega];rfl
def Y8{st:List (Nat×Nat)}{n:Nat}(h:st.length<n)(p:Nat×Nat):(Nv st n).set st.length ((p.2:Nat):Int)=Nv (st++ [p]) n:=by unfold Nv;have:=TL (st.map (fun p:Nat×Nat=>((p.2:Nat):Int))) (n- st.length) 0 ((p.2:Nat):Int) (by omega);rw[AS]at this;rw[this,Ao,AH,show n- st.length- 1=n- (st.length+ [p].length) by simp;omega];rfl
def WC{st:List (Nat×Nat)}{n:Nat}(h:st.length<n):(Nv st n).set st.length 0=Nv st n:=by
 apply List.ext_getElem?;intro j;rw[IB];by_cases e:st.length=j
 .subst e;unfold Nv;rw[A5 (by simp)];simp[show 0<n- st.length by omega]
 .rw[AG e]
def Pp{st:List (Nat×Nat)}{n:Nat}(h:st.length<=n):(VJ st n).length=n:=by unfold VJ;simp;omega
def PA{st:List (Nat×Nat)}{n:Nat}(h:st.length<=n):(Nv st n).length=n:=by unfold Nv;simp;omega
def Tp{st:List (Nat×Nat)}{n y:Nat}(h:y<st.length):(VJ st n).getD y 0=(((st.getD y (0,0)).1:Nat):Int)- 1:=by unfold VJ;simp[List.getD_eq_getElem?_getD,List.getElem?_append_left,h]
def Y9{st:List (Nat×Nat)}{n y:Nat}(h:y<st.length)(x:Int):((Nv st n).set st.length x).getD y 0=(((st.getD y (0,0)).2:Nat):Int):=by unfold Nv;rw[AP,IB,AG (by omega)];simp[List.getElem?_append_left,h]
def bG{st:List (Nat×Nat)}{n:Nat}(h:st.length<n)(x:Int):((Nv st n).set st.length x).getD st.length 0=x:=by rw[AP,IB,AL rfl,AL (by rw[PA (by omega)];omega)];rfl
def EF.drewT{S:Nat->Prop}{w w':World}(h:EF S w w'):EF S w w'.drew:=⟨h.os,h.tape,h.output,h.size,h.block⟩
def SO{ns:List AM}{i:Nat}(h:EG ns (i+1)=none)(hi:i<ns.length):G4 ns=false:=by have:=M3 h (ns.length- (i+1));rw[show i+1+(ns.length- (i+1))=ns.length by omega]at this;unfold G4;rw[this]
def J0(a:Option Addr)(n cap:Nat)(ns:List AM)(w:World)(h:Db w a n ns)(hsm:P9 ns n)(hn:1<=n/\n<=600):Calls prog 30 #[.agg #[.slice a n cap]] w fun e w'=>e=.returned (.bool (G4 ns))/\Below w.heap.size w w':=by
 have Ae:=h.len;obtain⟨r,hr⟩:∃r,G4 ns=r:=⟨_,rfl⟩
 rw[hr];have HR:=AB hr;obtain⟨Q,hQ⟩:∃Q,Q=w.alloc (.cells #[.slice a n cap] 29):=⟨_,rfl⟩
 have HQ:=AB hQ;have HBQ:Hid (Below w.heap.size w Q):=by rw[hQ];exact AI.alloc AC _
 have hQlt:w.heap.size<Q.heap.size:=by rw[hQ];simp
 have HQS:Hid (Q.heap.size=w.heap.size+1):=by rw[hQ];show(w.alloc _).heap.size=_;simp
 have HQC:Hid (Q.cell? ⟨w.heap.size,0,none⟩=some (.slice a n cap)):=by rw[hQ];show(w.alloc _).cell? _=_;simp
 have H:=AB h;have HSM:=AB hsm;obtain⟨i0,hi,hz0,hz1,hz2⟩:=info_parts Dt;clear h hsm hQ hr;go_enter func30,ntmps30;go_wp2_with(first|(have hz9:=HF1;clear hz9;at_make;refine wpList_make_full _ rfl _ _ 45 rfl w1.heap.size 3 i0 (.int .i64 0) 1 underlying45 hi hz0 hz1 _ _ _ _ n rfl rfl rfl rfl (by rw[hz2];omega) (by unfold maxLen;omega) AC ?_;intro w2 hown2 hgrow2;have hb2:Below w1.heap.size w1 w2:=AI.grown hgrow2 AC (by simp);have ct2:w2.cell? ⟨w.heap.size,0,none⟩=some (.slice a n cap):=(hb2.cell (p:=⟨w.heap.size,0,none⟩) hsz1).trans ct1;have HF2:=AB (And.intro hown2 hb2);clear hown2 hgrow2 hb2 ct1)|(at_make;refine wpList_make_full _ rfl _ _ 45 rfl (w.heap.size+1) 3 i0 (.int .i64 0) 1 underlying45 hi hz0 hz1 _ _ _ _ n rfl rfl rfl rfl (by rw[hz2];omega) (by unfold maxLen;omega) (by simp) ?_;intro w1 hown1 hgrow1;have hb1:Below (w.heap.size+1) (w.alloc (.cells #[.slice a n cap] 29)) w1:=AI.grown hgrow1 (by simp) (by simp);have ct1:w1.cell? ⟨w.heap.size,0,none⟩=some (.slice a n cap):=(hb1.cell (p:=⟨w.heap.size,0,none⟩) (by show w.heap.size<w.heap.size+1;omega)).trans (by rw[<-AA HQ];exact AA HQC);have hsz1:w.heap.size<w1.heap.size:=(by have:=hb1.size;simp at this;omega);have HF1:=AB (And.intro hown1 hb1);clear hown1 hgrow1 hb1));obtain⟨hown1,hb1⟩:=AA HF1;obtain⟨hown2,hb2⟩:=AA HF2;have hblk1:Hj w1 (w.heap.size+1) (List.replicate n 0):=Hj.of_owns (n:=n) (base:=w.heap.size+1) (by simpa[toList_madeCells_one,Value.cells]using hown1);have hblk2:Hj w2 w1.heap.size (List.replicate n 0):=Hj.of_owns (n:=n) (base:=w1.heap.size) (by simpa[toList_madeCells_one,Value.cells]using hown2);have hgf:w.heap.size+1<w1.heap.size:=hblk1.lt;have hgs:w1.heap.size<w2.heap.size:=hblk2.lt;have HBK1:Hid (Hj w2 (w.heap.size+1) (VJ [] n)):=by show Hj _ _ _;unfold VJ;exact hblk1.below AC hb2
 have HBK2:Hid (Hj w2 w1.heap.size (Nv [] n)):=by show Hj _ _ _;unfold Nv;exact hblk2
 have HW2:Hid (Below w.heap.size w w2):=((AI.alloc AC _).trans (hb1.mono (by omega))).trans (hb2.mono (by omega));clear hown1 hown2 hb1 hb2 hblk1 hblk2 HF1 HF2 hi hz0 hz1 hz2;obtain⟨gs,hgsd⟩:∃x,w1.heap.size=x:=⟨_,rfl⟩
 rw[hgsd]at hgf hgs HBK2 ⊢;clear hgsd;obtain⟨gf,hgfd⟩:∃x,w.heap.size+1=x:=⟨_,rfl⟩
 rw[hgfd]at hgf HBK1 ⊢;have hgw:w.heap.size<gf:=by omega
 clear hgfd;go_loopw[21] (fun v wr=>∃(i:Nat)(st:List (Nat×Nat)),i<=n/\v=.int .i64 i/\Hid (EG ns i=some st)/\Hid (Hj wr gf (VJ st n))/\Hid (Hj wr gs (Nv st n))/\Hid (EF (fun x=>x=gf\/x=gs) w2 wr)) (fun v _=>n- (intOf v).toNat);case atStart=>exact⟨0,[],AZ _,rfl,rfl,HBK1,HBK2,EF.refl _ _⟩
 case round=>
  obtain⟨i,st,hin,rfl,HO,HK1,HK2,HBU⟩:=hrel;clear HBK1 HBK2;have hsl:=Gw (AA HO);have hbsz:=(AA HBU).size;have ct:wr.cell? ⟨w.heap.size,0,none⟩=some (.slice a n cap):=(World.cell?_of_block ((AA HBU).block w.heap.size (by omega) (by omega))).trans ct2;have HBW:Hid (Below w.heap.size w wr):=(AA HW2).trans ((AA HBU).below (by omega) (fun k hk=>by omega));by_cases hlt:i<n;case neg=>
   have hin':i=n:=by omega
   subst hin';have hgi:¬(i:Int)<(i:Int):=by omega
   obtain⟨y,hy⟩:∃y,i=y+1:=⟨i- 1,by omega⟩
   have hc1:=(AA HK1).cell (i:=y) (by rw[Pp (by omega)];omega);have hc2:=(AA HK2).cell (i:=y) (by rw[PA (by omega)];omega);rw[Tp (by omega)]at hc1;have hsg:(Nv st i).getD y 0=(((st.getD y (0,0)).2:Nat):Int):=by unfold Nv;simp[List.getD_eq_getElem?_getD,List.getElem?_append_left,show y<st.length by omega]
   rw[hsg]at hc2;have HE:Hid (decide ((st.getD y (0,0)).1=0/\(st.getD y (0,0)).2<=40)=r):=by show _=r;rw[<-AA HR];unfold G4;rw[Ae,AA HO,show i- 1=y by omega]
   obtain⟨x1,hx1⟩:∃x,(st.getD y (0,0)).1=x:=⟨_,rfl⟩
   obtain⟨x2,hx2⟩:∃x,(st.getD y (0,0)).2=x:=⟨_,rfl⟩
   rw[hx1]at hc1 HE;rw[hx2]at hc2 HE;have hyi:(i:Int)- 1=(y:Int):=by omega
   clear hsg HO HK1 HK2 hx1 hx2 HR hsl hy;by_cases e1:x1=0
   .subst e1;have hm1:(((0:Nat):Int)- 1)= -1:=by omega
    rw[hm1]at hc1;have HE2:Hid (decide (x2<=40)=r):=by show _=r;rw[<-AA HE];simp
    clear HE hm1;go_wp2_with fail;go_ret;exact⟨AN (by rw[<-AA HE2];exact BQ.2 (by omega)),AA HBW⟩
   .obtain⟨x1i,hx1i⟩:∃x:Int,(x1:Int)- 1=x:=⟨_,rfl⟩
    rw[hx1i]at hc1;have hne:=Ai (show x1i≠-1 by omega);have HE2:Hid (false=r):=by show _=r;rw[<-AA HE,AD (fun h=>e1 h.1)]
    clear HE hx1i e1;go_wp2_with fail;go_ret;exact⟨AN (AA HE2),AA HBW⟩
  have hNR:=(AA H).below AC (AA HBW);obtain⟨b,off,rfl,hbl,s1,n1,c1,s2,n2,c2,e0,e1,e2,e3,e4,e5,r1,r2⟩:=hNR.get hlt;have hbw:b<w.heap.size:=by obtain⟨b',Hr,e',hb',_⟩:=(AA H).get hlt;cases e';exact hb'
  have hsn:=AA HSM i hlt;have hl2:=r2.len;have HR2:=AB r2;have HTN:Hid (EG ns (i+1)=none->false=r):=fun hh=>by rw[<-AA HR,SO hh (by omega)]
  have HOS:=AB (Ko (AA HO));have hhi:=SP i (AA HO);have hle:=Lb i (AA HO);obtain⟨kids,hkids⟩:∃x,(Af ns i).kids=x:=⟨_,rfl⟩
  rw[hkids]at HOS HR2 hl2;have hn2:n2<=1048576:=by have:=hsn.2.2;rw[hkids]at this;omega
  obtain⟨xk,hxk⟩:∃x,(Af ns i).k=x:=⟨_,rfl⟩
  obtain⟨xn,hxn⟩:∃x,(Af ns i).n=x:=⟨_,rfl⟩
  obtain⟨xm,hxm⟩:∃x,(Af ns i).m=x:=⟨_,rfl⟩
  obtain⟨xs,hxs⟩:∃x,(Af ns i).s=x:=⟨_,rfl⟩
  rw[hxk]at e0;rw[hxn]at e1;rw[hxm]at e2;rw[hxs]at e3;have HR2W:Hid (Df w s2 n2 kids):=by obtain⟨b',Hr,e',hb',s1',n1',c1',s2',n2',c2',g0,g1,g2,g3,g4,g5,q1,q2⟩:=(AA H).get hlt;cases e';have e5w:=(AA HBW).cell (p:=⟨b,off+i*6+5,none⟩) hbw;rw[g5]at e5w;rw[e5w]at e5;cases e5;rw[<-hkids];exact q2
  clear hxk hxn hxm hxs hkids r1 r2 hNR hsn;have Fr:(i:Int)<(n:Int):=by omega
  go_wp2_with fail;obtain⟨wo,hwo⟩:∃x,x=wr:=⟨_,rfl⟩
  subst hwo;obtain⟨W1,hW1⟩:∃x,x=wo.alloc (.cells #[.int .i64 xk,.int .i64 xn,.int .i64 xm,.string xs,.slice s1 n1 c1,.slice s2 n2 c2] 47):=⟨_,rfl⟩
  have HBOX:Hid (Hv W1 wo.heap.size (.int .i64 xk) (.int .i64 xn) (.int .i64 xm) (.string xs) (.slice s1 n1 c1) (.slice s2 n2 c2)):=by rw[hW1];exact Hv.new wo _ _ _ _ _ _
  have HB1:Hid (Below wo.heap.size wo W1):=by rw[hW1];exact AI.alloc AC _
  have hsW:wo.heap.size<W1.heap.size:=by rw[hW1];simp
  rw[<-hW1];clear hW1;have HC1:Hid (∀b o,b<wo.heap.size->W1.cell? ⟨b,o,none⟩=wo.cell? ⟨b,o,none⟩):=fun b o hb=>(AA HB1).cell (p:=⟨b,o,none⟩) hb;have hgsl:=(AA HK2).lt;have hgfl:=(AA HK1).lt;have HK1a:=AB ((AA HK1).below AC (AA HB1));have HK2a:Hid (Hj W1 gs ((Nv st n).set i ((0:Nat):Int))):=by have:=(AA HK2).below AC (AA HB1);rw[<-WC (st:=st) (n:=n) (by omega),hsl]at this;exact this
  obtain⟨tgt,HU⟩:∃t,ME st kids n2 i 0=t:=⟨_,rfl⟩
  rw[hl2,HU]at HOS;have HG:=AB HU;clear HU e0 e1 e2 e3 e4 e5 HK1 HK2;go_loopw[7,8] (fun v7 v8 wz=>∃(kk aa hh:Nat)(fi j:Int),kk<=n2/\v7=.int .i64 fi/\v8=.int .i64 j/\Hid (fi=(aa:Int)- 1)/\Hid (j=(kk:Int)- 1)/\aa<=i/\hh<=i/\Hid (ME st kids kk aa hh=tgt)/\Hid (Hj wz gs ((Nv st n).set i ((hh:Nat):Int)))/\Hid (EF (fun x=>x=gs) W1 wz)) (fun _ v8 _=>(intOf v8+1).toNat);case atStart=>exact⟨n2,i,0,_,_,AC,rfl,rfl,rfl,rfl,AC,AZ _,HG,HK2a,EF.refl _ _⟩
  case round=>
   obtain⟨kk,aa,hh,fi,j,hkk,rfl,rfl,HFI,HJ,haa,hhh,HK,HBL,HBV⟩:=hrel;clear HG HK2a;have hbsz2:=(AA HBV).size;have HBOX2:=AB ((AA HBOX).but (AA HBV) (by omega));have HC2:Hid (∀b o,b<wo.heap.size->b≠gs->wr.cell? ⟨b,o,none⟩=wo.cell? ⟨b,o,none⟩):=fun b o hb hne=>(World.cell?_of_block ((AA HBV).block b (by omega) hne)).trans (AA HC1 b o hb);have ctz:wr.cell? ⟨w.heap.size,0,none⟩=some (.slice (some ⟨b,off,none⟩) n cap):=(AA HC2 _ _ (by omega) (by omega)).trans ct;have HBW3:Hid (Below w.heap.size w wr):=(AA HBW).trans (((AA HB1).mono (AA HBW).size).trans ((AA HBV).below (by omega) (fun k hk=>by omega)));have HKF:Hid (Hj wr gf (VJ st n)):=((AA HBV).block gf (by omega) (by omega)).trans (AA HK1a);by_cases hk0:kk=0
   .subst hk0;have hjm:j= -1:=by have:=AA HJ;omega
    subst hjm;have htg:tgt=some (aa,hh):=by rw[<-AA HK,ME]
    have HOS2:Hid (EG ns (i+1)=some (st++ [(aa,hh)])):=by show _=_;rw[AA HOS,htg];rfl
    have hck:=(AA HKF).cell (i:=i) (by rw[Pp (by omega)];omega);have hfk:=(AA HKF).free i;obtain⟨uu,huu⟩:∃x,(VJ st n).getD i 0=x:=⟨_,rfl⟩
    rw[huu]at hck;have HF2:Hid (Hj (wr.setCell ⟨gf,i,none⟩ (.int .i64 fi)) gf (VJ (st++ [(aa,hh)]) n)):=by have:=(AA HKF).set i fi;rw[AA HFI]at this ⊢;rw[<-Zt (st:=st) (n:=n) (by omega) (aa,hh),hsl];exact this
    have HS2:Hid (Hj (wr.setCell ⟨gf,i,none⟩ (.int .i64 fi)) gs (Nv (st++ [(aa,hh)]) n)):=by have:=(AA HBL).other (p:=⟨gf,i,none⟩) (by simp;omega) (.int .i64 fi);rw[<-Y8 (st:=st) (n:=n) (by omega) (aa,hh),hsl];exact this
    have HBU2:Hid (EF (fun x=>x=gf\/x=gs) w2 (wr.setCell ⟨gf,i,none⟩ (.int .i64 fi))):=(((AA HBU).trans ((EF.of_below (S:=fun x=>x=gf\/x=gs) (AA HB1)).trans (AA HBV))).mono (fun k hk=>by rcases hk with h|h|h;exact h;exact h;exact .inr h)).setCell (.inl rfl) _;clear HK HBL HFI HJ htg HC1 HC2 HBOX HBOX2 HKF huu HOS HTN HBU HB1 HBV HK1a;go_wp2_with fail;go_roundw;case rel=>exact⟨i+1,st++ [(aa,hh)],by omega,by go_num,HOS2,HF2,HS2,HBU2⟩
    case measure=>simp[intOf];omega
   obtain⟨q,rfl⟩:∃q,kk=q+1:=⟨kk- 1,by omega⟩
   have hjq:j=(q:Int):=by have:=AA HJ;omega
   subst hjq;obtain⟨-,-,-,-,-,c5⟩:=(AA HBOX2).all;by_cases hf0:fi<0
   .have HE:Hid (false=r):=AA HTN (by rw[AA HOS,<-AA HK,MK (by have:=AA HFI;omega)];rfl);have hq0:(0:Int)<=(q:Int):=by omega
    clear HK HBL HFI HJ HC1 HC2 HBOX HBOX2 HKF;go_wp2_with fail;go_ret;exact⟨AN (AA HE),AA HBW3⟩
   obtain⟨b2,o2,rfl,hb2l,hcq⟩:=(AA HR2).get (k:=q) (by omega);have hb2g:b2≠gs:=fun e=>by obtain⟨b',Hr,e',hb',_⟩:=(AA HR2W).get (k:=q) (by omega);cases e';omega
   rw[<-AA HC2 _ _ hb2l hb2g]at hcq;have hq0:(0:Int)<=(q:Int):=by omega
   have hqn:(q:Int)<(n2:Int):=by omega
   obtain⟨z,hz⟩:∃z,kids.getD q 0=z:=⟨_,rfl⟩
   rw[hz]at hcq;by_cases hzn:z=fi;case neg=>
    have hd:(z !=fi)=true:=by simpa using hzn
    have HE:Hid (false=r):=AA HTN (by rw[AA HOS,<-AA HK,MK (by have:=AA HFI;omega)];rfl);clear HK HBL HFI HJ hz hzn HC1 HC2 HBOX HBOX2 HKF;go_wp2_with fail;go_ret;exact⟨AN (AA HE),AA HBW3⟩
   obtain⟨y,hy⟩:∃y,aa=y+1:=⟨aa- 1,by have:=AA HFI;omega⟩
   have hfy:fi=(y:Int):=by have:=AA HFI;omega
   have hzy:z=(y:Int):=by omega
   subst hfy;rw[hzy]at hcq hz;have hd:((y:Int) !=(y:Int))=false:=by simp
   have HK2:Hid (ME st kids q (st.getD y (0,0)).1 (max hh ((st.getD y (0,0)).2+1))=tgt):=by have:=AA HK;rw[hy,X0 hz]at this;exact this
   have hyi:y<i:=by omega
   have hyn:(y:Int)<(n:Int):=by omega
   have t1:=(AA HKF).cell (i:=y) (by rw[Pp (by omega)];omega);rw[Tp (by omega)]at t1;have hslen:((Nv st n).set i ((hh:Nat):Int)).length=n:=by rw[List.length_set];exact PA (by omega)
   have t2:=(AA HBL).cell (i:=y) (by omega);have t3:=(AA HBL).cell (i:=i) (by omega);rw[<-hsl,Y9 (by omega)]at t2;have t3':wr.cell? ⟨gs,i,none⟩=some (.int .i64 ((hh:Nat):Int)):=by rw[t3];have:=bG (st:=st) (n:=n) (by omega) ((hh:Nat):Int);rw[hsl]at this;rw[this]
   have hfk:=(AA HBL).free i;have hty:=hhi y hyi;have hbg:=hle y hyi;obtain⟨ty,hty'⟩:∃x,(st.getD y (0,0)).2=x:=⟨_,rfl⟩
   obtain⟨bg,hbg'⟩:∃x,(st.getD y (0,0)).1=x:=⟨_,rfl⟩
   rw[hty']at t2 hty HK2;rw[hbg']at t1 hbg HK2;have HBL2:Hid (∀x:Nat,Hj (wr.setCell ⟨gs,i,none⟩ (.int .i64 ((x:Nat):Int))) gs ((Nv st n).set i ((x:Nat):Int))):=fun x=>by
    have:=(AA HBL).set i ((x:Nat):Int)
    rwa [List.set_set]at this
   have HBV2:Hid (∀x:Nat,EF (fun x=>x=gs) W1 (wr.setCell ⟨gs,i,none⟩ (.int .i64 ((x:Nat):Int)))):=fun x=>(AA HBV).setCell rfl _;have hgg:¬ gf=gs:=by omega
   obtain⟨bgi,hbgi⟩:∃x:Int,(bg:Int)- 1=x:=⟨_,rfl⟩
   rw[hbgi]at t1;have HBG:=AB hbgi;have hlti2:(i:Int)<(n:Int):=by omega
   clear HK HBL HBV HFI HJ hz hzn hzy hy hty' hbg' HBW3 HC2 HBOX2 HC1 t3 hslen hbgi HKF;by_cases hcm:hh<ty+1
   .have hcmi:(hh:Int)<(ty:Int)+1:=by omega
    have hmx:max hh (ty+1)=ty+1:=by omega
    have hmi:max (hh:Int) ((ty:Int)+1)=(ty:Int)+1:=by omega
    rw[hmx]at HK2;go_wp2_with fail;first|(go_region_with(fail))|fail
    all_goals go_wp2_with fail
    all_goals(go_roundw;(case rel=>exact⟨q,bg,ty+1,bgi,_,by omega,rfl,rfl,(AA HBG).symm,rfl,by omega,by omega,HK2,by show Hj _ _ _;first|(simpa using(AA HBL2 (ty+1)).drew)|(rw[hmi];simpa using(AA HBL2 (ty+1)).drew),by show EF _ _ _;first|(simpa using(AA HBV2 (ty+1)).drewT)|(rw[hmi];simpa using(AA HBV2 (ty+1)).drewT)⟩);(case measure=>simp[intOf]))
   .have hcmi:¬(hh:Int)<(ty:Int)+1:=by omega
    have hmx:max hh (ty+1)=hh:=by omega
    have hmi:max (hh:Int) ((ty:Int)+1)=(hh:Int):=by omega
    rw[hmx]at HK2;go_wp2_with fail;first|(go_region_with(fail))|fail
    all_goals go_wp2_with fail
    all_goals(go_roundw;(case rel=>exact⟨q,bg,hh,bgi,_,by omega,rfl,rfl,(AA HBG).symm,rfl,by omega,by omega,HK2,by show Hj _ _ _;first|(simpa using(AA HBL2 hh).drew)|(rw[hmi];simpa using(AA HBL2 hh).drew),by show EF _ _ _;first|(simpa using(AA HBV2 hh).drewT)|(rw[hmi];simpa using(AA HBV2 hh).drewT)⟩);(case measure=>simp[intOf]))
