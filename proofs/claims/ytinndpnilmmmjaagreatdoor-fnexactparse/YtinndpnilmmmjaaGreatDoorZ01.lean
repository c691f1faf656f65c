import Derived.Test.YtinndpnilmmmjaaGreatDoorZ
import Derived.Test.YtinndpnilmmmjaaGreatDoorProg
import Derived.Shelf.Small.Wraps
import Derived.Shelf.Unicode.ValidAny
import Derived.Shelf.Strings.Replace
import Derived.Shelf.Strings.Cut
import Derived.Stop.Asserts
import Derived.RowKitTokens
set_option maxHeartbeats 4000000
set_option linter.defProp false
namespace Go.Proofs
open Go.Shelf Tryz
def Tryz.hasPreS_ren:Go.Shelf.Ren:=⟨fun|99=>184|206=>209|n=>n,fun|9=>9|4=>4|3=>3|n=>n,fun|n=>n⟩
def Tryz.hasPreS:Go.Proofs.Lays.n99 prog Tryz.hasPreS_ren:= {
 mixed:=by kernel_rfl
 f99:=func184.trans (congrArg some (by kernel_rfl))
 f206:=func209.trans (congrArg some (by kernel_rfl))
 t3:=underlying3
 a3:=isAgg3
 z3:=sizeOf3
 v3:=zeroValue3
 t4:=underlying4
 a4:=isAgg4
 z4:=sizeOf4
 v4:=zeroValue4
 t9:=underlying9
 a9:=isAgg9
 z9:=sizeOf9
 v9:=zeroValue9}
end Go.Proofs
namespace Go.Proofs
open Go.Shelf Tryz
def Tryz.trimPreS_ren:Go.Shelf.Ren:=⟨fun|101=>182|208=>208|206=>209|n=>n,fun|9=>9|4=>4|3=>3|n=>n,fun|n=>n⟩
def Tryz.trimPreS:Go.Proofs.Lays.n101 prog Tryz.trimPreS_ren:= {
 mixed:=by kernel_rfl
 f101:=func182.trans (congrArg some (by kernel_rfl))
 f206:=func209.trans (congrArg some (by kernel_rfl))
 f208:=func208.trans (congrArg some (by kernel_rfl))
 t3:=underlying3
 a3:=isAgg3
 z3:=sizeOf3
 v3:=zeroValue3
 t4:=underlying4
 a4:=isAgg4
 z4:=sizeOf4
 v4:=zeroValue4
 t9:=underlying9
 a9:=isAgg9
 z9:=sizeOf9
 v9:=zeroValue9}
end Go.Proofs
namespace Go.Proofs
open Go.Shelf Tryz
def Tryz.cutPreS_ren:Go.Shelf.Ren:=⟨fun|103=>187|210=>212|206=>209|n=>n,fun|9=>9|4=>4|24=>193|3=>3|n=>n,fun|n=>n⟩
def Tryz.cutPreS:Go.Proofs.Lays.n103 prog Tryz.cutPreS_ren:= {
 mixed:=by kernel_rfl
 f103:=func187.trans (congrArg some (by kernel_rfl))
 f206:=func209.trans (congrArg some (by kernel_rfl))
 f210:=func212.trans (congrArg some (by kernel_rfl))
 t3:=underlying3
 a3:=isAgg3
 z3:=sizeOf3
 v3:=zeroValue3
 t4:=underlying4
 a4:=isAgg4
 z4:=sizeOf4
 v4:=zeroValue4
 t9:=underlying9
 a9:=isAgg9
 z9:=sizeOf9
 v9:=zeroValue9
 t24:=underlying193
 a24:=isAgg193
 z24:=sizeOf193
 v24:=zeroValue193}
end Go.Proofs
namespace Go.Proofs
open Go.Shelf Tryz
def Tryz.decodeS_ren:Go.Shelf.Ren:=⟨fun|197=>175|260=>206|n=>n,fun|9=>9|21=>21|3=>3|4=>4|5=>5|105=>186|119=>203|0=>0|46=>207|139=>206|138=>205|n=>n,fun|3=>2|4=>3|n=>n⟩
def Tryz.decodeS:Go.Proofs.Lays.n197 prog Tryz.decodeS_ren:= {
 mixed:=by kernel_rfl
 f197:=func175.trans (congrArg some (by kernel_rfl))
 f260:=func206.trans (congrArg some (by kernel_rfl))
 t0:=underlying0
 a0:=isAgg0
 z0:=sizeOf0
 v0:=zeroValue0
 t3:=underlying3
 a3:=isAgg3
 z3:=sizeOf3
 v3:=zeroValue3
 t4:=underlying4
 a4:=isAgg4
 z4:=sizeOf4
 v4:=zeroValue4
 t5:=underlying5
 a5:=isAgg5
 z5:=sizeOf5
 v5:=zeroValue5
 t9:=underlying9
 a9:=isAgg9
 z9:=sizeOf9
 v9:=zeroValue9
 t21:=underlying21
 a21:=isAgg21
 z21:=sizeOf21
 v21:=zeroValue21
 t46:=underlying207
 a46:=isAgg207
 z46:=sizeOf207
 v46:=zeroValue207
 t105:=underlying186
 a105:=isAgg186
 z105:=sizeOf186
 v105:=zeroValue186
 t119:=underlying203
 a119:=isAgg203
 z119:=sizeOf203
 t138:=underlying205
 a138:=isAgg205
 z138:=sizeOf205
 v138:=zeroValue205
 t139:=underlying206
 a139:=isAgg206
 z139:=sizeOf206
 v139:=zeroValue206
 g3:=by kernel_rfl
 g4:=by kernel_rfl}
end Go.Proofs
namespace Go.Proofs
open Go.Shelf Tryz
def Tryz.validS_ren:Go.Shelf.Ren:=⟨fun|196=>188|259=>213|n=>n,fun|9=>9|4=>4|3=>3|5=>5|12=>12|119=>203|0=>0|46=>207|139=>206|138=>205|53=>212|n=>n,fun|3=>2|4=>3|n=>n⟩
def Tryz.validS:Go.Proofs.Lays.n196 prog Tryz.validS_ren:= {
 mixed:=by kernel_rfl
 f196:=func188.trans (congrArg some (by kernel_rfl))
 f259:=func213.trans (congrArg some (by kernel_rfl))
 t0:=underlying0
 a0:=isAgg0
 z0:=sizeOf0
 v0:=zeroValue0
 t3:=underlying3
 a3:=isAgg3
 z3:=sizeOf3
 v3:=zeroValue3
 t4:=underlying4
 a4:=isAgg4
 z4:=sizeOf4
 v4:=zeroValue4
 t5:=underlying5
 a5:=isAgg5
 z5:=sizeOf5
 v5:=zeroValue5
 t9:=underlying9
 a9:=isAgg9
 z9:=sizeOf9
 v9:=zeroValue9
 t12:=underlying12
 a12:=isAgg12
 z12:=sizeOf12
 v12:=zeroValue12
 t46:=underlying207
 a46:=isAgg207
 z46:=sizeOf207
 v46:=zeroValue207
 t53:=underlying212
 a53:=isAgg212
 z53:=sizeOf212
 v53:=zeroValue212
 t119:=underlying203
 a119:=isAgg203
 z119:=sizeOf203
 t138:=underlying205
 a138:=isAgg205
 z138:=sizeOf205
 v138:=zeroValue205
 t139:=underlying206
 a139:=isAgg206
 z139:=sizeOf206
 v139:=zeroValue206
 g3:=by kernel_rfl
 g4:=by kernel_rfl}
end Go.Proofs
namespace Go.Proofs
open Go.Shelf Tryz
def Tryz.replaceS_ren:Go.Shelf.Ren:=⟨fun|154=>124|138=>172|165=>173|143=>174|166=>37|197=>175|169=>40|195=>202|218=>203|240=>81|241=>204|219=>205|260=>206|276=>123|277=>224|217=>225|225=>226|224=>227|267=>228|266=>243|314=>244|n=>n,fun|9=>9|3=>3|4=>4|72=>62|0=>0|76=>68|105=>186|21=>21|5=>5|70=>60|20=>20|37=>33|75=>66|127=>115|164=>130|46=>207|119=>203|139=>206|138=>205|146=>224|51=>223|80=>74|n=>n,fun|1=>4|3=>2|4=>3|n=>n⟩
def Tryz.replaceS:Go.Proofs.Lays.n154 prog Tryz.replaceS_ren:= {
 mixed:=by kernel_rfl
 f138:=func172.trans (congrArg some (by kernel_rfl))
 f143:=func174.trans (congrArg some (by kernel_rfl))
 f154:=func124.trans (congrArg some (by kernel_rfl))
 f165:=func173.trans (congrArg some (by kernel_rfl))
 f166:=func37.trans (congrArg some (by kernel_rfl))
 f169:=func40.trans (congrArg some (by kernel_rfl))
 f195:=func202.trans (congrArg some (by kernel_rfl))
 f197:=func175.trans (congrArg some (by kernel_rfl))
 f217:=func225.trans (congrArg some (by kernel_rfl))
 f218:=func203.trans (congrArg some (by kernel_rfl))
 f219:=func205.trans (congrArg some (by kernel_rfl))
 f224:=func227.trans (congrArg some (by kernel_rfl))
 f225:=func226.trans (congrArg some (by kernel_rfl))
 f240:=func81.trans (congrArg some (by kernel_rfl))
 f241:=func204.trans (congrArg some (by kernel_rfl))
 f260:=func206.trans (congrArg some (by kernel_rfl))
 f266:=func243.trans (congrArg some (by kernel_rfl))
 f267:=func228.trans (congrArg some (by kernel_rfl))
 f276:=func123.trans (congrArg some (by kernel_rfl))
 f277:=func224.trans (congrArg some (by kernel_rfl))
 f314:=func244.trans (congrArg some (by kernel_rfl))
 t0:=underlying0
 a0:=isAgg0
 z0:=sizeOf0
 v0:=zeroValue0
 t3:=underlying3
 a3:=isAgg3
 z3:=sizeOf3
 v3:=zeroValue3
 t4:=underlying4
 a4:=isAgg4
 z4:=sizeOf4
 v4:=zeroValue4
 t5:=underlying5
 a5:=isAgg5
 z5:=sizeOf5
 v5:=zeroValue5
 t9:=underlying9
 a9:=isAgg9
 z9:=sizeOf9
 v9:=zeroValue9
 t20:=underlying20
 a20:=isAgg20
 z20:=sizeOf20
 v20:=zeroValue20
 t21:=underlying21
 a21:=isAgg21
 z21:=sizeOf21
 v21:=zeroValue21
 t37:=underlying33
 a37:=isAgg33
 z37:=sizeOf33
 v37:=zeroValue33
 t46:=underlying207
 a46:=isAgg207
 z46:=sizeOf207
 v46:=zeroValue207
 t51:=underlying223
 a51:=isAgg223
 z51:=sizeOf223
 v51:=zeroValue223
 t70:=underlying60
 a70:=isAgg60
 z70:=sizeOf60
 v70:=zeroValue60
 t72:=underlying62
 a72:=isAgg62
 z72:=sizeOf62
 v72:=zeroValue62
 t75:=underlying66
 a75:=isAgg66
 z75:=sizeOf66
 v75:=zeroValue66
 t76:=underlying68
 a76:=isAgg68
 z76:=sizeOf68
 v76:=zeroValue68
 t105:=underlying186
 a105:=isAgg186
 z105:=sizeOf186
 v105:=zeroValue186
 t119:=underlying203
 a119:=isAgg203
 z119:=sizeOf203
 t127:=underlying115
 a127:=isAgg115
 z127:=sizeOf115
 v127:=zeroValue115
 t138:=underlying205
 a138:=isAgg205
 z138:=sizeOf205
 v138:=zeroValue205
 t139:=underlying206
 a139:=isAgg206
 z139:=sizeOf206
 v139:=zeroValue206
 t146:=underlying224
 a146:=isAgg224
 z146:=sizeOf224
 v146:=zeroValue224
 t164:=underlying130
 a164:=isAgg130
 z164:=sizeOf130
 v164:=zeroValue130
 g1:=by kernel_rfl
 g3:=by kernel_rfl
 g4:=by kernel_rfl}
end Go.Proofs
namespace Go.Proofs
open Go.Shelf Tryz
def Tryz.replAllS_ren:Go.Shelf.Ren:=⟨fun|155=>126|154=>124|138=>172|165=>173|143=>174|166=>37|197=>175|169=>40|195=>202|218=>203|240=>81|241=>204|219=>205|260=>206|276=>123|277=>224|217=>225|225=>226|224=>227|267=>228|266=>243|314=>244|n=>n,fun|9=>9|3=>3|4=>4|72=>62|0=>0|76=>68|105=>186|21=>21|5=>5|70=>60|20=>20|37=>33|75=>66|127=>115|164=>130|46=>207|119=>203|139=>206|138=>205|146=>224|51=>223|80=>74|n=>n,fun|1=>4|3=>2|4=>3|n=>n⟩
def Tryz.replAllS:Go.Proofs.Lays.n155 prog Tryz.replAllS_ren:= {
 mixed:=by kernel_rfl
 f138:=func172.trans (congrArg some (by kernel_rfl))
 f143:=func174.trans (congrArg some (by kernel_rfl))
 f154:=func124.trans (congrArg some (by kernel_rfl))
 f155:=func126.trans (congrArg some (by kernel_rfl))
 f165:=func173.trans (congrArg some (by kernel_rfl))
 f166:=func37.trans (congrArg some (by kernel_rfl))
 f169:=func40.trans (congrArg some (by kernel_rfl))
 f195:=func202.trans (congrArg some (by kernel_rfl))
 f197:=func175.trans (congrArg some (by kernel_rfl))
 f217:=func225.trans (congrArg some (by kernel_rfl))
 f218:=func203.trans (congrArg some (by kernel_rfl))
 f219:=func205.trans (congrArg some (by kernel_rfl))
 f224:=func227.trans (congrArg some (by kernel_rfl))
 f225:=func226.trans (congrArg some (by kernel_rfl))
 f240:=func81.trans (congrArg some (by kernel_rfl))
 f241:=func204.trans (congrArg some (by kernel_rfl))
 f260:=func206.trans (congrArg some (by kernel_rfl))
 f266:=func243.trans (congrArg some (by kernel_rfl))
 f267:=func228.trans (congrArg some (by kernel_rfl))
 f276:=func123.trans (congrArg some (by kernel_rfl))
 f277:=func224.trans (congrArg some (by kernel_rfl))
 f314:=func244.trans (congrArg some (by kernel_rfl))
 t0:=underlying0
 a0:=isAgg0
 z0:=sizeOf0
 v0:=zeroValue0
 t3:=underlying3
 a3:=isAgg3
 z3:=sizeOf3
 v3:=zeroValue3
 t4:=underlying4
 a4:=isAgg4
 z4:=sizeOf4
 v4:=zeroValue4
 t5:=underlying5
 a5:=isAgg5
 z5:=sizeOf5
 v5:=zeroValue5
 t9:=underlying9
 a9:=isAgg9
 z9:=sizeOf9
 v9:=zeroValue9
 t20:=underlying20
 a20:=isAgg20
 z20:=sizeOf20
 v20:=zeroValue20
 t21:=underlying21
 a21:=isAgg21
 z21:=sizeOf21
 v21:=zeroValue21
 t37:=underlying33
 a37:=isAgg33
 z37:=sizeOf33
 v37:=zeroValue33
 t46:=underlying207
 a46:=isAgg207
 z46:=sizeOf207
 v46:=zeroValue207
 t51:=underlying223
 a51:=isAgg223
 z51:=sizeOf223
 v51:=zeroValue223
 t70:=underlying60
 a70:=isAgg60
 z70:=sizeOf60
 v70:=zeroValue60
 t72:=underlying62
 a72:=isAgg62
 z72:=sizeOf62
 v72:=zeroValue62
 t75:=underlying66
 a75:=isAgg66
 z75:=sizeOf66
 v75:=zeroValue66
 t76:=underlying68
 a76:=isAgg68
 z76:=sizeOf68
 v76:=zeroValue68
 t105:=underlying186
 a105:=isAgg186
 z105:=sizeOf186
 v105:=zeroValue186
 t119:=underlying203
 a119:=isAgg203
 z119:=sizeOf203
 t127:=underlying115
 a127:=isAgg115
 z127:=sizeOf115
 v127:=zeroValue115
 t138:=underlying205
 a138:=isAgg205
 z138:=sizeOf205
 v138:=zeroValue205
 t139:=underlying206
 a139:=isAgg206
 z139:=sizeOf206
 v139:=zeroValue206
 t146:=underlying224
 a146:=isAgg224
 z146:=sizeOf224
 v146:=zeroValue224
 t164:=underlying130
 a164:=isAgg130
 z164:=sizeOf130
 v164:=zeroValue130
 g1:=by kernel_rfl
 g3:=by kernel_rfl
 g4:=by kernel_rfl}
end Go.Proofs
namespace Go.Proofs
open Go.Shelf Tryz
def Tryz.cutS_ren:Go.Shelf.Ren:=⟨fun|145=>216|220=>240|219=>205|217=>225|225=>226|224=>227|267=>228|266=>243|314=>244|n=>n,fun|9=>9|4=>4|59=>209|3=>3|5=>5|46=>207|146=>224|51=>223|n=>n,fun|1=>4|n=>n⟩
def Tryz.cutS:Go.Proofs.Lays.n145 prog Tryz.cutS_ren:= {
 mixed:=by kernel_rfl
 f145:=func216.trans (congrArg some (by kernel_rfl))
 f217:=func225.trans (congrArg some (by kernel_rfl))
 f219:=func205.trans (congrArg some (by kernel_rfl))
 f220:=func240.trans (congrArg some (by kernel_rfl))
 f224:=func227.trans (congrArg some (by kernel_rfl))
 f225:=func226.trans (congrArg some (by kernel_rfl))
 f266:=func243.trans (congrArg some (by kernel_rfl))
 f267:=func228.trans (congrArg some (by kernel_rfl))
 f314:=func244.trans (congrArg some (by kernel_rfl))
 t3:=underlying3
 a3:=isAgg3
 z3:=sizeOf3
 v3:=zeroValue3
 t4:=underlying4
 a4:=isAgg4
 z4:=sizeOf4
 v4:=zeroValue4
 t5:=underlying5
 a5:=isAgg5
 z5:=sizeOf5
 v5:=zeroValue5
 t9:=underlying9
 a9:=isAgg9
 z9:=sizeOf9
 v9:=zeroValue9
 t46:=underlying207
 a46:=isAgg207
 z46:=sizeOf207
 v46:=zeroValue207
 t51:=underlying223
 a51:=isAgg223
 z51:=sizeOf223
 v51:=zeroValue223
 t59:=underlying209
 a59:=isAgg209
 z59:=sizeOf209
 v59:=zeroValue209
 t146:=underlying224
 a146:=isAgg224
 z146:=sizeOf224
 v146:=zeroValue224
 g1:=by kernel_rfl}
end Go.Proofs
namespace Go.Proofs.YtinndpnilmmmjaaGreatDoor
open Go.RowKit Tryz
section
open Go.Extern.Stop Go.Stop Go.Extern
def cX(t:Value)(w:World):Calls prog 49 #[.nilIface,t] w fun e w'=>e=.returned (.bool false)/\w'=w:=by
 go_enter func49,ntmps49
 go_wp2
 go_ret;exact⟨rfl,rfl⟩
def P7(t:Addr)(w:World):(ReflectliteValue.unpack (.iface 92 (.pointer (some t)))).run prog w=.ok (.agg #[.pointer (some ⟨10,92,none⟩),.pointer (some ⟨w.heap.size,0,none⟩),.int .u64 150]) (w.alloc (.cells #[.pointer (some t)] 92)):=by kernel_rfl
def Vf(a:Addr)(w:World):(ReflectliteValue.methodAny (ReflectliteValue.valueError "reflectlite.Value.Type" 0) (fun t _ _ _=>ReflectliteType.toType t) #[.agg #[.pointer (some ⟨10,92,none⟩),.pointer (some a),.int .u64 150]]).run prog w=.ok (.iface 169 (.agg #[.pointer (some ⟨10,92,none⟩)])) w:=by kernel_rfl
def OH(h:Value)(w:World):(Go.method 367 169 (.agg #[h]) "Kind").run prog w=.ok (271,h) w:=by kernel_rfl
def Vg(w:World):((ReflectliteType.abiMethod fun t=>Functor.map (fun a:Nat=>Value.int IntKind.u8 (a:Int)) (Rtype.kind t)) #[.pointer (some ⟨10,92,none⟩)]).run prog w=.ok (.int .u8 22) w:=by kernel_rfl
def Vh(w:World):((ReflectliteType.abiMethod fun t=>Functor.map (fun a:Nat=>Value.int IntKind.u8 (a:Int)) (Rtype.kind t)) #[.pointer (some ⟨10,90,none⟩)]).run prog w=.ok (.int .u8 22) w:=by kernel_rfl
def fE(z:Sem Value)(f:TypeId->Addr->Nat->Nat->Sem Value)(v:Value):ReflectliteValue.method z f #[v]=(do match<-ReflectliteValue.parts v with|none=>z|some (t,a,fl)=>f t a fl (fl % 32)):=rfl
def Nn(a:Addr)(w:World):(ReflectliteValue.parts (.agg #[.pointer (some ⟨10,92,none⟩),.pointer (some a),.int .u64 150])).run prog w=.ok (some (92,a,150)) w:=by kernel_rfl
def S8(a p:Addr)(W:World)(ha:W.cell? a=some (.pointer (some p))):(ReflectliteValue.method (ReflectliteValue.valueError "reflectlite.Value.IsNil" 0) ReflectliteValue.isNil #[.agg #[.pointer (some ⟨10,92,none⟩),.pointer (some a),.int .u64 150]]).run prog W=.ok (.bool false) W:=by rw[fE];simp only[Sem.run_bind,Nn,Result.andThen];simp[ReflectliteValue.isNil,loadVar,isAgg,underlying,underlying92,ha,Result.andThen]
def OI(h:Value)(w:World):(Go.method 367 169 (.agg #[h]) "Elem").run prog w=.ok (284,.agg #[h]) w:=by kernel_rfl
def Jv(h:Value)(w:World):(Go.method 367 169 (.agg #[h]) "Implements").run prog w=.ok (285,.agg #[h]) w:=by kernel_rfl
def I3(h:Value)(w:World):(Go.method 367 169 (.agg #[h]) "AssignableTo").run prog w=.ok (282,.agg #[h]) w:=by kernel_rfl
def Vi(w:World):(ReflectliteType.method ReflectliteType.elem #[.agg #[.pointer (some ⟨10,92,none⟩)]]).run prog w=.ok (.iface 169 (.agg #[.pointer (some ⟨10,90,none⟩)])) w:=by kernel_rfl
def MF(w:World):(ReflectliteType.relation "Implements" ReflectliteType.implements_ #[.agg #[.pointer (some ⟨10,90,none⟩)],.iface 169 (.agg #[.pointer (some ⟨10,66,none⟩)])]).run prog w=.ok (.bool true) w:=by kernel_rfl
def RW(v:Value)(w:World):(ReflectliteType.typeOf #[.iface 90 v]).run prog w=.ok (.iface 169 (.agg #[.pointer (some ⟨10,90,none⟩)])) w:=by kernel_rfl
def MG(w:World):(ReflectliteType.relation "AssignableTo" ReflectliteType.assignableTo #[.agg #[.pointer (some ⟨10,90,none⟩)],.iface 169 (.agg #[.pointer (some ⟨10,90,none⟩)])]).run prog w=.ok (.bool true) w:=by kernel_rfl
def P8(e:Addr)(w:World):(ReflectliteValue.unpack (.iface 90 (.pointer (some e)))).run prog w=.ok (.agg #[.pointer (some ⟨10,90,none⟩),.pointer (some ⟨w.heap.size,0,none⟩),.int .u64 150]) (w.alloc (.cells #[.pointer (some e)] 90)):=by kernel_rfl
def RY(w:World):(Rtype.elem? 92).run prog w=.ok (some 90) w:=by kernel_rfl
def aP(p:Addr)(w:World):(ReflectliteValue.mk 90 p ReflectliteValue.flagAddr).run prog w=.ok (.agg #[.pointer (some ⟨10,90,none⟩),.pointer (some p),.int .u64 406]) w:=by kernel_rfl
def S9(a p:Addr)(W:World)(ha:W.cell? a=some (.pointer (some p))):(ReflectliteValue.method (ReflectliteValue.valueError "reflectlite.Value.Elem" 0) ReflectliteValue.elem #[.agg #[.pointer (some ⟨10,92,none⟩),.pointer (some a),.int .u64 150]]).run prog W=.ok (.agg #[.pointer (some ⟨10,90,none⟩),.pointer (some p),.int .u64 406]) W:=by rw[fE];simp only[Sem.run_bind,Nn,Result.andThen];simp[ReflectliteValue.elem,loadVar,isAgg,underlying,underlying92,ha,Result.andThen,RY,aP]
def fK(v x:Value):ReflectliteValue.set #[v,x]=(do
  let(some (dst,a,fl),some (src,b,_)):=(<-ReflectliteValue.parts v,<-ReflectliteValue.parts x)
   |unsupported (.noEntry "extern/(internal/reflectlite.Value).Set.zeroValue")
  if fl / ReflectliteValue.flagAddr % 2==0 then unsupported (.noEntry "extern/(internal/reflectlite.Value).Set.unaddressable")
  let val<-loadVar src b
  if<-Rtype.directlyAssignable dst src then storeVar dst a val
  else if<-Rtype.implements dst src then
   if(<-Rtype.kind src)==20 then
    match val with
    |.nilIface=>unsupported (.noEntry "extern/reflectlite: a nil value of one interface type handed on as a value of another")
    |_=>storeVar dst a val
   else storeVar dst a (.iface src val)
  else panicString ("reflectlite.Set: value of type "++(<-Rtype.spelt src)++ " is not assignable to type "++(<-Rtype.spelt dst))
  pure (.tuple #[])):=rfl
def RX(a:Addr)(w:World):(ReflectliteValue.parts (.agg #[.pointer (some ⟨10,90,none⟩),.pointer (some a),.int .u64 406])).run prog w=.ok (some (90,a,406)) w:=by kernel_rfl
def S7(a:Addr)(w:World):(ReflectliteValue.parts (.agg #[.pointer (some ⟨10,90,none⟩),.pointer (some a),.int .u64 150])).run prog w=.ok (some (90,a,150)) w:=by kernel_rfl
def RZ(w:World):(Rtype.directlyAssignable 90 90).run prog w=.ok true w:=by kernel_rfl
def Yf(ta b e:Addr)(old:Value)(W:World)(hb:W.cell? b=some (.pointer (some e)))(ht:W.cell? ta=some old)(hf:W.frozen? ta=false):(ReflectliteValue.set #[.agg #[.pointer (some ⟨10,90,none⟩),.pointer (some ta),.int .u64 406],.agg #[.pointer (some ⟨10,90,none⟩),.pointer (some b),.int .u64 150]]).run prog W=.ok (.tuple #[]) (W.setCell ta (.pointer (some e))):=by rw[fK];simp only[Sem.run_bind,RX,S7,Result.andThen];simp[ReflectliteValue.flagAddr,loadVar,isAgg,underlying,underlying90,hb,Result.andThen,RZ,storeVar,Value.cells,storeCells,Addr.add];rw[run_store prog W ta _ _ (by rfl)];simp[ht,hf]
def cY(e t:Addr)(old:Value)(w:World)(hg:w.cell? ⟨0,0,none⟩=some (.iface 169 (.agg #[.pointer (some ⟨10,66,none⟩)])))(ht0:w.cell? t=some old)(hf0:w.frozen? t=false):Calls prog 49 #[.iface 90 (.pointer (some e)),.iface 92 (.pointer (some t))] w fun ev w'=>ev=.returned (.bool true)/\w'=((((w.alloc (.cells #[.pointer (some t)] 92)).alloc (.cells #[.pointer (some ⟨10,92,none⟩),.pointer (some ⟨w.heap.size,0,none⟩),.int .u64 150] 133)).alloc (.cells #[.pointer (some ⟨10,92,none⟩),.pointer (some ⟨w.heap.size,0,none⟩),.int .u64 150] 133)).alloc (.cells #[.pointer (some e)] 90)).setCell t (.pointer (some e)):=by
 have h6:= @run_callFunc_extern prog 105 _ (fun args=>ReflectliteValue.unpack (args.getD 0 (.tuple #[]))) func105 (by kernel_rfl) (by kernel_rfl) (by kernel_rfl) (by kernel_rfl);have h7:= @run_callFunc_extern prog 106 _ (ReflectliteValue.methodAny (ReflectliteValue.valueError "reflectlite.Value.Type" 0) (fun t _ _ _=>ReflectliteType.toType t)) func106 (by kernel_rfl) (by kernel_rfl) (by kernel_rfl) (by kernel_rfl);have h8:= @run_callFunc_extern prog 107 _ (ReflectliteValue.method (ReflectliteValue.valueError "reflectlite.Value.IsNil" 0) ReflectliteValue.isNil) func107 (by kernel_rfl) (by kernel_rfl) (by kernel_rfl) (by kernel_rfl);have h27:= @run_callFunc_extern prog 271 _ (ReflectliteType.abiMethod fun t=>do pure (.int .u8 (<-Rtype.kind t))) func271 (by kernel_rfl) (by kernel_rfl) (by kernel_rfl) (by kernel_rfl);have h37:= @run_callFunc_extern prog 284 _ (ReflectliteType.method ReflectliteType.elem) func284 (by kernel_rfl) (by kernel_rfl) (by kernel_rfl) (by kernel_rfl);have h38:= @run_callFunc_extern prog 285 _ (ReflectliteType.relation "Implements" ReflectliteType.implements_) func285 (by kernel_rfl) (by kernel_rfl) (by kernel_rfl) (by kernel_rfl);have h10:= @run_callFunc_extern prog 167 _ ReflectliteType.typeOf func167 (by kernel_rfl) (by kernel_rfl) (by kernel_rfl) (by kernel_rfl);have h35:= @run_callFunc_extern prog 282 _ (ReflectliteType.relation "AssignableTo" ReflectliteType.assignableTo) func282 (by kernel_rfl) (by kernel_rfl) (by kernel_rfl) (by kernel_rfl);have h11:= @run_callFunc_extern prog 168 _ (ReflectliteValue.method (ReflectliteValue.valueError "reflectlite.Value.Elem" 0) ReflectliteValue.elem) func168 (by kernel_rfl) (by kernel_rfl) (by kernel_rfl) (by kernel_rfl);have h12:= @run_callFunc_extern prog 169 _ ReflectliteValue.set func169 (by kernel_rfl) (by kernel_rfl) (by kernel_rfl) (by kernel_rfl);have tO:=RW;have mA:=I3;have a25:=MG;have v25:=P8;have f6:=P7;have f7:=Vf;have mK:=OH;have mE:=OI;have mI:=Jv;have k27:=Vg;have k25:=Vh;have e27:=Vi;have i25:=MF;have n8:=S8 ⟨w.heap.size,0,none⟩ t ((w.alloc (.cells #[.pointer (some t)] 92)).alloc (.cells #[.pointer (some ⟨10,92,none⟩),.pointer (some ⟨w.heap.size,0,none⟩),.int .u64 150] 133)) (by simp);have hlt:0<w.heap.size:=by
  rcases Nat.eq_zero_or_pos w.heap.size with h0|h
  .simp[World.cell?,h0]at hg
  .exact h
 have hg2:((w.alloc (.cells #[.pointer (some t)] 92)).alloc (.cells #[.pointer (some ⟨10,92,none⟩),.pointer (some ⟨w.heap.size,0,none⟩),.int .u64 150] 133)).cell? ⟨0,0,none⟩=some (.iface 169 (.agg #[.pointer (some ⟨10,66,none⟩)])):=by rw[Bg _ _ ⟨0,0,none⟩ (by simp),Bg _ _ ⟨0,0,none⟩ hlt];exact hg
 have htl:t.block<w.heap.size:=by
  rcases Nat.lt_or_ge t.block w.heap.size with h|h
  .exact h
  .simp[World.cell?,Array.getElem?_eq_none h]at ht0
 have el:=S9 ⟨w.heap.size,0,none⟩ t (((w.alloc (.cells #[.pointer (some t)] 92)).alloc (.cells #[.pointer (some ⟨10,92,none⟩),.pointer (some ⟨w.heap.size,0,none⟩),.int .u64 150] 133)).alloc (.cells #[.pointer (some ⟨10,92,none⟩),.pointer (some ⟨w.heap.size,0,none⟩),.int .u64 150] 133)) (by rw[Bg _ _ ⟨w.heap.size,0,none⟩ (by simp;omega)];simp);have st:=Yf t ⟨w.heap.size+1+1+1,0,none⟩ e old ((((w.alloc (.cells #[.pointer (some t)] 92)).alloc (.cells #[.pointer (some ⟨10,92,none⟩),.pointer (some ⟨w.heap.size,0,none⟩),.int .u64 150] 133)).alloc (.cells #[.pointer (some ⟨10,92,none⟩),.pointer (some ⟨w.heap.size,0,none⟩),.int .u64 150] 133)).alloc (.cells #[.pointer (some e)] 90)) (by rw[World.cell?_alloc_at _ _ _ _ (by simp)];rfl) (by rw[Bg _ _ t (by simp;omega),Bg _ _ t (by simp;omega),Bg _ _ t (by simp;omega),Bg _ _ t htl];exact ht0) (by rw[ER _ _ t (by simp;omega),ER _ _ t (by simp;omega),ER _ _ t (by simp;omega),ER _ _ t (EA htl)];exact hf0);go_enter func49,ntmps49
 go_wp2
 refine wp_loop_rounds 1 ?_;rw[rounds_succ]
 go_wp2
 go_ret;exact⟨rfl,rfl⟩
end
