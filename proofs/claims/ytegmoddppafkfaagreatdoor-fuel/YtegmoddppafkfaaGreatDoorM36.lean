import Derived.Test.YtegmoddppafkfaaGreatDoorM00
import Derived.Test.YtegmoddppafkfaaGreatDoorM27
import Derived.LaidEql
import Derived.RowKitTokens
import Derived.Stop.Asserts
set_option maxRecDepth 100000
set_option maxHeartbeats 8000000
namespace Go.Proofs.YtegmoddppafkfaaGreatDoor
section
open Go.RowKit Go.Extern.Stop Go.Stop Go.Extern
theorem Tryz.yU (t:Addr) (w:World):(ReflectliteValue.unpack (.iface 161 (.pointer (some t)))).run Tryz.prog w = .ok (.agg #[.pointer (some ⟨9,161,none⟩),.pointer (some ⟨w.heap.size,0,none⟩),.int .u64 150]) (w.alloc (.cells #[.pointer (some t)] 161)):=by kernel_rfl
theorem Tryz.E7 (a:Addr) (w:World):(ReflectliteValue.methodAny (ReflectliteValue.valueError "reflectlite.Value.Type" 0) (fun t _ _ _=>ReflectliteType.toType t) #[.agg #[.pointer (some ⟨9,161,none⟩),.pointer (some a),.int .u64 150]]).run Tryz.prog w = .ok (.iface 269 (.agg #[.pointer (some ⟨9,161,none⟩)])) w:=by kernel_rfl
theorem Tryz.AZ (h:Value) (w:World):(Go.method 599 269 (.agg #[h]) "Kind").run Tryz.prog w = .ok (325,h) w:=by kernel_rfl
theorem Tryz.AX (h:Value) (w:World):(Go.method 599 269 (.agg #[h]) "Elem").run Tryz.prog w = .ok (340,.agg #[h]) w:=by kernel_rfl
theorem Tryz.AY (h:Value) (w:World):(Go.method 599 269 (.agg #[h]) "Implements").run Tryz.prog w = .ok (341,.agg #[h]) w:=by kernel_rfl
theorem Tryz.tW (h:Value) (w:World):(Go.method 599 269 (.agg #[h]) "AssignableTo").run Tryz.prog w = .ok (338,.agg #[h]) w:=by kernel_rfl
theorem Tryz.Dm (w:World):((ReflectliteType.abiMethod fun t=>(fun a:Nat=>Value.int IntKind.u8 (a:Int)) <$> Rtype.kind t) #[.pointer (some ⟨9,161,none⟩)]).run Tryz.prog w = .ok (.int .u8 22) w:=by kernel_rfl
theorem Tryz.Dl (w:World):((ReflectliteType.abiMethod fun t=>(fun a:Nat=>Value.int IntKind.u8 (a:Int)) <$> Rtype.kind t) #[.pointer (some ⟨9,159,none⟩)]).run Tryz.prog w = .ok (.int .u8 22) w:=by kernel_rfl
theorem Tryz.Di (w:World):(ReflectliteType.method ReflectliteType.elem #[.agg #[.pointer (some ⟨9,161,none⟩)]]).run Tryz.prog w = .ok (.iface 269 (.agg #[.pointer (some ⟨9,159,none⟩)])) w:=by kernel_rfl
theorem Tryz.Dj (w:World) : (ReflectliteType.relation "Implements" ReflectliteType.implements_ #[.agg #[.pointer (some ⟨9,159,none⟩)],.iface 269 (.agg #[.pointer (some ⟨9,101,none⟩)])]).run Tryz.prog w = .ok (.bool true) w:=by kernel_rfl
theorem Tryz.A0 (a:Addr) (w:World):(ReflectliteValue.parts (.agg #[.pointer (some ⟨9,161,none⟩),.pointer (some a),.int .u64 150])).run Tryz.prog w = .ok (some (161,a,150)) w:=by kernel_rfl
theorem rl_method (z:Sem Value) (f:TypeId→Addr→Nat→Nat→Sem Value) (v:Value):ReflectliteValue.method z f #[v]=(do match ← ReflectliteValue.parts v with | none=>z | some (t,a,fl)=>f t a fl (fl % 32)):=rfl
theorem Tryz.Dk (a p:Addr) (W:World) (ha:W.cell? a=some (.pointer (some p))):(ReflectliteValue.method (ReflectliteValue.valueError "reflectlite.Value.IsNil" 0) ReflectliteValue.isNil #[.agg #[.pointer (some ⟨9,161,none⟩),.pointer (some a),.int .u64 150]]).run Tryz.prog W = .ok (.bool false) W:=by
 rw [rl_method]
 simp only [Sem.run_bind,Tryz.A0,Result.andThen]
 simp [ReflectliteValue.isNil,loadVar,isAgg,underlying,Tryz.underlying161,ha,Result.andThen]
theorem Cw (a b:Value) (h1:Value→Value→Sem Value) (h2:Array Value→Sem Value):ReflectliteValue.set.match_3 (fun _=>Sem Value) #[a,b] h1 h2=h1 a b:=rfl
theorem Cu {w w4:World} {t:Nat} {c:Array Value} {ty:TypeId} {v:Value} (ht:w.heap[t]?=some (.cells c ty (0,0))) (hb:Below w.heap.size w w4):Below w.heap.size (w.setCell ⟨t,0,none⟩ v) (w4.setCell ⟨t,0,none⟩ v):=by
 have oa:=aa w t 0 v
 have ob:=aa w4 t 0 v
 refine ⟨ob.os.trans (hb.os.trans oa.os.symm),ob.tape.trans (hb.tape.trans oa.tape.symm),ob.output.trans (hb.output.trans oa.output.symm),by rw [oa.size,ob.size];exact hb.size,fun k hk => ?_⟩
 by_cases e:k=t
 ·subst e
  rw [heap_setCell_same w k 0 _ _ v ht,heap_setCell_same w4 k 0 _ _ v ((hb.block k hk).trans ht)]
 ·rw [ob.block k e,oa.block k e,hb.block k hk]
theorem vG (w:World):Calls Tryz.prog 49 #[.nilIface] w fun ev w'=>ev = .returned (.tuple #[.int .i64 0,.int .i64 0])∧Below w.heap.size w w':=by
 go_enter Tryz.func49,Tryz.ntmps49
 go_wp2
 go_ret2
 exact ⟨rfl,((Below.refl _ _).alloc (Nat.le_refl _) _).alloc (by simp) _⟩
theorem Tryz.yT (t:Addr) (w:World):(ReflectliteValue.unpack (.iface 164 (.pointer (some t)))).run Tryz.prog w = .ok (.agg #[.pointer (some ⟨9,164,none⟩),.pointer (some ⟨w.heap.size,0,none⟩),.int .u64 150]) (w.alloc (.cells #[.pointer (some t)] 164)):=by kernel_rfl
theorem Tryz.yS (c:Int) (w:World):(ReflectliteValue.unpack (.iface 47 (.int .i64 c))).run Tryz.prog w = .ok (.agg #[.pointer (some ⟨9,47,none⟩),.pointer (some ⟨w.heap.size,0,none⟩),.int .u64 130]) (w.alloc (.cells #[.int .i64 c] 47)):=by kernel_rfl
theorem Tryz.E6 (a:Addr) (w:World):(ReflectliteValue.methodAny (ReflectliteValue.valueError "reflectlite.Value.Type" 0) (fun t _ _ _=>ReflectliteType.toType t) #[.agg #[.pointer (some ⟨9,164,none⟩),.pointer (some a),.int .u64 150]]).run Tryz.prog w = .ok (.iface 269 (.agg #[.pointer (some ⟨9,164,none⟩)])) w:=by kernel_rfl
theorem Tryz.Dh (w:World):((ReflectliteType.abiMethod fun t=>(fun a:Nat=>Value.int IntKind.u8 (a:Int)) <$> Rtype.kind t) #[.pointer (some ⟨9,164,none⟩)]).run Tryz.prog w = .ok (.int .u8 22) w:=by kernel_rfl
theorem Tryz.Dg (w:World):((ReflectliteType.abiMethod fun t=>(fun a:Nat=>Value.int IntKind.u8 (a:Int)) <$> Rtype.kind t) #[.pointer (some ⟨9,47,none⟩)]).run Tryz.prog w = .ok (.int .u8 2) w:=by kernel_rfl
theorem Tryz.Dc (w:World):(ReflectliteType.method ReflectliteType.elem #[.agg #[.pointer (some ⟨9,164,none⟩)]]).run Tryz.prog w = .ok (.iface 269 (.agg #[.pointer (some ⟨9,47,none⟩)])) w:=by kernel_rfl
theorem Tryz.De (w:World) : (ReflectliteType.relation "Implements" ReflectliteType.implements_ #[.agg #[.pointer (some ⟨9,47,none⟩)],.iface 269 (.agg #[.pointer (some ⟨9,101,none⟩)])]).run Tryz.prog w = .ok (.bool true) w:=by kernel_rfl
theorem Tryz.tV (v:Value) (w:World):(ReflectliteType.typeOf #[.iface 47 v]).run Tryz.prog w = .ok (.iface 269 (.agg #[.pointer (some ⟨9,47,none⟩)])) w:=by kernel_rfl
theorem Tryz.yQ (w:World) : (ReflectliteType.relation "AssignableTo" ReflectliteType.assignableTo #[.agg #[.pointer (some ⟨9,47,none⟩)],.iface 269 (.agg #[.pointer (some ⟨9,47,none⟩)])]).run Tryz.prog w = .ok (.bool true) w:=by kernel_rfl
theorem Tryz.yR (w:World) : (ReflectliteType.relation "AssignableTo" ReflectliteType.assignableTo #[.agg #[.pointer (some ⟨9,47,none⟩)],.iface 269 (.agg #[.pointer (some ⟨9,159,none⟩)])]).run Tryz.prog w = .ok (.bool false) w:=by kernel_rfl
theorem Tryz.tT (a:Addr) (w:World):(ReflectliteValue.parts (.agg #[.pointer (some ⟨9,164,none⟩),.pointer (some a),.int .u64 150])).run Tryz.prog w = .ok (some (164,a,150)) w:=by kernel_rfl
theorem Tryz.AW (a:Addr) (w:World):(ReflectliteValue.parts (.agg #[.pointer (some ⟨9,47,none⟩),.pointer (some a),.int .u64 130])).run Tryz.prog w = .ok (some (47,a,130)) w:=by kernel_rfl
theorem Tryz.AU (a:Addr) (w:World):(ReflectliteValue.parts (.agg #[.pointer (some ⟨9,47,none⟩),.pointer (some a),.int .u64 386])).run Tryz.prog w = .ok (some (47,a,386)) w:=by kernel_rfl
theorem Tryz.AT (w:World):(Rtype.elem? 164).run Tryz.prog w = .ok (some 47) w:=by kernel_rfl
theorem Tryz.Gl (p:Addr) (w:World):(ReflectliteValue.mk 47 p ReflectliteValue.flagAddr).run Tryz.prog w = .ok (.agg #[.pointer (some ⟨9,47,none⟩),.pointer (some p),.int .u64 386]) w:=by kernel_rfl
theorem Tryz.AS (w:World):(Rtype.directlyAssignable 47 47).run Tryz.prog w = .ok true w:=by kernel_rfl
theorem Tryz.Df (a p:Addr) (W:World) (ha:W.cell? a=some (.pointer (some p))):(ReflectliteValue.method (ReflectliteValue.valueError "reflectlite.Value.IsNil" 0) ReflectliteValue.isNil #[.agg #[.pointer (some ⟨9,164,none⟩),.pointer (some a),.int .u64 150]]).run Tryz.prog W = .ok (.bool false) W:=by
 rw [rl_method]
 simp only [Sem.run_bind,Tryz.tT,Result.andThen]
 simp [ReflectliteValue.isNil,loadVar,isAgg,underlying,Tryz.underlying164,ha,Result.andThen]
theorem Tryz.Dd (a p:Addr) (W:World) (ha:W.cell? a=some (.pointer (some p))):(ReflectliteValue.method (ReflectliteValue.valueError "reflectlite.Value.Elem" 0) ReflectliteValue.elem #[.agg #[.pointer (some ⟨9,164,none⟩),.pointer (some a),.int .u64 150]]).run Tryz.prog W = .ok (.agg #[.pointer (some ⟨9,47,none⟩),.pointer (some p),.int .u64 386]) W:=by
 rw [rl_method]
 simp only [Sem.run_bind,Tryz.tT,Result.andThen]
 simp [ReflectliteValue.elem,loadVar,isAgg,underlying,Tryz.underlying164,ha,Result.andThen,Tryz.AT,Tryz.Gl]
theorem Tryz.FT (ta b:Addr) (c:Int) (old:Value) (W:World) (hb:W.cell? b=some (.int .i64 c)) (ht:W.cell? ta=some old) (hf:W.frozen? ta=false):(ReflectliteValue.set #[.agg #[.pointer (some ⟨9,47,none⟩),.pointer (some ta),.int .u64 386],.agg #[.pointer (some ⟨9,47,none⟩),.pointer (some b),.int .u64 130]]).run Tryz.prog W = .ok (.tuple #[]) (W.setCell ta (.int .i64 c)):=by
 delta ReflectliteValue.set
 rw [Cw]
 simp only [Sem.run_bind,Tryz.AU,Tryz.AW,Result.andThen]
 simp [ReflectliteValue.flagAddr,loadVar,isAgg,underlying,Tryz.underlying47,hb,Result.andThen,Tryz.AS,storeVar,Value.cells,storeCells,Addr.add]
 rw [run_store Tryz.prog W ta _ _ (by rfl)]
 simp [ht,hf]
theorem Tryz.GB (v:Value) (xT:TypeId) (w:World):(Instr.typeAssert (.iface 47 v) xT 274 true).run Tryz.prog w = .ok (.tuple #[.nilIface,.bool false]) w:=run_typeAssert_lacksB Tryz.underlying274 (by kernel_rfl) (by kernel_rfl) v xT w
theorem Tryz.BU (v:Value) (xT:TypeId) (w:World):(Instr.typeAssert (.iface 47 v) xT 277 true).run Tryz.prog w = .ok (.tuple #[.nilIface,.bool false]) w:=run_typeAssert_lacksB Tryz.underlying277 (by kernel_rfl) (by kernel_rfl) v xT w
theorem Tryz.zQ (v:Value) (xT:TypeId) (w:World):(Instr.typeAssert (.iface 47 v) xT 278 true).run Tryz.prog w = .ok (.tuple #[.nilIface,.bool false]) w:=run_typeAssert_lacksB Tryz.underlying278 (by kernel_rfl) (by kernel_rfl) v xT w
theorem Dn (c:Int) (t:Nat) (w:World) (hg:w.cell? ⟨0,0,none⟩=some (.iface 269 (.agg #[.pointer (some ⟨9,101,none⟩)]))) :
  Calls Tryz.prog 69 #[.iface 47 (.int .i64 c),.iface 161 (.pointer (some ⟨t,0,none⟩))] w fun ev w'=>ev = .returned (.bool false)∧Below w.heap.size w w':=by
 have hgl:0<w.heap.size:=World.block_lt_of_cell? _ _ hg
 have x1:=@run_callFunc_extern Tryz.prog 99 _ (fun args=>ReflectliteValue.unpack (args.getD 0 (.tuple #[]))) Tryz.func99 (by kernel_rfl) (by kernel_rfl) (by kernel_rfl) (by kernel_rfl)
 have x2:=@run_callFunc_extern Tryz.prog 100 _ (ReflectliteValue.methodAny (ReflectliteValue.valueError "reflectlite.Value.Type" 0) (fun t _ _ _=>ReflectliteType.toType t)) Tryz.func100 (by kernel_rfl) (by kernel_rfl) (by kernel_rfl) (by kernel_rfl)
 have x3:=@run_callFunc_extern Tryz.prog 101 _ (ReflectliteValue.method (ReflectliteValue.valueError "reflectlite.Value.IsNil" 0) ReflectliteValue.isNil) Tryz.func101 (by kernel_rfl) (by kernel_rfl) (by kernel_rfl) (by kernel_rfl)
 have x4:=@run_callFunc_extern Tryz.prog 325 _ (ReflectliteType.abiMethod fun t=>do pure (.int .u8 (← Rtype.kind t))) Tryz.func325 (by kernel_rfl) (by kernel_rfl) (by kernel_rfl) (by kernel_rfl)
 have x5:=@run_callFunc_extern Tryz.prog 340 _ (ReflectliteType.method ReflectliteType.elem) Tryz.func340 (by kernel_rfl) (by kernel_rfl) (by kernel_rfl) (by kernel_rfl)
 have x6:=@run_callFunc_extern Tryz.prog 341 _ (ReflectliteType.relation "Implements" ReflectliteType.implements_) Tryz.func341 (by kernel_rfl) (by kernel_rfl) (by kernel_rfl) (by kernel_rfl)
 have x7:=@run_callFunc_extern Tryz.prog 132 _ (ReflectliteType.typeOf) Tryz.func132 (by kernel_rfl) (by kernel_rfl) (by kernel_rfl) (by kernel_rfl)
 have x8:=@run_callFunc_extern Tryz.prog 338 _ (ReflectliteType.relation "AssignableTo" ReflectliteType.assignableTo) Tryz.func338 (by kernel_rfl) (by kernel_rfl) (by kernel_rfl) (by kernel_rfl)
 have x9:=@run_callFunc_extern Tryz.prog 133 _ (ReflectliteValue.method (ReflectliteValue.valueError "reflectlite.Value.Elem" 0) ReflectliteValue.elem) Tryz.func133 (by kernel_rfl) (by kernel_rfl) (by kernel_rfl) (by kernel_rfl)
 have x10:=@run_callFunc_extern Tryz.prog 134 _ (ReflectliteValue.set) Tryz.func134 (by kernel_rfl) (by kernel_rfl) (by kernel_rfl) (by kernel_rfl)
 have y1:=Tryz.tV
 have y2:=Tryz.tW
 have y3:=Tryz.yR
 have u1:=Tryz.GB
 have u2:=Tryz.BU
 have u3:=Tryz.zQ
 have y5:=Tryz.yU
 have y6:=Tryz.E7
 have y7:=Tryz.AZ
 have y8:=Tryz.AX
 have y9:=Tryz.AY
 have y10:=Tryz.Dm
 have y11:=Tryz.Dl
 have y12:=Tryz.Di
 have y13:=Tryz.Dj
 have z1:=Tryz.Dk ⟨w.heap.size,0,none⟩ ⟨t,0,none⟩ ((w.alloc (.cells #[.pointer (some ⟨t,0,none⟩)] 161)).alloc (.cells #[.pointer (some ⟨9,161,none⟩),.pointer (some ⟨w.heap.size,0,none⟩),.int .u64 150] 204)) (by simp)
 have hg2:((w.alloc (.cells #[.pointer (some ⟨t,0,none⟩)] 161)).alloc (.cells #[.pointer (some ⟨9,161,none⟩),.pointer (some ⟨w.heap.size,0,none⟩),.int .u64 150] 204)).cell? ⟨0,0,none⟩=some (.iface 269 (.agg #[.pointer (some ⟨9,101,none⟩)])):=by
  rw [World.cell?_alloc_lt _ _ ⟨0,0,none⟩ (by simp only [World.size_alloc];exact Nat.lt_succ_of_lt hgl),World.cell?_alloc_lt _ _ ⟨0,0,none⟩ hgl];exact hg
 go_enter Tryz.func69,Tryz.ntmps69
 go_wp2
 refine wp_loop_rounds 1 ?_
 rw [rounds_succ]
 go_wp2
 go_ret
 refine ⟨rfl,?_⟩
 exact (((Below.refl w.heap.size w).alloc (Nat.le_refl _) _).alloc (by simp) _).alloc (by simp;omega) _
theorem A6 (c:Int) (t:Nat) (old:Value) (w:World) (hg:w.cell? ⟨0,0,none⟩=some (.iface 269 (.agg #[.pointer (some ⟨9,101,none⟩)]))) (ht:w.heap[t]?=some (.cells #[old] 47 (0,0))) :
  Calls Tryz.prog 69 #[.iface 47 (.int .i64 c),.iface 164 (.pointer (some ⟨t,0,none⟩))] w fun ev w'=>ev = .returned (.bool true)∧Below w.heap.size (w.setCell ⟨t,0,none⟩ (.int .i64 c)) w':=by
 have ht0:w.cell? ⟨t,0,none⟩=some old:=by rw [cell_of_row w _ _ _ _ _ ht];rfl
 have hf0:w.frozen? ⟨t,0,none⟩=false:=by simp [World.frozen?,ht]
 have hgl:0<w.heap.size:=World.block_lt_of_cell? _ _ hg
 have htl:t<w.heap.size:=World.block_lt_of_cell? _ _ ht0
 have x1:=@run_callFunc_extern Tryz.prog 99 _ (fun args=>ReflectliteValue.unpack (args.getD 0 (.tuple #[]))) Tryz.func99 (by kernel_rfl) (by kernel_rfl) (by kernel_rfl) (by kernel_rfl)
 have x2:=@run_callFunc_extern Tryz.prog 100 _ (ReflectliteValue.methodAny (ReflectliteValue.valueError "reflectlite.Value.Type" 0) (fun t _ _ _=>ReflectliteType.toType t)) Tryz.func100 (by kernel_rfl) (by kernel_rfl) (by kernel_rfl) (by kernel_rfl)
 have x3:=@run_callFunc_extern Tryz.prog 101 _ (ReflectliteValue.method (ReflectliteValue.valueError "reflectlite.Value.IsNil" 0) ReflectliteValue.isNil) Tryz.func101 (by kernel_rfl) (by kernel_rfl) (by kernel_rfl) (by kernel_rfl)
 have x4:=@run_callFunc_extern Tryz.prog 325 _ (ReflectliteType.abiMethod fun t=>do pure (.int .u8 (← Rtype.kind t))) Tryz.func325 (by kernel_rfl) (by kernel_rfl) (by kernel_rfl) (by kernel_rfl)
 have x5:=@run_callFunc_extern Tryz.prog 340 _ (ReflectliteType.method ReflectliteType.elem) Tryz.func340 (by kernel_rfl) (by kernel_rfl) (by kernel_rfl) (by kernel_rfl)
 have x6:=@run_callFunc_extern Tryz.prog 341 _ (ReflectliteType.relation "Implements" ReflectliteType.implements_) Tryz.func341 (by kernel_rfl) (by kernel_rfl) (by kernel_rfl) (by kernel_rfl)
 have x7:=@run_callFunc_extern Tryz.prog 132 _ (ReflectliteType.typeOf) Tryz.func132 (by kernel_rfl) (by kernel_rfl) (by kernel_rfl) (by kernel_rfl)
 have x8:=@run_callFunc_extern Tryz.prog 338 _ (ReflectliteType.relation "AssignableTo" ReflectliteType.assignableTo) Tryz.func338 (by kernel_rfl) (by kernel_rfl) (by kernel_rfl) (by kernel_rfl)
 have x9:=@run_callFunc_extern Tryz.prog 133 _ (ReflectliteValue.method (ReflectliteValue.valueError "reflectlite.Value.Elem" 0) ReflectliteValue.elem) Tryz.func133 (by kernel_rfl) (by kernel_rfl) (by kernel_rfl) (by kernel_rfl)
 have x10:=@run_callFunc_extern Tryz.prog 134 _ (ReflectliteValue.set) Tryz.func134 (by kernel_rfl) (by kernel_rfl) (by kernel_rfl) (by kernel_rfl)
 have y1:=Tryz.tV
 have y2:=Tryz.tW
 have y3:=Tryz.yQ
 have y4:=Tryz.yS
 have y5:=Tryz.yT
 have y6:=Tryz.E6
 have y7:=Tryz.AZ
 have y8:=Tryz.AX
 have y9:=Tryz.AY
 have y10:=Tryz.Dh
 have y11:=Tryz.Dg
 have y12:=Tryz.Dc
 have y13:=Tryz.De
 have z1:=Tryz.Df ⟨w.heap.size,0,none⟩ ⟨t,0,none⟩ ((w.alloc (.cells #[.pointer (some ⟨t,0,none⟩)] 164)).alloc (.cells #[.pointer (some ⟨9,164,none⟩),.pointer (some ⟨w.heap.size,0,none⟩),.int .u64 150] 204)) (by simp)
 have hg2:((w.alloc (.cells #[.pointer (some ⟨t,0,none⟩)] 164)).alloc (.cells #[.pointer (some ⟨9,164,none⟩),.pointer (some ⟨w.heap.size,0,none⟩),.int .u64 150] 204)).cell? ⟨0,0,none⟩=some (.iface 269 (.agg #[.pointer (some ⟨9,101,none⟩)])):=by
  rw [World.cell?_alloc_lt _ _ ⟨0,0,none⟩ (by simp only [World.size_alloc];exact Nat.lt_succ_of_lt hgl),World.cell?_alloc_lt _ _ ⟨0,0,none⟩ hgl];exact hg
 have z2:=Tryz.Dd ⟨w.heap.size,0,none⟩ ⟨t,0,none⟩ (((w.alloc (.cells #[.pointer (some ⟨t,0,none⟩)] 164)).alloc (.cells #[.pointer (some ⟨9,164,none⟩),.pointer (some ⟨w.heap.size,0,none⟩),.int .u64 150] 204)).alloc (.cells #[.pointer (some ⟨9,164,none⟩),.pointer (some ⟨w.heap.size,0,none⟩),.int .u64 150] 204)) (by rw [World.cell?_alloc_lt _ _ ⟨w.heap.size,0,none⟩ (by simp;omega)];simp)
 have z3:=Tryz.FT ⟨t,0,none⟩ ⟨w.heap.size+1+1+1,0,none⟩ c old ((((w.alloc (.cells #[.pointer (some ⟨t,0,none⟩)] 164)).alloc (.cells #[.pointer (some ⟨9,164,none⟩),.pointer (some ⟨w.heap.size,0,none⟩),.int .u64 150] 204)).alloc (.cells #[.pointer (some ⟨9,164,none⟩),.pointer (some ⟨w.heap.size,0,none⟩),.int .u64 150] 204)).alloc (.cells #[.int .i64 c] 47))
  (by rw [World.cell?_alloc_at _ _ _ _ (by simp)];rfl)
  (by rw [World.cell?_alloc_lt _ _ ⟨t,0,none⟩ (by simp;omega),World.cell?_alloc_lt _ _ ⟨t,0,none⟩ (by simp;omega),World.cell?_alloc_lt _ _ ⟨t,0,none⟩ (by simp;omega),World.cell?_alloc_lt _ _ ⟨t,0,none⟩ htl];exact ht0)
  (by rw [World.frozen?_alloc_old _ _ ⟨t,0,none⟩ (by simp;omega),World.frozen?_alloc_old _ _ ⟨t,0,none⟩ (by simp;omega),World.frozen?_alloc_old _ _ ⟨t,0,none⟩ (by simp;omega),World.frozen?_alloc_old _ _ ⟨t,0,none⟩ (Nat.ne_of_lt htl)];exact hf0)
 go_enter Tryz.func69,Tryz.ntmps69
 go_wp2
 refine wp_loop_rounds 1 ?_
 rw [rounds_succ]
 go_wp2
 go_ret
 refine ⟨rfl,?_⟩
 exact Cu ht (((((Below.refl w.heap.size w).alloc (Nat.le_refl _) _).alloc (by simp) _).alloc (by simp;omega) _).alloc (by simp;omega) _)
theorem xE (c:Int) (w:World) (hg:w.cell? ⟨0,0,none⟩=some (.iface 269 (.agg #[.pointer (some ⟨9,101,none⟩)]))) :
  Calls Tryz.prog 49 #[.iface 47 (.int .i64 c)] w fun ev w'=>ev = .returned (.tuple #[.int .i64 c,.int .i64 0])∧Below w.heap.size w w':=by
 have hgl:0<w.heap.size:=World.block_lt_of_cell? _ _ hg
 obtain ⟨W1,hW1⟩:∃ y,y=(w.alloc (.cells #[.pointer none] 159)).alloc (.cells #[.int .i64 0] 47):=⟨_,rfl⟩
 have hb1:Below w.heap.size w W1:=by rw [hW1];exact ((Below.refl _ _).alloc (Nat.le_refl _) _).alloc (by simp) _
 have h1:W1.heap[w.heap.size+1]?=some (.cells #[.int .i64 0] 47 (0,0)):=by rw [hW1];exact bE _ _ _
 have hg1:=(World.cell?_of_block (w:=w) (w':=W1) (a:=⟨0,0,none⟩) (hb1.block _ hgl)).trans hg
 have HA:Hid _:=Dn c w.heap.size W1 hg1
 have HW1:Hid _:=hW1
 go_enter Tryz.func49,Tryz.ntmps49
 go_wp2_with fail
 rw [← HW1.out]
 refine Calls.mono HA.out ?_
 rintro ev w2 ⟨rfl,hb2⟩
 have hl1:=(Array.getElem?_eq_some_iff.1 h1).1
 have h2:=(hb2.block _ hl1).trans h1
 have hg2:=(World.cell?_of_block (w:=W1) (w':=w2) (a:=⟨0,0,none⟩) (hb2.block _ (Nat.lt_of_lt_of_le hgl hb1.size))).trans hg1
 have HB2:Hid (Below w.heap.size w w2):=hb1.trans (hb2.mono hb1.size)
 have HC:Hid _:=A6 c (w.heap.size+1) _ w2 hg2 h2
 clear hb2 hg2
 dsimp only
 go_wp2_with fail
 refine Calls.mono HC.out ?_
 rintro ev w3 ⟨rfl,hb3⟩
 have oo:=aa w2 (w.heap.size+1) 0 (.int .i64 c)
 have r0:=heap_setCell_same w2 (w.heap.size+1) 0 _ _ (.int .i64 c) h2
 have hl2:=(Array.getElem?_eq_some_iff.1 h2).1
 have r2:=(hb3.block (w.heap.size+1) hl2).trans r0
 have t0:w3.cell? ⟨w.heap.size+1,0,none⟩=some (.int .i64 c):=by rw [cell_of_row w3 _ _ _ _ _ r2];rfl
 have HB:Hid (Below w.heap.size w w3):=(oo.below HB2.out (by omega)).trans (hb3.mono HB2.out.size)
 clear hb3 oo r0 r2 h2
 dsimp only
 go_wp2_with fail
 go_ret2
 exact ⟨rfl,HB.out⟩
end
end Go.Proofs.YtegmoddppafkfaaGreatDoor
