import Derived.Test.YtegmoddppafkfaaGreatDoorM16
import Derived.RowKitTokens
set_option maxRecDepth 100000
set_option maxHeartbeats 8000000
namespace Go.Proofs.YtegmoddppafkfaaGreatDoor
variable {zp:Prop}
theorem zez (h:zp:=by
 rw [LX _ _ ⟨0,0,none⟩ zbv,LX _ _ ⟨0,0,none⟩ hgl];exact hg):zp:=h
theorem zbv (h:zp:=by simp only [World.size_alloc];exact PQ hgl):zp:=h
theorem zbS (h:zp:=by rw [M5 _ _ ⟨t,0,none⟩ (by simp;omega),M5 _ _ ⟨t,0,none⟩ (by simp;omega),M5 _ _ ⟨t,0,none⟩ (by simp;omega),M5 _ _ ⟨t,0,none⟩ (Nat.ne_of_lt htl)];exact hf0):zp:=h
theorem zbT (h:zp:=by rw [LX _ _ ⟨t,0,none⟩ (by simp;omega),LX _ _ ⟨t,0,none⟩ (by simp;omega),LX _ _ ⟨t,0,none⟩ (by simp;omega),LX _ _ ⟨t,0,none⟩ htl];exact ht0):zp:=h
theorem zcc (h:zp:=by rw [hW1];exact ((K9 _ _).alloc (K7 _) _).alloc (by simp) _):zp:=h
theorem zcj (h:zp:=by rw [World.cell?_alloc_at _ _ _ _ (by simp)];rfl):zp:=h
theorem zcp (h:zp:=by rw [LX _ _ ⟨w,0,none⟩ (by simp;omega)];simp):zp:=h
open Tryz
section
open Go.RowKit Go.Extern.Stop Go.Stop Go.Extern
theorem tE (t:Addr) (w:World):(ReflectliteValue.unpack (.iface 161 (.pointer (some t)))).run prog w = .ok (.agg #[.pointer (some ⟨9,161,none⟩),w,.int .u64 150]) (w.alloc (.cells #[.pointer (some t)] 161)):=zab
theorem CP (e:Addr) (w:World):(ReflectliteValue.unpack (.iface 159 (.pointer (some e)))).run prog w = .ok (.agg #[.pointer (some ⟨9,159,none⟩),w,.int .u64 150]) (w.alloc (.cells #[.pointer (some e)] 159)):=zab
theorem EH (a:Addr) (w:World):(ReflectliteValue.methodAny (ReflectliteValue.valueError "reflectlite.Value.Type" 0) (fun t _ _ _=>ReflectliteType.toType t) #[.agg #[.pointer (some ⟨9,161,none⟩),.pointer (some a),.int .u64 150]]).run prog w = .ok (.iface 269 (.agg #[.pointer (some ⟨9,161,none⟩)])) w:=zab
theorem zW (h:Value) (w:World):(Go.method 599 269 (.agg #[h]) "Kind").run prog w = .ok (325,h) w:=zab
theorem zU (h:Value) (w:World):(Go.method 599 269 (.agg #[h]) "Elem").run prog w = .ok (340,.agg #[h]) w:=zab
theorem zV (h:Value) (w:World):(Go.method 599 269 (.agg #[h]) "Implements").run prog w = .ok (341,.agg #[h]) w:=zab
theorem qC (h:Value) (w:World):(Go.method 599 269 (.agg #[h]) "AssignableTo").run prog w = .ok (338,.agg #[h]) w:=zab
theorem BY (w:World):((ReflectliteType.abiMethod fun t=>(fun a:Nat=>Value.int IntKind.u8 (a:Int)) <$> Rtype.kind t) #[.pointer (some ⟨9,161,none⟩)]).run prog w = .ok (.int .u8 22) w:=zab
theorem BX (w:World):((ReflectliteType.abiMethod fun t=>(fun a:Nat=>Value.int IntKind.u8 (a:Int)) <$> Rtype.kind t) #[.pointer (some ⟨9,159,none⟩)]).run prog w = .ok (.int .u8 22) w:=zab
theorem BU (w:World):(ReflectliteType.method ReflectliteType.elem #[.agg #[.pointer (some ⟨9,161,none⟩)]]).run prog w = .ok (.iface 269 (.agg #[.pointer (some ⟨9,159,none⟩)])) w:=zab
theorem BV (w:World) : (ReflectliteType.relation "Implements" ReflectliteType.implements_ #[.agg #[.pointer (some ⟨9,159,none⟩)],.iface 269 (.agg #[.pointer (some ⟨9,101,none⟩)])]).run prog w = .ok (.bool true) w:=zab
theorem EI (v:Value) (w:World):(ReflectliteType.typeOf #[.iface 159 v]).run prog w = .ok (.iface 269 (.agg #[.pointer (some ⟨9,159,none⟩)])) w:=zab
theorem CO (w:World) : (ReflectliteType.relation "AssignableTo" ReflectliteType.assignableTo #[.agg #[.pointer (some ⟨9,159,none⟩)],.iface 269 (.agg #[.pointer (some ⟨9,159,none⟩)])]).run prog w = .ok (.bool true) w:=zab
theorem xu (a:Addr) (w:World):(ReflectliteValue.parts (.agg #[.pointer (some ⟨9,161,none⟩),.pointer (some a),.int .u64 150])).run prog w = .ok (some (161,a,150)) w:=zab
theorem EG (a:Addr) (w:World):(ReflectliteValue.parts (.agg #[.pointer (some ⟨9,159,none⟩),.pointer (some a),.int .u64 150])).run prog w = .ok (some (159,a,150)) w:=zab
theorem EF (a:Addr) (w:World):(ReflectliteValue.parts (.agg #[.pointer (some ⟨9,159,none⟩),.pointer (some a),.int .u64 406])).run prog w = .ok (some (159,a,406)) w:=zab
theorem EE (w:World):(Rtype.elem? 161).run prog w = .ok (some 159) w:=zab
theorem KN (p:Addr) (w:World):(ReflectliteValue.mk 159 p ReflectliteValue.flagAddr).run prog w = .ok (.agg #[.pointer (some ⟨9,159,none⟩),.pointer (some p),.int .u64 406]) w:=zab
theorem ED (w:World):(Rtype.directlyAssignable 159 159).run prog w = .ok true w:=zab
theorem rl_method (z:Sem Value) (f:TypeId->Addr->Nat->Nat->Sem Value) (v:Value):ReflectliteValue.method z f #[v]=(do match <- ReflectliteValue.parts v with | none=>z | some (t,a,fl)=>f t a fl (fl % 32)):=rfl
theorem BW (a p:Addr) (W:World) (ha:W.cell? a=some (.pointer (some p))):(ReflectliteValue.method (ReflectliteValue.valueError "reflectlite.Value.IsNil" 0) ReflectliteValue.isNil #[.agg #[.pointer (some ⟨9,161,none⟩),.pointer (some a),.int .u64 150]]).run prog W = .ok (.bool false) W:=by
 rw [rl_method];simp only [Sem.run_bind,xu,Result.andThen];simp [ReflectliteValue.isNil,loadVar,isAgg,underlying,underlying161,ha,Result.andThen]
theorem G9 (a p:Addr) (W:World) (ha:W.cell? a=some (.pointer (some p))):(ReflectliteValue.method (ReflectliteValue.valueError "reflectlite.Value.Elem" 0) ReflectliteValue.elem #[.agg #[.pointer (some ⟨9,161,none⟩),.pointer (some a),.int .u64 150]]).run prog W = .ok (.agg #[.pointer (some ⟨9,159,none⟩),.pointer (some p),.int .u64 406]) W:=by
 rw [rl_method];simp only [Sem.run_bind,xu,Result.andThen];simp [ReflectliteValue.elem,loadVar,isAgg,underlying,underlying161,ha,Result.andThen,EE,KN]
theorem zc (a b:Value) (h1:Value->Value->Sem Value) (h2:Array Value->Sem Value):ReflectliteValue.set.match_3 (fun _=>Sem Value) #[a,b] h1 h2=h1 a b:=rfl
theorem Ki (ta b e:Addr) (old:Value) (W:World) (hb:W.cell? b=some (.pointer (some e))) (ht:W.cell? ta=some old) (hf:W.frozen? ta=false):(ReflectliteValue.set #[.agg #[.pointer (some ⟨9,159,none⟩),.pointer (some ta),.int .u64 406],.agg #[.pointer (some ⟨9,159,none⟩),.pointer (some b),.int .u64 150]]).run prog W = .ok (.tuple #[]) (W.setCell ta (.pointer (some e))):=by
 delta ReflectliteValue.set
 rw [zc];simp only [Sem.run_bind,EF,EG,Result.andThen];simp [ReflectliteValue.flagAddr,loadVar,isAgg,underlying,underlying159,hb,Result.andThen,ED,storeVar,Value.cells,storeCells,Addr.add];rw [PZ prog W ta _ _ zae];simp [ht,hf]
theorem za {w w4:World} {t:Nat} {c:Array Value} {ty:TypeId} {v:Value} (ht:w.heap[t]?=some (.cells c ty (0,0))) (hb:Below w w w4):Below w (w.setCell t v) (w4.setCell t v):=by
 have oa:=aa w t 0 v;have ob:=aa w4 t 0 v;refine ⟨ob.os.trans (hb.os.trans oa.os.symm),ob.tape.trans (hb.tape.trans oa.tape.symm),ob.output.trans (hb.output.trans oa.output.symm),by rw [oa.size,ob.size];exact hb.size,fun k hk => ?_⟩;by_cases e:k=t
 ·subst e;rw [Lp w k 0 _ _ v ht,Lp w4 k 0 _ _ v ((hb.block k hk).trans ht)]
 ·rw [ob.block k e,oa.block k e,hb.block k hk]
theorem EK (e t:Nat) (old:Value) (w:World) (hg:w.cell? ⟨0,0,none⟩=some (.iface 269 (.agg #[.pointer (some ⟨9,101,none⟩)]))) (ht:w.heap[t]?=some (.cells #[old] 159 (0,0))) :
  () 69 #[.iface 159 e,.iface 161 t] w fun ev w'=>ev = .returned true/\Below w (w.setCell t e) w':=by
 have ht0:w.cell? t=some old:=by rw [Lb w _ _ _ _ _ ht];rfl
 have hf0:w.frozen? ⟨t,0,none⟩=false:=by simp [World.frozen?,ht]
 have hgl:0<w.heap.size:=LC _ _ hg;have htl:t<w.heap.size:=LC _ _ ht0;have x1:=@run_callFunc_extern prog 99 _ (fun args=>ReflectliteValue.unpack (args.getD 0 (.tuple #[]))) func99 zab zab zab zab;have x2:=@run_callFunc_extern prog 100 _ (ReflectliteValue.methodAny (ReflectliteValue.valueError "reflectlite.Value.Type" 0) (fun t _ _ _=>ReflectliteType.toType t)) func100 zab zab zab zab;have x3:=@run_callFunc_extern prog 101 _ (ReflectliteValue.method (ReflectliteValue.valueError "reflectlite.Value.IsNil" 0) ReflectliteValue.isNil) func101 zab zab zab zab;have x4:=@run_callFunc_extern prog 325 _ (ReflectliteType.abiMethod fun t=>do pure (.int .u8 (<- Rtype.kind t))) func325 zab zab zab zab;have x5:=@run_callFunc_extern prog 340 _ (ReflectliteType.method ReflectliteType.elem) func340 zab zab zab zab;have x6:=@run_callFunc_extern prog 341 _ (ReflectliteType.relation "Implements" ReflectliteType.implements_) func341 zab zab zab zab;have x7:=@run_callFunc_extern prog 132 _ (ReflectliteType.typeOf) func132 zab zab zab zab;have x8:=@run_callFunc_extern prog 338 _ (ReflectliteType.relation "AssignableTo" ReflectliteType.assignableTo) func338 zab zab zab zab;have x9:=@run_callFunc_extern prog 133 _ (ReflectliteValue.method (ReflectliteValue.valueError "reflectlite.Value.Elem" 0) ReflectliteValue.elem) func133 zab zab zab zab;have x10:=@run_callFunc_extern prog 134 _ (ReflectliteValue.set) func134 zab zab zab zab;have y1:=EI;have y2:=qC;have y3:=CO;have y4:=CP;have y5:=tE;have y6:=EH;have y7:=zW;have y8:=zU;have y9:=zV;have y10:=BY;have y11:=BX;have y12:=BU;have y13:=BV;have z1:=BW ⟨w,0,none⟩ ⟨t,0,none⟩ ((w.alloc (.cells #[t] 161)).alloc (.cells #[.pointer (some ⟨9,161,none⟩),w,.int .u64 150] 204)) zad;have hg2:((w.alloc (.cells #[t] 161)).alloc (.cells #[.pointer (some ⟨9,161,none⟩),w,.int .u64 150] 204)).cell? ⟨0,0,none⟩=some (.iface 269 (.agg #[.pointer (some ⟨9,101,none⟩)])):=by
  exact zez
 have z2:=G9 ⟨w,0,none⟩ ⟨t,0,none⟩ (((w.alloc (.cells #[t] 161)).alloc (.cells #[.pointer (some ⟨9,161,none⟩),w,.int .u64 150] 204)).alloc (.cells #[.pointer (some ⟨9,161,none⟩),w,.int .u64 150] 204)) zcp;have z3:=Ki ⟨t,0,none⟩ ⟨w.heap.size+1+1+1,0,none⟩ ⟨e,0,none⟩ old ((((w.alloc (.cells #[t] 161)).alloc (.cells #[.pointer (some ⟨9,161,none⟩),w,.int .u64 150] 204)).alloc (.cells #[.pointer (some ⟨9,161,none⟩),w,.int .u64 150] 204)).alloc (.cells #[e] 159))
  zcj
  zbT
  zbS
 go_enter func69,ntmps69;go_wp2;refine OA 1 ?_;rw [Pf];go_wp2;go_ret;refine ⟨rfl,?_⟩;exact za ht (((((K9 w w).alloc (K7 _) _).alloc zad _).alloc zaf _).alloc zaf _)
theorem Bz (e:Nat) (c l:Int) (w:World) (hg:w.cell? ⟨0,0,none⟩=some (.iface 269 (.agg #[.pointer (some ⟨9,101,none⟩)]))) (he:w.heap[e]?=some (.cells #[(c:Int),(l:Int)] 163 (0,0))) :
  () 49 #[.iface 159 e] w fun ev w'=>ev = .returned (.tuple #[(c:Int),(l:Int)])/\Below w w w':=by
 have hgl:0<w.heap.size:=LC _ _ hg;have hel:=(K6.1 he).1;obtain ⟨W1,hW1⟩:∃ y,y=(w.alloc (.cells #[.pointer none] 159)).alloc (.cells #[(0:Int)] 47):=⟨_,rfl⟩;have hb1:Below w w W1:=zcc;have h0:W1.heap[w.heap.size]?=some (.cells #[.pointer none] 159 (0,0)):=by rw [hW1];exact eF _ _ _
 have hg1:=(Ln (w:=w) (w':=W1) (a:=⟨0,0,none⟩) (hb1.block _ hgl)).trans hg;have HA:Hid (() 69 #[.iface 159 e,.iface 161 w] W1 fun ev w'=>ev = .returned true/\Below W1 (W1.setCell w e) w'):=EK e w _ W1 hg1 h0;have HW1:Hid _:=hW1;go_enter func49,ntmps49;go_wp2_with fail;rw [<- HW1.out];refine Lh HA.out ?_;rintro ev w2 ⟨rfl,hb2⟩;have oo:=aa W1 w 0 e;have r0:=Lp W1 w 0 _ _ e h0;have hl0:=(K6.1 h0).1;have r2:=(hb2.block w hl0).trans r0;have t0:w2.cell? w=some ↑e:=by rw [Lb w2 _ _ _ _ _ r2];rfl
 have e1:=(hb1.block e hel).trans he;have e2:=(hb2.block e (by have:=hb1.size;omega)).trans ((oo.block e zaa).trans e1);have t1:w2.cell? e=some ↑(c:Int):=by rw [Lb w2 _ _ _ _ _ e2];rfl
 have t2:w2.cell? ⟨e,1,none⟩=some ↑(l:Int):=by rw [Lb w2 _ _ _ _ _ e2];rfl
 have HB:Hid (Below w w w2):=(oo.below hb1 (K7 _)).trans (hb2.mono hb1.size);clear hb2 oo r0 r2 e1 e2;dsimp only;go_wp2_with fail
 go_quiet (fail)
 go_wp2;go_ret2;exact ⟨rfl,Ng HB.out _⟩
theorem zq (w:World):() 49 #[.nilIface] w fun ev w'=>ev = .returned (.tuple #[(0:Int),(0:Int)])/\Below w w w':=by
 go_enter func49,ntmps49;go_wp2;go_ret2;exact ⟨rfl,((K9 _ _).alloc (K7 _) _).alloc zad _⟩
theorem CM (t:Addr) (w:World):(ReflectliteValue.unpack (.iface 164 (.pointer (some t)))).run prog w = .ok (.agg #[.pointer (some ⟨9,164,none⟩),w,.int .u64 150]) (w.alloc (.cells #[.pointer (some t)] 164)):=zab
theorem CL (c:Int) (w:World):(ReflectliteValue.unpack (.iface 47 (.int .i64 c))).run prog w = .ok (.agg #[.pointer (some ⟨9,47,none⟩),w,.int .u64 130]) (w.alloc (.cells #[(c:Int)] 47)):=zab
theorem JB (a:Addr) (w:World):(ReflectliteValue.methodAny (ReflectliteValue.valueError "reflectlite.Value.Type" 0) (fun t _ _ _=>ReflectliteType.toType t) #[.agg #[.pointer (some ⟨9,164,none⟩),.pointer (some a),.int .u64 150]]).run prog w = .ok (.iface 269 (.agg #[.pointer (some ⟨9,164,none⟩)])) w:=zab
theorem G7 (w:World):((ReflectliteType.abiMethod fun t=>(fun a:Nat=>Value.int IntKind.u8 (a:Int)) <$> Rtype.kind t) #[.pointer (some ⟨9,164,none⟩)]).run prog w = .ok (.int .u8 22) w:=zab
theorem GZ (w:World):((ReflectliteType.abiMethod fun t=>(fun a:Nat=>Value.int IntKind.u8 (a:Int)) <$> Rtype.kind t) #[.pointer (some ⟨9,47,none⟩)]).run prog w = .ok (.int .u8 2) w:=zab
theorem GV (w:World):(ReflectliteType.method ReflectliteType.elem #[.agg #[.pointer (some ⟨9,164,none⟩)]]).run prog w = .ok (.iface 269 (.agg #[.pointer (some ⟨9,47,none⟩)])) w:=zab
theorem GX (w:World) : (ReflectliteType.relation "Implements" ReflectliteType.implements_ #[.agg #[.pointer (some ⟨9,47,none⟩)],.iface 269 (.agg #[.pointer (some ⟨9,101,none⟩)])]).run prog w = .ok (.bool true) w:=zab
theorem xt (v:Value) (w:World):(ReflectliteType.typeOf #[.iface 47 v]).run prog w = .ok (.iface 269 (.agg #[.pointer (some ⟨9,47,none⟩)])) w:=zab
theorem CJ (w:World) : (ReflectliteType.relation "AssignableTo" ReflectliteType.assignableTo #[.agg #[.pointer (some ⟨9,47,none⟩)],.iface 269 (.agg #[.pointer (some ⟨9,47,none⟩)])]).run prog w = .ok (.bool true) w:=zab
theorem CK (w:World) : (ReflectliteType.relation "AssignableTo" ReflectliteType.assignableTo #[.agg #[.pointer (some ⟨9,47,none⟩)],.iface 269 (.agg #[.pointer (some ⟨9,159,none⟩)])]).run prog w = .ok (.bool false) w:=zab
theorem xr (a:Addr) (w:World):(ReflectliteValue.parts (.agg #[.pointer (some ⟨9,164,none⟩),.pointer (some a),.int .u64 150])).run prog w = .ok (some (164,a,150)) w:=zab
theorem EC (a:Addr) (w:World):(ReflectliteValue.parts (.agg #[.pointer (some ⟨9,47,none⟩),.pointer (some a),.int .u64 130])).run prog w = .ok (some (47,a,130)) w:=zab
theorem EB (a:Addr) (w:World):(ReflectliteValue.parts (.agg #[.pointer (some ⟨9,47,none⟩),.pointer (some a),.int .u64 386])).run prog w = .ok (some (47,a,386)) w:=zab
theorem EA (w:World):(Rtype.elem? 164).run prog w = .ok (some 47) w:=zab
theorem KM (p:Addr) (w:World):(ReflectliteValue.mk 47 p ReflectliteValue.flagAddr).run prog w = .ok (.agg #[.pointer (some ⟨9,47,none⟩),.pointer (some p),.int .u64 386]) w:=zab
theorem Ez (w:World):(Rtype.directlyAssignable 47 47).run prog w = .ok true w:=zab
theorem GY (a p:Addr) (W:World) (ha:W.cell? a=some (.pointer (some p))):(ReflectliteValue.method (ReflectliteValue.valueError "reflectlite.Value.IsNil" 0) ReflectliteValue.isNil #[.agg #[.pointer (some ⟨9,164,none⟩),.pointer (some a),.int .u64 150]]).run prog W = .ok (.bool false) W:=by
 rw [rl_method];simp only [Sem.run_bind,xr,Result.andThen];simp [ReflectliteValue.isNil,loadVar,isAgg,underlying,underlying164,ha,Result.andThen]
theorem GW (a p:Addr) (W:World) (ha:W.cell? a=some (.pointer (some p))):(ReflectliteValue.method (ReflectliteValue.valueError "reflectlite.Value.Elem" 0) ReflectliteValue.elem #[.agg #[.pointer (some ⟨9,164,none⟩),.pointer (some a),.int .u64 150]]).run prog W = .ok (.agg #[.pointer (some ⟨9,47,none⟩),.pointer (some p),.int .u64 386]) W:=by
 rw [rl_method];simp only [Sem.run_bind,xr,Result.andThen];simp [ReflectliteValue.elem,loadVar,isAgg,underlying,underlying164,ha,Result.andThen,EA,KM]
theorem Kh (ta b:Addr) (c:Int) (old:Value) (W:World) (hb:W.cell? b=some ↑(c:Int)) (ht:W.cell? ta=some old) (hf:W.frozen? ta=false):(ReflectliteValue.set #[.agg #[.pointer (some ⟨9,47,none⟩),.pointer (some ta),.int .u64 386],.agg #[.pointer (some ⟨9,47,none⟩),.pointer (some b),.int .u64 130]]).run prog W = .ok (.tuple #[]) (W.setCell ta (.int .i64 c)):=by
 delta ReflectliteValue.set
 rw [zc];simp only [Sem.run_bind,EB,EC,Result.andThen];simp [ReflectliteValue.flagAddr,loadVar,isAgg,underlying,underlying47,hb,Result.andThen,Ez,storeVar,Value.cells,storeCells,Addr.add];rw [PZ prog W ta _ _ zae];simp [ht,hf]
theorem K1 (v:Value) (xT:TypeId) (w:World):(Instr.typeAssert (.iface 47 v) xT 274 true).run prog w = .ok (.tuple #[.nilIface,false]) w:=run_typeAssert_lacksB underlying274 zab zab v xT w
theorem FH (v:Value) (xT:TypeId) (w:World):(Instr.typeAssert (.iface 47 v) xT 277 true).run prog w = .ok (.tuple #[.nilIface,false]) w:=run_typeAssert_lacksB underlying277 zab zab v xT w
theorem Dz (v:Value) (xT:TypeId) (w:World):(Instr.typeAssert (.iface 47 v) xT 278 true).run prog w = .ok (.tuple #[.nilIface,false]) w:=run_typeAssert_lacksB underlying278 zab zab v xT w
theorem Ha (c:Int) (t:Nat) (w:World) (hg:w.cell? ⟨0,0,none⟩=some (.iface 269 (.agg #[.pointer (some ⟨9,101,none⟩)]))) :
  () 69 #[.iface 47 (.int .i64 c),.iface 161 t] w fun ev w'=>ev = .returned false/\Below w w w':=by
 have hgl:0<w.heap.size:=LC _ _ hg;have x1:=@run_callFunc_extern prog 99 _ (fun args=>ReflectliteValue.unpack (args.getD 0 (.tuple #[]))) func99 zab zab zab zab;have x2:=@run_callFunc_extern prog 100 _ (ReflectliteValue.methodAny (ReflectliteValue.valueError "reflectlite.Value.Type" 0) (fun t _ _ _=>ReflectliteType.toType t)) func100 zab zab zab zab;have x3:=@run_callFunc_extern prog 101 _ (ReflectliteValue.method (ReflectliteValue.valueError "reflectlite.Value.IsNil" 0) ReflectliteValue.isNil) func101 zab zab zab zab;have x4:=@run_callFunc_extern prog 325 _ (ReflectliteType.abiMethod fun t=>do pure (.int .u8 (<- Rtype.kind t))) func325 zab zab zab zab;have x5:=@run_callFunc_extern prog 340 _ (ReflectliteType.method ReflectliteType.elem) func340 zab zab zab zab;have x6:=@run_callFunc_extern prog 341 _ (ReflectliteType.relation "Implements" ReflectliteType.implements_) func341 zab zab zab zab;have x7:=@run_callFunc_extern prog 132 _ (ReflectliteType.typeOf) func132 zab zab zab zab;have x8:=@run_callFunc_extern prog 338 _ (ReflectliteType.relation "AssignableTo" ReflectliteType.assignableTo) func338 zab zab zab zab;have x9:=@run_callFunc_extern prog 133 _ (ReflectliteValue.method (ReflectliteValue.valueError "reflectlite.Value.Elem" 0) ReflectliteValue.elem) func133 zab zab zab zab;have x10:=@run_callFunc_extern prog 134 _ (ReflectliteValue.set) func134 zab zab zab zab;have y1:=xt;have y2:=qC;have y3:=CK;have u1:=K1;have u2:=FH;have u3:=Dz;have y5:=tE;have y6:=EH;have y7:=zW;have y8:=zU;have y9:=zV;have y10:=BY;have y11:=BX;have y12:=BU;have y13:=BV;have z1:=BW ⟨w,0,none⟩ ⟨t,0,none⟩ ((w.alloc (.cells #[t] 161)).alloc (.cells #[.pointer (some ⟨9,161,none⟩),w,.int .u64 150] 204)) zad;have hg2:((w.alloc (.cells #[t] 161)).alloc (.cells #[.pointer (some ⟨9,161,none⟩),w,.int .u64 150] 204)).cell? ⟨0,0,none⟩=some (.iface 269 (.agg #[.pointer (some ⟨9,101,none⟩)])):=by
  exact zez
 go_enter func69,ntmps69;go_wp2;refine OA 1 ?_;rw [Pf];go_wp2;go_ret;refine ⟨rfl,?_⟩;exact (((K9 w w).alloc (K7 _) _).alloc zad _).alloc zaf _
theorem EJ (c:Int) (t:Nat) (old:Value) (w:World) (hg:w.cell? ⟨0,0,none⟩=some (.iface 269 (.agg #[.pointer (some ⟨9,101,none⟩)]))) (ht:w.heap[t]?=some (.cells #[old] 47 (0,0))) :
  () 69 #[.iface 47 (.int .i64 c),.iface 164 t] w fun ev w'=>ev = .returned true/\Below w (w.setCell t (.int .i64 c)) w':=by
 have ht0:w.cell? t=some old:=by rw [Lb w _ _ _ _ _ ht];rfl
 have hf0:w.frozen? ⟨t,0,none⟩=false:=by simp [World.frozen?,ht]
 have hgl:0<w.heap.size:=LC _ _ hg;have htl:t<w.heap.size:=LC _ _ ht0;have x1:=@run_callFunc_extern prog 99 _ (fun args=>ReflectliteValue.unpack (args.getD 0 (.tuple #[]))) func99 zab zab zab zab;have x2:=@run_callFunc_extern prog 100 _ (ReflectliteValue.methodAny (ReflectliteValue.valueError "reflectlite.Value.Type" 0) (fun t _ _ _=>ReflectliteType.toType t)) func100 zab zab zab zab;have x3:=@run_callFunc_extern prog 101 _ (ReflectliteValue.method (ReflectliteValue.valueError "reflectlite.Value.IsNil" 0) ReflectliteValue.isNil) func101 zab zab zab zab;have x4:=@run_callFunc_extern prog 325 _ (ReflectliteType.abiMethod fun t=>do pure (.int .u8 (<- Rtype.kind t))) func325 zab zab zab zab;have x5:=@run_callFunc_extern prog 340 _ (ReflectliteType.method ReflectliteType.elem) func340 zab zab zab zab;have x6:=@run_callFunc_extern prog 341 _ (ReflectliteType.relation "Implements" ReflectliteType.implements_) func341 zab zab zab zab;have x7:=@run_callFunc_extern prog 132 _ (ReflectliteType.typeOf) func132 zab zab zab zab;have x8:=@run_callFunc_extern prog 338 _ (ReflectliteType.relation "AssignableTo" ReflectliteType.assignableTo) func338 zab zab zab zab;have x9:=@run_callFunc_extern prog 133 _ (ReflectliteValue.method (ReflectliteValue.valueError "reflectlite.Value.Elem" 0) ReflectliteValue.elem) func133 zab zab zab zab;have x10:=@run_callFunc_extern prog 134 _ (ReflectliteValue.set) func134 zab zab zab zab;have y1:=xt;have y2:=qC;have y3:=CJ;have y4:=CL;have y5:=CM;have y6:=JB;have y7:=zW;have y8:=zU;have y9:=zV;have y10:=G7;have y11:=GZ;have y12:=GV;have y13:=GX;have z1:=GY ⟨w,0,none⟩ ⟨t,0,none⟩ ((w.alloc (.cells #[t] 164)).alloc (.cells #[.pointer (some ⟨9,164,none⟩),w,.int .u64 150] 204)) zad;have hg2:((w.alloc (.cells #[t] 164)).alloc (.cells #[.pointer (some ⟨9,164,none⟩),w,.int .u64 150] 204)).cell? ⟨0,0,none⟩=some (.iface 269 (.agg #[.pointer (some ⟨9,101,none⟩)])):=by
  exact zez
 have z2:=GW ⟨w,0,none⟩ ⟨t,0,none⟩ (((w.alloc (.cells #[t] 164)).alloc (.cells #[.pointer (some ⟨9,164,none⟩),w,.int .u64 150] 204)).alloc (.cells #[.pointer (some ⟨9,164,none⟩),w,.int .u64 150] 204)) zcp;have z3:=Kh ⟨t,0,none⟩ ⟨w.heap.size+1+1+1,0,none⟩ c old ((((w.alloc (.cells #[t] 164)).alloc (.cells #[.pointer (some ⟨9,164,none⟩),w,.int .u64 150] 204)).alloc (.cells #[.pointer (some ⟨9,164,none⟩),w,.int .u64 150] 204)).alloc (.cells #[(c:Int)] 47))
  zcj
  zbT
  zbS
 go_enter func69,ntmps69;go_wp2;refine OA 1 ?_;rw [Pf];go_wp2;go_ret;refine ⟨rfl,?_⟩;exact za ht (((((K9 w w).alloc (K7 _) _).alloc zad _).alloc zaf _).alloc zaf _)
theorem sD (c:Int) (w:World) (hg:w.cell? ⟨0,0,none⟩=some (.iface 269 (.agg #[.pointer (some ⟨9,101,none⟩)]))) :
  () 49 #[.iface 47 (.int .i64 c)] w fun ev w'=>ev = .returned (.tuple #[(c:Int),(0:Int)])/\Below w w w':=by
 have hgl:0<w.heap.size:=LC _ _ hg;obtain ⟨W1,hW1⟩:∃ y,y=(w.alloc (.cells #[.pointer none] 159)).alloc (.cells #[(0:Int)] 47):=⟨_,rfl⟩;have hb1:Below w w W1:=zcc;have h1:W1.heap[w.heap.size+1]?=some (.cells #[(0:Int)] 47 (0,0)):=by rw [hW1];exact bM _ _ _
 have hg1:=(Ln (w:=w) (w':=W1) (a:=⟨0,0,none⟩) (hb1.block _ hgl)).trans hg;have HA:Hid _:=Ha c w W1 hg1;have HW1:Hid _:=hW1;go_enter func49,ntmps49;go_wp2_with fail;rw [<- HW1.out];refine Lh HA.out ?_;rintro ev w2 ⟨rfl,hb2⟩;have hl1:=(K6.1 h1).1;have h2:=(hb2.block _ hl1).trans h1;have hg2:=(Ln (w:=W1) (w':=w2) (a:=⟨0,0,none⟩) (hb2.block _ (Lu hgl hb1.size))).trans hg1;have HB2:Hid (Below w w w2):=hb1.trans (hb2.mono hb1.size);have HC:Hid _:=EJ c (w.heap.size+1) _ w2 hg2 h2;clear hb2 hg2;dsimp only;go_wp2_with fail;refine Lh HC.out ?_;rintro ev w3 ⟨rfl,hb3⟩;have oo:=aa w2 (w.heap.size+1) 0 (.int .i64 c);have r0:=Lp w2 (w.heap.size+1) 0 _ _ (.int .i64 c) h2;have hl2:=(K6.1 h2).1;have r2:=(hb3.block (w.heap.size+1) hl2).trans r0;have t0:w3.cell? ⟨w.heap.size+1,0,none⟩=some ↑(c:Int):=by rw [Lb w3 _ _ _ _ _ r2];rfl
 have HB:Hid (Below w w w3):=(oo.below HB2.out zaa).trans (hb3.mono HB2.out.size);clear hb3 oo r0 r2 h2;dsimp only;go_wp2_with fail;go_ret2;exact ⟨rfl,HB.out⟩
