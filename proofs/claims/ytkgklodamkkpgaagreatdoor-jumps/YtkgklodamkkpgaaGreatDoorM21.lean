import Derived.Test.YtkgklodamkkpgaaGreatDoorM16
import Derived.RowKitTokens
set_option maxRecDepth 100000
set_option maxHeartbeats 8000000
namespace Go.Proofs.YtkgklodamkkpgaaGreatDoor
variable {zp:Prop}
theorem zeH (h:zp:=by
 rw [NN _ _ ⟨0,0,none⟩ zbB,NN _ _ ⟨0,0,none⟩ hgl];exact hg):zp:=h
theorem zbB (h:zp:=by simp only [World.size_alloc];exact RP hgl):zp:=h
theorem zbX (h:zp:=by rw [OU _ _ ⟨t,0,none⟩ (by simp;omega),OU _ _ ⟨t,0,none⟩ (by simp;omega),OU _ _ ⟨t,0,none⟩ (by simp;omega),OU _ _ ⟨t,0,none⟩ (RY htl)];exact hf0):zp:=h
theorem zbY (h:zp:=by rw [NN _ _ ⟨t,0,none⟩ (by simp;omega),NN _ _ ⟨t,0,none⟩ (by simp;omega),NN _ _ ⟨t,0,none⟩ (by simp;omega),NN _ _ ⟨t,0,none⟩ htl];exact ht0):zp:=h
theorem zcf (h:zp:=by rw [hW1];exact ((MY _ _).alloc (MR _) _).alloc (by simp) _):zp:=h
theorem zcm (h:zp:=by rw [World.cell?_alloc_at _ _ _ _ (by simp)];rfl):zp:=h
theorem zcs (h:zp:=by rw [NN _ _ ⟨w,0,none⟩ (by simp;omega)];simp):zp:=h
open Tryz
section
open Go.RowKit Go.Extern.Stop Go.Stop Go.Extern
theorem uw (t:Addr) (w:World):(ReflectliteValue.unpack (.iface 117 (.pointer (some t)))).run prog w = .ok (.agg #[.pointer (some ⟨9,117,none⟩),w,.int .u64 150]) (w.alloc (.cells #[.pointer (some t)] 117)):=zab
theorem DT (e:Addr) (w:World):(ReflectliteValue.unpack (.iface 115 (.pointer (some e)))).run prog w = .ok (.agg #[.pointer (some ⟨9,115,none⟩),w,.int .u64 150]) (w.alloc (.cells #[.pointer (some e)] 115)):=zab
theorem FV (a:Addr) (w:World):(ReflectliteValue.methodAny (ReflectliteValue.valueError "reflectlite.Value.Type" 0) (fun t _ _ _=>ReflectliteType.toType t) #[.agg #[.pointer (some ⟨9,117,none⟩),.pointer (some a),.int .u64 150]]).run prog w = .ok (.iface 261 (.agg #[.pointer (some ⟨9,117,none⟩)])) w:=zab
theorem AY (h:Value) (w:World):(Go.method 596 261 (.agg #[h]) "Kind").run prog w = .ok (317,h) w:=zab
theorem AW (h:Value) (w:World):(Go.method 596 261 (.agg #[h]) "Elem").run prog w = .ok (340,.agg #[h]) w:=zab
theorem AX (h:Value) (w:World):(Go.method 596 261 (.agg #[h]) "Implements").run prog w = .ok (341,.agg #[h]) w:=zab
theorem ri (h:Value) (w:World):(Go.method 596 261 (.agg #[h]) "AssignableTo").run prog w = .ok (338,.agg #[h]) w:=zab
theorem CW (w:World):((ReflectliteType.abiMethod fun t=>(fun a:Nat=>Value.int IntKind.u8 (a:Int)) <$> Rtype.kind t) #[.pointer (some ⟨9,117,none⟩)]).run prog w = .ok (.int .u8 22) w:=zab
theorem CV (w:World):((ReflectliteType.abiMethod fun t=>(fun a:Nat=>Value.int IntKind.u8 (a:Int)) <$> Rtype.kind t) #[.pointer (some ⟨9,115,none⟩)]).run prog w = .ok (.int .u8 22) w:=zab
theorem CS (w:World):(ReflectliteType.method ReflectliteType.elem #[.agg #[.pointer (some ⟨9,117,none⟩)]]).run prog w = .ok (.iface 261 (.agg #[.pointer (some ⟨9,115,none⟩)])) w:=zab
theorem CT (w:World) : (ReflectliteType.relation "Implements" ReflectliteType.implements_ #[.agg #[.pointer (some ⟨9,115,none⟩)],.iface 261 (.agg #[.pointer (some ⟨9,60,none⟩)])]).run prog w = .ok (.bool true) w:=zab
theorem FW (v:Value) (w:World):(ReflectliteType.typeOf #[.iface 115 v]).run prog w = .ok (.iface 261 (.agg #[.pointer (some ⟨9,115,none⟩)])) w:=zab
theorem DR (w:World) : (ReflectliteType.relation "AssignableTo" ReflectliteType.assignableTo #[.agg #[.pointer (some ⟨9,115,none⟩)],.iface 261 (.agg #[.pointer (some ⟨9,115,none⟩)])]).run prog w = .ok (.bool true) w:=zab
theorem yy (a:Addr) (w:World):(ReflectliteValue.parts (.agg #[.pointer (some ⟨9,117,none⟩),.pointer (some a),.int .u64 150])).run prog w = .ok (some (117,a,150)) w:=zab
theorem FU (a:Addr) (w:World):(ReflectliteValue.parts (.agg #[.pointer (some ⟨9,115,none⟩),.pointer (some a),.int .u64 150])).run prog w = .ok (some (115,a,150)) w:=zab
theorem FT (a:Addr) (w:World):(ReflectliteValue.parts (.agg #[.pointer (some ⟨9,115,none⟩),.pointer (some a),.int .u64 406])).run prog w = .ok (some (115,a,406)) w:=zab
theorem FR (w:World):(Rtype.elem? 117).run prog w = .ok (some 115) w:=zab
theorem Mx (p:Addr) (w:World):(ReflectliteValue.mk 115 p ReflectliteValue.flagAddr).run prog w = .ok (.agg #[.pointer (some ⟨9,115,none⟩),.pointer (some p),.int .u64 406]) w:=zab
theorem FQ (w:World):(Rtype.directlyAssignable 115 115).run prog w = .ok true w:=zab
theorem ml (z:Sem Value) (f:TypeId->Addr->Nat->Nat->Sem Value) (v:Value):ReflectliteValue.method z f #[v]=(do match <- ReflectliteValue.parts v with | none=>z | some (t,a,fl)=>f t a fl (fl % 32)):=rfl
theorem CU (a p:Addr) (W:World) (ha:W.cell? a=some (.pointer (some p))):(ReflectliteValue.method (ReflectliteValue.valueError "reflectlite.Value.IsNil" 0) ReflectliteValue.isNil #[.agg #[.pointer (some ⟨9,117,none⟩),.pointer (some a),.int .u64 150]]).run prog W = .ok (.bool false) W:=by
 rw [ml];simp only [Sem.run_bind,yy,Result.andThen];simp [ReflectliteValue.isNil,loadVar,isAgg,underlying,underlying117,ha,Result.andThen]
theorem I4 (a p:Addr) (W:World) (ha:W.cell? a=some (.pointer (some p))):(ReflectliteValue.method (ReflectliteValue.valueError "reflectlite.Value.Elem" 0) ReflectliteValue.elem #[.agg #[.pointer (some ⟨9,117,none⟩),.pointer (some a),.int .u64 150]]).run prog W = .ok (.agg #[.pointer (some ⟨9,115,none⟩),.pointer (some p),.int .u64 406]) W:=by
 rw [ml];simp only [Sem.run_bind,yy,Result.andThen];simp [ReflectliteValue.elem,loadVar,isAgg,underlying,underlying117,ha,Result.andThen,FR,Mx]
theorem Af (a b:Value) (h1:Value->Value->Sem Value) (h2:Array Value->Sem Value):ReflectliteValue.set.match_3 (fun _=>Sem Value) #[a,b] h1 h2=h1 a b:=rfl
theorem LY (ta b e:Addr) (old:Value) (W:World) (hb:W.cell? b=some (.pointer (some e))) (ht:W.cell? ta=some old) (hf:W.frozen? ta=false):(ReflectliteValue.set #[.agg #[.pointer (some ⟨9,115,none⟩),.pointer (some ta),.int .u64 406],.agg #[.pointer (some ⟨9,115,none⟩),.pointer (some b),.int .u64 150]]).run prog W = .ok (.tuple #[]) (W.setCell ta (.pointer (some e))):=by
 delta ReflectliteValue.set
 rw [Af];simp only [Sem.run_bind,FT,FU,Result.andThen];simp [ReflectliteValue.flagAddr,loadVar,isAgg,underlying,underlying115,hb,Result.andThen,FQ,storeVar,Value.cells,storeCells,Addr.add];rw [RV prog W ta _ _ zaf];simp [ht,hf]
theorem Ae {w w4:World} {t:Nat} {c:Array Value} {ty:TypeId} {v:Value} (ht:w.heap[t]?=some (.cells c ty (0,0))) (hb:Below w w w4):Below w (w.setCell t v) (w4.setCell t v):=by
 have oa:=aa w t 0 v;have ob:=aa w4 t 0 v;refine ⟨ob.os.trans (hb.os.trans oa.os.symm),ob.tape.trans (hb.tape.trans oa.tape.symm),ob.output.trans (hb.output.trans oa.output.symm),by rw [oa.size,ob.size];exact hb.size,fun k hk => ?_⟩;by_cases e:k=t
 ·subst e;rw [Nn w k 0 _ _ v ht,Nn w4 k 0 _ _ v ((hb.block k hk).trans ht)]
 ·rw [ob.block k e,oa.block k e,hb.block k hk]
theorem FY (e t:Nat) (old:Value) (w:World) (hg:w.cell? ⟨0,0,none⟩=some (.iface 261 (.agg #[.pointer (some ⟨9,60,none⟩)]))) (ht:w.heap[t]?=some (.cells #[old] 115 (0,0))) :
  () 41 #[.iface 115 e,.iface 117 t] w fun ev w'=>ev = .returned true/\Below w (w.setCell t e) w':=by
 have ht0:w.cell? t=some old:=by rw [M0 w _ _ _ _ _ ht];rfl
 have hf0:w.frozen? ⟨t,0,none⟩=false:=by simp [World.frozen?,ht]
 have hgl:0<w.heap.size:=Np _ _ hg;have htl:t<w.heap.size:=Np _ _ ht0;have x1:=@run_callFunc_extern prog 67 _ (fun args=>ReflectliteValue.unpack (args.getD 0 (.tuple #[]))) func67 zab zab zab zab;have x2:=@run_callFunc_extern prog 68 _ (ReflectliteValue.methodAny (ReflectliteValue.valueError "reflectlite.Value.Type" 0) (fun t _ _ _=>ReflectliteType.toType t)) func68 zab zab zab zab;have x3:=@run_callFunc_extern prog 69 _ (ReflectliteValue.method (ReflectliteValue.valueError "reflectlite.Value.IsNil" 0) ReflectliteValue.isNil) func69 zab zab zab zab;have x4:=@run_callFunc_extern prog 317 _ (ReflectliteType.abiMethod fun t=>do pure (.int .u8 (<- Rtype.kind t))) func317 zab zab zab zab;have x5:=@run_callFunc_extern prog 340 _ (ReflectliteType.method ReflectliteType.elem) func340 zab zab zab zab;have x6:=@run_callFunc_extern prog 341 _ (ReflectliteType.relation "Implements" ReflectliteType.implements_) func341 zab zab zab zab;have x7:=@run_callFunc_extern prog 108 _ (ReflectliteType.typeOf) func108 zab zab zab zab;have x8:=@run_callFunc_extern prog 338 _ (ReflectliteType.relation "AssignableTo" ReflectliteType.assignableTo) func338 zab zab zab zab;have x9:=@run_callFunc_extern prog 109 _ (ReflectliteValue.method (ReflectliteValue.valueError "reflectlite.Value.Elem" 0) ReflectliteValue.elem) func109 zab zab zab zab;have x10:=@run_callFunc_extern prog 110 _ (ReflectliteValue.set) func110 zab zab zab zab;have y1:=FW;have y2:=ri;have y3:=DR;have y4:=DT;have y5:=uw;have y6:=FV;have y7:=AY;have y8:=AW;have y9:=AX;have y10:=CW;have y11:=CV;have y12:=CS;have y13:=CT;have z1:=CU ⟨w,0,none⟩ ⟨t,0,none⟩ ((w.alloc (.cells #[t] 117)).alloc (.cells #[.pointer (some ⟨9,117,none⟩),w,.int .u64 150] 181)) zad;have hg2:((w.alloc (.cells #[t] 117)).alloc (.cells #[.pointer (some ⟨9,117,none⟩),w,.int .u64 150] 181)).cell? ⟨0,0,none⟩=some (.iface 261 (.agg #[.pointer (some ⟨9,60,none⟩)])):=by
  exact zeH
 have z2:=I4 ⟨w,0,none⟩ ⟨t,0,none⟩ (((w.alloc (.cells #[t] 117)).alloc (.cells #[.pointer (some ⟨9,117,none⟩),w,.int .u64 150] 181)).alloc (.cells #[.pointer (some ⟨9,117,none⟩),w,.int .u64 150] 181)) zcs;have z3:=LY ⟨t,0,none⟩ ⟨w.heap.size+1+1+1,0,none⟩ ⟨e,0,none⟩ old ((((w.alloc (.cells #[t] 117)).alloc (.cells #[.pointer (some ⟨9,117,none⟩),w,.int .u64 150] 181)).alloc (.cells #[.pointer (some ⟨9,117,none⟩),w,.int .u64 150] 181)).alloc (.cells #[e] 115))
  zcm
  zbY
  zbX
 go_enter func41,ntmps41;go_wp2;refine QD 1 ?_;rw [Re];go_wp2;go_ret;refine ⟨rfl,?_⟩;exact Ae ht (((((MY w w).alloc (MR _) _).alloc zad _).alloc zae _).alloc zae _)
theorem Cx (e:Nat) (c l:Int) (w:World) (hg:w.cell? ⟨0,0,none⟩=some (.iface 261 (.agg #[.pointer (some ⟨9,60,none⟩)]))) (he:w.heap[e]?=some (.cells #[(c:Int),(l:Int)] 119 (0,0))) :
  () 23 #[.iface 115 e] w fun ev w'=>ev = .returned (.tuple #[(c:Int),(l:Int)])/\Below w w w':=by
 have hgl:0<w.heap.size:=Np _ _ hg;have hel:=(MQ.1 he).1;obtain ⟨W1,hW1⟩:∃ y,y=(w.alloc (.cells #[.pointer none] 115)).alloc (.cells #[(0:Int)] 29):=⟨_,rfl⟩;have hb1:Below w w W1:=zcf;have h0:W1.heap[w.heap.size]?=some (.cells #[.pointer none] 115 (0,0)):=by rw [hW1];exact eN _ _ _
 have hg1:=(Nk (w:=w) (w':=W1) (a:=⟨0,0,none⟩) (hb1.block _ hgl)).trans hg;have HA:Hid (() 41 #[.iface 115 e,.iface 117 w] W1 fun ev w'=>ev = .returned true/\Below W1 (W1.setCell w e) w'):=FY e w _ W1 hg1 h0;have HW1:Hid _:=hW1;go_enter func23,ntmps23;go_wp2_with fail;rw [<- HW1.out];refine M7 HA.out ?_;rintro ev w2 ⟨rfl,hb2⟩;have oo:=aa W1 w 0 e;have r0:=Nn W1 w 0 _ _ e h0;have hl0:=(MQ.1 h0).1;have r2:=(hb2.block w hl0).trans r0;have t0:w2.cell? w=some ↑e:=by rw [M0 w2 _ _ _ _ _ r2];rfl
 have e1:=(hb1.block e hel).trans he;have e2:=(hb2.block e (by have:=hb1.size;omega)).trans ((oo.block e zaa).trans e1);have t1:w2.cell? e=some ↑(c:Int):=by rw [M0 w2 _ _ _ _ _ e2];rfl
 have t2:w2.cell? ⟨e,1,none⟩=some ↑(l:Int):=by rw [M0 w2 _ _ _ _ _ e2];rfl
 have HB:Hid (Below w w w2):=(oo.below hb1 (MR _)).trans (hb2.mono hb1.size);clear hb2 oo r0 r2 e1 e2;dsimp only;go_wp2_with fail
 go_quiet (fail)
 go_wp2;go_ret2;exact ⟨rfl,Pa HB.out _⟩
theorem As (w:World):() 23 #[.nilIface] w fun ev w'=>ev = .returned (.tuple #[(0:Int),(0:Int)])/\Below w w w':=by
 go_enter func23,ntmps23;go_wp2;go_ret2;exact ⟨rfl,((MY _ _).alloc (MR _) _).alloc zad _⟩
theorem DP (t:Addr) (w:World):(ReflectliteValue.unpack (.iface 120 (.pointer (some t)))).run prog w = .ok (.agg #[.pointer (some ⟨9,120,none⟩),w,.int .u64 150]) (w.alloc (.cells #[.pointer (some t)] 120)):=zab
theorem DO (c:Int) (w:World):(ReflectliteValue.unpack (.iface 29 (.int .i64 c))).run prog w = .ok (.agg #[.pointer (some ⟨9,29,none⟩),w,.int .u64 130]) (w.alloc (.cells #[(c:Int)] 29)):=zab
theorem K0 (a:Addr) (w:World):(ReflectliteValue.methodAny (ReflectliteValue.valueError "reflectlite.Value.Type" 0) (fun t _ _ _=>ReflectliteType.toType t) #[.agg #[.pointer (some ⟨9,120,none⟩),.pointer (some a),.int .u64 150]]).run prog w = .ok (.iface 261 (.agg #[.pointer (some ⟨9,120,none⟩)])) w:=zab
theorem I2 (w:World):((ReflectliteType.abiMethod fun t=>(fun a:Nat=>Value.int IntKind.u8 (a:Int)) <$> Rtype.kind t) #[.pointer (some ⟨9,120,none⟩)]).run prog w = .ok (.int .u8 22) w:=zab
theorem I1 (w:World):((ReflectliteType.abiMethod fun t=>(fun a:Nat=>Value.int IntKind.u8 (a:Int)) <$> Rtype.kind t) #[.pointer (some ⟨9,29,none⟩)]).run prog w = .ok (.int .u8 2) w:=zab
theorem IX (w:World):(ReflectliteType.method ReflectliteType.elem #[.agg #[.pointer (some ⟨9,120,none⟩)]]).run prog w = .ok (.iface 261 (.agg #[.pointer (some ⟨9,29,none⟩)])) w:=zab
theorem IZ (w:World) : (ReflectliteType.relation "Implements" ReflectliteType.implements_ #[.agg #[.pointer (some ⟨9,29,none⟩)],.iface 261 (.agg #[.pointer (some ⟨9,60,none⟩)])]).run prog w = .ok (.bool true) w:=zab
theorem yx (v:Value) (w:World):(ReflectliteType.typeOf #[.iface 29 v]).run prog w = .ok (.iface 261 (.agg #[.pointer (some ⟨9,29,none⟩)])) w:=zab
theorem DM (w:World) : (ReflectliteType.relation "AssignableTo" ReflectliteType.assignableTo #[.agg #[.pointer (some ⟨9,29,none⟩)],.iface 261 (.agg #[.pointer (some ⟨9,29,none⟩)])]).run prog w = .ok (.bool true) w:=zab
theorem DN (w:World) : (ReflectliteType.relation "AssignableTo" ReflectliteType.assignableTo #[.agg #[.pointer (some ⟨9,29,none⟩)],.iface 261 (.agg #[.pointer (some ⟨9,115,none⟩)])]).run prog w = .ok (.bool false) w:=zab
theorem yw (a:Addr) (w:World):(ReflectliteValue.parts (.agg #[.pointer (some ⟨9,120,none⟩),.pointer (some a),.int .u64 150])).run prog w = .ok (some (120,a,150)) w:=zab
theorem FP (a:Addr) (w:World):(ReflectliteValue.parts (.agg #[.pointer (some ⟨9,29,none⟩),.pointer (some a),.int .u64 130])).run prog w = .ok (some (29,a,130)) w:=zab
theorem FO (a:Addr) (w:World):(ReflectliteValue.parts (.agg #[.pointer (some ⟨9,29,none⟩),.pointer (some a),.int .u64 386])).run prog w = .ok (some (29,a,386)) w:=zab
theorem FN (w:World):(Rtype.elem? 120).run prog w = .ok (some 29) w:=zab
theorem Mw (p:Addr) (w:World):(ReflectliteValue.mk 29 p ReflectliteValue.flagAddr).run prog w = .ok (.agg #[.pointer (some ⟨9,29,none⟩),.pointer (some p),.int .u64 386]) w:=zab
theorem FM (w:World):(Rtype.directlyAssignable 29 29).run prog w = .ok true w:=zab
theorem I0 (a p:Addr) (W:World) (ha:W.cell? a=some (.pointer (some p))):(ReflectliteValue.method (ReflectliteValue.valueError "reflectlite.Value.IsNil" 0) ReflectliteValue.isNil #[.agg #[.pointer (some ⟨9,120,none⟩),.pointer (some a),.int .u64 150]]).run prog W = .ok (.bool false) W:=by
 rw [ml];simp only [Sem.run_bind,yw,Result.andThen];simp [ReflectliteValue.isNil,loadVar,isAgg,underlying,underlying120,ha,Result.andThen]
theorem IY (a p:Addr) (W:World) (ha:W.cell? a=some (.pointer (some p))):(ReflectliteValue.method (ReflectliteValue.valueError "reflectlite.Value.Elem" 0) ReflectliteValue.elem #[.agg #[.pointer (some ⟨9,120,none⟩),.pointer (some a),.int .u64 150]]).run prog W = .ok (.agg #[.pointer (some ⟨9,29,none⟩),.pointer (some p),.int .u64 386]) W:=by
 rw [ml];simp only [Sem.run_bind,yw,Result.andThen];simp [ReflectliteValue.elem,loadVar,isAgg,underlying,underlying120,ha,Result.andThen,FN,Mw]
theorem LX (ta b:Addr) (c:Int) (old:Value) (W:World) (hb:W.cell? b=some ↑(c:Int)) (ht:W.cell? ta=some old) (hf:W.frozen? ta=false):(ReflectliteValue.set #[.agg #[.pointer (some ⟨9,29,none⟩),.pointer (some ta),.int .u64 386],.agg #[.pointer (some ⟨9,29,none⟩),.pointer (some b),.int .u64 130]]).run prog W = .ok (.tuple #[]) (W.setCell ta (.int .i64 c)):=by
 delta ReflectliteValue.set
 rw [Af];simp only [Sem.run_bind,FO,FP,Result.andThen];simp [ReflectliteValue.flagAddr,loadVar,isAgg,underlying,underlying29,hb,Result.andThen,FM,storeVar,Value.cells,storeCells,Addr.add];rw [RV prog W ta _ _ zaf];simp [ht,hf]
theorem ML (v:Value) (xT:TypeId) (w:World):(Instr.typeAssert (.iface 29 v) xT 266 true).run prog w = .ok (.tuple #[.nilIface,false]) w:=run_typeAssert_lacksB underlying266 zab zab v xT w
theorem Ha (v:Value) (xT:TypeId) (w:World):(Instr.typeAssert (.iface 29 v) xT 269 true).run prog w = .ok (.tuple #[.nilIface,false]) w:=run_typeAssert_lacksB underlying269 zab zab v xT w
theorem EF (v:Value) (xT:TypeId) (w:World):(Instr.typeAssert (.iface 29 v) xT 270 true).run prog w = .ok (.tuple #[.nilIface,false]) w:=run_typeAssert_lacksB underlying270 zab zab v xT w
theorem I5 (c:Int) (t:Nat) (w:World) (hg:w.cell? ⟨0,0,none⟩=some (.iface 261 (.agg #[.pointer (some ⟨9,60,none⟩)]))) :
  () 41 #[.iface 29 (.int .i64 c),.iface 117 t] w fun ev w'=>ev = .returned false/\Below w w w':=by
 have hgl:0<w.heap.size:=Np _ _ hg;have x1:=@run_callFunc_extern prog 67 _ (fun args=>ReflectliteValue.unpack (args.getD 0 (.tuple #[]))) func67 zab zab zab zab;have x2:=@run_callFunc_extern prog 68 _ (ReflectliteValue.methodAny (ReflectliteValue.valueError "reflectlite.Value.Type" 0) (fun t _ _ _=>ReflectliteType.toType t)) func68 zab zab zab zab;have x3:=@run_callFunc_extern prog 69 _ (ReflectliteValue.method (ReflectliteValue.valueError "reflectlite.Value.IsNil" 0) ReflectliteValue.isNil) func69 zab zab zab zab;have x4:=@run_callFunc_extern prog 317 _ (ReflectliteType.abiMethod fun t=>do pure (.int .u8 (<- Rtype.kind t))) func317 zab zab zab zab;have x5:=@run_callFunc_extern prog 340 _ (ReflectliteType.method ReflectliteType.elem) func340 zab zab zab zab;have x6:=@run_callFunc_extern prog 341 _ (ReflectliteType.relation "Implements" ReflectliteType.implements_) func341 zab zab zab zab;have x7:=@run_callFunc_extern prog 108 _ (ReflectliteType.typeOf) func108 zab zab zab zab;have x8:=@run_callFunc_extern prog 338 _ (ReflectliteType.relation "AssignableTo" ReflectliteType.assignableTo) func338 zab zab zab zab;have x9:=@run_callFunc_extern prog 109 _ (ReflectliteValue.method (ReflectliteValue.valueError "reflectlite.Value.Elem" 0) ReflectliteValue.elem) func109 zab zab zab zab;have x10:=@run_callFunc_extern prog 110 _ (ReflectliteValue.set) func110 zab zab zab zab;have y1:=yx;have y2:=ri;have y3:=DN;have u1:=ML;have u2:=Ha;have u3:=EF;have y5:=uw;have y6:=FV;have y7:=AY;have y8:=AW;have y9:=AX;have y10:=CW;have y11:=CV;have y12:=CS;have y13:=CT;have z1:=CU ⟨w,0,none⟩ ⟨t,0,none⟩ ((w.alloc (.cells #[t] 117)).alloc (.cells #[.pointer (some ⟨9,117,none⟩),w,.int .u64 150] 181)) zad;have hg2:((w.alloc (.cells #[t] 117)).alloc (.cells #[.pointer (some ⟨9,117,none⟩),w,.int .u64 150] 181)).cell? ⟨0,0,none⟩=some (.iface 261 (.agg #[.pointer (some ⟨9,60,none⟩)])):=by
  exact zeH
 go_enter func41,ntmps41;go_wp2;refine QD 1 ?_;rw [Re];go_wp2;go_ret;refine ⟨rfl,?_⟩;exact (((MY w w).alloc (MR _) _).alloc zad _).alloc zae _
theorem FX (c:Int) (t:Nat) (old:Value) (w:World) (hg:w.cell? ⟨0,0,none⟩=some (.iface 261 (.agg #[.pointer (some ⟨9,60,none⟩)]))) (ht:w.heap[t]?=some (.cells #[old] 29 (0,0))) :
  () 41 #[.iface 29 (.int .i64 c),.iface 120 t] w fun ev w'=>ev = .returned true/\Below w (w.setCell t (.int .i64 c)) w':=by
 have ht0:w.cell? t=some old:=by rw [M0 w _ _ _ _ _ ht];rfl
 have hf0:w.frozen? ⟨t,0,none⟩=false:=by simp [World.frozen?,ht]
 have hgl:0<w.heap.size:=Np _ _ hg;have htl:t<w.heap.size:=Np _ _ ht0;have x1:=@run_callFunc_extern prog 67 _ (fun args=>ReflectliteValue.unpack (args.getD 0 (.tuple #[]))) func67 zab zab zab zab;have x2:=@run_callFunc_extern prog 68 _ (ReflectliteValue.methodAny (ReflectliteValue.valueError "reflectlite.Value.Type" 0) (fun t _ _ _=>ReflectliteType.toType t)) func68 zab zab zab zab;have x3:=@run_callFunc_extern prog 69 _ (ReflectliteValue.method (ReflectliteValue.valueError "reflectlite.Value.IsNil" 0) ReflectliteValue.isNil) func69 zab zab zab zab;have x4:=@run_callFunc_extern prog 317 _ (ReflectliteType.abiMethod fun t=>do pure (.int .u8 (<- Rtype.kind t))) func317 zab zab zab zab;have x5:=@run_callFunc_extern prog 340 _ (ReflectliteType.method ReflectliteType.elem) func340 zab zab zab zab;have x6:=@run_callFunc_extern prog 341 _ (ReflectliteType.relation "Implements" ReflectliteType.implements_) func341 zab zab zab zab;have x7:=@run_callFunc_extern prog 108 _ (ReflectliteType.typeOf) func108 zab zab zab zab;have x8:=@run_callFunc_extern prog 338 _ (ReflectliteType.relation "AssignableTo" ReflectliteType.assignableTo) func338 zab zab zab zab;have x9:=@run_callFunc_extern prog 109 _ (ReflectliteValue.method (ReflectliteValue.valueError "reflectlite.Value.Elem" 0) ReflectliteValue.elem) func109 zab zab zab zab;have x10:=@run_callFunc_extern prog 110 _ (ReflectliteValue.set) func110 zab zab zab zab;have y1:=yx;have y2:=ri;have y3:=DM;have y4:=DO;have y5:=DP;have y6:=K0;have y7:=AY;have y8:=AW;have y9:=AX;have y10:=I2;have y11:=I1;have y12:=IX;have y13:=IZ;have z1:=I0 ⟨w,0,none⟩ ⟨t,0,none⟩ ((w.alloc (.cells #[t] 120)).alloc (.cells #[.pointer (some ⟨9,120,none⟩),w,.int .u64 150] 181)) zad;have hg2:((w.alloc (.cells #[t] 120)).alloc (.cells #[.pointer (some ⟨9,120,none⟩),w,.int .u64 150] 181)).cell? ⟨0,0,none⟩=some (.iface 261 (.agg #[.pointer (some ⟨9,60,none⟩)])):=by
  exact zeH
 have z2:=IY ⟨w,0,none⟩ ⟨t,0,none⟩ (((w.alloc (.cells #[t] 120)).alloc (.cells #[.pointer (some ⟨9,120,none⟩),w,.int .u64 150] 181)).alloc (.cells #[.pointer (some ⟨9,120,none⟩),w,.int .u64 150] 181)) zcs;have z3:=LX ⟨t,0,none⟩ ⟨w.heap.size+1+1+1,0,none⟩ c old ((((w.alloc (.cells #[t] 120)).alloc (.cells #[.pointer (some ⟨9,120,none⟩),w,.int .u64 150] 181)).alloc (.cells #[.pointer (some ⟨9,120,none⟩),w,.int .u64 150] 181)).alloc (.cells #[(c:Int)] 29))
  zcm
  zbY
  zbX
 go_enter func41,ntmps41;go_wp2;refine QD 1 ?_;rw [Re];go_wp2;go_ret;refine ⟨rfl,?_⟩;exact Ae ht (((((MY w w).alloc (MR _) _).alloc zad _).alloc zae _).alloc zae _)
theorem tj (c:Int) (w:World) (hg:w.cell? ⟨0,0,none⟩=some (.iface 261 (.agg #[.pointer (some ⟨9,60,none⟩)]))) :
  () 23 #[.iface 29 (.int .i64 c)] w fun ev w'=>ev = .returned (.tuple #[(c:Int),(0:Int)])/\Below w w w':=by
 have hgl:0<w.heap.size:=Np _ _ hg;obtain ⟨W1,hW1⟩:∃ y,y=(w.alloc (.cells #[.pointer none] 115)).alloc (.cells #[(0:Int)] 29):=⟨_,rfl⟩;have hb1:Below w w W1:=zcf;have h1:W1.heap[w.heap.size+1]?=some (.cells #[(0:Int)] 29 (0,0)):=by rw [hW1];exact bR _ _ _
 have hg1:=(Nk (w:=w) (w':=W1) (a:=⟨0,0,none⟩) (hb1.block _ hgl)).trans hg;have HA:Hid _:=I5 c w W1 hg1;have HW1:Hid _:=hW1;go_enter func23,ntmps23;go_wp2_with fail;rw [<- HW1.out];refine M7 HA.out ?_;rintro ev w2 ⟨rfl,hb2⟩;have hl1:=(MQ.1 h1).1;have h2:=(hb2.block _ hl1).trans h1;have hg2:=(Nk (w:=W1) (w':=w2) (a:=⟨0,0,none⟩) (hb2.block _ (Nq hgl hb1.size))).trans hg1;have HB2:Hid (Below w w w2):=hb1.trans (hb2.mono hb1.size);have HC:Hid _:=FX c (w.heap.size+1) _ w2 hg2 h2;clear hb2 hg2;dsimp only;go_wp2_with fail;refine M7 HC.out ?_;rintro ev w3 ⟨rfl,hb3⟩;have oo:=aa w2 (w.heap.size+1) 0 (.int .i64 c);have r0:=Nn w2 (w.heap.size+1) 0 _ _ (.int .i64 c) h2;have hl2:=(MQ.1 h2).1;have r2:=(hb3.block (w.heap.size+1) hl2).trans r0;have t0:w3.cell? ⟨w.heap.size+1,0,none⟩=some ↑(c:Int):=by rw [M0 w3 _ _ _ _ _ r2];rfl
 have HB:Hid (Below w w w3):=(oo.below HB2.out zaa).trans (hb3.mono HB2.out.size);clear hb3 oo r0 r2 h2;dsimp only;go_wp2_with fail;go_ret2;exact ⟨rfl,HB.out⟩
