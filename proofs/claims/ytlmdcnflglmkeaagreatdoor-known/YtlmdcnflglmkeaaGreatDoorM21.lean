import Derived.Test.YtlmdcnflglmkeaaGreatDoorM16
import Derived.RowKitTokens
set_option maxRecDepth 100000
set_option maxHeartbeats 8000000
namespace Go.Proofs.YtlmdcnflglmkeaaGreatDoor
variable {zp:Prop}
theorem zeC (h:zp:=by
 rw [Mh _ _ ⟨0,0,none⟩ zbz,Mh _ _ ⟨0,0,none⟩ hgl];exact hg):zp:=h
theorem zbz (h:zp:=by simp only [World.size_alloc];exact Qp hgl):zp:=h
theorem zbV (h:zp:=by rw [Nt _ _ ⟨t,0,none⟩ (by simp;omega),Nt _ _ ⟨t,0,none⟩ (by simp;omega),Nt _ _ ⟨t,0,none⟩ (by simp;omega),Nt _ _ ⟨t,0,none⟩ (Qx htl)];exact hf0):zp:=h
theorem zbW (h:zp:=by rw [Mh _ _ ⟨t,0,none⟩ (by simp;omega),Mh _ _ ⟨t,0,none⟩ (by simp;omega),Mh _ _ ⟨t,0,none⟩ (by simp;omega),Mh _ _ ⟨t,0,none⟩ htl];exact ht0):zp:=h
theorem zcd (h:zp:=by rw [hW1];exact ((FP _ _).alloc (u0 _) _).alloc (by simp) _):zp:=h
theorem zck (h:zp:=by rw [World.cell?_alloc_at _ _ _ _ (by simp)];rfl):zp:=h
theorem zcq (h:zp:=by rw [Mh _ _ ⟨w,0,none⟩ (by simp;omega)];simp):zp:=h
open Tryz
section
open Go.RowKit Go.Extern.Stop Go.Stop Go.Extern
theorem tS (t:Addr) (w:World):(ReflectliteValue.unpack (.iface 85 (.pointer (some t)))).run prog w = .ok (.agg #[.pointer (some ⟨9,85,none⟩),w,.int .u64 150]) (w.alloc (.cells #[.pointer (some t)] 85)):=zab
theorem C5 (e:Addr) (w:World):(ReflectliteValue.unpack (.iface 83 (.pointer (some e)))).run prog w = .ok (.agg #[.pointer (some ⟨9,83,none⟩),w,.int .u64 150]) (w.alloc (.cells #[.pointer (some e)] 83)):=zab
theorem Fe (a:Addr) (w:World):(ReflectliteValue.methodAny (ReflectliteValue.valueError "reflectlite.Value.Type" 0) (fun t _ _ _=>ReflectliteType.toType t) #[.agg #[.pointer (some ⟨9,85,none⟩),.pointer (some a),.int .u64 150]]).run prog w = .ok (.iface 246 (.agg #[.pointer (some ⟨9,85,none⟩)])) w:=zab
theorem An (h:Value) (w:World):(Go.method 597 246 (.agg #[h]) "Kind").run prog w = .ok (314,h) w:=zab
theorem Al (h:Value) (w:World):(Go.method 597 246 (.agg #[h]) "Elem").run prog w = .ok (337,.agg #[h]) w:=zab
theorem Am (h:Value) (w:World):(Go.method 597 246 (.agg #[h]) "Implements").run prog w = .ok (338,.agg #[h]) w:=zab
theorem qO (h:Value) (w:World):(Go.method 597 246 (.agg #[h]) "AssignableTo").run prog w = .ok (335,.agg #[h]) w:=zab
theorem Cl (w:World):((ReflectliteType.abiMethod fun t=>(fun a:Nat=>Value.int IntKind.u8 (a:Int)) <$> Rtype.kind t) #[.pointer (some ⟨9,85,none⟩)]).run prog w = .ok (.int .u8 22) w:=zab
theorem Ck (w:World):((ReflectliteType.abiMethod fun t=>(fun a:Nat=>Value.int IntKind.u8 (a:Int)) <$> Rtype.kind t) #[.pointer (some ⟨9,83,none⟩)]).run prog w = .ok (.int .u8 22) w:=zab
theorem Ch (w:World):(ReflectliteType.method ReflectliteType.elem #[.agg #[.pointer (some ⟨9,85,none⟩)]]).run prog w = .ok (.iface 246 (.agg #[.pointer (some ⟨9,83,none⟩)])) w:=zab
theorem Ci (w:World) : (ReflectliteType.relation "Implements" ReflectliteType.implements_ #[.agg #[.pointer (some ⟨9,83,none⟩)],.iface 246 (.agg #[.pointer (some ⟨9,50,none⟩)])]).run prog w = .ok (.bool true) w:=zab
theorem Ff (v:Value) (w:World):(ReflectliteType.typeOf #[.iface 83 v]).run prog w = .ok (.iface 246 (.agg #[.pointer (some ⟨9,83,none⟩)])) w:=zab
theorem C4 (w:World) : (ReflectliteType.relation "AssignableTo" ReflectliteType.assignableTo #[.agg #[.pointer (some ⟨9,83,none⟩)],.iface 246 (.agg #[.pointer (some ⟨9,83,none⟩)])]).run prog w = .ok (.bool true) w:=zab
theorem xM (a:Addr) (w:World):(ReflectliteValue.parts (.agg #[.pointer (some ⟨9,85,none⟩),.pointer (some a),.int .u64 150])).run prog w = .ok (some (85,a,150)) w:=zab
theorem Fc (a:Addr) (w:World):(ReflectliteValue.parts (.agg #[.pointer (some ⟨9,83,none⟩),.pointer (some a),.int .u64 150])).run prog w = .ok (some (83,a,150)) w:=zab
theorem Fb (a:Addr) (w:World):(ReflectliteValue.parts (.agg #[.pointer (some ⟨9,83,none⟩),.pointer (some a),.int .u64 406])).run prog w = .ok (some (83,a,406)) w:=zab
theorem Fa (w:World):(Rtype.elem? 85).run prog w = .ok (some 83) w:=zab
theorem Lh (p:Addr) (w:World):(ReflectliteValue.mk 83 p ReflectliteValue.flagAddr).run prog w = .ok (.agg #[.pointer (some ⟨9,83,none⟩),.pointer (some p),.int .u64 406]) w:=zab
theorem E9 (w:World):(Rtype.directlyAssignable 83 83).run prog w = .ok true w:=zab
theorem rl_method (z:Sem Value) (f:TypeId->Addr->Nat->Nat->Sem Value) (v:Value):ReflectliteValue.method z f #[v]=(do match <- ReflectliteValue.parts v with | none=>z | some (t,a,fl)=>f t a fl (fl % 32)):=rfl
theorem Cj (a p:Addr) (W:World) (ha:W.cell? a=some (.pointer (some p))):(ReflectliteValue.method (ReflectliteValue.valueError "reflectlite.Value.IsNil" 0) ReflectliteValue.isNil #[.agg #[.pointer (some ⟨9,85,none⟩),.pointer (some a),.int .u64 150]]).run prog W = .ok (.bool false) W:=by
 rw [rl_method];simp only [Sem.run_bind,xM,Result.andThen];simp [ReflectliteValue.isNil,loadVar,isAgg,underlying,underlying85,ha,Result.andThen]
theorem Hy (a p:Addr) (W:World) (ha:W.cell? a=some (.pointer (some p))):(ReflectliteValue.method (ReflectliteValue.valueError "reflectlite.Value.Elem" 0) ReflectliteValue.elem #[.agg #[.pointer (some ⟨9,85,none⟩),.pointer (some a),.int .u64 150]]).run prog W = .ok (.agg #[.pointer (some ⟨9,83,none⟩),.pointer (some p),.int .u64 406]) W:=by
 rw [rl_method];simp only [Sem.run_bind,xM,Result.andThen];simp [ReflectliteValue.elem,loadVar,isAgg,underlying,underlying85,ha,Result.andThen,Fa,Lh]
theorem zz (a b:Value) (h1:Value->Value->Sem Value) (h2:Array Value->Sem Value):ReflectliteValue.set.match_3 (fun _=>Sem Value) #[a,b] h1 h2=h1 a b:=rfl
theorem KL (ta b e:Addr) (old:Value) (W:World) (hb:W.cell? b=some (.pointer (some e))) (ht:W.cell? ta=some old) (hf:W.frozen? ta=false):(ReflectliteValue.set #[.agg #[.pointer (some ⟨9,83,none⟩),.pointer (some ta),.int .u64 406],.agg #[.pointer (some ⟨9,83,none⟩),.pointer (some b),.int .u64 150]]).run prog W = .ok (.tuple #[]) (W.setCell ta (.pointer (some e))):=by
 delta ReflectliteValue.set
 rw [zz];simp only [Sem.run_bind,Fb,Fc,Result.andThen];simp [ReflectliteValue.flagAddr,loadVar,isAgg,underlying,underlying83,hb,Result.andThen,E9,storeVar,Value.cells,storeCells,Addr.add];rw [Qv prog W ta _ _ zae];simp [ht,hf]
theorem zy {w w4:World} {t:Nat} {c:Array Value} {ty:TypeId} {v:Value} (ht:w.heap[t]?=some (.cells c ty (0,0))) (hb:Below w w w4):Below w (w.setCell t v) (w4.setCell t v):=by
 have oa:=aa w t 0 v;have ob:=aa w4 t 0 v;refine ⟨ob.os.trans (hb.os.trans oa.os.symm),ob.tape.trans (hb.tape.trans oa.tape.symm),ob.output.trans (hb.output.trans oa.output.symm),by rw [oa.size,ob.size];exact hb.size,fun k hk => ?_⟩;by_cases e:k=t
 ·subst e;rw [LP w k 0 _ _ v ht,LP w4 k 0 _ _ v ((hb.block k hk).trans ht)]
 ·rw [ob.block k e,oa.block k e,hb.block k hk]
theorem Fh (e t:Nat) (old:Value) (w:World) (hg:w.cell? ⟨0,0,none⟩=some (.iface 246 (.agg #[.pointer (some ⟨9,50,none⟩)]))) (ht:w.heap[t]?=some (.cells #[old] 83 (0,0))) :
  () 28 #[.iface 83 e,.iface 85 t] w fun ev w'=>ev = .returned true/\Below w (w.setCell t e) w':=by
 have ht0:w.cell? t=some old:=by rw [JJ w _ _ _ _ _ ht];rfl
 have hf0:w.frozen? ⟨t,0,none⟩=false:=by simp [World.frozen?,ht]
 have hgl:0<w.heap.size:=LY _ _ hg;have htl:t<w.heap.size:=LY _ _ ht0;have x1:=@run_callFunc_extern prog 55 _ (fun args=>ReflectliteValue.unpack (args.getD 0 (.tuple #[]))) func55 zab zab zab zab;have x2:=@run_callFunc_extern prog 56 _ (ReflectliteValue.methodAny (ReflectliteValue.valueError "reflectlite.Value.Type" 0) (fun t _ _ _=>ReflectliteType.toType t)) func56 zab zab zab zab;have x3:=@run_callFunc_extern prog 57 _ (ReflectliteValue.method (ReflectliteValue.valueError "reflectlite.Value.IsNil" 0) ReflectliteValue.isNil) func57 zab zab zab zab;have x4:=@run_callFunc_extern prog 314 _ (ReflectliteType.abiMethod fun t=>do pure (.int .u8 (<- Rtype.kind t))) func314 zab zab zab zab;have x5:=@run_callFunc_extern prog 337 _ (ReflectliteType.method ReflectliteType.elem) func337 zab zab zab zab;have x6:=@run_callFunc_extern prog 338 _ (ReflectliteType.relation "Implements" ReflectliteType.implements_) func338 zab zab zab zab;have x7:=@run_callFunc_extern prog 95 _ (ReflectliteType.typeOf) func95 zab zab zab zab;have x8:=@run_callFunc_extern prog 335 _ (ReflectliteType.relation "AssignableTo" ReflectliteType.assignableTo) func335 zab zab zab zab;have x9:=@run_callFunc_extern prog 96 _ (ReflectliteValue.method (ReflectliteValue.valueError "reflectlite.Value.Elem" 0) ReflectliteValue.elem) func96 zab zab zab zab;have x10:=@run_callFunc_extern prog 97 _ (ReflectliteValue.set) func97 zab zab zab zab;have y1:=Ff;have y2:=qO;have y3:=C4;have y4:=C5;have y5:=tS;have y6:=Fe;have y7:=An;have y8:=Al;have y9:=Am;have y10:=Cl;have y11:=Ck;have y12:=Ch;have y13:=Ci;have z1:=Cj ⟨w,0,none⟩ ⟨t,0,none⟩ ((w.alloc (.cells #[t] 85)).alloc (.cells #[.pointer (some ⟨9,85,none⟩),w,.int .u64 150] 165)) zad;have hg2:((w.alloc (.cells #[t] 85)).alloc (.cells #[.pointer (some ⟨9,85,none⟩),w,.int .u64 150] 165)).cell? ⟨0,0,none⟩=some (.iface 246 (.agg #[.pointer (some ⟨9,50,none⟩)])):=by
  exact zeC
 have z2:=Hy ⟨w,0,none⟩ ⟨t,0,none⟩ (((w.alloc (.cells #[t] 85)).alloc (.cells #[.pointer (some ⟨9,85,none⟩),w,.int .u64 150] 165)).alloc (.cells #[.pointer (some ⟨9,85,none⟩),w,.int .u64 150] 165)) zcq;have z3:=KL ⟨t,0,none⟩ ⟨w.heap.size+1+1+1,0,none⟩ ⟨e,0,none⟩ old ((((w.alloc (.cells #[t] 85)).alloc (.cells #[.pointer (some ⟨9,85,none⟩),w,.int .u64 150] 165)).alloc (.cells #[.pointer (some ⟨9,85,none⟩),w,.int .u64 150] 165)).alloc (.cells #[e] 83))
  zck
  zbW
  zbV
 go_enter func28,ntmps28;go_wp2;refine O6 1 ?_;rw [PR];go_wp2;go_ret;refine ⟨rfl,?_⟩;exact zy ht (((((FP w w).alloc (u0 _) _).alloc zad _).alloc zaf _).alloc zaf _)
theorem sP (e:Nat) (c l:Int) (w:World) (hg:w.cell? ⟨0,0,none⟩=some (.iface 246 (.agg #[.pointer (some ⟨9,50,none⟩)]))) (he:w.heap[e]?=some (.cells #[(c:Int),(l:Int)] 87 (0,0))) :
  () 17 #[.iface 83 e] w fun ev w'=>ev = .returned (.tuple #[(c:Int),(l:Int)])/\Below w w w':=by
 have hgl:0<w.heap.size:=LY _ _ hg;have hel:=(ph.1 he).1;obtain ⟨W1,hW1⟩:∃ y,y=(w.alloc (.cells #[.pointer none] 83)).alloc (.cells #[(0:Int)] 27):=⟨_,rfl⟩;have hb1:Below w w W1:=zcd;have h0:W1.heap[w.heap.size]?=some (.cells #[.pointer none] 83 (0,0)):=by rw [hW1];exact eN _ _ _
 have hg1:=(LM (w:=w) (w':=W1) (a:=⟨0,0,none⟩) (hb1.block _ hgl)).trans hg;have HA:Hid (() 28 #[.iface 83 e,.iface 85 w] W1 fun ev w'=>ev = .returned true/\Below W1 (W1.setCell w e) w'):=Fh e w _ W1 hg1 h0;have HW1:Hid _:=hW1;go_enter func17,ntmps17;go_wp2_with fail;rw [<- HW1.out];refine LF HA.out ?_;rintro ev w2 ⟨rfl,hb2⟩;have oo:=aa W1 w 0 e;have r0:=LP W1 w 0 _ _ e h0;have hl0:=(ph.1 h0).1;have r2:=(hb2.block w hl0).trans r0;have t0:w2.cell? w=some ↑e:=by rw [JJ w2 _ _ _ _ _ r2];rfl
 have e1:=(hb1.block e hel).trans he;have e2:=(hb2.block e (by have:=hb1.size;omega)).trans ((oo.block e zaa).trans e1);have t1:w2.cell? e=some ↑(c:Int):=by rw [JJ w2 _ _ _ _ _ e2];rfl
 have t2:w2.cell? ⟨e,1,none⟩=some ↑(l:Int):=by rw [JJ w2 _ _ _ _ _ e2];rfl
 have HB:Hid (Below w w w2):=(oo.below hb1 (u0 _)).trans (hb2.mono hb1.size);clear hb2 oo r0 r2 e1 e2;dsimp only;go_wp2_with fail
 go_quiet (fail)
 go_wp2;go_ret2;exact ⟨rfl,NY HB.out _⟩
theorem zO (w:World):() 17 #[.nilIface] w fun ev w'=>ev = .returned (.tuple #[(0:Int),(0:Int)])/\Below w w w':=by
 go_enter func17,ntmps17;go_wp2;go_ret2;exact ⟨rfl,((FP _ _).alloc (u0 _) _).alloc zad _⟩
theorem C2 (t:Addr) (w:World):(ReflectliteValue.unpack (.iface 88 (.pointer (some t)))).run prog w = .ok (.agg #[.pointer (some ⟨9,88,none⟩),w,.int .u64 150]) (w.alloc (.cells #[.pointer (some t)] 88)):=zab
theorem C1 (c:Int) (w:World):(ReflectliteValue.unpack (.iface 27 (.int .i64 c))).run prog w = .ok (.agg #[.pointer (some ⟨9,27,none⟩),w,.int .u64 130]) (w.alloc (.cells #[(c:Int)] 27)):=zab
theorem JY (a:Addr) (w:World):(ReflectliteValue.methodAny (ReflectliteValue.valueError "reflectlite.Value.Type" 0) (fun t _ _ _=>ReflectliteType.toType t) #[.agg #[.pointer (some ⟨9,88,none⟩),.pointer (some a),.int .u64 150]]).run prog w = .ok (.iface 246 (.agg #[.pointer (some ⟨9,88,none⟩)])) w:=zab
theorem Hw (w:World):((ReflectliteType.abiMethod fun t=>(fun a:Nat=>Value.int IntKind.u8 (a:Int)) <$> Rtype.kind t) #[.pointer (some ⟨9,88,none⟩)]).run prog w = .ok (.int .u8 22) w:=zab
theorem Hv (w:World):((ReflectliteType.abiMethod fun t=>(fun a:Nat=>Value.int IntKind.u8 (a:Int)) <$> Rtype.kind t) #[.pointer (some ⟨9,27,none⟩)]).run prog w = .ok (.int .u8 2) w:=zab
theorem Hr (w:World):(ReflectliteType.method ReflectliteType.elem #[.agg #[.pointer (some ⟨9,88,none⟩)]]).run prog w = .ok (.iface 246 (.agg #[.pointer (some ⟨9,27,none⟩)])) w:=zab
theorem Ht (w:World) : (ReflectliteType.relation "Implements" ReflectliteType.implements_ #[.agg #[.pointer (some ⟨9,27,none⟩)],.iface 246 (.agg #[.pointer (some ⟨9,50,none⟩)])]).run prog w = .ok (.bool true) w:=zab
theorem xL (v:Value) (w:World):(ReflectliteType.typeOf #[.iface 27 v]).run prog w = .ok (.iface 246 (.agg #[.pointer (some ⟨9,27,none⟩)])) w:=zab
theorem CZ (w:World) : (ReflectliteType.relation "AssignableTo" ReflectliteType.assignableTo #[.agg #[.pointer (some ⟨9,27,none⟩)],.iface 246 (.agg #[.pointer (some ⟨9,27,none⟩)])]).run prog w = .ok (.bool true) w:=zab
theorem C0 (w:World) : (ReflectliteType.relation "AssignableTo" ReflectliteType.assignableTo #[.agg #[.pointer (some ⟨9,27,none⟩)],.iface 246 (.agg #[.pointer (some ⟨9,83,none⟩)])]).run prog w = .ok (.bool false) w:=zab
theorem xK (a:Addr) (w:World):(ReflectliteValue.parts (.agg #[.pointer (some ⟨9,88,none⟩),.pointer (some a),.int .u64 150])).run prog w = .ok (some (88,a,150)) w:=zab
theorem E8 (a:Addr) (w:World):(ReflectliteValue.parts (.agg #[.pointer (some ⟨9,27,none⟩),.pointer (some a),.int .u64 130])).run prog w = .ok (some (27,a,130)) w:=zab
theorem E7 (a:Addr) (w:World):(ReflectliteValue.parts (.agg #[.pointer (some ⟨9,27,none⟩),.pointer (some a),.int .u64 386])).run prog w = .ok (some (27,a,386)) w:=zab
theorem E6 (w:World):(Rtype.elem? 88).run prog w = .ok (some 27) w:=zab
theorem Lg (p:Addr) (w:World):(ReflectliteValue.mk 27 p ReflectliteValue.flagAddr).run prog w = .ok (.agg #[.pointer (some ⟨9,27,none⟩),.pointer (some p),.int .u64 386]) w:=zab
theorem E5 (w:World):(Rtype.directlyAssignable 27 27).run prog w = .ok true w:=zab
theorem Hu (a p:Addr) (W:World) (ha:W.cell? a=some (.pointer (some p))):(ReflectliteValue.method (ReflectliteValue.valueError "reflectlite.Value.IsNil" 0) ReflectliteValue.isNil #[.agg #[.pointer (some ⟨9,88,none⟩),.pointer (some a),.int .u64 150]]).run prog W = .ok (.bool false) W:=by
 rw [rl_method];simp only [Sem.run_bind,xK,Result.andThen];simp [ReflectliteValue.isNil,loadVar,isAgg,underlying,underlying88,ha,Result.andThen]
theorem Hs (a p:Addr) (W:World) (ha:W.cell? a=some (.pointer (some p))):(ReflectliteValue.method (ReflectliteValue.valueError "reflectlite.Value.Elem" 0) ReflectliteValue.elem #[.agg #[.pointer (some ⟨9,88,none⟩),.pointer (some a),.int .u64 150]]).run prog W = .ok (.agg #[.pointer (some ⟨9,27,none⟩),.pointer (some p),.int .u64 386]) W:=by
 rw [rl_method];simp only [Sem.run_bind,xK,Result.andThen];simp [ReflectliteValue.elem,loadVar,isAgg,underlying,underlying88,ha,Result.andThen,E6,Lg]
theorem KK (ta b:Addr) (c:Int) (old:Value) (W:World) (hb:W.cell? b=some ↑(c:Int)) (ht:W.cell? ta=some old) (hf:W.frozen? ta=false):(ReflectliteValue.set #[.agg #[.pointer (some ⟨9,27,none⟩),.pointer (some ta),.int .u64 386],.agg #[.pointer (some ⟨9,27,none⟩),.pointer (some b),.int .u64 130]]).run prog W = .ok (.tuple #[]) (W.setCell ta (.int .i64 c)):=by
 delta ReflectliteValue.set
 rw [zz];simp only [Sem.run_bind,E7,E8,Result.andThen];simp [ReflectliteValue.flagAddr,loadVar,isAgg,underlying,underlying27,hb,Result.andThen,E5,storeVar,Value.cells,storeCells,Addr.add];rw [Qv prog W ta _ _ zae];simp [ht,hf]
theorem Ly (v:Value) (xT:TypeId) (w:World):(Instr.typeAssert (.iface 27 v) xT 251 true).run prog w = .ok (.tuple #[.nilIface,false]) w:=run_typeAssert_lacksB underlying251 zab zab v xT w
theorem Ge (v:Value) (xT:TypeId) (w:World):(Instr.typeAssert (.iface 27 v) xT 254 true).run prog w = .ok (.tuple #[.nilIface,false]) w:=run_typeAssert_lacksB underlying254 zab zab v xT w
theorem DV (v:Value) (xT:TypeId) (w:World):(Instr.typeAssert (.iface 27 v) xT 255 true).run prog w = .ok (.tuple #[.nilIface,false]) w:=run_typeAssert_lacksB underlying255 zab zab v xT w
theorem Hz (c:Int) (t:Nat) (w:World) (hg:w.cell? ⟨0,0,none⟩=some (.iface 246 (.agg #[.pointer (some ⟨9,50,none⟩)]))) :
  () 28 #[.iface 27 (.int .i64 c),.iface 85 t] w fun ev w'=>ev = .returned false/\Below w w w':=by
 have hgl:0<w.heap.size:=LY _ _ hg;have x1:=@run_callFunc_extern prog 55 _ (fun args=>ReflectliteValue.unpack (args.getD 0 (.tuple #[]))) func55 zab zab zab zab;have x2:=@run_callFunc_extern prog 56 _ (ReflectliteValue.methodAny (ReflectliteValue.valueError "reflectlite.Value.Type" 0) (fun t _ _ _=>ReflectliteType.toType t)) func56 zab zab zab zab;have x3:=@run_callFunc_extern prog 57 _ (ReflectliteValue.method (ReflectliteValue.valueError "reflectlite.Value.IsNil" 0) ReflectliteValue.isNil) func57 zab zab zab zab;have x4:=@run_callFunc_extern prog 314 _ (ReflectliteType.abiMethod fun t=>do pure (.int .u8 (<- Rtype.kind t))) func314 zab zab zab zab;have x5:=@run_callFunc_extern prog 337 _ (ReflectliteType.method ReflectliteType.elem) func337 zab zab zab zab;have x6:=@run_callFunc_extern prog 338 _ (ReflectliteType.relation "Implements" ReflectliteType.implements_) func338 zab zab zab zab;have x7:=@run_callFunc_extern prog 95 _ (ReflectliteType.typeOf) func95 zab zab zab zab;have x8:=@run_callFunc_extern prog 335 _ (ReflectliteType.relation "AssignableTo" ReflectliteType.assignableTo) func335 zab zab zab zab;have x9:=@run_callFunc_extern prog 96 _ (ReflectliteValue.method (ReflectliteValue.valueError "reflectlite.Value.Elem" 0) ReflectliteValue.elem) func96 zab zab zab zab;have x10:=@run_callFunc_extern prog 97 _ (ReflectliteValue.set) func97 zab zab zab zab;have y1:=xL;have y2:=qO;have y3:=C0;have u1:=Ly;have u2:=Ge;have u3:=DV;have y5:=tS;have y6:=Fe;have y7:=An;have y8:=Al;have y9:=Am;have y10:=Cl;have y11:=Ck;have y12:=Ch;have y13:=Ci;have z1:=Cj ⟨w,0,none⟩ ⟨t,0,none⟩ ((w.alloc (.cells #[t] 85)).alloc (.cells #[.pointer (some ⟨9,85,none⟩),w,.int .u64 150] 165)) zad;have hg2:((w.alloc (.cells #[t] 85)).alloc (.cells #[.pointer (some ⟨9,85,none⟩),w,.int .u64 150] 165)).cell? ⟨0,0,none⟩=some (.iface 246 (.agg #[.pointer (some ⟨9,50,none⟩)])):=by
  exact zeC
 go_enter func28,ntmps28;go_wp2;refine O6 1 ?_;rw [PR];go_wp2;go_ret;refine ⟨rfl,?_⟩;exact (((FP w w).alloc (u0 _) _).alloc zad _).alloc zaf _
theorem Fg (c:Int) (t:Nat) (old:Value) (w:World) (hg:w.cell? ⟨0,0,none⟩=some (.iface 246 (.agg #[.pointer (some ⟨9,50,none⟩)]))) (ht:w.heap[t]?=some (.cells #[old] 27 (0,0))) :
  () 28 #[.iface 27 (.int .i64 c),.iface 88 t] w fun ev w'=>ev = .returned true/\Below w (w.setCell t (.int .i64 c)) w':=by
 have ht0:w.cell? t=some old:=by rw [JJ w _ _ _ _ _ ht];rfl
 have hf0:w.frozen? ⟨t,0,none⟩=false:=by simp [World.frozen?,ht]
 have hgl:0<w.heap.size:=LY _ _ hg;have htl:t<w.heap.size:=LY _ _ ht0;have x1:=@run_callFunc_extern prog 55 _ (fun args=>ReflectliteValue.unpack (args.getD 0 (.tuple #[]))) func55 zab zab zab zab;have x2:=@run_callFunc_extern prog 56 _ (ReflectliteValue.methodAny (ReflectliteValue.valueError "reflectlite.Value.Type" 0) (fun t _ _ _=>ReflectliteType.toType t)) func56 zab zab zab zab;have x3:=@run_callFunc_extern prog 57 _ (ReflectliteValue.method (ReflectliteValue.valueError "reflectlite.Value.IsNil" 0) ReflectliteValue.isNil) func57 zab zab zab zab;have x4:=@run_callFunc_extern prog 314 _ (ReflectliteType.abiMethod fun t=>do pure (.int .u8 (<- Rtype.kind t))) func314 zab zab zab zab;have x5:=@run_callFunc_extern prog 337 _ (ReflectliteType.method ReflectliteType.elem) func337 zab zab zab zab;have x6:=@run_callFunc_extern prog 338 _ (ReflectliteType.relation "Implements" ReflectliteType.implements_) func338 zab zab zab zab;have x7:=@run_callFunc_extern prog 95 _ (ReflectliteType.typeOf) func95 zab zab zab zab;have x8:=@run_callFunc_extern prog 335 _ (ReflectliteType.relation "AssignableTo" ReflectliteType.assignableTo) func335 zab zab zab zab;have x9:=@run_callFunc_extern prog 96 _ (ReflectliteValue.method (ReflectliteValue.valueError "reflectlite.Value.Elem" 0) ReflectliteValue.elem) func96 zab zab zab zab;have x10:=@run_callFunc_extern prog 97 _ (ReflectliteValue.set) func97 zab zab zab zab;have y1:=xL;have y2:=qO;have y3:=CZ;have y4:=C1;have y5:=C2;have y6:=JY;have y7:=An;have y8:=Al;have y9:=Am;have y10:=Hw;have y11:=Hv;have y12:=Hr;have y13:=Ht;have z1:=Hu ⟨w,0,none⟩ ⟨t,0,none⟩ ((w.alloc (.cells #[t] 88)).alloc (.cells #[.pointer (some ⟨9,88,none⟩),w,.int .u64 150] 165)) zad;have hg2:((w.alloc (.cells #[t] 88)).alloc (.cells #[.pointer (some ⟨9,88,none⟩),w,.int .u64 150] 165)).cell? ⟨0,0,none⟩=some (.iface 246 (.agg #[.pointer (some ⟨9,50,none⟩)])):=by
  exact zeC
 have z2:=Hs ⟨w,0,none⟩ ⟨t,0,none⟩ (((w.alloc (.cells #[t] 88)).alloc (.cells #[.pointer (some ⟨9,88,none⟩),w,.int .u64 150] 165)).alloc (.cells #[.pointer (some ⟨9,88,none⟩),w,.int .u64 150] 165)) zcq;have z3:=KK ⟨t,0,none⟩ ⟨w.heap.size+1+1+1,0,none⟩ c old ((((w.alloc (.cells #[t] 88)).alloc (.cells #[.pointer (some ⟨9,88,none⟩),w,.int .u64 150] 165)).alloc (.cells #[.pointer (some ⟨9,88,none⟩),w,.int .u64 150] 165)).alloc (.cells #[(c:Int)] 27))
  zck
  zbW
  zbV
 go_enter func28,ntmps28;go_wp2;refine O6 1 ?_;rw [PR];go_wp2;go_ret;refine ⟨rfl,?_⟩;exact zy ht (((((FP w w).alloc (u0 _) _).alloc zad _).alloc zaf _).alloc zaf _)
theorem sO (c:Int) (w:World) (hg:w.cell? ⟨0,0,none⟩=some (.iface 246 (.agg #[.pointer (some ⟨9,50,none⟩)]))) :
  () 17 #[.iface 27 (.int .i64 c)] w fun ev w'=>ev = .returned (.tuple #[(c:Int),(0:Int)])/\Below w w w':=by
 have hgl:0<w.heap.size:=LY _ _ hg;obtain ⟨W1,hW1⟩:∃ y,y=(w.alloc (.cells #[.pointer none] 83)).alloc (.cells #[(0:Int)] 27):=⟨_,rfl⟩;have hb1:Below w w W1:=zcd;have h1:W1.heap[w.heap.size+1]?=some (.cells #[(0:Int)] 27 (0,0)):=by rw [hW1];exact bP _ _ _
 have hg1:=(LM (w:=w) (w':=W1) (a:=⟨0,0,none⟩) (hb1.block _ hgl)).trans hg;have HA:Hid _:=Hz c w W1 hg1;have HW1:Hid _:=hW1;go_enter func17,ntmps17;go_wp2_with fail;rw [<- HW1.out];refine LF HA.out ?_;rintro ev w2 ⟨rfl,hb2⟩;have hl1:=(ph.1 h1).1;have h2:=(hb2.block _ hl1).trans h1;have hg2:=(LM (w:=W1) (w':=w2) (a:=⟨0,0,none⟩) (hb2.block _ (LU hgl hb1.size))).trans hg1;have HB2:Hid (Below w w w2):=hb1.trans (hb2.mono hb1.size);have HC:Hid _:=Fg c (w.heap.size+1) _ w2 hg2 h2;clear hb2 hg2;dsimp only;go_wp2_with fail;refine LF HC.out ?_;rintro ev w3 ⟨rfl,hb3⟩;have oo:=aa w2 (w.heap.size+1) 0 (.int .i64 c);have r0:=LP w2 (w.heap.size+1) 0 _ _ (.int .i64 c) h2;have hl2:=(ph.1 h2).1;have r2:=(hb3.block (w.heap.size+1) hl2).trans r0;have t0:w3.cell? ⟨w.heap.size+1,0,none⟩=some ↑(c:Int):=by rw [JJ w3 _ _ _ _ _ r2];rfl
 have HB:Hid (Below w w w3):=(oo.below HB2.out zaa).trans (hb3.mono HB2.out.size);clear hb3 oo r0 r2 h2;dsimp only;go_wp2_with fail;go_ret2;exact ⟨rfl,HB.out⟩
