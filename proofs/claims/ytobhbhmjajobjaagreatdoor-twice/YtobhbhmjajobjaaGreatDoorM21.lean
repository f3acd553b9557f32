import Derived.Test.YtobhbhmjajobjaaGreatDoorM16
import Derived.RowKitTokens
set_option maxRecDepth 100000
set_option maxHeartbeats 8000000
namespace Go.Proofs.YtobhbhmjajobjaaGreatDoor
variable {zp:Prop}
theorem zeD (h:zp:=by
 rw [Nn _ _ ⟨0,0,none⟩ zbz,Nn _ _ ⟨0,0,none⟩ hgl];exact hg):zp:=h
theorem zbz (h:zp:=by simp only [World.size_alloc];exact Rc hgl):zp:=h
theorem zbV (h:zp:=by rw [Om _ _ ⟨t,0,none⟩ (by simp;omega),Om _ _ ⟨t,0,none⟩ (by simp;omega),Om _ _ ⟨t,0,none⟩ (by simp;omega),Om _ _ ⟨t,0,none⟩ (Rp htl)];exact hf0):zp:=h
theorem zbW (h:zp:=by rw [Nn _ _ ⟨t,0,none⟩ (by simp;omega),Nn _ _ ⟨t,0,none⟩ (by simp;omega),Nn _ _ ⟨t,0,none⟩ (by simp;omega),Nn _ _ ⟨t,0,none⟩ htl];exact ht0):zp:=h
theorem zcd (h:zp:=by rw [hW1];exact ((Mw _ _).alloc (Mt _) _).alloc (by simp) _):zp:=h
theorem zck (h:zp:=by rw [World.cell?_alloc_at _ _ _ _ (by simp)];rfl):zp:=h
theorem zcq (h:zp:=by rw [Nn _ _ ⟨w,0,none⟩ (by simp;omega)];simp):zp:=h
open Tryz
section
open Go.RowKit Go.Extern.Stop Go.Stop Go.Extern
theorem ui (t:Addr) (w:World):(ReflectliteValue.unpack (.iface 118 (.pointer (some t)))).run prog w = .ok (.agg #[.pointer (some ⟨9,118,none⟩),w,.int .u64 150]) (w.alloc (.cells #[.pointer (some t)] 118)):=zab
theorem Dv (e:Addr) (w:World):(ReflectliteValue.unpack (.iface 116 (.pointer (some e)))).run prog w = .ok (.agg #[.pointer (some ⟨9,116,none⟩),w,.int .u64 150]) (w.alloc (.cells #[.pointer (some e)] 116)):=zab
theorem Fz (a:Addr) (w:World):(ReflectliteValue.methodAny (ReflectliteValue.valueError "reflectlite.Value.Type" 0) (fun t _ _ _=>ReflectliteType.toType t) #[.agg #[.pointer (some ⟨9,118,none⟩),.pointer (some a),.int .u64 150]]).run prog w = .ok (.iface 262 (.agg #[.pointer (some ⟨9,118,none⟩)])) w:=zab
theorem AJ (h:Value) (w:World):(Go.method 597 262 (.agg #[h]) "Kind").run prog w = .ok (318,h) w:=zab
theorem AH (h:Value) (w:World):(Go.method 597 262 (.agg #[h]) "Elem").run prog w = .ok (341,.agg #[h]) w:=zab
theorem AI (h:Value) (w:World):(Go.method 597 262 (.agg #[h]) "Implements").run prog w = .ok (342,.agg #[h]) w:=zab
theorem qT (h:Value) (w:World):(Go.method 597 262 (.agg #[h]) "AssignableTo").run prog w = .ok (339,.agg #[h]) w:=zab
theorem CH (w:World):((ReflectliteType.abiMethod fun t=>(fun a:Nat=>Value.int IntKind.u8 (a:Int)) <$> Rtype.kind t) #[.pointer (some ⟨9,118,none⟩)]).run prog w = .ok (.int .u8 22) w:=zab
theorem CG (w:World):((ReflectliteType.abiMethod fun t=>(fun a:Nat=>Value.int IntKind.u8 (a:Int)) <$> Rtype.kind t) #[.pointer (some ⟨9,116,none⟩)]).run prog w = .ok (.int .u8 22) w:=zab
theorem CD (w:World):(ReflectliteType.method ReflectliteType.elem #[.agg #[.pointer (some ⟨9,118,none⟩)]]).run prog w = .ok (.iface 262 (.agg #[.pointer (some ⟨9,116,none⟩)])) w:=zab
theorem CE (w:World) : (ReflectliteType.relation "Implements" ReflectliteType.implements_ #[.agg #[.pointer (some ⟨9,116,none⟩)],.iface 262 (.agg #[.pointer (some ⟨9,61,none⟩)])]).run prog w = .ok (.bool true) w:=zab
theorem FA (v:Value) (w:World):(ReflectliteType.typeOf #[.iface 116 v]).run prog w = .ok (.iface 262 (.agg #[.pointer (some ⟨9,116,none⟩)])) w:=zab
theorem Du (w:World) : (ReflectliteType.relation "AssignableTo" ReflectliteType.assignableTo #[.agg #[.pointer (some ⟨9,116,none⟩)],.iface 262 (.agg #[.pointer (some ⟨9,116,none⟩)])]).run prog w = .ok (.bool true) w:=zab
theorem yj (a:Addr) (w:World):(ReflectliteValue.parts (.agg #[.pointer (some ⟨9,118,none⟩),.pointer (some a),.int .u64 150])).run prog w = .ok (some (118,a,150)) w:=zab
theorem Fy (a:Addr) (w:World):(ReflectliteValue.parts (.agg #[.pointer (some ⟨9,116,none⟩),.pointer (some a),.int .u64 150])).run prog w = .ok (some (116,a,150)) w:=zab
theorem Fx (a:Addr) (w:World):(ReflectliteValue.parts (.agg #[.pointer (some ⟨9,116,none⟩),.pointer (some a),.int .u64 406])).run prog w = .ok (some (116,a,406)) w:=zab
theorem Fw (w:World):(Rtype.elem? 118).run prog w = .ok (some 116) w:=zab
theorem L8 (p:Addr) (w:World):(ReflectliteValue.mk 116 p ReflectliteValue.flagAddr).run prog w = .ok (.agg #[.pointer (some ⟨9,116,none⟩),.pointer (some p),.int .u64 406]) w:=zab
theorem Fv (w:World):(Rtype.directlyAssignable 116 116).run prog w = .ok true w:=zab
theorem rl_method (z:Sem Value) (f:TypeId->Addr->Nat->Nat->Sem Value) (v:Value):ReflectliteValue.method z f #[v]=(do match <- ReflectliteValue.parts v with | none=>z | some (t,a,fl)=>f t a fl (fl % 32)):=rfl
theorem CF (a p:Addr) (W:World) (ha:W.cell? a=some (.pointer (some p))):(ReflectliteValue.method (ReflectliteValue.valueError "reflectlite.Value.IsNil" 0) ReflectliteValue.isNil #[.agg #[.pointer (some ⟨9,118,none⟩),.pointer (some a),.int .u64 150]]).run prog W = .ok (.bool false) W:=by
 rw [rl_method];simp only [Sem.run_bind,yj,Result.andThen];simp [ReflectliteValue.isNil,loadVar,isAgg,underlying,underlying118,ha,Result.andThen]
theorem IG (a p:Addr) (W:World) (ha:W.cell? a=some (.pointer (some p))):(ReflectliteValue.method (ReflectliteValue.valueError "reflectlite.Value.Elem" 0) ReflectliteValue.elem #[.agg #[.pointer (some ⟨9,118,none⟩),.pointer (some a),.int .u64 150]]).run prog W = .ok (.agg #[.pointer (some ⟨9,116,none⟩),.pointer (some p),.int .u64 406]) W:=by
 rw [rl_method];simp only [Sem.run_bind,yj,Result.andThen];simp [ReflectliteValue.elem,loadVar,isAgg,underlying,underlying118,ha,Result.andThen,Fw,L8]
theorem zU (a b:Value) (h1:Value->Value->Sem Value) (h2:Array Value->Sem Value):ReflectliteValue.set.match_3 (fun _=>Sem Value) #[a,b] h1 h2=h1 a b:=rfl
theorem Lv (ta b e:Addr) (old:Value) (W:World) (hb:W.cell? b=some (.pointer (some e))) (ht:W.cell? ta=some old) (hf:W.frozen? ta=false):(ReflectliteValue.set #[.agg #[.pointer (some ⟨9,116,none⟩),.pointer (some ta),.int .u64 406],.agg #[.pointer (some ⟨9,116,none⟩),.pointer (some b),.int .u64 150]]).run prog W = .ok (.tuple #[]) (W.setCell ta (.pointer (some e))):=by
 delta ReflectliteValue.set
 rw [zU];simp only [Sem.run_bind,Fx,Fy,Result.andThen];simp [ReflectliteValue.flagAddr,loadVar,isAgg,underlying,underlying116,hb,Result.andThen,Fv,storeVar,Value.cells,storeCells,Addr.add];rw [Rl prog W ta _ _ zae];simp [ht,hf]
theorem zT {w w4:World} {t:Nat} {c:Array Value} {ty:TypeId} {v:Value} (ht:w.heap[t]?=some (.cells c ty (0,0))) (hb:Below w w w4):Below w (w.setCell t v) (w4.setCell t v):=by
 have oa:=aa w t 0 v;have ob:=aa w4 t 0 v;refine ⟨ob.os.trans (hb.os.trans oa.os.symm),ob.tape.trans (hb.tape.trans oa.tape.symm),ob.output.trans (hb.output.trans oa.output.symm),by rw [oa.size,ob.size];exact hb.size,fun k hk => ?_⟩;by_cases e:k=t
 ·subst e;rw [MO w k 0 _ _ v ht,MO w4 k 0 _ _ v ((hb.block k hk).trans ht)]
 ·rw [ob.block k e,oa.block k e,hb.block k hk]
theorem FC (e t:Nat) (old:Value) (w:World) (hg:w.cell? ⟨0,0,none⟩=some (.iface 262 (.agg #[.pointer (some ⟨9,61,none⟩)]))) (ht:w.heap[t]?=some (.cells #[old] 116 (0,0))) :
  () 42 #[.iface 116 e,.iface 118 t] w fun ev w'=>ev = .returned true/\Below w (w.setCell t e) w':=by
 have ht0:w.cell? t=some old:=by rw [My w _ _ _ _ _ ht];rfl
 have hf0:w.frozen? ⟨t,0,none⟩=false:=by simp [World.frozen?,ht]
 have hgl:0<w.heap.size:=MQ _ _ hg;have htl:t<w.heap.size:=MQ _ _ ht0;have x1:=@run_callFunc_extern prog 68 _ (fun args=>ReflectliteValue.unpack (args.getD 0 (.tuple #[]))) func68 zab zab zab zab;have x2:=@run_callFunc_extern prog 69 _ (ReflectliteValue.methodAny (ReflectliteValue.valueError "reflectlite.Value.Type" 0) (fun t _ _ _=>ReflectliteType.toType t)) func69 zab zab zab zab;have x3:=@run_callFunc_extern prog 70 _ (ReflectliteValue.method (ReflectliteValue.valueError "reflectlite.Value.IsNil" 0) ReflectliteValue.isNil) func70 zab zab zab zab;have x4:=@run_callFunc_extern prog 318 _ (ReflectliteType.abiMethod fun t=>do pure (.int .u8 (<- Rtype.kind t))) func318 zab zab zab zab;have x5:=@run_callFunc_extern prog 341 _ (ReflectliteType.method ReflectliteType.elem) func341 zab zab zab zab;have x6:=@run_callFunc_extern prog 342 _ (ReflectliteType.relation "Implements" ReflectliteType.implements_) func342 zab zab zab zab;have x7:=@run_callFunc_extern prog 109 _ (ReflectliteType.typeOf) func109 zab zab zab zab;have x8:=@run_callFunc_extern prog 339 _ (ReflectliteType.relation "AssignableTo" ReflectliteType.assignableTo) func339 zab zab zab zab;have x9:=@run_callFunc_extern prog 110 _ (ReflectliteValue.method (ReflectliteValue.valueError "reflectlite.Value.Elem" 0) ReflectliteValue.elem) func110 zab zab zab zab;have x10:=@run_callFunc_extern prog 111 _ (ReflectliteValue.set) func111 zab zab zab zab;have y1:=FA;have y2:=qT;have y3:=Du;have y4:=Dv;have y5:=ui;have y6:=Fz;have y7:=AJ;have y8:=AH;have y9:=AI;have y10:=CH;have y11:=CG;have y12:=CD;have y13:=CE;have z1:=CF ⟨w,0,none⟩ ⟨t,0,none⟩ ((w.alloc (.cells #[t] 118)).alloc (.cells #[.pointer (some ⟨9,118,none⟩),w,.int .u64 150] 182)) zad;have hg2:((w.alloc (.cells #[t] 118)).alloc (.cells #[.pointer (some ⟨9,118,none⟩),w,.int .u64 150] 182)).cell? ⟨0,0,none⟩=some (.iface 262 (.agg #[.pointer (some ⟨9,61,none⟩)])):=by
  exact zeD
 have z2:=IG ⟨w,0,none⟩ ⟨t,0,none⟩ (((w.alloc (.cells #[t] 118)).alloc (.cells #[.pointer (some ⟨9,118,none⟩),w,.int .u64 150] 182)).alloc (.cells #[.pointer (some ⟨9,118,none⟩),w,.int .u64 150] 182)) zcq;have z3:=Lv ⟨t,0,none⟩ ⟨w.heap.size+1+1+1,0,none⟩ ⟨e,0,none⟩ old ((((w.alloc (.cells #[t] 118)).alloc (.cells #[.pointer (some ⟨9,118,none⟩),w,.int .u64 150] 182)).alloc (.cells #[.pointer (some ⟨9,118,none⟩),w,.int .u64 150] 182)).alloc (.cells #[e] 116))
  zck
  zbW
  zbV
 go_enter func42,ntmps42;go_wp2;refine Qa 1 ?_;rw [QJ];go_wp2;go_ret;refine ⟨rfl,?_⟩;exact zT ht (((((Mw w w).alloc (Mt _) _).alloc zad _).alloc zaf _).alloc zaf _)
theorem Ch (e:Nat) (c l:Int) (w:World) (hg:w.cell? ⟨0,0,none⟩=some (.iface 262 (.agg #[.pointer (some ⟨9,61,none⟩)]))) (he:w.heap[e]?=some (.cells #[(c:Int),(l:Int)] 120 (0,0))) :
  () 24 #[.iface 116 e] w fun ev w'=>ev = .returned (.tuple #[(c:Int),(l:Int)])/\Below w w w':=by
 have hgl:0<w.heap.size:=MQ _ _ hg;have hel:=(Ms.1 he).1;obtain ⟨W1,hW1⟩:∃ y,y=(w.alloc (.cells #[.pointer none] 116)).alloc (.cells #[(0:Int)] 29):=⟨_,rfl⟩;have hb1:Below w w W1:=zcd;have h0:W1.heap[w.heap.size]?=some (.cells #[.pointer none] 116 (0,0)):=by rw [hW1];exact eL _ _ _
 have hg1:=(MK (w:=w) (w':=W1) (a:=⟨0,0,none⟩) (hb1.block _ hgl)).trans hg;have HA:Hid (() 42 #[.iface 116 e,.iface 118 w] W1 fun ev w'=>ev = .returned true/\Below W1 (W1.setCell w e) w'):=FC e w _ W1 hg1 h0;have HW1:Hid _:=hW1;go_enter func24,ntmps24;go_wp2_with fail;rw [<- HW1.out];refine MC HA.out ?_;rintro ev w2 ⟨rfl,hb2⟩;have oo:=aa W1 w 0 e;have r0:=MO W1 w 0 _ _ e h0;have hl0:=(Ms.1 h0).1;have r2:=(hb2.block w hl0).trans r0;have t0:w2.cell? w=some ↑e:=by rw [My w2 _ _ _ _ _ r2];rfl
 have e1:=(hb1.block e hel).trans he;have e2:=(hb2.block e (by have:=hb1.size;omega)).trans ((oo.block e zaa).trans e1);have t1:w2.cell? e=some ↑(c:Int):=by rw [My w2 _ _ _ _ _ e2];rfl
 have t2:w2.cell? ⟨e,1,none⟩=some ↑(l:Int):=by rw [My w2 _ _ _ _ _ e2];rfl
 have HB:Hid (Below w w w2):=(oo.below hb1 (Mt _)).trans (hb2.mono hb1.size);clear hb2 oo r0 r2 e1 e2;dsimp only;go_wp2_with fail
 go_quiet (fail)
 go_wp2;go_ret2;exact ⟨rfl,OJ HB.out _⟩
theorem Ae (w:World):() 24 #[.nilIface] w fun ev w'=>ev = .returned (.tuple #[(0:Int),(0:Int)])/\Below w w w':=by
 go_enter func24,ntmps24;go_wp2;go_ret2;exact ⟨rfl,((Mw _ _).alloc (Mt _) _).alloc zad _⟩
theorem Dr (t:Addr) (w:World):(ReflectliteValue.unpack (.iface 121 (.pointer (some t)))).run prog w = .ok (.agg #[.pointer (some ⟨9,121,none⟩),w,.int .u64 150]) (w.alloc (.cells #[.pointer (some t)] 121)):=zab
theorem Dq (c:Int) (w:World):(ReflectliteValue.unpack (.iface 29 (.int .i64 c))).run prog w = .ok (.agg #[.pointer (some ⟨9,29,none⟩),w,.int .u64 130]) (w.alloc (.cells #[(c:Int)] 29)):=zab
theorem KD (a:Addr) (w:World):(ReflectliteValue.methodAny (ReflectliteValue.valueError "reflectlite.Value.Type" 0) (fun t _ _ _=>ReflectliteType.toType t) #[.agg #[.pointer (some ⟨9,121,none⟩),.pointer (some a),.int .u64 150]]).run prog w = .ok (.iface 262 (.agg #[.pointer (some ⟨9,121,none⟩)])) w:=zab
theorem ID (w:World):((ReflectliteType.abiMethod fun t=>(fun a:Nat=>Value.int IntKind.u8 (a:Int)) <$> Rtype.kind t) #[.pointer (some ⟨9,121,none⟩)]).run prog w = .ok (.int .u8 22) w:=zab
theorem IC (w:World):((ReflectliteType.abiMethod fun t=>(fun a:Nat=>Value.int IntKind.u8 (a:Int)) <$> Rtype.kind t) #[.pointer (some ⟨9,29,none⟩)]).run prog w = .ok (.int .u8 2) w:=zab
theorem Iy (w:World):(ReflectliteType.method ReflectliteType.elem #[.agg #[.pointer (some ⟨9,121,none⟩)]]).run prog w = .ok (.iface 262 (.agg #[.pointer (some ⟨9,29,none⟩)])) w:=zab
theorem IA (w:World) : (ReflectliteType.relation "Implements" ReflectliteType.implements_ #[.agg #[.pointer (some ⟨9,29,none⟩)],.iface 262 (.agg #[.pointer (some ⟨9,61,none⟩)])]).run prog w = .ok (.bool true) w:=zab
theorem yi (v:Value) (w:World):(ReflectliteType.typeOf #[.iface 29 v]).run prog w = .ok (.iface 262 (.agg #[.pointer (some ⟨9,29,none⟩)])) w:=zab
theorem Dn (w:World) : (ReflectliteType.relation "AssignableTo" ReflectliteType.assignableTo #[.agg #[.pointer (some ⟨9,29,none⟩)],.iface 262 (.agg #[.pointer (some ⟨9,29,none⟩)])]).run prog w = .ok (.bool true) w:=zab
theorem Dp (w:World) : (ReflectliteType.relation "AssignableTo" ReflectliteType.assignableTo #[.agg #[.pointer (some ⟨9,29,none⟩)],.iface 262 (.agg #[.pointer (some ⟨9,116,none⟩)])]).run prog w = .ok (.bool false) w:=zab
theorem yh (a:Addr) (w:World):(ReflectliteValue.parts (.agg #[.pointer (some ⟨9,121,none⟩),.pointer (some a),.int .u64 150])).run prog w = .ok (some (121,a,150)) w:=zab
theorem Fu (a:Addr) (w:World):(ReflectliteValue.parts (.agg #[.pointer (some ⟨9,29,none⟩),.pointer (some a),.int .u64 130])).run prog w = .ok (some (29,a,130)) w:=zab
theorem Ft (a:Addr) (w:World):(ReflectliteValue.parts (.agg #[.pointer (some ⟨9,29,none⟩),.pointer (some a),.int .u64 386])).run prog w = .ok (some (29,a,386)) w:=zab
theorem Fs (w:World):(Rtype.elem? 121).run prog w = .ok (some 29) w:=zab
theorem L7 (p:Addr) (w:World):(ReflectliteValue.mk 29 p ReflectliteValue.flagAddr).run prog w = .ok (.agg #[.pointer (some ⟨9,29,none⟩),.pointer (some p),.int .u64 386]) w:=zab
theorem Fq (w:World):(Rtype.directlyAssignable 29 29).run prog w = .ok true w:=zab
theorem IB (a p:Addr) (W:World) (ha:W.cell? a=some (.pointer (some p))):(ReflectliteValue.method (ReflectliteValue.valueError "reflectlite.Value.IsNil" 0) ReflectliteValue.isNil #[.agg #[.pointer (some ⟨9,121,none⟩),.pointer (some a),.int .u64 150]]).run prog W = .ok (.bool false) W:=by
 rw [rl_method];simp only [Sem.run_bind,yh,Result.andThen];simp [ReflectliteValue.isNil,loadVar,isAgg,underlying,underlying121,ha,Result.andThen]
theorem Iz (a p:Addr) (W:World) (ha:W.cell? a=some (.pointer (some p))):(ReflectliteValue.method (ReflectliteValue.valueError "reflectlite.Value.Elem" 0) ReflectliteValue.elem #[.agg #[.pointer (some ⟨9,121,none⟩),.pointer (some a),.int .u64 150]]).run prog W = .ok (.agg #[.pointer (some ⟨9,29,none⟩),.pointer (some p),.int .u64 386]) W:=by
 rw [rl_method];simp only [Sem.run_bind,yh,Result.andThen];simp [ReflectliteValue.elem,loadVar,isAgg,underlying,underlying121,ha,Result.andThen,Fs,L7]
theorem Lu (ta b:Addr) (c:Int) (old:Value) (W:World) (hb:W.cell? b=some ↑(c:Int)) (ht:W.cell? ta=some old) (hf:W.frozen? ta=false):(ReflectliteValue.set #[.agg #[.pointer (some ⟨9,29,none⟩),.pointer (some ta),.int .u64 386],.agg #[.pointer (some ⟨9,29,none⟩),.pointer (some b),.int .u64 130]]).run prog W = .ok (.tuple #[]) (W.setCell ta (.int .i64 c)):=by
 delta ReflectliteValue.set
 rw [zU];simp only [Sem.run_bind,Ft,Fu,Result.andThen];simp [ReflectliteValue.flagAddr,loadVar,isAgg,underlying,underlying29,hb,Result.andThen,Fq,storeVar,Value.cells,storeCells,Addr.add];rw [Rl prog W ta _ _ zae];simp [ht,hf]
theorem Mn (v:Value) (xT:TypeId) (w:World):(Instr.typeAssert (.iface 29 v) xT 267 true).run prog w = .ok (.tuple #[.nilIface,false]) w:=run_typeAssert_lacksB underlying267 zab zab v xT w
theorem GC (v:Value) (xT:TypeId) (w:World):(Instr.typeAssert (.iface 29 v) xT 270 true).run prog w = .ok (.tuple #[.nilIface,false]) w:=run_typeAssert_lacksB underlying270 zab zab v xT w
theorem Ei (v:Value) (xT:TypeId) (w:World):(Instr.typeAssert (.iface 29 v) xT 271 true).run prog w = .ok (.tuple #[.nilIface,false]) w:=run_typeAssert_lacksB underlying271 zab zab v xT w
theorem IH (c:Int) (t:Nat) (w:World) (hg:w.cell? ⟨0,0,none⟩=some (.iface 262 (.agg #[.pointer (some ⟨9,61,none⟩)]))) :
  () 42 #[.iface 29 (.int .i64 c),.iface 118 t] w fun ev w'=>ev = .returned false/\Below w w w':=by
 have hgl:0<w.heap.size:=MQ _ _ hg;have x1:=@run_callFunc_extern prog 68 _ (fun args=>ReflectliteValue.unpack (args.getD 0 (.tuple #[]))) func68 zab zab zab zab;have x2:=@run_callFunc_extern prog 69 _ (ReflectliteValue.methodAny (ReflectliteValue.valueError "reflectlite.Value.Type" 0) (fun t _ _ _=>ReflectliteType.toType t)) func69 zab zab zab zab;have x3:=@run_callFunc_extern prog 70 _ (ReflectliteValue.method (ReflectliteValue.valueError "reflectlite.Value.IsNil" 0) ReflectliteValue.isNil) func70 zab zab zab zab;have x4:=@run_callFunc_extern prog 318 _ (ReflectliteType.abiMethod fun t=>do pure (.int .u8 (<- Rtype.kind t))) func318 zab zab zab zab;have x5:=@run_callFunc_extern prog 341 _ (ReflectliteType.method ReflectliteType.elem) func341 zab zab zab zab;have x6:=@run_callFunc_extern prog 342 _ (ReflectliteType.relation "Implements" ReflectliteType.implements_) func342 zab zab zab zab;have x7:=@run_callFunc_extern prog 109 _ (ReflectliteType.typeOf) func109 zab zab zab zab;have x8:=@run_callFunc_extern prog 339 _ (ReflectliteType.relation "AssignableTo" ReflectliteType.assignableTo) func339 zab zab zab zab;have x9:=@run_callFunc_extern prog 110 _ (ReflectliteValue.method (ReflectliteValue.valueError "reflectlite.Value.Elem" 0) ReflectliteValue.elem) func110 zab zab zab zab;have x10:=@run_callFunc_extern prog 111 _ (ReflectliteValue.set) func111 zab zab zab zab;have y1:=yi;have y2:=qT;have y3:=Dp;have u1:=Mn;have u2:=GC;have u3:=Ei;have y5:=ui;have y6:=Fz;have y7:=AJ;have y8:=AH;have y9:=AI;have y10:=CH;have y11:=CG;have y12:=CD;have y13:=CE;have z1:=CF ⟨w,0,none⟩ ⟨t,0,none⟩ ((w.alloc (.cells #[t] 118)).alloc (.cells #[.pointer (some ⟨9,118,none⟩),w,.int .u64 150] 182)) zad;have hg2:((w.alloc (.cells #[t] 118)).alloc (.cells #[.pointer (some ⟨9,118,none⟩),w,.int .u64 150] 182)).cell? ⟨0,0,none⟩=some (.iface 262 (.agg #[.pointer (some ⟨9,61,none⟩)])):=by
  exact zeD
 go_enter func42,ntmps42;go_wp2;refine Qa 1 ?_;rw [QJ];go_wp2;go_ret;refine ⟨rfl,?_⟩;exact (((Mw w w).alloc (Mt _) _).alloc zad _).alloc zaf _
theorem FB (c:Int) (t:Nat) (old:Value) (w:World) (hg:w.cell? ⟨0,0,none⟩=some (.iface 262 (.agg #[.pointer (some ⟨9,61,none⟩)]))) (ht:w.heap[t]?=some (.cells #[old] 29 (0,0))) :
  () 42 #[.iface 29 (.int .i64 c),.iface 121 t] w fun ev w'=>ev = .returned true/\Below w (w.setCell t (.int .i64 c)) w':=by
 have ht0:w.cell? t=some old:=by rw [My w _ _ _ _ _ ht];rfl
 have hf0:w.frozen? ⟨t,0,none⟩=false:=by simp [World.frozen?,ht]
 have hgl:0<w.heap.size:=MQ _ _ hg;have htl:t<w.heap.size:=MQ _ _ ht0;have x1:=@run_callFunc_extern prog 68 _ (fun args=>ReflectliteValue.unpack (args.getD 0 (.tuple #[]))) func68 zab zab zab zab;have x2:=@run_callFunc_extern prog 69 _ (ReflectliteValue.methodAny (ReflectliteValue.valueError "reflectlite.Value.Type" 0) (fun t _ _ _=>ReflectliteType.toType t)) func69 zab zab zab zab;have x3:=@run_callFunc_extern prog 70 _ (ReflectliteValue.method (ReflectliteValue.valueError "reflectlite.Value.IsNil" 0) ReflectliteValue.isNil) func70 zab zab zab zab;have x4:=@run_callFunc_extern prog 318 _ (ReflectliteType.abiMethod fun t=>do pure (.int .u8 (<- Rtype.kind t))) func318 zab zab zab zab;have x5:=@run_callFunc_extern prog 341 _ (ReflectliteType.method ReflectliteType.elem) func341 zab zab zab zab;have x6:=@run_callFunc_extern prog 342 _ (ReflectliteType.relation "Implements" ReflectliteType.implements_) func342 zab zab zab zab;have x7:=@run_callFunc_extern prog 109 _ (ReflectliteType.typeOf) func109 zab zab zab zab;have x8:=@run_callFunc_extern prog 339 _ (ReflectliteType.relation "AssignableTo" ReflectliteType.assignableTo) func339 zab zab zab zab;have x9:=@run_callFunc_extern prog 110 _ (ReflectliteValue.method (ReflectliteValue.valueError "reflectlite.Value.Elem" 0) ReflectliteValue.elem) func110 zab zab zab zab;have x10:=@run_callFunc_extern prog 111 _ (ReflectliteValue.set) func111 zab zab zab zab;have y1:=yi;have y2:=qT;have y3:=Dn;have y4:=Dq;have y5:=Dr;have y6:=KD;have y7:=AJ;have y8:=AH;have y9:=AI;have y10:=ID;have y11:=IC;have y12:=Iy;have y13:=IA;have z1:=IB ⟨w,0,none⟩ ⟨t,0,none⟩ ((w.alloc (.cells #[t] 121)).alloc (.cells #[.pointer (some ⟨9,121,none⟩),w,.int .u64 150] 182)) zad;have hg2:((w.alloc (.cells #[t] 121)).alloc (.cells #[.pointer (some ⟨9,121,none⟩),w,.int .u64 150] 182)).cell? ⟨0,0,none⟩=some (.iface 262 (.agg #[.pointer (some ⟨9,61,none⟩)])):=by
  exact zeD
 have z2:=Iz ⟨w,0,none⟩ ⟨t,0,none⟩ (((w.alloc (.cells #[t] 121)).alloc (.cells #[.pointer (some ⟨9,121,none⟩),w,.int .u64 150] 182)).alloc (.cells #[.pointer (some ⟨9,121,none⟩),w,.int .u64 150] 182)) zcq;have z3:=Lu ⟨t,0,none⟩ ⟨w.heap.size+1+1+1,0,none⟩ c old ((((w.alloc (.cells #[t] 121)).alloc (.cells #[.pointer (some ⟨9,121,none⟩),w,.int .u64 150] 182)).alloc (.cells #[.pointer (some ⟨9,121,none⟩),w,.int .u64 150] 182)).alloc (.cells #[(c:Int)] 29))
  zck
  zbW
  zbV
 go_enter func42,ntmps42;go_wp2;refine Qa 1 ?_;rw [QJ];go_wp2;go_ret;refine ⟨rfl,?_⟩;exact zT ht (((((Mw w w).alloc (Mt _) _).alloc zad _).alloc zaf _).alloc zaf _)
theorem sY (c:Int) (w:World) (hg:w.cell? ⟨0,0,none⟩=some (.iface 262 (.agg #[.pointer (some ⟨9,61,none⟩)]))) :
  () 24 #[.iface 29 (.int .i64 c)] w fun ev w'=>ev = .returned (.tuple #[(c:Int),(0:Int)])/\Below w w w':=by
 have hgl:0<w.heap.size:=MQ _ _ hg;obtain ⟨W1,hW1⟩:∃ y,y=(w.alloc (.cells #[.pointer none] 116)).alloc (.cells #[(0:Int)] 29):=⟨_,rfl⟩;have hb1:Below w w W1:=zcd;have h1:W1.heap[w.heap.size+1]?=some (.cells #[(0:Int)] 29 (0,0)):=by rw [hW1];exact bQ _ _ _
 have hg1:=(MK (w:=w) (w':=W1) (a:=⟨0,0,none⟩) (hb1.block _ hgl)).trans hg;have HA:Hid _:=IH c w W1 hg1;have HW1:Hid _:=hW1;go_enter func24,ntmps24;go_wp2_with fail;rw [<- HW1.out];refine MC HA.out ?_;rintro ev w2 ⟨rfl,hb2⟩;have hl1:=(Ms.1 h1).1;have h2:=(hb2.block _ hl1).trans h1;have hg2:=(MK (w:=W1) (w':=w2) (a:=⟨0,0,none⟩) (hb2.block _ (MR hgl hb1.size))).trans hg1;have HB2:Hid (Below w w w2):=hb1.trans (hb2.mono hb1.size);have HC:Hid _:=FB c (w.heap.size+1) _ w2 hg2 h2;clear hb2 hg2;dsimp only;go_wp2_with fail;refine MC HC.out ?_;rintro ev w3 ⟨rfl,hb3⟩;have oo:=aa w2 (w.heap.size+1) 0 (.int .i64 c);have r0:=MO w2 (w.heap.size+1) 0 _ _ (.int .i64 c) h2;have hl2:=(Ms.1 h2).1;have r2:=(hb3.block (w.heap.size+1) hl2).trans r0;have t0:w3.cell? ⟨w.heap.size+1,0,none⟩=some ↑(c:Int):=by rw [My w3 _ _ _ _ _ r2];rfl
 have HB:Hid (Below w w w3):=(oo.below HB2.out zaa).trans (hb3.mono HB2.out.size);clear hb3 oo r0 r2 h2;dsimp only;go_wp2_with fail;go_ret2;exact ⟨rfl,HB.out⟩
