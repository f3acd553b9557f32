import Derived.Test.YtibbecdlllchkaaGreatDoorM15
import Derived.RowKitTokens
set_option maxRecDepth 100000
set_option maxHeartbeats 8000000
namespace Go.Proofs.YtibbecdlllchkaaGreatDoor
variable {zp:Prop}
theorem zeE(h:zp:=by
 rw[Qm _ _ ⟨0,0,none⟩ zbF,Qm _ _ ⟨0,0,none⟩ V5];exact hg):zp:=h
theorem zbF(h:zp:=by simp only[World.size_alloc];exact UC V5):zp:=h
theorem zb2(h:zp:=by rw[Ro _ _ ⟨t,0,none⟩ (by simp;omega),Ro _ _ ⟨t,0,none⟩ (by simp;omega),Ro _ _ ⟨t,0,none⟩ (by simp;omega),Ro _ _ ⟨t,0,none⟩ (UL Wz)];exact hf0):zp:=h
theorem zb3(h:zp:=by rw[Qm _ _ ⟨t,0,none⟩ (by simp;omega),Qm _ _ ⟨t,0,none⟩ (by simp;omega),Qm _ _ ⟨t,0,none⟩ (by simp;omega),Qm _ _ ⟨t,0,none⟩ Wz];exact ht0):zp:=h
theorem zck(h:zp:=by rw[Vj];exact((Pq _ _).alloc (Po _) _).alloc (by simp) _):zp:=h
theorem zcs(h:zp:=by rw[World.cell?_alloc_at _ _ _ _ (by simp)];rfl):zp:=h
theorem zcy(h:zp:=by rw[Qm _ _ ⟨w,0,none⟩ (by simp;omega)];simp):zp:=h
open Tryz
section
open Go.RowKit Go.Extern.Stop Go.Stop Go.Extern
theorem vU(t:Addr)(w:World):(ReflectliteValue.unpack (.iface 75 (.pointer (some t)))).run prog w=.ok (.agg #[.pointer (some ⟨9,75,none⟩),w,.int .u64 150]) (w.alloc (.cells #[.pointer (some t)] 75)):=zab
theorem FF(e:Addr)(w:World):(ReflectliteValue.unpack (.iface 73 (.pointer (some e)))).run prog w=.ok (.agg #[.pointer (some ⟨9,73,none⟩),w,.int .u64 150]) (w.alloc (.cells #[.pointer (some e)] 73)):=zab
theorem IF(a:Addr)(w:World):(ReflectliteValue.methodAny (ReflectliteValue.valueError "reflectlite.Value.Type" 0) (fun t _ _ _=>ReflectliteType.toType t) #[.agg #[.pointer (some ⟨9,75,none⟩),.pointer (some a),.int .u64 150]]).run prog w=.ok (.iface 211 (.agg #[.pointer (some ⟨9,75,none⟩)])) w:=zab
theorem CA(h:Value)(w:World):(Go.method 596 211 (.agg #[h]) "Kind").run prog w=.ok (316,h) w:=zab
theorem Cy(h:Value)(w:World):(Go.method 596 211 (.agg #[h]) "Elem").run prog w=.ok (329,.agg #[h]) w:=zab
theorem Cz(h:Value)(w:World):(Go.method 596 211 (.agg #[h]) "Implements").run prog w=.ok (330,.agg #[h]) w:=zab
theorem sF(h:Value)(w:World):(Go.method 596 211 (.agg #[h]) "AssignableTo").run prog w=.ok (327,.agg #[h]) w:=zab
theorem EE(w:World):((ReflectliteType.abiMethod fun t=>(fun a:Nat=>Value.int IntKind.u8 (a:Int)) <$> Rtype.kind t) #[.pointer (some ⟨9,75,none⟩)]).run prog w=.ok (.int .u8 22) w:=zab
theorem ED(w:World):((ReflectliteType.abiMethod fun t=>(fun a:Nat=>Value.int IntKind.u8 (a:Int)) <$> Rtype.kind t) #[.pointer (some ⟨9,73,none⟩)]).run prog w=.ok (.int .u8 22) w:=zab
theorem EA(w:World):(ReflectliteType.method ReflectliteType.elem #[.agg #[.pointer (some ⟨9,75,none⟩)]]).run prog w=.ok (.iface 211 (.agg #[.pointer (some ⟨9,73,none⟩)])) w:=zab
theorem EB(w:World): (ReflectliteType.relation "Implements" ReflectliteType.implements_ #[.agg #[.pointer (some ⟨9,73,none⟩)],.iface 211 (.agg #[.pointer (some ⟨9,42,none⟩)])]).run prog w=.ok (.bool true) w:=zab
theorem IG(v:Value)(w:World):(ReflectliteType.typeOf #[.iface 73 v]).run prog w=.ok (.iface 211 (.agg #[.pointer (some ⟨9,73,none⟩)])) w:=zab
theorem FE(w:World): (ReflectliteType.relation "AssignableTo" ReflectliteType.assignableTo #[.agg #[.pointer (some ⟨9,73,none⟩)],.iface 211 (.agg #[.pointer (some ⟨9,73,none⟩)])]).run prog w=.ok (.bool true) w:=zab
theorem Aa(a:Addr)(w:World):(ReflectliteValue.parts (.agg #[.pointer (some ⟨9,75,none⟩),.pointer (some a),.int .u64 150])).run prog w=.ok (some (75,a,150)) w:=zab
theorem IE(a:Addr)(w:World):(ReflectliteValue.parts (.agg #[.pointer (some ⟨9,73,none⟩),.pointer (some a),.int .u64 150])).run prog w=.ok (some (73,a,150)) w:=zab
theorem ID(a:Addr)(w:World):(ReflectliteValue.parts (.agg #[.pointer (some ⟨9,73,none⟩),.pointer (some a),.int .u64 406])).run prog w=.ok (some (73,a,406)) w:=zab
theorem IC(w:World):(Rtype.elem? 75).run prog w=.ok (some 73) w:=zab
theorem O3(p:Addr)(w:World):(ReflectliteValue.mk 73 p ReflectliteValue.flagAddr).run prog w=.ok (.agg #[.pointer (some ⟨9,73,none⟩),.pointer (some p),.int .u64 406]) w:=zab
theorem IB(w:World):(Rtype.directlyAssignable 73 73).run prog w=.ok true w:=zab
theorem rl_method(z:Sem Value)(f:TypeId->Addr->Nat->Nat->Sem Value)(v:Value):ReflectliteValue.method z f #[v]=(do match <- ReflectliteValue.parts v with|none=>z|some (t,a,fl)=>f t a fl (fl % 32)):=rfl
theorem EC(a p:Addr)(W:World)(ha:W.cell? a=some (.pointer (some p))):(ReflectliteValue.method (ReflectliteValue.valueError "reflectlite.Value.IsNil" 0) ReflectliteValue.isNil #[.agg #[.pointer (some ⟨9,75,none⟩),.pointer (some a),.int .u64 150]]).run prog W=.ok (.bool false) W:=by
 rw[rl_method];simp only[Sem.run_bind,Aa,Result.andThen];simp[ReflectliteValue.isNil,loadVar,isAgg,underlying,underlying75,ha,Result.andThen]
theorem K9(a p:Addr)(W:World)(ha:W.cell? a=some (.pointer (some p))):(ReflectliteValue.method (ReflectliteValue.valueError "reflectlite.Value.Elem" 0) ReflectliteValue.elem #[.agg #[.pointer (some ⟨9,75,none⟩),.pointer (some a),.int .u64 150]]).run prog W=.ok (.agg #[.pointer (some ⟨9,73,none⟩),.pointer (some p),.int .u64 406]) W:=by
 rw[rl_method];simp only[Sem.run_bind,Aa,Result.andThen];simp[ReflectliteValue.elem,loadVar,isAgg,underlying,underlying75,ha,Result.andThen,IC,O3]
theorem BL(a b:Value)(h1:Value->Value->Sem Value)(h2:Array Value->Sem Value):ReflectliteValue.set.match_3 (fun _=>Sem Value) #[a,b] h1 h2=h1 a b:=rfl
theorem Ov(ta b e:Addr)(old:Value)(W:World)(hb:W.cell? b=some (.pointer (some e)))(ht:W.cell? ta=some old)(hf:W.frozen? ta=false):(ReflectliteValue.set #[.agg #[.pointer (some ⟨9,73,none⟩),.pointer (some ta),.int .u64 406],.agg #[.pointer (some ⟨9,73,none⟩),.pointer (some b),.int .u64 150]]).run prog W=.ok (.tuple #[]) (W.setCell ta (.pointer (some e))):=by
 delta ReflectliteValue.set
 rw[BL];simp only[Sem.run_bind,ID,IE,Result.andThen];simp[ReflectliteValue.flagAddr,loadVar,isAgg,underlying,underlying73,hb,Result.andThen,IB,storeVar,Value.cells,storeCells,Addr.add];rw[UH prog W ta _ _ zae];simp[ht,hf]
theorem BK{w w4:World}{t:Nat}{c:Array Value}{ty:TypeId}{v:Value}(ht:w.heap[t]?=some (.cells c ty (0,0)))(hb:Below w w w4):Below w (w.setCell t v) (w4.setCell t v):=by
 have oa:=ag w t 0 v;have ob:=ag w4 t 0 v;refine⟨ob.os.trans (hb.os.trans oa.os.symm),ob.tape.trans (hb.tape.trans oa.tape.symm),ob.output.trans (hb.output.trans oa.output.symm),by rw[oa.size,ob.size];exact hb.size,fun k hk=>?_⟩;by_cases e:k=t
 ·subst e;rw[PR w k 0 _ _ v ht,PR w4 k 0 _ _ v ((hb.block k hk).trans ht)]
 ·rw[ob.block k e,oa.block k e,hb.block k hk]
theorem II(e t:Nat)(old:Value)(w:World)(hg:w.cell? ⟨0,0,none⟩=some (.iface 211 (.agg #[.pointer (some ⟨9,42,none⟩)])))(ht:w.heap[t]?=some (.cells #[old] 73 (0,0))):
  () 26 #[.iface 73 e,.iface 75 t] w fun ev w'=>ev=.returned true/\Below w (w.setCell t e) w':=by
 have ht0:w.cell? t=some old:=by rw[Pt w _ _ _ _ _ ht];rfl
 have hf0:w.frozen? t=false:=by simp[World.frozen?,ht]
 have V5:0<w.heap.size:=PW _ _ hg;have Wz:t<w.heap.size:=PW _ _ ht0;have x1:=@run_callFunc_extern prog 46 _ (fun args=>ReflectliteValue.unpack (args.getD 0 (.tuple #[]))) func46 zab zab zab zab;have x2:=@run_callFunc_extern prog 47 _ (ReflectliteValue.methodAny (ReflectliteValue.valueError "reflectlite.Value.Type" 0) (fun t _ _ _=>ReflectliteType.toType t)) func47 zab zab zab zab;have x3:=@run_callFunc_extern prog 48 _ (ReflectliteValue.method (ReflectliteValue.valueError "reflectlite.Value.IsNil" 0) ReflectliteValue.isNil) func48 zab zab zab zab;have x4:=@run_callFunc_extern prog 316 _ (ReflectliteType.abiMethod fun t=>do pure (.int .u8 (<- Rtype.kind t))) func316 zab zab zab zab;have x5:=@run_callFunc_extern prog 329 _ (ReflectliteType.method ReflectliteType.elem) func329 zab zab zab zab;have x6:=@run_callFunc_extern prog 330 _ (ReflectliteType.relation "Implements" ReflectliteType.implements_) func330 zab zab zab zab;have x7:=@run_callFunc_extern prog 81 _ (ReflectliteType.typeOf) func81 zab zab zab zab;have x8:=@run_callFunc_extern prog 327 _ (ReflectliteType.relation "AssignableTo" ReflectliteType.assignableTo) func327 zab zab zab zab;have x9:=@run_callFunc_extern prog 82 _ (ReflectliteValue.method (ReflectliteValue.valueError "reflectlite.Value.Elem" 0) ReflectliteValue.elem) func82 zab zab zab zab;have x10:=@run_callFunc_extern prog 83 _ (ReflectliteValue.set) func83 zab zab zab zab;have y1:=IG;have y2:=sF;have y3:=FE;have y4:=FF;have y5:=vU;have y6:=IF;have y7:=CA;have y8:=Cy;have y9:=Cz;have y10:=EE;have y11:=ED;have y12:=EA;have y13:=EB;have z1:=EC ⟨w,0,none⟩ ⟨t,0,none⟩ ((w.alloc (.cells #[t] 75)).alloc (.cells #[.pointer (some ⟨9,75,none⟩),w,.int .u64 150] 140)) zad;have hg2:((w.alloc (.cells #[t] 75)).alloc (.cells #[.pointer (some ⟨9,75,none⟩),w,.int .u64 150] 140)).cell? ⟨0,0,none⟩=some (.iface 211 (.agg #[.pointer (some ⟨9,42,none⟩)])):=by
  exact zeE
 have z2:=K9 ⟨w,0,none⟩ ⟨t,0,none⟩ (((w.alloc (.cells #[t] 75)).alloc (.cells #[.pointer (some ⟨9,75,none⟩),w,.int .u64 150] 140)).alloc (.cells #[.pointer (some ⟨9,75,none⟩),w,.int .u64 150] 140)) zcy;have z3:=Ov ⟨t,0,none⟩ ⟨w.heap.size+1+1+1,0,none⟩ ⟨e,0,none⟩ old ((((w.alloc (.cells #[t] 75)).alloc (.cells #[.pointer (some ⟨9,75,none⟩),w,.int .u64 150] 140)).alloc (.cells #[.pointer (some ⟨9,75,none⟩),w,.int .u64 150] 140)).alloc (.cells #[e] 73))
  zcs
  zb3
  zb2
 go_enter func26,ntmps26;go_wp2;refine Tp 1 ?_;rw[T4];go_wp2;go_ret;refine⟨rfl,?_⟩;exact BK ht (((((Pq w w).alloc (Po _) _).alloc zad _).alloc zaf _).alloc zaf _)
theorem uI(e:Nat)(c l:Int)(w:World)(hg:w.cell? ⟨0,0,none⟩=some (.iface 211 (.agg #[.pointer (some ⟨9,42,none⟩)])))(he:w.heap[e]?=some (.cells #[(c:Int),(l:Int)] 77 (0,0))):
  () 15 #[.iface 73 e] w fun ev w'=>ev=.returned (.tuple #[(c:Int),(l:Int)])/\Below w w w':=by
 have V5:0<w.heap.size:=PW _ _ hg;have hel:=(Pn.1 he).1;obtain⟨W1,Vj⟩:∃y,y=(w.alloc (.cells #[.pointer none] 73)).alloc (.cells #[(0:Int)] 29):=⟨_,rfl⟩;have U3:Below w w W1:=zck;have h0:W1.heap[w.heap.size]?=some (.cells #[.pointer none] 73 (0,0)):=by rw[Vj];exact fx _ _ _
 have hg1:=(PN (w:=w) (w':=W1) (a:=⟨0,0,none⟩) (U3.block _ V5)).trans hg;have HA:Hid (() 26 #[.iface 73 e,.iface 75 w] W1 fun ev w'=>ev=.returned true/\Below W1 (W1.setCell w e) w'):=II e w _ W1 hg1 h0;have HW1:Hid _:=Vj;go_enter func15,ntmps15;go_wp2_with fail;rw[<- HW1.out];refine Pw HA.out ?_;rintro ev w2 ⟨rfl,U4⟩;have oo:=ag W1 w 0 e;have r0:=PR W1 w 0 _ _ e h0;have hl0:=(Pn.1 h0).1;have r2:=(U4.block w hl0).trans r0;have t0:w2.cell? w=some ↑e:=by rw[Pt w2 _ _ _ _ _ r2];rfl
 have e1:=(U3.block e hel).trans he;have e2:=(U4.block e (by have:=U3.size;omega)).trans ((oo.block e zaa).trans e1);have t1:w2.cell? e=some ↑(c:Int):=by rw[Pt w2 _ _ _ _ _ e2];rfl
 have t2:w2.cell? (e,1)=some ↑(l:Int):=by rw[Pt w2 _ _ _ _ _ e2];rfl
 have HB:Hid (Below w w w2):=(oo.below U3 (Po _)).trans (U4.mono U3.size);clear U4 oo r0 r2 e1 e2;dsimp only;go_wp2_with fail
 go_quiet(fail)
 go_wp2;go_ret2;exact⟨rfl,RM HB.out _⟩
theorem uJ(w:World):() 15 #[.nilIface] w fun ev w'=>ev=.returned (.tuple #[(0:Int),(0:Int)])/\Below w w w':=by
 go_enter func15,ntmps15;go_wp2;go_ret2;exact⟨rfl,((Pq _ _).alloc (Po _) _).alloc zad _⟩
theorem FC(t:Addr)(w:World):(ReflectliteValue.unpack (.iface 78 (.pointer (some t)))).run prog w=.ok (.agg #[.pointer (some ⟨9,78,none⟩),w,.int .u64 150]) (w.alloc (.cells #[.pointer (some t)] 78)):=zab
theorem FB(c:Int)(w:World):(ReflectliteValue.unpack (.iface 29 (.int .i64 c))).run prog w=.ok (.agg #[.pointer (some ⟨9,29,none⟩),w,.int .u64 130]) (w.alloc (.cells #[(c:Int)] 29)):=zab
theorem Nu(a:Addr)(w:World):(ReflectliteValue.methodAny (ReflectliteValue.valueError "reflectlite.Value.Type" 0) (fun t _ _ _=>ReflectliteType.toType t) #[.agg #[.pointer (some ⟨9,78,none⟩),.pointer (some a),.int .u64 150]]).run prog w=.ok (.iface 211 (.agg #[.pointer (some ⟨9,78,none⟩)])) w:=zab
theorem K7(w:World):((ReflectliteType.abiMethod fun t=>(fun a:Nat=>Value.int IntKind.u8 (a:Int)) <$> Rtype.kind t) #[.pointer (some ⟨9,78,none⟩)]).run prog w=.ok (.int .u8 22) w:=zab
theorem K6(w:World):((ReflectliteType.abiMethod fun t=>(fun a:Nat=>Value.int IntKind.u8 (a:Int)) <$> Rtype.kind t) #[.pointer (some ⟨9,29,none⟩)]).run prog w=.ok (.int .u8 2) w:=zab
theorem K1(w:World):(ReflectliteType.method ReflectliteType.elem #[.agg #[.pointer (some ⟨9,78,none⟩)]]).run prog w=.ok (.iface 211 (.agg #[.pointer (some ⟨9,29,none⟩)])) w:=zab
theorem K4(w:World): (ReflectliteType.relation "Implements" ReflectliteType.implements_ #[.agg #[.pointer (some ⟨9,29,none⟩)],.iface 211 (.agg #[.pointer (some ⟨9,42,none⟩)])]).run prog w=.ok (.bool true) w:=zab
theorem z8(v:Value)(w:World):(ReflectliteType.typeOf #[.iface 29 v]).run prog w=.ok (.iface 211 (.agg #[.pointer (some ⟨9,29,none⟩)])) w:=zab
theorem Fz(w:World): (ReflectliteType.relation "AssignableTo" ReflectliteType.assignableTo #[.agg #[.pointer (some ⟨9,29,none⟩)],.iface 211 (.agg #[.pointer (some ⟨9,29,none⟩)])]).run prog w=.ok (.bool true) w:=zab
theorem FA(w:World): (ReflectliteType.relation "AssignableTo" ReflectliteType.assignableTo #[.agg #[.pointer (some ⟨9,29,none⟩)],.iface 211 (.agg #[.pointer (some ⟨9,73,none⟩)])]).run prog w=.ok (.bool false) w:=zab
theorem z7(a:Addr)(w:World):(ReflectliteValue.parts (.agg #[.pointer (some ⟨9,78,none⟩),.pointer (some a),.int .u64 150])).run prog w=.ok (some (78,a,150)) w:=zab
theorem IA(a:Addr)(w:World):(ReflectliteValue.parts (.agg #[.pointer (some ⟨9,29,none⟩),.pointer (some a),.int .u64 130])).run prog w=.ok (some (29,a,130)) w:=zab
theorem Iz(a:Addr)(w:World):(ReflectliteValue.parts (.agg #[.pointer (some ⟨9,29,none⟩),.pointer (some a),.int .u64 386])).run prog w=.ok (some (29,a,386)) w:=zab
theorem Iy(w:World):(Rtype.elem? 78).run prog w=.ok (some 29) w:=zab
theorem O2(p:Addr)(w:World):(ReflectliteValue.mk 29 p ReflectliteValue.flagAddr).run prog w=.ok (.agg #[.pointer (some ⟨9,29,none⟩),.pointer (some p),.int .u64 386]) w:=zab
theorem Iw(w:World):(Rtype.directlyAssignable 29 29).run prog w=.ok true w:=zab
theorem K5(a p:Addr)(W:World)(ha:W.cell? a=some (.pointer (some p))):(ReflectliteValue.method (ReflectliteValue.valueError "reflectlite.Value.IsNil" 0) ReflectliteValue.isNil #[.agg #[.pointer (some ⟨9,78,none⟩),.pointer (some a),.int .u64 150]]).run prog W=.ok (.bool false) W:=by
 rw[rl_method];simp only[Sem.run_bind,z7,Result.andThen];simp[ReflectliteValue.isNil,loadVar,isAgg,underlying,underlying78,ha,Result.andThen]
theorem K3(a p:Addr)(W:World)(ha:W.cell? a=some (.pointer (some p))):(ReflectliteValue.method (ReflectliteValue.valueError "reflectlite.Value.Elem" 0) ReflectliteValue.elem #[.agg #[.pointer (some ⟨9,78,none⟩),.pointer (some a),.int .u64 150]]).run prog W=.ok (.agg #[.pointer (some ⟨9,29,none⟩),.pointer (some p),.int .u64 386]) W:=by
 rw[rl_method];simp only[Sem.run_bind,z7,Result.andThen];simp[ReflectliteValue.elem,loadVar,isAgg,underlying,underlying78,ha,Result.andThen,Iy,O2]
theorem Ou(ta b:Addr)(c:Int)(old:Value)(W:World)(hb:W.cell? b=some ↑(c:Int))(ht:W.cell? ta=some old)(hf:W.frozen? ta=false):(ReflectliteValue.set #[.agg #[.pointer (some ⟨9,29,none⟩),.pointer (some ta),.int .u64 386],.agg #[.pointer (some ⟨9,29,none⟩),.pointer (some b),.int .u64 130]]).run prog W=.ok (.tuple #[]) (W.setCell ta (.int .i64 c)):=by
 delta ReflectliteValue.set
 rw[BL];simp only[Sem.run_bind,Iz,IA,Result.andThen];simp[ReflectliteValue.flagAddr,loadVar,isAgg,underlying,underlying29,hb,Result.andThen,Iw,storeVar,Value.cells,storeCells,Addr.add];rw[UH prog W ta _ _ zae];simp[ht,hf]
theorem Pj(v:Value)(xT:TypeId)(w:World):(Instr.typeAssert (.iface 29 v) xT 216 true).run prog w=.ok (.tuple #[.nilIface,false]) w:=run_typeAssert_lacksB underlying216 zab zab v xT w
theorem JP(v:Value)(xT:TypeId)(w:World):(Instr.typeAssert (.iface 29 v) xT 219 true).run prog w=.ok (.tuple #[.nilIface,false]) w:=run_typeAssert_lacksB underlying219 zab zab v xT w
theorem Gz(v:Value)(xT:TypeId)(w:World):(Instr.typeAssert (.iface 29 v) xT 220 true).run prog w=.ok (.tuple #[.nilIface,false]) w:=run_typeAssert_lacksB underlying220 zab zab v xT w
theorem La(c:Int)(t:Nat)(w:World)(hg:w.cell? ⟨0,0,none⟩=some (.iface 211 (.agg #[.pointer (some ⟨9,42,none⟩)]))):
  () 26 #[.iface 29 (.int .i64 c),.iface 75 t] w fun ev w'=>ev=.returned false/\Below w w w':=by
 have V5:0<w.heap.size:=PW _ _ hg;have x1:=@run_callFunc_extern prog 46 _ (fun args=>ReflectliteValue.unpack (args.getD 0 (.tuple #[]))) func46 zab zab zab zab;have x2:=@run_callFunc_extern prog 47 _ (ReflectliteValue.methodAny (ReflectliteValue.valueError "reflectlite.Value.Type" 0) (fun t _ _ _=>ReflectliteType.toType t)) func47 zab zab zab zab;have x3:=@run_callFunc_extern prog 48 _ (ReflectliteValue.method (ReflectliteValue.valueError "reflectlite.Value.IsNil" 0) ReflectliteValue.isNil) func48 zab zab zab zab;have x4:=@run_callFunc_extern prog 316 _ (ReflectliteType.abiMethod fun t=>do pure (.int .u8 (<- Rtype.kind t))) func316 zab zab zab zab;have x5:=@run_callFunc_extern prog 329 _ (ReflectliteType.method ReflectliteType.elem) func329 zab zab zab zab;have x6:=@run_callFunc_extern prog 330 _ (ReflectliteType.relation "Implements" ReflectliteType.implements_) func330 zab zab zab zab;have x7:=@run_callFunc_extern prog 81 _ (ReflectliteType.typeOf) func81 zab zab zab zab;have x8:=@run_callFunc_extern prog 327 _ (ReflectliteType.relation "AssignableTo" ReflectliteType.assignableTo) func327 zab zab zab zab;have x9:=@run_callFunc_extern prog 82 _ (ReflectliteValue.method (ReflectliteValue.valueError "reflectlite.Value.Elem" 0) ReflectliteValue.elem) func82 zab zab zab zab;have x10:=@run_callFunc_extern prog 83 _ (ReflectliteValue.set) func83 zab zab zab zab;have y1:=z8;have y2:=sF;have y3:=FA;have u1:=Pj;have u2:=JP;have u3:=Gz;have y5:=vU;have y6:=IF;have y7:=CA;have y8:=Cy;have y9:=Cz;have y10:=EE;have y11:=ED;have y12:=EA;have y13:=EB;have z1:=EC ⟨w,0,none⟩ ⟨t,0,none⟩ ((w.alloc (.cells #[t] 75)).alloc (.cells #[.pointer (some ⟨9,75,none⟩),w,.int .u64 150] 140)) zad;have hg2:((w.alloc (.cells #[t] 75)).alloc (.cells #[.pointer (some ⟨9,75,none⟩),w,.int .u64 150] 140)).cell? ⟨0,0,none⟩=some (.iface 211 (.agg #[.pointer (some ⟨9,42,none⟩)])):=by
  exact zeE
 go_enter func26,ntmps26;go_wp2;refine Tp 1 ?_;rw[T4];go_wp2;go_ret;refine⟨rfl,?_⟩;exact(((Pq w w).alloc (Po _) _).alloc zad _).alloc zaf _
theorem IH(c:Int)(t:Nat)(old:Value)(w:World)(hg:w.cell? ⟨0,0,none⟩=some (.iface 211 (.agg #[.pointer (some ⟨9,42,none⟩)])))(ht:w.heap[t]?=some (.cells #[old] 29 (0,0))):
  () 26 #[.iface 29 (.int .i64 c),.iface 78 t] w fun ev w'=>ev=.returned true/\Below w (w.setCell t (.int .i64 c)) w':=by
 have ht0:w.cell? t=some old:=by rw[Pt w _ _ _ _ _ ht];rfl
 have hf0:w.frozen? t=false:=by simp[World.frozen?,ht]
 have V5:0<w.heap.size:=PW _ _ hg;have Wz:t<w.heap.size:=PW _ _ ht0;have x1:=@run_callFunc_extern prog 46 _ (fun args=>ReflectliteValue.unpack (args.getD 0 (.tuple #[]))) func46 zab zab zab zab;have x2:=@run_callFunc_extern prog 47 _ (ReflectliteValue.methodAny (ReflectliteValue.valueError "reflectlite.Value.Type" 0) (fun t _ _ _=>ReflectliteType.toType t)) func47 zab zab zab zab;have x3:=@run_callFunc_extern prog 48 _ (ReflectliteValue.method (ReflectliteValue.valueError "reflectlite.Value.IsNil" 0) ReflectliteValue.isNil) func48 zab zab zab zab;have x4:=@run_callFunc_extern prog 316 _ (ReflectliteType.abiMethod fun t=>do pure (.int .u8 (<- Rtype.kind t))) func316 zab zab zab zab;have x5:=@run_callFunc_extern prog 329 _ (ReflectliteType.method ReflectliteType.elem) func329 zab zab zab zab;have x6:=@run_callFunc_extern prog 330 _ (ReflectliteType.relation "Implements" ReflectliteType.implements_) func330 zab zab zab zab;have x7:=@run_callFunc_extern prog 81 _ (ReflectliteType.typeOf) func81 zab zab zab zab;have x8:=@run_callFunc_extern prog 327 _ (ReflectliteType.relation "AssignableTo" ReflectliteType.assignableTo) func327 zab zab zab zab;have x9:=@run_callFunc_extern prog 82 _ (ReflectliteValue.method (ReflectliteValue.valueError "reflectlite.Value.Elem" 0) ReflectliteValue.elem) func82 zab zab zab zab;have x10:=@run_callFunc_extern prog 83 _ (ReflectliteValue.set) func83 zab zab zab zab;have y1:=z8;have y2:=sF;have y3:=Fz;have y4:=FB;have y5:=FC;have y6:=Nu;have y7:=CA;have y8:=Cy;have y9:=Cz;have y10:=K7;have y11:=K6;have y12:=K1;have y13:=K4;have z1:=K5 ⟨w,0,none⟩ ⟨t,0,none⟩ ((w.alloc (.cells #[t] 78)).alloc (.cells #[.pointer (some ⟨9,78,none⟩),w,.int .u64 150] 140)) zad;have hg2:((w.alloc (.cells #[t] 78)).alloc (.cells #[.pointer (some ⟨9,78,none⟩),w,.int .u64 150] 140)).cell? ⟨0,0,none⟩=some (.iface 211 (.agg #[.pointer (some ⟨9,42,none⟩)])):=by
  exact zeE
 have z2:=K3 ⟨w,0,none⟩ ⟨t,0,none⟩ (((w.alloc (.cells #[t] 78)).alloc (.cells #[.pointer (some ⟨9,78,none⟩),w,.int .u64 150] 140)).alloc (.cells #[.pointer (some ⟨9,78,none⟩),w,.int .u64 150] 140)) zcy;have z3:=Ou ⟨t,0,none⟩ ⟨w.heap.size+1+1+1,0,none⟩ c old ((((w.alloc (.cells #[t] 78)).alloc (.cells #[.pointer (some ⟨9,78,none⟩),w,.int .u64 150] 140)).alloc (.cells #[.pointer (some ⟨9,78,none⟩),w,.int .u64 150] 140)).alloc (.cells #[(c:Int)] 29))
  zcs
  zb3
  zb2
 go_enter func26,ntmps26;go_wp2;refine Tp 1 ?_;rw[T4];go_wp2;go_ret;refine⟨rfl,?_⟩;exact BK ht (((((Pq w w).alloc (Po _) _).alloc zad _).alloc zaf _).alloc zaf _)
theorem uH(c:Int)(w:World)(hg:w.cell? ⟨0,0,none⟩=some (.iface 211 (.agg #[.pointer (some ⟨9,42,none⟩)]))):
  () 15 #[.iface 29 (.int .i64 c)] w fun ev w'=>ev=.returned (.tuple #[(c:Int),(0:Int)])/\Below w w w':=by
 have V5:0<w.heap.size:=PW _ _ hg;obtain⟨W1,Vj⟩:∃y,y=(w.alloc (.cells #[.pointer none] 73)).alloc (.cells #[(0:Int)] 29):=⟨_,rfl⟩;have U3:Below w w W1:=zck;have h1:W1.heap[w.heap.size+1]?=some (.cells #[(0:Int)] 29 (0,0)):=by rw[Vj];exact cA _ _ _
 have hg1:=(PN (w:=w) (w':=W1) (a:=⟨0,0,none⟩) (U3.block _ V5)).trans hg;have HA:Hid _:=La c w W1 hg1;have HW1:Hid _:=Vj;go_enter func15,ntmps15;go_wp2_with fail;rw[<- HW1.out];refine Pw HA.out ?_;rintro ev w2 ⟨rfl,U4⟩;have hl1:=(Pn.1 h1).1;have h2:=(U4.block _ hl1).trans h1;have hg2:=(PN (w:=W1) (w':=w2) (a:=⟨0,0,none⟩) (U4.block _ (PY V5 U3.size))).trans hg1;have ZU:Hid (Below w w w2):=U3.trans (U4.mono U3.size);have HC:Hid _:=IH c (w.heap.size+1) _ w2 hg2 h2;clear U4 hg2;dsimp only;go_wp2_with fail;refine Pw HC.out ?_;rintro ev w3 ⟨rfl,VA⟩;have oo:=ag w2 (w.heap.size+1) 0 (.int .i64 c);have r0:=PR w2 (w.heap.size+1) 0 _ _ (.int .i64 c) h2;have hl2:=(Pn.1 h2).1;have r2:=(VA.block (w.heap.size+1) hl2).trans r0;have t0:w3.cell? ↑(w.heap.size+1)=some ↑(c:Int):=by rw[Pt w3 _ _ _ _ _ r2];rfl
 have HB:Hid (Below w w w3):=(oo.below ZU.out zaa).trans (VA.mono ZU.out.size);clear VA oo r0 r2 h2;dsimp only;go_wp2_with fail;go_ret2;exact⟨rfl,HB.out⟩
