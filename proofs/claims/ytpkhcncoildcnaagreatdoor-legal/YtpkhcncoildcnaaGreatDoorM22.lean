import Derived.Test.YtpkhcncoildcnaaGreatDoorM17
import Derived.RowKitTokens
set_option maxRecDepth 100000
set_option maxHeartbeats 8000000
namespace Go.Proofs.YtpkhcncoildcnaaGreatDoor
variable {zp:Prop}
theorem zeR(h:zp:=by
 rw[Pf _ _ ⟨0,0,none⟩ zbF,Pf _ _ ⟨0,0,none⟩ UN];exact hg):zp:=h
theorem zbF(h:zp:=by simp only[World.size_alloc];exact Tt UN):zp:=h
theorem zb3(h:zp:=by rw[Qm _ _ ⟨t,0,none⟩ (by simp;omega),Qm _ _ ⟨t,0,none⟩ (by simp;omega),Qm _ _ ⟨t,0,none⟩ (by simp;omega),Qm _ _ ⟨t,0,none⟩ (TB Vo)];exact hf0):zp:=h
theorem zb4(h:zp:=by rw[Pf _ _ ⟨t,0,none⟩ (by simp;omega),Pf _ _ ⟨t,0,none⟩ (by simp;omega),Pf _ _ ⟨t,0,none⟩ (by simp;omega),Pf _ _ ⟨t,0,none⟩ Vo];exact ht0):zp:=h
theorem zcl(h:zp:=by rw[Uj];exact((Oy _ _).alloc (Ow _) _).alloc (by simp) _):zp:=h
theorem zcs(h:zp:=by rw[World.cell?_alloc_at _ _ _ _ (by simp)];rfl):zp:=h
theorem zcy(h:zp:=by rw[Pf _ _ ⟨w,0,none⟩ (by simp;omega)];simp):zp:=h
open Tryz
section
open Go.RowKit Go.Extern.Stop Go.Stop Go.Extern
theorem vw(t:Addr)(w:World):(ReflectliteValue.unpack (.iface 76 (.pointer (some t)))).run prog w=.ok (.agg #[.pointer (some ⟨9,76,none⟩),w,.int .u64 150]) (w.alloc (.cells #[.pointer (some t)] 76)):=zab
theorem ER(e:Addr)(w:World):(ReflectliteValue.unpack (.iface 74 (.pointer (some e)))).run prog w=.ok (.agg #[.pointer (some ⟨9,74,none⟩),w,.int .u64 150]) (w.alloc (.cells #[.pointer (some e)] 74)):=zab
theorem G8(a:Addr)(w:World):(ReflectliteValue.methodAny (ReflectliteValue.valueError "reflectlite.Value.Type" 0) (fun t _ _ _=>ReflectliteType.toType t) #[.agg #[.pointer (some ⟨9,76,none⟩),.pointer (some a),.int .u64 150]]).run prog w=.ok (.iface 197 (.agg #[.pointer (some ⟨9,76,none⟩)])) w:=zab
theorem BQ(h:Value)(w:World):(Go.method 599 197 (.agg #[h]) "Kind").run prog w=.ok (315,h) w:=zab
theorem BO(h:Value)(w:World):(Go.method 599 197 (.agg #[h]) "Elem").run prog w=.ok (327,.agg #[h]) w:=zab
theorem BP(h:Value)(w:World):(Go.method 599 197 (.agg #[h]) "Implements").run prog w=.ok (328,.agg #[h]) w:=zab
theorem sf(h:Value)(w:World):(Go.method 599 197 (.agg #[h]) "AssignableTo").run prog w=.ok (325,.agg #[h]) w:=zab
theorem DO(w:World):((ReflectliteType.abiMethod fun t=>(fun a:Nat=>Value.int IntKind.u8 (a:Int)) <$> Rtype.kind t) #[.pointer (some ⟨9,76,none⟩)]).run prog w=.ok (.int .u8 22) w:=zab
theorem DN(w:World):((ReflectliteType.abiMethod fun t=>(fun a:Nat=>Value.int IntKind.u8 (a:Int)) <$> Rtype.kind t) #[.pointer (some ⟨9,74,none⟩)]).run prog w=.ok (.int .u8 22) w:=zab
theorem DK(w:World):(ReflectliteType.method ReflectliteType.elem #[.agg #[.pointer (some ⟨9,76,none⟩)]]).run prog w=.ok (.iface 197 (.agg #[.pointer (some ⟨9,74,none⟩)])) w:=zab
theorem DL(w:World): (ReflectliteType.relation "Implements" ReflectliteType.implements_ #[.agg #[.pointer (some ⟨9,74,none⟩)],.iface 197 (.agg #[.pointer (some ⟨9,48,none⟩)])]).run prog w=.ok (.bool true) w:=zab
theorem G9(v:Value)(w:World):(ReflectliteType.typeOf #[.iface 74 v]).run prog w=.ok (.iface 197 (.agg #[.pointer (some ⟨9,74,none⟩)])) w:=zab
theorem EP(w:World): (ReflectliteType.relation "AssignableTo" ReflectliteType.assignableTo #[.agg #[.pointer (some ⟨9,74,none⟩)],.iface 197 (.agg #[.pointer (some ⟨9,74,none⟩)])]).run prog w=.ok (.bool true) w:=zab
theorem zw(a:Addr)(w:World):(ReflectliteValue.parts (.agg #[.pointer (some ⟨9,76,none⟩),.pointer (some a),.int .u64 150])).run prog w=.ok (some (76,a,150)) w:=zab
theorem G7(a:Addr)(w:World):(ReflectliteValue.parts (.agg #[.pointer (some ⟨9,74,none⟩),.pointer (some a),.int .u64 150])).run prog w=.ok (some (74,a,150)) w:=zab
theorem GZ(a:Addr)(w:World):(ReflectliteValue.parts (.agg #[.pointer (some ⟨9,74,none⟩),.pointer (some a),.int .u64 406])).run prog w=.ok (some (74,a,406)) w:=zab
theorem GY(w:World):(Rtype.elem? 76).run prog w=.ok (some 74) w:=zab
theorem N7(p:Addr)(w:World):(ReflectliteValue.mk 74 p ReflectliteValue.flagAddr).run prog w=.ok (.agg #[.pointer (some ⟨9,74,none⟩),.pointer (some p),.int .u64 406]) w:=zab
theorem GX(w:World):(Rtype.directlyAssignable 74 74).run prog w=.ok true w:=zab
theorem mX(z:Sem Value)(f:TypeId->Addr->Nat->Nat->Sem Value)(v:Value):ReflectliteValue.method z f #[v]=(do match <- ReflectliteValue.parts v with|none=>z|some (t,a,fl)=>f t a fl (fl % 32)):=rfl
theorem DM(a p:Addr)(W:World)(ha:W.cell? a=some (.pointer (some p))):(ReflectliteValue.method (ReflectliteValue.valueError "reflectlite.Value.IsNil" 0) ReflectliteValue.isNil #[.agg #[.pointer (some ⟨9,76,none⟩),.pointer (some a),.int .u64 150]]).run prog W=.ok (.bool false) W:=by
 rw[mX];simp only[Sem.run_bind,zw,Result.andThen];simp[ReflectliteValue.isNil,loadVar,isAgg,underlying,underlying76,ha,Result.andThen]
theorem J8(a p:Addr)(W:World)(ha:W.cell? a=some (.pointer (some p))):(ReflectliteValue.method (ReflectliteValue.valueError "reflectlite.Value.Elem" 0) ReflectliteValue.elem #[.agg #[.pointer (some ⟨9,76,none⟩),.pointer (some a),.int .u64 150]]).run prog W=.ok (.agg #[.pointer (some ⟨9,74,none⟩),.pointer (some p),.int .u64 406]) W:=by
 rw[mX];simp only[Sem.run_bind,zw,Result.andThen];simp[ReflectliteValue.elem,loadVar,isAgg,underlying,underlying76,ha,Result.andThen,GY,N7]
theorem AZ(a b:Value)(h1:Value->Value->Sem Value)(h2:Array Value->Sem Value):ReflectliteValue.set.match_3 (fun _=>Sem Value) #[a,b] h1 h2=h1 a b:=rfl
theorem NA(ta b e:Addr)(old:Value)(W:World)(hb:W.cell? b=some (.pointer (some e)))(ht:W.cell? ta=some old)(hf:W.frozen? ta=false):(ReflectliteValue.set #[.agg #[.pointer (some ⟨9,74,none⟩),.pointer (some ta),.int .u64 406],.agg #[.pointer (some ⟨9,74,none⟩),.pointer (some b),.int .u64 150]]).run prog W=.ok (.tuple #[]) (W.setCell ta (.pointer (some e))):=by
 delta ReflectliteValue.set
 rw[AZ];simp only[Sem.run_bind,GZ,G7,Result.andThen];simp[ReflectliteValue.flagAddr,loadVar,isAgg,underlying,underlying74,hb,Result.andThen,GX,storeVar,Value.cells,storeCells,Addr.add];rw[Tz prog W ta _ _ zaf];simp[ht,hf]
theorem AY{w w4:World}{t:Nat}{c:Array Value}{ty:TypeId}{v:Value}(ht:w.heap[t]?=some (.cells c ty (0,0)))(hb:Below w w w4):Below w (w.setCell t v) (w4.setCell t v):=by
 have oa:=aa w t 0 v;have ob:=aa w4 t 0 v;refine⟨ob.os.trans (hb.os.trans oa.os.symm),ob.tape.trans (hb.tape.trans oa.tape.symm),ob.output.trans (hb.output.trans oa.output.symm),by rw[oa.size,ob.size];exact hb.size,fun k hk=>?_⟩;by_cases e:k=t
 ·subst e;rw[OP w k 0 _ _ v ht,OP w4 k 0 _ _ v ((hb.block k hk).trans ht)]
 ·rw[ob.block k e,oa.block k e,hb.block k hk]
theorem Hb(e t:Nat)(old:Value)(w:World)(hg:w.cell? ⟨0,0,none⟩=some (.iface 197 (.agg #[.pointer (some ⟨9,48,none⟩)])))(ht:w.heap[t]?=some (.cells #[old] 74 (0,0))):
  () 25 #[.iface 74 e,.iface 76 t] w fun ev w'=>ev=.returned true/\Below w (w.setCell t e) w':=by
 have ht0:w.cell? t=some old:=by rw[OA w _ _ _ _ _ ht];rfl
 have hf0:w.frozen? t=false:=by simp[World.frozen?,ht]
 have UN:0<w.heap.size:=OW _ _ hg;have Vo:t<w.heap.size:=OW _ _ ht0;have x1:=@run_callFunc_extern prog 42 _ (fun args=>ReflectliteValue.unpack (args.getD 0 (.tuple #[]))) func42 zab zab zab zab;have x2:=@run_callFunc_extern prog 43 _ (ReflectliteValue.methodAny (ReflectliteValue.valueError "reflectlite.Value.Type" 0) (fun t _ _ _=>ReflectliteType.toType t)) func43 zab zab zab zab;have x3:=@run_callFunc_extern prog 44 _ (ReflectliteValue.method (ReflectliteValue.valueError "reflectlite.Value.IsNil" 0) ReflectliteValue.isNil) func44 zab zab zab zab;have x4:=@run_callFunc_extern prog 315 _ (ReflectliteType.abiMethod fun t=>do pure (.int .u8 (<- Rtype.kind t))) func315 zab zab zab zab;have x5:=@run_callFunc_extern prog 327 _ (ReflectliteType.method ReflectliteType.elem) func327 zab zab zab zab;have x6:=@run_callFunc_extern prog 328 _ (ReflectliteType.relation "Implements" ReflectliteType.implements_) func328 zab zab zab zab;have x7:=@run_callFunc_extern prog 72 _ (ReflectliteType.typeOf) func72 zab zab zab zab;have x8:=@run_callFunc_extern prog 325 _ (ReflectliteType.relation "AssignableTo" ReflectliteType.assignableTo) func325 zab zab zab zab;have x9:=@run_callFunc_extern prog 73 _ (ReflectliteValue.method (ReflectliteValue.valueError "reflectlite.Value.Elem" 0) ReflectliteValue.elem) func73 zab zab zab zab;have x10:=@run_callFunc_extern prog 74 _ (ReflectliteValue.set) func74 zab zab zab zab;have y1:=G9;have y2:=sf;have y3:=EP;have y4:=ER;have y5:=vw;have y6:=G8;have y7:=BQ;have y8:=BO;have y9:=BP;have y10:=DO;have y11:=DN;have y12:=DK;have y13:=DL;have z1:=DM ⟨w,0,none⟩ ⟨t,0,none⟩ ((w.alloc (.cells #[t] 76)).alloc (.cells #[.pointer (some ⟨9,76,none⟩),w,.int .u64 150] 126)) zad;have hg2:((w.alloc (.cells #[t] 76)).alloc (.cells #[.pointer (some ⟨9,76,none⟩),w,.int .u64 150] 126)).cell? ⟨0,0,none⟩=some (.iface 197 (.agg #[.pointer (some ⟨9,48,none⟩)])):=by
  exact zeR
 have z2:=J8 ⟨w,0,none⟩ ⟨t,0,none⟩ (((w.alloc (.cells #[t] 76)).alloc (.cells #[.pointer (some ⟨9,76,none⟩),w,.int .u64 150] 126)).alloc (.cells #[.pointer (some ⟨9,76,none⟩),w,.int .u64 150] 126)) zcy;have z3:=NA ⟨t,0,none⟩ ⟨w.heap.size+1+1+1,0,none⟩ ⟨e,0,none⟩ old ((((w.alloc (.cells #[t] 76)).alloc (.cells #[.pointer (some ⟨9,76,none⟩),w,.int .u64 150] 126)).alloc (.cells #[.pointer (some ⟨9,76,none⟩),w,.int .u64 150] 126)).alloc (.cells #[e] 74))
  zcs
  zb4
  zb3
 go_enter func25,ntmps25;go_wp2;refine Sf 1 ?_;rw[SU];go_wp2;go_ret;refine⟨rfl,?_⟩;exact AY ht (((((Oy w w).alloc (Ow _) _).alloc zad _).alloc zae _).alloc zae _)
theorem Dj(e:Nat)(c l:Int)(w:World)(hg:w.cell? ⟨0,0,none⟩=some (.iface 197 (.agg #[.pointer (some ⟨9,48,none⟩)])))(he:w.heap[e]?=some (.cells #[(c:Int),(l:Int)] 78 (0,0))):
  () 16 #[.iface 74 e] w fun ev w'=>ev=.returned (.tuple #[(c:Int),(l:Int)])/\Below w w w':=by
 have UN:0<w.heap.size:=OW _ _ hg;have hel:=(Ov.1 he).1;obtain⟨W1,Uj⟩:∃y,y=(w.alloc (.cells #[.pointer none] 74)).alloc (.cells #[(0:Int)] 31):=⟨_,rfl⟩;have TM:Below w w W1:=zcl;have h0:W1.heap[w.heap.size]?=some (.cells #[.pointer none] 74 (0,0)):=by rw[Uj];exact fk _ _ _
 have hg1:=(OO (w:=w) (w':=W1) (a:=⟨0,0,none⟩) (TM.block _ UN)).trans hg;have HA:Hid (() 25 #[.iface 74 e,.iface 76 w] W1 fun ev w'=>ev=.returned true/\Below W1 (W1.setCell w e) w'):=Hb e w _ W1 hg1 h0;have Zh:Hid _:=Uj;go_enter func16,ntmps16;go_wp2_with fail;rw[<- Zh.out];refine OI HA.out ?_;rintro ev w2 ⟨rfl,TP⟩;have oo:=aa W1 w 0 e;have r0:=OP W1 w 0 _ _ e h0;have hl0:=(Ov.1 h0).1;have r2:=(TP.block w hl0).trans r0;have t0:w2.cell? w=some ↑e:=by rw[OA w2 _ _ _ _ _ r2];rfl
 have e1:=(TM.block e hel).trans he;have e2:=(TP.block e (by have:=TM.size;omega)).trans ((oo.block e zaa).trans e1);have t1:w2.cell? e=some ↑(c:Int):=by rw[OA w2 _ _ _ _ _ e2];rfl
 have t2:w2.cell? (e,1)=some ↑(l:Int):=by rw[OA w2 _ _ _ _ _ e2];rfl
 have HB:Hid (Below w w w2):=(oo.below TM (Ow _)).trans (TP.mono TM.size);clear TP oo r0 r2 e1 e2;dsimp only;go_wp2_with fail
 go_quiet(fail)
 go_wp2;go_ret2;exact⟨rfl,QK HB.out _⟩
theorem Bh(w:World):() 16 #[.nilIface] w fun ev w'=>ev=.returned (.tuple #[(0:Int),(0:Int)])/\Below w w w':=by
 go_enter func16,ntmps16;go_wp2;go_ret2;exact⟨rfl,((Oy _ _).alloc (Ow _) _).alloc zad _⟩
theorem EM(t:Addr)(w:World):(ReflectliteValue.unpack (.iface 79 (.pointer (some t)))).run prog w=.ok (.agg #[.pointer (some ⟨9,79,none⟩),w,.int .u64 150]) (w.alloc (.cells #[.pointer (some t)] 79)):=zab
theorem EL(c:Int)(w:World):(ReflectliteValue.unpack (.iface 31 (.int .i64 c))).run prog w=.ok (.agg #[.pointer (some ⟨9,31,none⟩),w,.int .u64 130]) (w.alloc (.cells #[(c:Int)] 31)):=zab
theorem Mu(a:Addr)(w:World):(ReflectliteValue.methodAny (ReflectliteValue.valueError "reflectlite.Value.Type" 0) (fun t _ _ _=>ReflectliteType.toType t) #[.agg #[.pointer (some ⟨9,79,none⟩),.pointer (some a),.int .u64 150]]).run prog w=.ok (.iface 197 (.agg #[.pointer (some ⟨9,79,none⟩)])) w:=zab
theorem J6(w:World):((ReflectliteType.abiMethod fun t=>(fun a:Nat=>Value.int IntKind.u8 (a:Int)) <$> Rtype.kind t) #[.pointer (some ⟨9,79,none⟩)]).run prog w=.ok (.int .u8 22) w:=zab
theorem J5(w:World):((ReflectliteType.abiMethod fun t=>(fun a:Nat=>Value.int IntKind.u8 (a:Int)) <$> Rtype.kind t) #[.pointer (some ⟨9,31,none⟩)]).run prog w=.ok (.int .u8 2) w:=zab
theorem J1(w:World):(ReflectliteType.method ReflectliteType.elem #[.agg #[.pointer (some ⟨9,79,none⟩)]]).run prog w=.ok (.iface 197 (.agg #[.pointer (some ⟨9,31,none⟩)])) w:=zab
theorem J3(w:World): (ReflectliteType.relation "Implements" ReflectliteType.implements_ #[.agg #[.pointer (some ⟨9,31,none⟩)],.iface 197 (.agg #[.pointer (some ⟨9,48,none⟩)])]).run prog w=.ok (.bool true) w:=zab
theorem zv(v:Value)(w:World):(ReflectliteType.typeOf #[.iface 31 v]).run prog w=.ok (.iface 197 (.agg #[.pointer (some ⟨9,31,none⟩)])) w:=zab
theorem EJ(w:World): (ReflectliteType.relation "AssignableTo" ReflectliteType.assignableTo #[.agg #[.pointer (some ⟨9,31,none⟩)],.iface 197 (.agg #[.pointer (some ⟨9,31,none⟩)])]).run prog w=.ok (.bool true) w:=zab
theorem EK(w:World): (ReflectliteType.relation "AssignableTo" ReflectliteType.assignableTo #[.agg #[.pointer (some ⟨9,31,none⟩)],.iface 197 (.agg #[.pointer (some ⟨9,74,none⟩)])]).run prog w=.ok (.bool false) w:=zab
theorem zu(a:Addr)(w:World):(ReflectliteValue.parts (.agg #[.pointer (some ⟨9,79,none⟩),.pointer (some a),.int .u64 150])).run prog w=.ok (some (79,a,150)) w:=zab
theorem GW(a:Addr)(w:World):(ReflectliteValue.parts (.agg #[.pointer (some ⟨9,31,none⟩),.pointer (some a),.int .u64 130])).run prog w=.ok (some (31,a,130)) w:=zab
theorem GV(a:Addr)(w:World):(ReflectliteValue.parts (.agg #[.pointer (some ⟨9,31,none⟩),.pointer (some a),.int .u64 386])).run prog w=.ok (some (31,a,386)) w:=zab
theorem GU(w:World):(Rtype.elem? 79).run prog w=.ok (some 31) w:=zab
theorem N6(p:Addr)(w:World):(ReflectliteValue.mk 31 p ReflectliteValue.flagAddr).run prog w=.ok (.agg #[.pointer (some ⟨9,31,none⟩),.pointer (some p),.int .u64 386]) w:=zab
theorem GS(w:World):(Rtype.directlyAssignable 31 31).run prog w=.ok true w:=zab
theorem J4(a p:Addr)(W:World)(ha:W.cell? a=some (.pointer (some p))):(ReflectliteValue.method (ReflectliteValue.valueError "reflectlite.Value.IsNil" 0) ReflectliteValue.isNil #[.agg #[.pointer (some ⟨9,79,none⟩),.pointer (some a),.int .u64 150]]).run prog W=.ok (.bool false) W:=by
 rw[mX];simp only[Sem.run_bind,zu,Result.andThen];simp[ReflectliteValue.isNil,loadVar,isAgg,underlying,underlying79,ha,Result.andThen]
theorem J2(a p:Addr)(W:World)(ha:W.cell? a=some (.pointer (some p))):(ReflectliteValue.method (ReflectliteValue.valueError "reflectlite.Value.Elem" 0) ReflectliteValue.elem #[.agg #[.pointer (some ⟨9,79,none⟩),.pointer (some a),.int .u64 150]]).run prog W=.ok (.agg #[.pointer (some ⟨9,31,none⟩),.pointer (some p),.int .u64 386]) W:=by
 rw[mX];simp only[Sem.run_bind,zu,Result.andThen];simp[ReflectliteValue.elem,loadVar,isAgg,underlying,underlying79,ha,Result.andThen,GU,N6]
theorem Nz(ta b:Addr)(c:Int)(old:Value)(W:World)(hb:W.cell? b=some ↑(c:Int))(ht:W.cell? ta=some old)(hf:W.frozen? ta=false):(ReflectliteValue.set #[.agg #[.pointer (some ⟨9,31,none⟩),.pointer (some ta),.int .u64 386],.agg #[.pointer (some ⟨9,31,none⟩),.pointer (some b),.int .u64 130]]).run prog W=.ok (.tuple #[]) (W.setCell ta (.int .i64 c)):=by
 delta ReflectliteValue.set
 rw[AZ];simp only[Sem.run_bind,GV,GW,Result.andThen];simp[ReflectliteValue.flagAddr,loadVar,isAgg,underlying,underlying31,hb,Result.andThen,GS,storeVar,Value.cells,storeCells,Addr.add];rw[Tz prog W ta _ _ zaf];simp[ht,hf]
theorem Ol(v:Value)(xT:TypeId)(w:World):(Instr.typeAssert (.iface 31 v) xT 202 true).run prog w=.ok (.tuple #[.nilIface,false]) w:=run_typeAssert_lacksB underlying202 zab zab v xT w
theorem IN(v:Value)(xT:TypeId)(w:World):(Instr.typeAssert (.iface 31 v) xT 205 true).run prog w=.ok (.tuple #[.nilIface,false]) w:=run_typeAssert_lacksB underlying205 zab zab v xT w
theorem FI(v:Value)(xT:TypeId)(w:World):(Instr.typeAssert (.iface 31 v) xT 206 true).run prog w=.ok (.tuple #[.nilIface,false]) w:=run_typeAssert_lacksB underlying206 zab zab v xT w
theorem J9(c:Int)(t:Nat)(w:World)(hg:w.cell? ⟨0,0,none⟩=some (.iface 197 (.agg #[.pointer (some ⟨9,48,none⟩)]))):
  () 25 #[.iface 31 (.int .i64 c),.iface 76 t] w fun ev w'=>ev=.returned false/\Below w w w':=by
 have UN:0<w.heap.size:=OW _ _ hg;have x1:=@run_callFunc_extern prog 42 _ (fun args=>ReflectliteValue.unpack (args.getD 0 (.tuple #[]))) func42 zab zab zab zab;have x2:=@run_callFunc_extern prog 43 _ (ReflectliteValue.methodAny (ReflectliteValue.valueError "reflectlite.Value.Type" 0) (fun t _ _ _=>ReflectliteType.toType t)) func43 zab zab zab zab;have x3:=@run_callFunc_extern prog 44 _ (ReflectliteValue.method (ReflectliteValue.valueError "reflectlite.Value.IsNil" 0) ReflectliteValue.isNil) func44 zab zab zab zab;have x4:=@run_callFunc_extern prog 315 _ (ReflectliteType.abiMethod fun t=>do pure (.int .u8 (<- Rtype.kind t))) func315 zab zab zab zab;have x5:=@run_callFunc_extern prog 327 _ (ReflectliteType.method ReflectliteType.elem) func327 zab zab zab zab;have x6:=@run_callFunc_extern prog 328 _ (ReflectliteType.relation "Implements" ReflectliteType.implements_) func328 zab zab zab zab;have x7:=@run_callFunc_extern prog 72 _ (ReflectliteType.typeOf) func72 zab zab zab zab;have x8:=@run_callFunc_extern prog 325 _ (ReflectliteType.relation "AssignableTo" ReflectliteType.assignableTo) func325 zab zab zab zab;have x9:=@run_callFunc_extern prog 73 _ (ReflectliteValue.method (ReflectliteValue.valueError "reflectlite.Value.Elem" 0) ReflectliteValue.elem) func73 zab zab zab zab;have x10:=@run_callFunc_extern prog 74 _ (ReflectliteValue.set) func74 zab zab zab zab;have y1:=zv;have y2:=sf;have y3:=EK;have u1:=Ol;have u2:=IN;have u3:=FI;have y5:=vw;have y6:=G8;have y7:=BQ;have y8:=BO;have y9:=BP;have y10:=DO;have y11:=DN;have y12:=DK;have y13:=DL;have z1:=DM ⟨w,0,none⟩ ⟨t,0,none⟩ ((w.alloc (.cells #[t] 76)).alloc (.cells #[.pointer (some ⟨9,76,none⟩),w,.int .u64 150] 126)) zad;have hg2:((w.alloc (.cells #[t] 76)).alloc (.cells #[.pointer (some ⟨9,76,none⟩),w,.int .u64 150] 126)).cell? ⟨0,0,none⟩=some (.iface 197 (.agg #[.pointer (some ⟨9,48,none⟩)])):=by
  exact zeR
 go_enter func25,ntmps25;go_wp2;refine Sf 1 ?_;rw[SU];go_wp2;go_ret;refine⟨rfl,?_⟩;exact(((Oy w w).alloc (Ow _) _).alloc zad _).alloc zae _
theorem Ha(c:Int)(t:Nat)(old:Value)(w:World)(hg:w.cell? ⟨0,0,none⟩=some (.iface 197 (.agg #[.pointer (some ⟨9,48,none⟩)])))(ht:w.heap[t]?=some (.cells #[old] 31 (0,0))):
  () 25 #[.iface 31 (.int .i64 c),.iface 79 t] w fun ev w'=>ev=.returned true/\Below w (w.setCell t (.int .i64 c)) w':=by
 have ht0:w.cell? t=some old:=by rw[OA w _ _ _ _ _ ht];rfl
 have hf0:w.frozen? t=false:=by simp[World.frozen?,ht]
 have UN:0<w.heap.size:=OW _ _ hg;have Vo:t<w.heap.size:=OW _ _ ht0;have x1:=@run_callFunc_extern prog 42 _ (fun args=>ReflectliteValue.unpack (args.getD 0 (.tuple #[]))) func42 zab zab zab zab;have x2:=@run_callFunc_extern prog 43 _ (ReflectliteValue.methodAny (ReflectliteValue.valueError "reflectlite.Value.Type" 0) (fun t _ _ _=>ReflectliteType.toType t)) func43 zab zab zab zab;have x3:=@run_callFunc_extern prog 44 _ (ReflectliteValue.method (ReflectliteValue.valueError "reflectlite.Value.IsNil" 0) ReflectliteValue.isNil) func44 zab zab zab zab;have x4:=@run_callFunc_extern prog 315 _ (ReflectliteType.abiMethod fun t=>do pure (.int .u8 (<- Rtype.kind t))) func315 zab zab zab zab;have x5:=@run_callFunc_extern prog 327 _ (ReflectliteType.method ReflectliteType.elem) func327 zab zab zab zab;have x6:=@run_callFunc_extern prog 328 _ (ReflectliteType.relation "Implements" ReflectliteType.implements_) func328 zab zab zab zab;have x7:=@run_callFunc_extern prog 72 _ (ReflectliteType.typeOf) func72 zab zab zab zab;have x8:=@run_callFunc_extern prog 325 _ (ReflectliteType.relation "AssignableTo" ReflectliteType.assignableTo) func325 zab zab zab zab;have x9:=@run_callFunc_extern prog 73 _ (ReflectliteValue.method (ReflectliteValue.valueError "reflectlite.Value.Elem" 0) ReflectliteValue.elem) func73 zab zab zab zab;have x10:=@run_callFunc_extern prog 74 _ (ReflectliteValue.set) func74 zab zab zab zab;have y1:=zv;have y2:=sf;have y3:=EJ;have y4:=EL;have y5:=EM;have y6:=Mu;have y7:=BQ;have y8:=BO;have y9:=BP;have y10:=J6;have y11:=J5;have y12:=J1;have y13:=J3;have z1:=J4 ⟨w,0,none⟩ ⟨t,0,none⟩ ((w.alloc (.cells #[t] 79)).alloc (.cells #[.pointer (some ⟨9,79,none⟩),w,.int .u64 150] 126)) zad;have hg2:((w.alloc (.cells #[t] 79)).alloc (.cells #[.pointer (some ⟨9,79,none⟩),w,.int .u64 150] 126)).cell? ⟨0,0,none⟩=some (.iface 197 (.agg #[.pointer (some ⟨9,48,none⟩)])):=by
  exact zeR
 have z2:=J2 ⟨w,0,none⟩ ⟨t,0,none⟩ (((w.alloc (.cells #[t] 79)).alloc (.cells #[.pointer (some ⟨9,79,none⟩),w,.int .u64 150] 126)).alloc (.cells #[.pointer (some ⟨9,79,none⟩),w,.int .u64 150] 126)) zcy;have z3:=Nz ⟨t,0,none⟩ ⟨w.heap.size+1+1+1,0,none⟩ c old ((((w.alloc (.cells #[t] 79)).alloc (.cells #[.pointer (some ⟨9,79,none⟩),w,.int .u64 150] 126)).alloc (.cells #[.pointer (some ⟨9,79,none⟩),w,.int .u64 150] 126)).alloc (.cells #[(c:Int)] 31))
  zcs
  zb4
  zb3
 go_enter func25,ntmps25;go_wp2;refine Sf 1 ?_;rw[SU];go_wp2;go_ret;refine⟨rfl,?_⟩;exact AY ht (((((Oy w w).alloc (Ow _) _).alloc zad _).alloc zae _).alloc zae _)
theorem ui(c:Int)(w:World)(hg:w.cell? ⟨0,0,none⟩=some (.iface 197 (.agg #[.pointer (some ⟨9,48,none⟩)]))):
  () 16 #[.iface 31 (.int .i64 c)] w fun ev w'=>ev=.returned (.tuple #[(c:Int),(0:Int)])/\Below w w w':=by
 have UN:0<w.heap.size:=OW _ _ hg;obtain⟨W1,Uj⟩:∃y,y=(w.alloc (.cells #[.pointer none] 74)).alloc (.cells #[(0:Int)] 31):=⟨_,rfl⟩;have TM:Below w w W1:=zcl;have h1:W1.heap[w.heap.size+1]?=some (.cells #[(0:Int)] 31 (0,0)):=by rw[Uj];exact bU _ _ _
 have hg1:=(OO (w:=w) (w':=W1) (a:=⟨0,0,none⟩) (TM.block _ UN)).trans hg;have HA:Hid _:=J9 c w W1 hg1;have Zh:Hid _:=Uj;go_enter func16,ntmps16;go_wp2_with fail;rw[<- Zh.out];refine OI HA.out ?_;rintro ev w2 ⟨rfl,TP⟩;have hl1:=(Ov.1 h1).1;have h2:=(TP.block _ hl1).trans h1;have hg2:=(OO (w:=W1) (w':=w2) (a:=⟨0,0,none⟩) (TP.block _ (OS UN TM.size))).trans hg1;have HB2:Hid (Below w w w2):=TM.trans (TP.mono TM.size);have HC:Hid _:=Ha c (w.heap.size+1) _ w2 hg2 h2;clear TP hg2;dsimp only;go_wp2_with fail;refine OI HC.out ?_;rintro ev w3 ⟨rfl,Ug⟩;have oo:=aa w2 (w.heap.size+1) 0 (.int .i64 c);have r0:=OP w2 (w.heap.size+1) 0 _ _ (.int .i64 c) h2;have hl2:=(Ov.1 h2).1;have r2:=(Ug.block (w.heap.size+1) hl2).trans r0;have t0:w3.cell? ↑(w.heap.size+1)=some ↑(c:Int):=by rw[OA w3 _ _ _ _ _ r2];rfl
 have HB:Hid (Below w w w3):=(oo.below HB2.out zaa).trans (Ug.mono HB2.out.size);clear Ug oo r0 r2 h2;dsimp only;go_wp2_with fail;go_ret2;exact⟨rfl,HB.out⟩
