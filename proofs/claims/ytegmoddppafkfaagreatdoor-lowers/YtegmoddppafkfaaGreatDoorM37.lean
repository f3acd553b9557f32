/-
  MY OWN TEXT.
-/
import Derived.Test.YtegmoddppafkfaaGreatDoorM36
namespace Go.Proofs.YtegmoddppafkfaaGreatDoor
open Go.RowKit Go.Extern.Stop Go.Stop Go.Extern

theorem set_both {w w4 : World} {t : Nat} {c : Array Value} {ty : TypeId} {v : Value} (ht : w.heap[t]? = some (.cells c ty (0, 0))) (hb : Below w.heap.size w w4) : Below w.heap.size (w.setCell ⟨t, 0, none⟩ v) (w4.setCell ⟨t, 0, none⟩ v) := by
  have oa := only_setCell w t 0 v
  have ob := only_setCell w4 t 0 v
  refine ⟨ob.os.trans (hb.os.trans oa.os.symm), ob.tape.trans (hb.tape.trans oa.tape.symm), ob.output.trans (hb.output.trans oa.output.symm), by rw [oa.size, ob.size]; exact hb.size, fun k hk => ?_⟩
  by_cases e : k = t
  · subst e
    rw [heap_setCell_same w k 0 _ _ v ht, heap_setCell_same w4 k 0 _ _ v ((hb.block k hk).trans ht)]
  · rw [ob.block k e, oa.block k e, hb.block k hk]
set_option maxRecDepth 100000 in
set_option maxHeartbeats 4000000 in
theorem as_fault (e t : Nat) (old : Value) (w : World) (hg : w.cell? ⟨0, 0, none⟩ = some (.iface 269 (.agg #[.pointer (some ⟨9, 101, none⟩)]))) (ht : w.heap[t]? = some (.cells #[old] 159 (0, 0))) :
    Calls Tryz.prog 69 #[.iface 159 (.pointer (some ⟨e, 0, none⟩)), .iface 161 (.pointer (some ⟨t, 0, none⟩))] w fun ev w' => ev = .returned (.bool true) ∧ Below w.heap.size (w.setCell ⟨t, 0, none⟩ (.pointer (some ⟨e, 0, none⟩))) w' := by
  have ht0 : w.cell? ⟨t, 0, none⟩ = some old := by rw [cell_of_row w _ _ _ _ _ ht]; rfl
  have hf0 : w.frozen? ⟨t, 0, none⟩ = false := by simp [World.frozen?, ht]
  have hgl : 0 < w.heap.size := World.block_lt_of_cell? _ _ hg
  have htl : t < w.heap.size := World.block_lt_of_cell? _ _ ht0
  have x1 := @run_callFunc_extern Tryz.prog 99 _ (fun args => ReflectliteValue.unpack (args.getD 0 (.tuple #[]))) Tryz.func99 (by kernel_rfl) (by kernel_rfl) (by kernel_rfl) (by kernel_rfl)
  have x2 := @run_callFunc_extern Tryz.prog 100 _ (ReflectliteValue.methodAny (ReflectliteValue.valueError "reflectlite.Value.Type" 0) (fun t _ _ _ => ReflectliteType.toType t)) Tryz.func100 (by kernel_rfl) (by kernel_rfl) (by kernel_rfl) (by kernel_rfl)
  have x3 := @run_callFunc_extern Tryz.prog 101 _ (ReflectliteValue.method (ReflectliteValue.valueError "reflectlite.Value.IsNil" 0) ReflectliteValue.isNil) Tryz.func101 (by kernel_rfl) (by kernel_rfl) (by kernel_rfl) (by kernel_rfl)
  have x4 := @run_callFunc_extern Tryz.prog 325 _ (ReflectliteType.abiMethod fun t => do pure (.int .u8 (← Rtype.kind t))) Tryz.func325 (by kernel_rfl) (by kernel_rfl) (by kernel_rfl) (by kernel_rfl)
  have x5 := @run_callFunc_extern Tryz.prog 340 _ (ReflectliteType.method ReflectliteType.elem) Tryz.func340 (by kernel_rfl) (by kernel_rfl) (by kernel_rfl) (by kernel_rfl)
  have x6 := @run_callFunc_extern Tryz.prog 341 _ (ReflectliteType.relation "Implements" ReflectliteType.implements_) Tryz.func341 (by kernel_rfl) (by kernel_rfl) (by kernel_rfl) (by kernel_rfl)
  have x7 := @run_callFunc_extern Tryz.prog 132 _ (ReflectliteType.typeOf) Tryz.func132 (by kernel_rfl) (by kernel_rfl) (by kernel_rfl) (by kernel_rfl)
  have x8 := @run_callFunc_extern Tryz.prog 338 _ (ReflectliteType.relation "AssignableTo" ReflectliteType.assignableTo) Tryz.func338 (by kernel_rfl) (by kernel_rfl) (by kernel_rfl) (by kernel_rfl)
  have x9 := @run_callFunc_extern Tryz.prog 133 _ (ReflectliteValue.method (ReflectliteValue.valueError "reflectlite.Value.Elem" 0) ReflectliteValue.elem) Tryz.func133 (by kernel_rfl) (by kernel_rfl) (by kernel_rfl) (by kernel_rfl)
  have x10 := @run_callFunc_extern Tryz.prog 134 _ (ReflectliteValue.set) Tryz.func134 (by kernel_rfl) (by kernel_rfl) (by kernel_rfl) (by kernel_rfl)
  have y1 := Tryz.asTypeOf
  have y2 := Tryz.asAssign
  have y3 := Tryz.asAssignE
  have y4 := Tryz.asUnpackE
  have y5 := Tryz.asUnpackT
  have y6 := Tryz.asType
  have y7 := Tryz.asKind
  have y8 := Tryz.asElem
  have y9 := Tryz.asImpl
  have y10 := Tryz.asKindT
  have y11 := Tryz.asKindE
  have y12 := Tryz.asElemT
  have y13 := Tryz.asImplE
  have z1 := Tryz.asIsNil ⟨w.heap.size, 0, none⟩ ⟨t, 0, none⟩ ((w.alloc (.cells #[.pointer (some ⟨t, 0, none⟩)] 161)).alloc (.cells #[.pointer (some ⟨9, 161, none⟩), .pointer (some ⟨w.heap.size, 0, none⟩), .int .u64 150] 204)) (by simp)
  have hg2 : ((w.alloc (.cells #[.pointer (some ⟨t, 0, none⟩)] 161)).alloc (.cells #[.pointer (some ⟨9, 161, none⟩), .pointer (some ⟨w.heap.size, 0, none⟩), .int .u64 150] 204)).cell? ⟨0, 0, none⟩ = some (.iface 269 (.agg #[.pointer (some ⟨9, 101, none⟩)])) := by
    rw [World.cell?_alloc_lt _ _ ⟨0, 0, none⟩ (by simp only [World.size_alloc]; exact Nat.lt_succ_of_lt hgl), World.cell?_alloc_lt _ _ ⟨0, 0, none⟩ hgl]; exact hg
  have z2 := Tryz.asElemV ⟨w.heap.size, 0, none⟩ ⟨t, 0, none⟩ (((w.alloc (.cells #[.pointer (some ⟨t, 0, none⟩)] 161)).alloc (.cells #[.pointer (some ⟨9, 161, none⟩), .pointer (some ⟨w.heap.size, 0, none⟩), .int .u64 150] 204)).alloc (.cells #[.pointer (some ⟨9, 161, none⟩), .pointer (some ⟨w.heap.size, 0, none⟩), .int .u64 150] 204)) (by rw [World.cell?_alloc_lt _ _ ⟨w.heap.size, 0, none⟩ (by simp; omega)]; simp)
  have z3 := Tryz.asSet ⟨t, 0, none⟩ ⟨w.heap.size + 1 + 1 + 1, 0, none⟩ ⟨e, 0, none⟩ old ((((w.alloc (.cells #[.pointer (some ⟨t, 0, none⟩)] 161)).alloc (.cells #[.pointer (some ⟨9, 161, none⟩), .pointer (some ⟨w.heap.size, 0, none⟩), .int .u64 150] 204)).alloc (.cells #[.pointer (some ⟨9, 161, none⟩), .pointer (some ⟨w.heap.size, 0, none⟩), .int .u64 150] 204)).alloc (.cells #[.pointer (some ⟨e, 0, none⟩)] 159))
    (by rw [World.cell?_alloc_at _ _ _ _ (by simp)]; rfl)
    (by rw [World.cell?_alloc_lt _ _ ⟨t, 0, none⟩ (by simp; omega), World.cell?_alloc_lt _ _ ⟨t, 0, none⟩ (by simp; omega), World.cell?_alloc_lt _ _ ⟨t, 0, none⟩ (by simp; omega), World.cell?_alloc_lt _ _ ⟨t, 0, none⟩ htl]; exact ht0)
    (by rw [World.frozen?_alloc_old _ _ ⟨t, 0, none⟩ (by simp; omega), World.frozen?_alloc_old _ _ ⟨t, 0, none⟩ (by simp; omega), World.frozen?_alloc_old _ _ ⟨t, 0, none⟩ (by simp; omega), World.frozen?_alloc_old _ _ ⟨t, 0, none⟩ (Nat.ne_of_lt htl)]; exact hf0)
  go_enter Tryz.func69, Tryz.ntmps69
  go_wp2
  refine wp_loop_rounds 1 ?_
  rw [rounds_succ]
  go_wp2
  go_ret
  refine ⟨rfl, ?_⟩
  exact set_both ht (((((Below.refl w.heap.size w).alloc (Nat.le_refl _) _).alloc (by simp) _).alloc (by simp; omega) _).alloc (by simp; omega) _)
set_option maxRecDepth 100000 in
set_option maxHeartbeats 1600000 in
theorem tell_fault (e : Nat) (c l : Int) (w : World) (hg : w.cell? ⟨0, 0, none⟩ = some (.iface 269 (.agg #[.pointer (some ⟨9, 101, none⟩)]))) (he : w.heap[e]? = some (.cells #[.int .i64 c, .int .i64 l] 163 (0, 0))) :
    Calls Tryz.prog 49 #[.iface 159 (.pointer (some ⟨e, 0, none⟩))] w fun ev w' => ev = .returned (.tuple #[.int .i64 c, .int .i64 l]) ∧ Below w.heap.size w w' := by
  have hgl : 0 < w.heap.size := World.block_lt_of_cell? _ _ hg
  have hel := (Array.getElem?_eq_some_iff.1 he).1
  obtain ⟨W1, hW1⟩ : ∃ y, y = (w.alloc (.cells #[.pointer none] 159)).alloc (.cells #[.int .i64 0] 47) := ⟨_, rfl⟩
  have hb1 : Below w.heap.size w W1 := by rw [hW1]; exact ((Below.refl _ _).alloc (Nat.le_refl _) _).alloc (by simp) _
  have h0 : W1.heap[w.heap.size]? = some (.cells #[.pointer none] 159 (0, 0)) := by rw [hW1]; exact heap_prev _ _ _
  have hg1 := (World.cell?_of_block (w := w) (w' := W1) (a := ⟨0, 0, none⟩) (hb1.block _ hgl)).trans hg
  have HA : Hid (Calls Tryz.prog 69 #[.iface 159 (.pointer (some ⟨e, 0, none⟩)), .iface 161 (.pointer (some ⟨w.heap.size, 0, none⟩))] W1 fun ev w' => ev = .returned (.bool true) ∧ Below W1.heap.size (W1.setCell ⟨w.heap.size, 0, none⟩ (.pointer (some ⟨e, 0, none⟩))) w') := as_fault e w.heap.size _ W1 hg1 h0
  have HW1 : Hid _ := hW1
  go_enter Tryz.func49, Tryz.ntmps49
  go_wp2_with fail
  rw [← HW1.out]
  refine Calls.mono HA.out ?_
  rintro ev w2 ⟨rfl, hb2⟩
  have oo := only_setCell W1 w.heap.size 0 (.pointer (some ⟨e, 0, none⟩))
  have r0 := heap_setCell_same W1 w.heap.size 0 _ _ (.pointer (some ⟨e, 0, none⟩)) h0
  have hl0 := (Array.getElem?_eq_some_iff.1 h0).1
  have r2 := (hb2.block w.heap.size hl0).trans r0
  have t0 : w2.cell? ⟨w.heap.size, 0, none⟩ = some (.pointer (some ⟨e, 0, none⟩)) := by rw [cell_of_row w2 _ _ _ _ _ r2]; rfl
  have e1 := (hb1.block e hel).trans he
  have e2 := (hb2.block e (by have := hb1.size; omega)).trans ((oo.block e (by omega)).trans e1)
  have t1 : w2.cell? ⟨e, 0, none⟩ = some (.int .i64 c) := by rw [cell_of_row w2 _ _ _ _ _ e2]; rfl
  have t2 : w2.cell? ⟨e, 1, none⟩ = some (.int .i64 l) := by rw [cell_of_row w2 _ _ _ _ _ e2]; rfl
  have HB : Hid (Below w.heap.size w w2) := (oo.below hb1 (Nat.le_refl _)).trans (hb2.mono hb1.size)
  clear hb2 oo r0 r2 e1 e2
  dsimp only
  go_wp2_with fail
  go_quiet (fail)
  go_wp2
  go_ret2
  exact ⟨rfl, below_drewN HB.out _⟩
theorem tell_nil (w : World) : Calls Tryz.prog 49 #[.nilIface] w fun ev w' => ev = .returned (.tuple #[.int .i64 0, .int .i64 0]) ∧ Below w.heap.size w w' := by
  go_enter Tryz.func49, Tryz.ntmps49
  go_wp2
  go_ret2
  exact ⟨rfl, ((Below.refl _ _).alloc (Nat.le_refl _) _).alloc (by simp) _⟩
end Go.Proofs.YtegmoddppafkfaaGreatDoor
