/-
  MY OWN TEXT.
-/
import Derived.Test.YtegmoddppafkfaaGreatDoorM00
import Derived.WalkKit
import Derived.WalkLawsBesides
import Derived.WalkSpells
import Derived.Deep.MidRow
import Derived.Deep.WholeRow
import Derived.StillTailTactics
import Derived.Deep.LoopGhost
import Derived.RegionTactic
namespace Go.Proofs.YtegmoddppafkfaaGreatDoor
open Go.RowKit
variable {P : Program}

/-- Only block g has turned. -/
structure Only (g : Nat) (w w' : World) : Prop where
  os : w'.os = w.os
  tape : w'.tape = w.tape
  output : w'.output = w.output
  size : w'.heap.size = w.heap.size
  block : ∀ k, k ≠ g → w'.heap[k]? = w.heap[k]?
theorem Only.below {g B : Nat} {a w w' : World} (h : Only g w w') (hb : Below B a w) (hB : B ≤ g) : Below B a w' :=
  hb.trans ⟨h.os, h.tape, h.output, by rw [h.size]; exact Nat.le_refl _, fun k hk => h.block k (by omega)⟩
theorem Only.cell {g : Nat} {w w' : World} (h : Only g w w') {p : Addr} (hp : p.block ≠ g) : w'.cell? p = w.cell? p := World.cell?_of_block (w := w) (h.block p.block hp)
theorem only_setRow (w : World) (g : Nat) (cs : Array Value) : Only g w (w.setRow g cs) := ⟨rfl, rfl, rfl, setRow_size w g cs, fun k hk => setRow_other w g k cs hk⟩
theorem only_setCell (w : World) (g o : Nat) (v : Value) : Only g w (w.setCell ⟨g, o, none⟩ v) := ⟨rfl, rfl, rfl, by simp [World.setCell], fun k hk => Below.heap_setCell _ _ _ _ hk⟩
theorem Only.drew {g : Nat} {w w' : World} (h : Only g w w') : Only g w w'.drew := ⟨h.os, h.tape, h.output, h.size, h.block⟩
theorem Only.of_drew {g : Nat} {w w' : World} (h : Only g w.drew w') : Only g w w' := ⟨h.os, h.tape, h.output, h.size, h.block⟩

theorem range_of_row {w : World} {g : Nat} {c : Array Value} {t : TypeId} {fz : Nat × Nat} (hg : w.heap[g]? = some (.cells c t fz)) : w.rangeAt g 0 c.toList := by
  intro j v hj
  rw [Nat.zero_add, cell_of_row w g j c t fz hg]
  simpa using hj

theorem all_of_list {cells : Array Value} (h : cells.toList.all (·.oneCell') = true) : cells.all (·.oneCell') = true := by
  rw [Array.all_eq_true_iff_forall_mem]
  intro v hv
  exact List.all_eq_true.1 h v (by simpa using hv)
theorem wp_store_all {op : Oper} {a : Act} {w : World} {K : Act → World → Prop} {Q : Exit → Act → World → Prop} (ty : TypeId) (x y : Operand) (ho : op.op = .store ty x y)
    (g : Nat) (t : TypeId) (c cells : Array Value) (hx : a.eval x = .pointer (some ⟨g, 0, none⟩)) (hy : a.eval y = .agg cells)
    (hg : w.heap[g]? = some (.cells c t (0, 0))) (hi : (P.info? ty).map (·.size) = some cells.size) (hs : c.size = cells.size) (h1 : cells.toList.all (·.oneCell') = true)
    (h : K (a.put op.dst undef) (w.setRow g cells)) : op.wp P a w K Q := by
  unfold Oper.wp execOp
  simp only [ho, hx, hy, Instr.storeAt, Instr.sureAddr, Sem.run_bind, Sem.run_pure, Result.andThen_ok, run_storeVar_row w g t ty c cells hg hi hs (all_of_list h1)]
  exact h
theorem wpList_store_all {ops : Array Oper} {rest : List Oper} {op : Oper} {a : Act} {w : World} {Q : Exit → Act → World → Prop} (hgd : op.guard = none) (ty : TypeId) (x y : Operand) (ho : op.op = .store ty x y)
    (g : Nat) (t : TypeId) (c cells : Array Value) (hx : a.eval x = .pointer (some ⟨g, 0, none⟩)) (hy : a.eval y = .agg cells)
    (hg : w.heap[g]? = some (.cells c t (0, 0))) (hi : (P.info? ty).map (·.size) = some cells.size) (hs : c.size = cells.size) (h1 : cells.toList.all (·.oneCell') = true)
    (h : wpList P ops Q rest (a.put op.dst undef) (w.setRow g cells)) : wpList P ops Q (op :: rest) a w :=
  wpList_plain hgd fun _ hK => wp_store_all ty x y ho g t c cells hx hy hg hi hs h1 (hK _ _ h)
/-- The same row stored: nothing has turned. -/
theorem wpList_store_same {ops : Array Oper} {rest : List Oper} {op : Oper} {a : Act} {w : World} {Q : Exit → Act → World → Prop} (hgd : op.guard = none) (ty : TypeId) (x y : Operand) (ho : op.op = .store ty x y)
    (g : Nat) (t : TypeId) (c : Array Value) (hx : a.eval x = .pointer (some ⟨g, 0, none⟩)) (hy : a.eval y = .agg c)
    (hg : w.heap[g]? = some (.cells c t (0, 0))) (hi : (P.info? ty).map (·.size) = some c.size) (h1 : c.toList.all (·.oneCell') = true)
    (h : wpList P ops Q rest (a.put op.dst undef) w) : wpList P ops Q (op :: rest) a w :=
  wpList_store_all hgd ty x y ho g t c c hx hy hg hi rfl h1 (by rw [setRow_self w g c t (0, 0) hg]; exact h)
/-- A struct stored into the block that was made last. -/
theorem wpList_store_new {ops : Array Oper} {rest : List Oper} {op : Oper} {a : Act} {w : World} {Q : Exit → Act → World → Prop} (hgd : op.guard = none) (ty : TypeId) (x y : Operand) (ho : op.op = .store ty x y)
    (t : TypeId) (c cells : Array Value) (hx : a.eval x = .pointer (some ⟨w.heap.size, 0, none⟩)) (hy : a.eval y = .agg cells)
    (hi : (P.info? ty).map (·.size) = some cells.size) (hs : c.size = cells.size) (h1 : cells.toList.all (·.oneCell') = true)
    (h : wpList P ops Q rest (a.put op.dst undef) (w.alloc (.cells cells t))) : wpList P ops Q (op :: rest) a (w.alloc (.cells c t)) :=
  wpList_store_all hgd ty x y ho w.heap.size t c cells hx hy (heap_alloc_new w _) hi hs h1 (by rw [World.setRow_alloc_new]; exact h)
theorem wpList_load_all {ops : Array Oper} {rest : List Oper} {op : Oper} {a : Act} {w : World} {Q : Exit → Act → World → Prop} (hgd : op.guard = none) (ty : TypeId) (x : Operand) (ho : op.op = .load ty x)
    (g : Nat) (t : TypeId) (c : Array Value) (fz : Nat × Nat) (d : TypeDesc) (hx : a.eval x = .pointer (some ⟨g, 0, none⟩)) (hg : w.heap[g]? = some (.cells c t fz))
    (hu : P.underlying ty = some d) (hd : d.isRow = true) (hi : (P.info? ty).map (·.size) = some c.size)
    (h : wpList P ops Q rest (a.put op.dst (.agg c)) w) : wpList P ops Q (op :: rest) a w :=
  wpList_load_mid hgd ty x ho g 0 hx c.toList d (range_of_row hg) hu hd (by simpa using hi) (by simpa using h)

theorem results_cell {fn : Func} {p : Tmp} {ty : TypeId} (h : fn.results = #[.cell p ty]) (tmps : Array Value) (P : Program) (w : World) :
    (results fn tmps).run P w = ((asAddr (tmps.getD p undef)).run P w).andThen fun a w₁ => (loadVar ty a).run P w₁ := by
  simp only [results, h]
  simp [Sem.run_bind, Result.andThen]
/-- A struct result, out of its own block. -/
theorem ret_cell {fn : Func} {p : Tmp} {ty : TypeId} {R : Ending → World → Prop} {a : Act} {w : World} (h : fn.results = #[.cell p ty]) (g : Nat) (t : TypeId) (c : Array Value) (fz : Nat × Nat) (d : TypeDesc)
    (hp : a.tmps.getD p undef = .pointer (some ⟨g, 0, none⟩)) (hg : w.heap[g]? = some (.cells c t fz)) (hu : P.underlying ty = some d) (hd : d.isRow = true) (hi : (P.info? ty).map (·.size) = some c.size)
    (hdf : a.defers = []) (hR : R (.returned (.agg c)) w) : bodyPost P fn R .ret a w := by
  refine bodyPost_ret (v := .agg c) ?_ hdf hR
  rw [results_cell h, hp]
  have := run_loadVar_mid (P := P) w g 0 ty c.toList d (range_of_row hg) hu hd (by simpa using hi)
  simpa [asAddr] using this

/-- A region that draws, whose first n operations only read and whose others follow them. -/
theorem region_tail {id : Nat} {Q : Exit → Act → World → Prop} {a : Act} {w : World} {l : List Oper} (n : Nat) (hm : P.follows .mixedOrders = true) (hB : Region.lexTailB .any l.toArray n = true)
    (h : wpStill P l.toArray w.drew (fun a' => wpList P l.toArray Q (l.drop n) a' w.drew) (l.take n) a) : (Code.region id l.toArray true).wp P Q a w :=
  wp_region_still_tail n hm hB h
theorem two_blocks {w w1 : World} {Z : Array Value} {t : TypeId} (h : w1 = (w.alloc (.cells Z t)).alloc (.cells Z t)) :
    w1.heap.size = w.heap.size + 2 ∧ w1.heap[w.heap.size]? = some (.cells Z t (0, 0)) ∧ w1.heap[w.heap.size + 1]? = some (.cells Z t (0, 0)) ∧ Below w.heap.size w w1 := by
  subst h
  refine ⟨by simp, ?_, ?_, ((Below.refl _ _).alloc (Nat.le_refl _) _).alloc (by simp) _⟩
  · rw [Below.heap_alloc _ _ _ (by simp)]; exact heap_alloc_new w _
  · have := heap_alloc_new (w.alloc (.cells Z t)) (.cells Z t)
    rwa [World.size_alloc] at this
theorem own_only {g base size n : Nat} {e : TypeId} {v : Value} {xs : List Value} {w w' : World} (h : w.ownsRow base e size v n xs) (ho : Only g w w') (hg : g < base) : w'.ownsRow base e size v n xs := by
  refine ⟨h.1, ?_⟩
  rcases h.2 with h' | ⟨k, cap, cur, hv, hb, hk, r⟩
  · exact .inl h'
  · exact .inr ⟨k, cap, cur, hv, hb, by rw [ho.block k (by omega)]; exact hk, r⟩
theorem own_mono {base base' size n : Nat} {e : TypeId} {v : Value} {xs : List Value} {w : World} (h : w.ownsRow base e size v n xs) (hb : base' ≤ base) : w.ownsRow base' e size v n xs := by
  refine ⟨h.1, ?_⟩
  rcases h.2 with h' | ⟨k, cap, cur, hv, hb', r⟩
  · exact .inl h'
  · exact .inr ⟨k, cap, cur, hv, by omega, r⟩
theorem heap_last (w : World) (o : Obj) : (w.alloc o).heap[w.heap.size]? = some o := heap_alloc_new w o
theorem heap_last2 (w : World) (o p : Obj) : ((w.alloc o).alloc p).heap[w.heap.size + 1]? = some p := by
  have := heap_alloc_new (w.alloc o) p
  rwa [World.size_alloc] at this
theorem heap_prev (w : World) (o p : Obj) : ((w.alloc o).alloc p).heap[w.heap.size]? = some o := by
  rw [Below.heap_alloc _ _ _ (by simp)]; exact heap_alloc_new w o
end Go.Proofs.YtegmoddppafkfaaGreatDoor
namespace Go.Proofs.YtegmoddppafkfaaGreatDoor
open Go.RowKit
open Go.PlainAid (bt get_bt bt_nonneg bt_le bt_end)

namespace Ref
theorem own_form {w : World} {base size n : Nat} {e : TypeId} {v : Value} {xs : List Value} (h : w.ownsRow base e size v n xs) (hn : 0 < n) : ∃ g cap, v = .slice (some ⟨g, 0, none⟩) n cap := by
  rcases h.2 with ⟨_, h0⟩ | ⟨g, cap, cur, hv, _⟩
  · omega
  · exact ⟨g, cap, hv⟩
def cutTo (s : ByteArray) (c : Int) : Nat → List ByteArray
  | 0 => [ByteArray.empty]
  | k + 1 => if bt s k = c then cutTo s c k ++ [ByteArray.empty] else (cutTo s c k).set ((cutTo s c k).length - 1) ((cutTo s c k)[(cutTo s c k).length - 1]?.getD ByteArray.empty ++ s.extract k (k + 1))
def cut (s : ByteArray) (c : Int) : List ByteArray := cutTo s c s.size
theorem cutTo_pos (s : ByteArray) (c : Int) : ∀ k, 0 < (cutTo s c k).length
  | 0 => by simp [cutTo]
  | k + 1 => by
    have := cutTo_pos s c k
    unfold cutTo
    split <;> simp
    exact this
theorem cutTo_le (s : ByteArray) (c : Int) : ∀ k, (cutTo s c k).length ≤ k + 1
  | 0 => by simp [cutTo]
  | k + 1 => by
    have := cutTo_le s c k
    unfold cutTo
    split <;> simp <;> omega
theorem mem_set_size {l : List ByteArray} {i B : Nat} {y : ByteArray} (h : ∀ x ∈ l, x.size ≤ B) (hy : y.size ≤ B) : ∀ x ∈ l.set i y, x.size ≤ B := by
  intro x hx
  rcases List.mem_or_eq_of_mem_set hx with h' | h'
  · exact h x h'
  · rw [h']; exact hy
theorem size_extract_one {s : ByteArray} {k : Nat} (h : k < s.size) : (s.extract k (k + 1)).size = 1 := by simp; omega
theorem cutTo_sizes (s : ByteArray) (c : Int) : ∀ k, k ≤ s.size → ∀ x ∈ cutTo s c k, x.size ≤ k
  | 0, _ => by simp [cutTo]
  | k + 1, hk => by
    have ih := cutTo_sizes s c k (by omega)
    unfold cutTo
    split
    · intro x hx
      rcases List.mem_append.1 hx with h | h
      · have := ih x h; omega
      · rw [List.mem_singleton.1 h]; exact Nat.zero_le _
    · refine mem_set_size (fun x hx => by have := ih x hx; omega) ?_
      rw [ByteArray.size_append', size_extract_one (by omega)]
      have hp := cutTo_pos s c k
      rw [List.getElem?_eq_getElem (by omega)]
      have := ih _ (List.getElem_mem (show (cutTo s c k).length - 1 < (cutTo s c k).length by omega))
      simp only [Option.getD_some]
      omega
theorem cut_yes {s : ByteArray} {c : Int} {k : Nat} (h : bt s k = c) : cutTo s c (k + 1) = cutTo s c k ++ [ByteArray.empty] := by rw [cutTo, if_pos h]
theorem cut_no {s : ByteArray} {c : Int} {k : Nat} (h : ¬ bt s k = c) : cutTo s c (k + 1) = (cutTo s c k).set ((cutTo s c k).length - 1) ((cutTo s c k)[(cutTo s c k).length - 1]?.getD ByteArray.empty ++ s.extract k (k + 1)) := by rw [cutTo, if_neg h]
end Ref
theorem Tryz.info9 : (Tryz.prog.info? 9).map (fun i => (i.zero, i.size, i.bytes)) = some (some (.string ByteArray.empty), 1, 16) := by kernel_rfl

set_option maxHeartbeats 1600000 in
set_option maxRecDepth 100000 in
theorem cut_any (s : ByteArray) (c : Int) (w : World) (hs : s.size ≤ 1073741824) :
    Calls Tryz.prog 55 #[.string s, .int .u8 c] w fun e w' => ∃ v, e = .returned v ∧ w'.ownsRow w.heap.size 9 1 v (Ref.cut s c).length ((Ref.cut s c).map Value.string) ∧ Below w.heap.size w w' := by
  obtain ⟨i0, hi, hz0, hz1, hz2⟩ := info_parts Tryz.info9
  have hb := get_bt s
  go_enter Tryz.func55, Tryz.ntmps55
  go_wp2
  go_loopw [5, 6] (fun v i wr => ∃ k : Nat, k ≤ s.size ∧ i = .int .i64 k ∧ wr.ownsRow w.heap.size 9 1 v (Ref.cutTo s c k).length ((Ref.cutTo s c k).map Value.string) ∧ Below w.heap.size w wr) (fun _ i _ => s.size - (intOf i).toNat)
  case atStart =>
    exact ⟨0, Nat.zero_le _, rfl, World.ownsRow_lit w #[.string ByteArray.empty] 1 (Nat.le_refl _) (by decide) rfl, (Below.refl _ _).alloc (Nat.le_refl _) _⟩
  case round =>
    obtain ⟨k, hk, rfl, hown, hbel⟩ := hrel
    have hpos := Ref.cutTo_pos s c k
    have hle := Ref.cutTo_le s c k
    have hsz := hbel.size
    by_cases hlt : k < s.size
    · by_cases hc : bt s k = c
      · have HC := Ref.cut_yes hc
        have HC' : Hid _ := HC
        clear HC
        have hc' : (bt s k == c) = true := by simpa using hc
        have HH : Hid _ := hc
        clear hc
        go_wp2_with (at_builtin; refine wpList_append_own _ rfl _ _ 31 rfl w.heap.size 9 i0 (.string ByteArray.empty) 1 16 Tryz.underlying31 hi hz0 hz1 hz2 rfl (by decide) _ _ _ rfl (hown.alloc _) ⟨wr.heap.size, 0, none⟩ 1 1 [.string ByteArray.empty] rfl rfl (cell_one_new _ _ _) (fun x hx => by simp at hx; subst hx; rfl) (by unfold maxLen; omega) (by omega) (by simp; omega) ?_; intro v' w3 hown' hgrow3 hnil3)
        go_roundw
        case rel => exact ⟨k + 1, by omega, by go_num, by rw [HC'.out]; simpa using hown', (hbel.alloc (by omega) _).grown hgrow3 (by simp; omega) (fun q hq => (hown.lt q hq).1)⟩
        case measure => simp [intOf]; omega
      · have HC := Ref.cut_no hc
        have HC' : Hid _ := HC
        clear HC
        have hc' : (bt s k == c) = false := by simpa using hc
        have HH : Hid _ := hc
        clear hc
        obtain ⟨g, cap, hv⟩ := Ref.own_form hown hpos
        subst hv
        generalize hL : Ref.cutTo s c k = L at *
        have hlast := hown.cellAt (L.length - 1) (by omega)
        rw [List.getElem?_map, List.getElem?_eq_getElem (by omega)] at hlast
        simp only [Option.map_some] at hlast
        have hfr := hown.frozenAt (L.length - 1)
        have hall := Ref.cutTo_sizes s c k (by omega)
        rw [hL] at hall
        have hy1 := hall _ (List.getElem_mem (show L.length - 1 < L.length by omega))
        clear hall
        have HX : Hid (Ref.cutTo s c (k + 1) = L.set (L.length - 1) (L[L.length - 1] ++ s.extract k (k + 1))) := by
          have e := HC'.out
          rw [List.getElem?_eq_getElem (by omega), Option.getD_some] at e
          exact e
        clear HC' hL
        generalize L[L.length - 1] = y at *
        have hse := Ref.size_extract_one hlt
        have hln : (1 : Int) ≤ (L.length : Int) := by omega
        have hln2 : (L.length : Int) - 1 < (L.length : Int) := by omega
        go_wp2
        go_region
        go_wp2
        go_roundw
        case rel =>
          have hst := (hown.stored (L.length - 1) (.string (y ++ s.extract k (k + 1)))).1
          refine ⟨k + 1, by omega, by go_num, ?_, (hbel.setCell (hown.lt g rfl).1 _).drew⟩
          rw [HX.out, List.map_set, List.length_set]
          exact hst.drew
        case measure => simp [intOf]; omega
    · go_wp2
      go_ret
      obtain rfl : k = s.size := by omega
      exact ⟨_, rfl, hown, hbel⟩
end Go.Proofs.YtegmoddppafkfaaGreatDoor
