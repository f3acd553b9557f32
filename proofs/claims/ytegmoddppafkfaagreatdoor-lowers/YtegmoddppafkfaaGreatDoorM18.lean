/-
  MY OWN TEXT.
-/
import Derived.Test.YtegmoddppafkfaaGreatDoorM16
import Derived.Test.YtegmoddppafkfaaGreatDoorM17
import Derived.Deep.AppendLies
import Derived.Shelf.SlicesE.Clone
import Derived.Shelf.SlGeneric
import Derived.Ground.SlgnProg
namespace Go.Proofs.YtegmoddppafkfaaGreatDoor
open Go.RowKit Go.Proofs

theorem row_set {α : Type} {f : α → List Value} {n : Nat} (hf : ∀ x, (f x).length = n) {w : World} {B g cap u j : Nat} {e : TypeId} {v : Value} {X : List α} {x' : α} (hs : w.ownsRow B e n (.slice (some ⟨g, 0, none⟩) X.length cap) X.length (X.flatMap f)) (hu : u < X.length) (hj : j < n) (hx : f x' = (f X[u]).set j v) :
    (w.setCell ⟨g, u * n + j, none⟩ v).ownsRow B e n (.slice (some ⟨g, 0, none⟩) X.length cap) X.length ((X.set u x').flatMap f) ∧ Touch e w (w.setCell ⟨g, u * n + j, none⟩ v) := by
  rcases hs.2 with ⟨h, _⟩ | ⟨g', cap', cur, h, hb, hg, h1, h2, h3, h4⟩
  · cases h
  · simp only [Value.slice.injEq, Option.some.injEq, Addr.mk.injEq, and_true, true_and] at h
    obtain ⟨rfl, rfl⟩ := h
    have oo := only_setCell w g (u * n + j) v
    refine ⟨⟨?_, .inr ⟨g, cap, cur.setIfInBounds (u * n + j) v, rfl, hb, heap_setCell_same w g _ _ _ v hg, h1, h2, by simpa using h3, ?_⟩⟩, touch_only oo hg⟩
    · have := Ref.flat_len (f := f) (n := n) hf (X.set u x')
      rw [List.length_set] at this
      exact this
    · rw [Array.toList_setIfInBounds, List.take_set, h4]
      exact flat_set (f := f) (n := n) hf X u j v x' hj hu hx
theorem turned_grown {g : Nat} {w wr wc w5 : World} {row : Option Nat} (h : Turned g w wr) (hb : Below wr.heap.size wr wc) (hg : wc.grownBy w5 row) (hr : ∀ k, row = some k → w.heap.size ≤ k) : Turned g w w5 := by
  have s1 := h.size
  have s2 := hb.size
  exact ⟨hg.os.trans (hb.os.trans h.os), hg.tape.trans (hb.tape.trans h.tape), hg.output.trans (hb.output.trans h.output), Nat.le_trans s1 (Nat.le_trans s2 hg.size), fun k hk hp => (hg.block k (by omega) (fun e => by have := hr k e.symm; omega)).trans ((hb.block k (by omega)).trans (h.block k hk hp))⟩
theorem turned_set {g o : Nat} {w w5 : World} {v : Value} (h : Turned g w w5) : Turned g w (w5.setCell ⟨g, o, none⟩ v) := h.trans (only_setCell _ _ _ _).turned
theorem turned_high {g mb o : Nat} {w w5 : World} {v : Value} (h : Turned g w w5) (hm : w.heap.size ≤ mb) : Turned g w (w5.setCell ⟨mb, o, none⟩ v) := by
  have oo := only_setCell w5 mb o v
  exact ⟨oo.os.trans h.os, oo.tape.trans h.tape, oo.output.trans h.output, by rw [oo.size]; exact h.size, fun k hk hp => (oo.block k (by omega)).trans (h.block k hk hp)⟩
/-- A state while it is lowered: where its lists lie. -/
structure LowAt (w wr : World) (B g cap : Nat) (X : List Pro.DS) (u : Nat) (x : Pro.DS) (ve vl vm : Ref.Sl) (E L : List Ref.Act) (Q : List Pro.PV) : Prop where
  turned : Turned g w wr
  states : wr.ownsRow B 242 8 (.slice (some ⟨g, 0, none⟩) X.length cap) X.length ((X.set u { x with ve := ve, vl := vl, vm := vm }).flatMap Pro.dsCells)
  enter : wr.ownsRow w.heap.size 324 1 ve.v E.length (E.map actV)
  leave : wr.ownsRow w.heap.size 324 1 vl.v L.length (L.map actV)
  moves : wr.ownsRow w.heap.size 295 5 vm.v Q.length (Q.flatMap Pro.pvCells)
  ap : apart ve vl
section
variable {w wr : World} {B g cap : Nat} {X : List Pro.DS} {u : Nat} {x : Pro.DS} {ve vl vm : Ref.Sl} {E L : List Ref.Act} {Q : List Pro.PV}
theorem LowAt.keep {wr' : World} (G : LowAt w wr B g cap X u x ve vl vm E L Q) (hb : Below wr.heap.size wr wr') : LowAt w wr' B g cap X u x ve vl vm E L Q :=
  ⟨G.turned.trans (turned_of_below hb), own_keep G.states hb, own_keep G.enter hb, own_keep G.leave hb, own_keep G.moves hb, G.ap⟩
theorem LowAt.cell (G : LowAt w wr B g cap X u x ve vl vm E L Q) (hu : u < X.length) (j : Nat) (hj : j < 8) : wr.cell? ⟨g, u * 8 + j, none⟩ = (Pro.dsCells { x with ve := ve, vl := vl, vm := vm })[j]? := by
  have hlt : u * 8 + j < X.length * 8 := by omega
  have hu' : u < (X.set u { x with ve := ve, vl := vl, vm := vm }).length := by rw [List.length_set]; exact hu
  rw [G.states.cellAt (u * 8 + j) hlt, Ref.flat_get (f := Pro.dsCells) (n := 8) (fun _ => rfl) _ u j hj hu', List.getElem_set_self]
theorem LowAt.frozen (G : LowAt w wr B g cap X u x ve vl vm E L Q) (j : Nat) : wr.frozen? ⟨g, j, none⟩ = false := World.ownsRow.frozenAt (own_mono G.states (Nat.zero_le _)) _
theorem LowAt.glt (G : LowAt w wr B g cap X u x ve vl vm E L Q) : B ≤ g ∧ g < wr.heap.size := World.ownsRow.lt G.states g rfl
theorem LowAt.eneg (G : LowAt w wr B g cap X u x ve vl vm E L Q) : some g ≠ ve.v.ownBlock ∧ some g ≠ vl.v.ownBlock ∧ some g ≠ vm.v.ownBlock := by
  obtain ⟨c', hc'⟩ := own_kind G.states g rfl
  refine ⟨fun e => ?_, fun e => ?_, fun e => ?_⟩
  · obtain ⟨c, hc⟩ := own_kind G.enter _ e.symm
    rw [hc] at hc'; simp at hc'
  · obtain ⟨c, hc⟩ := own_kind G.leave _ e.symm
    rw [hc] at hc'; simp at hc'
  · obtain ⟨c, hc⟩ := own_kind G.moves _ e.symm
    rw [hc] at hc'; simp at hc'
/-- One more action at the state's entry. -/
theorem LowAt.addEnter {wc w5 : World} {ve' : Ref.Sl} {a : Ref.Act} (G : LowAt w wr B g cap X u x ve vl vm E L Q) (hu : u < X.length) (hb : Below wr.heap.size wr wc) (hg : wc.grownBy w5 ve.v.ownBlock)
    (hown : w5.ownsRow w.heap.size 324 1 ve'.v (E.length + 1) (E.map actV ++ [actV a])) (hat : ve'.v.ownBlock = ve.v.ownBlock ∨ ve'.v.ownBlock = some wc.heap.size) :
    LowAt w (w5.setCell ⟨g, u * 8 + 5, none⟩ ve'.v) B g cap X u x ve' vl vm (E ++ [a]) L Q := by
  have Gc := G.keep hb
  have hlt := fun k h => (World.ownsRow.lt Gc.enter k h).1
  have T1 := touch_grown Gc.enter hg
  have hu' : u < (X.set u { x with ve := ve, vl := vl, vm := vm }).length := by rw [List.length_set]; exact hu
  have hs5 := own_touch Gc.states T1 (by decide)
  have hr := row_set (f := Pro.dsCells) (n := 8) (fun _ => rfl) (X := X.set u { x with ve := ve, vl := vl, vm := vm }) (u := u) (j := 5) (v := ve'.v) (x' := { x with ve := ve', vl := vl, vm := vm }) (by rw [List.length_set]; exact hs5) hu' (by decide) (by rw [List.getElem_set_self]; rfl)
  obtain ⟨hrow, T2⟩ := hr
  rw [List.set_set, List.length_set] at hrow
  refine ⟨turned_set (turned_grown G.turned hb hg hlt), hrow, ?_, ?_, own_touch (own_touch Gc.moves T1 (by decide)) T2 (by decide), ?_⟩
  · rw [List.length_append, List.map_append]
    exact own_touch hown T2 (by decide)
  · refine own_touch (Gc.leave.kept hg ?_) T2 (by decide)
    rcases G.ap with h1 | h1
    · rw [h1]; cases vl.v.ownBlock <;> simp
    · exact .inr (fun e => h1 e.symm)
  · have hap := G.ap
    unfold apart at hap ⊢
    rcases hat with e | e
    · rw [e]; exact hap
    · rw [e]
      refine .inr (fun e2 => ?_)
      have := (World.ownsRow.lt Gc.leave _ e2.symm).2
      omega
/-- One more action at its leaving. -/
theorem LowAt.addLeave {wc w5 : World} {vl' : Ref.Sl} {a : Ref.Act} (G : LowAt w wr B g cap X u x ve vl vm E L Q) (hu : u < X.length) (hb : Below wr.heap.size wr wc) (hg : wc.grownBy w5 vl.v.ownBlock)
    (hown : w5.ownsRow w.heap.size 324 1 vl'.v (L.length + 1) (L.map actV ++ [actV a])) (hat : vl'.v.ownBlock = vl.v.ownBlock ∨ vl'.v.ownBlock = some wc.heap.size) :
    LowAt w (w5.setCell ⟨g, u * 8 + 6, none⟩ vl'.v) B g cap X u x ve vl' vm E (L ++ [a]) Q := by
  have Gc := G.keep hb
  have hlt := fun k h => (World.ownsRow.lt Gc.leave k h).1
  have T1 := touch_grown Gc.leave hg
  have hu' : u < (X.set u { x with ve := ve, vl := vl, vm := vm }).length := by rw [List.length_set]; exact hu
  have hs5 := own_touch Gc.states T1 (by decide)
  have hr := row_set (f := Pro.dsCells) (n := 8) (fun _ => rfl) (X := X.set u { x with ve := ve, vl := vl, vm := vm }) (u := u) (j := 6) (v := vl'.v) (x' := { x with ve := ve, vl := vl', vm := vm }) (by rw [List.length_set]; exact hs5) hu' (by decide) (by rw [List.getElem_set_self]; rfl)
  obtain ⟨hrow, T2⟩ := hr
  rw [List.set_set, List.length_set] at hrow
  refine ⟨turned_set (turned_grown G.turned hb hg hlt), hrow, ?_, ?_, own_touch (own_touch Gc.moves T1 (by decide)) T2 (by decide), ?_⟩
  · exact own_touch (Gc.enter.kept hg G.ap) T2 (by decide)
  · rw [List.length_append, List.map_append]
    exact own_touch hown T2 (by decide)
  · have hap := G.ap
    unfold apart at hap ⊢
    rcases hat with e | e
    · rw [e]; exact hap
    · rw [e]
      refine .inr (fun e2 => ?_)
      have := (World.ownsRow.lt Gc.enter _ e2).2
      omega
/-- A move loses its delay. -/
theorem LowAt.setMove {mb cm j : Nat} (G : LowAt w wr B g cap X u x ve vl ⟨some ⟨mb, 0, none⟩, Q.length, cm⟩ E L Q) (hj : j < Q.length) :
    LowAt w ((wr.setCell ⟨mb, j * 5 + 1, none⟩ (.bool false)).setCell ⟨mb, j * 5 + 2, none⟩ (.int .u64 0)) B g cap X u x ve vl ⟨some ⟨mb, 0, none⟩, Q.length, cm⟩ E L (Q.set j { Q[j] with m := { Q[j].m with after := false, delay := 0 } }) := by
  have hmb := (World.ownsRow.lt G.moves mb rfl).1
  obtain ⟨r1, T1⟩ := row_set (f := Pro.pvCells) (n := 5) (fun _ => rfl) (X := Q) (u := j) (j := 1) (v := .bool false) (x' := { Q[j] with m := { Q[j].m with after := false } }) (show wr.ownsRow w.heap.size 295 5 (.slice (some ⟨mb, 0, none⟩) Q.length cm) Q.length (Q.flatMap Pro.pvCells) from G.moves) hj (by decide) rfl
  have hj' : j < (Q.set j { Q[j] with m := { Q[j].m with after := false } }).length := by rw [List.length_set]; exact hj
  obtain ⟨r2, T2⟩ := row_set (f := Pro.pvCells) (n := 5) (fun _ => rfl) (X := Q.set j { Q[j] with m := { Q[j].m with after := false } }) (u := j) (j := 2) (v := .int .u64 0) (x' := { Q[j] with m := { Q[j].m with after := false, delay := 0 } }) (by rw [List.length_set]; exact r1) hj' (by decide) (by rw [List.getElem_set_self]; rfl)
  rw [List.set_set, List.length_set] at r2
  refine ⟨turned_high (turned_high G.turned hmb) hmb, own_touch (own_touch G.states T1 (by decide)) T2 (by decide), own_touch (own_touch G.enter T1 (by decide)) T2 (by decide), own_touch (own_touch G.leave T1 (by decide)) T2 (by decide), ?_, G.ap⟩
  rw [List.length_set]
  exact r2
/-- The lists are cloned, and the clones put into their places. -/
theorem LowAt.begin {w3 : World} (hs : w.ownsRow B 242 8 (.slice (some ⟨g, 0, none⟩) X.length cap) X.length (X.flatMap Pro.dsCells)) (hu : u < X.length) (hx : X[u] = x) (hb : Below w.heap.size w w3)
    (he : w3.ownsRow w.heap.size 324 1 ve.v E.length (E.map actV)) (hl : w3.ownsRow w.heap.size 324 1 vl.v L.length (L.map actV)) (hm : w3.ownsRow w.heap.size 295 5 vm.v Q.length (Q.flatMap Pro.pvCells)) (hap : apart ve vl) :
    LowAt w (((w3.setCell ⟨g, u * 8 + 5, none⟩ ve.v).setCell ⟨g, u * 8 + 6, none⟩ vl.v).setCell ⟨g, u * 8 + 7, none⟩ vm.v) B g cap X u x ve vl vm E L Q := by
  have hs3 := own_keep hs hb
  obtain ⟨r1, T1⟩ := row_set (f := Pro.dsCells) (n := 8) (fun _ => rfl) (X := X) (u := u) (j := 5) (v := ve.v) (x' := { x with ve := ve }) hs3 hu (by decide) (by rw [hx]; rfl)
  have hu1 : u < (X.set u { x with ve := ve }).length := by rw [List.length_set]; exact hu
  obtain ⟨r2, T2⟩ := row_set (f := Pro.dsCells) (n := 8) (fun _ => rfl) (X := X.set u { x with ve := ve }) (u := u) (j := 6) (v := vl.v) (x' := { x with ve := ve, vl := vl }) (by rw [List.length_set]; exact r1) hu1 (by decide) (by rw [List.getElem_set_self]; rfl)
  rw [List.set_set, List.length_set] at r2
  have hu2 : u < (X.set u { x with ve := ve, vl := vl }).length := by rw [List.length_set]; exact hu
  obtain ⟨r3, T3⟩ := row_set (f := Pro.dsCells) (n := 8) (fun _ => rfl) (X := X.set u { x with ve := ve, vl := vl }) (u := u) (j := 7) (v := vm.v) (x' := { x with ve := ve, vl := vl, vm := vm }) (by rw [List.length_set]; exact r2) hu2 (by decide) (by rw [List.getElem_set_self]; rfl)
  rw [List.set_set, List.length_set] at r3
  have T := (T1.trans T2).trans T3
  exact ⟨turned_set (turned_set (turned_set (turned_of_below hb))), r3, own_touch he T (by decide), own_touch hl T (by decide), own_touch hm T (by decide), hap⟩
end
namespace Pro
/-- A move without its delay. -/
def lowMove (m : Ref.Move) : Ref.Move := if m.after then { m with after := false, delay := 0 } else m
/-- A state without moves behind a delay. -/
def lowS (x : Ref.State) : Ref.State := { x with enter := Ref.inTo x x.moves.length, leave := Ref.outTo x x.moves.length, moves := x.moves.map lowMove }
end Pro
/-- A move without its delay, as it lies. -/
def Pro.lowPV (y : Pro.PV) : Pro.PV := { y with m := Pro.lowMove y.m }
def Pro.movesAt (M : List Pro.PV) (j : Nat) : List Pro.PV := (M.take j).map Pro.lowPV ++ M.drop j
theorem Pro.movesAt_len (M : List Pro.PV) (j : Nat) (hj : j ≤ M.length) : (Pro.movesAt M j).length = M.length := by
  unfold Pro.movesAt
  simp only [List.length_append, List.length_map, List.length_take, List.length_drop]; omega
theorem Pro.movesAt_at (M : List Pro.PV) (j i : Nat) (hj : j ≤ M.length) : (Pro.movesAt M j)[i]? = if i < j then (M[i]?).map Pro.lowPV else M[i]? := by
  have hl : ((M.take j).map Pro.lowPV).length = j := by rw [List.length_map, List.length_take]; omega
  unfold Pro.movesAt
  by_cases c : i < j
  · rw [if_pos c, List.getElem?_append_left (by rw [hl]; exact c), List.getElem?_map, List.getElem?_take_of_lt c]
  · rw [if_neg c, List.getElem?_append_right (by rw [hl]; omega), hl, List.getElem?_drop]
    congr 1; omega
theorem Pro.movesAt_get (M : List Pro.PV) (j : Nat) (hj : j < M.length) (h : j < (Pro.movesAt M j).length) : (Pro.movesAt M j)[j] = M[j] := by
  have := Pro.movesAt_at M j j (by omega)
  rw [if_neg (by omega), List.getElem?_eq_getElem h, List.getElem?_eq_getElem hj] at this
  exact Option.some.inj this
theorem Pro.movesAt_next (M : List Pro.PV) (j : Nat) (hj : j < M.length) : Pro.movesAt M (j + 1) = (Pro.movesAt M j).set j (Pro.lowPV M[j]) := by
  have hl := Pro.movesAt_len M j (by omega)
  apply List.ext_getElem?
  intro i
  rw [Pro.movesAt_at M (j + 1) i (by omega), List.getElem?_set, Pro.movesAt_at M j i (by omega)]
  by_cases e : j = i
  · subst e
    rw [if_pos (by omega), if_pos rfl, if_pos (by rw [hl]; exact hj), List.getElem?_eq_getElem hj]; rfl
  · rw [if_neg e]
    by_cases c : i < j
    · rw [if_pos (by omega), if_pos c]
    · rw [if_neg (by omega), if_neg c]
theorem Pro.movesAt_skip (M : List Pro.PV) (j : Nat) (hj : j < M.length) (ha : M[j].m.after = false) : Pro.movesAt M (j + 1) = Pro.movesAt M j := by
  rw [Pro.movesAt_next M j hj]
  have e : Pro.lowPV M[j] = M[j] := by
    unfold Pro.lowPV Pro.lowMove
    rw [ha]; rfl
  rw [e, ← Pro.movesAt_get M j hj (by rw [Pro.movesAt_len M j (by omega)]; exact hj)]
  exact List.set_getElem_self _
theorem Pro.movesAt_all (M : List Pro.PV) : Pro.movesAt M M.length = M.map Pro.lowPV := by
  unfold Pro.movesAt
  simp
end Go.Proofs.YtegmoddppafkfaaGreatDoor
namespace Go.Proofs.YtegmoddppafkfaaGreatDoor
open Go.RowKit Go.Proofs Go.Shelf

def Tryz.laysCA_ren : Go.Shelf.Ren := ⟨fun | 41 => 164 | n => n, fun | 22 => 239 | 23 => 324 | 4 => 4 | n => n, fun | n => n⟩
theorem Tryz.laysCA : Go.Proofs.SlLaysE0.n41 Tryz.prog Tryz.laysCA_ren where
  mixed := by kernel_rfl
  f41 := ⟨Tryz.f164.name, by decide, Tryz.func164.trans (congrArg some (by kernel_rfl))⟩
  t4 := Tryz.underlying4
  a4 := Tryz.isAgg4
  z4 := Tryz.sizeOf4
  v4 := Tryz.zeroValue4
  t22 := Tryz.underlying239
  a22 := Tryz.isAgg239
  z22 := Tryz.sizeOf239
  v22 := Tryz.zeroValue239
def Tryz.laysCM_ren : Go.Shelf.Ren := ⟨fun | 41 => 165 | n => n, fun | 22 => 240 | 23 => 295 | 4 => 4 | n => n, fun | n => n⟩
theorem Tryz.laysCM : Go.Proofs.SlLaysE0.n41 Tryz.prog Tryz.laysCM_ren where
  mixed := by kernel_rfl
  f41 := ⟨Tryz.f165.name, by decide, Tryz.func165.trans (congrArg some (by kernel_rfl))⟩
  t4 := Tryz.underlying4
  a4 := Tryz.isAgg4
  z4 := Tryz.sizeOf4
  v4 := Tryz.zeroValue4
  t22 := Tryz.underlying240
  a22 := Tryz.isAgg240
  z22 := Tryz.sizeOf240
  v22 := Tryz.zeroValue240
def Tryz.laysCS_ren : Go.Shelf.Ren := ⟨fun | 41 => 119 | n => n, fun | 22 => 226 | 23 => 242 | 4 => 4 | n => n, fun | n => n⟩
theorem Tryz.laysCS : Go.Proofs.SlLaysE0.n41 Tryz.prog Tryz.laysCS_ren where
  mixed := by kernel_rfl
  f41 := ⟨Tryz.f119.name, by decide, Tryz.func119.trans (congrArg some (by kernel_rfl))⟩
  t4 := Tryz.underlying4
  a4 := Tryz.isAgg4
  z4 := Tryz.sizeOf4
  v4 := Tryz.zeroValue4
  t22 := Tryz.underlying226
  a22 := Tryz.isAgg226
  z22 := Tryz.sizeOf226
  v22 := Tryz.zeroValue226
theorem Tryz.infoMoveN : (Tryz.prog.info? 295).map (fun i => (i.zero, i.size, i.bytes)) = some (some (.agg #[.string ByteArray.empty, .bool false, .int .u64 0, .string ByteArray.empty, .slice none 0 0]), 5, 72) := by kernel_rfl
theorem Tryz.infoStateN : (Tryz.prog.info? 242).map (fun i => (i.zero, i.size, i.bytes)) = some (some (.agg #[.int .i64 0, .string ByteArray.empty, .int .i64 0, .int .i64 0, .slice none 0 0, .slice none 0 0, .slice none 0 0, .slice none 0 0]), 8, 136) := by kernel_rfl
theorem news_at {w : World} {B : Nat} {e : TypeId} {n g cap m : Nat} {xs : List Value} (h : w.ownsRow B e n (.slice (some ⟨g, 0, none⟩) m cap) m xs) : ∀ j u, xs[j]? = some u → w.cell? ⟨g, 0 + j, none⟩ = some u := by
  intro j u hj
  have hlt : j < m * n := by rw [← h.1]; exact (List.getElem?_eq_some_iff.1 hj).1
  rw [Nat.zero_add, h.cellAt j hlt]; exact hj
theorem actV_one (a : Ref.Act) : (actV a).oneCell' = true := by
  unfold actV sendV
  repeat' split
  all_goals rfl
/-- What Clone answers. -/
def CloneP (e : TypeId) (size n : Nat) (xs : List Value) (w : World) (en : Ending) (w' : World) : Prop := ∃ s : Ref.Sl, en = .returned (.slice s.a s.n s.c) ∧ w'.ownsRow w.heap.size e size s.v n xs ∧ Below w.heap.size w w'
theorem sl_of {w : World} {B size n : Nat} {e : TypeId} {v : Value} {xs : List Value} (h : w.ownsRow B e size v n xs) : ∃ s : Ref.Sl, v = s.v := by
  obtain ⟨a, k, c, rfl⟩ := Ref.own_slice h
  exact ⟨⟨a, k, c⟩, rfl⟩
theorem cloneA_any (a : Option Addr) (n c : Nat) (A : List Ref.Act) (w : World) (h : w.ownsRow 0 324 1 (.slice a n c) A.length (A.map actV)) (hl : A.length ≤ 1000000) :
    Calls Tryz.prog 164 #[.slice a n c] w (CloneP 324 1 A.length (A.map actV) w) := by
  rcases h.2 with ⟨h0, hn⟩ | ⟨g, cap, cur, h0, _⟩
  · cases h0
    refine (AnyE.slices_Clone_nil Tryz.laysCA 0 0 w).mono ?_
    rintro e w' ⟨rfl, rfl⟩
    have e0 : A = [] := List.eq_nil_of_length_eq_zero hn
    subst e0
    exact ⟨Ref.Sl.nil, rfl, World.ownsRow_nil _ _ _ _, Below.refl _ _⟩
  · obtain ⟨i0, hi, hz0, hz1, hz2⟩ := info_parts Tryz.infoAction
    rw [h0] at h ⊢
    refine (AnyE.slices_Clone Tryz.laysCA i0 .nilIface 1 16 hi hz0 hz1 hz2 rfl (by decide) (fun w => by kernel_rfl) g 0 A.length cap (A.map actV) w h.1 (by unfold maxLen; omega) (by omega) (news_at h) ?_).mono ?_
    · intro u hu
      obtain ⟨x, _, rfl⟩ := List.mem_map.1 hu
      exact actV_one x
    · rintro e w' ⟨v', rfl, ho, _, hb⟩
      obtain ⟨s, rfl⟩ := sl_of ho
      exact ⟨s, rfl, ho, hb⟩
theorem cloneM_any (a : Option Addr) (n c : Nat) (M : List Pro.PV) (w : World) (h : w.ownsRow 0 295 5 (.slice a n c) M.length (M.flatMap Pro.pvCells)) (hl : M.length ≤ 1000000) :
    Calls Tryz.prog 165 #[.slice a n c] w (CloneP 295 5 M.length (M.flatMap Pro.pvCells) w) := by
  rcases h.2 with ⟨h0, hn⟩ | ⟨g, cap, cur, h0, _⟩
  · cases h0
    refine (AnyE.slices_Clone_nil Tryz.laysCM 0 0 w).mono ?_
    rintro e w' ⟨rfl, rfl⟩
    have e0 : M = [] := List.eq_nil_of_length_eq_zero hn
    subst e0
    exact ⟨Ref.Sl.nil, rfl, World.ownsRow_nil _ _ _ _, Below.refl _ _⟩
  · obtain ⟨i0, hi, hz0, hz1, hz2⟩ := info_parts Tryz.infoMoveN
    rw [h0] at h ⊢
    refine (AnyE.slices_Clone Tryz.laysCM i0 _ 5 72 hi hz0 hz1 hz2 rfl (by decide) (fun w => by kernel_rfl) g 0 M.length cap (M.flatMap Pro.pvCells) w h.1 (by unfold maxLen; omega) (by omega) (news_at h) ?_).mono ?_
    · intro u hu
      obtain ⟨x, _, hx⟩ := List.mem_flatMap.1 hu
      simp only [Pro.pvCells, List.mem_cons, List.not_mem_nil, or_false] at hx
      rcases hx with rfl | rfl | rfl | rfl | rfl <;> rfl
    · rintro e w' ⟨v', rfl, ho, _, hb⟩
      obtain ⟨s, rfl⟩ := sl_of ho
      exact ⟨s, rfl, ho, hb⟩
theorem cloneS_any (a : Option Addr) (n c : Nat) (X : List Pro.DS) (w : World) (h : w.ownsRow 0 242 8 (.slice a n c) X.length (X.flatMap Pro.dsCells)) (hl : X.length ≤ 1000000) :
    Calls Tryz.prog 119 #[.slice a n c] w (CloneP 242 8 X.length (X.flatMap Pro.dsCells) w) := by
  rcases h.2 with ⟨h0, hn⟩ | ⟨g, cap, cur, h0, _⟩
  · cases h0
    refine (AnyE.slices_Clone_nil Tryz.laysCS 0 0 w).mono ?_
    rintro e w' ⟨rfl, rfl⟩
    have e0 : X = [] := List.eq_nil_of_length_eq_zero hn
    subst e0
    exact ⟨Ref.Sl.nil, rfl, World.ownsRow_nil _ _ _ _, Below.refl _ _⟩
  · obtain ⟨i0, hi, hz0, hz1, hz2⟩ := info_parts Tryz.infoStateN
    rw [h0] at h ⊢
    refine (AnyE.slices_Clone Tryz.laysCS i0 _ 8 136 hi hz0 hz1 hz2 rfl (by decide) (fun w => by kernel_rfl) g 0 X.length cap (X.flatMap Pro.dsCells) w h.1 (by unfold maxLen; omega) (by omega) (news_at h) ?_).mono ?_
    · intro u hu
      obtain ⟨x, _, hx⟩ := List.mem_flatMap.1 hu
      simp only [Pro.dsCells, List.mem_cons, List.not_mem_nil, or_false] at hx
      rcases hx with rfl | rfl | rfl | rfl | rfl | rfl | rfl | rfl <;> rfl
    · rintro e w' ⟨v', rfl, ho, _, hb⟩
      obtain ⟨s, rfl⟩ := sl_of ho
      exact ⟨s, rfl, ho, hb⟩
end Go.Proofs.YtegmoddppafkfaaGreatDoor
