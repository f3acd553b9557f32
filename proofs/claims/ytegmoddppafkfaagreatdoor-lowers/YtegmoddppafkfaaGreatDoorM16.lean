/-
  MY OWN TEXT.
-/
import Derived.Test.YtegmoddppafkfaaGreatDoorM15
import Derived.Maps.Own
import Derived.Maps.OwnSet
import Derived.Maps.OwnOps
import Derived.Maps.Views
namespace Go.Proofs.YtegmoddppafkfaaGreatDoor
open Go.RowKit

namespace Pro
/-- The kind of a state, as the program numbers it. -/
def kindOf (s : Ref.State) : Int := if s.word.toList == Ref.cState then 0 else if s.word.toList == Ref.cParallel then 1 else if s.word.toList == Ref.cFinal then 2 else if s.deep then 4 else 3
/-- A state in the draft: the state, and where its lists lie. -/
structure DS where
  s : Ref.State
  vp : Ref.Sl
  ve : Ref.Sl
  vl : Ref.Sl
  vm : Ref.Sl
def dsCells (x : DS) : List Value := [.int .i64 (kindOf x.s), .string x.s.name, .int .i64 x.s.depth, .int .i64 x.s.up, .slice x.vp.a x.vp.n x.vp.c, .slice x.ve.a x.ve.n x.ve.c, .slice x.vl.a x.vl.n x.vl.c, .slice x.vm.a x.vm.n x.vm.c]
structure PV where
  m : Ref.Move
  v : Ref.Sl
def pvCells (x : PV) : List Value := [.string x.m.event, .bool x.m.after, .int .u64 x.m.delay, .string x.m.to, .slice x.v.a x.v.n x.v.c]
def spotCells (p : Int × Int) : List Value := [.int .i64 p.1, .int .i64 p.2]
end Pro
/-- Of what stood, rows of one type of element alone may have turned. -/
structure Touch (e : TypeId) (w w' : World) : Prop where
  size : w.heap.size ≤ w'.heap.size
  block : ∀ k, k < w.heap.size → (∀ c fz, w.heap[k]? ≠ some (.cells c e fz)) → w'.heap[k]? = w.heap[k]?
theorem Touch.trans {e : TypeId} {a b c : World} (h : Touch e a b) (k : Touch e b c) : Touch e a c :=
  ⟨Nat.le_trans h.size k.size, fun i hi hn => by
    have h1 := h.block i hi hn
    rw [k.block i (Nat.lt_of_lt_of_le hi h.size) (by rw [h1]; exact hn), h1]⟩
theorem touch_below {e : TypeId} {w w' : World} (h : Below w.heap.size w w') : Touch e w w' := ⟨h.size, fun k hk _ => h.block k hk⟩
theorem touch_only {e : TypeId} {w w' : World} {g : Nat} {c : Array Value} {fz : Nat × Nat} (h : Only g w w') (hg : w.heap[g]? = some (.cells c e fz)) : Touch e w w' :=
  ⟨by rw [h.size]; exact Nat.le_refl _, fun k _ hn => h.block k (fun e0 => by subst e0; exact hn _ _ hg)⟩
theorem own_kind {base size n : Nat} {e : TypeId} {v : Value} {xs : List Value} {w : World} (h : w.ownsRow base e size v n xs) (g : Nat) (hg : v.ownBlock = some g) : ∃ c, w.heap[g]? = some (.cells c e (0, 0)) := by
  rcases h.2 with ⟨hv, _⟩ | ⟨k, cap, cur, hv, _, hk, _⟩
  · rw [hv] at hg; simp [Value.ownBlock] at hg
  · rw [hv] at hg
    simp [Value.ownBlock] at hg
    subst hg; exact ⟨_, hk⟩
theorem touch_grown {e : TypeId} {base size n : Nat} {v : Value} {xs : List Value} {w w' : World} (h : w.ownsRow base e size v n xs) (hg : w.grownBy w' v.ownBlock) : Touch e w w' :=
  ⟨hg.size, fun k hk hn => hg.block k hk (fun e0 => by obtain ⟨c, hc⟩ := own_kind h k e0.symm; exact hn _ _ hc)⟩
theorem own_touch {e e' : TypeId} {base size n : Nat} {v : Value} {xs : List Value} {w w' : World} (h : w.ownsRow base e' size v n xs) (T : Touch e w w') (hne : e' ≠ e) : w'.ownsRow base e' size v n xs := by
  refine ⟨h.1, ?_⟩
  rcases h.2 with h' | ⟨k, cap, cur, hv, hb, hk, r⟩
  · exact .inl h'
  · refine .inr ⟨k, cap, cur, hv, hb, ?_, r⟩
    rw [T.block k (Array.getElem?_eq_some_iff.1 hk).1 (fun c fz h' => by rw [hk] at h'; simp at h'; exact hne h'.2.1)]
    exact hk
theorem map_touch {H : Type} {e k : TypeId} {P : Program} {R : Value → Option (DataW H × List MemPlace)} {b n : Nat} {D : DataW H} {w w' : World} (h : w.ownsMap P k R b n D) (T : Touch e w w') : w'.ownsMap P k R b n D := by
  obtain ⟨es, clock, hb, r⟩ := h
  refine ⟨es, clock, ?_, r⟩
  rw [T.block b (Array.getElem?_eq_some_iff.1 hb).1 (fun c fz h' => by rw [hb] at h'; cases h')]
  exact hb
theorem cells_touch {e e' : TypeId} {g : Nat} {c : Array Value} {fz : Nat × Nat} {w w' : World} (h : w.heap[g]? = some (.cells c e' fz)) (T : Touch e w w') (hne : e' ≠ e) : w'.heap[g]? = some (.cells c e' fz) := by
  rw [T.block g (Array.getElem?_eq_some_iff.1 h).1 (fun c fz h' => by rw [h] at h'; simp at h'; exact hne h'.2.1)]
  exact h
/-- What a state has beside its own cells. -/
structure DeepP (w0 w : World) (x : Pro.DS) : Prop where
  moves : ∃ M : List Pro.PV, M.map (·.m) = x.s.moves ∧ w.ownsRow w0.heap.size 295 5 x.vm.v M.length (M.flatMap Pro.pvCells) ∧ ∀ y ∈ M, w0.ownsRow 0 324 1 y.v.v y.m.acts.length (y.m.acts.map actV)
  enter : w0.ownsRow 0 324 1 x.ve.v x.s.enter.length (x.s.enter.map actV)
  leave : w0.ownsRow 0 324 1 x.vl.v x.s.leave.length (x.s.leave.map actV)
def draftCells (sv pv ov : Ref.Sl) (mb : Nat) (tm : Bool) : Array Value := #[.slice sv.a sv.n sv.c, .slice pv.a pv.n pv.c, .slice ov.a ov.n ov.c, .map (some mb), .bool tm]
def apart (a b : Ref.Sl) : Prop := a.v.ownBlock = none ∨ a.v.ownBlock ≠ b.v.ownBlock
abbrev FirstMap (w : World) (mb nm : Nat) (D : DataW Nat) : Prop := w.ownsMap Tryz.prog 9 (plainElem Tryz.prog 3) mb nm D
structure DraftG (w0 w : World) (db : Nat) (sv pv ov : Ref.Sl) (mb : Nat) (tm : Bool) (X : List Pro.DS) (SP : List (Int × Int)) (O : List Nat) (PT : Nat → List Nat) (nm : Nat) (D : DataW Nat) : Prop where
  bel : Below w0.heap.size w0 w
  hdb : w0.heap.size ≤ db
  hmb : w0.heap.size ≤ mb
  draft : w.heap[db]? = some (.cells (draftCells sv pv ov mb tm) 230 (0, 0))
  states : w.ownsRow w0.heap.size 242 8 sv.v X.length (X.flatMap Pro.dsCells)
  spots : w.ownsRow w0.heap.size 286 2 pv.v SP.length (SP.flatMap Pro.spotCells)
  opens : w.ownsRow w0.heap.size 3 1 ov.v O.length (O.flatMap intCell)
  parts : ∀ i (h : i < X.length), w.ownsRow w0.heap.size 3 1 X[i].vp.v (PT i).length ((PT i).flatMap intCell)
  apartO : ∀ i (h : i < X.length), apart ov X[i].vp
  apartI : ∀ i j (hi : i < X.length) (hj : j < X.length), i ≠ j → apart X[i].vp X[j].vp
  deep : ∀ i (h : i < X.length), DeepP w0 w X[i]
  apartM : ∀ i j (hi : i < X.length) (hj : j < X.length), i ≠ j → apart X[i].vm X[j].vm
  map : FirstMap w mb nm D
variable {w0 w : World} {db mb nm : Nat} {sv pv ov : Ref.Sl} {tm : Bool} {X : List Pro.DS} {SP : List (Int × Int)} {O : List Nat} {PT : Nat → List Nat} {D : DataW Nat}
theorem DeepP.touch {w' : World} {x : Pro.DS} {e : TypeId} (h : DeepP w0 w x) (T : Touch e w w') (hne : 295 ≠ e) : DeepP w0 w' x :=
  ⟨let ⟨M, h1, h2, h3⟩ := h.moves; ⟨M, h1, own_touch h2 T hne, h3⟩, h.enter, h.leave⟩
theorem DraftG.keep {w' : World} (G : DraftG w0 w db sv pv ov mb tm X SP O PT nm D) (hb : Below w.heap.size w w') : DraftG w0 w' db sv pv ov mb tm X SP O PT nm D :=
  have T : Touch 0 w w' := touch_below hb
  ⟨G.bel.trans (hb.mono G.bel.size), G.hdb, G.hmb, cells_touch G.draft T (by decide), own_touch G.states T (by decide), own_touch G.spots T (by decide), own_touch G.opens T (by decide), fun i h => own_touch (G.parts i h) T (by decide), G.apartO, G.apartI, fun i h => (G.deep i h).touch T (by decide), G.apartM, map_touch G.map T⟩
theorem DraftG.dlt (G : DraftG w0 w db sv pv ov mb tm X SP O PT nm D) : db < w.heap.size := (Array.getElem?_eq_some_iff.1 G.draft).1
theorem DraftG.sv_eq (G : DraftG w0 w db sv pv ov mb tm X SP O PT nm D) : sv.n = X.length := by
  rcases G.states.2 with ⟨h, h0⟩ | ⟨g, cap, cur, h, _⟩
  · simp [Ref.Sl.v] at h; rw [h0]; exact h.2.1
  · simp [Ref.Sl.v] at h; exact h.2.1
theorem DraftG.ov_eq (G : DraftG w0 w db sv pv ov mb tm X SP O PT nm D) : ov.n = O.length := by
  rcases G.opens.2 with ⟨h, h0⟩ | ⟨g, cap, cur, h, _⟩
  · simp [Ref.Sl.v] at h; rw [h0]; exact h.2.1
  · simp [Ref.Sl.v] at h; exact h.2.1
theorem DraftG.pv_eq (G : DraftG w0 w db sv pv ov mb tm X SP O PT nm D) : pv.n = SP.length := by
  rcases G.spots.2 with ⟨h, h0⟩ | ⟨g, cap, cur, h, _⟩
  · simp [Ref.Sl.v] at h; rw [h0]; exact h.2.1
  · simp [Ref.Sl.v] at h; exact h.2.1
theorem DraftG.cells (G : DraftG w0 w db sv pv ov mb tm X SP O PT nm D) : w.cell? ⟨db, 0, none⟩ = some (.slice sv.a sv.n sv.c) ∧ w.cell? ⟨db, 1, none⟩ = some (.slice pv.a pv.n pv.c) ∧ w.cell? ⟨db, 2, none⟩ = some (.slice ov.a ov.n ov.c) ∧ w.cell? ⟨db, 3, none⟩ = some (.map (some mb)) ∧ w.cell? ⟨db, 4, none⟩ = some (.bool tm) := by
  have h := G.draft
  refine ⟨?_, ?_, ?_, ?_, ?_⟩ <;> rw [cell_of_row w _ _ _ _ _ h] <;> rfl
theorem DraftG.frozen (G : DraftG w0 w db sv pv ov mb tm X SP O PT nm D) (j : Nat) : w.frozen? ⟨db, j, none⟩ = false := by simp [World.frozen?, G.draft]
/-- A cell of the draft's own block is stored into. -/
theorem DraftG.setDraft {w5 : World} {j : Nat} {u : Value} {cs : Array Value} (hd : w5.heap[db]? = some (.cells cs 230 (0, 0))) : (w5.setCell ⟨db, j, none⟩ u).heap[db]? = some (.cells (cs.setIfInBounds j u) 230 (0, 0)) ∧ Touch 230 w5 (w5.setCell ⟨db, j, none⟩ u) :=
  ⟨heap_setCell_same w5 db j _ _ u hd, touch_only (only_setCell _ _ _ _) hd⟩
/-- A state is put behind the others. -/
theorem DraftG.addState {wc w5 : World} {sv' : Ref.Sl} {x : Pro.DS} (G : DraftG w0 w db sv pv ov mb tm X SP O PT nm D) (hb : Below w.heap.size w wc) (hg : wc.grownBy w5 sv.v.ownBlock)
    (hown : w5.ownsRow w0.heap.size 242 8 sv'.v (X.length + 1) (X.flatMap Pro.dsCells ++ Pro.dsCells x)) (hvp : x.vp = Ref.Sl.nil) (hve : x.ve = Ref.Sl.nil) (hvl : x.vl = Ref.Sl.nil) (hvm : x.vm = Ref.Sl.nil) (hE : x.s.enter = []) (hL : x.s.leave = []) (hM : x.s.moves = []) (hPT : PT X.length = []) :
    DraftG w0 (w5.setCell ⟨db, 0, none⟩ sv'.v) db sv' pv ov mb tm (X ++ [x]) SP O PT nm D := by
  have Gc := G.keep hb
  have T1 := touch_grown Gc.states hg
  have d5 := cells_touch Gc.draft T1 (by decide)
  obtain ⟨d6, T2⟩ := DraftG.setDraft (j := 0) (u := sv'.v) d5
  have hlt := fun k h => (World.ownsRow.lt Gc.states k h).1
  have nilB : Ref.Sl.nil.v.ownBlock = none := rfl
  refine ⟨?_, G.hdb, G.hmb, d6, ?_, own_touch (own_touch Gc.spots T1 (by decide)) T2 (by decide), own_touch (own_touch Gc.opens T1 (by decide)) T2 (by decide), ?_, ?_, ?_, ?_, ?_, map_touch (map_touch Gc.map T1) T2⟩
  · exact (only_setCell w5 db 0 sv'.v).below (Gc.bel.grown hg Gc.bel.size hlt) G.hdb
  · rw [List.length_append, List.flatMap_append]
    exact own_touch (by simpa using hown) T2 (by decide)
  · intro i hi
    by_cases h : i < X.length
    · rw [List.getElem_append_left h]
      exact own_touch (own_touch (Gc.parts i h) T1 (by decide)) T2 (by decide)
    · have e : i = X.length := by simp at hi; omega
      subst e
      rw [List.getElem_append_right (Nat.le_refl _)]
      simp only [Nat.sub_self, List.getElem_cons_zero]
      rw [hvp, hPT]
      exact World.ownsRow_nil _ _ _ _
  · intro i hi
    by_cases h : i < X.length
    · rw [List.getElem_append_left h]; exact G.apartO i h
    · have e : i = X.length := by simp at hi; omega
      subst e
      rw [List.getElem_append_right (Nat.le_refl _)]
      simp only [Nat.sub_self, List.getElem_cons_zero]
      rw [hvp]
      unfold apart
      rw [nilB]
      cases ov.v.ownBlock <;> simp
  · intro i j hi hj hij
    by_cases h : i < X.length
    · rw [List.getElem_append_left h]
      by_cases h' : j < X.length
      · rw [List.getElem_append_left h']; exact G.apartI i j h h' hij
      · have e : j = X.length := by simp at hj; omega
        subst e
        rw [List.getElem_append_right (Nat.le_refl _)]
        simp only [Nat.sub_self, List.getElem_cons_zero]
        rw [hvp]
        unfold apart
        rw [nilB]
        cases X[i].vp.v.ownBlock <;> simp
    · have e : i = X.length := by simp at hi; omega
      subst e
      rw [List.getElem_append_right (Nat.le_refl _)]
      simp only [Nat.sub_self, List.getElem_cons_zero]
      rw [hvp]
      exact .inl nilB
  · intro i hi
    by_cases h : i < X.length
    · rw [List.getElem_append_left h]
      exact ((Gc.deep i h).touch T1 (by decide)).touch T2 (by decide)
    · have e : i = X.length := by simp at hi; omega
      subst e
      rw [List.getElem_append_right (Nat.le_refl _)]
      simp only [Nat.sub_self, List.getElem_cons_zero]
      refine ⟨⟨[], by rw [hM]; rfl, by rw [hvm]; exact World.ownsRow_nil _ _ _ _, fun y hy => absurd hy (by simp)⟩, ?_, ?_⟩
      · rw [hve, hE]; exact World.ownsRow_nil _ _ _ _
      · rw [hvl, hL]; exact World.ownsRow_nil _ _ _ _
  · intro i j hi hj hij
    by_cases h : i < X.length
    · rw [List.getElem_append_left h]
      by_cases h' : j < X.length
      · rw [List.getElem_append_left h']; exact G.apartM i j h h' hij
      · have e : j = X.length := by simp at hj; omega
        subst e
        rw [List.getElem_append_right (Nat.le_refl _)]
        simp only [Nat.sub_self, List.getElem_cons_zero]
        rw [hvm]
        unfold apart
        rw [nilB]
        cases X[i].vm.v.ownBlock <;> simp
    · have e : i = X.length := by simp at hi; omega
      subst e
      rw [List.getElem_append_right (Nat.le_refl _)]
      simp only [Nat.sub_self, List.getElem_cons_zero]
      rw [hvm]
      exact .inl nilB
/-- A spot is put behind the others. -/
theorem DraftG.addSpot {wc w5 : World} {pv' : Ref.Sl} {q : Int × Int} (G : DraftG w0 w db sv pv ov mb tm X SP O PT nm D) (hb : Below w.heap.size w wc) (hg : wc.grownBy w5 pv.v.ownBlock)
    (hown : w5.ownsRow w0.heap.size 286 2 pv'.v (SP.length + 1) (SP.flatMap Pro.spotCells ++ Pro.spotCells q)) :
    DraftG w0 (w5.setCell ⟨db, 1, none⟩ pv'.v) db sv pv' ov mb tm X (SP ++ [q]) O PT nm D := by
  have Gc := G.keep hb
  have T1 := touch_grown Gc.spots hg
  have d5 := cells_touch Gc.draft T1 (by decide)
  obtain ⟨d6, T2⟩ := DraftG.setDraft (j := 1) (u := pv'.v) d5
  have hlt := fun k h => (World.ownsRow.lt Gc.spots k h).1
  refine ⟨(only_setCell w5 db 1 pv'.v).below (Gc.bel.grown hg Gc.bel.size hlt) G.hdb, G.hdb, G.hmb, d6, own_touch (own_touch Gc.states T1 (by decide)) T2 (by decide), ?_, own_touch (own_touch Gc.opens T1 (by decide)) T2 (by decide), fun i h => own_touch (own_touch (Gc.parts i h) T1 (by decide)) T2 (by decide), G.apartO, G.apartI, fun i h => ((Gc.deep i h).touch T1 (by decide)).touch T2 (by decide), G.apartM, map_touch (map_touch Gc.map T1) T2⟩
  rw [List.length_append, List.flatMap_append]
  exact own_touch (by simpa using hown) T2 (by decide)
/-- The open states turn: a new row of them, in the old one's block or in a new one. -/
theorem DraftG.setOpen {wc w5 : World} {ov' : Ref.Sl} {O' : List Nat} (G : DraftG w0 w db sv pv ov mb tm X SP O PT nm D) (hb : Below w.heap.size w wc) (hg : wc.grownBy w5 ov.v.ownBlock)
    (hown : w5.ownsRow w0.heap.size 3 1 ov'.v O'.length (O'.flatMap intCell)) (hat : ov'.v.ownBlock = ov.v.ownBlock ∨ ov'.v.ownBlock = some wc.heap.size) :
    DraftG w0 (w5.setCell ⟨db, 2, none⟩ ov'.v) db sv pv ov' mb tm X SP O' PT nm D := by
  have Gc := G.keep hb
  have T1 := touch_grown Gc.opens hg
  have d5 := cells_touch Gc.draft T1 (by decide)
  obtain ⟨d6, T2⟩ := DraftG.setDraft (j := 2) (u := ov'.v) d5
  have hlt := fun k h => (World.ownsRow.lt Gc.opens k h).1
  refine ⟨(only_setCell w5 db 2 ov'.v).below (Gc.bel.grown hg Gc.bel.size hlt) G.hdb, G.hdb, G.hmb, d6, own_touch (own_touch Gc.states T1 (by decide)) T2 (by decide), own_touch (own_touch Gc.spots T1 (by decide)) T2 (by decide), own_touch hown T2 (by decide), fun i h => ?_, fun i h => ?_, G.apartI, fun i h => ((Gc.deep i h).touch T1 (by decide)).touch T2 (by decide), G.apartM, map_touch (map_touch Gc.map T1) T2⟩
  · have hap := G.apartO i h
    refine own_touch ((Gc.parts i h).kept hg ?_) T2 (by decide)
    rcases hap with h1 | h1
    · rw [h1]; cases X[i].vp.v.ownBlock <;> simp
    · exact .inr (fun e => h1 e.symm)
  · have hap := G.apartO i h
    unfold apart at hap ⊢
    rcases hat with e | e
    · rw [e]; exact hap
    · rw [e]
      refine .inr (fun e2 => ?_)
      have := (World.ownsRow.lt (Gc.parts i h) _ e2.symm).2
      omega
/-- A cell of a state is stored into: its lists alone turn. -/
theorem state_set {w5 W : World} {u j : Nat} {v : Value} {x' : Pro.DS} {g cap : Nat} (hs : w5.ownsRow w0.heap.size 242 8 (.slice (some ⟨g, 0, none⟩) X.length cap) X.length (X.flatMap Pro.dsCells)) (hu : u < X.length) (hj : j < 8)
    (hx : Pro.dsCells x' = (Pro.dsCells X[u]).set j v) (hW : W = w5.setCell ⟨g, u * 8 + j, none⟩ v) :
    W.ownsRow w0.heap.size 242 8 (.slice (some ⟨g, 0, none⟩) X.length cap) (X.set u x').length ((X.set u x').flatMap Pro.dsCells) ∧ Touch 242 w5 W ∧ Only g w5 W ∧ w0.heap.size ≤ g := by
  rcases hs.2 with ⟨h, _⟩ | ⟨g', cap', cur, h, hb, hg, h1, h2, h3, h4⟩
  · cases h
  · simp only [Value.slice.injEq, Option.some.injEq, Addr.mk.injEq, and_true, true_and] at h
    obtain ⟨rfl, rfl⟩ := h
    subst hW
    have oo := only_setCell w5 g (u * 8 + j) v
    refine ⟨⟨?_, .inr ⟨g, cap, cur.setIfInBounds (u * 8 + j) v, by rw [List.length_set], hb, heap_setCell_same w5 g _ _ _ v hg, by rw [List.length_set]; exact h1, h2, by simpa using h3, ?_⟩⟩, touch_only oo hg, oo, hb⟩
    · exact Ref.flat_len (f := Pro.dsCells) (n := 8) (fun _ => rfl) _
    · rw [Array.toList_setIfInBounds, List.length_set, List.take_set, h4]
      exact flat_set (f := Pro.dsCells) (n := 8) (fun _ => rfl) X u j v x' hj hu hx
theorem DraftG.rowG (G : DraftG w0 w db sv pv ov mb tm X SP O PT nm D) (h : 0 < X.length) : ∃ g cap, sv = ⟨some ⟨g, 0, none⟩, X.length, cap⟩ := by
  obtain ⟨g, cap, e⟩ := Ref.own_form G.states h
  refine ⟨g, cap, ?_⟩
  cases sv
  simp [Ref.Sl.v] at e
  simp [e.1, e.2.1, e.2.2]
/-- A state's parts get one more. -/
theorem DraftG.addPart {wc w5 : World} {u g cap : Nat} {vp' : Ref.Sl} {n : Nat} (G : DraftG w0 w db ⟨some ⟨g, 0, none⟩, X.length, cap⟩ pv ov mb tm X SP O PT nm D) (hb : Below w.heap.size w wc) (hu : u < X.length) (hg : wc.grownBy w5 X[u].vp.v.ownBlock)
    (hown : w5.ownsRow w0.heap.size 3 1 vp'.v (PT u ++ [n]).length ((PT u ++ [n]).flatMap intCell)) (hat : vp'.v.ownBlock = X[u].vp.v.ownBlock ∨ vp'.v.ownBlock = some wc.heap.size) :
    DraftG w0 (w5.setCell ⟨g, u * 8 + 4, none⟩ vp'.v) db ⟨some ⟨g, 0, none⟩, X.length, cap⟩ pv ov mb tm (X.set u { X[u] with vp := vp' }) SP O (fun i => if i = u then PT u ++ [n] else PT i) nm D := by
  have Gc := G.keep hb
  have T1 := touch_grown (Gc.parts u hu) hg
  have d5 := cells_touch Gc.draft T1 (by decide)
  have hlt := fun k h => (World.ownsRow.lt (Gc.parts u hu) k h).1
  obtain ⟨hs, T2, oo, hgw⟩ := state_set (x' := { X[u] with vp := vp' }) (j := 4) (v := vp'.v) (own_touch Gc.states T1 (by decide)) hu (by decide) rfl rfl
  have hfresh : ∀ (a : Ref.Sl), (∀ k, a.v.ownBlock = some k → k < wc.heap.size) → apart a X[u].vp → apart a vp' := by
    intro a ha hap
    unfold apart at hap ⊢
    rcases hat with e | e
    · rw [e]; exact hap
    · rw [e]
      refine .inr (fun e2 => ?_)
      have := ha _ e2; omega
  have hsym : ∀ a b : Ref.Sl, apart a b → apart b a := by
    intro a b h
    unfold apart at h ⊢
    rcases h with h | h
    · rw [h]; cases b.v.ownBlock <;> simp
    · exact .inr (fun e => h e.symm)
  refine ⟨oo.below (Gc.bel.grown hg Gc.bel.size hlt) hgw, G.hdb, G.hmb, cells_touch d5 T2 (by decide), hs, own_touch (own_touch Gc.spots T1 (by decide)) T2 (by decide), own_touch (Gc.opens.kept hg (by
      have := G.apartO u hu; exact this)) T2 (by decide), ?_, ?_, ?_, ?_, ?_, map_touch (map_touch Gc.map T1) T2⟩
  · intro i hi
    rw [List.length_set] at hi
    rw [List.getElem_set]
    by_cases e : u = i
    · subst e
      simp only [if_true]
      exact own_touch hown T2 (by decide)
    · rw [if_neg e, if_neg (fun h => e h.symm)]
      exact own_touch ((Gc.parts i hi).kept hg (G.apartI i u hi hu (fun h => e h.symm))) T2 (by decide)
  · intro i hi
    rw [List.length_set] at hi
    rw [List.getElem_set]
    by_cases e : u = i
    · subst e
      simp only [if_true]
      exact hfresh ov (fun k h => (World.ownsRow.lt Gc.opens k h).2) (G.apartO u hu)
    · rw [if_neg e]; exact G.apartO i hi
  · intro i j hi hj hij
    rw [List.length_set] at hi hj
    rw [List.getElem_set, List.getElem_set]
    by_cases e : u = i
    · subst e
      simp only [if_true]
      rw [if_neg hij]
      exact hsym _ _ (hfresh X[j].vp (fun k h => (World.ownsRow.lt (Gc.parts j hj) k h).2) (G.apartI j u hj hu (fun h => hij h.symm)))
    · rw [if_neg e]
      by_cases e2 : u = j
      · subst e2
        simp only [if_true]
        exact hfresh X[i].vp (fun k h => (World.ownsRow.lt (Gc.parts i hi) k h).2) (G.apartI i u hi hu hij)
      · rw [if_neg e2]; exact G.apartI i j hi hj hij
  · intro i hi
    rw [List.length_set] at hi
    rw [List.getElem_set]
    by_cases e : u = i
    · subst e
      simp only [if_true]
      have := ((Gc.deep u hu).touch T1 (by decide)).touch T2 (by decide)
      exact ⟨this.moves, this.enter, this.leave⟩
    · rw [if_neg e]; exact ((Gc.deep i hi).touch T1 (by decide)).touch T2 (by decide)
  · intro i j hi hj hij
    rw [List.length_set] at hi hj
    rw [List.getElem_set, List.getElem_set]
    have e1 : (if u = i then { X[u] with vp := vp' } else X[i]).vm = X[i].vm := by
      split
      · rename_i e; subst e; rfl
      · rfl
    have e2 : (if u = j then { X[u] with vp := vp' } else X[j]).vm = X[j].vm := by
      split
      · rename_i e; subst e; rfl
      · rfl
    rw [e1, e2]; exact G.apartM i j hi hj hij
end Go.Proofs.YtegmoddppafkfaaGreatDoor
namespace Go.Proofs.YtegmoddppafkfaaGreatDoor
open Go.RowKit

variable {w0 w : World} {db mb nm : Nat} {sv pv ov : Ref.Sl} {tm : Bool} {X : List Pro.DS} {SP : List (Int × Int)} {O : List Nat} {PT : Nat → List Nat} {D : DataW Nat}
namespace Pro
def moreMove (x : DS) (y : PV) (v : Ref.Sl) : DS := { x with s := { x.s with moves := x.s.moves ++ [y.m] }, vm := v }
def enterTo (x : DS) (i : Int) (A : List Ref.Act) (v : Ref.Sl) : DS := { x with s := { x.s with has0 := i, enter := A }, ve := v }
def leaveTo (x : DS) (i : Int) (A : List Ref.Act) (v : Ref.Sl) : DS := { x with s := { x.s with has1 := i, leave := A }, vl := v }
end Pro
theorem apart_symm {a b : Ref.Sl} (h : apart a b) : apart b a := by
  unfold apart at h ⊢
  rcases h with h | h
  · rw [h]; cases b.v.ownBlock <;> simp
  · exact .inr (fun e => h e.symm)
theorem set_vp {u i : Nat} (hu : u < X.length) (hi : i < X.length) {x' : Pro.DS} (h : x'.vp = X[u].vp) : ((X.set u x')[i]'(by rw [List.length_set]; exact hi)).vp = X[i].vp := by
  rw [List.getElem_set]
  split
  · rename_i e; subst e; exact h
  · rfl
theorem set_vm {u i : Nat} (hu : u < X.length) (hi : i < X.length) {x' : Pro.DS} (h : x'.vm = X[u].vm) : ((X.set u x')[i]'(by rw [List.length_set]; exact hi)).vm = X[i].vm := by
  rw [List.getElem_set]
  split
  · rename_i e; subst e; exact h
  · rfl
/-- A state's moves get one more. -/
theorem DraftG.addMove {wc w5 : World} {u g cap : Nat} {vm' : Ref.Sl} {y : Pro.PV} {M : List Pro.PV} (G : DraftG w0 w db ⟨some ⟨g, 0, none⟩, X.length, cap⟩ pv ov mb tm X SP O PT nm D) (hb : Below w.heap.size w wc) (hu : u < X.length)
    (hM1 : M.map (·.m) = X[u].s.moves) (hM2 : w.ownsRow w0.heap.size 295 5 X[u].vm.v M.length (M.flatMap Pro.pvCells)) (hM3 : ∀ y ∈ M, w0.ownsRow 0 324 1 y.v.v y.m.acts.length (y.m.acts.map actV))
    (hg : wc.grownBy w5 X[u].vm.v.ownBlock) (hown : w5.ownsRow w0.heap.size 295 5 vm'.v (M.length + 1) (M.flatMap Pro.pvCells ++ Pro.pvCells y)) (hat : vm'.v.ownBlock = X[u].vm.v.ownBlock ∨ vm'.v.ownBlock = some wc.heap.size)
    (hy : w0.ownsRow 0 324 1 y.v.v y.m.acts.length (y.m.acts.map actV)) :
    DraftG w0 (w5.setCell ⟨g, u * 8 + 7, none⟩ vm'.v) db ⟨some ⟨g, 0, none⟩, X.length, cap⟩ pv ov mb tm (X.set u (Pro.moreMove X[u] y vm')) SP O PT nm D := by
  have Gc := G.keep hb
  have hM2c : wc.ownsRow w0.heap.size 295 5 X[u].vm.v M.length (M.flatMap Pro.pvCells) := own_touch hM2 (touch_below (e := 0) hb) (by decide)
  have T1 := touch_grown hM2c hg
  have d5 := cells_touch Gc.draft T1 (by decide)
  have hlt := fun k h => (World.ownsRow.lt hM2c k h).1
  obtain ⟨hs, T2, oo, hgw⟩ := state_set (x' := Pro.moreMove X[u] y vm') (j := 7) (v := vm'.v) (own_touch Gc.states T1 (by decide)) hu (by decide) rfl rfl
  have hfresh : ∀ (a : Ref.Sl), (∀ k, a.v.ownBlock = some k → k < wc.heap.size) → apart a X[u].vm → apart a vm' := by
    intro a ha hap
    unfold apart at hap ⊢
    rcases hat with e | e
    · rw [e]; exact hap
    · rw [e]
      refine .inr (fun e2 => ?_)
      have := ha _ e2; omega
  have hltM : ∀ i (h : i < X.length) k, X[i].vm.v.ownBlock = some k → k < wc.heap.size := fun i h k hk => by
    obtain ⟨M', _, h2, _⟩ := (Gc.deep i h).moves
    exact (World.ownsRow.lt h2 k hk).2
  refine ⟨oo.below (Gc.bel.grown hg Gc.bel.size hlt) hgw, G.hdb, G.hmb, cells_touch d5 T2 (by decide), hs, own_touch (own_touch Gc.spots T1 (by decide)) T2 (by decide), own_touch (own_touch Gc.opens T1 (by decide)) T2 (by decide), ?_, ?_, ?_, ?_, ?_, map_touch (map_touch Gc.map T1) T2⟩
  · intro i hi
    rw [List.length_set] at hi
    rw [set_vp hu hi (show (Pro.moreMove X[u] y vm').vp = X[u].vp from rfl)]
    exact own_touch (own_touch (Gc.parts i hi) T1 (by decide)) T2 (by decide)
  · intro i hi
    rw [List.length_set] at hi
    rw [set_vp hu hi (show (Pro.moreMove X[u] y vm').vp = X[u].vp from rfl)]
    exact G.apartO i hi
  · intro i j hi hj hij
    rw [List.length_set] at hi hj
    rw [set_vp hu hi (show (Pro.moreMove X[u] y vm').vp = X[u].vp from rfl), set_vp hu hj (show (Pro.moreMove X[u] y vm').vp = X[u].vp from rfl)]
    exact G.apartI i j hi hj hij
  · intro i hi
    rw [List.length_set] at hi
    rw [List.getElem_set]
    by_cases e : u = i
    · subst e
      simp only [if_true]
      refine ⟨⟨M ++ [y], ?_, ?_, ?_⟩, (Gc.deep u hu).enter, (Gc.deep u hu).leave⟩
      · rw [List.map_append, hM1]; rfl
      · rw [List.length_append, List.flatMap_append]
        have h := own_touch hown T2 (by decide)
        simpa [Pro.moreMove] using h
      · intro z hz
        rcases List.mem_append.1 hz with h | h
        · exact hM3 z h
        · rw [List.mem_singleton.1 h]; exact hy
    · rw [if_neg e]
      obtain ⟨M', h1, h2, h3⟩ := (Gc.deep i hi).moves
      exact ⟨⟨M', h1, own_touch (h2.kept hg (G.apartM i u hi hu (fun h => e h.symm))) T2 (by decide), h3⟩, (Gc.deep i hi).enter, (Gc.deep i hi).leave⟩
  · intro i j hi hj hij
    rw [List.length_set] at hi hj
    rw [List.getElem_set, List.getElem_set]
    by_cases e : u = i
    · subst e
      simp only [if_true]
      rw [if_neg hij]
      exact apart_symm (hfresh X[j].vm (hltM j hj) (G.apartM j u hj hu (fun h => hij h.symm)))
    · rw [if_neg e]
      by_cases e2 : u = j
      · subst e2
        simp only [if_true]
        exact hfresh X[i].vm (hltM i hi) (G.apartM i u hi hu hij)
      · rw [if_neg e2]; exact G.apartM i j hi hj hij
/-- A state's enter or leave line is laid down. -/
theorem DraftG.setActs {wc : World} {u g cap j : Nat} {v' : Ref.Sl} {x' : Pro.DS} (G : DraftG w0 w db ⟨some ⟨g, 0, none⟩, X.length, cap⟩ pv ov mb tm X SP O PT nm D) (hb : Below w.heap.size w wc) (hu : u < X.length) (hj : j < 8)
    (hx : Pro.dsCells x' = (Pro.dsCells X[u]).set j v'.v) (hvp : x'.vp = X[u].vp) (hvm : x'.vm = X[u].vm) (hmv : x'.s.moves = X[u].s.moves)
    (hE : w0.ownsRow 0 324 1 x'.ve.v x'.s.enter.length (x'.s.enter.map actV)) (hL : w0.ownsRow 0 324 1 x'.vl.v x'.s.leave.length (x'.s.leave.map actV)) :
    DraftG w0 (wc.setCell ⟨g, u * 8 + j, none⟩ v'.v) db ⟨some ⟨g, 0, none⟩, X.length, cap⟩ pv ov mb tm (X.set u x') SP O PT nm D := by
  have Gc := G.keep hb
  obtain ⟨hs, T2, oo, hgw⟩ := state_set (x' := x') (j := j) (v := v'.v) Gc.states hu hj hx rfl
  refine ⟨oo.below Gc.bel hgw, G.hdb, G.hmb, cells_touch Gc.draft T2 (by decide), hs, own_touch Gc.spots T2 (by decide), own_touch Gc.opens T2 (by decide), ?_, ?_, ?_, ?_, ?_, map_touch Gc.map T2⟩
  · intro i hi
    rw [List.length_set] at hi
    rw [set_vp hu hi hvp]
    exact own_touch (Gc.parts i hi) T2 (by decide)
  · intro i hi
    rw [List.length_set] at hi
    rw [set_vp hu hi hvp]
    exact G.apartO i hi
  · intro i j hi hj hij
    rw [List.length_set] at hi hj
    rw [set_vp hu hi hvp, set_vp hu hj hvp]
    exact G.apartI i j hi hj hij
  · intro i hi
    rw [List.length_set] at hi
    rw [List.getElem_set]
    by_cases e : u = i
    · subst e
      simp only [if_true]
      have h := ((Gc.deep u hu).touch T2 (by decide)).moves
      rw [← hmv, ← hvm] at h
      exact ⟨h, hE, hL⟩
    · rw [if_neg e]; exact (Gc.deep i hi).touch T2 (by decide)
  · intro i j hi hj hij
    rw [List.length_set] at hi hj
    rw [set_vm hu hi hvm, set_vm hu hj hvm]
    exact G.apartM i j hi hj hij
theorem DraftG.setTimed {wc : World} (b : Bool) (G : DraftG w0 w db sv pv ov mb tm X SP O PT nm D) (hb : Below w.heap.size w wc) : DraftG w0 (wc.setCell ⟨db, 4, none⟩ (.bool b)) db sv pv ov mb b X SP O PT nm D := by
  have Gc := G.keep hb
  obtain ⟨d6, T2⟩ := DraftG.setDraft (j := 4) (u := .bool b) Gc.draft
  exact ⟨(only_setCell wc db 4 (.bool b)).below Gc.bel G.hdb, G.hdb, G.hmb, d6, own_touch Gc.states T2 (by decide), own_touch Gc.spots T2 (by decide), own_touch Gc.opens T2 (by decide), fun i h => own_touch (Gc.parts i h) T2 (by decide), G.apartO, G.apartI, fun i h => (Gc.deep i h).touch T2 (by decide), G.apartM, map_touch Gc.map T2⟩
theorem touch_map {w w' : World} {es : Array MapEntry} {clock : Nat} {b : Nat} (h : w.heap[b]? = some (.map es clock)) (hg : w.grownBy w' (some b)) : ∀ (k : Nat) (c : Array Value) (e : TypeId) (fz : Nat × Nat), w.heap[k]? = some (.cells c e fz) → w'.heap[k]? = some (.cells c e fz) := by
  intro k c e fz hk
  rw [hg.block k (Array.getElem?_eq_some_iff.1 hk).1 (fun e0 => by cases e0; rw [h] at hk; cases hk)]
  exact hk
theorem own_map {base size n : Nat} {e : TypeId} {v : Value} {xs : List Value} {w w' : World} (h : w.ownsRow base e size v n xs) (hk : ∀ (k : Nat) (c : Array Value) (e : TypeId) (fz : Nat × Nat), w.heap[k]? = some (.cells c e fz) → w'.heap[k]? = some (.cells c e fz)) : w'.ownsRow base e size v n xs := by
  refine ⟨h.1, ?_⟩
  rcases h.2 with h' | ⟨k, cap, cur, hv, hb, hg, r⟩
  · exact .inl h'
  · exact .inr ⟨k, cap, cur, hv, hb, hk _ _ _ _ hg, r⟩
/-- A name is written down. -/
theorem DraftG.addName {wc w' : World} {nm' : Nat} {D' : DataW Nat} (G : DraftG w0 w db sv pv ov mb tm X SP O PT nm D) (hb : Below w.heap.size w wc) (hg : wc.grownBy w' (some mb)) (hm : FirstMap w' mb nm' D') : DraftG w0 w' db sv pv ov mb tm X SP O PT nm' D' := by
  have Gc := G.keep hb
  obtain ⟨es, clock, hmb, _⟩ := Gc.map
  have hk := touch_map hmb hg
  exact ⟨Gc.bel.grown hg Gc.bel.size (fun k h => by cases h; exact G.hmb), G.hdb, G.hmb, hk _ _ _ _ Gc.draft, own_map Gc.states hk, own_map Gc.spots hk, own_map Gc.opens hk, fun i h => own_map (Gc.parts i h) hk, G.apartO, G.apartI, fun i h => ⟨let ⟨M, h1, h2, h3⟩ := (Gc.deep i h).moves; ⟨M, h1, own_map h2 hk, h3⟩, (Gc.deep i h).enter, (Gc.deep i h).leave⟩, G.apartM, hm⟩
end Go.Proofs.YtegmoddppafkfaaGreatDoor
