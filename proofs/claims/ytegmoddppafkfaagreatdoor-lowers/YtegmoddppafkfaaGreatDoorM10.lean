/-
  MY OWN TEXT.
-/
import Derived.Test.YtegmoddppafkfaaGreatDoorM09
import Derived.Deep.LoopGhost
import Derived.Deep.DeepCutAuto
import Derived.Deep.CutBlock
import Derived.Deep.RegionHeld3
import Derived.Maps.AppendAt
namespace Go.Proofs.YtegmoddppafkfaaGreatDoor
open Go.RowKit

namespace Ref
def has0To (y : SV) (i : Int) : SV := { y with s := { y.s with has0 := i } }
def enterTo (y : SV) (i : Int) (A : List Act) (v : Sl) : SV := { y with s := { y.s with has0 := i, enter := A }, ve := v }
def has1To (y : SV) (i : Int) : SV := { y with s := { y.s with has1 := i } }
def leaveTo (y : SV) (i : Int) (A : List Act) (v : Sl) : SV := { y with s := { y.s with has1 := i, leave := A }, vl := v }
end Ref
/-- A state while tree goes: its moves lie in a block of tree's own; its actions where they lay. -/
structure StOK (w wr : World) (x : Ref.SV) : Prop where
  moves : ∃ M : List Ref.MV, M.map (·.m) = x.s.moves ∧ wr.ownsRow w.heap.size 120 6 x.vm.v M.length (M.flatMap Ref.mvCells) ∧ ∀ y ∈ M, ActRow w y.v.v y.m.acts
  enter : ActRow w x.ve.v x.s.enter
  leave : ActRow w x.vl.v x.s.leave
  okM : ∀ m ∈ x.s.moves, MoveOK m
  okE : ∀ a ∈ x.s.enter, Ref.ActOK a
  okL : ∀ a ∈ x.s.leave, Ref.ActOK a
  lenE : x.s.enter.length ≤ 1048576
  lenL : x.s.leave.length ≤ 1048576
  name : x.s.name.size ≤ 1073741824
structure TreeInv (w wr : World) (sv : Value) (X : List Ref.SV) : Prop where
  bel : Below w.heap.size w wr
  chart : wr.heap[w.heap.size]? = some (.cells #[sv] 113 (0, 0))
  row : wr.ownsRow w.heap.size 118 11 sv X.length (X.flatMap Ref.svCells)
  deep : ∀ x ∈ X, StOK w wr x
  apart : X.Pairwise fun a b => a.vm.v.ownBlock = none ∨ a.vm.v.ownBlock ≠ b.vm.v.ownBlock
theorem Row.range {α : Type} {w : World} {e : TypeId} {n : Nat} {f : α → List Value} {g cap : Nat} {X : List α} (hf : ∀ x, (f x).length = n) (h : Row w e n f (.slice (some ⟨g, 0, none⟩) X.length cap) X) {i : Nat} (hi : i < X.length) :
    w.rangeAt g (i * n) (f X[i]) := by
  intro j v hj
  have hjn : j < n := by rw [← hf X[i]]; exact (List.getElem?_eq_some_iff.1 hj).1
  rw [Row.cell hf h hjn hi]; exact hj
theorem upAux_lt (S : List Ref.State) (d : Int) : ∀ m : Nat, Ref.upAux S d m < m
  | 0 => by simp [Ref.upAux]
  | m + 1 => by
    have := upAux_lt S d m
    unfold Ref.upAux
    split
    · omega
    · split <;> omega
theorem upOf_lt (S : List Ref.State) (d : Int) (h : ¬ Ref.upOf S d < 0) : Ref.upOf S d < S.length := by
  unfold Ref.upOf at h ⊢
  split
  · exact upAux_lt S d S.length
  · rename_i h0; rw [if_neg h0] at h; exact absurd (by decide) h
theorem upAux_ge (S : List Ref.State) (d : Int) : ∀ m : Nat, -1 ≤ Ref.upAux S d m
  | 0 => by simp [Ref.upAux]
  | m + 1 => by
    have := upAux_ge S d m
    unfold Ref.upAux
    split
    · omega
    · split <;> omega
theorem upOf_ge (S : List Ref.State) (d : Int) : -1 ≤ Ref.upOf S d := by
  unfold Ref.upOf
  split
  · exact upAux_ge S d S.length
  · decide
theorem flat_set {α : Type} {f : α → List Value} {n : Nat} (hf : ∀ x, (f x).length = n) : ∀ (X : List α) (i j : Nat) (v : Value) (x' : α), j < n → ∀ (h : i < X.length), f x' = (f X[i]).set j v → (X.flatMap f).set (i * n + j) v = (X.set i x').flatMap f
  | [], i, j, v, x', _, h, _ => by simp at h
  | x :: X, 0, j, v, x', hj, _, e => by
    rw [List.flatMap_cons, Nat.zero_mul, Nat.zero_add, List.set_append_left _ _ (by rw [hf]; exact hj), List.set_cons_zero, List.flatMap_cons, e]; rfl
  | x :: X, i + 1, j, v, x', hj, h, e => by
    have hlen : (f x).length = n := hf x
    rw [List.flatMap_cons, Nat.succ_mul, List.set_append_right _ _ (by rw [hlen]; omega), hlen, List.set_cons_succ, List.flatMap_cons]
    rw [show i * n + n + j - n = i * n + j from by omega, flat_set hf X i j v x' hj (by simpa using h) e]
theorem own_tag {g base size n : Nat} {e e' : TypeId} {v : Value} {xs : List Value} {w w' : World} {c : Array Value} {fz : Nat × Nat} (h : w.ownsRow base e size v n xs) (ho : Only g w w') (hg : w.heap[g]? = some (.cells c e' fz)) (hne : e ≠ e') : w'.ownsRow base e size v n xs := by
  refine ⟨h.1, ?_⟩
  rcases h.2 with h' | ⟨k, cap, cur, hv, hb, hk, r⟩
  · exact .inl h'
  · have hkg : k ≠ g := by
      intro e0; subst e0
      rw [hg] at hk
      simp only [Option.some.injEq, Obj.cells.injEq] at hk
      exact hne hk.2.1.symm
    exact .inr ⟨k, cap, cur, hv, hb, by rw [ho.block k hkg]; exact hk, r⟩
/-- append onto a row of one's own, as one step of a region that draws. -/
theorem step_append_own {P : Program} {ops : Array Oper} {o : Oper} {a : Act} {w : World} {K : Act → World → Prop} {Q : Exit → Act → World → Prop} {E : Prop} (hgd : o.guard = none) (s x : Operand) (t : TypeId)
    (ho : o.op = .call { callee := .builtin .append, args := #[s, x], argTypes := #[t, t] })
    (base : Nat) (e : TypeId) (i : TypeInfo) (z : Value) (size bytes : Nat) (ht : P.underlying t = some (.slice e)) (hi : P.info? e = some i) (hz : i.zero = some z)
    (hsize : i.size = size) (hby : i.bytes = bytes) (hzs : z.cells.size = size) (hsz : 0 < size)
    (v : Value) (n : Nat) (xs : List Value) (hs : a.eval s = v) (hown : w.ownsRow base e size v n xs)
    (ad : Addr) (m c : Nat) (news : List Value) (hx : a.eval x = .slice (some ad) m c) (hl : news.length = m * size) (hnews : ∀ j u, news[j]? = some u → w.cell? (ad.add j) = some u) (h1 : ∀ u ∈ news, u.oneCell' = true)
    (h63 : n + m ≤ maxLen) (hbytes : (n + m) * bytes ≤ 140737488355328) (hbase : base ≤ w.heap.size)
    (h : ∀ v' w', w'.ownsRow base e size v' (n + m) (xs ++ news) → w.grownBy w' v.ownBlock → (v' = .slice none 0 0 ↔ v = .slice none 0 0 ∧ m = 0) → (v'.ownBlock = v.ownBlock ∨ v'.ownBlock = some w.heap.size) → K (a.put o.dst v') w') :
    if Region.wanted o (yielded ops a.tmps) = true then Oper.wp P o a w K Q else E := by
  have hw : Region.wanted o (yielded ops a.tmps) = true := by simp [Region.wanted, hgd]
  rw [if_pos hw]
  obtain ⟨v', w', hr, h2, h3, h4, h5⟩ := run_append_own_at (P := P) w base t o.type e i z size bytes ht hi hz hsize hby hzs hsz v n xs hown ad m c news hl hnews h1 h63 hbytes hbase
  unfold Oper.wp execOp
  simp only [ho, resolve, invoke, builtin, Sem.run_bind, Sem.run_pure, Result.andThen_ok, List.map_toArray, List.map_cons, List.map_nil, hs, hx, hr]
  exact h v' w' h2 h3 h4 h5
theorem own_keep {base size n : Nat} {e : TypeId} {v : Value} {xs : List Value} {w w' : World} (h : w.ownsRow base e size v n xs) (hb : Below w.heap.size w w') : w'.ownsRow base e size v n xs := by
  refine ⟨h.1, ?_⟩
  rcases h.2 with h' | ⟨g, cap, cur, hv, hb', hg, r⟩
  · exact .inl h'
  · exact .inr ⟨g, cap, cur, hv, hb', by rw [hb.block g ((Array.getElem?_eq_some_iff.1 hg).1)]; exact hg, r⟩
theorem StOK.keep {w wo wc : World} {x : Ref.SV} (h : StOK w wo x) (hb : Below wo.heap.size wo wc) : StOK w wc x :=
  let ⟨M, h1, h2, h3⟩ := h.moves
  { h with moves := ⟨M, h1, own_keep h2 hb, h3⟩ }
theorem StOK.tag {w wc W : World} {x : Ref.SV} {g : Nat} {c : Array Value} {fz : Nat × Nat} (h : StOK w wc x) (ho : Only g wc W) (hg : wc.heap[g]? = some (.cells c 118 fz)) : StOK w W x :=
  let ⟨M, h1, h2, h3⟩ := h.moves
  { h with moves := ⟨M, h1, own_tag h2 ho hg (by decide), h3⟩ }
theorem own_block {base size n g cap : Nat} {e : TypeId} {xs : List Value} {w : World} (h : w.ownsRow base e size (.slice (some ⟨g, 0, none⟩) n cap) n xs) : ∃ c, w.heap[g]? = some (.cells c e (0, 0)) := by
  rcases h.2 with ⟨hv, _⟩ | ⟨k, cap', cur, hv, _, hk, _⟩
  · simp at hv
  · simp only [Value.slice.injEq, Option.some.injEq, Addr.mk.injEq, and_true, true_and] at hv
    rw [hv.1]; exact ⟨cur, hk⟩
theorem TreeInv.keep {w wo wc : World} {sv : Value} {X : List Ref.SV} (I : TreeInv w wo sv X) (z2 : Below wo.heap.size wo wc) : TreeInv w wc sv X :=
  ⟨I.bel.trans (z2.mono I.bel.size), by rw [z2.block _ ((Array.getElem?_eq_some_iff.1 I.chart).1)]; exact I.chart, own_keep I.row z2, fun x hx => (I.deep x hx).keep z2, I.apart⟩
/-- A state is turned in its place (its moves' block is the same). -/
theorem TreeInv.turn {w wo wc W : World} {g cap : Nat} {X : List Ref.SV} {u : Nat} {x' : Ref.SV} (I : TreeInv w wo (.slice (some ⟨g, 0, none⟩) X.length cap) X) (z2 : Below wo.heap.size wo wc) (ho : Only g wc W) (hu : u < X.length)
    (hrow : W.ownsRow w.heap.size 118 11 (.slice (some ⟨g, 0, none⟩) X.length cap) X.length ((X.set u x').flatMap Ref.svCells)) (hx : StOK w wc x') (hvm : x'.vm = X[u].vm) : TreeInv w W (.slice (some ⟨g, 0, none⟩) X.length cap) (X.set u x') := by
  have hgl := World.ownsRow.lt I.row g rfl
  obtain ⟨c, hc⟩ := own_block I.row
  have hc' : wc.heap[g]? = some (.cells c 118 (0, 0)) := by rw [z2.block g hgl.2]; exact hc
  have hsz := I.bel.size
  refine ⟨ho.below (I.bel.trans (z2.mono hsz)) hgl.1, ?_, ?_, ?_, ?_⟩
  · have hne : w.heap.size ≠ g := by
      intro e; have h1 := I.chart; rw [e, hc] at h1
      simp at h1
    rw [ho.block _ hne, z2.block _ ((Array.getElem?_eq_some_iff.1 I.chart).1)]; exact I.chart
  · rw [List.length_set]; exact hrow
  · intro y hy
    rcases List.mem_or_eq_of_mem_set hy with h | h
    · exact ((I.deep y h).keep z2).tag ho hc'
    · rw [h]; exact hx.tag ho hc'
  · have e : (X.set u x').map (·.vm) = X.map (·.vm) := by
      rw [List.map_set, hvm]
      apply List.ext_getElem?
      intro i
      rw [List.getElem?_set]
      split
      · rename_i h; subst h; simp [hu]
      · rfl
    have h1 : (X.map (·.vm)).Pairwise fun a b => a.v.ownBlock = none ∨ a.v.ownBlock ≠ b.v.ownBlock := List.pairwise_map.2 I.apart
    rw [← e] at h1
    exact List.pairwise_map.1 h1
theorem treeTo_none {A : List (Ref.Line × Int)} {i : Nat} (h : Ref.treeTo A i = none) : ∀ j, i ≤ j → Ref.treeTo A j = none
  | 0, hj => by rw [Nat.le_zero.1 hj] at h; exact h
  | j + 1, hj => by
    by_cases e : i = j + 1
    · rw [← e]; exact h
    · rw [Ref.treeTo, treeTo_none h j (by omega)]
theorem tree_fail {A : List (Ref.LV × Nat)} {w w' : World} {n cb : Nat} {S : List Ref.State} (hb : Below w.heap.size w w') (hn : n < A.length) (hS : Ref.treeTo (A.map fun p => (p.1.L, (p.2 : Int))) n = some S) (h : Ref.treeTo (A.map fun p => (p.1.L, (p.2 : Int))) (n + 1) = none) :
    TreePost A w (.returned (.tuple #[.pointer (some ⟨cb, 0, none⟩), .int .i64 ((n : Int) + 1)])) w' := by
  refine ⟨hb, cb, ?_⟩
  rw [treeTo_none h A.length (by omega)]
  exact ⟨n, hn, by rw [hS]; rfl, h, rfl⟩
theorem StOK.deep {w wr : World} {x : Ref.SV} (h : StOK w wr x) (hb : Below w.heap.size w wr) (hl : x.s.moves.length ≤ 1048576) : Deep wr x :=
  let ⟨M, h1, h2, h3⟩ := h.moves
  ⟨⟨M, h1, own_mono h2 (Nat.zero_le _), fun y hy => Row.keep (h3 y hy) hb⟩, Row.keep h.enter hb, Row.keep h.leave hb, h.okM, h.okE, h.okL, hl, h.lenE, h.lenL, h.name⟩
theorem tree_done {A : List (Ref.LV × Nat)} {w w' : World} {X : List Ref.SV} {sv : Value} {r : Int} (I : TreeInv w w' sv X) (hl : ∀ x ∈ X, x.s.moves.length ≤ 1048576) (hS : Ref.treeTo (A.map fun p => (p.1.L, (p.2 : Int))) A.length = some (X.map (·.s))) (hr : r = (Ref.parTo (X.map (·.s)) X.length).getD 0) :
    TreePost A w (.returned (.tuple #[.pointer (some ⟨w.heap.size, 0, none⟩), .int .i64 r])) w' := by
  refine ⟨I.bel, w.heap.size, ?_⟩
  rw [hS]
  refine ⟨by rw [hr, List.length_map], sv, X, rfl, ⟨I.chart, own_mono I.row (Nat.zero_le _)⟩, fun x hx => (I.deep x hx).deep I.bel (hl x hx)⟩
theorem TreeInv.row0 {w wr : World} {sv : Value} {X : List Ref.SV} (h : TreeInv w wr sv X) : Row wr 118 11 Ref.svCells sv X := own_mono h.row (Nat.zero_le _)

theorem ownsRow_kind' {w : World} {B : Nat} {e : TypeId} {size : Nat} {v : Value} {n : Nat} {xs : List Value} (h : w.ownsRow B e size v n xs) : ∀ g, v.ownBlock = some g → ∃ c fz, w.heap[g]? = some (.cells c e fz) := by
  intro g hg
  rcases h.2 with ⟨hv, _⟩ | ⟨k, cap, cur, hv, _, hk, _⟩
  · rw [hv] at hg; cases hg
  · rw [hv] at hg; cases hg; exact ⟨cur, _, hk⟩
theorem own_grow {base size n : Nat} {e e' : TypeId} {v : Value} {xs : List Value} {w w' : World} {row : Option Nat} (h : w.ownsRow base e size v n xs) (hg : w.grownBy w' row) (hk : ∀ g, row = some g → ∃ c fz, w.heap[g]? = some (.cells c e' fz)) (hne : e ≠ e') : w'.ownsRow base e size v n xs := by
  refine ⟨h.1, ?_⟩
  rcases h.2 with h' | ⟨k, cap, cur, hv, hb, hk', r⟩
  · exact .inl h'
  · refine .inr ⟨k, cap, cur, hv, hb, ?_, r⟩
    rw [hg.block k (Array.getElem?_eq_some_iff.1 hk').1 ?_]
    · exact hk'
    · intro e0
      obtain ⟨c, fz, hc⟩ := hk k e0.symm
      rw [hk'] at hc
      simp only [Option.some.injEq, Obj.cells.injEq] at hc
      exact hne hc.2.1
theorem kind_keep {w w' : World} {row : Option Nat} {e' : TypeId} (hk : ∀ g, row = some g → ∃ c fz, w.heap[g]? = some (.cells c e' fz)) (hb : Below w.heap.size w w') : ∀ g, row = some g → ∃ c fz, w'.heap[g]? = some (.cells c e' fz) := by
  intro g hg
  obtain ⟨c, fz, hc⟩ := hk g hg
  exact ⟨c, fz, by rw [hb.block g (Array.getElem?_eq_some_iff.1 hc).1]; exact hc⟩
/-- A state more. -/
theorem TreeInv.more {w w3 w4 w5 : World} {sv v5 : Value} {X : List Ref.SV} {y : Ref.SV} (I : TreeInv w w3 sv X) (z : Below w3.heap.size w3 w4) (hg : w4.grownBy w5 sv.ownBlock) (h5 : w5.ownsRow w.heap.size 118 11 v5 (X.length + 1) (X.flatMap Ref.svCells ++ Ref.svCells y))
    (hvm : y.vm = Ref.Sl.nil) (hy : ∀ W, StOK w W y) : TreeInv w (w5.setCell ⟨w.heap.size, 0, none⟩ v5) v5 (X ++ [y]) := by
  have I4 := I.keep z
  have hk := ownsRow_kind' I4.row
  have hlt : w.heap.size < w4.heap.size := (Array.getElem?_eq_some_iff.1 I4.chart).1
  have hne : some w.heap.size ≠ sv.ownBlock := by
    intro e
    obtain ⟨c, fz, hc⟩ := hk _ e.symm
    have h1 := I4.chart; rw [hc] at h1; simp at h1
  have hch : w5.heap[w.heap.size]? = some (.cells #[sv] 113 (0, 0)) := by rw [hg.block _ hlt hne]; exact I4.chart
  have ho := only_setCell w5 w.heap.size 0 v5
  refine ⟨(I4.bel.grown hg (Nat.le_of_lt hlt) (fun k e => (World.ownsRow.lt I4.row k e).1)).setCell (Nat.le_refl _) _, ?_, ?_, ?_, ?_⟩
  · rw [heap_setCell_same w5 w.heap.size 0 _ _ v5 hch]; rfl
  · rw [List.length_append, List.flatMap_append]
    have : [y].flatMap Ref.svCells = Ref.svCells y := by simp
    rw [this]
    exact own_tag h5 ho hch (by decide)
  · intro x hx
    rcases List.mem_append.1 hx with h | h
    · have D := I4.deep x h
      obtain ⟨M, h1, h2, h3⟩ := D.moves
      exact { D with moves := ⟨M, h1, own_tag (own_grow h2 hg hk (by decide)) ho hch (by decide), h3⟩ }
    · rw [List.mem_singleton.1 h]; exact hy _
  · rw [List.pairwise_append]
    refine ⟨I4.apart, List.pairwise_singleton _ _, ?_⟩
    intro a _ b hb
    rw [List.mem_singleton.1 hb, hvm]
    cases e : a.vm.v.ownBlock with
    | none => exact .inl rfl
    | some g => exact .inr (by simp [Ref.Sl.nil, Ref.Sl.v, Value.ownBlock])
theorem StOK.new {w : World} {s : Ref.State} (hm : s.moves = []) (he : s.enter = []) (hl : s.leave = []) (hn : s.name.size ≤ 1073741824) : ∀ W, StOK w W (Ref.emb s) := fun W =>
  ⟨⟨[], by rw [Ref.emb, hm]; rfl, World.ownsRow_nil _ _ _ _, fun y hy => absurd hy (by simp)⟩, by rw [Ref.emb, he]; exact World.ownsRow_nil _ _ _ _, by rw [Ref.emb, hl]; exact World.ownsRow_nil _ _ _ _,
   by rw [Ref.emb, hm]; exact fun y hy => absurd hy (by simp), by rw [Ref.emb, he]; exact fun y hy => absurd hy (by simp), by rw [Ref.emb, hl]; exact fun y hy => absurd hy (by simp), by rw [Ref.emb, he]; exact Nat.zero_le _, by rw [Ref.emb, hl]; exact Nat.zero_le _, hn⟩

end Go.Proofs.YtegmoddppafkfaaGreatDoor
