/-
  MY OWN TEXT.
-/
import Derived.Test.YtegmoddppafkfaaGreatDoorM10
import Derived.Deep.QuietTactic
import Derived.BigQuiet
import Derived.Deep.AppendLies
import Derived.Deep.RegionLaw
namespace Go.Proofs.YtegmoddppafkfaaGreatDoor
open Go.RowKit

namespace Ref
def moreTo (x : SV) (y : MV) (v : Sl) : SV := { x with s := { x.s with moves := x.s.moves ++ [y.m] }, vm := v }
end Ref
theorem own_apart {base size n : Nat} {e : TypeId} {v : Value} {xs : List Value} {w w' : World} {row : Option Nat} (h : w.ownsRow base e size v n xs) (hg : w.grownBy w' row) (hne : row = none ∨ v.ownBlock = none ∨ v.ownBlock ≠ row) : w'.ownsRow base e size v n xs := by
  refine ⟨h.1, ?_⟩
  rcases h.2 with h' | ⟨k, cap, cur, hv, hb, hk', r⟩
  · exact .inl h'
  · refine .inr ⟨k, cap, cur, hv, hb, ?_, r⟩
    rw [hg.block k (Array.getElem?_eq_some_iff.1 hk').1 ?_]
    · exact hk'
    · have hb2 : v.ownBlock = some k := by rw [hv]; rfl
      rcases hne with h1 | h1 | h1
      · rw [h1]; simp
      · rw [hb2] at h1; cases h1
      · rw [hb2] at h1; exact h1
theorem TreeInv.move {w wo w4 w5 : World} {g cap : Nat} {X : List Ref.SV} {u : Nat} (I : TreeInv w wo (.slice (some ⟨g, 0, none⟩) X.length cap) X) (z : Below wo.heap.size wo w4) (hu : u < X.length)
    {M : List Ref.MV} (hM : M.map (·.m) = X[u].s.moves) (hMr : wo.ownsRow w.heap.size 120 6 X[u].vm.v M.length (M.flatMap Ref.mvCells)) (hMa : ∀ y ∈ M, ActRow w y.v.v y.m.acts)
    (hg : w4.grownBy w5 X[u].vm.v.ownBlock) {y : Ref.MV} {v' : Ref.Sl} (h5 : w5.ownsRow w.heap.size 120 6 v'.v (M.length + 1) (M.flatMap Ref.mvCells ++ Ref.mvCells y))
    (hat : X[u].vm.v.ownBlock = v'.v.ownBlock ∨ v'.v.ownBlock = some w4.heap.size ∨ v'.v.ownBlock = some (w4.heap.size - 1) ∧ wo.heap.size ≤ w4.heap.size - 1) (hya : ActRow w y.v.v y.m.acts) (hyok : MoveOK y.m) :
    TreeInv w (w5.setCell ⟨g, u * 11 + 6, none⟩ v'.v) (.slice (some ⟨g, 0, none⟩) X.length cap) (X.set u (Ref.moreTo X[u] y v')) := by
  have I4 := I.keep z
  have hMr4 := own_keep hMr z
  have hk := ownsRow_kind' hMr4
  have hlt : w.heap.size < w4.heap.size := (Array.getElem?_eq_some_iff.1 I4.chart).1
  have hgl := World.ownsRow.lt I.row g rfl
  obtain ⟨c, hc⟩ := own_block I4.row
  have hne : some w.heap.size ≠ X[u].vm.v.ownBlock := by
    intro e
    obtain ⟨c, fz, hc⟩ := hk _ e.symm
    have h1 := I4.chart; rw [hc] at h1; simp at h1
  have hch : w5.heap[w.heap.size]? = some (.cells #[.slice (some ⟨g, 0, none⟩) X.length cap] 113 (0, 0)) := by rw [hg.block _ hlt hne]; exact I4.chart
  have hrow5 := own_grow I4.row hg hk (by decide)
  obtain ⟨c5, hc5⟩ := own_block hrow5
  have ho := only_setCell w5 g (u * 11 + 6) v'.v
  have hpos : w.heap.size ≤ w4.heap.size := Nat.le_of_lt hlt
  have hold : ∀ (j : Nat) (hj : j < X.length) (q : Nat), X[j].vm.v.ownBlock = some q → q < wo.heap.size := fun j hj q e => by
    obtain ⟨M', _, h2, _⟩ := (I.deep X[j] (List.getElem_mem hj)).moves
    exact (World.ownsRow.lt h2 q e).2
  have hwo := z.size
  refine ⟨(I4.bel.grown hg hpos (fun k e => (World.ownsRow.lt hMr4 k e).1)).setCell hgl.1 _, ?_, ?_, ?_, ?_⟩
  · have hne2 : w.heap.size ≠ g := by
      intro e; have h1 := I4.chart; rw [e, hc] at h1; simp at h1
    rw [ho.block _ hne2]; exact hch
  · have r1 := (World.ownsRow.stored hrow5 (u * 11 + 6) v'.v).1
    rw [flat_set (n := 11) (fun _ => rfl) X u 6 _ (Ref.moreTo X[u] y v') (by decide) hu rfl] at r1
    rw [List.length_set]; exact r1
  · intro x hx
    obtain ⟨j, hj, e⟩ := List.mem_iff_getElem.1 hx
    rw [List.length_set] at hj
    rw [List.getElem_set] at e
    by_cases hju : u = j
    · rw [if_pos hju] at e
      subst e
      have D := I4.deep X[u] (List.getElem_mem hu)
      refine { D with moves := ⟨M ++ [y], ?_, ?_, ?_⟩, okM := ?_ }
      · rw [List.map_append, hM]; rfl
      · rw [List.length_append, List.flatMap_append]
        have : [y].flatMap Ref.mvCells = Ref.mvCells y := by simp
        rw [this]
        exact own_tag h5 ho hc5 (by decide)
      · intro q hq
        rcases List.mem_append.1 hq with h | h
        · exact hMa q h
        · rw [List.mem_singleton.1 h]; exact hya
      · intro q hq
        rcases List.mem_append.1 hq with h | h
        · exact D.okM q h
        · rw [List.mem_singleton.1 h]; exact hyok
    · rw [if_neg hju] at e
      subst e
      have D := I4.deep X[j] (List.getElem_mem hj)
      obtain ⟨M', h1, h2, h3⟩ := D.moves
      have hap : X[u].vm.v.ownBlock = none ∨ X[j].vm.v.ownBlock = none ∨ X[j].vm.v.ownBlock ≠ X[u].vm.v.ownBlock := by
        rcases Nat.lt_or_gt_of_ne hju with h | h
        · rcases List.pairwise_iff_getElem.1 I.apart u j hu hj h with h' | h'
          · exact .inl h'
          · exact .inr (.inr (Ne.symm h'))
        · rcases List.pairwise_iff_getElem.1 I.apart j u hj hu h with h' | h'
          · exact .inr (.inl h')
          · exact .inr (.inr h')
      exact { D with moves := ⟨M', h1, own_tag (own_apart h2 hg hap) ho hc5 (by decide), h3⟩ }
  · rw [List.pairwise_iff_getElem]
    intro i j hi hj hij
    rw [List.length_set] at hi hj
    rw [List.getElem_set, List.getElem_set]
    have hfresh : ∀ (k : Nat) (hk : k < X.length), X[u].vm.v.ownBlock = v'.v.ownBlock ∨ X[k].vm.v.ownBlock ≠ v'.v.ownBlock := fun k hk => by
      rcases hat with h | h | h
      · exact .inl h
      · refine .inr fun e => ?_
        have := hold k hk _ (e.trans h); omega
      · refine .inr fun e => ?_
        have := hold k hk _ (e.trans h.1); omega
    by_cases h1 : u = i
    · rw [if_pos h1, if_neg (by omega)]
      subst h1
      rcases hfresh j hj with h | h
      · have := List.pairwise_iff_getElem.1 I.apart u j hi hj hij
        show v'.v.ownBlock = none ∨ v'.v.ownBlock ≠ _
        rw [← h]; exact this
      · exact .inr (Ne.symm h)
    · rw [if_neg h1]
      by_cases h2 : u = j
      · rw [if_pos h2]
        subst h2
        rcases hfresh i hi with h | h
        · have := List.pairwise_iff_getElem.1 I.apart i u hi hj hij
          show _ ∨ _ ≠ v'.v.ownBlock
          rw [← h]; exact this
        · exact .inr h
      · rw [if_neg h2]
        exact List.pairwise_iff_getElem.1 I.apart i j hi hj hij
end Go.Proofs.YtegmoddppafkfaaGreatDoor
namespace Go.Proofs.YtegmoddppafkfaaGreatDoor
open Go.RowKit

theorem Tryz.infoState : (Tryz.prog.info? 118).map (fun i => (i.zero, i.size, i.bytes)) = some (some (.agg #[.string ByteArray.empty, .string ByteArray.empty, .bool false, .int .i64 0, .int .i64 0, .int .i64 0, .slice none 0 0, .slice none 0 0, .slice none 0 0, .int .i64 0, .int .i64 0]), 11, 152) := by kernel_rfl
theorem one_block_set {wc : World} {xb : Nat} {Z : Array Value} {t : TypeId} {u4 u5 : Value} (h : wc.heap[xb]? = some (.cells Z t (0, 0))) :
    ∀ j, ((wc.setCell ⟨xb, 4, none⟩ u4).setCell ⟨xb, 5, none⟩ u5).cell? ⟨xb, j, none⟩ = ((Z.setIfInBounds 4 u4).setIfInBounds 5 u5)[j]? := by
  intro j
  have h1 := heap_setCell_same wc xb 4 Z t u4 h
  have h2 := heap_setCell_same _ xb 5 _ t u5 h1
  exact cell_of_row _ xb j _ t (0, 0) h2

theorem Tryz.infoMove : (Tryz.prog.info? 120).map (fun i => (i.zero, i.size, i.bytes)) = some (some (.agg #[.string ByteArray.empty, .string ByteArray.empty, .bool false, .int .u64 0, .slice none 0 0, .int .i64 0]), 6, 80) := by kernel_rfl
/-- The first loop of a text. -/
def firstLoop : Code → Option Code
  | .loop c => some c
  | .seq a b => match firstLoop a with
    | some c => some c
    | none => firstLoop b
  | .block _ c => firstLoop c
  | .scope c => firstLoop c
  | .cond _ a b => match firstLoop a with
    | some c => some c
    | none => firstLoop b
  | _ => none
noncomputable def treeBody : Code := ((Tryz.f57.body.bind firstLoop).getD .skip)

end Go.Proofs.YtegmoddppafkfaaGreatDoor
namespace Go.Proofs.YtegmoddppafkfaaGreatDoor
open Go.RowKit

set_option maxHeartbeats 6400000 in
set_option maxRecDepth 1000000 in
theorem tree_state (A : List (Ref.LV × Nat)) (w : World) (aa : Option Addr) (ac : Nat) (da : Option Addr) (dc : Nat) (HA : Row w 127 19 Ref.lvCells (.slice aa (A.map (·.1)).length ac) (A.map (·.1))) (HD : Row w 3 1 intCell (.slice da (A.map (·.2)).length dc) (A.map (·.2))) (hA : A.length ≤ 1048576) (hok : ∀ p ∈ A, LineOK w p.1) (hdp : ∀ p ∈ A, p.2 ≤ 1048576)
    (gk : Nat) (wr : World) (n : Nat) (sv : Value) (X : List Ref.SV) (hq : gk = A.length - n) (hS : Ref.treeTo (A.map fun p => (p.1.L, (p.2 : Int))) n = some (X.map (·.s))) (hXn : X.length ≤ n) (HMv : Hid (∀ y ∈ X, y.s.moves.length ≤ n)) (I : TreeInv w wr sv X) (hlt : n < A.length)
    (J : Nat → Act → World → Prop) (K K1 : Act → World → Prop)
    (hJ : ∀ (k : Nat) (a' : Act) (w' : World), (∃ u4 u5 u7 u8 u9 u10 u11 u12 u13 u18 u19 u20 u21 u22 u23 u24 u25 u26 u27 u28 u29 u30 u31 u32 u33 u34 u35 u36 u37 u38 u39 u40 u41 u42 u43 u44 u45 u46 u47 u48 u49 u50 u51 u52 u53 u54 u55 u56 u57 u58 u59 u60 u61 u62 u63 u64 u65 u66 u67 u68 u69 u70 u71 u72 u73 u74 u75 u76 u77 u78 u79 u80 u81 u82 u83 u84 u85 u86 u87 u88 u89 u90 u91 u92 u93 u94 u95 u96 u97 u98 u99 u100 u101 u102 u103 u104 u105 u106 u107 u108 u109 u110 u111 u112 u113 u114 u115 u116 u117 u118 u119 u120 u121 u122 u123 u124 u125 u126 u127 u128 u129 u130 u131 u132 u133 u134 u135 u136 u137 u138 u139 u140 u141 u142 u143 u144 u145 u146 u147 u148 u149 u150 u151 u152 u153 u154 u155 u156 u157 u158 u159 u160 u161 u162 u163 u164 u165 u166 u167 u168 u169 u170 u171 u172 u173 u174 u175 u176 u177 u178 u179 u180 u181 u182 u183 u184 u185 u186 u187 u188 u189 u190 u191 u192 u193 u194 u195 u196 u197 u198 u199 u200 u201 u202 u203 : Value, (∃ (n : Nat) (S : List Ref.State) (sv : Value) (X : List Ref.SV), k = A.length - n ∧ n ≤ A.length ∧ u7 = .int .i64 n ∧ Ref.treeTo (A.map fun p => (p.1.L, (p.2 : Int))) n = some S ∧ X.map (·.s) = S ∧ X.length ≤ n ∧ (∀ y ∈ X, y.s.moves.length ≤ n) ∧ TreeInv w w' sv X) ∧ a' = ⟨#[.slice aa A.length ac, .slice da A.length dc, undef, undef, u4, u5, .pointer (some ⟨w.heap.size, 0, none⟩), u7, u8, u9, u10, u11, u12, u13, undef, undef, .agg #[.slice none 0 0], .pointer (some ⟨w.heap.size, 0, none⟩), u18, u19, u20, u21, u22, u23, u24, u25, u26, u27, u28, u29, u30, u31, u32, u33, u34, u35, u36, u37, u38, u39, u40, u41, u42, u43, u44, u45, u46, u47, u48, u49, u50, u51, u52, u53, u54, u55, u56, u57, u58, u59, u60, u61, u62, u63, u64, u65, u66, u67, u68, u69, u70, u71, u72, u73, u74, u75, u76, u77, u78, u79, u80, u81, u82, u83, u84, u85, u86, u87, u88, u89, u90, u91, u92, u93, u94, u95, u96, u97, u98, u99, u100, u101, u102, u103, u104, u105, u106, u107, u108, u109, u110, u111, u112, u113, u114, u115, u116, u117, u118, u119, u120, u121, u122, u123, u124, u125, u126, u127, u128, u129, u130, u131, u132, u133, u134, u135, u136, u137, u138, u139, u140, u141, u142, u143, u144, u145, u146, u147, u148, u149, u150, u151, u152, u153, u154, u155, u156, u157, u158, u159, u160, u161, u162, u163, u164, u165, u166, u167, u168, u169, u170, u171, u172, u173, u174, u175, u176, u177, u178, u179, u180, u181, u182, u183, u184, u185, u186, u187, u188, u189, u190, u191, u192, u193, u194, u195, u196, u197, u198, u199, u200, u201, u202, u203, undef, undef, undef, undef, undef, undef, undef, undef, undef, undef, undef, undef, undef, undef, undef, undef, undef, undef, undef, undef, undef, undef, undef, undef, undef, undef, undef, undef, undef, undef, undef, undef, undef, undef, undef, undef], []⟩) → J k a' w')
    (hK : ∀ (a' : Act) (w' : World), Handed J gk a' w' → K a' w') (u4 u5 u8 u9 u10 u11 u12 u13 u18 u19 u20 u21 u22 u23 u24 u25 u26 u27 u28 u29 u30 u31 u32 u33 u34 u35 u36 u37 u38 u39 u40 u41 u42 u43 u44 u45 u46 u47 u48 u49 u50 u51 u52 u53 u54 u55 u56 u57 u58 u59 u60 u61 u62 u63 u64 u65 u66 u67 u68 u69 u70 u71 u72 u73 u74 u75 u76 u77 u78 u79 u80 u81 u82 u83 u84 u85 u86 u87 u88 u89 u90 u91 u92 u93 u94 u95 u96 u97 u98 u99 u100 u101 u102 u103 u104 u105 u106 u107 u108 u109 u110 u111 u112 u113 u114 u115 u116 u117 u118 u119 u120 u121 u122 u123 u124 u125 u126 u127 u128 u129 u130 u131 u132 u133 u134 u135 u136 u137 u138 u139 u140 u141 u142 u143 u144 u145 u146 u147 u148 u149 u150 u151 u152 u153 u154 u155 u156 u157 u158 u159 u160 u161 u162 u163 u164 u165 u166 u167 u168 u169 u170 u171 u172 u173 u174 u175 u176 u177 u178 u179 u180 u181 u182 u183 u184 u185 u186 u187 u188 u189 u190 u191 u192 u193 u194 u195 u196 u197 u198 u199 u200 u201 u202 u203 : Value) (HKD : Hid (A[n].1.L.kind = 115)) :
    Code.wp Tryz.prog treeBody (Exit.then K (Exit.inBlock 0 (Exit.then K1 (bodyPost Tryz.prog Tryz.f57 (TreePost A w))))) ⟨#[.slice aa A.length ac, .slice da A.length dc, undef, undef, u4, u5, .pointer (some ⟨w.heap.size, 0, none⟩), .int .i64 n, u8, u9, u10, u11, u12, u13, undef, undef, .agg #[.slice none 0 0], .pointer (some ⟨w.heap.size, 0, none⟩), u18, u19, u20, u21, u22, u23, u24, u25, u26, u27, u28, u29, u30, u31, u32, u33, u34, u35, u36, u37, u38, u39, u40, u41, u42, u43, u44, u45, u46, u47, u48, u49, u50, u51, u52, u53, u54, u55, u56, u57, u58, u59, u60, u61, u62, u63, u64, u65, u66, u67, u68, u69, u70, u71, u72, u73, u74, u75, u76, u77, u78, u79, u80, u81, u82, u83, u84, u85, u86, u87, u88, u89, u90, u91, u92, u93, u94, u95, u96, u97, u98, u99, u100, u101, u102, u103, u104, u105, u106, u107, u108, u109, u110, u111, u112, u113, u114, u115, u116, u117, u118, u119, u120, u121, u122, u123, u124, u125, u126, u127, u128, u129, u130, u131, u132, u133, u134, u135, u136, u137, u138, u139, u140, u141, u142, u143, u144, u145, u146, u147, u148, u149, u150, u151, u152, u153, u154, u155, u156, u157, u158, u159, u160, u161, u162, u163, u164, u165, u166, u167, u168, u169, u170, u171, u172, u173, u174, u175, u176, u177, u178, u179, u180, u181, u182, u183, u184, u185, u186, u187, u188, u189, u190, u191, u192, u193, u194, u195, u196, u197, u198, u199, u200, u201, u202, u203, undef, undef, undef, undef, undef, undef, undef, undef, undef, undef, undef, undef, undef, undef, undef, undef, undef, undef, undef, undef, undef, undef, undef, undef, undef, undef, undef, undef, undef, undef, undef, undef, undef, undef, undef, undef], []⟩ wr := by
  conv => arg 2; whnf
  obtain ⟨wo, hwo⟩ : ∃ x : World, x = wr := ⟨wr, rfl⟩
  subst hwo
  have hX : X.length ≤ 1048576 := by omega
  have hn1 : n < (A.map (·.1)).length := by simpa using hlt
  have hn2 : n < (A.map (·.2)).length := by simpa using hlt
  obtain ⟨ga, gc, hv⟩ := HA.pos (by omega)
  simp only [Value.slice.injEq, List.length_map, true_and] at hv
  obtain ⟨rfl, rfl⟩ := hv
  obtain ⟨gd, gc2, hv⟩ := HD.pos (by omega)
  simp only [Value.slice.injEq, List.length_map, true_and] at hv
  obtain ⟨rfl, rfl⟩ := hv
  have bga := (World.ownsRow.lt HA ga rfl).2
  have bgd := (World.ownsRow.lt HD gd rfl).2
  have hsize := I.bel.size
  have hrng := Row.range (n := 19) (fun _ => rfl) HA hn1
  have hcd := Row.cell (n := 1) (j := 0) (fun _ => rfl) HD (by decide) hn2
  simp only [List.getElem_map, intCell, List.getElem?_cons_zero, Nat.mul_one, Nat.add_zero] at hrng hcd
  have OK := hok A[n] (List.getElem_mem hlt)
  have hdn := hdp A[n] (List.getElem_mem hlt)
  have hrng' : wo.rangeAt ga (n * 19) (Ref.lvCells A[n].1) := fun j v hj => by rw [I.bel.cell (p := ⟨ga, n * 19 + j, none⟩) bga]; exact hrng j v hj
  rw [← I.bel.cell (p := ⟨gd, n, none⟩) bgd] at hcd
  have hgdw : gd < wo.heap.size := by omega
  have HST : Hid (Ref.treeTo (A.map fun p => (p.1.L, (p.2 : Int))) (n + 1) = Ref.treeStep (X.map (·.s)) n A[n].1.L A[n].2) := by
    unfold Hid; rw [Ref.treeTo, hS, List.getElem?_map, List.getElem?_eq_getElem hlt]; rfl
  have hcb : wo.cell? ⟨w.heap.size, 0, none⟩ = some sv := by simp [World.cell?, I.chart]
  have hcbl : w.heap.size < wo.heap.size := (Array.getElem?_eq_some_iff.1 I.chart).1
  obtain ⟨sa, sc, hsv⟩ := I.row0.form
  subst hsv
  clear hrng
  generalize A[n].1 = x at *
  generalize A[n].2 = d at *
  unfold Ref.lvCells Ref.lineCells at hrng'
  go_upto_block 2 with (first
    | (refine wpList_load_mid rfl 127 (.tmp 26) rfl ga (n * 19) rfl _ _ hrng' Tryz.underlying127 rfl Tryz.sizeLine ?_)
    | (refine wpList_store_new rfl 127 (.tmp 8) (.tmp 27) rfl 127 _ _ rfl rfl Tryz.sizeLine rfl rfl ?_))
  have HUP : Hid (∀ m, m ≤ X.length → Ref.upAux (X.map (·.s)) d (m + 1) = if ((X.map (·.s)).getD m Ref.st0).depth = (d : Int) - 1 then (m : Int) else if ((X.map (·.s)).getD m Ref.st0).depth < (d : Int) - 1 then -1 else Ref.upAux (X.map (·.s)) d m) := fun m _ => rfl
  have HU0 : Hid (0 < (d : Int) → Ref.upOf (X.map (·.s)) d = Ref.upAux (X.map (·.s)) d X.length) := fun h => by rw [Ref.upOf, if_pos h, List.length_map]
  have HU1 : Hid (¬ 0 < (d : Int) → Ref.upOf (X.map (·.s)) d = -1) := fun h => by rw [Ref.upOf, if_neg h]
  go_cut [10] (fun s10 wx => s10 = .int .i64 (Ref.upOf (X.map (·.s)) d) ∧ wx = wo.alloc (.cells (Ref.lvCells x).toArray 127))
  case first =>
    go_wp2_with fail
    generalize hU : Ref.upOf (X.map (·.s)) d = U at *
    clear hU
    go_loopg [10, 11] X.length (fun q u k wx => wx = wo.alloc (.cells (Ref.lvCells x).toArray 127) ∧ ∃ m : Nat, m ≤ X.length ∧ q = m ∧ k = .int .i64 ((m : Int) - 1) ∧ u = .int .i64 (-1) ∧ (0 < (d : Int) → U = Ref.upAux (X.map (·.s)) d m))
    case atStart => exact ⟨rfl, X.length, Nat.le_refl _, rfl, rfl, rfl, HU0.out⟩
    case round =>
      obtain ⟨hwx, m, hm, hqm, rfl, rfl, hu⟩ := hrel
      have HU : Hid _ := hu
      clear hu
      subst hwx
      by_cases hm0 : m = 0
      · subst hm0
        have HE : Hid (U = -1) := by
          by_cases hd0 : 0 < (d : Int)
          · exact HU.out hd0
          · exact HU1.out (by omega)
        go_wp2
        go_meet
        case rel => exact ⟨by rw [HE.out], rfl⟩
      · obtain ⟨m', rfl⟩ : ∃ m' : Nat, m = m' + 1 := ⟨m - 1, by omega⟩
        rw [show ((m' + 1 : Nat) : Int) - 1 = (m' : Int) from by omega]
        by_cases hd0 : 0 < (d : Int)
        · obtain ⟨g, gc', hv⟩ := I.row0.pos (by omega)
          simp only [Value.slice.injEq, true_and] at hv
          obtain ⟨rfl, rfl⟩ := hv
          have hlm : m' < X.length := by omega
          have hgw := (World.ownsRow.lt I.row0 g rfl).2
          have hc4 := Row.cell (n := 11) (j := 4) (fun _ => rfl) I.row0 (by decide) hlm
          simp only [Ref.svCells, List.getElem?_cons_succ, List.getElem?_cons_zero] at hc4
          have HG : Hid ((X.map (·.s)).getD m' Ref.st0 = X[m'].s) := by unfold Hid; simp [hlm]
          have HA2 : Hid (U = if X[m'].s.depth = (d : Int) - 1 then (m' : Int) else if X[m'].s.depth < (d : Int) - 1 then -1 else Ref.upAux (X.map (·.s)) d m') := by
            unfold Hid; rw [HU.out hd0, HUP.out m' (by omega), HG.out]
          clear HU HUP HU0 HU1 hrng' hcd
          by_cases e1 : X[m'].s.depth = (d : Int) - 1
          · have e1' : (X[m'].s.depth == (d : Int) - 1) = true := by simpa using e1
            have HE : Hid (U = m') := by unfold Hid; rw [HA2.out, if_pos e1]
            clear e1 HA2
            go_wp2
            go_meet
            case rel => exact ⟨by rw [HE.out], rfl⟩
          · have e1' : (X[m'].s.depth == (d : Int) - 1) = false := by simpa using e1
            by_cases e2 : X[m'].s.depth < (d : Int) - 1
            · have HE : Hid (U = -1) := by unfold Hid; rw [HA2.out, if_neg e1, if_pos e2]
              clear e1 HA2
              go_wp2
              go_meet
              case rel => exact ⟨by rw [HE.out], rfl⟩
            · have HE : Hid (U = Ref.upAux (X.map (·.s)) d m') := by unfold Hid; rw [HA2.out, if_neg e1, if_neg e2]
              clear e1 HA2
              go_wp2
              go_roundg m'
              case measure => omega
              case rel => exact ⟨rfl, m', by omega, rfl, rfl, rfl, fun _ => HE.out⟩
        · have HE : Hid (U = -1) := HU1.out (by omega)
          clear HU HUP HU0 HU1 hrng' hcd
          have hd0' : decide (0 < (d : Int)) = false := by simpa using hd0
          go_wp2
          go_meet
          case rel => exact ⟨by rw [HE.out], rfl⟩
  case rest =>
    obtain ⟨rfl, hwc⟩ := hcut
    obtain ⟨z0, z1, z2⟩ := one_block hwc
    have zrow : wc.heap[wo.heap.size]? = some (.cells (Ref.lvCells x).toArray 127 (0, 0)) := by rw [hwc]; exact heap_alloc_new _ _
    clear hwc HUP HU0 HU1 hrng' hcd hgdw
    have Z0 : Hid _ := z0
    clear z0
    have k0 := z1 0
    have k18 := z1 18
    simp only [Ref.lvCells, Ref.lineCells, List.getElem?_toArray, List.getElem?_cons_succ, List.getElem?_cons_zero] at k0 k18
    have HZ1 : Hid _ := z1
    clear z1
    have ZB : Below w.heap.size w wc := I.bel.trans (z2.mono hsize)
    have hcbw : wc.cell? ⟨w.heap.size, 0, none⟩ = some (.slice sa X.length sc) := by rw [z2.cell (p := ⟨w.heap.size, 0, none⟩) hcbl]; exact hcb
    clear hcb
    generalize hU : Ref.upOf (X.map (·.s)) d = U
    have HU : Hid _ := hU
    clear hU
    by_cases f1 : 0 < (d : Int) ∧ U < 0
    · obtain ⟨f1a, f1b⟩ := f1
      have HN : Hid (Ref.treeTo (A.map fun p => (p.1.L, (p.2 : Int))) (n + 1) = none) := by
        unfold Hid; rw [HST.out, Ref.treeStep, HU.out, if_pos ⟨f1a, f1b⟩]
      clear HST
      go_wp2
      go_ret2
      exact tree_fail ZB hlt hS HN.out
    · have hk := HKD.out
      have hk' : (x.L.kind == 115) = true := by simpa using hk
      have fx4 : wc.frozen? ⟨wo.heap.size, 4, none⟩ = false := by simp [World.frozen?, zrow]
      have fx5 : wc.frozen? ⟨wo.heap.size, 5, none⟩ = false := by simp [World.frozen?, zrow]
      have HUL : Hid (-1 ≤ U ∧ U < X.length) := by
        unfold Hid
        by_cases h : U < 0
        · refine ⟨?_, by omega⟩
          rw [← HU.out]; exact upOf_ge _ _
        · have := upOf_lt (X.map (·.s)) d (by rw [HU.out]; exact h)
          rw [HU.out, List.length_map] at this
          exact ⟨by omega, this⟩
      have z4 : Below wo.heap.size wo ((wc.setCell ⟨wo.heap.size, 4, none⟩ (.int .i64 U)).setCell ⟨wo.heap.size, 5, none⟩ (.int .i64 d)) := (z2.setCell (Nat.le_refl _) _).setCell (Nat.le_refl _) _
      have I2 := I.keep z4
      have HFE : Hid (Ref.fits X (Ref.emb (Ref.newState x.L U d)) = Ref.fits ((X.map (·.s)).map Ref.emb) (Ref.emb (Ref.newState x.L U d))) := Ref.fits_emb X _
      obtain ⟨wd, hwd⟩ : ∃ y : World, y = wc := ⟨wc, rfl⟩
      subst hwd
      go_upto_region 14 with fail
      go_cut [74] (fun c wx => c = .bool false ∧ wx = wd)
      case first =>
        by_cases hd0 : 0 < (d : Int)
        · have hU0 : ¬ U < 0 := fun h => f1 ⟨hd0, h⟩
          have HU0 : Hid (decide (U < 0) = false) := by unfold Hid; simpa using hU0
          clear f1
          go_wp2
          go_meet
          case rel => exact ⟨by first | rfl | rw [HU0.out], rfl⟩
        · have hd0' : decide (0 < (d : Int)) = false := by simpa using hd0
          clear f1
          go_wp2
          go_meet
          case rel => exact ⟨rfl, rfl⟩
      case rest =>
        obtain ⟨rfl, hwc⟩ := hcut
        rw [hwc]
        clear hwc wc
        have e1 := HZ1.out 1
        have e2 := HZ1.out 2
        have e3 := HZ1.out 3
        have e4 := HZ1.out 4
        have e5 := HZ1.out 5
        have e6 := HZ1.out 6
        have e7 := HZ1.out 7
        have e8 := HZ1.out 8
        have e9 := HZ1.out 9
        have e10 := HZ1.out 10
        have e11 := HZ1.out 11
        simp only [Ref.lvCells, Ref.lineCells, List.getElem?_toArray, List.getElem?_cons_succ, List.getElem?_cons_zero] at e1 e2 e3 e4 e5 e6 e7 e8 e9 e10 e11
        go_wp2_with fail
        refine (fits_any w.heap.size _ X (Ref.emb (Ref.newState x.L U d)) _ ⟨I2.chart, I2.row0⟩ (Nat.lt_of_lt_of_le hcbl z4.size) (by omega) HUL.out.2 HUL.out.1).mono ?_
        rintro e w3 ⟨rfl, hb3⟩
        dsimp only
        have I3 := I2.keep hb3
        have zz := one_block_set zrow (u4 := .int .i64 U) (u5 := .int .i64 d)
        have y := fun j => (hb3.cell (p := ⟨wo.heap.size, j, none⟩) (by have := Z0.out; simp; omega)).trans (zz j)
        clear zz e1 e2 e3 e4 e5 e6 e7 e8 e9 e10 e11 k0 k18 hcbw fx4 fx5
        cases hft : Ref.fits X (Ref.emb (Ref.newState x.L U d))
        · have HN : Hid (Ref.treeTo (A.map fun p => (p.1.L, (p.2 : Int))) (n + 1) = none) := by
            unfold Hid; rw [HST.out, Ref.treeStep, HU.out, if_neg f1, if_pos hk, ← HFE.out, hft]; rfl
          clear HST f1 y
          go_wp2
          go_ret2
          exact tree_fail I3.bel hlt hS HN.out
        · obtain ⟨i0, hi, hz0, hz1, hz2⟩ := info_parts Tryz.infoState
          have HN : Hid (Ref.treeTo (A.map fun p => (p.1.L, (p.2 : Int))) (n + 1) = some ((X ++ [Ref.emb (Ref.newState x.L U d)]).map (·.s))) := by
            unfold Hid; rw [HST.out, Ref.treeStep, HU.out, if_neg f1, if_pos hk, ← HFE.out, hft, if_pos rfl, List.map_append]; rfl
          clear HST f1
          have hcb3 : w3.cell? ⟨w.heap.size, 0, none⟩ = some (.slice sa X.length sc) := by simp [World.cell?, I3.chart]
          have fcb3 : w3.frozen? ⟨w.heap.size, 0, none⟩ = false := by simp [World.frozen?, I3.chart]
          have y1 := y 1
          have y2 := y 2
          have y3 := y 3
          have y4 := y 4
          have y5 := y 5
          have y6 := y 6
          have y7 := y 7
          have y8 := y 8
          have y9 := y 9
          have y10 := y 10
          have y11 := y 11
          simp only [Ref.lvCells, Ref.lineCells, List.setIfInBounds_toArray, List.set_cons_succ, List.set_cons_zero, List.getElem?_toArray, List.getElem?_cons_succ, List.getElem?_cons_zero] at y1 y2 y3 y4 y5 y6 y7 y8 y9 y10 y11
          clear y
          have hxb3 : wo.heap.size < w3.heap.size := Nat.lt_of_lt_of_le (by rw [(only_setCell _ _ _ _).size, (only_setCell _ _ _ _).size, Z0.out]; exact Nat.lt_succ_self _) hb3.size
          have hcb4 : w.heap.size < w3.heap.size := by omega
          have hnB : Hid (some wo.heap.size ≠ Value.ownBlock (.slice sa X.length sc)) := fun e => by
            have := (World.ownsRow.lt I.row _ e.symm).2; omega
          have hnA : Hid (some w.heap.size ≠ Value.ownBlock (.slice sa X.length sc)) := fun e => by
            obtain ⟨c, fz, hc⟩ := ownsRow_kind' I.row _ e.symm
            have h1 := I.chart; rw [hc] at h1; simp at h1
          have hneB : ¬ w.heap.size = wo.heap.size := by omega
          go_upto_region 22 with fail
          go_cut [] (fun wx => ∃ g5 cap5, TreeInv w wx (.slice (some ⟨g5, 0, none⟩) (X.length + 1) cap5) (X ++ [Ref.emb (Ref.newState x.L U d)]))
          case first =>
           go_region_law
            ((refine step_append_lies _ (by rfl) _ _ _ (by rfl) w.heap.size 118 i0 _ 11 152 Tryz.underlying111 hi hz0 hz1 hz2 rfl (by decide) (.slice sa X.length sc) X.length (X.flatMap Ref.svCells) (by rfl) ((I3.row.alloc _).drew) ⟨w3.heap.size, 0, none⟩ 1 1 (Ref.svCells (Ref.emb (Ref.newState x.L U d))) (by rfl) (by rfl) (World.news_of_block (cs := (Ref.svCells (Ref.emb (Ref.newState x.L U d))).toArray) (t := 118) (fr := (0, 0)) (heap_alloc_new w3 _)) (by simp [Ref.svCells, Value.oneCell']) (by omega) (by unfold maxLen; omega) (by omega) (by simp; omega) (w3.heap.size + 1) (by simp) ?_; intro g5 cap5 w5 hown5 hgrow hat hlt5; have hfz5 := ((hgrow.frozen_far ⟨w.heap.size, 0, none⟩ (by simp; omega) hnA.out).trans ((((Below.refl w3.heap.size w3).alloc (Nat.le_refl _) _).drew).frozen (p := ⟨w.heap.size, 0, none⟩) hcb4)).trans fcb3; have hcc5 := ((hgrow.cell_far ⟨w.heap.size, 0, none⟩ (by simp; omega) hnA.out).trans ((((Below.refl w3.heap.size w3).alloc (Nat.le_refl _) _).drew).cell (p := ⟨w.heap.size, 0, none⟩) hcb4)).trans hcb3))
           all_goals (
            go_wp2_with fail
            go_meet
            case rel => exact ⟨g5, cap5, I3.more (((Below.refl w3.heap.size w3).alloc (Nat.le_refl _) _).drew) hgrow hown5 rfl (StOK.new rfl rfl rfl OK.name)⟩)
          case rest =>
            obtain ⟨g5, cap5, I6⟩ := hcut
            go_wp2
            go_roundg (A.length - (n + 1))
            case measure => omega
            case rel =>
              refine ⟨n + 1, _, .slice (some ⟨g5, 0, none⟩) (X.length + 1) cap5, X ++ [Ref.emb (Ref.newState x.L U d)], rfl, by omega, by go_num, HN.out, rfl, by rw [List.length_append]; exact Nat.succ_le_succ hXn, ?_, I6⟩
              intro y hy
              rcases List.mem_append.1 hy with h | h
              · exact Nat.le_succ_of_le (HMv.out y h)
              · rw [List.mem_singleton.1 h]; exact Nat.zero_le _
end Go.Proofs.YtegmoddppafkfaaGreatDoor
