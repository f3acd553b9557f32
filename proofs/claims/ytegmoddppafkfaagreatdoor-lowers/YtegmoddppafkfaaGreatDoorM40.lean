/-
  MY OWN TEXT.
-/
import Derived.Test.YtegmoddppafkfaaGreatDoorM02
import Derived.Test.YtegmoddppafkfaaGreatDoorM38
import Derived.Test.YtegmoddppafkfaaGreatDoorM39
namespace Go.Proofs.YtegmoddppafkfaaGreatDoor
open Go.RowKit

set_option maxHeartbeats 6400000 in
set_option maxRecDepth 1000000 in
theorem tree_else (A : List (Ref.LV × Nat)) (w : World) (aa : Option Addr) (ac : Nat) (da : Option Addr) (dc : Nat) (HA : Row w 127 19 Ref.lvCells (.slice aa (A.map (·.1)).length ac) (A.map (·.1))) (HD : Row w 3 1 intCell (.slice da (A.map (·.2)).length dc) (A.map (·.2))) (hA : A.length ≤ 1048576) (hok : ∀ p ∈ A, LineOK w p.1) (hdp : ∀ p ∈ A, p.2 ≤ 1048576)
    (gk : Nat) (wr : World) (n : Nat) (sv : Value) (X : List Ref.SV) (hq : gk = A.length - n) (hS : Ref.treeTo (A.map fun p => (p.1.L, (p.2 : Int))) n = some (X.map (·.s))) (hXn : X.length ≤ n) (HMv : Hid (∀ y ∈ X, y.s.moves.length ≤ n)) (I : TreeInv w wr sv X) (hlt : n < A.length)
    (J : Nat → Act → World → Prop) (K K1 : Act → World → Prop)
    (hJ : ∀ (k : Nat) (a' : Act) (w' : World), (∃ u4 u5 u7 u8 u9 u10 u11 u12 u13 u18 u19 u20 u21 u22 u23 u24 u25 u26 u27 u28 u29 u30 u31 u32 u33 u34 u35 u36 u37 u38 u39 u40 u41 u42 u43 u44 u45 u46 u47 u48 u49 u50 u51 u52 u53 u54 u55 u56 u57 u58 u59 u60 u61 u62 u63 u64 u65 u66 u67 u68 u69 u70 u71 u72 u73 u74 u75 u76 u77 u78 u79 u80 u81 u82 u83 u84 u85 u86 u87 u88 u89 u90 u91 u92 u93 u94 u95 u96 u97 u98 u99 u100 u101 u102 u103 u104 u105 u106 u107 u108 u109 u110 u111 u112 u113 u114 u115 u116 u117 u118 u119 u120 u121 u122 u123 u124 u125 u126 u127 u128 u129 u130 u131 u132 u133 u134 u135 u136 u137 u138 u139 u140 u141 u142 u143 u144 u145 u146 u147 u148 u149 u150 u151 u152 u153 u154 u155 u156 u157 u158 u159 u160 u161 u162 u163 u164 u165 u166 u167 u168 u169 u170 u171 u172 u173 u174 u175 u176 u177 u178 u179 u180 u181 u182 u183 u184 u185 u186 u187 u188 u189 u190 u191 u192 u193 u194 u195 u196 u197 u198 u199 u200 u201 u202 u203 : Value, (∃ (n : Nat) (S : List Ref.State) (sv : Value) (X : List Ref.SV), k = A.length - n ∧ n ≤ A.length ∧ u7 = .int .i64 n ∧ Ref.treeTo (A.map fun p => (p.1.L, (p.2 : Int))) n = some S ∧ X.map (·.s) = S ∧ X.length ≤ n ∧ (∀ y ∈ X, y.s.moves.length ≤ n) ∧ TreeInv w w' sv X) ∧ a' = ⟨#[.slice aa A.length ac, .slice da A.length dc, undef, undef, u4, u5, .pointer (some ⟨w.heap.size, 0, none⟩), u7, u8, u9, u10, u11, u12, u13, undef, undef, .agg #[.slice none 0 0], .pointer (some ⟨w.heap.size, 0, none⟩), u18, u19, u20, u21, u22, u23, u24, u25, u26, u27, u28, u29, u30, u31, u32, u33, u34, u35, u36, u37, u38, u39, u40, u41, u42, u43, u44, u45, u46, u47, u48, u49, u50, u51, u52, u53, u54, u55, u56, u57, u58, u59, u60, u61, u62, u63, u64, u65, u66, u67, u68, u69, u70, u71, u72, u73, u74, u75, u76, u77, u78, u79, u80, u81, u82, u83, u84, u85, u86, u87, u88, u89, u90, u91, u92, u93, u94, u95, u96, u97, u98, u99, u100, u101, u102, u103, u104, u105, u106, u107, u108, u109, u110, u111, u112, u113, u114, u115, u116, u117, u118, u119, u120, u121, u122, u123, u124, u125, u126, u127, u128, u129, u130, u131, u132, u133, u134, u135, u136, u137, u138, u139, u140, u141, u142, u143, u144, u145, u146, u147, u148, u149, u150, u151, u152, u153, u154, u155, u156, u157, u158, u159, u160, u161, u162, u163, u164, u165, u166, u167, u168, u169, u170, u171, u172, u173, u174, u175, u176, u177, u178, u179, u180, u181, u182, u183, u184, u185, u186, u187, u188, u189, u190, u191, u192, u193, u194, u195, u196, u197, u198, u199, u200, u201, u202, u203, undef, undef, undef, undef, undef, undef, undef, undef, undef, undef, undef, undef, undef, undef, undef, undef, undef, undef, undef, undef, undef, undef, undef, undef, undef, undef, undef, undef, undef, undef, undef, undef, undef, undef, undef, undef], []⟩) → J k a' w')
    (hK : ∀ (a' : Act) (w' : World), Handed J gk a' w' → K a' w') (u4 u5 u8 u9 u10 u11 u12 u13 u18 u19 u20 u21 u22 u23 u24 u25 u26 u27 u28 u29 u30 u31 u32 u33 u34 u35 u36 u37 u38 u39 u40 u41 u42 u43 u44 u45 u46 u47 u48 u49 u50 u51 u52 u53 u54 u55 u56 u57 u58 u59 u60 u61 u62 u63 u64 u65 u66 u67 u68 u69 u70 u71 u72 u73 u74 u75 u76 u77 u78 u79 u80 u81 u82 u83 u84 u85 u86 u87 u88 u89 u90 u91 u92 u93 u94 u95 u96 u97 u98 u99 u100 u101 u102 u103 u104 u105 u106 u107 u108 u109 u110 u111 u112 u113 u114 u115 u116 u117 u118 u119 u120 u121 u122 u123 u124 u125 u126 u127 u128 u129 u130 u131 u132 u133 u134 u135 u136 u137 u138 u139 u140 u141 u142 u143 u144 u145 u146 u147 u148 u149 u150 u151 u152 u153 u154 u155 u156 u157 u158 u159 u160 u161 u162 u163 u164 u165 u166 u167 u168 u169 u170 u171 u172 u173 u174 u175 u176 u177 u178 u179 u180 u181 u182 u183 u184 u185 u186 u187 u188 u189 u190 u191 u192 u193 u194 u195 u196 u197 u198 u199 u200 u201 u202 u203 : Value) (HKD : Hid (¬ A[n].1.L.kind = 115)) (HMD : Hid (¬ A[n].1.L.kind = 109)) :
    Code.wp Tryz.prog treeBody (Exit.then K (Exit.inBlock 0 (Exit.then K1 (bodyPost Tryz.prog Tryz.f57 (TreePost A w))))) ⟨#[.slice aa A.length ac, .slice da A.length dc, undef, undef, u4, u5, .pointer (some ⟨w.heap.size, 0, none⟩), .int .i64 n, u8, u9, u10, u11, u12, u13, undef, undef, .agg #[.slice none 0 0], .pointer (some ⟨w.heap.size, 0, none⟩), u18, u19, u20, u21, u22, u23, u24, u25, u26, u27, u28, u29, u30, u31, u32, u33, u34, u35, u36, u37, u38, u39, u40, u41, u42, u43, u44, u45, u46, u47, u48, u49, u50, u51, u52, u53, u54, u55, u56, u57, u58, u59, u60, u61, u62, u63, u64, u65, u66, u67, u68, u69, u70, u71, u72, u73, u74, u75, u76, u77, u78, u79, u80, u81, u82, u83, u84, u85, u86, u87, u88, u89, u90, u91, u92, u93, u94, u95, u96, u97, u98, u99, u100, u101, u102, u103, u104, u105, u106, u107, u108, u109, u110, u111, u112, u113, u114, u115, u116, u117, u118, u119, u120, u121, u122, u123, u124, u125, u126, u127, u128, u129, u130, u131, u132, u133, u134, u135, u136, u137, u138, u139, u140, u141, u142, u143, u144, u145, u146, u147, u148, u149, u150, u151, u152, u153, u154, u155, u156, u157, u158, u159, u160, u161, u162, u163, u164, u165, u166, u167, u168, u169, u170, u171, u172, u173, u174, u175, u176, u177, u178, u179, u180, u181, u182, u183, u184, u185, u186, u187, u188, u189, u190, u191, u192, u193, u194, u195, u196, u197, u198, u199, u200, u201, u202, u203, undef, undef, undef, undef, undef, undef, undef, undef, undef, undef, undef, undef, undef, undef, undef, undef, undef, undef, undef, undef, undef, undef, undef, undef, undef, undef, undef, undef, undef, undef, undef, undef, undef, undef, undef, undef], []⟩ wr := by
  conv => arg 2; whnf
  obtain ⟨wo, hwo⟩ : ∃ x : World, x = wr := ⟨wr, rfl⟩
  subst hwo
  have hX : X.length ≤ 1048576 := by omega
  have hn1 : n < (A.map (·.1)).length := by simpa using hlt
  have hn2 : n < (A.map (·.2)).length := by simpa using hlt
  obtain ⟨ga, gc, hv⟩ := HA.pos (by omega)
  simp only [Value.slice.injEq, List.length_map, true_and] at hv
  obtain ⟨rfl, rfl⟩ := hv
  obtain ⟨gd, gc2, hv⟩ := HD.pos (by omega)
  simp only [Value.slice.injEq, List.length_map, true_and] at hv
  obtain ⟨rfl, rfl⟩ := hv
  have bga := (World.ownsRow.lt HA ga rfl).2
  have bgd := (World.ownsRow.lt HD gd rfl).2
  have hsize := I.bel.size
  have hrng := Row.range (n := 19) (fun _ => rfl) HA hn1
  have hcd := Row.cell (n := 1) (j := 0) (fun _ => rfl) HD (by decide) hn2
  simp only [List.getElem_map, intCell, List.getElem?_cons_zero, Nat.mul_one, Nat.add_zero] at hrng hcd
  have OK := hok A[n] (List.getElem_mem hlt)
  have hdn := hdp A[n] (List.getElem_mem hlt)
  have hrng' : wo.rangeAt ga (n * 19) (Ref.lvCells A[n].1) := fun j v hj => by rw [I.bel.cell (p := ⟨ga, n * 19 + j, none⟩) bga]; exact hrng j v hj
  rw [← I.bel.cell (p := ⟨gd, n, none⟩) bgd] at hcd
  have hgdw : gd < wo.heap.size := by omega
  have HST : Hid (Ref.treeTo (A.map fun p => (p.1.L, (p.2 : Int))) (n + 1) = Ref.treeStep (X.map (·.s)) n A[n].1.L A[n].2) := by
    unfold Hid; rw [Ref.treeTo, hS, List.getElem?_map, List.getElem?_eq_getElem hlt]; rfl
  have hcb : wo.cell? ⟨w.heap.size, 0, none⟩ = some sv := by simp [World.cell?, I.chart]
  have hcbl : w.heap.size < wo.heap.size := (Array.getElem?_eq_some_iff.1 I.chart).1
  obtain ⟨sa, sc, hsv⟩ := I.row0.form
  subst hsv
  clear hrng
  generalize A[n].1 = x at *
  generalize A[n].2 = d at *
  unfold Ref.lvCells Ref.lineCells at hrng'
  go_upto_block 2 with (first
    | (refine wpList_load_mid rfl 127 (.tmp 26) rfl ga (n * 19) rfl _ _ hrng' Tryz.underlying127 rfl Tryz.sizeLine ?_)
    | (refine wpList_store_new rfl 127 (.tmp 8) (.tmp 27) rfl 127 _ _ rfl rfl Tryz.sizeLine rfl rfl ?_))
  have HUP : Hid (∀ m, m ≤ X.length → Ref.upAux (X.map (·.s)) d (m + 1) = if ((X.map (·.s)).getD m Ref.st0).depth = (d : Int) - 1 then (m : Int) else if ((X.map (·.s)).getD m Ref.st0).depth < (d : Int) - 1 then -1 else Ref.upAux (X.map (·.s)) d m) := fun m _ => rfl
  have HU0 : Hid (0 < (d : Int) → Ref.upOf (X.map (·.s)) d = Ref.upAux (X.map (·.s)) d X.length) := fun h => by rw [Ref.upOf, if_pos h, List.length_map]
  have HU1 : Hid (¬ 0 < (d : Int) → Ref.upOf (X.map (·.s)) d = -1) := fun h => by rw [Ref.upOf, if_neg h]
  go_cut [10] (fun s10 wx => s10 = .int .i64 (Ref.upOf (X.map (·.s)) d) ∧ wx = wo.alloc (.cells (Ref.lvCells x).toArray 127))
  case first =>
    go_wp2_with fail
    generalize hU : Ref.upOf (X.map (·.s)) d = U at *
    clear hU
    go_loopg [10, 11] X.length (fun q u k wx => wx = wo.alloc (.cells (Ref.lvCells x).toArray 127) ∧ ∃ m : Nat, m ≤ X.length ∧ q = m ∧ k = .int .i64 ((m : Int) - 1) ∧ u = .int .i64 (-1) ∧ (0 < (d : Int) → U = Ref.upAux (X.map (·.s)) d m))
    case atStart => exact ⟨rfl, X.length, Nat.le_refl _, rfl, rfl, rfl, HU0.out⟩
    case round =>
      obtain ⟨hwx, m, hm, hqm, rfl, rfl, hu⟩ := hrel
      have HU : Hid _ := hu
      clear hu
      subst hwx
      by_cases hm0 : m = 0
      · subst hm0
        have HE : Hid (U = -1) := by
          by_cases hd0 : 0 < (d : Int)
          · exact HU.out hd0
          · exact HU1.out (by omega)
        go_wp2
        go_meet
        case rel => exact ⟨by rw [HE.out], rfl⟩
      · obtain ⟨m', rfl⟩ : ∃ m' : Nat, m = m' + 1 := ⟨m - 1, by omega⟩
        rw [show ((m' + 1 : Nat) : Int) - 1 = (m' : Int) from by omega]
        by_cases hd0 : 0 < (d : Int)
        · obtain ⟨g, gc', hv⟩ := I.row0.pos (by omega)
          simp only [Value.slice.injEq, true_and] at hv
          obtain ⟨rfl, rfl⟩ := hv
          have hlm : m' < X.length := by omega
          have hgw := (World.ownsRow.lt I.row0 g rfl).2
          have hc4 := Row.cell (n := 11) (j := 4) (fun _ => rfl) I.row0 (by decide) hlm
          simp only [Ref.svCells, List.getElem?_cons_succ, List.getElem?_cons_zero] at hc4
          have HG : Hid ((X.map (·.s)).getD m' Ref.st0 = X[m'].s) := by unfold Hid; simp [hlm]
          have HA2 : Hid (U = if X[m'].s.depth = (d : Int) - 1 then (m' : Int) else if X[m'].s.depth < (d : Int) - 1 then -1 else Ref.upAux (X.map (·.s)) d m') := by
            unfold Hid; rw [HU.out hd0, HUP.out m' (by omega), HG.out]
          clear HU HUP HU0 HU1 hrng' hcd
          by_cases e1 : X[m'].s.depth = (d : Int) - 1
          · have e1' : (X[m'].s.depth == (d : Int) - 1) = true := by simpa using e1
            have HE : Hid (U = m') := by unfold Hid; rw [HA2.out, if_pos e1]
            clear e1 HA2
            go_wp2
            go_meet
            case rel => exact ⟨by rw [HE.out], rfl⟩
          · have e1' : (X[m'].s.depth == (d : Int) - 1) = false := by simpa using e1
            by_cases e2 : X[m'].s.depth < (d : Int) - 1
            · have HE : Hid (U = -1) := by unfold Hid; rw [HA2.out, if_neg e1, if_pos e2]
              clear e1 HA2
              go_wp2
              go_meet
              case rel => exact ⟨by rw [HE.out], rfl⟩
            · have HE : Hid (U = Ref.upAux (X.map (·.s)) d m') := by unfold Hid; rw [HA2.out, if_neg e1, if_neg e2]
              clear e1 HA2
              go_wp2
              go_roundg m'
              case measure => omega
              case rel => exact ⟨rfl, m', by omega, rfl, rfl, rfl, fun _ => HE.out⟩
        · have HE : Hid (U = -1) := HU1.out (by omega)
          clear HU HUP HU0 HU1 hrng' hcd
          have hd0' : decide (0 < (d : Int)) = false := by simpa using hd0
          go_wp2
          go_meet
          case rel => exact ⟨by rw [HE.out], rfl⟩
  case rest =>
    obtain ⟨rfl, hwc⟩ := hcut
    obtain ⟨z0, z1, z2⟩ := one_block hwc
    have zrow : wc.heap[wo.heap.size]? = some (.cells (Ref.lvCells x).toArray 127 (0, 0)) := by rw [hwc]; exact heap_alloc_new _ _
    clear hwc HUP HU0 HU1 hrng' hcd hgdw
    have Z0 : Hid _ := z0
    clear z0
    have k0 := z1 0
    have k18 := z1 18
    simp only [Ref.lvCells, Ref.lineCells, List.getElem?_toArray, List.getElem?_cons_succ, List.getElem?_cons_zero] at k0 k18
    have HZ1 : Hid _ := z1
    clear z1
    have ZB : Below w.heap.size w wc := I.bel.trans (z2.mono hsize)
    have hcbw : wc.cell? ⟨w.heap.size, 0, none⟩ = some (.slice sa X.length sc) := by rw [z2.cell (p := ⟨w.heap.size, 0, none⟩) hcbl]; exact hcb
    clear hcb
    generalize hU : Ref.upOf (X.map (·.s)) d = U
    have HU : Hid _ := hU
    clear hU
    by_cases f1 : 0 < (d : Int) ∧ U < 0
    · obtain ⟨f1a, f1b⟩ := f1
      have HN : Hid (Ref.treeTo (A.map fun p => (p.1.L, (p.2 : Int))) (n + 1) = none) := by
        unfold Hid; rw [HST.out, Ref.treeStep, HU.out, if_pos ⟨f1a, f1b⟩]
      clear HST
      go_wp2
      go_ret2
      exact tree_fail ZB hlt hS HN.out
    · have hk := HKD.out
      have hm := HMD.out
      have hk' : (x.L.kind == 115) = false := by simpa using hk
      by_cases f2 : U < 0
      · have hd0 : decide (0 < (d : Int)) = false := by
          rw [decide_eq_false_iff_not]; intro h; exact f1 ⟨h, f2⟩
        have HN : Hid (Ref.treeTo (A.map fun p => (p.1.L, (p.2 : Int))) (n + 1) = none) := by
          unfold Hid; rw [HST.out, Ref.treeStep, HU.out, if_neg f1, if_neg hk, if_pos f2]
        clear HST
        go_wp2
        go_ret2
        exact tree_fail ZB hlt hS HN.out
      · have hlu : U < ((X.map (·.s)).length : Int) := by rw [← HU.out]; exact upOf_lt _ _ (by rw [HU.out]; exact f2)
        rw [List.length_map] at hlu
        have hdp0 : 0 < (d : Int) := by
          by_cases h : 0 < (d : Int)
          · exact h
          · exact absurd (by rw [← HU.out, Ref.upOf, if_neg h]; decide) f2
        obtain ⟨u, rfl⟩ : ∃ u : Nat, U = u := ⟨U.toNat, by omega⟩
        have hul : u < X.length := by omega
        have HG : Hid ((X.map (·.s)).getD (u : Int).toNat Ref.st0 = X[u].s) := by unfold Hid; simp [hul]
        obtain ⟨g, gc', hv⟩ := I.row0.pos (by omega)
        simp only [Value.slice.injEq, true_and] at hv
        obtain ⟨rfl, rfl⟩ := hv
        have hgw := (World.ownsRow.lt I.row0 g rfl).2
        have hgb := (World.ownsRow.lt I.row g rfl).1
        have c0 := Row.cell (n := 11) (j := 0) (fun _ => rfl) I.row0 (by decide) hul
        simp only [Ref.svCells, List.getElem?_cons_zero, Nat.add_zero] at c0
        rw [← z2.cell (p := ⟨g, u * 11, none⟩) hgw] at c0
        cases hh : (X[u].s.word.toList == [104, 105, 115, 116, 111, 114, 121])
        · have hm' : (x.L.kind == 109) = false := by simpa using hm
          by_cases he : x.L.kind = 101
          · have he' : (x.L.kind == 101) = true := by simpa using he
            have c9 := Row.cell (n := 11) (j := 9) (fun _ => rfl) I.row0 (by decide) hul
            simp only [Ref.svCells, List.getElem?_cons_succ, List.getElem?_cons_zero] at c9
            rw [← z2.cell (p := ⟨g, u * 11 + 9, none⟩) hgw] at c9
            by_cases h9 : 0 < X[u].s.has0
            · have HN : Hid (Ref.treeTo (A.map fun p => (p.1.L, (p.2 : Int))) (n + 1) = none) := by
                unfold Hid; rw [HST.out, Ref.treeStep, HU.out, if_neg f1, if_neg hk, if_neg f2, HG.out, Ref.cHistory, hh, if_neg Bool.false_ne_true, if_neg hm, if_pos he, if_pos h9]
              clear HST
              go_wp2
              go_ret2
              exact tree_fail ZB hlt hS HN.out
            · have c7 := Row.cell (n := 11) (j := 7) (fun _ => rfl) I.row0 (by decide) hul
              simp only [Ref.svCells, List.getElem?_cons_succ, List.getElem?_cons_zero] at c7
              rw [← z2.cell (p := ⟨g, u * 11 + 7, none⟩) hgw] at c7
              have fr9 : wc.frozen? ⟨g, u * 11 + 9, none⟩ = false := by rw [z2.frozen (p := ⟨g, u * 11 + 9, none⟩) hgw]; exact I.row.frozenAt _
              have fr7 : wc.frozen? ⟨g, u * 11 + 7, none⟩ = false := by rw [z2.frozen (p := ⟨g, u * 11 + 7, none⟩) hgw]; exact I.row.frozenAt _
              have HN : Hid (Ref.treeTo (A.map fun p => (p.1.L, (p.2 : Int))) (n + 1) = some ((X.set u (Ref.enterTo X[u] ((n : Int) + 1) x.L.acts x.vd)).map (·.s))) := by
                unfold Hid; rw [HST.out, Ref.treeStep, HU.out, if_neg f1, if_neg hk, if_neg f2, HG.out, Ref.cHistory, hh, if_neg Bool.false_ne_true, if_neg hm, if_pos he, if_neg h9, Ref.turn, HG.out, List.map_set]; rfl
              clear HST
              have hne : ¬ g = wo.heap.size := by omega
              go_wp2
              go_roundg (A.length - (n + 1))
              case measure => omega
              case rel =>
                refine ⟨n + 1, _, .slice (some ⟨g, 0, none⟩) X.length sc, X.set u (Ref.enterTo X[u] ((n : Int) + 1) x.L.acts x.vd), rfl, by omega, by go_num, HN.out, rfl, by rw [List.length_set]; omega, ?_, ?_⟩
                · intro y hy
                  rcases List.mem_or_eq_of_mem_set hy with h | h
                  · have := HMv.out y h; omega
                  · have := HMv.out X[u] (List.getElem_mem hul); rw [h]; exact Nat.le_succ_of_le this
                have r1 := own_keep I.row z2
                have r2 := (World.ownsRow.stored r1 (u * 11 + 9) (.int .i64 ((n : Int) + 1))).1
                have r3 := (World.ownsRow.stored r2 (u * 11 + 7) (.slice x.vd.a x.vd.n x.vd.c)).1
                rw [flat_set (n := 11) (fun _ => rfl) X u 9 _ (Ref.has0To X[u] ((n : Int) + 1)) (by decide) hul rfl, flat_set (n := 11) (fun _ => rfl) _ u 7 _ (Ref.enterTo X[u] ((n : Int) + 1) x.L.acts x.vd) (by decide) (by simpa using hul) (by rw [List.getElem_set_self]; rfl), List.set_set] at r3
                have D := I.deep X[u] (List.getElem_mem hul)
                have o1 := only_setCell wc g (u * 11 + 9) (.int .i64 ((n : Int) + 1))
                have o2 := only_setCell (wc.setCell ⟨g, u * 11 + 9, none⟩ (.int .i64 ((n : Int) + 1))) g (u * 11 + 7) (.slice x.vd.a x.vd.n x.vd.c)
                exact I.turn z2 ⟨rfl, rfl, rfl, o2.size.trans o1.size, fun k hk => (o2.block k hk).trans (o1.block k hk)⟩ hul r3 { D.keep z2 with enter := OK.rowD, okE := OK.okD, lenE := OK.lenD } rfl
          · have he' : (x.L.kind == 101) = false := by simpa using he
            by_cases hl : x.L.kind = 108
            · have hl' : (x.L.kind == 108) = true := by simpa using hl
              have c9 := Row.cell (n := 11) (j := 10) (fun _ => rfl) I.row0 (by decide) hul
              simp only [Ref.svCells, List.getElem?_cons_succ, List.getElem?_cons_zero] at c9
              rw [← z2.cell (p := ⟨g, u * 11 + 10, none⟩) hgw] at c9
              by_cases h9 : 0 < X[u].s.has1
              · have HN : Hid (Ref.treeTo (A.map fun p => (p.1.L, (p.2 : Int))) (n + 1) = none) := by
                  unfold Hid; rw [HST.out, Ref.treeStep, HU.out, if_neg f1, if_neg hk, if_neg f2, HG.out, Ref.cHistory, hh, if_neg Bool.false_ne_true, if_neg hm, if_neg he, if_pos hl, if_pos h9]
                clear HST
                go_wp2
                go_ret2
                exact tree_fail ZB hlt hS HN.out
              · have c7 := Row.cell (n := 11) (j := 8) (fun _ => rfl) I.row0 (by decide) hul
                simp only [Ref.svCells, List.getElem?_cons_succ, List.getElem?_cons_zero] at c7
                rw [← z2.cell (p := ⟨g, u * 11 + 8, none⟩) hgw] at c7
                have fr9 : wc.frozen? ⟨g, u * 11 + 10, none⟩ = false := by rw [z2.frozen (p := ⟨g, u * 11 + 10, none⟩) hgw]; exact I.row.frozenAt _
                have fr7 : wc.frozen? ⟨g, u * 11 + 8, none⟩ = false := by rw [z2.frozen (p := ⟨g, u * 11 + 8, none⟩) hgw]; exact I.row.frozenAt _
                have HN : Hid (Ref.treeTo (A.map fun p => (p.1.L, (p.2 : Int))) (n + 1) = some ((X.set u (Ref.leaveTo X[u] ((n : Int) + 1) x.L.acts x.vd)).map (·.s))) := by
                  unfold Hid; rw [HST.out, Ref.treeStep, HU.out, if_neg f1, if_neg hk, if_neg f2, HG.out, Ref.cHistory, hh, if_neg Bool.false_ne_true, if_neg hm, if_neg he, if_pos hl, if_neg h9, Ref.turn, HG.out, List.map_set]; rfl
                clear HST
                have hne : ¬ g = wo.heap.size := by omega
                go_wp2
                go_roundg (A.length - (n + 1))
                case measure => omega
                case rel =>
                  refine ⟨n + 1, _, .slice (some ⟨g, 0, none⟩) X.length sc, X.set u (Ref.leaveTo X[u] ((n : Int) + 1) x.L.acts x.vd), rfl, by omega, by go_num, HN.out, rfl, by rw [List.length_set]; omega, ?_, ?_⟩
                  · intro y hy
                    rcases List.mem_or_eq_of_mem_set hy with h | h
                    · have := HMv.out y h; omega
                    · have := HMv.out X[u] (List.getElem_mem hul); rw [h]; exact Nat.le_succ_of_le this
                  have r1 := own_keep I.row z2
                  have r2 := (World.ownsRow.stored r1 (u * 11 + 10) (.int .i64 ((n : Int) + 1))).1
                  have r3 := (World.ownsRow.stored r2 (u * 11 + 8) (.slice x.vd.a x.vd.n x.vd.c)).1
                  rw [flat_set (n := 11) (fun _ => rfl) X u 10 _ (Ref.has1To X[u] ((n : Int) + 1)) (by decide) hul rfl, flat_set (n := 11) (fun _ => rfl) _ u 8 _ (Ref.leaveTo X[u] ((n : Int) + 1) x.L.acts x.vd) (by decide) (by simpa using hul) (by rw [List.getElem_set_self]; rfl), List.set_set] at r3
                  have D := I.deep X[u] (List.getElem_mem hul)
                  have o1 := only_setCell wc g (u * 11 + 10) (.int .i64 ((n : Int) + 1))
                  have o2 := only_setCell (wc.setCell ⟨g, u * 11 + 10, none⟩ (.int .i64 ((n : Int) + 1))) g (u * 11 + 8) (.slice x.vd.a x.vd.n x.vd.c)
                  exact I.turn z2 ⟨rfl, rfl, rfl, o2.size.trans o1.size, fun k hk => (o2.block k hk).trans (o1.block k hk)⟩ hul r3 { D.keep z2 with leave := OK.rowD, okL := OK.okD, lenL := OK.lenD } rfl
            · have hl' : (x.L.kind == 108) = false := by simpa using hl
              have HN : Hid (Ref.treeTo (A.map fun p => (p.1.L, (p.2 : Int))) (n + 1) = some (X.map (·.s))) := by
                unfold Hid; rw [HST.out, Ref.treeStep, HU.out, if_neg f1, if_neg hk, if_neg f2, HG.out, Ref.cHistory, hh, if_neg Bool.false_ne_true, if_neg hm, if_neg he, if_neg hl]
              clear HST
              go_wp2
              go_roundg (A.length - (n + 1))
              case measure => omega
              case rel => exact ⟨n + 1, _, .slice (some ⟨g, 0, none⟩) X.length sc, X, rfl, by omega, by go_num, HN.out, rfl, by omega, fun y hy => Nat.le_succ_of_le (HMv.out y hy), I.keep z2⟩
        · have HN : Hid (Ref.treeTo (A.map fun p => (p.1.L, (p.2 : Int))) (n + 1) = none) := by
            unfold Hid; rw [HST.out, Ref.treeStep, HU.out, if_neg f1, if_neg hk, if_neg f2, HG.out, Ref.cHistory, hh, if_pos rfl]
          clear HST
          go_wp2
          go_ret2
          exact tree_fail ZB hlt hS HN.out
end Go.Proofs.YtegmoddppafkfaaGreatDoor
namespace Go.Proofs.YtegmoddppafkfaaGreatDoor
open Go.RowKit

set_option maxHeartbeats 12800000 in
set_option maxRecDepth 100000 in
theorem tree_any (vA vD : Value) (A : List (Ref.LV × Nat)) (w : World) (HA : Row w 127 19 Ref.lvCells vA (A.map (·.1))) (HD : Row w 3 1 intCell vD (A.map (·.2))) (hA : A.length ≤ 1048576) (hok : ∀ p ∈ A, LineOK w p.1) (hdp : ∀ p ∈ A, p.2 ≤ 1048576) :
    Calls Tryz.prog 57 #[vA, vD] w (TreePost A w) := by
  obtain ⟨aa, ac, rfl⟩ := HA.form
  obtain ⟨da, dc, rfl⟩ := HD.form
  simp only [List.length_map]
  go_enter Tryz.func57, Tryz.ntmps57
  go_wp2
  go_loopg [7] A.length (fun q i wr => ∃ (n : Nat) (S : List Ref.State) (sv : Value) (X : List Ref.SV), q = A.length - n ∧ n ≤ A.length ∧ i = .int .i64 n ∧ Ref.treeTo (A.map fun p => (p.1.L, (p.2 : Int))) n = some S ∧ X.map (·.s) = S ∧ X.length ≤ n ∧ (∀ y ∈ X, y.s.moves.length ≤ n) ∧ TreeInv w wr sv X)
  case atStart =>
    refine ⟨0, [], .slice none 0 0, [], rfl, Nat.zero_le _, rfl, rfl, rfl, Nat.le_refl _, fun x hx => absurd hx (by simp), (Below.refl _ _).alloc (Nat.le_refl _) _, heap_alloc_new w _, World.ownsRow_nil _ _ _ _, fun x hx => absurd hx (by simp), List.Pairwise.nil⟩
  case round =>
    obtain ⟨n, S, sv, X, hq, hn, rfl, hS, hXS, hXn, hMv, I⟩ := hrel
    have HMv : Hid _ := hMv
    clear hMv
    by_cases hlt : n < A.length
    · subst hXS
      by_cases hk : A[n].1.L.kind = 115
      · exact tree_state A w aa ac da dc HA HD hA hok hdp gk wr n sv X hq hS hXn HMv I hlt _ _ _ (by assumption) (by assumption) _ _ _ _ _ _ _ _ _ _ _ _ _ _ _ _ _ _ _ _ _ _ _ _ _ _ _ _ _ _ _ _ _ _ _ _ _ _ _ _ _ _ _ _ _ _ _ _ _ _ _ _ _ _ _ _ _ _ _ _ _ _ _ _ _ _ _ _ _ _ _ _ _ _ _ _ _ _ _ _ _ _ _ _ _ _ _ _ _ _ _ _ _ _ _ _ _ _ _ _ _ _ _ _ _ _ _ _ _ _ _ _ _ _ _ _ _ _ _ _ _ _ _ _ _ _ _ _ _ _ _ _ _ _ _ _ _ _ _ _ _ _ _ _ _ _ _ _ _ _ _ _ _ _ _ _ _ _ _ _ _ _ _ _ _ _ _ _ _ _ _ _ _ _ _ _ _ _ _ _ _ _ _ _ _ _ _ _ _ _ _ _ _ _ hk
      · by_cases hm : A[n].1.L.kind = 109
        · exact tree_move A w aa ac da dc HA HD hA hok hdp gk wr n sv X hq hS hXn HMv I hlt _ _ _ (by assumption) (by assumption) _ _ _ _ _ _ _ _ _ _ _ _ _ _ _ _ _ _ _ _ _ _ _ _ _ _ _ _ _ _ _ _ _ _ _ _ _ _ _ _ _ _ _ _ _ _ _ _ _ _ _ _ _ _ _ _ _ _ _ _ _ _ _ _ _ _ _ _ _ _ _ _ _ _ _ _ _ _ _ _ _ _ _ _ _ _ _ _ _ _ _ _ _ _ _ _ _ _ _ _ _ _ _ _ _ _ _ _ _ _ _ _ _ _ _ _ _ _ _ _ _ _ _ _ _ _ _ _ _ _ _ _ _ _ _ _ _ _ _ _ _ _ _ _ _ _ _ _ _ _ _ _ _ _ _ _ _ _ _ _ _ _ _ _ _ _ _ _ _ _ _ _ _ _ _ _ _ _ _ _ _ _ _ _ _ _ _ _ _ _ _ _ _ _ hk hm
        · exact tree_else A w aa ac da dc HA HD hA hok hdp gk wr n sv X hq hS hXn HMv I hlt _ _ _ (by assumption) (by assumption) _ _ _ _ _ _ _ _ _ _ _ _ _ _ _ _ _ _ _ _ _ _ _ _ _ _ _ _ _ _ _ _ _ _ _ _ _ _ _ _ _ _ _ _ _ _ _ _ _ _ _ _ _ _ _ _ _ _ _ _ _ _ _ _ _ _ _ _ _ _ _ _ _ _ _ _ _ _ _ _ _ _ _ _ _ _ _ _ _ _ _ _ _ _ _ _ _ _ _ _ _ _ _ _ _ _ _ _ _ _ _ _ _ _ _ _ _ _ _ _ _ _ _ _ _ _ _ _ _ _ _ _ _ _ _ _ _ _ _ _ _ _ _ _ _ _ _ _ _ _ _ _ _ _ _ _ _ _ _ _ _ _ _ _ _ _ _ _ _ _ _ _ _ _ _ _ _ _ _ _ _ _ _ _ _ _ _ _ _ _ _ _ _ _ hk hm
    · obtain rfl : n = A.length := by omega
      subst hXS
      have hX : X.length ≤ 1048576 := by omega
      have hMX : Hid (∀ x ∈ X, x.s.moves.length ≤ 1048576) := fun x hx => Nat.le_trans (HMv.out x hx) hA
      obtain ⟨sa, sc, hsv⟩ := I.row0.form
      subst hsv
      have HS : Hid _ := hS
      clear hS
      go_wp2
      go_loopg [14] X.length (fun q i wr => ∃ k : Nat, q = X.length - k ∧ k ≤ X.length ∧ i = .int .i64 k ∧ Ref.parTo (X.map (·.s)) k = none ∧ TreeInv w wr (.slice sa X.length sc) X)
      case atStart => exact ⟨0, rfl, Nat.zero_le _, rfl, rfl, I⟩
      case round =>
        obtain ⟨k, hq2, hk, rfl, hpn, I2⟩ := hrel
        have HPN : Hid _ := hpn
        clear hpn
        have hcb : wr.cell? ⟨w.heap.size, 0, none⟩ = some (.slice sa X.length sc) := by simp [World.cell?, I2.chart]
        have hcbl : w.heap.size < wr.heap.size := (Array.getElem?_eq_some_iff.1 I2.chart).1
        by_cases hlk : k < X.length
        · obtain ⟨g, gc', hv⟩ := I2.row0.pos (by omega)
          simp only [Value.slice.injEq, true_and] at hv
          obtain ⟨rfl, rfl⟩ := hv
          have hgw := (World.ownsRow.lt I2.row0 g rfl).2
          have c0 := Row.cell (n := 11) (j := 0) (fun _ => rfl) I2.row0 (by decide) hlk
          have c5 := Row.cell (n := 11) (j := 5) (fun _ => rfl) I2.row0 (by decide) hlk
          simp only [Ref.svCells, List.getElem?_cons_succ, List.getElem?_cons_zero, Nat.add_zero] at c0 c5
          have HPT : Hid (Ref.parTo (X.map (·.s)) (k + 1) = if (X[k].s.word.toList == Ref.cParallel) && (Ref.regions X k).isEmpty then some X[k].s.line else none) := by
            unfold Hid
            have e : (X.map (·.s)).getD k Ref.st0 = X[k].s := by simp [hlk]
            rw [Ref.parTo, HPN.out, e, Ref.regions_emb X k]
          go_wp2_with fail
          refine (regions_any w.heap.size _ X k _ ⟨I2.chart, I2.row0⟩ hcbl (by omega)).mono ?_
          rintro e w3 ⟨hb3, v3, rfl, hown3⟩
          have I3 := I2.keep hb3
          rw [← hb3.cell (p := ⟨w.heap.size, 0, none⟩) hcbl] at hcb
          rw [← hb3.cell (p := ⟨g, k * 11, none⟩) hgw] at c0
          rw [← hb3.cell (p := ⟨g, k * 11 + 5, none⟩) hgw] at c5
          obtain ⟨va, vn, vc, hv3⟩ := Ref.own_slice hown3
          have hvn : vn = (Ref.regions X k).length := by
            rcases hown3.2 with ⟨hv, h0⟩ | ⟨g', cap', cur', hv, _⟩
            · rw [hv3] at hv; simp only [Value.slice.injEq] at hv; omega
            · rw [hv3] at hv; simp only [Value.slice.injEq] at hv; exact hv.2.1
          subst hv3
          subst hvn
          have hlt' : (k : Int) < (X.length : Int) := by omega
          clear hb3 hown3
          cases hpa : (X[k].s.word.toList == [112, 97, 114, 97, 108, 108, 101, 108])
          · have HP2 : Hid (Ref.parTo (X.map (·.s)) (k + 1) = none) := by unfold Hid; rw [HPT.out, Ref.cParallel, hpa]; rfl
            go_wp2
            go_roundg (X.length - (k + 1))
            case measure => omega
            case rel => exact ⟨k + 1, rfl, by omega, by go_num, HP2.out, I3⟩
          · by_cases hre : (Ref.regions X k).length = 0
            · have HP2 : Hid (Ref.parTo (X.map (·.s)) X.length = some X[k].s.line) := Ref.parTo_some (i := k + 1) (by rw [HPT.out, Ref.cParallel, hpa, List.eq_nil_of_length_eq_zero hre]; rfl) _ (by omega)
              have hre' : (((Ref.regions X k).length : Int) == 0) = true := by rw [hre]; rfl
              clear hre
              go_wp2
              go_quiet (fail)
              go_wp2
              go_ret2
              exact tree_done (I3.keep (below_drewN (Below.refl _ _) _)) hMX.out HS.out (by rw [HP2.out]; rfl)
            · have HP2 : Hid (Ref.parTo (X.map (·.s)) (k + 1) = none) := by
                unfold Hid; rw [HPT.out, if_neg]
                intro h
                rw [Bool.and_eq_true, List.isEmpty_iff] at h
                exact hre (by rw [h.2]; rfl)
              have hre' : (((Ref.regions X k).length : Int) == 0) = false := by simpa using hre
              clear hre
              go_wp2
              go_roundg (X.length - (k + 1))
              case measure => omega
              case rel => exact ⟨k + 1, rfl, by omega, by go_num, HP2.out, I3⟩
        · obtain rfl : k = X.length := by omega
          go_wp2
          go_ret2
          exact tree_done I2 hMX.out HS.out (by rw [HPN.out]; rfl)
end Go.Proofs.YtegmoddppafkfaaGreatDoor
namespace Go.Proofs.YtegmoddppafkfaaGreatDoor
open Go.RowKit

theorem fold_set (o : Nat) : ∀ (l : List Value) (k : Nat) (Z : Array Value), o + k + l.length ≤ Z.size → ∀ i,
    ((l.zipIdx k).foldl (fun (cs : Array Value) (p : Value × Nat) => cs.setIfInBounds (o + p.2) p.1) Z)[i]? = if o + k ≤ i ∧ i < o + k + l.length then l[i - (o + k)]? else Z[i]?
  | [], k, Z, _, i => by
    rw [if_neg (by simp only [List.length_nil]; omega)]; rfl
  | x :: l, k, Z, h, i => by
    simp only [List.length_cons] at h
    rw [List.zipIdx_cons, List.foldl_cons, fold_set o l (k + 1) _ (by simp; omega) i]
    by_cases h1 : o + (k + 1) ≤ i ∧ i < o + (k + 1) + l.length
    · rw [if_pos h1, if_pos (by simp only [List.length_cons]; omega), show i - (o + k) = (i - (o + (k + 1))) + 1 from by omega, List.getElem?_cons_succ]
    · rw [if_neg h1, Array.getElem?_setIfInBounds]
      by_cases h2 : o + k = i
      · subst h2
        rw [if_pos rfl, if_pos (by omega), if_pos (by simp only [List.length_cons]; omega), Nat.sub_self, List.getElem?_cons_zero]
      · rw [if_neg h2, if_neg (by simp only [List.length_cons]; omega)]
theorem fill_one (n : Nat) (cs : List Value) (hl : cs.length = n) (Z : Array Value) (hZ : Z.size = n) :
    Instr.fill (fun i => some (i * n, n)) Z [(0, .agg cs.toArray)] = some cs.toArray := by
  have e : ∀ i : Nat, ((cs.zipIdx 0).foldl (fun (c : Array Value) (p : Value × Nat) => c.setIfInBounds (0 * n + p.2) p.1) Z)[i]? = cs.toArray[i]? := by
    intro i
    rw [fold_set (0 * n) cs 0 Z (by omega) i]
    simp only [Nat.zero_mul, Nat.zero_add, Nat.zero_le, true_and, Nat.sub_zero, List.getElem?_toArray]
    by_cases h : i < cs.length
    · rw [if_pos h]
    · rw [if_neg h, List.getElem?_eq_none (by omega), Array.getElem?_eq_none (by omega)]
  have e2 : (cs.toArray.zipIdx.foldl (fun (c : Array Value) (p : Value × Nat) => c.setIfInBounds (0 * n + p.2) p.1) Z) = cs.toArray := by
    apply Array.ext_getElem?
    intro i
    rw [← e i]
    simp
  simpa [Instr.fill, Value.cells, hl, hZ] using e2
theorem run_buildSlice_one {P : Program} {w : World} (t e : TypeId) (i : TypeInfo) (z : Value) (n : Nat) (ht : P.underlying t = some (.slice e)) (hi : P.info? e = some i) (hz : i.zero = some z) (hs : i.size = n) (hzs : z.cells.size = n) (hn : 0 < n) (hn2 : n ≤ 16777216)
    (cs : List Value) (hl : cs.length = n) :
    (Instr.buildSlice t 1 #[(0, .agg cs.toArray)]).run P w = .ok (.slice (some ⟨w.heap.size, 0, none⟩) 1 1) (w.alloc (.cells cs.toArray e)) := by
  have hf := fill_one n cs hl ((Array.range (1 * n)).map fun (k : Nat) => z.cells[k % z.cells.size]!) (by simp)
  have h0 : ¬ n = 0 := by omega
  have h1 : ¬ 16777216 < n := by omega
  have hf' : Instr.fill (fun i => some (i * n, n)) ((Array.range n).map fun (k : Nat) => z.cells[k % n]!) [(0, .agg cs.toArray)] = some cs.toArray := by
    rw [hzs, Nat.one_mul] at hf; exact hf
  simp [Instr.buildSlice, run_underlying ht, sizeOf, typeInfo, zeroValue, hi, hz, hs, h0, h1, hzs, hf', newRow]
theorem wpList_buildSlice_one {P : Program} {ops : Array Oper} {rest : List Oper} {op : Oper} {a : Act} {w : World} {Q : Exit → Act → World → Prop} (hgd : op.guard = none) (t e : TypeId) (x : Operand) (ho : op.op = .buildSlice t 1 #[(0, x)])
    (i : TypeInfo) (z : Value) (n : Nat) (ht : P.underlying t = some (.slice e)) (hi : P.info? e = some i) (hz : i.zero = some z) (hs : i.size = n) (hzs : z.cells.size = n) (hn : 0 < n) (hn2 : n ≤ 16777216)
    (cs : List Value) (hl : cs.length = n) (hx : a.eval x = .agg cs.toArray)
    (h : wpList P ops Q rest (a.put op.dst (.slice (some ⟨w.heap.size, 0, none⟩) 1 1)) (w.alloc (.cells cs.toArray e))) : wpList P ops Q (op :: rest) a w := by
  refine wpList_plain hgd fun _ hK => ?_
  have hr := run_buildSlice_one (P := P) (w := w) t e i z n ht hi hz hs hzs hn hn2 cs hl
  unfold Oper.wp execOp
  simp only [ho, Sem.run_bind, Sem.run_pure, Result.andThen_ok, List.map_toArray, List.map_cons, List.map_nil, hx, hr]
  exact hK _ _ h
end Go.Proofs.YtegmoddppafkfaaGreatDoor
