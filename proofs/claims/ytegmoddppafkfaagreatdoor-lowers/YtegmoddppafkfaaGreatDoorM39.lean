/-
  MY OWN TEXT.
-/
import Derived.Test.YtegmoddppafkfaaGreatDoorM38
namespace Go.Proofs.YtegmoddppafkfaaGreatDoor
open Go.RowKit

set_option maxHeartbeats 6400000 in
set_option maxRecDepth 1000000 in
theorem tree_move (A : List (Ref.LV × Nat)) (w : World) (aa : Option Addr) (ac : Nat) (da : Option Addr) (dc : Nat) (HA : Row w 127 19 Ref.lvCells (.slice aa (A.map (·.1)).length ac) (A.map (·.1))) (HD : Row w 3 1 intCell (.slice da (A.map (·.2)).length dc) (A.map (·.2))) (hA : A.length ≤ 1048576) (hok : ∀ p ∈ A, LineOK w p.1) (hdp : ∀ p ∈ A, p.2 ≤ 1048576)
    (gk : Nat) (wr : World) (n : Nat) (sv : Value) (X : List Ref.SV) (hq : gk = A.length - n) (hS : Ref.treeTo (A.map fun p => (p.1.L, (p.2 : Int))) n = some (X.map (·.s))) (hXn : X.length ≤ n) (HMv : Hid (∀ y ∈ X, y.s.moves.length ≤ n)) (I : TreeInv w wr sv X) (hlt : n < A.length)
    (J : Nat → Act → World → Prop) (K K1 : Act → World → Prop)
    (hJ : ∀ (k : Nat) (a' : Act) (w' : World), (∃ u4 u5 u7 u8 u9 u10 u11 u12 u13 u18 u19 u20 u21 u22 u23 u24 u25 u26 u27 u28 u29 u30 u31 u32 u33 u34 u35 u36 u37 u38 u39 u40 u41 u42 u43 u44 u45 u46 u47 u48 u49 u50 u51 u52 u53 u54 u55 u56 u57 u58 u59 u60 u61 u62 u63 u64 u65 u66 u67 u68 u69 u70 u71 u72 u73 u74 u75 u76 u77 u78 u79 u80 u81 u82 u83 u84 u85 u86 u87 u88 u89 u90 u91 u92 u93 u94 u95 u96 u97 u98 u99 u100 u101 u102 u103 u104 u105 u106 u107 u108 u109 u110 u111 u112 u113 u114 u115 u116 u117 u118 u119 u120 u121 u122 u123 u124 u125 u126 u127 u128 u129 u130 u131 u132 u133 u134 u135 u136 u137 u138 u139 u140 u141 u142 u143 u144 u145 u146 u147 u148 u149 u150 u151 u152 u153 u154 u155 u156 u157 u158 u159 u160 u161 u162 u163 u164 u165 u166 u167 u168 u169 u170 u171 u172 u173 u174 u175 u176 u177 u178 u179 u180 u181 u182 u183 u184 u185 u186 u187 u188 u189 u190 u191 u192 u193 u194 u195 u196 u197 u198 u199 u200 u201 u202 u203 : Value, (∃ (n : Nat) (S : List Ref.State) (sv : Value) (X : List Ref.SV), k = A.length - n ∧ n ≤ A.length ∧ u7 = .int .i64 n ∧ Ref.treeTo (A.map fun p => (p.1.L, (p.2 : Int))) n = some S ∧ X.map (·.s) = S ∧ X.length ≤ n ∧ (∀ y ∈ X, y.s.moves.length ≤ n) ∧ TreeInv w w' sv X) ∧ a' = ⟨#[.slice aa A.length ac, .slice da A.length dc, undef, undef, u4, u5, .pointer (some ⟨w.heap.size, 0, none⟩), u7, u8, u9, u10, u11, u12, u13, undef, undef, .agg #[.slice none 0 0], .pointer (some ⟨w.heap.size, 0, none⟩), u18, u19, u20, u21, u22, u23, u24, u25, u26, u27, u28, u29, u30, u31, u32, u33, u34, u35, u36, u37, u38, u39, u40, u41, u42, u43, u44, u45, u46, u47, u48, u49, u50, u51, u52, u53, u54, u55, u56, u57, u58, u59, u60, u61, u62, u63, u64, u65, u66, u67, u68, u69, u70, u71, u72, u73, u74, u75, u76, u77, u78, u79, u80, u81, u82, u83, u84, u85, u86, u87, u88, u89, u90, u91, u92, u93, u94, u95, u96, u97, u98, u99, u100, u101, u102, u103, u104, u105, u106, u107, u108, u109, u110, u111, u112, u113, u114, u115, u116, u117, u118, u119, u120, u121, u122, u123, u124, u125, u126, u127, u128, u129, u130, u131, u132, u133, u134, u135, u136, u137, u138, u139, u140, u141, u142, u143, u144, u145, u146, u147, u148, u149, u150, u151, u152, u153, u154, u155, u156, u157, u158, u159, u160, u161, u162, u163, u164, u165, u166, u167, u168, u169, u170, u171, u172, u173, u174, u175, u176, u177, u178, u179, u180, u181, u182, u183, u184, u185, u186, u187, u188, u189, u190, u191, u192, u193, u194, u195, u196, u197, u198, u199, u200, u201, u202, u203, undef, undef, undef, undef, undef, undef, undef, undef, undef, undef, undef, undef, undef, undef, undef, undef, undef, undef, undef, undef, undef, undef, undef, undef, undef, undef, undef, undef, undef, undef, undef, undef, undef, undef, undef, undef], []⟩) → J k a' w')
    (hK : ∀ (a' : Act) (w' : World), Handed J gk a' w' → K a' w') (u4 u5 u8 u9 u10 u11 u12 u13 u18 u19 u20 u21 u22 u23 u24 u25 u26 u27 u28 u29 u30 u31 u32 u33 u34 u35 u36 u37 u38 u39 u40 u41 u42 u43 u44 u45 u46 u47 u48 u49 u50 u51 u52 u53 u54 u55 u56 u57 u58 u59 u60 u61 u62 u63 u64 u65 u66 u67 u68 u69 u70 u71 u72 u73 u74 u75 u76 u77 u78 u79 u80 u81 u82 u83 u84 u85 u86 u87 u88 u89 u90 u91 u92 u93 u94 u95 u96 u97 u98 u99 u100 u101 u102 u103 u104 u105 u106 u107 u108 u109 u110 u111 u112 u113 u114 u115 u116 u117 u118 u119 u120 u121 u122 u123 u124 u125 u126 u127 u128 u129 u130 u131 u132 u133 u134 u135 u136 u137 u138 u139 u140 u141 u142 u143 u144 u145 u146 u147 u148 u149 u150 u151 u152 u153 u154 u155 u156 u157 u158 u159 u160 u161 u162 u163 u164 u165 u166 u167 u168 u169 u170 u171 u172 u173 u174 u175 u176 u177 u178 u179 u180 u181 u182 u183 u184 u185 u186 u187 u188 u189 u190 u191 u192 u193 u194 u195 u196 u197 u198 u199 u200 u201 u202 u203 : Value) (HKD : Hid (¬ A[n].1.L.kind = 115)) (HMD : Hid (A[n].1.L.kind = 109)) :
    Code.wp Tryz.prog treeBody (Exit.then K (Exit.inBlock 0 (Exit.then K1 (bodyPost Tryz.prog Tryz.f57 (TreePost A w))))) ⟨#[.slice aa A.length ac, .slice da A.length dc, undef, undef, u4, u5, .pointer (some ⟨w.heap.size, 0, none⟩), .int .i64 n, u8, u9, u10, u11, u12, u13, undef, undef, .agg #[.slice none 0 0], .pointer (some ⟨w.heap.size, 0, none⟩), u18, u19, u20, u21, u22, u23, u24, u25, u26, u27, u28, u29, u30, u31, u32, u33, u34, u35, u36, u37, u38, u39, u40, u41, u42, u43, u44, u45, u46, u47, u48, u49, u50, u51, u52, u53, u54, u55, u56, u57, u58, u59, u60, u61, u62, u63, u64, u65, u66, u67, u68, u69, u70, u71, u72, u73, u74, u75, u76, u77, u78, u79, u80, u81, u82, u83, u84, u85, u86, u87, u88, u89, u90, u91, u92, u93, u94, u95, u96, u97, u98, u99, u100, u101, u102, u103, u104, u105, u106, u107, u108, u109, u110, u111, u112, u113, u114, u115, u116, u117, u118, u119, u120, u121, u122, u123, u124, u125, u126, u127, u128, u129, u130, u131, u132, u133, u134, u135, u136, u137, u138, u139, u140, u141, u142, u143, u144, u145, u146, u147, u148, u149, u150, u151, u152, u153, u154, u155, u156, u157, u158, u159, u160, u161, u162, u163, u164, u165, u166, u167, u168, u169, u170, u171, u172, u173, u174, u175, u176, u177, u178, u179, u180, u181, u182, u183, u184, u185, u186, u187, u188, u189, u190, u191, u192, u193, u194, u195, u196, u197, u198, u199, u200, u201, u202, u203, undef, undef, undef, undef, undef, undef, undef, undef, undef, undef, undef, undef, undef, undef, undef, undef, undef, undef, undef, undef, undef, undef, undef, undef, undef, undef, undef, undef, undef, undef, undef, undef, undef, undef, undef, undef], []⟩ wr := by
  conv => arg 2; whnf
  obtain ⟨wo, hwo⟩ : ∃ x : World, x = wr := ⟨wr, rfl⟩
  subst hwo
  have hX : X.length ≤ 1048576 := by omega
  have hn1 : n < (A.map (·.1)).length := by simpa using hlt
  have hn2 : n < (A.map (·.2)).length := by simpa using hlt
  obtain ⟨ga, gc, hv⟩ := HA.pos (by omega)
  simp only [Value.slice.injEq, List.length_map, true_and] at hv
  obtain ⟨rfl, rfl⟩ := hv
  obtain ⟨gd, gc2, hv⟩ := HD.pos (by omega)
  simp only [Value.slice.injEq, List.length_map, true_and] at hv
  obtain ⟨rfl, rfl⟩ := hv
  have bga := (World.ownsRow.lt HA ga rfl).2
  have bgd := (World.ownsRow.lt HD gd rfl).2
  have hsize := I.bel.size
  have hrng := Row.range (n := 19) (fun _ => rfl) HA hn1
  have hcd := Row.cell (n := 1) (j := 0) (fun _ => rfl) HD (by decide) hn2
  simp only [List.getElem_map, intCell, List.getElem?_cons_zero, Nat.mul_one, Nat.add_zero] at hrng hcd
  have OK := hok A[n] (List.getElem_mem hlt)
  have hdn := hdp A[n] (List.getElem_mem hlt)
  have hrng' : wo.rangeAt ga (n * 19) (Ref.lvCells A[n].1) := fun j v hj => by rw [I.bel.cell (p := ⟨ga, n * 19 + j, none⟩) bga]; exact hrng j v hj
  rw [← I.bel.cell (p := ⟨gd, n, none⟩) bgd] at hcd
  have hgdw : gd < wo.heap.size := by omega
  have HST : Hid (Ref.treeTo (A.map fun p => (p.1.L, (p.2 : Int))) (n + 1) = Ref.treeStep (X.map (·.s)) n A[n].1.L A[n].2) := by
    unfold Hid; rw [Ref.treeTo, hS, List.getElem?_map, List.getElem?_eq_getElem hlt]; rfl
  have hcb : wo.cell? ⟨w.heap.size, 0, none⟩ = some sv := by simp [World.cell?, I.chart]
  have hcbl : w.heap.size < wo.heap.size := (Array.getElem?_eq_some_iff.1 I.chart).1
  obtain ⟨sa, sc, hsv⟩ := I.row0.form
  subst hsv
  clear hrng
  generalize A[n].1 = x at *
  generalize A[n].2 = d at *
  unfold Ref.lvCells Ref.lineCells at hrng'
  go_upto_block 2 with (first
    | (refine wpList_load_mid rfl 127 (.tmp 26) rfl ga (n * 19) rfl _ _ hrng' Tryz.underlying127 rfl Tryz.sizeLine ?_)
    | (refine wpList_store_new rfl 127 (.tmp 8) (.tmp 27) rfl 127 _ _ rfl rfl Tryz.sizeLine rfl rfl ?_))
  have HUP : Hid (∀ m, m ≤ X.length → Ref.upAux (X.map (·.s)) d (m + 1) = if ((X.map (·.s)).getD m Ref.st0).depth = (d : Int) - 1 then (m : Int) else if ((X.map (·.s)).getD m Ref.st0).depth < (d : Int) - 1 then -1 else Ref.upAux (X.map (·.s)) d m) := fun m _ => rfl
  have HU0 : Hid (0 < (d : Int) → Ref.upOf (X.map (·.s)) d = Ref.upAux (X.map (·.s)) d X.length) := fun h => by rw [Ref.upOf, if_pos h, List.length_map]
  have HU1 : Hid (¬ 0 < (d : Int) → Ref.upOf (X.map (·.s)) d = -1) := fun h => by rw [Ref.upOf, if_neg h]
  go_cut [10] (fun s10 wx => s10 = .int .i64 (Ref.upOf (X.map (·.s)) d) ∧ wx = wo.alloc (.cells (Ref.lvCells x).toArray 127))
  case first =>
    go_wp2_with fail
    generalize hU : Ref.upOf (X.map (·.s)) d = U at *
    clear hU
    go_loopg [10, 11] X.length (fun q u k wx => wx = wo.alloc (.cells (Ref.lvCells x).toArray 127) ∧ ∃ m : Nat, m ≤ X.length ∧ q = m ∧ k = .int .i64 ((m : Int) - 1) ∧ u = .int .i64 (-1) ∧ (0 < (d : Int) → U = Ref.upAux (X.map (·.s)) d m))
    case atStart => exact ⟨rfl, X.length, Nat.le_refl _, rfl, rfl, rfl, HU0.out⟩
    case round =>
      obtain ⟨hwx, m, hm, hqm, rfl, rfl, hu⟩ := hrel
      have HU : Hid _ := hu
      clear hu
      subst hwx
      by_cases hm0 : m = 0
      · subst hm0
        have HE : Hid (U = -1) := by
          by_cases hd0 : 0 < (d : Int)
          · exact HU.out hd0
          · exact HU1.out (by omega)
        go_wp2
        go_meet
        case rel => exact ⟨by rw [HE.out], rfl⟩
      · obtain ⟨m', rfl⟩ : ∃ m' : Nat, m = m' + 1 := ⟨m - 1, by omega⟩
        rw [show ((m' + 1 : Nat) : Int) - 1 = (m' : Int) from by omega]
        by_cases hd0 : 0 < (d : Int)
        · obtain ⟨g, gc', hv⟩ := I.row0.pos (by omega)
          simp only [Value.slice.injEq, true_and] at hv
          obtain ⟨rfl, rfl⟩ := hv
          have hlm : m' < X.length := by omega
          have hgw := (World.ownsRow.lt I.row0 g rfl).2
          have hc4 := Row.cell (n := 11) (j := 4) (fun _ => rfl) I.row0 (by decide) hlm
          simp only [Ref.svCells, List.getElem?_cons_succ, List.getElem?_cons_zero] at hc4
          have HG : Hid ((X.map (·.s)).getD m' Ref.st0 = X[m'].s) := by unfold Hid; simp [hlm]
          have HA2 : Hid (U = if X[m'].s.depth = (d : Int) - 1 then (m' : Int) else if X[m'].s.depth < (d : Int) - 1 then -1 else Ref.upAux (X.map (·.s)) d m') := by
            unfold Hid; rw [HU.out hd0, HUP.out m' (by omega), HG.out]
          clear HU HUP HU0 HU1 hrng' hcd
          by_cases e1 : X[m'].s.depth = (d : Int) - 1
          · have e1' : (X[m'].s.depth == (d : Int) - 1) = true := by simpa using e1
            have HE : Hid (U = m') := by unfold Hid; rw [HA2.out, if_pos e1]
            clear e1 HA2
            go_wp2
            go_meet
            case rel => exact ⟨by rw [HE.out], rfl⟩
          · have e1' : (X[m'].s.depth == (d : Int) - 1) = false := by simpa using e1
            by_cases e2 : X[m'].s.depth < (d : Int) - 1
            · have HE : Hid (U = -1) := by unfold Hid; rw [HA2.out, if_neg e1, if_pos e2]
              clear e1 HA2
              go_wp2
              go_meet
              case rel => exact ⟨by rw [HE.out], rfl⟩
            · have HE : Hid (U = Ref.upAux (X.map (·.s)) d m') := by unfold Hid; rw [HA2.out, if_neg e1, if_neg e2]
              clear e1 HA2
              go_wp2
              go_roundg m'
              case measure => omega
              case rel => exact ⟨rfl, m', by omega, rfl, rfl, rfl, fun _ => HE.out⟩
        · have HE : Hid (U = -1) := HU1.out (by omega)
          clear HU HUP HU0 HU1 hrng' hcd
          have hd0' : decide (0 < (d : Int)) = false := by simpa using hd0
          go_wp2
          go_meet
          case rel => exact ⟨by rw [HE.out], rfl⟩
  case rest =>
    obtain ⟨rfl, hwc⟩ := hcut
    obtain ⟨z0, z1, z2⟩ := one_block hwc
    have zrow : wc.heap[wo.heap.size]? = some (.cells (Ref.lvCells x).toArray 127 (0, 0)) := by rw [hwc]; exact heap_alloc_new _ _
    clear hwc HUP HU0 HU1 hrng' hcd hgdw
    have Z0 : Hid _ := z0
    clear z0
    have k0 := z1 0
    have k18 := z1 18
    simp only [Ref.lvCells, Ref.lineCells, List.getElem?_toArray, List.getElem?_cons_succ, List.getElem?_cons_zero] at k0 k18
    have HZ1 : Hid _ := z1
    clear z1
    have ZB : Below w.heap.size w wc := I.bel.trans (z2.mono hsize)
    have hcbw : wc.cell? ⟨w.heap.size, 0, none⟩ = some (.slice sa X.length sc) := by rw [z2.cell (p := ⟨w.heap.size, 0, none⟩) hcbl]; exact hcb
    clear hcb
    generalize hU : Ref.upOf (X.map (·.s)) d = U
    have HU : Hid _ := hU
    clear hU
    by_cases f1 : 0 < (d : Int) ∧ U < 0
    · obtain ⟨f1a, f1b⟩ := f1
      have HN : Hid (Ref.treeTo (A.map fun p => (p.1.L, (p.2 : Int))) (n + 1) = none) := by
        unfold Hid; rw [HST.out, Ref.treeStep, HU.out, if_pos ⟨f1a, f1b⟩]
      clear HST
      go_wp2
      go_ret2
      exact tree_fail ZB hlt hS HN.out
    · have hk := HKD.out
      have hm := HMD.out
      have hk' : (x.L.kind == 115) = false := by simpa using hk
      by_cases f2 : U < 0
      · have hd0 : decide (0 < (d : Int)) = false := by
          rw [decide_eq_false_iff_not]; intro h; exact f1 ⟨h, f2⟩
        have HN : Hid (Ref.treeTo (A.map fun p => (p.1.L, (p.2 : Int))) (n + 1) = none) := by
          unfold Hid; rw [HST.out, Ref.treeStep, HU.out, if_neg f1, if_neg hk, if_pos f2]
        clear HST
        go_wp2
        go_ret2
        exact tree_fail ZB hlt hS HN.out
      · have hlu : U < ((X.map (·.s)).length : Int) := by rw [← HU.out]; exact upOf_lt _ _ (by rw [HU.out]; exact f2)
        rw [List.length_map] at hlu
        have hdp0 : 0 < (d : Int) := by
          by_cases h : 0 < (d : Int)
          · exact h
          · exact absurd (by rw [← HU.out, Ref.upOf, if_neg h]; decide) f2
        obtain ⟨u, rfl⟩ : ∃ u : Nat, U = u := ⟨U.toNat, by omega⟩
        have hul : u < X.length := by omega
        have HG : Hid ((X.map (·.s)).getD (u : Int).toNat Ref.st0 = X[u].s) := by unfold Hid; simp [hul]
        obtain ⟨g, gc', hv⟩ := I.row0.pos (by omega)
        simp only [Value.slice.injEq, true_and] at hv
        obtain ⟨rfl, rfl⟩ := hv
        have hgw := (World.ownsRow.lt I.row0 g rfl).2
        have hgb := (World.ownsRow.lt I.row g rfl).1
        have c0 := Row.cell (n := 11) (j := 0) (fun _ => rfl) I.row0 (by decide) hul
        simp only [Ref.svCells, List.getElem?_cons_zero, Nat.add_zero] at c0
        rw [← z2.cell (p := ⟨g, u * 11, none⟩) hgw] at c0
        cases hh : (X[u].s.word.toList == [104, 105, 115, 116, 111, 114, 121])
        · have hm' : (x.L.kind == 109) = true := by simpa using hm
          cases hf : (X[u].s.word.toList == [102, 105, 110, 97, 108])
          · obtain ⟨i0, hi, hz0, hz1, hz2⟩ := info_parts Tryz.infoMove
            have HN : Hid (∀ y : Ref.MV, ∀ v : Ref.Sl, y.m = x.L.m → Ref.treeTo (A.map fun p => (p.1.L, (p.2 : Int))) (n + 1) = some ((X.set u (Ref.moreTo X[u] y v)).map (·.s))) := by
              intro y v hy
              rw [HST.out, Ref.treeStep, HU.out, if_neg f1, if_neg hk, if_neg f2, HG.out, Ref.cHistory, hh, if_neg Bool.false_ne_true, if_pos hm, Ref.cFinal, hf, if_neg Bool.false_ne_true, Ref.turn, HG.out, List.map_set, ← hy]; rfl
            clear HST
            have D := I.deep X[u] (List.getElem_mem hul)
            obtain ⟨M, hM1, hM2, hM3⟩ := D.moves
            have hMl : M.length ≤ n := by
              have h1 := HMv.out X[u] (List.getElem_mem hul)
              rw [← hM1, List.length_map] at h1; exact h1
            have hM4 := own_keep hM2 z2
            have c6 := Row.cell (n := 11) (j := 6) (fun _ => rfl) I.row0 (by decide) hul
            simp only [Ref.svCells, List.getElem?_cons_succ, List.getElem?_cons_zero] at c6
            rw [← z2.cell (p := ⟨g, u * 11 + 6, none⟩) hgw] at c6
            have fr6 : wc.frozen? ⟨g, u * 11 + 6, none⟩ = false := by rw [z2.frozen (p := ⟨g, u * 11 + 6, none⟩) hgw]; exact I.row.frozenAt _
            have e12 := HZ1.out 12
            have e13 := HZ1.out 13
            have e14 := HZ1.out 14
            have e15 := HZ1.out 15
            have e16 := HZ1.out 16
            have e17 := HZ1.out 17
            simp only [Ref.lvCells, Ref.lineCells, List.getElem?_toArray, List.getElem?_cons_succ, List.getElem?_cons_zero] at e12 e13 e14 e15 e16 e17
            have HND : Hid (some g ≠ X[u].vm.v.ownBlock) := fun e => by
              obtain ⟨c, fz, hc⟩ := ownsRow_kind' hM2 _ e.symm
              obtain ⟨c', hc'⟩ := own_block I.row
              rw [hc] at hc'; simp at hc'
            have hgwc : g < wc.heap.size := Nat.lt_of_lt_of_le hgw z2.size
            have hxwc : wo.heap.size < wc.heap.size := (Array.getElem?_eq_some_iff.1 zrow).1
            go_upto_region 28 with fail
            go_region_law
              ((refine step_append_lies _ (by rfl) _ _ _ (by rfl) w.heap.size 120 i0 _ 6 80 Tryz.underlying114 hi hz0 hz1 hz2 rfl (by decide) (.slice X[u].vm.a X[u].vm.n X[u].vm.c) M.length (M.flatMap Ref.mvCells) (by rfl) ((World.ownsRow.alloc hM4 _).drew) ⟨wc.heap.size, 0, none⟩ 1 1 (Ref.mvCells ⟨x.L.m, x.vm⟩) (by rfl) (by rfl) (World.news_of_block (cs := (Ref.mvCells ⟨x.L.m, x.vm⟩).toArray) (t := 120) (fr := (0, 0)) (heap_alloc_new wc _)) (by simp [Ref.mvCells, Value.oneCell']) (by omega) (by unfold maxLen; omega) (by omega) (by simp; omega) (wc.heap.size + 1) (by simp) ?_; intro g5 cap5 w5 hown5 hgrow hat hlt5; have hfz5 := ((hgrow.frozen_far ⟨g, u * 11 + 6, none⟩ (by simp; omega) HND.out).trans ((((Below.refl wc.heap.size wc).alloc (Nat.le_refl _) _).drew).frozen (p := ⟨g, u * 11 + 6, none⟩) hgwc)).trans fr6; have hcc5 := ((hgrow.cell_far ⟨g, u * 11 + 6, none⟩ (by simp; omega) HND.out).trans ((((Below.refl wc.heap.size wc).alloc (Nat.le_refl _) _).drew).cell (p := ⟨g, u * 11 + 6, none⟩) hgwc)).trans c6))
            all_goals (
              have I6 := I.move (v' := ⟨some ⟨g5, 0, none⟩, M.length + 1, cap5⟩) (((z2.alloc z2.size _)).drew) hul hM1 hM2 hM3 hgrow hown5 (by rcases hat with h | h; exact .inl h; exact .inr (.inl (by rw [h]; simp [Ref.Sl.v, Value.ownBlock]))) OK.rowM OK.okM
              clear hgrow hown5 hat hfz5 hcc5 e12 e13 e14 e15 e16 e17 c6 fr6 c0
              go_wp2
              go_roundg (A.length - (n + 1))
              case measure => omega
              case rel =>
                refine ⟨n + 1, _, .slice (some ⟨g, 0, none⟩) X.length sc, X.set u (Ref.moreTo X[u] ⟨x.L.m, x.vm⟩ ⟨some ⟨g5, 0, none⟩, M.length + 1, cap5⟩), rfl, by omega, by go_num, HN.out _ _ rfl, rfl, by rw [List.length_set]; omega, ?_, I6⟩
                intro y hy
                rcases List.mem_or_eq_of_mem_set hy with h | h
                · exact Nat.le_succ_of_le (HMv.out y h)
                · rw [h]
                  show (X[u].s.moves ++ [x.L.m]).length ≤ n + 1
                  rw [List.length_append, ← hM1, List.length_map]; exact Nat.succ_le_succ hMl)
          · have HN : Hid (Ref.treeTo (A.map fun p => (p.1.L, (p.2 : Int))) (n + 1) = none) := by
              unfold Hid; rw [HST.out, Ref.treeStep, HU.out, if_neg f1, if_neg hk, if_neg f2, HG.out, Ref.cHistory, hh, if_neg Bool.false_ne_true, if_pos hm, Ref.cFinal, hf, if_pos rfl]
            clear HST
            go_wp2
            go_ret2
            exact tree_fail ZB hlt hS HN.out
        · have HN : Hid (Ref.treeTo (A.map fun p => (p.1.L, (p.2 : Int))) (n + 1) = none) := by
            unfold Hid; rw [HST.out, Ref.treeStep, HU.out, if_neg f1, if_neg hk, if_neg f2, HG.out, Ref.cHistory, hh, if_pos rfl]
          clear HST
          go_wp2
          go_ret2
          exact tree_fail ZB hlt hS HN.out
end Go.Proofs.YtegmoddppafkfaaGreatDoor
