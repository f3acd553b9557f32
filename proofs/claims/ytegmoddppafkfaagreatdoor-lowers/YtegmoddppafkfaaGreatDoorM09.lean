/-
  MY OWN TEXT.
-/
import Derived.Test.YtegmoddppafkfaaGreatDoorM08
import Derived.Deep.LoopGhost
import Derived.Deep.DeepCutAuto
namespace Go.Proofs.YtegmoddppafkfaaGreatDoor
open Go.RowKit

namespace Ref
def timedMs (ms : List Move) : Bool := ms.any (·.after)
def timed (X : List SV) : Bool := X.any fun x => timedMs x.s.moves
def moveBad (X : List SV) (t : Bool) (m : Move) : Bool := (!(m.to.toList == []) && decide (place X m.to < 0)) || (t && (mine m.acts || (!m.after && begins m.event kAfter)))
def stepMove (X : List SV) (t : Bool) (at' : Int) (m : Move) : Int := if moveBad X t m then earlier at' m.line else at'
def movesTo (X : List SV) (t : Bool) (at' : Int) (ms : List Move) (j : Nat) : Int := (ms.take j).foldl (stepMove X t) at'
def stepEnds (t : Bool) (a2 : Int) (x : State) : Int :=
  if t && mine x.leave then earlier (if t && mine x.enter then earlier a2 x.has0 else a2) x.has1 else if t && mine x.enter then earlier a2 x.has0 else a2
def stepState (X : List SV) (t : Bool) (k : Nat) (at' : Int) (x : State) : Int :=
  stepEnds t (x.moves.foldl (stepMove X t) (if place X x.name < k then earlier at' x.line else at')) x
def namedTo (X : List SV) (t : Bool) : Nat → Int
  | 0 => 0
  | k + 1 => match X[k]? with
    | some x => stepState X t k (namedTo X t k) x.s
    | none => namedTo X t k
def named (X : List SV) : Int := namedTo X (timed X) X.length
end Ref
theorem Row.keep {α : Type} {w w' : World} {e : TypeId} {n : Nat} {f : α → List Value} {v : Value} {X : List α} (h : Row w e n f v X) (hb : Below w.heap.size w w') : Row w' e n f v X := by
  refine ⟨h.1, ?_⟩
  rcases h.2 with h' | ⟨g, cap, cur, hv, hb', hg, r⟩
  · exact .inl h'
  · have hlt : g < w.heap.size := (Array.getElem?_eq_some_iff.1 hg).1
    exact .inr ⟨g, cap, cur, hv, hb', by rw [hb.block g hlt]; exact hg, r⟩
theorem ChartAt.keep {w w' : World} {cb : Nat} {sv : Value} {X : List Ref.SV} (h : ChartAt w cb sv X) (hb : Below w.heap.size w w') : ChartAt w' cb sv X :=
  ⟨by rw [hb.block cb ((Array.getElem?_eq_some_iff.1 h.at').1)]; exact h.at', h.row.keep hb⟩
theorem one_block {w w1 : World} {Z : Array Value} {t : TypeId} (h : w1 = w.alloc (.cells Z t)) :
    w1.heap.size = w.heap.size + 1 ∧ (∀ j, w1.cell? ⟨w.heap.size, j, none⟩ = Z[j]?) ∧ Below w.heap.size w w1 := by
  subst h
  refine ⟨by simp, fun j => ?_, (Below.refl _ _).alloc (Nat.le_refl _) _⟩
  exact cell_of_row _ _ j Z t (0, 0) (heap_alloc_new w _)
/-- A state's moves as they lie. -/
def MoveRow (w : World) (vm : Ref.Sl) (M : List Ref.MV) : Prop := Row w 120 6 Ref.mvCells vm.v M ∧ ∀ x ∈ M, ActRow w x.v.v x.m.acts
structure MoveOK (m : Ref.Move) : Prop where
  event : m.event.size ≤ 1073741824
  dst : m.to.size ≤ 1073741824
  acts : ∀ a ∈ m.acts, Ref.ActOK a
  len : m.acts.length ≤ 1048576
/-- What belongs to a state lies in memory, and is such as a chart may have it. -/
structure Deep (w : World) (x : Ref.SV) : Prop where
  moves : ∃ M : List Ref.MV, M.map (·.m) = x.s.moves ∧ MoveRow w x.vm M
  enter : ActRow w x.ve.v x.s.enter
  leave : ActRow w x.vl.v x.s.leave
  okM : ∀ m ∈ x.s.moves, MoveOK m
  okE : ∀ a ∈ x.s.enter, Ref.ActOK a
  okL : ∀ a ∈ x.s.leave, Ref.ActOK a
  lenM : x.s.moves.length ≤ 1048576
  lenE : x.s.enter.length ≤ 1048576
  lenL : x.s.leave.length ≤ 1048576
  name : x.s.name.size ≤ 1073741824

set_option maxHeartbeats 1600000 in
set_option maxRecDepth 100000 in
theorem named_any (cb : Nat) (sv : Value) (X : List Ref.SV) (w : World) (H : ChartAt w cb sv X) (hcb : cb < w.heap.size) (hX : X.length ≤ 1073741824) (HD : ∀ x ∈ X, Deep w x) :
    Calls Tryz.prog 58 #[.pointer (some ⟨cb, 0, none⟩)] w fun e w' => e = .returned (.int .i64 (Ref.named X)) ∧ Below w.heap.size w w' := by
  have hcc := H.cell
  obtain ⟨sa, sc, rfl⟩ := H.row.form
  go_enter Tryz.func58, Tryz.ntmps58
  go_wp2
  go_loop [4, 5, 6] (fun t i _j => ∃ k : Nat, k ≤ X.length ∧ i = .int .i64 k ∧ t = .bool ((X.take k).any fun x => Ref.timedMs x.s.moves)) (fun _ i _ => X.length - (intOf i).toNat)
  case atStart => exact ⟨0, Nat.zero_le _, rfl, rfl⟩
  case round =>
    obtain ⟨k, hk, rfl, rfl⟩ := hrel
    by_cases hlt : k < X.length
    · obtain ⟨g, c, hv⟩ := H.row.pos (by omega)
      simp only [Value.slice.injEq, true_and] at hv
      obtain ⟨rfl, rfl⟩ := hv
      have k6 := H.row.cell (n := 11) (j := 6) (fun _ => rfl) (by decide) hlt
      simp only [Ref.svCells, List.getElem?_cons_succ, List.getElem?_cons_zero] at k6
      have D := HD X[k] (List.getElem_mem hlt)
      obtain ⟨M, hM, hMR⟩ := D.moves
      have hlM := D.lenM
      have hML : M.length = X[k].s.moves.length := by rw [← hM, List.length_map]
      obtain ⟨ma, mc, hma⟩ := hMR.1.form
      have hmn : X[k].vm.n = M.length := by simp only [Ref.Sl.v, Value.slice.injEq] at hma; exact hma.2.1
      rw [hmn] at k6
      have HT : Hid (((X.take (k + 1)).any fun x => Ref.timedMs x.s.moves) = (((X.take k).any fun x => Ref.timedMs x.s.moves) || Ref.timedMs X[k].s.moves)) := by
        unfold Hid
        rw [List.take_succ_eq_append_getElem hlt, List.any_append]; simp
      have HTM : Hid (Ref.timedMs X[k].s.moves = M.any (fun x => x.m.after)) := by unfold Hid Ref.timedMs; rw [← hM, List.any_map]; rfl
      generalize ((X.take k).any fun x => Ref.timedMs x.s.moves) = F at *
      go_wp2
      go_loop [4, 6] (fun t i => ∃ j : Nat, j ≤ M.length ∧ i = .int .i64 j ∧ t = .bool (F || (M.take j).any (fun x => x.m.after))) (fun _ i => M.length - (intOf i).toNat)
      case atStart => exact ⟨0, Nat.zero_le _, rfl, by simp⟩
      case round =>
        obtain ⟨j, hj, rfl, rfl⟩ := hrel
        by_cases hlj : j < M.length
        · obtain ⟨mg, mc', hv⟩ := hMR.1.pos (by omega)
          have hRow := hMR.1
          rw [hv] at hRow
          have m2 := Row.cell (n := 6) (j := 2) (fun _ => rfl) hRow (by decide) hlj
          simp only [Ref.mvCells, List.getElem?_cons_succ, List.getElem?_cons_zero] at m2
          simp only [Ref.Sl.v, Value.slice.injEq] at hv
          rw [hv.1] at k6
          have HS : Hid (((M.take (j + 1)).any (fun x => x.m.after)) = (((M.take j).any (fun x => x.m.after)) || M[j].m.after)) := by
            unfold Hid
            rw [List.take_succ_eq_append_getElem hlj, List.any_append]; simp
          clear hv hRow
          generalize hG : ((M.take j).any (fun x => x.m.after)) = G at *
          cases hFG : (F || G)
          · go_wp2
            go_round
            case rel => exact ⟨j + 1, by omega, by go_num, by rw [HS.out, ← Bool.or_assoc, hFG, Bool.false_or]⟩
            case measure => simp [intOf]; omega
          · go_wp2
            go_round
            case rel => exact ⟨j + 1, by omega, by go_num, by rw [HS.out, ← Bool.or_assoc, hFG, Bool.true_or]⟩
            case measure => simp [intOf]; omega
        · obtain rfl : j = M.length := by omega
          go_wp2
          go_round
          case rel => exact ⟨k + 1, by omega, by go_num, by rw [HT.out, HTM.out, List.take_length]⟩
          case measure => simp [intOf]; omega
    · obtain rfl : k = X.length := by omega
      rw [List.take_length]
      rw [show (X.any fun x => Ref.timedMs x.s.moves) = Ref.timed X from rfl]
      have HNM : Hid (Ref.named X = Ref.namedTo X (Ref.timed X) X.length) := rfl
      generalize Ref.timed X = T at *
      go_wp2
      go_loopg [3, 7] X.length (fun q a i wr => ∃ k : Nat, q = X.length - k ∧ k ≤ X.length ∧ i = .int .i64 k ∧ a = .int .i64 (Ref.namedTo X T k) ∧ Below w.heap.size w wr)
      case atStart => exact ⟨0, rfl, Nat.zero_le _, rfl, rfl, Below.refl _ _⟩
      case round =>
        obtain ⟨k, hq, hk, rfl, rfl, hbel⟩ := hrel
        have hsize := hbel.size
        by_cases hlt : k < X.length
        · obtain ⟨g, c, hv⟩ := H.row.pos (by omega)
          simp only [Value.slice.injEq, true_and] at hv
          obtain ⟨rfl, rfl⟩ := hv
          have hg := (World.ownsRow.lt H.row g rfl).2
          have hgw : g < wr.heap.size := by omega
          have hcc' : wr.cell? ⟨cb, 0, none⟩ = some (.slice (some ⟨g, 0, none⟩) X.length sc) := by rw [hbel.cell (p := ⟨cb, 0, none⟩) hcb]; exact hcc
          have hc : ∀ j, j < 11 → wr.cell? ⟨g, k * 11 + j, none⟩ = (Ref.svCells X[k])[j]? := fun j hj => by
            rw [hbel.cell (p := ⟨g, k * 11 + j, none⟩) hg]; exact H.row.cell (n := 11) (fun _ => rfl) hj hlt
          have k0 := hc 0 (by decide)
          have k1 := hc 1 (by decide)
          have k2 := hc 2 (by decide)
          have k3 := hc 3 (by decide)
          have k4 := hc 4 (by decide)
          have k5 := hc 5 (by decide)
          have k6 := hc 6 (by decide)
          have k7 := hc 7 (by decide)
          have k8 := hc 8 (by decide)
          have k9 := hc 9 (by decide)
          have k10 := hc 10 (by decide)
          simp only [Ref.svCells, List.getElem?_cons_succ, List.getElem?_cons_zero, Nat.add_zero] at k0 k1 k2 k3 k4 k5 k6 k7 k8 k9 k10
          clear hc
          have D := HD X[k] (List.getElem_mem hlt)
          have HST : Hid (Ref.namedTo X T (k + 1) = Ref.stepState X T k (Ref.namedTo X T k) X[k].s) := by
            unfold Hid; rw [Ref.namedTo, List.getElem?_eq_getElem hlt]
          have hnm := D.name
          generalize Ref.namedTo X T k = A0 at *
          obtain ⟨M, hM, hMR⟩ := D.moves
          have hlM := D.lenM
          have hML : Hid (M.length = X[k].s.moves.length) := by unfold Hid; rw [← hM, List.length_map]
          have hMl : M.length ≤ 1048576 := by rw [hML.out]; exact hlM
          obtain ⟨ma, mc, hma⟩ := hMR.1.form
          have hmn : X[k].vm.n = M.length := by simp only [Ref.Sl.v, Value.slice.injEq] at hma; exact hma.2.1
          rw [hmn] at k6
          clear hmn hma hlM
          have HMM : Hid _ := hM
          clear hM
          go_upto_if 75 with (go_at_call 86; refine (place_any cb _ X _ _ ((H.keep hbel).keep ((Below.refl _ _).alloc (Nat.le_refl _) _)) hX).mono ?_; rintro e w1 ⟨rfl, hw1⟩; obtain ⟨q0, q1, q2⟩ := one_block hw1; clear hw1 k0 k1 k2 k3 k4 k5 k6 k7 k8 k9 k10; have x5 := q1 5; have x6 := q1 6; have x7 := q1 7; have x8 := q1 8; have x9 := q1 9; have x10 := q1 10; simp only [List.getElem?_toArray, List.getElem?_cons_succ, List.getElem?_cons_zero] at x5 x6 x7 x8 x9 x10; clear q1; have Q0 : Hid _ := q0; clear q0)
          obtain ⟨A1, hA1⟩ : ∃ a : Int, a = if Ref.place X X[k].s.name < k then Ref.earlier A0 X[k].s.line else A0 := ⟨_, rfl⟩
          have HST2 : Hid (Ref.namedTo X T (k + 1) = Ref.stepEnds T (X[k].s.moves.foldl (Ref.stepMove X T) A1) X[k].s) := by
            unfold Hid; rw [HST.out, Ref.stepState, hA1]
          have HA1 : Hid _ := hA1
          clear hA1 HST
          go_cut [3] (fun s3 wx => s3 = .int .i64 A1 ∧ wx = w1)
          case first =>
            by_cases hpk : Ref.place X X[k].s.name < k
            · go_wp2_with (go_at_call 87; refine (earlier_any _ _ _).mono ?_; rintro e w9 ⟨rfl, hw9⟩; rw [hw9]; clear hw9 w9)
              go_meet
              case rel => exact ⟨by rw [HA1.out, if_pos hpk], rfl⟩
            · go_wp2
              go_meet
              case rel => exact ⟨by rw [HA1.out, if_neg (by omega)], rfl⟩
          case rest =>
            obtain ⟨rfl, hwc⟩ := hcut
            rw [hwc]
            clear hwc x5 HA1
            go_wp2
            obtain ⟨wo, hwo⟩ : ∃ x : World, x = wr := ⟨wr, rfl⟩
            subst hwo
            have hlt1 : wo.heap.size < w1.heap.size := by have := Q0.out; omega
            clear hcc' hgw hnm
            go_loopw [3, 10] (fun a i w2 => ∃ j : Nat, j ≤ M.length ∧ i = .int .i64 j ∧ a = .int .i64 ((M.take j).foldl (fun a x => Ref.stepMove X T a x.m) A1) ∧ Below w1.heap.size w1 w2) (fun _ i _ => M.length - (intOf i).toNat)
            case atStart => exact ⟨0, Nat.zero_le _, rfl, rfl, Below.refl _ _⟩
            case round =>
              obtain ⟨j, hj, rfl, rfl, hb2⟩ := hrel
              have B0 : Below w.heap.size w wr := hbel.trans ((q2.mono hsize).trans (hb2.mono (by omega)))
              have HB0 : Hid (Below w.heap.size w wr) := B0
              by_cases hlj : j < M.length
              · have x6' : wr.cell? ⟨wo.heap.size, 6, none⟩ = some (.slice X[k].vm.a M.length X[k].vm.c) := by rw [hb2.cell (p := ⟨wo.heap.size, 6, none⟩) hlt1]; exact x6
                obtain ⟨mg, mc', hv⟩ := hMR.1.pos (by omega)
                have hRow := hMR.1
                rw [hv] at hRow
                have hmg := (World.ownsRow.lt hRow mg rfl).2
                have hmw : mg < wr.heap.size := by have := B0.size; omega
                have hm : ∀ q, q < 6 → wr.cell? ⟨mg, j * 6 + q, none⟩ = (Ref.mvCells M[j])[q]? := fun q hq => by
                  rw [B0.cell (p := ⟨mg, j * 6 + q, none⟩) hmg]; exact Row.cell (n := 6) (fun _ => rfl) hRow hq hlj
                have m0 := hm 0 (by decide)
                have m1 := hm 1 (by decide)
                have m2 := hm 2 (by decide)
                have m3 := hm 3 (by decide)
                have m4 := hm 4 (by decide)
                have m5 := hm 5 (by decide)
                simp only [Ref.mvCells, List.getElem?_cons_succ, List.getElem?_cons_zero, Nat.add_zero] at m0 m1 m2 m3 m4 m5
                simp only [Ref.Sl.v, Value.slice.injEq] at hv
                rw [hv.1] at x6'
                have HC : Hid (ChartAt wr cb (.slice (some ⟨g, 0, none⟩) X.length sc) X) := H.keep B0
                have HAR : Hid (ActRow wr M[j].v.v M[j].m.acts) := Row.keep (hMR.2 M[j] (List.getElem_mem hlj)) B0
                have OKm : MoveOK M[j].m := D.okM _ (by rw [← HMM.out]; exact List.mem_map.2 ⟨M[j], List.getElem_mem hlj, rfl⟩)
                have HFO : Hid ((M.take (j + 1)).foldl (fun a x => Ref.stepMove X T a x.m) A1 = Ref.stepMove X T ((M.take j).foldl (fun a x => Ref.stepMove X T a x.m) A1) M[j].m) := by
                  unfold Hid; rw [List.take_succ_eq_append_getElem hlj, List.foldl_append]; rfl
                generalize (M.take j).foldl (fun a x => Ref.stepMove X T a x.m) A1 = AJ at *
                clear hm hv hRow hMR x6 x7 x8 x9 x10 B0 HST2
                cases hTo : (M[j].m.to.toList == [])
                · by_cases hPl : Ref.place X M[j].m.to < 0
                  · have HB : Hid (Ref.moveBad X T M[j].m = true) := by unfold Hid Ref.moveBad; rw [hTo, decide_eq_true hPl]; rfl
                    go_wp2_with (first | (go_at_call 86; refine (place_any cb _ X _ _ (HC.out.keep ((Below.refl _ _).alloc (Nat.le_refl _) _)) hX).mono ?_; rintro e w9 ⟨rfl, hw9⟩; rw [hw9]; clear hw9 w9) | (go_at_call 88; refine (mine_any _ M[j].m.acts _ (Row.keep HAR.out ((Below.refl _ _).alloc (Nat.le_refl _) _)) (by have := OKm.len; omega) OKm.acts).mono ?_; rintro e w9 ⟨rfl, hw9⟩; rw [hw9]; clear hw9 w9) | (go_at_call 87; refine (earlier_any _ _ _).mono ?_; rintro e w9 ⟨rfl, hw9⟩; rw [hw9]; clear hw9 w9))
                    go_roundw
                    case rel => exact ⟨j + 1, by omega, by go_num, by rw [HFO.out, Ref.stepMove, HB.out]; rfl, hb2.alloc (by have := hb2.size; omega) _⟩
                    case measure => simp [intOf]; omega
                  · cases T
                    · have HB : Hid (Ref.moveBad X false M[j].m = false) := by unfold Hid Ref.moveBad; rw [hTo, decide_eq_false (show ¬ Ref.place X M[j].m.to < 0 by omega)]; rfl
                      go_wp2_with (first | (go_at_call 86; refine (place_any cb _ X _ _ (HC.out.keep ((Below.refl _ _).alloc (Nat.le_refl _) _)) hX).mono ?_; rintro e w9 ⟨rfl, hw9⟩; rw [hw9]; clear hw9 w9) | (go_at_call 88; refine (mine_any _ M[j].m.acts _ (Row.keep HAR.out ((Below.refl _ _).alloc (Nat.le_refl _) _)) (by have := OKm.len; omega) OKm.acts).mono ?_; rintro e w9 ⟨rfl, hw9⟩; rw [hw9]; clear hw9 w9))
                      go_roundw
                      case rel => exact ⟨j + 1, by omega, by go_num, by rw [HFO.out, Ref.stepMove, HB.out]; rfl, hb2.alloc (by have := hb2.size; omega) _⟩
                      case measure => simp [intOf]; omega
                    · cases hMi : Ref.mine M[j].m.acts
                      · cases hAf : M[j].m.after
                        · cases hBg : Ref.begins M[j].m.event Ref.kAfter
                          · have HB : Hid (Ref.moveBad X true M[j].m = false) := by unfold Hid Ref.moveBad; rw [hTo, decide_eq_false (show ¬ Ref.place X M[j].m.to < 0 by omega), hMi, hAf, hBg]; rfl
                            have HMi : Hid _ := hMi
                            clear hMi
                            have HBg : Hid _ := hBg
                            clear hBg
                            go_wp2_with (first | (go_at_call 86; refine (place_any cb _ X _ _ (HC.out.keep ((Below.refl _ _).alloc (Nat.le_refl _) _)) hX).mono ?_; rintro e w9 ⟨rfl, hw9⟩; rw [hw9]; clear hw9 w9) | (go_at_call 88; refine (mine_any _ M[j].m.acts _ (Row.keep HAR.out ((Below.refl _ _).alloc (Nat.le_refl _) _)) (by have := OKm.len; omega) OKm.acts).mono ?_; rintro e w9 ⟨rfl, hw9⟩; rw [hw9, HMi.out]; clear hw9 w9) | (go_at_call 89; refine (begins_any _ Ref.kAfter _ (by unfold maxLen; have := OKm.event; omega) (by decide)).mono ?_; rintro e w9 ⟨rfl, hw9⟩; rw [hw9, HBg.out]; clear hw9 w9))
                            go_roundw
                            case rel => exact ⟨j + 1, by omega, by go_num, by rw [HFO.out, Ref.stepMove, HB.out]; rfl, hb2.alloc (by have := hb2.size; omega) _⟩
                            case measure => simp [intOf]; omega
                          · have HB : Hid (Ref.moveBad X true M[j].m = true) := by unfold Hid Ref.moveBad; rw [hTo, decide_eq_false (show ¬ Ref.place X M[j].m.to < 0 by omega), hMi, hAf, hBg]; rfl
                            have HMi : Hid _ := hMi
                            clear hMi
                            have HBg : Hid _ := hBg
                            clear hBg
                            go_wp2_with (first | (go_at_call 86; refine (place_any cb _ X _ _ (HC.out.keep ((Below.refl _ _).alloc (Nat.le_refl _) _)) hX).mono ?_; rintro e w9 ⟨rfl, hw9⟩; rw [hw9]; clear hw9 w9) | (go_at_call 88; refine (mine_any _ M[j].m.acts _ (Row.keep HAR.out ((Below.refl _ _).alloc (Nat.le_refl _) _)) (by have := OKm.len; omega) OKm.acts).mono ?_; rintro e w9 ⟨rfl, hw9⟩; rw [hw9, HMi.out]; clear hw9 w9) | (go_at_call 89; refine (begins_any _ Ref.kAfter _ (by unfold maxLen; have := OKm.event; omega) (by decide)).mono ?_; rintro e w9 ⟨rfl, hw9⟩; rw [hw9, HBg.out]; clear hw9 w9) | (go_at_call 87; refine (earlier_any _ _ _).mono ?_; rintro e w9 ⟨rfl, hw9⟩; rw [hw9]; clear hw9 w9))
                            go_roundw
                            case rel => exact ⟨j + 1, by omega, by go_num, by rw [HFO.out, Ref.stepMove, HB.out]; rfl, hb2.alloc (by have := hb2.size; omega) _⟩
                            case measure => simp [intOf]; omega
                        · have HB : Hid (Ref.moveBad X true M[j].m = false) := by unfold Hid Ref.moveBad; rw [hTo, decide_eq_false (show ¬ Ref.place X M[j].m.to < 0 by omega), hMi, hAf]; rfl
                          have HMi : Hid _ := hMi
                          clear hMi
                          go_wp2_with (first | (go_at_call 86; refine (place_any cb _ X _ _ (HC.out.keep ((Below.refl _ _).alloc (Nat.le_refl _) _)) hX).mono ?_; rintro e w9 ⟨rfl, hw9⟩; rw [hw9]; clear hw9 w9) | (go_at_call 88; refine (mine_any _ M[j].m.acts _ (Row.keep HAR.out ((Below.refl _ _).alloc (Nat.le_refl _) _)) (by have := OKm.len; omega) OKm.acts).mono ?_; rintro e w9 ⟨rfl, hw9⟩; rw [hw9, HMi.out]; clear hw9 w9))
                          go_roundw
                          case rel => exact ⟨j + 1, by omega, by go_num, by rw [HFO.out, Ref.stepMove, HB.out]; rfl, hb2.alloc (by have := hb2.size; omega) _⟩
                          case measure => simp [intOf]; omega
                      · have HB : Hid (Ref.moveBad X true M[j].m = true) := by unfold Hid Ref.moveBad; rw [hTo, decide_eq_false (show ¬ Ref.place X M[j].m.to < 0 by omega), hMi]; rfl
                        have HMi : Hid _ := hMi
                        clear hMi
                        go_wp2_with (first | (go_at_call 86; refine (place_any cb _ X _ _ (HC.out.keep ((Below.refl _ _).alloc (Nat.le_refl _) _)) hX).mono ?_; rintro e w9 ⟨rfl, hw9⟩; rw [hw9]; clear hw9 w9) | (go_at_call 88; refine (mine_any _ M[j].m.acts _ (Row.keep HAR.out ((Below.refl _ _).alloc (Nat.le_refl _) _)) (by have := OKm.len; omega) OKm.acts).mono ?_; rintro e w9 ⟨rfl, hw9⟩; rw [hw9, HMi.out]; clear hw9 w9) | (go_at_call 87; refine (earlier_any _ _ _).mono ?_; rintro e w9 ⟨rfl, hw9⟩; rw [hw9]; clear hw9 w9))
                        go_roundw
                        case rel => exact ⟨j + 1, by omega, by go_num, by rw [HFO.out, Ref.stepMove, HB.out]; rfl, hb2.alloc (by have := hb2.size; omega) _⟩
                        case measure => simp [intOf]; omega
                · cases T
                  · have HB : Hid (Ref.moveBad X false M[j].m = false) := by unfold Hid Ref.moveBad; rw [hTo]; rfl
                    go_wp2_with (first | (go_at_call 86; refine (place_any cb _ X _ _ (HC.out.keep ((Below.refl _ _).alloc (Nat.le_refl _) _)) hX).mono ?_; rintro e w9 ⟨rfl, hw9⟩; rw [hw9]; clear hw9 w9) | (go_at_call 88; refine (mine_any _ M[j].m.acts _ (Row.keep HAR.out ((Below.refl _ _).alloc (Nat.le_refl _) _)) (by have := OKm.len; omega) OKm.acts).mono ?_; rintro e w9 ⟨rfl, hw9⟩; rw [hw9]; clear hw9 w9))
                    go_roundw
                    case rel => exact ⟨j + 1, by omega, by go_num, by rw [HFO.out, Ref.stepMove, HB.out]; rfl, hb2.alloc (by have := hb2.size; omega) _⟩
                    case measure => simp [intOf]; omega
                  · cases hMi : Ref.mine M[j].m.acts
                    · cases hAf : M[j].m.after
                      · cases hBg : Ref.begins M[j].m.event Ref.kAfter
                        · have HB : Hid (Ref.moveBad X true M[j].m = false) := by unfold Hid Ref.moveBad; rw [hTo, hMi, hAf, hBg]; rfl
                          have HMi : Hid _ := hMi
                          clear hMi
                          have HBg : Hid _ := hBg
                          clear hBg
                          go_wp2_with (first | (go_at_call 86; refine (place_any cb _ X _ _ (HC.out.keep ((Below.refl _ _).alloc (Nat.le_refl _) _)) hX).mono ?_; rintro e w9 ⟨rfl, hw9⟩; rw [hw9]; clear hw9 w9) | (go_at_call 88; refine (mine_any _ M[j].m.acts _ (Row.keep HAR.out ((Below.refl _ _).alloc (Nat.le_refl _) _)) (by have := OKm.len; omega) OKm.acts).mono ?_; rintro e w9 ⟨rfl, hw9⟩; rw [hw9, HMi.out]; clear hw9 w9) | (go_at_call 89; refine (begins_any _ Ref.kAfter _ (by unfold maxLen; have := OKm.event; omega) (by decide)).mono ?_; rintro e w9 ⟨rfl, hw9⟩; rw [hw9, HBg.out]; clear hw9 w9))
                          go_roundw
                          case rel => exact ⟨j + 1, by omega, by go_num, by rw [HFO.out, Ref.stepMove, HB.out]; rfl, hb2.alloc (by have := hb2.size; omega) _⟩
                          case measure => simp [intOf]; omega
                        · have HB : Hid (Ref.moveBad X true M[j].m = true) := by unfold Hid Ref.moveBad; rw [hTo, hMi, hAf, hBg]; rfl
                          have HMi : Hid _ := hMi
                          clear hMi
                          have HBg : Hid _ := hBg
                          clear hBg
                          go_wp2_with (first | (go_at_call 86; refine (place_any cb _ X _ _ (HC.out.keep ((Below.refl _ _).alloc (Nat.le_refl _) _)) hX).mono ?_; rintro e w9 ⟨rfl, hw9⟩; rw [hw9]; clear hw9 w9) | (go_at_call 88; refine (mine_any _ M[j].m.acts _ (Row.keep HAR.out ((Below.refl _ _).alloc (Nat.le_refl _) _)) (by have := OKm.len; omega) OKm.acts).mono ?_; rintro e w9 ⟨rfl, hw9⟩; rw [hw9, HMi.out]; clear hw9 w9) | (go_at_call 89; refine (begins_any _ Ref.kAfter _ (by unfold maxLen; have := OKm.event; omega) (by decide)).mono ?_; rintro e w9 ⟨rfl, hw9⟩; rw [hw9, HBg.out]; clear hw9 w9) | (go_at_call 87; refine (earlier_any _ _ _).mono ?_; rintro e w9 ⟨rfl, hw9⟩; rw [hw9]; clear hw9 w9))
                          go_roundw
                          case rel => exact ⟨j + 1, by omega, by go_num, by rw [HFO.out, Ref.stepMove, HB.out]; rfl, hb2.alloc (by have := hb2.size; omega) _⟩
                          case measure => simp [intOf]; omega
                      · have HB : Hid (Ref.moveBad X true M[j].m = false) := by unfold Hid Ref.moveBad; rw [hTo, hMi, hAf]; rfl
                        have HMi : Hid _ := hMi
                        clear hMi
                        go_wp2_with (first | (go_at_call 86; refine (place_any cb _ X _ _ (HC.out.keep ((Below.refl _ _).alloc (Nat.le_refl _) _)) hX).mono ?_; rintro e w9 ⟨rfl, hw9⟩; rw [hw9]; clear hw9 w9) | (go_at_call 88; refine (mine_any _ M[j].m.acts _ (Row.keep HAR.out ((Below.refl _ _).alloc (Nat.le_refl _) _)) (by have := OKm.len; omega) OKm.acts).mono ?_; rintro e w9 ⟨rfl, hw9⟩; rw [hw9, HMi.out]; clear hw9 w9))
                        go_roundw
                        case rel => exact ⟨j + 1, by omega, by go_num, by rw [HFO.out, Ref.stepMove, HB.out]; rfl, hb2.alloc (by have := hb2.size; omega) _⟩
                        case measure => simp [intOf]; omega
                    · have HB : Hid (Ref.moveBad X true M[j].m = true) := by unfold Hid Ref.moveBad; rw [hTo, hMi]; rfl
                      have HMi : Hid _ := hMi
                      clear hMi
                      go_wp2_with (first | (go_at_call 86; refine (place_any cb _ X _ _ (HC.out.keep ((Below.refl _ _).alloc (Nat.le_refl _) _)) hX).mono ?_; rintro e w9 ⟨rfl, hw9⟩; rw [hw9]; clear hw9 w9) | (go_at_call 88; refine (mine_any _ M[j].m.acts _ (Row.keep HAR.out ((Below.refl _ _).alloc (Nat.le_refl _) _)) (by have := OKm.len; omega) OKm.acts).mono ?_; rintro e w9 ⟨rfl, hw9⟩; rw [hw9, HMi.out]; clear hw9 w9) | (go_at_call 87; refine (earlier_any _ _ _).mono ?_; rintro e w9 ⟨rfl, hw9⟩; rw [hw9]; clear hw9 w9))
                      go_roundw
                      case rel => exact ⟨j + 1, by omega, by go_num, by rw [HFO.out, Ref.stepMove, HB.out]; rfl, hb2.alloc (by have := hb2.size; omega) _⟩
                      case measure => simp [intOf]; omega
              · obtain rfl : j = M.length := by omega
                rw [List.take_length]
                have HST3 : Hid (Ref.namedTo X T (k + 1) = Ref.stepEnds T (M.foldl (fun a x => Ref.stepMove X T a x.m) A1) X[k].s) := by
                  unfold Hid; rw [HST2.out, ← HMM.out, List.foldl_map]
                generalize M.foldl (fun a x => Ref.stepMove X T a x.m) A1 = A2 at *
                have x6' : wr.cell? ⟨wo.heap.size, 6, none⟩ = some (.slice X[k].vm.a M.length X[k].vm.c) := by rw [hb2.cell (p := ⟨wo.heap.size, 6, none⟩) hlt1]; exact x6
                have x7' : wr.cell? ⟨wo.heap.size, 7, none⟩ = some (.slice X[k].ve.a X[k].ve.n X[k].ve.c) := by rw [hb2.cell (p := ⟨wo.heap.size, 7, none⟩) hlt1]; exact x7
                have x8' : wr.cell? ⟨wo.heap.size, 8, none⟩ = some (.slice X[k].vl.a X[k].vl.n X[k].vl.c) := by rw [hb2.cell (p := ⟨wo.heap.size, 8, none⟩) hlt1]; exact x8
                have x9' : wr.cell? ⟨wo.heap.size, 9, none⟩ = some (.int .i64 X[k].s.has0) := by rw [hb2.cell (p := ⟨wo.heap.size, 9, none⟩) hlt1]; exact x9
                have x10' : wr.cell? ⟨wo.heap.size, 10, none⟩ = some (.int .i64 X[k].s.has1) := by rw [hb2.cell (p := ⟨wo.heap.size, 10, none⟩) hlt1]; exact x10
                clear x6 x7 x8 x9 x10 HST2 B0
                cases T
                · go_wp2_with fail
                  refine (mine_any _ X[k].s.enter _ (Row.keep D.enter HB0.out) (by have := D.lenE; omega) D.okE).mono ?_
                  rintro e w9 ⟨rfl, hw9⟩
                  rw [hw9]
                  clear hw9 w9
                  go_wp2_with fail
                  refine (mine_any _ X[k].s.leave _ (Row.keep D.leave HB0.out) (by have := D.lenL; omega) D.okL).mono ?_
                  rintro e w9 ⟨rfl, hw9⟩
                  rw [hw9]
                  clear hw9 w9
                  go_wp2
                  go_roundg (X.length - (k + 1))
                  case measure => omega
                  case rel => exact ⟨k + 1, rfl, by omega, by go_num, by rw [HST3.out, Ref.stepEnds]; rfl, HB0.out⟩
                · cases hE : Ref.mine X[k].s.enter
                  · cases hL : Ref.mine X[k].s.leave
                    · have HE : Hid _ := hE
                      clear hE
                      have HL : Hid _ := hL
                      clear hL
                      go_wp2_with fail
                      refine (mine_any _ X[k].s.enter _ (Row.keep D.enter HB0.out) (by have := D.lenE; omega) D.okE).mono ?_
                      rintro e w9 ⟨rfl, hw9⟩
                      rw [hw9, HE.out]
                      clear hw9 w9
                      go_wp2_with fail
                      refine (mine_any _ X[k].s.leave _ (Row.keep D.leave HB0.out) (by have := D.lenL; omega) D.okL).mono ?_
                      rintro e w9 ⟨rfl, hw9⟩
                      rw [hw9, HL.out]
                      clear hw9 w9
                      go_wp2
                      go_roundg (X.length - (k + 1))
                      case measure => omega
                      case rel => exact ⟨k + 1, rfl, by omega, by go_num, by rw [HST3.out, Ref.stepEnds, HE.out, HL.out]; rfl, HB0.out⟩
                    · have HE : Hid _ := hE
                      clear hE
                      have HL : Hid _ := hL
                      clear hL
                      go_wp2_with fail
                      refine (mine_any _ X[k].s.enter _ (Row.keep D.enter HB0.out) (by have := D.lenE; omega) D.okE).mono ?_
                      rintro e w9 ⟨rfl, hw9⟩
                      rw [hw9, HE.out]
                      clear hw9 w9
                      go_wp2_with fail
                      refine (mine_any _ X[k].s.leave _ (Row.keep D.leave HB0.out) (by have := D.lenL; omega) D.okL).mono ?_
                      rintro e w9 ⟨rfl, hw9⟩
                      rw [hw9, HL.out]
                      clear hw9 w9
                      go_wp2_with (go_at_call 87; refine (earlier_any _ _ _).mono ?_; rintro e w9 ⟨rfl, hw9⟩; rw [hw9]; clear hw9 w9)
                      go_roundg (X.length - (k + 1))
                      case measure => omega
                      case rel => exact ⟨k + 1, rfl, by omega, by go_num, by rw [HST3.out, Ref.stepEnds, HE.out, HL.out]; rfl, HB0.out⟩
                  · cases hL : Ref.mine X[k].s.leave
                    · have HE : Hid _ := hE
                      clear hE
                      have HL : Hid _ := hL
                      clear hL
                      go_wp2_with fail
                      refine (mine_any _ X[k].s.enter _ (Row.keep D.enter HB0.out) (by have := D.lenE; omega) D.okE).mono ?_
                      rintro e w9 ⟨rfl, hw9⟩
                      rw [hw9, HE.out]
                      clear hw9 w9
                      go_wp2_with fail
                      refine (mine_any _ X[k].s.leave _ (Row.keep D.leave HB0.out) (by have := D.lenL; omega) D.okL).mono ?_
                      rintro e w9 ⟨rfl, hw9⟩
                      rw [hw9, HL.out]
                      clear hw9 w9
                      go_wp2_with (go_at_call 87; refine (earlier_any _ _ _).mono ?_; rintro e w9 ⟨rfl, hw9⟩; rw [hw9]; clear hw9 w9)
                      go_roundg (X.length - (k + 1))
                      case measure => omega
                      case rel => exact ⟨k + 1, rfl, by omega, by go_num, by rw [HST3.out, Ref.stepEnds, HE.out, HL.out]; rfl, HB0.out⟩
                    · have HE : Hid _ := hE
                      clear hE
                      have HL : Hid _ := hL
                      clear hL
                      go_wp2_with fail
                      refine (mine_any _ X[k].s.enter _ (Row.keep D.enter HB0.out) (by have := D.lenE; omega) D.okE).mono ?_
                      rintro e w9 ⟨rfl, hw9⟩
                      rw [hw9, HE.out]
                      clear hw9 w9
                      go_wp2_with fail
                      refine (mine_any _ X[k].s.leave _ (Row.keep D.leave HB0.out) (by have := D.lenL; omega) D.okL).mono ?_
                      rintro e w9 ⟨rfl, hw9⟩
                      rw [hw9, HL.out]
                      clear hw9 w9
                      go_wp2_with (go_at_call 87; refine (earlier_any _ _ _).mono ?_; rintro e w9 ⟨rfl, hw9⟩; rw [hw9]; clear hw9 w9)
                      go_roundg (X.length - (k + 1))
                      case measure => omega
                      case rel => exact ⟨k + 1, rfl, by omega, by go_num, by rw [HST3.out, Ref.stepEnds, HE.out, HL.out]; rfl, HB0.out⟩
        · obtain rfl : k = X.length := by omega
          have hcc' : wr.cell? ⟨cb, 0, none⟩ = some (.slice sa X.length sc) := by rw [hbel.cell (p := ⟨cb, 0, none⟩) hcb]; exact hcc
          go_wp2
          go_ret
          exact ⟨by rw [HNM.out]; rfl, hbel⟩
end Go.Proofs.YtegmoddppafkfaaGreatDoor
namespace Go.Proofs.YtegmoddppafkfaaGreatDoor
open Go.RowKit

namespace Ref
def emb (s : State) : SV := ⟨s, Sl.nil, Sl.nil, Sl.nil⟩
def st0 : State := ⟨ByteArray.empty, ByteArray.empty, false, 0, 0, 0, [], [], [], 0, 0⟩
/-- The last state above that is one less deep, if nothing less deep stands between. -/
def upAux (S : List State) (d : Int) : Nat → Int
  | 0 => -1
  | k + 1 => if (S.getD k st0).depth = d - 1 then (k : Int) else if (S.getD k st0).depth < d - 1 then -1 else upAux S d k
def upOf (S : List State) (d : Int) : Int := if 0 < d then upAux S d S.length else -1
def newState (x : Line) (up d : Int) : State := ⟨x.word, x.name, x.deep, up, d, x.sline, [], [], [], 0, 0⟩
def turn (S : List State) (k : Nat) (f : State → State) : List State := S.set k (f (S.getD k st0))
/-- One line: the states behind it; none: it may not stand there. -/
def treeStep (S : List State) (i : Nat) (x : Line) (d : Int) : Option (List State) :=
  if 0 < d ∧ upOf S d < 0 then none
  else if x.kind = 115 then
    if fits (S.map emb) (emb (newState x (upOf S d) d)) then some (S ++ [newState x (upOf S d) d]) else none
  else if upOf S d < 0 then none
  else if (S.getD (upOf S d).toNat st0).word.toList == cHistory then none
  else if x.kind = 109 then
    if (S.getD (upOf S d).toNat st0).word.toList == cFinal then none
    else some (turn S (upOf S d).toNat fun p => { p with moves := p.moves ++ [x.m] })
  else if x.kind = 101 then
    if 0 < (S.getD (upOf S d).toNat st0).has0 then none
    else some (turn S (upOf S d).toNat fun p => { p with has0 := i + 1, enter := x.acts })
  else if x.kind = 108 then
    if 0 < (S.getD (upOf S d).toNat st0).has1 then none
    else some (turn S (upOf S d).toNat fun p => { p with has1 := i + 1, leave := x.acts })
  else some S
/-- The states behind the first i lines; none: one of them may not stand where it stands. -/
def treeTo (A : List (Line × Int)) : Nat → Option (List State)
  | 0 => some []
  | i + 1 => match treeTo A i with
    | none => none
    | some S => match A[i]? with
      | none => some S
      | some (x, d) => treeStep S i x d
/-- The first parallel state without regions: its line. -/
def parTo (S : List State) : Nat → Option Int
  | 0 => none
  | k + 1 => match parTo S k with
    | some l => some l
    | none => if ((S.getD k st0).word.toList == cParallel) && (regions (S.map emb) k).isEmpty then some (S.getD k st0).line else none
theorem parTo_some {S : List State} {i : Nat} {l : Int} (h : parTo S i = some l) : ∀ j, i ≤ j → parTo S j = some l
  | 0, hj => by rw [Nat.le_zero.1 hj] at h; exact h
  | j + 1, hj => by
    by_cases e : i = j + 1
    · rw [← e]; exact h
    · rw [parTo, parTo_some h j (by omega)]
theorem regTo_emb (X : List SV) (k : Int) : ∀ i, regTo X k i = regTo ((X.map (·.s)).map emb) k i
  | 0 => rfl
  | i + 1 => by
    rw [regTo, regTo, regTo_emb X k i]
    congr 1
    simp only [List.getElem?_map]
    cases X[i]? <;> rfl
theorem regions_emb (X : List SV) (k : Int) : regions X k = regions ((X.map (·.s)).map emb) k := by
  unfold regions
  rw [regTo_emb]
  simp
theorem fits_emb (X : List SV) (x : SV) : fits X x = fits ((X.map (·.s)).map emb) (emb x.s) := by
  unfold fits noneUp upAt
  simp only [List.length_map, List.all_map, emb]
  have e : ∀ k : Nat, ((X.map (·.s)).map emb).getD k ⟨⟨ByteArray.empty, ByteArray.empty, false, 0, 0, 0, [], [], [], 0, 0⟩, Sl.nil, Sl.nil, Sl.nil⟩ = emb ((X.getD k ⟨⟨ByteArray.empty, ByteArray.empty, false, 0, 0, 0, [], [], [], 0, 0⟩, Sl.nil, Sl.nil, Sl.nil⟩).s) := by
    intro k
    simp only [List.getD_eq_getElem?_getD, List.getElem?_map]
    cases X[k]? <;> rfl
  rw [e]
  rfl
/-- A line as it lies. -/
structure LV where
  L : Line
  vm : Sl
  vd : Sl
def lvCells (x : LV) : List Value := lineCells x.L (.slice x.vm.a x.vm.n x.vm.c) (.slice x.vd.a x.vd.n x.vd.c)
end Ref
/-- What a line holds lies in memory, and is such as a chart may have it. -/
structure LineOK (w : World) (x : Ref.LV) : Prop where
  rowM : ActRow w x.vm.v x.L.m.acts
  rowD : ActRow w x.vd.v x.L.acts
  okM : MoveOK x.L.m
  okD : ∀ a ∈ x.L.acts, Ref.ActOK a
  lenD : x.L.acts.length ≤ 1048576
  name : x.L.name.size ≤ 1073741824
def intCell (n : Nat) : List Value := [.int .i64 n]
/-- What tree answers: at a fault its line; else the chart, which lies whole behind the call. -/
def TreePost (A : List (Ref.LV × Nat)) (w : World) (e : Ending) (w' : World) : Prop := Below w.heap.size w w' ∧ ∃ cb,
  match Ref.treeTo (A.map fun p => (p.1.L, (p.2 : Int))) A.length with
  | none => ∃ i : Nat, i < A.length ∧ (Ref.treeTo (A.map fun p => (p.1.L, (p.2 : Int))) i).isSome = true ∧ Ref.treeTo (A.map fun p => (p.1.L, (p.2 : Int))) (i + 1) = none ∧ e = .returned (.tuple #[.pointer (some ⟨cb, 0, none⟩), .int .i64 (i + 1)])
  | some S => e = .returned (.tuple #[.pointer (some ⟨cb, 0, none⟩), .int .i64 ((Ref.parTo S S.length).getD 0)]) ∧ ∃ sv X, X.map (·.s) = S ∧ ChartAt w' cb sv X ∧ ∀ x ∈ X, Deep w' x
end Go.Proofs.YtegmoddppafkfaaGreatDoor
