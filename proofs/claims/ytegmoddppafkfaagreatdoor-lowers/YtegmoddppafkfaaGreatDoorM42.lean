/-
  MY OWN TEXT.
-/
import Derived.Test.YtegmoddppafkfaaGreatDoorM17
import Derived.Test.YtegmoddppafkfaaGreatDoorM38
import Derived.Test.YtegmoddppafkfaaGreatDoorM40
import Derived.Test.YtegmoddppafkfaaGreatDoorM41
import Derived.Deep.AppendLies
import Derived.Deep.CutBlock
namespace Go.Proofs.YtegmoddppafkfaaGreatDoor
open Go.RowKit
open Go.PlainAid (bt get_bt bt_nonneg bt_le bt_end)

theorem row_news {w : World} {B : Nat} {e : TypeId} {n g cap m : Nat} {xs : List Value} (h : w.ownsRow B e n (.slice (some ⟨g, 0, none⟩) m cap) m xs) : ∀ j u, xs[j]? = some u → w.cell? ((⟨g, 0, none⟩ : Addr).add j) = some u := by
  intro j u hj
  have hadd : (⟨g, 0, none⟩ : Addr).add j = ⟨g, j, none⟩ := by unfold Addr.add; split <;> simp_all
  have hlt : j < m * n := by rw [← h.1]; exact (List.getElem?_eq_some_iff.1 hj).1
  rw [hadd, h.cellAt j hlt]; exact hj
theorem oneCell_acts (A : List Ref.Act) : ∀ u ∈ A.flatMap Ref.actCells, u.oneCell' = true := by
  intro u hu
  obtain ⟨a, _, hu⟩ := List.mem_flatMap.1 hu
  exact oneCell_act a u hu

def LowPost (s : ByteArray) (w : World) (e : Ending) (w' : World) : Prop := Below w.heap.size w w' ∧
  match Ref.read s with
  | .fault c l => e = .returned (.tuple #[.string ByteArray.empty, .int .i64 c, .int .i64 l])
  | .chart S => e = .returned (.tuple #[.string (Ref.lowTo S S.length), .int .i64 0, .int .i64 0])

set_option maxHeartbeats 6400000 in
set_option maxRecDepth 100000 in
theorem lowered_any (s : ByteArray) (w : World) (hs : s.size ≤ 1073741824) :
    Calls Tryz.prog 37 #[.string s] w (LowPost s w) := by
  go_enter Tryz.func37, Tryz.ntmps37
  go_wp2_with fail
  refine (read_any s w hs).mono ?_
  rintro e w1 ⟨hb1, hpost⟩
  cases hR : Ref.read s with
  | fault c l =>
    rw [hR] at hpost
    subst hpost
    have hc := Ref.read_fault hR
    have hc' : (c != 0) = true := by simpa using hc
    have HR : Hid _ := hR
    clear hR hc
    go_wp2
    go_ret3
    unfold LowPost
    rw [HR.out]
    exact ⟨hb1, rfl⟩
  | chart S =>
    rw [hR] at hpost
    obtain ⟨cb, sv, X, rfl, hcbl, hXS, hC, hD⟩ := hpost
    obtain ⟨hSl, hSm⟩ := Ref.read_ok hR
    have HR : Hid _ := hR
    have HXS : Hid _ := hXS
    have HSM : Hid _ := hSm
    have hXl : X.length ≤ 1501 := by rw [← hXS, List.length_map] at hSl; exact hSl
    have HXL : Hid (S.length = X.length) := by unfold Hid; rw [← hXS, List.length_map]
    clear hR hXS hSm hSl
    obtain ⟨sa, sc, hsv⟩ := hC.row.form
    subst hsv
    go_wp2
    go_loopg [8, 9] X.length (fun q t k wr => ∃ n : Nat, q = X.length - n ∧ n ≤ X.length ∧ k = .int .i64 n ∧ t = .string (Ref.lowTo S n) ∧ Below w1.heap.size w1 wr)
    case atStart => exact ⟨0, rfl, Nat.zero_le _, rfl, rfl, Below.refl _ _⟩
    case round =>
      obtain ⟨n, hq, hn, rfl, rfl, hbr⟩ := hrel
      obtain ⟨wo, hwo⟩ : ∃ y : World, y = wr := ⟨wr, rfl⟩
      subst hwo
      have hC2 := hC.keep hbr
      have hcc := hC2.cell
      have hcbr : cb < wo.heap.size := Nat.lt_of_lt_of_le hcbl hbr.size
      have hts : (Ref.lowTo S n).size ≤ 1000000000000000 := Nat.le_trans (Ref.lowTo_small HSM.out n) (Nat.le_trans (Nat.mul_le_mul_right _ (Nat.le_trans hn hXl)) (by decide))
      by_cases hlt : n < X.length
      · obtain ⟨g, gc, hv⟩ := hC2.row.pos (by omega)
        simp only [Value.slice.injEq, true_and] at hv
        obtain ⟨rfl, rfl⟩ := hv
        have hgw := (World.ownsRow.lt hC2.row g rfl).2
        have hrng := Row.range (n := 11) (fun _ => rfl) hC2.row hlt
        have hDx := (hD X[n] (List.getElem_mem hlt)).keep hbr
        have HST : Hid (Ref.lowTo S (n + 1) = Ref.stText (Ref.lowTo S n) X[n].s) := by
          unfold Hid; rw [Ref.lowTo, ← HXS.out, List.getElem?_map, List.getElem?_eq_getElem hlt]; rfl
        obtain ⟨hSx, hMx⟩ := HSM.out X[n].s (by rw [← HXS.out]; exact List.mem_map_of_mem (List.getElem_mem hlt))
        generalize X[n] = x at *
        generalize Ref.lowTo S n = t at *
        clear hC2 HSM HXS
        go_upto_region 9 with (first
          | (refine wpList_load_mid rfl 118 (.tmp 46) rfl g (n * 11) rfl _ _ hrng Tryz.underlying118 rfl Tryz.sizeState ?_)
          | (refine wpList_store_new rfl 118 (.tmp 10) (.tmp 47) rfl 118 _ _ rfl rfl Tryz.sizeState rfl rfl ?_))
        obtain ⟨w2, hw2⟩ : ∃ y, y = wo.alloc (.cells (Ref.svCells x).toArray 118) := ⟨_, rfl⟩
        rw [← hw2]
        obtain ⟨z0, z1, z2⟩ := one_block hw2
        have e0 := z1 0
        have e1 := z1 1
        have e2 := z1 2
        have e4 := z1 4
        have e6 := z1 6
        have e7 := z1 7
        have e8 := z1 8
        simp only [Ref.svCells, List.getElem?_toArray, List.getElem?_cons_succ, List.getElem?_cons_zero] at e0 e1 e2 e4 e6 e7 e8
        have hw2l : wo.heap.size < w2.heap.size := by omega
        have hD2 := hDx.keep z2
        have hb2 : Below w1.heap.size w1 w2 := hbr.trans (z2.mono hbr.size)
        clear hw2 z0 z1 z2 hrng hcc hDx hbr
        have hd0 := hSx.dep0
        have hd5 := hSx.dep
        have hwd := hSx.word
        have hnm := hSx.name
        go_upto_block 2 with fail
        go_cut [11] (fun p wx => p = .string (Ref.pad x.s.depth.toNat) ∧ wx = w2)
        case first =>
          go_wp2_with fail
          go_loopg [11, 12] x.s.depth.toNat (fun q p i wx => wx = w2 ∧ ∃ j : Nat, j ≤ x.s.depth.toNat ∧ q = x.s.depth.toNat - j ∧ i = .int .i64 j ∧ p = .string (Ref.pad j))
          case atStart => exact ⟨rfl, 0, Nat.zero_le _, rfl, rfl, rfl⟩
          case round =>
            obtain ⟨hwx, j, hj, hqj, rfl, rfl⟩ := hrel
            subst hwx
            have hps := Ref.pad_size j
            by_cases hjd : j < x.s.depth.toNat
            · have hjd' : (j : Int) < x.s.depth := by omega
              go_wp2
              go_roundg (x.s.depth.toNat - (j + 1))
              case measure => omega
              case rel => exact ⟨rfl, j + 1, by omega, rfl, by go_num, rfl⟩
            · have hjd' : ¬ (j : Int) < x.s.depth := by omega
              obtain rfl : j = x.s.depth.toNat := by omega
              go_wp2
              go_meet
              case rel => exact ⟨rfl, rfl⟩
        case rest =>
          obtain ⟨rfl, hwc⟩ := hcut
          rw [hwc]
          clear hwc wc
          have hp5 := Ref.pad_small hSx
          go_upto_if 67 with fail
          go_cut [8] (fun tt wx => tt = .string (Ref.head1 t x.s) ∧ wx = w2)
          case first =>
            cases hdp : x.s.deep
            · rw [hdp] at e2
              have HD : Hid _ := hdp
              clear hdp
              go_wp2
              go_meet
              case rel => exact ⟨by unfold Ref.head1; rw [HD.out]; rfl, rfl⟩
            · rw [hdp] at e2
              have HD : Hid _ := hdp
              clear hdp
              go_wp2
              go_meet
              case rel => exact ⟨by unfold Ref.head1; rw [HD.out]; rfl, rfl⟩
          case rest =>
            obtain ⟨rfl, hwc⟩ := hcut
            rw [hwc]
            clear hwc wc
            have hh1 := Ref.head1_small (t := t) hSx
            obtain ⟨iA, hiA, hzA0, hzA1, hzA2⟩ := info_parts Tryz.infoAct
            have hlE := hSx.lenE
            have hlL := hSx.lenL
            have E6 : Hid _ := e6
            go_upto_region 18 with fail
            go_cut [13] (fun a wx => ∃ v : Ref.Sl, a = .slice v.a v.n v.c ∧ wx.ownsRow w2.heap.size 122 4 v.v x.s.enter.length (x.s.enter.flatMap Ref.actCells) ∧ Below w2.heap.size w2 wx)
            case first =>
              rcases hD2.enter.2 with ⟨hv, h0⟩ | ⟨ge, ce, cur, hv, hrest⟩
              · simp only [Ref.Sl.v, Value.slice.injEq] at hv
                obtain ⟨h1, h2, h3⟩ := hv
                rw [h1, h2, h3] at e7
                go_wp2
                go_meet
                case rel => exact ⟨Ref.Sl.nil, rfl, by rw [List.length_eq_zero_iff.1 h0]; exact World.ownsRow_nil _ _ _ _, Below.refl _ _⟩
              · have hrow : w2.ownsRow 0 122 4 x.ve.v x.s.enter.length (x.s.enter.flatMap Ref.actCells) := hD2.enter
                rw [hv] at hrow
                simp only [Ref.Sl.v, Value.slice.injEq] at hv
                obtain ⟨h1, h2, h3⟩ := hv
                rw [h1, h2, h3] at e7
                go_wp2_with (at_builtin; refine wpList_append_own _ rfl _ _ 115 rfl w2.heap.size 122 iA _ 4 56 Tryz.underlying115 hiA hzA0 hzA1 hzA2 rfl (by decide) (.slice none 0 0) 0 [] rfl (World.ownsRow_nil _ _ _ _) ⟨ge, 0, none⟩ x.s.enter.length ce (x.s.enter.flatMap Ref.actCells) rfl hrow.1 (row_news hrow) (oneCell_acts _) (by unfold maxLen; omega) (by omega) (Nat.le_refl _) ?_; intro v' w3 hown3 hgrow3 hnil3)
                obtain ⟨va, vn, vc, rfl⟩ := Ref.own_slice hown3
                go_meet
                case rel => exact ⟨⟨va, vn, vc⟩, rfl, by simpa [Ref.Sl.v] using hown3, (Below.refl _ _).grown hgrow3 (Nat.le_refl _) (fun k e => by cases e)⟩
            case rest =>
              obtain ⟨vi, rfl, hin, hb3⟩ := hcut
              obtain ⟨w3, hw3⟩ : ∃ y : World, y = wc := ⟨wc, rfl⟩
              subst hw3
              have hs3 := hb3.size
              rw [← hb3.cell (p := ⟨wo.heap.size, 0, none⟩) hw2l] at e0
              rw [← hb3.cell (p := ⟨wo.heap.size, 6, none⟩) hw2l] at e6
              rw [← hb3.cell (p := ⟨wo.heap.size, 8, none⟩) hw2l] at e8
              clear e1 e2 e4 e7 e0
              have hD3 := hD2.keep hb3
              go_upto_region 19 with fail
              go_cut [14] (fun a wx => ∃ v : Ref.Sl, a = .slice v.a v.n v.c ∧ wx.ownsRow w3.heap.size 122 4 v.v x.s.leave.length (x.s.leave.flatMap Ref.actCells) ∧ Below w3.heap.size w3 wx)
              case first =>
                rcases hD3.leave.2 with ⟨hv, h0⟩ | ⟨ge, ce, cur, hv, hrest⟩
                · simp only [Ref.Sl.v, Value.slice.injEq] at hv
                  obtain ⟨h1, h2, h3⟩ := hv
                  rw [h1, h2, h3] at e8
                  go_wp2
                  go_meet
                  case rel => exact ⟨Ref.Sl.nil, rfl, by rw [List.length_eq_zero_iff.1 h0]; exact World.ownsRow_nil _ _ _ _, Below.refl _ _⟩
                · have hrow : w3.ownsRow 0 122 4 x.vl.v x.s.leave.length (x.s.leave.flatMap Ref.actCells) := hD3.leave
                  rw [hv] at hrow
                  simp only [Ref.Sl.v, Value.slice.injEq] at hv
                  obtain ⟨h1, h2, h3⟩ := hv
                  rw [h1, h2, h3] at e8
                  go_wp2_with (at_builtin; refine wpList_append_own _ rfl _ _ 115 rfl w3.heap.size 122 iA _ 4 56 Tryz.underlying115 hiA hzA0 hzA1 hzA2 rfl (by decide) (.slice none 0 0) 0 [] rfl (World.ownsRow_nil _ _ _ _) ⟨ge, 0, none⟩ x.s.leave.length ce (x.s.leave.flatMap Ref.actCells) rfl hrow.1 (row_news hrow) (oneCell_acts _) (by unfold maxLen; omega) (by omega) (Nat.le_refl _) ?_; intro v' w5 hown3 hgrow3 hnil3)
                  obtain ⟨va, vn, vc, rfl⟩ := Ref.own_slice hown3
                  go_meet
                  case rel => exact ⟨⟨va, vn, vc⟩, rfl, by simpa [Ref.Sl.v] using hown3, (Below.refl _ _).grown hgrow3 (Nat.le_refl _) (fun k e => by cases e)⟩
              case rest =>
                obtain ⟨vo, rfl, hout, hb4⟩ := hcut
                obtain ⟨w4, hw4⟩ : ∃ y : World, y = wc := ⟨wc, rfl⟩
                subst hw4
                rw [← hb4.cell (p := ⟨wo.heap.size, 6, none⟩) (Nat.lt_of_lt_of_le hw2l hs3)] at e6
                have hin4 := own_keep hin hb4
                have hout4 := own_mono hout hs3
                have hap : vi.v.ownBlock = none ∨ vi.v.ownBlock ≠ vo.v.ownBlock := by
                  cases e : vi.v.ownBlock with
                  | none => exact .inl rfl
                  | some q =>
                    refine .inr fun e' => ?_
                    have h1 := (World.ownsRow.lt hin q e).2
                    have h2 := (World.ownsRow.lt hout q e'.symm).1
                    omega
                have hb24 : Below w2.heap.size w2 w4 := hb3.trans (hb4.mono hs3)
                have hD4 := hD3.keep hb4
                clear hD3 hb3 hb4 hin hout e8
                have HIN : Hid (∀ j m, x.s.moves[j]? = some m → Ref.inTo x.s (j + 1) = if m.after then Ref.inTo x.s j ++ [Ref.inAct m] else Ref.inTo x.s j) := fun j m h => by rw [Ref.inTo, h]
                have HOUT : Hid (∀ j m, x.s.moves[j]? = some m → Ref.outTo x.s (j + 1) = if m.after then Ref.outTo x.s j ++ [Ref.outAct m] else Ref.outTo x.s j) := fun j m h => by rw [Ref.outTo, h]
                obtain ⟨M, hM1, hM2, hM3⟩ := hD2.moves
                have hML : M.length = x.s.moves.length := by rw [← hM1, List.length_map]
                have hMl : M.length ≤ 4096 := by omega
                have HML : Hid _ := hML
                clear hML
                obtain ⟨ma, mc, hvm⟩ := Row.form hM2
                simp only [Ref.Sl.v, Value.slice.injEq] at hvm
                obtain ⟨hv1, hv2, hv3⟩ := hvm
                have HE6 : Hid (w2.cell? ⟨wo.heap.size, 6, none⟩ = some (.slice ma M.length mc)) := by rw [← hv1, ← hv2, ← hv3]; exact E6.out
                have hM2' : Row w2 120 6 Ref.mvCells (.slice ma M.length mc) M := by rw [← hv1, ← hv2, ← hv3]; exact hM2
                have HIK : Hid (∀ j, (∀ a ∈ Ref.inTo x.s j, Ref.ActSm a) ∧ (Ref.inTo x.s j).length ≤ 4096 + j) := Ref.inTo_ok hSx
                have HOK : Hid (∀ j, (∀ a ∈ Ref.outTo x.s j, Ref.ActSm a) ∧ (Ref.outTo x.s j).length ≤ 4096 + j) := Ref.outTo_ok hSx
                have HMG : Hid (∀ j (h : j < M.length), x.s.moves[j]? = some M[j].m) := fun j h => by rw [← hM1, List.getElem?_map, List.getElem?_eq_getElem h]; rfl
                have HMS : Hid (∀ j (h : j < M.length), Ref.MoveSm M[j].m) := fun j h => hSx.moves M[j].m (by rw [← hM1]; exact List.mem_map_of_mem (List.getElem_mem h))
                have HM3 : Hid _ := hM3
                clear hM2 hM1 hv1 hv2 hv3 e6 E6 hD4 hD2 hM3
                go_upto_block 4 with fail
                go_cut [13, 14] (fun a b wx => ∃ vi vo : Ref.Sl, a = .slice vi.a vi.n vi.c ∧ b = .slice vo.a vo.n vo.c ∧ wx.ownsRow w2.heap.size 122 4 vi.v (Ref.inTo x.s M.length).length ((Ref.inTo x.s M.length).flatMap Ref.actCells) ∧ wx.ownsRow w2.heap.size 122 4 vo.v (Ref.outTo x.s M.length).length ((Ref.outTo x.s M.length).flatMap Ref.actCells) ∧ Below w2.heap.size w2 wx)
                case first =>
                  go_wp2_with fail
                  go_loopg [13, 14, 15] M.length (fun q a b i wx => ∃ (j : Nat) (vi vo : Ref.Sl), j ≤ M.length ∧ q = M.length - j ∧ i = .int .i64 j ∧ a = .slice vi.a vi.n vi.c ∧ b = .slice vo.a vo.n vo.c ∧ wx.ownsRow w2.heap.size 122 4 vi.v (Ref.inTo x.s j).length ((Ref.inTo x.s j).flatMap Ref.actCells) ∧ wx.ownsRow w2.heap.size 122 4 vo.v (Ref.outTo x.s j).length ((Ref.outTo x.s j).flatMap Ref.actCells) ∧ (vi.v.ownBlock = none ∨ vi.v.ownBlock ≠ vo.v.ownBlock) ∧ Below w2.heap.size w2 wx)
                  case atStart => exact ⟨0, vi, vo, Nat.zero_le _, rfl, rfl, rfl, rfl, hin4, hout4, hap, hb24⟩
                  case round =>
                    clear hin4 hout4 hap
                    obtain ⟨j, vi, vo, hj, hqj, rfl, rfl, rfl, hin, hout, hap, hbx⟩ := hrel
                    have hjl' : (Ref.inTo x.s j).length ≤ 8192 := Nat.le_trans (HIK.out j).2 (by omega)
                    have hjo' : (Ref.outTo x.s j).length ≤ 8192 := Nat.le_trans (HOK.out j).2 (by omega)
                    have e6x : wr.cell? ⟨wo.heap.size, 6, none⟩ = some (.slice ma M.length mc) := (hbx.cell (p := ⟨wo.heap.size, 6, none⟩) hw2l).trans HE6.out
                    have hs2 := hbx.size
                    by_cases hjl : j < M.length
                    · obtain ⟨gm, gmc, hvp⟩ := Row.pos hM2' (by omega)
                      simp only [Value.slice.injEq, true_and] at hvp
                      obtain ⟨rfl, rfl⟩ := hvp
                      have hMr : Row wr 120 6 Ref.mvCells (.slice (some ⟨gm, 0, none⟩) M.length mc) M := Row.keep hM2' hbx
                      have hrng := Row.range (n := 6) (fun _ => rfl) hMr hjl
                      have HI : Hid _ := HIN.out j M[j].m (HMG.out j hjl)
                      have HO : Hid _ := HOUT.out j M[j].m (HMG.out j hjl)
                      clear hMr hM2' HIN HOUT HMG HMS HM3
                      generalize M[j] = y at *
                      generalize Ref.inTo x.s j = AI at *
                      generalize Ref.outTo x.s j = AO at *
                      go_upto_region 24 with (first
                        | (refine wpList_load_mid rfl 120 (.tmp 88) rfl gm (j * 6) rfl _ _ hrng Tryz.underlying120 rfl Tryz.sizeMove ?_)
                        | (refine wpList_store_new rfl 120 (.tmp 16) (.tmp 89) rfl 120 _ _ rfl rfl Tryz.sizeMove rfl rfl ?_))
                      obtain ⟨w5, hw5⟩ : ∃ y', y' = wr.alloc (.cells (Ref.mvCells y).toArray 120) := ⟨_, rfl⟩
                      rw [← hw5]
                      obtain ⟨z0, z1, z2⟩ := one_block hw5
                      have f0 := z1 0
                      have f2 := z1 2
                      have f3 := z1 3
                      simp only [Ref.mvCells, List.getElem?_toArray, List.getElem?_cons_succ, List.getElem?_cons_zero] at f0 f2 f3
                      have hw5l : wr.heap.size < w5.heap.size := by omega
                      have hin5 := own_keep hin z2
                      have hout5 := own_keep hout z2
                      have hb25 : Below w2.heap.size w2 w5 := hbx.trans (z2.mono hs2)
                      have hni : Hid (some wr.heap.size ≠ vi.v.ownBlock) := fun e => by
                        have := (World.ownsRow.lt hin _ e.symm).2; omega
                      clear hw5 z0 z1 z2 hrng hin hout hbx e6x
                      cases haf : y.m.after
                      · rw [haf] at f2
                        have HAF : Hid _ := haf
                        clear haf
                        go_wp2
                        go_roundg (M.length - (j + 1))
                        case measure => omega
                        case rel => exact ⟨j + 1, vi, vo, by omega, rfl, by go_num, rfl, rfl, by rw [HI.out, HAF.out, if_neg Bool.false_ne_true]; exact hin5, by rw [HO.out, HAF.out, if_neg Bool.false_ne_true]; exact hout5, hap, hb25⟩
                      · rw [haf] at f2
                        have HAF : Hid _ := haf
                        clear haf
                        go_upto_region 26 with (at_builtin; refine wpList_append_lies _ (by rfl) (.tmp 92) (.tmp 100) _ (by rfl) w2.heap.size 122 iA _ 4 56 Tryz.underlying115 hiA hzA0 hzA1 hzA2 rfl (by decide) (.slice vi.a vi.n vi.c) AI.length (AI.flatMap Ref.actCells) (by rfl) (World.ownsRow.alloc hin5 _) ⟨w5.heap.size, 0, none⟩ 1 1 (Ref.actCells (Ref.inAct y.m)) (by rfl) (by rfl) (World.news_of_block (cs := (Ref.actCells (Ref.inAct y.m)).toArray) (t := 122) (fr := (0, 0)) (heap_alloc_new w5 _)) (oneCell_act _) (by omega) (by unfold maxLen; omega) (by omega) (by simp; omega) (w5.heap.size + 1) (by simp) ?_; intro g7 cap7 w7 hown7 hgrow7 hat7 hlt7)
                        have b5 : Below w5.heap.size w5 (w5.alloc (.cells (Ref.actCells (Ref.inAct y.m)).toArray 122)) := (Below.refl _ _).alloc (Nat.le_refl _) _
                        have hs7 : w5.heap.size + 1 ≤ w7.heap.size := by have := hgrow7.size; simpa using this
                        have hout7 := own_apart (own_keep hout5 b5) hgrow7 (by rcases hap with h | h; exact .inl h; exact .inr (.inr (Ne.symm h)))
                        have f07 : w7.cell? ⟨wr.heap.size, 0, none⟩ = some (.string y.m.event) := (hgrow7.cell_far ⟨wr.heap.size, 0, none⟩ (by simp; omega) hni.out).trans ((b5.cell (p := ⟨wr.heap.size, 0, none⟩) hw5l).trans f0)
                        have hb27 : Below w2.heap.size w2 w7 := (hb25.alloc (by omega) _).grown hgrow7 (by simp; omega) (fun q e => (World.ownsRow.lt hin5 q e).1)
                        have hap7 : vo.v.ownBlock = none ∨ some g7 ≠ vo.v.ownBlock := by
                          cases e : vo.v.ownBlock with
                          | none => exact .inl rfl
                          | some q =>
                            refine .inr fun e' => ?_
                            cases e'
                            have h1 := (World.ownsRow.lt hout5 g7 e).2
                            rcases hat7 with h | h
                            · rcases hap with h' | h'
                              · rw [show vi.v.ownBlock = some g7 from h] at h'; cases h'
                              · exact h' ((show vi.v.ownBlock = some g7 from h).trans e.symm)
                            · omega
                        clear hgrow7 b5 f0 f2 f3 hat7 hin5 hout5 hb25 hni
                        go_wp2_with (at_builtin; refine wpList_append_lies _ (by rfl) (.tmp 102) (.tmp 106) _ (by rfl) w2.heap.size 122 iA _ 4 56 Tryz.underlying115 hiA hzA0 hzA1 hzA2 rfl (by decide) (.slice vo.a vo.n vo.c) AO.length (AO.flatMap Ref.actCells) (by rfl) (World.ownsRow.alloc hout7 _) ⟨w7.heap.size, 0, none⟩ 1 1 (Ref.actCells (Ref.outAct y.m)) (by rfl) (by rfl) (World.news_of_block (cs := (Ref.actCells (Ref.outAct y.m)).toArray) (t := 122) (fr := (0, 0)) (heap_alloc_new w7 _)) (oneCell_act _) (by omega) (by unfold maxLen; omega) (by omega) (by simp; omega) (w7.heap.size + 1) (by simp) ?_; intro g8 cap8 w8 hown8 hgrow8 hat8 hlt8)
                        go_roundg (M.length - (j + 1))
                        case measure => omega
                        case rel =>
                          have b7 : Below w7.heap.size w7 (w7.alloc (.cells (Ref.actCells (Ref.outAct y.m)).toArray 122)) := (Below.refl _ _).alloc (Nat.le_refl _) _
                          have hin8 := own_apart (own_keep hown7 b7) hgrow8 (by rcases hap7 with h | h; exact .inl h; exact .inr (.inr h))
                          refine ⟨j + 1, ⟨some ⟨g7, 0, none⟩, AI.length + 1, cap7⟩, ⟨some ⟨g8, 0, none⟩, AO.length + 1, cap8⟩, by omega, rfl, by go_num, rfl, rfl, ?_, ?_, ?_, (hb27.alloc (by omega) _).grown hgrow8 (by simp; omega) (fun q e => (World.ownsRow.lt hout7 q e).1)⟩
                          · rw [HI.out, HAF.out, if_pos rfl, List.length_append, List.flatMap_append]
                            have e : [Ref.inAct y.m].flatMap Ref.actCells = Ref.actCells (Ref.inAct y.m) := by simp
                            rw [e]; exact hin8
                          · rw [HO.out, HAF.out, if_pos rfl, List.length_append, List.flatMap_append]
                            have e : [Ref.outAct y.m].flatMap Ref.actCells = Ref.actCells (Ref.outAct y.m) := by simp
                            rw [e]; exact hown8
                          · refine .inr fun e => ?_
                            simp only [Ref.Sl.v, Value.ownBlock, Option.some.injEq] at e
                            rcases hat8 with h | h
                            · rcases hap7 with h' | h'
                              · rw [show vo.v.ownBlock = some g8 from h] at h'; cases h'
                              · exact h' ((congrArg some e).trans (show vo.v.ownBlock = some g8 from h).symm)
                            · omega
                    · obtain rfl : j = M.length := by omega
                      go_wp2
                      go_meet
                      case rel => exact ⟨vi, vo, rfl, rfl, hin, hout, hbx⟩
                case rest =>
                  obtain ⟨vi', vo', rfl, rfl, hin, hout, hb5⟩ := hcut
                  obtain ⟨w5, hw5⟩ : ∃ y : World, y = wc := ⟨wc, rfl⟩
                  subst hw5
                  have hi8 : (Ref.inTo x.s M.length).length ≤ 8192 := Nat.le_trans (HIK.out M.length).2 (by omega)
                  have ho8 : (Ref.outTo x.s M.length).length ≤ 8192 := Nat.le_trans (HOK.out M.length).2 (by omega)
                  have hiw := Ref.written_small (HIK.out M.length).1 hi8
                  have how := Ref.written_small (HOK.out M.length).1 ho8
                  have HI1 : Hid (∀ a ∈ Ref.inTo x.s M.length, Ref.ActOK a) := fun a ha => ((HIK.out M.length).1 a ha).ok
                  have HO1 : Hid (∀ a ∈ Ref.outTo x.s M.length, Ref.ActOK a) := fun a ha => ((HOK.out M.length).1 a ha).ok
                  clear hin4 hout4 hap HIN HOUT
                  go_wp2_with fail
                  refine (written_any _ (Ref.inTo x.s M.length) _ (own_mono hin (Nat.zero_le _)) (by omega) HI1.out).mono ?_
                  rintro e w6 ⟨rfl, hb6⟩
                  have hout6 := own_keep hout hb6
                  have hb26 : Below w2.heap.size w2 w6 := hb5.trans (hb6.mono hb5.size)
                  clear hin hout hb6 hb5
                  go_wp2_with fail
                  refine (written_any _ (Ref.outTo x.s M.length) _ (own_mono hout6 (Nat.zero_le _)) (by omega) HO1.out).mono ?_
                  rintro e w7 ⟨rfl, hb7⟩
                  have hb27 : Below w2.heap.size w2 w7 := hb26.trans (hb7.mono hb26.size)
                  clear hout6 hb7 hb26
                  have H2 : Hid (Ref.st2 t x.s = Ref.ends (Ref.head1 t x.s ++ Ref.bNl) (Ref.pad x.s.depth.toNat) Ref.bEnter (Ref.written (Ref.inTo x.s M.length))) := by unfold Hid; rw [HML.out]; rfl
                  have H3 : Hid (Ref.st3 t x.s = Ref.ends (Ref.st2 t x.s) (Ref.pad x.s.depth.toNat) Ref.bLeave (Ref.written (Ref.outTo x.s M.length))) := by unfold Hid; rw [HML.out]; rfl
                  generalize Ref.written (Ref.inTo x.s M.length) = ai at *
                  generalize Ref.written (Ref.outTo x.s M.length) = ao at *
                  go_upto_if 113 with fail
                  go_cut [8] (fun tt wx => tt = .string (Ref.st2 t x.s) ∧ wx = w7)
                  case first =>
                    cases hae : ai.toList.isEmpty
                    · have HA : Hid _ := hae
                      go_wp2
                      go_meet
                      case rel => exact ⟨by rw [H2.out]; unfold Ref.ends; rw [HA.out]; rfl, rfl⟩
                    · have HA : Hid _ := hae
                      go_wp2
                      go_meet
                      case rel => exact ⟨by rw [H2.out]; unfold Ref.ends; rw [HA.out]; rfl, rfl⟩
                  case rest =>
                    obtain ⟨rfl, hwc⟩ := hcut
                    rw [hwc]
                    clear hwc wc
                    have hz2 := Ref.st2_small (t := t) hSx hMx
                    go_upto_if 122 with fail
                    go_cut [8] (fun tt wx => tt = .string (Ref.st3 t x.s) ∧ wx = w7)
                    case first =>
                      cases hae : ao.toList.isEmpty
                      · have HA : Hid _ := hae
                        go_wp2
                        go_meet
                        case rel => exact ⟨by rw [H3.out]; unfold Ref.ends; rw [HA.out]; rfl, rfl⟩
                      · have HA : Hid _ := hae
                        go_wp2
                        go_meet
                        case rel => exact ⟨by rw [H3.out]; unfold Ref.ends; rw [HA.out]; rfl, rfl⟩
                    case rest =>
                      obtain ⟨rfl, hwc⟩ := hcut
                      rw [hwc]
                      clear hwc wc
                      have hz3 := Ref.st3_small (t := t) hSx hMx
                      have HT : Hid (Ref.lowTo S (n + 1) = Ref.mvTo (Ref.pad x.s.depth.toNat) (Ref.st3 t x.s) x.s.moves M.length) := by unfold Hid; rw [HST.out, Ref.stText, HML.out]
                      have HTS : Hid (∀ j, (Ref.mvTo (Ref.pad x.s.depth.toNat) (Ref.st3 t x.s) x.s.moves j).size ≤ (Ref.st3 t x.s).size + j * 100000000) := Ref.mvTo_small hp5 hSx.moves
                      have HMV : Hid (∀ j m, x.s.moves[j]? = some m → Ref.mvTo (Ref.pad x.s.depth.toNat) (Ref.st3 t x.s) x.s.moves (j + 1) = Ref.mvLine (Ref.pad x.s.depth.toNat) (Ref.mvTo (Ref.pad x.s.depth.toNat) (Ref.st3 t x.s) x.s.moves j) m) := fun j m h => by rw [Ref.mvTo, h]
                      clear H2 H3 HST HIK HOK HI1 HO1 hiw how hz2
                      generalize Ref.st3 t x.s = t3 at *
                      go_wp2_with fail
                      go_loopg [8, 19] M.length (fun q tt i wx => ∃ j : Nat, j ≤ M.length ∧ q = M.length - j ∧ i = .int .i64 j ∧ tt = .string (Ref.mvTo (Ref.pad x.s.depth.toNat) t3 x.s.moves j) ∧ Below w2.heap.size w2 wx)
                      case atStart => exact ⟨0, Nat.zero_le _, rfl, rfl, rfl, hb27⟩
                      case round =>
                        clear hb27
                        obtain ⟨j, hj, hqj, rfl, rfl, hbx⟩ := hrel
                        have e6x : wr.cell? ⟨wo.heap.size, 6, none⟩ = some (.slice ma M.length mc) := (hbx.cell (p := ⟨wo.heap.size, 6, none⟩) hw2l).trans HE6.out
                        have hs2 := hbx.size
                        have htj : (Ref.mvTo (Ref.pad x.s.depth.toNat) t3 x.s.moves j).size ≤ 2000000000000000 := Nat.le_trans (HTS.out j) (by omega)
                        by_cases hjl : j < M.length
                        · obtain ⟨gm, gmc, hvp⟩ := Row.pos hM2' (by omega)
                          simp only [Value.slice.injEq, true_and] at hvp
                          obtain ⟨rfl, rfl⟩ := hvp
                          have hMr : Row wr 120 6 Ref.mvCells (.slice (some ⟨gm, 0, none⟩) M.length mc) M := Row.keep hM2' hbx
                          have hrng := Row.range (n := 6) (fun _ => rfl) hMr hjl
                          have HV : Hid _ := HMV.out j M[j].m (HMG.out j hjl)
                          have hMs := HMS.out j hjl
                          have hAc : ActRow wr M[j].v.v M[j].m.acts := Row.keep (HM3.out M[j] (List.getElem_mem hjl)) hbx
                          clear hMr hM2' HMV HMG HMS HM3 HTS
                          generalize M[j] = y at *
                          generalize Ref.mvTo (Ref.pad x.s.depth.toNat) t3 x.s.moves j = tj at *
                          have hev := hMs.event
                          have hds := hMs.dst
                          have hac := hMs.len
                          have hwr := Ref.written_small hMs.acts hMs.len
                          go_upto_region 37 with (first
                            | (refine wpList_load_mid rfl 120 (.tmp 140) rfl gm (j * 6) rfl _ _ hrng Tryz.underlying120 rfl Tryz.sizeMove ?_)
                            | (refine wpList_store_new rfl 120 (.tmp 20) (.tmp 141) rfl 120 _ _ rfl rfl Tryz.sizeMove rfl rfl ?_))
                          obtain ⟨w5, hw5⟩ : ∃ y', y' = wr.alloc (.cells (Ref.mvCells y).toArray 120) := ⟨_, rfl⟩
                          rw [← hw5]
                          obtain ⟨z0, z1, z2⟩ := one_block hw5
                          have f0 := z1 0
                          have f1 := z1 1
                          have f4 := z1 4
                          simp only [Ref.mvCells, List.getElem?_toArray, List.getElem?_cons_succ, List.getElem?_cons_zero] at f0 f1 f4
                          have hAc5 : ActRow w5 (.slice y.v.a y.v.n y.v.c) y.m.acts := Row.keep hAc z2
                          have hb25 : Below w2.heap.size w2 w5 := hbx.trans (z2.mono hs2)
                          clear hw5 z0 z1 z2 hrng hbx e6x hAc
                          go_upto_if 151 with fail
                          go_cut [8] (fun tt wx => tt = .string (Ref.mv1 (Ref.pad x.s.depth.toNat) tj y.m) ∧ wx = w5)
                          case first =>
                            cases hae : y.m.to.toList.isEmpty
                            · have HA : Hid _ := hae
                              go_wp2
                              go_meet
                              case rel => exact ⟨by unfold Ref.mv1; rw [HA.out]; rfl, rfl⟩
                            · have HA : Hid _ := hae
                              go_wp2
                              go_meet
                              case rel => exact ⟨by unfold Ref.mv1; rw [HA.out]; rfl, rfl⟩
                          case rest =>
                            obtain ⟨rfl, hwc⟩ := hcut
                            rw [hwc]
                            clear hwc wc
                            have hz1 := Ref.mv1_small (t := tj) hp5 hMs
                            go_wp2_with fail
                            refine (written_any _ y.m.acts _ hAc5 (by omega) (fun a ha => (hMs.acts a ha).ok)).mono ?_
                            rintro e w6 ⟨rfl, hb6⟩
                            have hb26 : Below w2.heap.size w2 w6 := hb25.trans (hb6.mono hb25.size)
                            clear hb6 hb25 hAc5 f0 f1 f4
                            go_wp2
                            go_roundg (M.length - (j + 1))
                            case measure => omega
                            case rel => exact ⟨j + 1, by omega, rfl, by go_num, by rw [HV.out]; rfl, hb26⟩
                        · obtain rfl : j = M.length := by omega
                          go_wp2
                          go_roundg (X.length - (n + 1))
                          case measure => omega
                          case rel => exact ⟨n + 1, rfl, by omega, by go_num, by rw [HT.out], hb2.trans (hbx.mono hb2.size)⟩
      · obtain rfl : n = X.length := by omega
        go_wp2
        go_ret3
        unfold LowPost
        rw [HR.out]
        refine ⟨hb1.trans (hbr.mono hb1.size), ?_⟩
        show Ending.returned (.tuple #[.string (Ref.lowTo S X.length), .int .i64 0, .int .i64 0]) = Ending.returned (.tuple #[.string (Ref.lowTo S S.length), .int .i64 0, .int .i64 0])
        rw [HXL.out]
end Go.Proofs.YtegmoddppafkfaaGreatDoor
