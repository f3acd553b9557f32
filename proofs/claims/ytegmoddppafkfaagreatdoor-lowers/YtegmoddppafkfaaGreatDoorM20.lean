/-
  MY OWN TEXT.
-/
import Derived.Test.YtegmoddppafkfaaGreatDoorM12
import Derived.Test.YtegmoddppafkfaaGreatDoorM18
import Derived.Test.YtegmoddppafkfaaGreatDoorM19
import Derived.Deep.WholeRow
namespace Go.Proofs.YtegmoddppafkfaaGreatDoor
open Go.RowKit Go.Proofs

theorem Tryz.sizeMoveL : (Tryz.prog.info? 295).map (·.size) = some 5 := by kernel_rfl
theorem own_n {w : World} {base size n : Nat} {e : TypeId} {v : Ref.Sl} {xs : List Value} (h : w.ownsRow base e size v.v n xs) : v.n = n := by
  rcases h.2 with ⟨h, h0⟩ | ⟨g, cap, cur, h, _⟩
  · simp [Ref.Sl.v] at h; rw [h0]; exact h.2.1
  · simp [Ref.Sl.v] at h; exact h.2.1
theorem Tryz.sizeNamedL : (Tryz.prog.info? 327).map (·.size) = some 1 := by kernel_rfl
theorem inTo_len (x : Ref.State) : ∀ j, (Ref.inTo x j).length ≤ x.enter.length + j
  | 0 => Nat.le_refl _
  | j + 1 => by
    have := inTo_len x j
    rw [Ref.inTo]
    repeat' split
    all_goals (try rw [List.length_append])
    all_goals (try simp only [List.length_cons, List.length_nil])
    all_goals omega
theorem outTo_len (x : Ref.State) : ∀ j, (Ref.outTo x j).length ≤ x.leave.length + j
  | 0 => Nat.le_refl _
  | j + 1 => by
    have := outTo_len x j
    rw [Ref.outTo]
    repeat' split
    all_goals (try rw [List.length_append])
    all_goals (try simp only [List.length_cons, List.length_nil])
    all_goals omega
theorem actV_in {m : Ref.Move} (h : m.event.size ≠ 0) : actV (Ref.inAct m) = .iface 331 (.agg #[.string m.event, .int .u64 m.delay, .string m.event]) := by
  unfold actV Ref.inAct sendV
  rw [show Ref.bSend.toList = Ref.cSend from send_list, if_neg (by decide), if_neg (by decide), if_neg h]
theorem actV_out (m : Ref.Move) : actV (Ref.outAct m) = .iface 333 (.agg #[.string m.event]) := by
  unfold actV Ref.outAct
  rw [show Ref.bCancel.toList = Ref.cCancel from cancel_list, if_neg (by decide), if_pos (by decide)]
set_option maxRecDepth 100000 in
set_option maxHeartbeats 6400000 in
theorem lowerState_any (B g cap u : Nat) (X : List Pro.DS) (x : Pro.DS) (M : List Pro.PV) (w : World)
    (hs : w.ownsRow B 242 8 (.slice (some ⟨g, 0, none⟩) X.length cap) X.length (X.flatMap Pro.dsCells)) (hu : u < X.length) (hx : X[u] = x)
    (hM : w.ownsRow 0 295 5 x.vm.v M.length (M.flatMap Pro.pvCells)) (hE : w.ownsRow 0 324 1 x.ve.v x.s.enter.length (x.s.enter.map actV)) (hL : w.ownsRow 0 324 1 x.vl.v x.s.leave.length (x.s.leave.map actV))
    (hm : M.map (·.m) = x.s.moves) (hMl : M.length ≤ 4096) (hEl : x.s.enter.length ≤ 4096) (hLl : x.s.leave.length ≤ 4096) (hev : ∀ y ∈ M, y.m.after = true → y.m.event.size ≠ 0) :
    Calls Tryz.prog 120 #[.pointer (some ⟨g, u * 8, none⟩)] w fun e w' => e = .returned (.tuple #[]) ∧ ∃ ve vl vm, LowAt w w' B g cap X u x ve vl vm (Ref.inTo x.s M.length) (Ref.outTo x.s M.length) (M.map Pro.lowPV) := by
  obtain ⟨s, ⟨pa, pn, pc⟩, ⟨ea, en, ec⟩, ⟨la, ln, lc⟩, ⟨ma, mn, mc⟩⟩ := x
  obtain ⟨x, hxx⟩ : ∃ x : Pro.DS, x = ⟨s, ⟨pa, pn, pc⟩, ⟨ea, en, ec⟩, ⟨la, ln, lc⟩, ⟨ma, mn, mc⟩⟩ := ⟨_, rfl⟩
  have cells : ∀ (W : World), Below w.heap.size w W → W.cell? ⟨g, u * 8 + 5, none⟩ = some (.slice ea en ec) ∧ W.cell? ⟨g, u * 8 + 6, none⟩ = some (.slice la ln lc) ∧ W.cell? ⟨g, u * 8 + 7, none⟩ = some (.slice ma mn mc) := by
    intro W hb
    have hs' := own_keep hs hb
    refine ⟨?_, ?_, ?_⟩ <;> (rw [hs'.cellAt _ (by omega), Ref.flat_get (f := Pro.dsCells) (n := 8) (fun _ => rfl) X u _ (by decide) hu, hx]; rfl)
  have froz : ∀ (W : World) (j : Nat), Below w.heap.size w W → W.frozen? ⟨g, j, none⟩ = false := fun W j hb => World.ownsRow.frozenAt (own_mono (own_keep hs hb) (Nat.zero_le _)) _
  have hEl' : s.enter.length ≤ 4096 := hEl
  have hLl' : s.leave.length ≤ 4096 := hLl
  have HS : Hid _ := hs
  have HX : Hid _ := hx
  have HXX : Hid _ := hxx
  have HM : Hid _ := hM
  have HE : Hid _ := hE
  have HL : Hid _ := hL
  have HC : Hid _ := cells
  have HF : Hid _ := froz
  have Hm : Hid _ := hm
  have Hev : Hid _ := hev
  have hgw : g < w.heap.size := (World.ownsRow.lt hs g rfl).2
  have hb0 : Below w.heap.size w w.drew := (Below.refl _ _).drew
  have hcw := cells w.drew hb0
  clear hs hx hxx hM hE hL cells froz hm hev
  go_enter Tryz.func120, Tryz.ntmps120
  go_upto_region 0 with fail
  refine wp_region_U (s := 20) (S := (fun W => W.cell? ⟨g, u * 8 + 5, none⟩ = some (.slice ea en ec) ∧ W.cell? ⟨g, u * 8 + 6, none⟩ = some (.slice la ln lc) ∧ W.cell? ⟨g, u * 8 + 7, none⟩ = some (.slice ma mn mc))) (by kernel_rfl) hcw (fun hHeld => ?_)
  refine wpAnyU_takeY (i := 0) (v := .pointer (some ⟨g, u * 8, none⟩)) rfl (by kernel_rfl) (by kernel_rfl) (by kernel_rfl) (fun _ _ _ h => h) (by decide) (Or.inl ⟨by rfl, fun w _ => by go_simp; (try with_reducible rfl)⟩) hHeld ?_
  refine wpAnyU_takeY (i := 1) (v := .pointer (some ⟨g, u * 8, none⟩)) rfl (by kernel_rfl) (by kernel_rfl) (by kernel_rfl) (fun _ _ _ h => h) (by decide) (Or.inl ⟨by rfl, fun w _ => by go_simp; (try with_reducible rfl)⟩) hHeld ?_
  refine wpAnyU_takeY (i := 2) (v := .pointer (some ⟨g, u * 8, none⟩)) rfl (by kernel_rfl) (by kernel_rfl) (by kernel_rfl) (fun _ _ _ h => h) (by decide) (Or.inl ⟨by rfl, fun w _ => by go_simp; (try with_reducible rfl)⟩) hHeld ?_
  refine wpAnyU_takeY (i := 3) (v := .pointer (some ⟨g, u * 8, none⟩)) rfl (by kernel_rfl) (by kernel_rfl) (by kernel_rfl) (fun _ _ _ h => h) (by decide) (Or.inl ⟨by rfl, fun w _ => by go_simp; (try with_reducible rfl)⟩) hHeld ?_
  refine wpAnyU_takeY (i := 8) (v := .pointer (some ⟨g, u * 8, none⟩)) rfl (by kernel_rfl) (by kernel_rfl) (by kernel_rfl) (fun _ _ _ h => h) (by decide) (Or.inl ⟨by rfl, fun w _ => by go_simp; (try with_reducible rfl)⟩) hHeld ?_
  refine wpAnyU_takeY (i := 13) (v := .pointer (some ⟨g, u * 8, none⟩)) rfl (by kernel_rfl) (by kernel_rfl) (by kernel_rfl) (fun _ _ _ h => h) (by decide) (Or.inl ⟨by rfl, fun w _ => by go_simp; (try with_reducible rfl)⟩) hHeld ?_
  refine wpAnyU_takeY (i := 4) (v := .pointer (some ⟨g, u * 8, none⟩)) rfl (by kernel_rfl) (by kernel_rfl) (by kernel_rfl) (fun _ _ _ h => h) (by decide) (Or.inl ⟨by rfl, fun w _ => by go_simp; (try with_reducible rfl)⟩) hHeld ?_
  refine wpAnyU_takeY (i := 5) (v := .pointer (some ⟨g, u * 8 + 5, none⟩)) rfl (by kernel_rfl) (by kernel_rfl) (by kernel_rfl) (fun _ _ _ h => h) (by decide) (Or.inl ⟨by rfl, fun w _ => by go_simp; (try with_reducible rfl)⟩) hHeld ?_
  refine wpAnyU_take (i := 6) (v := .slice ea en ec) rfl (by kernel_rfl) (by kernel_rfl) (by kernel_rfl) (fun _ _ _ h => h) rfl (by kernel_rfl) (by kernel_rfl) (Or.inl ⟨by rfl, fun w hSw => by (try dsimp only at hSw); go_simp; (try with_reducible rfl)⟩) hHeld ?_
  refine wpAnyU_takeY (i := 9) (v := .pointer (some ⟨g, u * 8, none⟩)) rfl (by kernel_rfl) (by kernel_rfl) (by kernel_rfl) (fun _ _ _ h => h) (by decide) (Or.inl ⟨by rfl, fun w _ => by go_simp; (try with_reducible rfl)⟩) hHeld ?_
  refine wpAnyU_takeY (i := 10) (v := .pointer (some ⟨g, u * 8 + 6, none⟩)) rfl (by kernel_rfl) (by kernel_rfl) (by kernel_rfl) (fun _ _ _ h => h) (by decide) (Or.inl ⟨by rfl, fun w _ => by go_simp; (try with_reducible rfl)⟩) hHeld ?_
  refine wpAnyU_take (i := 11) (v := .slice la ln lc) rfl (by kernel_rfl) (by kernel_rfl) (by kernel_rfl) (fun _ _ _ h => h) rfl (by kernel_rfl) (by kernel_rfl) (Or.inl ⟨by rfl, fun w hSw => by (try dsimp only at hSw); go_simp; (try with_reducible rfl)⟩) hHeld ?_
  refine wpAnyU_takeY (i := 14) (v := .pointer (some ⟨g, u * 8, none⟩)) rfl (by kernel_rfl) (by kernel_rfl) (by kernel_rfl) (fun _ _ _ h => h) (by decide) (Or.inl ⟨by rfl, fun w _ => by go_simp; (try with_reducible rfl)⟩) hHeld ?_
  refine wpAnyU_takeY (i := 15) (v := .pointer (some ⟨g, u * 8 + 7, none⟩)) rfl (by kernel_rfl) (by kernel_rfl) (by kernel_rfl) (fun _ _ _ h => h) (by decide) (Or.inl ⟨by rfl, fun w _ => by go_simp; (try with_reducible rfl)⟩) hHeld ?_
  refine wpAnyU_take (i := 16) (v := .slice ma mn mc) rfl (by kernel_rfl) (by kernel_rfl) (by kernel_rfl) (fun _ _ _ h => h) rfl (by kernel_rfl) (by kernel_rfl) (Or.inl ⟨by rfl, fun w hSw => by (try dsimp only at hSw); go_simp; (try with_reducible rfl)⟩) hHeld ?_
  refine wpAnyU_ready (rs := [7]) (by kernel_rfl) (by simp) ?_
  refine AllReadyU.cons rfl (fun K hK => ?_) AllReadyU.nil
  go_simp
  refine Calls.mono (cloneA_any ea en ec s.enter _ (own_keep HE.out hb0) (by omega)) ?_
  rintro e w1 ⟨se, rfl, hE1, hb1⟩
  have hb1' : Below w.heap.size w w1 := hb0.trans hb1
  dsimp only
  refine hK.out _ _ (HC.out _ hb1') (fun hHeld => ?_)
  clear hK K
  refine wpAnyU_ready (rs := [12]) (by kernel_rfl) (by simp) ?_
  refine AllReadyU.cons rfl (fun K hK => ?_) AllReadyU.nil
  go_simp
  refine Calls.mono (cloneA_any la ln lc s.leave _ (own_keep HL.out hb1') (by omega)) ?_
  rintro e w2 ⟨sl, rfl, hL2, hb2⟩
  have hb2' : Below w.heap.size w w2 := hb1'.trans (hb2.mono hb1'.size)
  dsimp only
  refine hK.out _ _ (HC.out _ hb2') (fun hHeld => ?_)
  clear hK K
  refine wpAnyU_ready (rs := [17]) (by kernel_rfl) (by simp) ?_
  refine AllReadyU.cons rfl (fun K hK => ?_) AllReadyU.nil
  go_simp
  refine Calls.mono (cloneM_any ma mn mc M _ (own_keep HM.out hb2') (by omega)) ?_
  rintro e w3 ⟨⟨sma, smn, smc⟩, rfl, hM3, hb3⟩
  have hb3' : Below w.heap.size w w3 := hb2'.trans (hb3.mono hb2'.size)
  dsimp only
  refine hK.out _ _ (HC.out _ hb3') (fun hHeld => ?_)
  clear hK K
  refine wpAnyU_takeY (i := 18) (v := .pointer (some ⟨g, u * 8, none⟩)) rfl (by kernel_rfl) (by kernel_rfl) (by kernel_rfl) (fun _ _ _ h => h) (by decide) (Or.inl ⟨by rfl, fun w _ => by go_simp; (try with_reducible rfl)⟩) hHeld ?_
  refine wpAnyU_takeY (i := 19) (v := .pointer (some ⟨g, u * 8 + 5, none⟩)) rfl (by kernel_rfl) (by kernel_rfl) (by kernel_rfl) (fun _ _ _ h => h) (by decide) (Or.inl ⟨by rfl, fun w _ => by go_simp; (try with_reducible rfl)⟩) hHeld ?_
  refine wpAnyU_switch (by kernel_rfl) ?_
  have hap : apart se sl := by
    unfold apart
    cases e1 : se.v.ownBlock with
    | none => exact .inl rfl
    | some k =>
      refine .inr (fun e2 => ?_)
      have h1 := (World.ownsRow.lt hE1 k e1).2
      have h2 := (World.ownsRow.lt hL2 k e2.symm).1
      omega
  have sz1 := hb1'.size
  have sz2 := hb2'.size
  have hnM : smn = M.length := own_n (v := ⟨sma, smn, smc⟩) hM3
  subst hnM
  have G0 : LowAt w (((w3.setCell ⟨g, u * 8 + 5, none⟩ (.slice se.a se.n se.c)).setCell ⟨g, u * 8 + 6, none⟩ (.slice sl.a sl.n sl.c)).setCell ⟨g, u * 8 + 7, none⟩ (.slice sma M.length smc)) B g cap X u x se sl ⟨sma, M.length, smc⟩ s.enter s.leave M := by
    rw [HXX.out]
    exact LowAt.begin HS.out hu HX.out hb3' (own_keep (own_keep (own_mono hE1 (Nat.le_refl _)) hb2) hb3) (own_keep (own_mono hL2 sz1) hb3) (own_mono hM3 sz2) hap
  obtain ⟨c5, c6, c7⟩ := HC.out _ hb3'
  have f5 := HF.out w3 (u * 8 + 5) hb3'
  have f6 := HF.out w3 (u * 8 + 6) hb3'
  have f7 := HF.out w3 (u * 8 + 7) hb3'
  have HG : Hid _ := G0
  clear G0 hap hE1 hL2 hM3 hb1 hb2 hb3 hHeld hcw sz1 sz2
  refine wpAny_ready (rs := [20]) (by kernel_rfl) (by simp) ?_
  refine AllReady.cons rfl (fun K hK => ?_) AllReady.nil
  go_simp
  refine hK _ _ ?_
  clear hK K
  refine wpAny_take (i := 21) (v := .pointer (some ⟨g, u * 8, none⟩)) rfl (by kernel_rfl) (by kernel_rfl) (by kernel_rfl) (fun _ _ _ h => h) (Or.inl ⟨by rfl, fun w => by go_simp; (try with_reducible rfl)⟩) ?_
  refine wpAny_take (i := 22) (v := .pointer (some ⟨g, u * 8 + 6, none⟩)) rfl (by kernel_rfl) (by kernel_rfl) (by kernel_rfl) (fun _ _ _ h => h) (Or.inl ⟨by rfl, fun w => by go_simp; (try with_reducible rfl)⟩) ?_
  refine wpAny_ready (rs := [23]) (by kernel_rfl) (by simp) ?_
  refine AllReady.cons rfl (fun K hK => ?_) AllReady.nil
  go_simp
  refine hK _ _ ?_
  clear hK K
  refine wpAny_take (i := 24) (v := .pointer (some ⟨g, u * 8, none⟩)) rfl (by kernel_rfl) (by kernel_rfl) (by kernel_rfl) (fun _ _ _ h => h) (Or.inl ⟨by rfl, fun w => by go_simp; (try with_reducible rfl)⟩) ?_
  refine wpAny_take (i := 25) (v := .pointer (some ⟨g, u * 8 + 7, none⟩)) rfl (by kernel_rfl) (by kernel_rfl) (by kernel_rfl) (fun _ _ _ h => h) (Or.inl ⟨by rfl, fun w => by go_simp; (try with_reducible rfl)⟩) ?_
  refine wpAny_ready (rs := [26]) (by kernel_rfl) (by simp) ?_
  refine AllReady.cons rfl (fun K hK => ?_) AllReady.nil
  go_simp
  refine hK _ _ ?_
  clear hK K
  refine wpAny_done (by kernel_rfl) ?_ _
  have G0 := HG.out
  clear HG c5 c6 c7 f5 f6 f7 hb3' hb2' hb1' HC HF
  generalize ((w3.setCell ⟨g, u * 8 + 5, none⟩ (.slice se.a se.n se.c)).setCell ⟨g, u * 8 + 6, none⟩ (.slice sl.a sl.n sl.c)).setCell ⟨g, u * 8 + 7, none⟩ (.slice sma M.length smc) = W0 at G0 ⊢
  have c7 : W0.cell? ⟨g, u * 8 + 7, none⟩ = some (.slice sma M.length smc) := (G0.cell hu 7 (by decide)).trans rfl
  have HG0 : Hid _ := G0
  clear G0
  go_wp2
  go_loopg [34] M.length (fun q i wr => ∃ (j : Nat) (ve vl : Ref.Sl), q = M.length - j ∧ j ≤ M.length ∧ i = .int .i64 j ∧ LowAt w wr B g cap X u x ve vl ⟨sma, M.length, smc⟩ (Ref.inTo s j) (Ref.outTo s j) (Pro.movesAt M j))
  case atStart => exact ⟨0, se, sl, rfl, Nat.zero_le _, rfl, HG0.out⟩
  case round =>
    clear c7
    obtain ⟨j, ve, vl, hq, hj, rfl, G⟩ := hrel
    by_cases hjn : j < M.length
    · have hQl := Pro.movesAt_len M j hj
      obtain ⟨mb, cm, hvm⟩ := Ref.own_form G.moves (by omega)
      simp only [Ref.Sl.v, Value.slice.injEq] at hvm
      obtain ⟨rfl, -, rfl⟩ := hvm
      have hmo : wr.ownsRow 0 295 5 (.slice (some ⟨mb, 0, none⟩) (Pro.movesAt M j).length smc) (Pro.movesAt M j).length ((Pro.movesAt M j).flatMap Pro.pvCells) := by
        have := own_mono G.moves (Nat.zero_le _)
        unfold Ref.Sl.v at this
        rw [← hQl] at this
        exact this
      have hrng := Row.range (f := Pro.pvCells) (n := 5) (fun _ => rfl) hmo (by rw [hQl]; exact hjn)
      rw [Pro.movesAt_get M j hjn] at hrng
      have hcm : M.length ≤ smc := by
        rcases hmo.2 with ⟨h, _⟩ | ⟨g', cap', cur, h, _, _, hle, _⟩
        · cases h
        · simp at h; rw [h.2]; rw [hQl] at hle; exact hle
      have hmlt : mb < wr.heap.size := (World.ownsRow.lt hmo mb rfl).2
      obtain ⟨y, hy⟩ : ∃ y, y = M[j] := ⟨_, rfl⟩
      have hym : y ∈ M := by rw [hy]; exact List.getElem_mem hjn
      have HMJ : Hid (s.moves[j]? = some y.m) := by
        unfold Hid
        rw [show s.moves = M.map (·.m) from Hm.out.symm, List.getElem?_map, List.getElem?_eq_getElem hjn, ← hy]
        rfl
      rw [← hy] at hrng
      unfold Pro.pvCells at hrng
      have HY : Hid _ := hy
      have HQL : Hid _ := hQl
      clear hQl
      have HG : Hid _ := G
      have hgl := G.glt.2
      clear hmo hy G
      cases ha : y.m.after with
      | false =>
        have HA : Hid _ := ha
        go_wp2_with (first
          | (refine wpList_load_mid rfl 295 (.tmp 37) rfl mb (j * 5) rfl _ _ hrng Tryz.underlying295 rfl Tryz.sizeMoveL ?_)
          | (refine wpList_store_new rfl 295 (.tmp 3) (.tmp 38) rfl 295 _ _ rfl rfl Tryz.sizeMoveL rfl rfl ?_)
          | fail)
        have hbk : Below wr.heap.size wr (wr.alloc (.cells #[.string y.m.event, .bool false, .int .u64 y.m.delay, .string y.m.to, .slice y.v.a y.v.n y.v.c] 295)) := (Below.refl _ _).alloc (Nat.le_refl _) _
        have HG1 : Hid (LowAt w (wr.alloc (.cells #[.string y.m.event, .bool false, .int .u64 y.m.delay, .string y.m.to, .slice y.v.a y.v.n y.v.c] 295)) B g cap X u x ve vl ⟨some ⟨mb, 0, none⟩, M.length, smc⟩ (Ref.inTo s (j + 1)) (Ref.outTo s (j + 1)) (Pro.movesAt M (j + 1))) := by
          unfold Hid
          have e1 : Ref.inTo s (j + 1) = Ref.inTo s j := by rw [Ref.inTo, HMJ.out]; simp [HA.out]
          have e2 : Ref.outTo s (j + 1) = Ref.outTo s j := by rw [Ref.outTo, HMJ.out]; simp [HA.out]
          rw [e1, e2, Pro.movesAt_skip M j hjn (by rw [← HY.out]; exact HA.out)]
          exact HG.out.keep hbk
        go_roundg (M.length - (j + 1))
        case measure => omega
        case rel => exact ⟨j + 1, ve, vl, rfl, by omega, by go_num, HG1.out⟩
      | true =>
        have HA : Hid _ := ha
        go_wp2_with (first
          | (refine wpList_load_mid rfl 295 (.tmp 37) rfl mb (j * 5) rfl _ _ hrng Tryz.underlying295 rfl Tryz.sizeMoveL ?_)
          | (refine wpList_store_new rfl 295 (.tmp 3) (.tmp 38) rfl 295 _ _ rfl rfl Tryz.sizeMoveL rfl rfl ?_)
          | (refine wpList_store_new rfl 327 (.tmp 4) (.tmp 44) rfl 327 _ _ rfl rfl Tryz.sizeNamedL rfl rfl ?_)
          | fail)
        obtain ⟨i0, hi, hz0, hz1, hz2⟩ := info_parts Tryz.infoAction
        have hev0 : y.m.event.size ≠ 0 := Hev.out y hym ha
        have HV1 : Hid _ := actV_in hev0
        have HV2 : Hid _ := actV_out y.m
        have hil := inTo_len s j
        have hol := outTo_len s j
        clear hev0 hrng
        obtain ⟨W2, hW2⟩ : ∃ z, z = (wr.alloc (.cells #[.string y.m.event, .bool true, .int .u64 y.m.delay, .string y.m.to, .slice y.v.a y.v.n y.v.c] 295)).alloc (.cells #[.string y.m.event] 327) := ⟨_, rfl⟩
        have hm2 : W2.heap[wr.heap.size]? = some (.cells #[.string y.m.event, .bool true, .int .u64 y.m.delay, .string y.m.to, .slice y.v.a y.v.n y.v.c] 295 (0, 0)) := by rw [hW2]; exact heap_prev _ _ _
        have ht2 : W2.heap[wr.heap.size + 1]? = some (.cells #[.string y.m.event] 327 (0, 0)) := by rw [hW2]; exact heap_last2 _ _ _
        have hb2 : Below wr.heap.size wr W2 := by rw [hW2]; exact ((Below.refl _ _).alloc (Nat.le_refl _) _).alloc (by simp) _
        have hsz2 : wr.heap.size + 2 ≤ W2.heap.size := by rw [hW2]; simp
        have hsz2b : W2.heap.size ≤ wr.heap.size + 2 := by rw [hW2]; simp
        have HCS : Hid (∀ W, Below W2.heap.size W2 W → W.cell? ⟨g, u * 8 + 5, none⟩ = some (.slice ve.a ve.n ve.c) ∧ W.cell? ⟨wr.heap.size + 1, 0, none⟩ = some (.string y.m.event) ∧ W.cell? ⟨wr.heap.size, 0, none⟩ = some (.string y.m.event) ∧ W.cell? ⟨wr.heap.size, 2, none⟩ = some (.int .u64 y.m.delay)) := by
          intro W hb
          have h1 := (hb.block _ (by omega)).trans hm2
          have h2 := (hb.block _ (by omega)).trans ht2
          refine ⟨(((HG.out.keep hb2).keep hb).cell hu 5 (by decide)).trans rfl, ?_, ?_, ?_⟩
          · rw [cell_of_row W _ _ _ _ _ h2]; rfl
          · rw [cell_of_row W _ _ _ _ _ h1]; rfl
          · rw [cell_of_row W _ _ _ _ _ h1]; rfl
        change Code.wp _ _ _ _ ((wr.alloc (.cells #[.string y.m.event, .bool true, .int .u64 y.m.delay, .string y.m.to, .slice y.v.a y.v.n y.v.c] 295)).alloc (.cells #[.string y.m.event] 327))
        rw [← hW2]
        clear hW2 ha
        refine wp_region_U (s := 17) (S := (fun W => W.cell? ⟨g, u * 8 + 5, none⟩ = some (.slice ve.a ve.n ve.c) ∧ W.cell? ⟨wr.heap.size + 1, 0, none⟩ = some (.string y.m.event) ∧ W.cell? ⟨wr.heap.size, 0, none⟩ = some (.string y.m.event) ∧ W.cell? ⟨wr.heap.size, 2, none⟩ = some (.int .u64 y.m.delay))) (by kernel_rfl) (HCS.out _ (Below.refl _ _).drew) (fun hHeld => ?_)
        refine wpAnyU_takeY (i := 0) (v := .pointer (some ⟨g, u * 8, none⟩)) rfl (by kernel_rfl) (by kernel_rfl) (by kernel_rfl) (fun _ _ _ h => h) (by decide) (Or.inl ⟨by rfl, fun w _ => by go_simp; (try with_reducible rfl)⟩) hHeld ?_
        refine wpAnyU_takeY (i := 1) (v := .pointer (some ⟨g, u * 8, none⟩)) rfl (by kernel_rfl) (by kernel_rfl) (by kernel_rfl) (fun _ _ _ h => h) (by decide) (Or.inl ⟨by rfl, fun w _ => by go_simp; (try with_reducible rfl)⟩) hHeld ?_
        refine wpAnyU_takeY (i := 2) (v := .pointer (some ⟨g, u * 8, none⟩)) rfl (by kernel_rfl) (by kernel_rfl) (by kernel_rfl) (fun _ _ _ h => h) (by decide) (Or.inl ⟨by rfl, fun w _ => by go_simp; (try with_reducible rfl)⟩) hHeld ?_
        refine wpAnyU_takeY (i := 3) (v := .pointer (some ⟨g, u * 8 + 5, none⟩)) rfl (by kernel_rfl) (by kernel_rfl) (by kernel_rfl) (fun _ _ _ h => h) (by decide) (Or.inl ⟨by rfl, fun w _ => by go_simp; (try with_reducible rfl)⟩) hHeld ?_
        refine wpAnyU_take (i := 4) (v := .slice ve.a ve.n ve.c) rfl (by kernel_rfl) (by kernel_rfl) (by kernel_rfl) (fun _ _ _ h => h) rfl (by kernel_rfl) (by kernel_rfl) (Or.inl ⟨by rfl, fun w hSw => by (try dsimp only at hSw); go_simp; (try with_reducible rfl)⟩) hHeld ?_
        refine wpAnyU_take (i := 5) (v := .agg #[.string y.m.event]) rfl (by kernel_rfl) (by kernel_rfl) (by kernel_rfl) (fun _ _ _ h => h) rfl (by kernel_rfl) (by kernel_rfl) (Or.inl ⟨by rfl, fun w hSw => by (try dsimp only at hSw); go_simp; (try with_reducible rfl)⟩) hHeld ?_
        refine wpAnyU_takeY (i := 6) (v := .pointer (some ⟨wr.heap.size, 2, none⟩)) rfl (by kernel_rfl) (by kernel_rfl) (by kernel_rfl) (fun _ _ _ h => h) (by decide) (Or.inl ⟨by rfl, fun w _ => by go_simp; (try with_reducible rfl)⟩) hHeld ?_
        refine wpAnyU_take (i := 7) (v := .int .u64 y.m.delay) rfl (by kernel_rfl) (by kernel_rfl) (by kernel_rfl) (fun _ _ _ h => h) rfl (by kernel_rfl) (by kernel_rfl) (Or.inl ⟨by rfl, fun w hSw => by (try dsimp only at hSw); go_simp; (try with_reducible rfl)⟩) hHeld ?_
        refine wpAnyU_takeY (i := 8) (v := .agg #[.string y.m.event, .int .u64 y.m.delay]) rfl (by kernel_rfl) (by kernel_rfl) (by kernel_rfl) (fun _ _ _ h => h) (by decide) (Or.inl ⟨by rfl, fun w _ => by go_simp; (try with_reducible rfl)⟩) hHeld ?_
        refine wpAnyU_takeY (i := 9) (v := .pointer (some ⟨wr.heap.size, 0, none⟩)) rfl (by kernel_rfl) (by kernel_rfl) (by kernel_rfl) (fun _ _ _ h => h) (by decide) (Or.inl ⟨by rfl, fun w _ => by go_simp; (try with_reducible rfl)⟩) hHeld ?_
        refine wpAnyU_take (i := 10) (v := .string y.m.event) rfl (by kernel_rfl) (by kernel_rfl) (by kernel_rfl) (fun _ _ _ h => h) rfl (by kernel_rfl) (by kernel_rfl) (Or.inl ⟨by rfl, fun w hSw => by (try dsimp only at hSw); go_simp; (try with_reducible rfl)⟩) hHeld ?_
        refine wpAnyU_takeY (i := 11) (v := .agg #[.string y.m.event, .int .u64 y.m.delay, .string y.m.event]) rfl (by kernel_rfl) (by kernel_rfl) (by kernel_rfl) (fun _ _ _ h => h) (by decide) (Or.inl ⟨by rfl, fun w _ => by go_simp; (try with_reducible rfl)⟩) hHeld ?_
        refine wpAnyU_takeY (i := 12) (v := .iface 331 (.agg #[.string y.m.event, .int .u64 y.m.delay, .string y.m.event])) rfl (by kernel_rfl) (by kernel_rfl) (by kernel_rfl) (fun _ _ _ h => h) (by decide) (Or.inl ⟨by rfl, fun w _ => by go_simp; (try with_reducible rfl)⟩) hHeld ?_
        refine wpAnyU_ready (rs := [13]) (by kernel_rfl) (by simp) ?_
        refine AllReadyU.cons rfl (fun K hK => ?_) AllReadyU.nil
        go_simp
        have hbc : Below W2.heap.size W2 ((W2.alloc (.cells #[.iface 331 (.agg #[.string y.m.event, .int .u64 y.m.delay, .string y.m.event])] 324)).drew) := ((Below.refl _ _).alloc (Nat.le_refl _) _).drew
        refine hK.out _ _ (HCS.out _ hbc) (fun hHeld => ?_)
        clear hK K
        refine wpAnyU_ready (rs := [14]) (by kernel_rfl) (by simp) ?_
        refine AllReadyU.cons rfl (fun K hK => ?_) AllReadyU.nil
        refine step_append_lies _ (by rfl) _ _ _ (by rfl) w.heap.size 324 i0 _ 1 16 Tryz.underlying239 hi hz0 hz1 hz2 rfl (by decide) (.slice ve.a ve.n ve.c) (Ref.inTo s j).length ((Ref.inTo s j).map actV) (by rfl) ((World.ownsRow.alloc (HG.out.keep hb2).enter _).drew) ⟨W2.heap.size, 0, none⟩ 1 1 [.iface 331 (.agg #[.string y.m.event, .int .u64 y.m.delay, .string y.m.event])] (by rfl) (by rfl) (World.news_of_block (cs := #[.iface 331 (.agg #[.string y.m.event, .int .u64 y.m.delay, .string y.m.event])]) (t := 324) (fr := (0, 0)) (heap_alloc_new W2 _)) (by simp [Value.oneCell']) (by omega) (by unfold maxLen; omega) (by omega) (by have := (HG.out.keep hb2).turned.size; simp; omega) (W2.heap.size + 1) (by simp) ?_
        intro g5 cap5 w5 hown5 hgrow hat hlt5
        have hgr : Turned g w w5 := turned_grown HG.out.turned (hb2.trans (hbc.mono hb2.size)) hgrow (fun k h => (World.ownsRow.lt HG.out.enter k h).1)
        have hne := (HG.out.eneg).1
        have hfar : ∀ k, k = wr.heap.size ∨ k = wr.heap.size + 1 → some k ≠ ve.v.ownBlock := fun k hk e => by
          have := (World.ownsRow.lt HG.out.enter k e.symm).2
          omega
        have hS5 : w5.cell? ⟨g, u * 8 + 5, none⟩ = some (.slice ve.a ve.n ve.c) ∧ w5.cell? ⟨wr.heap.size + 1, 0, none⟩ = some (.string y.m.event) ∧ w5.cell? ⟨wr.heap.size, 0, none⟩ = some (.string y.m.event) ∧ w5.cell? ⟨wr.heap.size, 2, none⟩ = some (.int .u64 y.m.delay) :=
          ⟨(hgrow.cell_far _ (by simp; omega) hne).trans hHeld.1, (hgrow.cell_far _ (by simp; omega) (hfar _ (.inr rfl))).trans hHeld.2.1, (hgrow.cell_far _ (by simp; omega) (hfar _ (.inl rfl))).trans hHeld.2.2.1, (hgrow.cell_far _ (by simp; omega) (hfar _ (.inl rfl))).trans hHeld.2.2.2⟩
        have ht5 : w5.heap[wr.heap.size + 1]? = some (.cells #[.string y.m.event] 327 (0, 0)) := (hgrow.block _ (by simp; omega) (hfar _ (.inr rfl))).trans ((hbc.block _ (by omega)).trans ht2)
        have HG3 : Hid (LowAt w (w5.setCell ⟨g, u * 8 + 5, none⟩ (.slice (some ⟨g5, 0, none⟩) ((Ref.inTo s j).length + 1) cap5)) B g cap X u x ⟨some ⟨g5, 0, none⟩, (Ref.inTo s j).length + 1, cap5⟩ vl ⟨some ⟨mb, 0, none⟩, M.length, smc⟩ (Ref.inTo s j ++ [Ref.inAct y.m]) (Ref.outTo s j) (Pro.movesAt M j)) := by
          unfold Hid
          refine HG.out.addEnter (ve' := ⟨some ⟨g5, 0, none⟩, (Ref.inTo s j).length + 1, cap5⟩) hu (hb2.trans (hbc.mono hb2.size)) hgrow (by rw [HV1.out]; exact hown5) ?_
          rcases hat with h | h
          · exact .inl h.symm
          · exact .inr (by rw [h]; simp [Ref.Sl.v, Value.ownBlock])
        have f5 : w5.frozen? ⟨g, u * 8 + 5, none⟩ = false := (hgrow.frozen_far _ (by simp; omega) hne).trans ((((Below.refl W2.heap.size W2).alloc (Nat.le_refl _) _).drew.frozen (p := ⟨g, u * 8 + 5, none⟩) (by simp; omega)).trans ((HG.out.keep hb2).frozen _))
        have hsz5 := hgrow.size
        clear hown5 hgrow hat hgr
        refine hK.out _ _ hS5 (fun hHeld => ?_)
        clear hK K
        obtain ⟨c5, -, -, -⟩ := hS5
        refine wpAnyU_takeY (i := 15) (v := .pointer (some ⟨g, u * 8, none⟩)) rfl (by kernel_rfl) (by kernel_rfl) (by kernel_rfl) (fun _ _ _ h => h) (by decide) (Or.inl ⟨by rfl, fun w _ => by go_simp; (try with_reducible rfl)⟩) hHeld ?_
        refine wpAnyU_takeY (i := 16) (v := .pointer (some ⟨g, u * 8 + 5, none⟩)) rfl (by kernel_rfl) (by kernel_rfl) (by kernel_rfl) (fun _ _ _ h => h) (by decide) (Or.inl ⟨by rfl, fun w _ => by go_simp; (try with_reducible rfl)⟩) hHeld ?_
        refine wpAnyU_switch (by kernel_rfl) ?_
        refine wpAny_ready (rs := [17]) (by kernel_rfl) (by simp) ?_
        refine AllReady.cons rfl (fun K hK => ?_) AllReady.nil
        go_simp
        refine hK _ _ ?_
        clear hK K
        refine wpAny_done (by kernel_rfl) ?_ _
        clear c5 f5 hHeld HCS hbc
        have hb5w : wr.heap.size + 2 < w5.heap.size := by simp at hsz5; omega
        have ht3 : (w5.setCell ⟨g, u * 8 + 5, none⟩ (.slice (some ⟨g5, 0, none⟩) ((Ref.inTo s j).length + 1) cap5)).heap[wr.heap.size + 1]? = some (.cells #[.string y.m.event] 327 (0, 0)) := by
          rw [(only_setCell w5 g _ _).block _ (by omega)]; exact ht5
        have hsz3 : w5.heap.size ≤ (w5.setCell ⟨g, u * 8 + 5, none⟩ (.slice (some ⟨g5, 0, none⟩) ((Ref.inTo s j).length + 1) cap5)).heap.size := by rw [(only_setCell w5 g _ _).size]; exact Nat.le_refl _
        have G3 := HG3.out
        clear HG3
        generalize w5.setCell ⟨g, u * 8 + 5, none⟩ (.slice (some ⟨g5, 0, none⟩) ((Ref.inTo s j).length + 1) cap5) = W3 at G3 ht3 hsz3 ⊢
        have HG3 : Hid _ := G3
        clear G3
        have HCT : Hid (∀ W, Below W3.heap.size W3 W → W.cell? ⟨g, u * 8 + 6, none⟩ = some (.slice vl.a vl.n vl.c) ∧ W.cell? ⟨wr.heap.size + 1, 0, none⟩ = some (.string y.m.event)) := by
          intro W hb
          have h2 := (hb.block _ (by omega)).trans ht3
          refine ⟨((HG3.out.keep hb).cell hu 6 (by decide)).trans rfl, ?_⟩
          rw [cell_of_row W _ _ _ _ _ h2]; rfl
        go_upto_region 7 with fail
        refine wp_region_U (s := 12) (S := (fun W => W.cell? ⟨g, u * 8 + 6, none⟩ = some (.slice vl.a vl.n vl.c) ∧ W.cell? ⟨wr.heap.size + 1, 0, none⟩ = some (.string y.m.event))) (by kernel_rfl) (HCT.out _ (Below.refl _ _).drew) (fun hHeld => ?_)
        refine wpAnyU_takeY (i := 0) (v := .pointer (some ⟨g, u * 8, none⟩)) rfl (by kernel_rfl) (by kernel_rfl) (by kernel_rfl) (fun _ _ _ h => h) (by decide) (Or.inl ⟨by rfl, fun w _ => by go_simp; (try with_reducible rfl)⟩) hHeld ?_
        refine wpAnyU_takeY (i := 1) (v := .pointer (some ⟨g, u * 8, none⟩)) rfl (by kernel_rfl) (by kernel_rfl) (by kernel_rfl) (fun _ _ _ h => h) (by decide) (Or.inl ⟨by rfl, fun w _ => by go_simp; (try with_reducible rfl)⟩) hHeld ?_
        refine wpAnyU_takeY (i := 2) (v := .pointer (some ⟨g, u * 8, none⟩)) rfl (by kernel_rfl) (by kernel_rfl) (by kernel_rfl) (fun _ _ _ h => h) (by decide) (Or.inl ⟨by rfl, fun w _ => by go_simp; (try with_reducible rfl)⟩) hHeld ?_
        refine wpAnyU_takeY (i := 3) (v := .pointer (some ⟨g, u * 8 + 6, none⟩)) rfl (by kernel_rfl) (by kernel_rfl) (by kernel_rfl) (fun _ _ _ h => h) (by decide) (Or.inl ⟨by rfl, fun w _ => by go_simp; (try with_reducible rfl)⟩) hHeld ?_
        refine wpAnyU_take (i := 4) (v := .slice vl.a vl.n vl.c) rfl (by kernel_rfl) (by kernel_rfl) (by kernel_rfl) (fun _ _ _ h => h) rfl (by kernel_rfl) (by kernel_rfl) (Or.inl ⟨by rfl, fun w hSw => by (try dsimp only at hSw); go_simp; (try with_reducible rfl)⟩) hHeld ?_
        refine wpAnyU_take (i := 5) (v := .agg #[.string y.m.event]) rfl (by kernel_rfl) (by kernel_rfl) (by kernel_rfl) (fun _ _ _ h => h) rfl (by kernel_rfl) (by kernel_rfl) (Or.inl ⟨by rfl, fun w hSw => by (try dsimp only at hSw); go_simp; (try with_reducible rfl)⟩) hHeld ?_
        refine wpAnyU_takeY (i := 6) (v := .agg #[.string y.m.event]) rfl (by kernel_rfl) (by kernel_rfl) (by kernel_rfl) (fun _ _ _ h => h) (by decide) (Or.inl ⟨by rfl, fun w _ => by go_simp; (try with_reducible rfl)⟩) hHeld ?_
        refine wpAnyU_takeY (i := 7) (v := .iface 333 (.agg #[.string y.m.event])) rfl (by kernel_rfl) (by kernel_rfl) (by kernel_rfl) (fun _ _ _ h => h) (by decide) (Or.inl ⟨by rfl, fun w _ => by go_simp; (try with_reducible rfl)⟩) hHeld ?_
        refine wpAnyU_ready (rs := [8]) (by kernel_rfl) (by simp) ?_
        refine AllReadyU.cons rfl (fun K hK => ?_) AllReadyU.nil
        go_simp
        have hbd : Below W3.heap.size W3 ((W3.alloc (.cells #[.iface 333 (.agg #[.string y.m.event])] 324)).drew) := ((Below.refl _ _).alloc (Nat.le_refl _) _).drew
        refine hK.out _ _ (HCT.out _ hbd) (fun hHeld => ?_)
        clear hK K
        refine wpAnyU_ready (rs := [9]) (by kernel_rfl) (by simp) ?_
        refine AllReadyU.cons rfl (fun K hK => ?_) AllReadyU.nil
        refine step_append_lies _ (by rfl) _ _ _ (by rfl) w.heap.size 324 i0 _ 1 16 Tryz.underlying239 hi hz0 hz1 hz2 rfl (by decide) (.slice vl.a vl.n vl.c) (Ref.outTo s j).length ((Ref.outTo s j).map actV) (by rfl) ((World.ownsRow.alloc HG3.out.leave _).drew) ⟨W3.heap.size, 0, none⟩ 1 1 [.iface 333 (.agg #[.string y.m.event])] (by rfl) (by rfl) (World.news_of_block (cs := #[.iface 333 (.agg #[.string y.m.event])]) (t := 324) (fr := (0, 0)) (heap_alloc_new W3 _)) (by simp [Value.oneCell']) (by omega) (by unfold maxLen; omega) (by omega) (by have := HG3.out.turned.size; simp; omega) (W3.heap.size + 1) (by simp) ?_
        intro g6 cap6 w6 hown6 hgrow6 hat6 hlt6
        have hne6 := (HG3.out.eneg).2.1
        have hgl3 := HG3.out.glt.2
        have hfar6 : some (wr.heap.size + 1) ≠ vl.v.ownBlock := fun e => by
          have := (World.ownsRow.lt HG.out.leave _ e.symm).2
          omega
        have hS6 : w6.cell? ⟨g, u * 8 + 6, none⟩ = some (.slice vl.a vl.n vl.c) ∧ w6.cell? ⟨wr.heap.size + 1, 0, none⟩ = some (.string y.m.event) :=
          ⟨(hgrow6.cell_far _ (by simp; omega) hne6).trans hHeld.1, (hgrow6.cell_far _ (by simp; omega) hfar6).trans hHeld.2⟩
        have HG4 : Hid (LowAt w (w6.setCell ⟨g, u * 8 + 6, none⟩ (.slice (some ⟨g6, 0, none⟩) ((Ref.outTo s j).length + 1) cap6)) B g cap X u x ⟨some ⟨g5, 0, none⟩, (Ref.inTo s j).length + 1, cap5⟩ ⟨some ⟨g6, 0, none⟩, (Ref.outTo s j).length + 1, cap6⟩ ⟨some ⟨mb, 0, none⟩, M.length, smc⟩ (Ref.inTo s j ++ [Ref.inAct y.m]) (Ref.outTo s j ++ [Ref.outAct y.m]) (Pro.movesAt M j)) := by
          unfold Hid
          refine HG3.out.addLeave (vl' := ⟨some ⟨g6, 0, none⟩, (Ref.outTo s j).length + 1, cap6⟩) hu hbd hgrow6 (by rw [HV2.out]; exact hown6) ?_
          rcases hat6 with h | h
          · exact .inl h.symm
          · exact .inr (by rw [h]; simp [Ref.Sl.v, Value.ownBlock])
        have f6 : w6.frozen? ⟨g, u * 8 + 6, none⟩ = false := (hgrow6.frozen_far _ (by simp; omega) hne6).trans ((hbd.frozen (p := ⟨g, u * 8 + 6, none⟩) (by simp; omega)).trans (HG3.out.frozen _))
        clear hown6 hgrow6 hat6
        refine hK.out _ _ hS6 (fun hHeld => ?_)
        clear hK K
        obtain ⟨c6, -⟩ := hS6
        refine wpAnyU_takeY (i := 10) (v := .pointer (some ⟨g, u * 8, none⟩)) rfl (by kernel_rfl) (by kernel_rfl) (by kernel_rfl) (fun _ _ _ h => h) (by decide) (Or.inl ⟨by rfl, fun w _ => by go_simp; (try with_reducible rfl)⟩) hHeld ?_
        refine wpAnyU_takeY (i := 11) (v := .pointer (some ⟨g, u * 8 + 6, none⟩)) rfl (by kernel_rfl) (by kernel_rfl) (by kernel_rfl) (fun _ _ _ h => h) (by decide) (Or.inl ⟨by rfl, fun w _ => by go_simp; (try with_reducible rfl)⟩) hHeld ?_
        refine wpAnyU_switch (by kernel_rfl) ?_
        refine wpAny_ready (rs := [12]) (by kernel_rfl) (by simp) ?_
        refine AllReady.cons rfl (fun K hK => ?_) AllReady.nil
        go_simp
        refine hK _ _ ?_
        clear hK K
        refine wpAny_done (by kernel_rfl) ?_ _
        clear c6 f6 hHeld HCT hbd
        have G4 := HG4.out
        clear HG4
        generalize w6.setCell ⟨g, u * 8 + 6, none⟩ (.slice (some ⟨g6, 0, none⟩) ((Ref.outTo s j).length + 1) cap6) = W4 at G4 ⊢
        have c7 : W4.drew.cell? ⟨g, u * 8 + 7, none⟩ = some (.slice (some ⟨mb, 0, none⟩) M.length smc) := (G4.cell hu 7 (by decide)).trans rfl
        have hgm : g ≠ mb := fun e => by have := G4.eneg.2.2; rw [e] at this; exact this rfl
        have hmo4 : W4.ownsRow w.heap.size 295 5 (.slice (some ⟨mb, 0, none⟩) (Pro.movesAt M j).length smc) (Pro.movesAt M j).length ((Pro.movesAt M j).flatMap Pro.pvCells) := by
          have := G4.moves
          unfold Ref.Sl.v at this
          rw [show M.length = (Pro.movesAt M j).length from HQL.out.symm] at this
          exact this
        have hjq : j < (Pro.movesAt M j).length := by rw [HQL.out]; exact hjn
        obtain ⟨v1, m1⟩ : ∃ v1, W4.cell? ⟨mb, j * 5 + 1, none⟩ = some (.bool v1) := by
          refine ⟨(Pro.movesAt M j)[j].m.after, ?_⟩
          rw [hmo4.cellAt _ (by omega), Ref.flat_get (f := Pro.pvCells) (n := 5) (fun _ => rfl) _ j 1 (by decide) hjq]; rfl
        obtain ⟨v2, m2⟩ : ∃ v2, W4.cell? ⟨mb, j * 5 + 2, none⟩ = some (.int .u64 v2) := by
          refine ⟨(Pro.movesAt M j)[j].m.delay, ?_⟩
          rw [hmo4.cellAt _ (by omega), Ref.flat_get (f := Pro.pvCells) (n := 5) (fun _ => rfl) _ j 2 (by decide) hjq]; rfl
        have fm1 : W4.frozen? ⟨mb, j * 5 + 1, none⟩ = false := World.ownsRow.frozenAt (own_mono hmo4 (Nat.zero_le _)) _
        have fm2 : W4.frozen? ⟨mb, j * 5 + 2, none⟩ = false := World.ownsRow.frozenAt (own_mono hmo4 (Nat.zero_le _)) _
        have HG5 : Hid (LowAt w ((W4.setCell ⟨mb, j * 5 + 1, none⟩ (.bool false)).setCell ⟨mb, j * 5 + 2, none⟩ (.int .u64 0)).drew B g cap X u x ⟨some ⟨g5, 0, none⟩, (Ref.inTo s j).length + 1, cap5⟩ ⟨some ⟨g6, 0, none⟩, (Ref.outTo s j).length + 1, cap6⟩ ⟨some ⟨mb, 0, none⟩, M.length, smc⟩ (Ref.inTo s (j + 1)) (Ref.outTo s (j + 1)) (Pro.movesAt M (j + 1))) := by
          unfold Hid
          have hQ := HQL.out
          have hset := LowAt.setMove (Q := Pro.movesAt M j) (mb := mb) (cm := smc) (j := j) (by rw [hQ]; exact G4) hjq
          rw [hQ] at hset
          have e1 : Ref.inTo s (j + 1) = Ref.inTo s j ++ [Ref.inAct y.m] := by rw [Ref.inTo, HMJ.out]; simp [HA.out]
          have e2 : Ref.outTo s (j + 1) = Ref.outTo s j ++ [Ref.outAct y.m] := by rw [Ref.outTo, HMJ.out]; simp [HA.out]
          have e3 : Pro.movesAt M (j + 1) = (Pro.movesAt M j).set j { (Pro.movesAt M j)[j] with m := { (Pro.movesAt M j)[j].m with after := false, delay := 0 } } := by
            rw [Pro.movesAt_next M j hjn, Pro.movesAt_get M j hjn hjq, ← HY.out]
            congr 1
            unfold Pro.lowPV Pro.lowMove
            rw [if_pos HA.out]
          rw [e1, e2, e3]
          exact hset.keep (Below.refl _ _).drew
        clear hmo4 hjq G4 HG3 HG
        go_upto_region 8 with fail
        refine wp_region_held_drew (S := (fun W => W.cell? ⟨g, u * 8 + 7, none⟩ = some (.slice (some ⟨mb, 0, none⟩) M.length smc))) (by kernel_rfl) c7 (fun hHeld => ?_)
        refine wpAnyH_take (i := 0) (v := .pointer (some ⟨g, u * 8, none⟩)) rfl (by kernel_rfl) (by kernel_rfl) (by kernel_rfl) (fun _ _ _ h => h) (Or.inl ⟨by rfl, fun w hSw => by (try dsimp only at hSw); go_simp; (try with_reducible rfl)⟩) hHeld ?_
        refine wpAnyH_take (i := 1) (v := .pointer (some ⟨g, u * 8, none⟩)) rfl (by kernel_rfl) (by kernel_rfl) (by kernel_rfl) (fun _ _ _ h => h) (Or.inl ⟨by rfl, fun w hSw => by (try dsimp only at hSw); go_simp; (try with_reducible rfl)⟩) hHeld ?_
        refine wpAnyH_take (i := 2) (v := .pointer (some ⟨g, u * 8 + 7, none⟩)) rfl (by kernel_rfl) (by kernel_rfl) (by kernel_rfl) (fun _ _ _ h => h) (Or.inl ⟨by rfl, fun w hSw => by (try dsimp only at hSw); go_simp; (try with_reducible rfl)⟩) hHeld ?_
        refine wpAnyH_take (i := 3) (v := .slice (some ⟨mb, 0, none⟩) M.length smc) rfl (by kernel_rfl) (by kernel_rfl) (by kernel_rfl) (fun _ _ _ h => h) (Or.inl ⟨by rfl, fun w hSw => by (try dsimp only at hSw); go_simp; (try with_reducible rfl)⟩) hHeld ?_
        refine wpAnyH_take (i := 4) (v := .int .i64 j) rfl (by kernel_rfl) (by kernel_rfl) (by kernel_rfl) (fun _ _ _ h => h) (Or.inl ⟨by rfl, fun w hSw => by (try dsimp only at hSw); go_simp; (try with_reducible rfl)⟩) hHeld ?_
        refine wpAnyH_take (i := 5) (v := .pointer (some ⟨g, u * 8, none⟩)) rfl (by kernel_rfl) (by kernel_rfl) (by kernel_rfl) (fun _ _ _ h => h) (Or.inl ⟨by rfl, fun w hSw => by (try dsimp only at hSw); go_simp; (try with_reducible rfl)⟩) hHeld ?_
        refine wpAnyH_take (i := 6) (v := .pointer (some ⟨g, u * 8, none⟩)) rfl (by kernel_rfl) (by kernel_rfl) (by kernel_rfl) (fun _ _ _ h => h) (Or.inl ⟨by rfl, fun w hSw => by (try dsimp only at hSw); go_simp; (try with_reducible rfl)⟩) hHeld ?_
        refine wpAnyH_take (i := 7) (v := .pointer (some ⟨g, u * 8 + 7, none⟩)) rfl (by kernel_rfl) (by kernel_rfl) (by kernel_rfl) (fun _ _ _ h => h) (Or.inl ⟨by rfl, fun w hSw => by (try dsimp only at hSw); go_simp; (try with_reducible rfl)⟩) hHeld ?_
        refine wpAnyH_take (i := 8) (v := .slice (some ⟨mb, 0, none⟩) M.length smc) rfl (by kernel_rfl) (by kernel_rfl) (by kernel_rfl) (fun _ _ _ h => h) (Or.inl ⟨by rfl, fun w hSw => by (try dsimp only at hSw); go_simp; (try with_reducible rfl)⟩) hHeld ?_
        refine wpAnyH_take (i := 9) (v := .int .i64 j) rfl (by kernel_rfl) (by kernel_rfl) (by kernel_rfl) (fun _ _ _ h => h) (Or.inl ⟨by rfl, fun w hSw => by (try dsimp only at hSw); go_simp; (try with_reducible rfl)⟩) hHeld ?_
        refine wpAnyH_take (i := 10) (v := .pointer (some ⟨mb, j * 5, none⟩)) rfl (by kernel_rfl) (by kernel_rfl) (by kernel_rfl) (fun _ _ _ h => h) (Or.inl ⟨by rfl, fun w hSw => by (try dsimp only at hSw); go_simp; (try with_reducible rfl)⟩) hHeld ?_
        refine wpAnyH_take (i := 11) (v := .pointer (some ⟨mb, j * 5 + 1, none⟩)) rfl (by kernel_rfl) (by kernel_rfl) (by kernel_rfl) (fun _ _ _ h => h) (Or.inl ⟨by rfl, fun w hSw => by (try dsimp only at hSw); go_simp; (try with_reducible rfl)⟩) hHeld ?_
        refine wpAnyH_ready (rs := [12]) (by kernel_rfl) (by simp) ?_
        refine AllReadyH.cons rfl (fun K hK => ?_) AllReadyH.nil
        go_simp
        refine hK.out _ _ (((only_setCell W4 mb (j * 5 + 1) (.bool false)).cell (p := ⟨g, u * 8 + 7, none⟩) hgm).trans c7) (fun hHeld => ?_)
        clear hK K
        refine wpAnyH_take (i := 13) (v := .pointer (some ⟨mb, j * 5, none⟩)) rfl (by kernel_rfl) (by kernel_rfl) (by kernel_rfl) (fun _ _ _ h => h) (Or.inl ⟨by rfl, fun w hSw => by (try dsimp only at hSw); go_simp; (try with_reducible rfl)⟩) hHeld ?_
        refine wpAnyH_take (i := 14) (v := .pointer (some ⟨mb, j * 5 + 2, none⟩)) rfl (by kernel_rfl) (by kernel_rfl) (by kernel_rfl) (fun _ _ _ h => h) (Or.inl ⟨by rfl, fun w hSw => by (try dsimp only at hSw); go_simp; (try with_reducible rfl)⟩) hHeld ?_
        refine wpAnyH_ready (rs := [15]) (by kernel_rfl) (by simp) ?_
        refine AllReadyH.cons rfl (fun K hK => ?_) AllReadyH.nil
        go_simp
        refine hK.out _ _ (((only_setCell (W4.setCell ⟨mb, j * 5 + 1, none⟩ (.bool false)) mb (j * 5 + 2) (.int .u64 0)).cell (p := ⟨g, u * 8 + 7, none⟩) hgm).trans (((only_setCell W4 mb (j * 5 + 1) (.bool false)).cell (p := ⟨g, u * 8 + 7, none⟩) hgm).trans c7)) (fun hHeld => ?_)
        clear hK K
        refine wpAnyH_done (by kernel_rfl) ?_ _
        go_wp2
        go_roundg (M.length - (j + 1))
        case measure => omega
        case rel => exact ⟨j + 1, _, _, rfl, by omega, by go_num, HG5.out⟩
    · have hje : j = M.length := by omega
      subst hje
      go_wp2
      go_end0
      refine ⟨rfl, ve, vl, ⟨sma, M.length, smc⟩, ?_⟩
      rw [Pro.movesAt_all] at G
      rw [HXX.out] at G
      exact G
end Go.Proofs.YtegmoddppafkfaaGreatDoor
