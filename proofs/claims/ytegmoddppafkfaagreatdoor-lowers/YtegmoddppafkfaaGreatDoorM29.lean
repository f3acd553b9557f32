/-
  MY OWN TEXT.
-/
import Derived.Test.YtegmoddppafkfaaGreatDoorM28
namespace Go.Proofs.YtegmoddppafkfaaGreatDoor
open Go.RowKit

theorem Tryz.mNamesR (a : Value) (w : World) : (method 599 435 (.agg #[a]) "Names").run Tryz.prog w = .ok (348, .agg #[a]) w := by kernel_rfl
theorem Tryz.mNamesC (a : Value) (w : World) : (method 599 333 (.agg #[a]) "Names").run Tryz.prog w = .ok (348, .agg #[a]) w := by kernel_rfl
theorem Tryz.mNamesS (a b : Value) (w : World) : (method 599 329 (.agg #[a, b]) "Names").run Tryz.prog w = .ok (348, .agg #[a]) w := by kernel_rfl
theorem Tryz.mNamesA (a b c : Value) (w : World) : (method 599 331 (.agg #[a, b, c]) "Names").run Tryz.prog w = .ok (354, .agg #[a, b, c]) w := by kernel_rfl
/-- The four makes of actions. -/
theorem act_cases (x : Ref.Act) : (actV x = .iface 435 (.agg #[.string x.event]) ∧ Pro.namesOf x = [x.event]) ∨ (actV x = .iface 333 (.agg #[.string x.id]) ∧ Pro.namesOf x = [x.id]) ∨ (actV x = .iface 329 (.agg #[.string x.event, .int .u64 x.delay]) ∧ Pro.namesOf x = [x.event]) ∨ (actV x = .iface 331 (.agg #[.string x.event, .int .u64 x.delay, .string x.id]) ∧ Pro.namesOf x = [x.event, x.id]) := by
  unfold actV Pro.namesOf
  cases h1 : (x.how.toList == Ref.cRaise)
  · cases h2 : (x.how.toList == Ref.cCancel)
    · simp only [Bool.false_eq_true, if_false]
      by_cases h3 : x.id.size = 0
      · rw [if_pos h3, if_pos h3]; exact .inr (.inr (.inl ⟨rfl, rfl⟩))
      · rw [if_neg h3, if_neg h3]; exact .inr (.inr (.inr ⟨rfl, rfl⟩))
    · simp only [Bool.false_eq_true, if_false, if_true]
      exact .inr (.inl ⟨by first | rfl | trivial, by first | rfl | trivial⟩)
  · simp only [if_true]
    exact .inl ⟨by first | rfl | trivial, by first | rfl | trivial⟩
/-- What checkActions answers. -/
def ActsOK (tm : Bool) (num : Int) (A : List Ref.Act) (w : World) (e : Ending) (w' : World) : Prop := if tm && Ref.mine A then Refused 4 num w e w' else e = .returned (.tuple #[]) ∧ Below w.heap.size w w'
set_option maxRecDepth 100000 in
set_option maxHeartbeats 3200000 in
theorem checkActions_any (db : Nat) (num dep : Int) (tm : Bool) (A : List Ref.Act) (a : Option Addr) (n c : Nat) (w : World) (hd : w.cell? ⟨db, 4, none⟩ = some (.bool tm)) (hA : w.ownsRow 0 324 1 (.slice a n c) A.length (A.map actV)) (hS : ∀ x ∈ A, Pro.Shape x) (hl : A.length ≤ 100000) :
    Calls Tryz.prog 366 #[.pointer (some ⟨db, 0, none⟩), .agg #[.int .i64 num, .int .i64 dep], .slice a n c] w (ActsOK tm num A w) := by
  have hdl := World.block_lt_of_cell? _ _ hd
  have hn : n = A.length := by
    rcases hA.2 with ⟨h, h0⟩ | ⟨g, cap, cur, h, _⟩
    · simp at h; rw [h0]; exact h.2.1
    · simp at h; exact h.2.1
  subst hn
  have HC : Hid (∀ k (hk : k < A.length), ∃ ab, a = some ⟨ab, 0, none⟩ ∧ w.cell? ⟨ab, k, none⟩ = some (actV A[k]) ∧ A.length ≤ c) := fun k hk => by
    rcases hA.2 with ⟨_, h0⟩ | ⟨g, cap, cur, h, _, hg, hle, _, _, h4⟩
    · omega
    · simp at h
      refine ⟨g, h.1, ?_, by rw [h.2]; exact hle⟩
      rw [cell_of_row w g k _ _ _ hg]
      have h5 : (cur.toList.take (A.length * 1))[k]? = (A.map actV)[k]? := by rw [h4]
      rw [List.getElem?_take, if_pos (by omega)] at h5
      rw [← Array.getElem?_toList, h5]
      simp [List.getElem?_eq_getElem hk]
  have HSh : Hid _ := hS
  clear hA hS
  go_enter Tryz.func366, Tryz.ntmps366
  go_wp2
  go_loopg [10] A.length (fun q i wr => ∃ k : Nat, q = A.length - k ∧ k ≤ A.length ∧ i = .int .i64 k ∧ (tm && Ref.mine (A.take k)) = false ∧ Below w.heap.size w wr ∧ wr.heap[w.heap.size]? = some (.cells #[.int .i64 num, .int .i64 dep] 286 (0, 0)))
  case atStart => exact ⟨0, rfl, Nat.zero_le _, rfl, by cases tm <;> rfl, (Below.refl _ _).alloc (Nat.le_refl _) _, heap_alloc_new _ _⟩
  case round =>
    obtain ⟨k, hq, hk, rfl, hno, hbr, hbx⟩ := hrel
    have hbs := hbr.size
    have hlw := (Array.getElem?_eq_some_iff.1 hbx).1
    by_cases hkn : k < A.length
    · obtain ⟨ab, ha, ck, hcc⟩ := HC.out k hkn
      subst ha
      have hab := World.block_lt_of_cell? _ _ ck
      obtain ⟨x, hx⟩ : ∃ x, x = A[k] := ⟨_, rfl⟩
      have cr : wr.cell? ⟨ab, k, none⟩ = some (actV x) := by rw [hx]; exact (World.cell?_of_block (w := w) (hbr.block ab hab)).trans ck
      have b0 : wr.cell? ⟨w.heap.size, 0, none⟩ = some (.int .i64 num) := by rw [cell_of_row wr _ _ _ _ _ hbx]; rfl
      have b1 : wr.cell? ⟨w.heap.size, 1, none⟩ = some (.int .i64 dep) := by rw [cell_of_row wr _ _ _ _ _ hbx]; rfl
      have HN : Hid (Ref.mine (A.take (k + 1)) = (Ref.mine (A.take k) || Pro.resv (Pro.namesOf x))) := by
        unfold Hid Ref.mine
        rw [List.take_add_one, List.getElem?_eq_getElem hkn, List.any_append, ← hx, Pro.resv_names (HSh.out x (by rw [hx]; exact List.getElem_mem hkn))]
        simp
      have HT : Hid (Ref.mine (A.take (k + 1)) = true → Ref.mine A = true) := by
        intro h
        unfold Ref.mine at h ⊢
        rw [List.any_eq_true] at h ⊢
        obtain ⟨y, hy, hy2⟩ := h
        exact ⟨y, List.mem_of_mem_take hy, hy2⟩
      have HNo : Hid _ := hno
      have HD : Hid (∀ w2, Below wr.heap.size wr w2 → w2.cell? ⟨db, 4, none⟩ = some (.bool tm) ∧ w2.heap[w.heap.size]? = some (.cells #[.int .i64 num, .int .i64 dep] 286 (0, 0)) ∧ w2.cell? ⟨w.heap.size, 0, none⟩ = some (.int .i64 num) ∧ w2.cell? ⟨w.heap.size, 1, none⟩ = some (.int .i64 dep) ∧ Below w.heap.size w w2) := by
        intro w2 hb2
        have hx2 := (hb2.block _ hlw).trans hbx
        have hb3 := hbr.trans (hb2.mono hbs)
        exact ⟨(World.cell?_of_block (w := w) (hb3.block db hdl)).trans hd, hx2, by rw [cell_of_row w2 _ _ _ _ _ hx2]; rfl, by rw [cell_of_row w2 _ _ _ _ _ hx2]; rfl, hb3⟩
      clear hno hx ck
      rcases act_cases x with ⟨hv, hnm⟩ | ⟨hv, hnm⟩ | ⟨hv, hnm⟩ | ⟨hv, hnm⟩
      · rw [hv] at cr
        rw [hnm] at HN
        clear hv hnm
        have hmN := Tryz.mNamesR
        go_upto_region 4 with fail
        refine wp_region_any (by kernel_rfl) ?_
        change wpAny _ _ _ _ _ _ _ (World.drew _)
        refine wpAny_take (i := 0) (v := .pointer (some ⟨db, 0, none⟩)) rfl (by kernel_rfl) (by kernel_rfl) (by kernel_rfl) (fun _ _ _ h => h) (Or.inl ⟨by rfl, fun w => by go_simp⟩) ?_
        refine wpAny_take (i := 2) (v := (.iface 435 (.agg #[.string x.event]))) rfl (by kernel_rfl) (by kernel_rfl) (by kernel_rfl) (fun _ _ _ h => h) (Or.inl ⟨by rfl, fun w => by go_simp⟩) ?_
        refine wpAny_ready (rs := [1, 3]) (by kernel_rfl) (by simp) ?_
        refine AllReady.cons rfl (fun K hK => ?_) (AllReady.cons rfl (fun K hK => ?_) AllReady.nil)
        · go_simp
          refine hK _ _ ?_
          clear hK K
          refine wpAny_ready (rs := [3]) (by kernel_rfl) (by simp) ?_
          refine AllReady.cons rfl (fun K hK => ?_) AllReady.nil
          go_simp
          refine Calls.mono (names_one x.event _) ?_
          rintro e w2 ⟨nb, c2, rfl, hown, hb2⟩
          have hb2' : Below wr.heap.size wr w2 := ((Below.refl _ _).drew).trans hb2
          obtain ⟨e4, hx2, e0, e1, hbw2⟩ := HD.out w2 hb2'
          obtain ⟨hst, hnbl, _⟩ := own_strs (l := [x.event]) hown
          dsimp only
          refine hK _ _ ?_
          clear hK K
          refine wpAny_ready (rs := [4]) (by kernel_rfl) (by simp) ?_
          refine AllReady.cons rfl (fun K hK => ?_) AllReady.nil
          go_simp
          have hq4 := checkReserved_any db num dep tm [x.event] nb c2 w2 e4 hst hnbl (by simp)
          refine Calls.mono hq4 ?_
          rintro e w3 h3
          unfold ResPost at h3
          cases hr : (tm && Pro.resv [x.event]) with
          | true =>
            rw [hr, if_pos rfl] at h3
            have HM : Hid ((tm && Ref.mine A) = true) := by
              rw [Bool.and_eq_true] at hr
              unfold Hid
              rw [hr.1, HT.out (by rw [HN.out, hr.2]; simp)]; rfl
            obtain ⟨hb, b, h5, h6, rfl⟩ := h3
            dsimp only
            refine ⟨rfl, ?_⟩
            unfold ActsOK
            rw [if_pos HM.out]
            exact ⟨hbw2.trans (hb.mono hbw2.size), b, Nat.le_trans hbw2.size h5, h6, rfl⟩
          | false =>
            rw [hr, if_neg (by simp)] at h3
            obtain ⟨rfl, hb3⟩ := h3
            have HM : Hid ((tm && Ref.mine (A.take (k + 1))) = false) := by
              unfold Hid
              have h1 := HNo.out
              rw [HN.out]
              cases tm with
              | false => rfl
              | true => simp only [Bool.true_and] at h1 hr ⊢; rw [h1, hr]; rfl
            have hbw3 := hbw2.trans (hb3.mono hbw2.size)
            have hbx3 := (hb3.block _ (Array.getElem?_eq_some_iff.1 hx2).1).trans hx2
            clear hr
            dsimp only
            refine hK _ _ ?_
            clear hK K
            refine wpAny_done (by kernel_rfl) ?_ _
            go_wp2
            go_roundg (A.length - (k + 1))
            case measure => omega
            case rel => exact ⟨k + 1, rfl, by omega, by go_num, HM.out, hbw3, hbx3⟩
        · go_simp
          refine Calls.mono (names_one x.event _) ?_
          rintro e w2 ⟨nb, c2, rfl, hown, hb2⟩
          have hb2' : Below wr.heap.size wr w2 := ((Below.refl _ _).drew).trans hb2
          obtain ⟨e4, hx2, e0, e1, hbw2⟩ := HD.out w2 hb2'
          obtain ⟨hst, hnbl, _⟩ := own_strs (l := [x.event]) hown
          dsimp only
          refine hK _ _ ?_
          clear hK K
          refine wpAny_ready (rs := [1]) (by kernel_rfl) (by simp) ?_
          refine AllReady.cons rfl (fun K hK => ?_) AllReady.nil
          go_simp
          refine hK _ _ ?_
          clear hK K
          refine wpAny_ready (rs := [4]) (by kernel_rfl) (by simp) ?_
          refine AllReady.cons rfl (fun K hK => ?_) AllReady.nil
          go_simp
          have hq4 := checkReserved_any db num dep tm [x.event] nb c2 w2 e4 hst hnbl (by simp)
          refine Calls.mono hq4 ?_
          rintro e w3 h3
          unfold ResPost at h3
          cases hr : (tm && Pro.resv [x.event]) with
          | true =>
            rw [hr, if_pos rfl] at h3
            have HM : Hid ((tm && Ref.mine A) = true) := by
              rw [Bool.and_eq_true] at hr
              unfold Hid
              rw [hr.1, HT.out (by rw [HN.out, hr.2]; simp)]; rfl
            obtain ⟨hb, b, h5, h6, rfl⟩ := h3
            dsimp only
            refine ⟨rfl, ?_⟩
            unfold ActsOK
            rw [if_pos HM.out]
            exact ⟨hbw2.trans (hb.mono hbw2.size), b, Nat.le_trans hbw2.size h5, h6, rfl⟩
          | false =>
            rw [hr, if_neg (by simp)] at h3
            obtain ⟨rfl, hb3⟩ := h3
            have HM : Hid ((tm && Ref.mine (A.take (k + 1))) = false) := by
              unfold Hid
              have h1 := HNo.out
              rw [HN.out]
              cases tm with
              | false => rfl
              | true => simp only [Bool.true_and] at h1 hr ⊢; rw [h1, hr]; rfl
            have hbw3 := hbw2.trans (hb3.mono hbw2.size)
            have hbx3 := (hb3.block _ (Array.getElem?_eq_some_iff.1 hx2).1).trans hx2
            clear hr
            dsimp only
            refine hK _ _ ?_
            clear hK K
            refine wpAny_done (by kernel_rfl) ?_ _
            go_wp2
            go_roundg (A.length - (k + 1))
            case measure => omega
            case rel => exact ⟨k + 1, rfl, by omega, by go_num, HM.out, hbw3, hbx3⟩
      · rw [hv] at cr
        rw [hnm] at HN
        clear hv hnm
        have hmN := Tryz.mNamesC
        go_upto_region 4 with fail
        refine wp_region_any (by kernel_rfl) ?_
        change wpAny _ _ _ _ _ _ _ (World.drew _)
        refine wpAny_take (i := 0) (v := .pointer (some ⟨db, 0, none⟩)) rfl (by kernel_rfl) (by kernel_rfl) (by kernel_rfl) (fun _ _ _ h => h) (Or.inl ⟨by rfl, fun w => by go_simp⟩) ?_
        refine wpAny_take (i := 2) (v := (.iface 333 (.agg #[.string x.id]))) rfl (by kernel_rfl) (by kernel_rfl) (by kernel_rfl) (fun _ _ _ h => h) (Or.inl ⟨by rfl, fun w => by go_simp⟩) ?_
        refine wpAny_ready (rs := [1, 3]) (by kernel_rfl) (by simp) ?_
        refine AllReady.cons rfl (fun K hK => ?_) (AllReady.cons rfl (fun K hK => ?_) AllReady.nil)
        · go_simp
          refine hK _ _ ?_
          clear hK K
          refine wpAny_ready (rs := [3]) (by kernel_rfl) (by simp) ?_
          refine AllReady.cons rfl (fun K hK => ?_) AllReady.nil
          go_simp
          refine Calls.mono (names_one x.id _) ?_
          rintro e w2 ⟨nb, c2, rfl, hown, hb2⟩
          have hb2' : Below wr.heap.size wr w2 := ((Below.refl _ _).drew).trans hb2
          obtain ⟨e4, hx2, e0, e1, hbw2⟩ := HD.out w2 hb2'
          obtain ⟨hst, hnbl, _⟩ := own_strs (l := [x.id]) hown
          dsimp only
          refine hK _ _ ?_
          clear hK K
          refine wpAny_ready (rs := [4]) (by kernel_rfl) (by simp) ?_
          refine AllReady.cons rfl (fun K hK => ?_) AllReady.nil
          go_simp
          have hq4 := checkReserved_any db num dep tm [x.id] nb c2 w2 e4 hst hnbl (by simp)
          refine Calls.mono hq4 ?_
          rintro e w3 h3
          unfold ResPost at h3
          cases hr : (tm && Pro.resv [x.id]) with
          | true =>
            rw [hr, if_pos rfl] at h3
            have HM : Hid ((tm && Ref.mine A) = true) := by
              rw [Bool.and_eq_true] at hr
              unfold Hid
              rw [hr.1, HT.out (by rw [HN.out, hr.2]; simp)]; rfl
            obtain ⟨hb, b, h5, h6, rfl⟩ := h3
            dsimp only
            refine ⟨rfl, ?_⟩
            unfold ActsOK
            rw [if_pos HM.out]
            exact ⟨hbw2.trans (hb.mono hbw2.size), b, Nat.le_trans hbw2.size h5, h6, rfl⟩
          | false =>
            rw [hr, if_neg (by simp)] at h3
            obtain ⟨rfl, hb3⟩ := h3
            have HM : Hid ((tm && Ref.mine (A.take (k + 1))) = false) := by
              unfold Hid
              have h1 := HNo.out
              rw [HN.out]
              cases tm with
              | false => rfl
              | true => simp only [Bool.true_and] at h1 hr ⊢; rw [h1, hr]; rfl
            have hbw3 := hbw2.trans (hb3.mono hbw2.size)
            have hbx3 := (hb3.block _ (Array.getElem?_eq_some_iff.1 hx2).1).trans hx2
            clear hr
            dsimp only
            refine hK _ _ ?_
            clear hK K
            refine wpAny_done (by kernel_rfl) ?_ _
            go_wp2
            go_roundg (A.length - (k + 1))
            case measure => omega
            case rel => exact ⟨k + 1, rfl, by omega, by go_num, HM.out, hbw3, hbx3⟩
        · go_simp
          refine Calls.mono (names_one x.id _) ?_
          rintro e w2 ⟨nb, c2, rfl, hown, hb2⟩
          have hb2' : Below wr.heap.size wr w2 := ((Below.refl _ _).drew).trans hb2
          obtain ⟨e4, hx2, e0, e1, hbw2⟩ := HD.out w2 hb2'
          obtain ⟨hst, hnbl, _⟩ := own_strs (l := [x.id]) hown
          dsimp only
          refine hK _ _ ?_
          clear hK K
          refine wpAny_ready (rs := [1]) (by kernel_rfl) (by simp) ?_
          refine AllReady.cons rfl (fun K hK => ?_) AllReady.nil
          go_simp
          refine hK _ _ ?_
          clear hK K
          refine wpAny_ready (rs := [4]) (by kernel_rfl) (by simp) ?_
          refine AllReady.cons rfl (fun K hK => ?_) AllReady.nil
          go_simp
          have hq4 := checkReserved_any db num dep tm [x.id] nb c2 w2 e4 hst hnbl (by simp)
          refine Calls.mono hq4 ?_
          rintro e w3 h3
          unfold ResPost at h3
          cases hr : (tm && Pro.resv [x.id]) with
          | true =>
            rw [hr, if_pos rfl] at h3
            have HM : Hid ((tm && Ref.mine A) = true) := by
              rw [Bool.and_eq_true] at hr
              unfold Hid
              rw [hr.1, HT.out (by rw [HN.out, hr.2]; simp)]; rfl
            obtain ⟨hb, b, h5, h6, rfl⟩ := h3
            dsimp only
            refine ⟨rfl, ?_⟩
            unfold ActsOK
            rw [if_pos HM.out]
            exact ⟨hbw2.trans (hb.mono hbw2.size), b, Nat.le_trans hbw2.size h5, h6, rfl⟩
          | false =>
            rw [hr, if_neg (by simp)] at h3
            obtain ⟨rfl, hb3⟩ := h3
            have HM : Hid ((tm && Ref.mine (A.take (k + 1))) = false) := by
              unfold Hid
              have h1 := HNo.out
              rw [HN.out]
              cases tm with
              | false => rfl
              | true => simp only [Bool.true_and] at h1 hr ⊢; rw [h1, hr]; rfl
            have hbw3 := hbw2.trans (hb3.mono hbw2.size)
            have hbx3 := (hb3.block _ (Array.getElem?_eq_some_iff.1 hx2).1).trans hx2
            clear hr
            dsimp only
            refine hK _ _ ?_
            clear hK K
            refine wpAny_done (by kernel_rfl) ?_ _
            go_wp2
            go_roundg (A.length - (k + 1))
            case measure => omega
            case rel => exact ⟨k + 1, rfl, by omega, by go_num, HM.out, hbw3, hbx3⟩
      · rw [hv] at cr
        rw [hnm] at HN
        clear hv hnm
        have hmN := Tryz.mNamesS
        go_upto_region 4 with fail
        refine wp_region_any (by kernel_rfl) ?_
        change wpAny _ _ _ _ _ _ _ (World.drew _)
        refine wpAny_take (i := 0) (v := .pointer (some ⟨db, 0, none⟩)) rfl (by kernel_rfl) (by kernel_rfl) (by kernel_rfl) (fun _ _ _ h => h) (Or.inl ⟨by rfl, fun w => by go_simp⟩) ?_
        refine wpAny_take (i := 2) (v := (.iface 329 (.agg #[.string x.event, .int .u64 x.delay]))) rfl (by kernel_rfl) (by kernel_rfl) (by kernel_rfl) (fun _ _ _ h => h) (Or.inl ⟨by rfl, fun w => by go_simp⟩) ?_
        refine wpAny_ready (rs := [1, 3]) (by kernel_rfl) (by simp) ?_
        refine AllReady.cons rfl (fun K hK => ?_) (AllReady.cons rfl (fun K hK => ?_) AllReady.nil)
        · go_simp
          refine hK _ _ ?_
          clear hK K
          refine wpAny_ready (rs := [3]) (by kernel_rfl) (by simp) ?_
          refine AllReady.cons rfl (fun K hK => ?_) AllReady.nil
          go_simp
          refine Calls.mono (names_one x.event _) ?_
          rintro e w2 ⟨nb, c2, rfl, hown, hb2⟩
          have hb2' : Below wr.heap.size wr w2 := ((Below.refl _ _).drew).trans hb2
          obtain ⟨e4, hx2, e0, e1, hbw2⟩ := HD.out w2 hb2'
          obtain ⟨hst, hnbl, _⟩ := own_strs (l := [x.event]) hown
          dsimp only
          refine hK _ _ ?_
          clear hK K
          refine wpAny_ready (rs := [4]) (by kernel_rfl) (by simp) ?_
          refine AllReady.cons rfl (fun K hK => ?_) AllReady.nil
          go_simp
          have hq4 := checkReserved_any db num dep tm [x.event] nb c2 w2 e4 hst hnbl (by simp)
          refine Calls.mono hq4 ?_
          rintro e w3 h3
          unfold ResPost at h3
          cases hr : (tm && Pro.resv [x.event]) with
          | true =>
            rw [hr, if_pos rfl] at h3
            have HM : Hid ((tm && Ref.mine A) = true) := by
              rw [Bool.and_eq_true] at hr
              unfold Hid
              rw [hr.1, HT.out (by rw [HN.out, hr.2]; simp)]; rfl
            obtain ⟨hb, b, h5, h6, rfl⟩ := h3
            dsimp only
            refine ⟨rfl, ?_⟩
            unfold ActsOK
            rw [if_pos HM.out]
            exact ⟨hbw2.trans (hb.mono hbw2.size), b, Nat.le_trans hbw2.size h5, h6, rfl⟩
          | false =>
            rw [hr, if_neg (by simp)] at h3
            obtain ⟨rfl, hb3⟩ := h3
            have HM : Hid ((tm && Ref.mine (A.take (k + 1))) = false) := by
              unfold Hid
              have h1 := HNo.out
              rw [HN.out]
              cases tm with
              | false => rfl
              | true => simp only [Bool.true_and] at h1 hr ⊢; rw [h1, hr]; rfl
            have hbw3 := hbw2.trans (hb3.mono hbw2.size)
            have hbx3 := (hb3.block _ (Array.getElem?_eq_some_iff.1 hx2).1).trans hx2
            clear hr
            dsimp only
            refine hK _ _ ?_
            clear hK K
            refine wpAny_done (by kernel_rfl) ?_ _
            go_wp2
            go_roundg (A.length - (k + 1))
            case measure => omega
            case rel => exact ⟨k + 1, rfl, by omega, by go_num, HM.out, hbw3, hbx3⟩
        · go_simp
          refine Calls.mono (names_one x.event _) ?_
          rintro e w2 ⟨nb, c2, rfl, hown, hb2⟩
          have hb2' : Below wr.heap.size wr w2 := ((Below.refl _ _).drew).trans hb2
          obtain ⟨e4, hx2, e0, e1, hbw2⟩ := HD.out w2 hb2'
          obtain ⟨hst, hnbl, _⟩ := own_strs (l := [x.event]) hown
          dsimp only
          refine hK _ _ ?_
          clear hK K
          refine wpAny_ready (rs := [1]) (by kernel_rfl) (by simp) ?_
          refine AllReady.cons rfl (fun K hK => ?_) AllReady.nil
          go_simp
          refine hK _ _ ?_
          clear hK K
          refine wpAny_ready (rs := [4]) (by kernel_rfl) (by simp) ?_
          refine AllReady.cons rfl (fun K hK => ?_) AllReady.nil
          go_simp
          have hq4 := checkReserved_any db num dep tm [x.event] nb c2 w2 e4 hst hnbl (by simp)
          refine Calls.mono hq4 ?_
          rintro e w3 h3
          unfold ResPost at h3
          cases hr : (tm && Pro.resv [x.event]) with
          | true =>
            rw [hr, if_pos rfl] at h3
            have HM : Hid ((tm && Ref.mine A) = true) := by
              rw [Bool.and_eq_true] at hr
              unfold Hid
              rw [hr.1, HT.out (by rw [HN.out, hr.2]; simp)]; rfl
            obtain ⟨hb, b, h5, h6, rfl⟩ := h3
            dsimp only
            refine ⟨rfl, ?_⟩
            unfold ActsOK
            rw [if_pos HM.out]
            exact ⟨hbw2.trans (hb.mono hbw2.size), b, Nat.le_trans hbw2.size h5, h6, rfl⟩
          | false =>
            rw [hr, if_neg (by simp)] at h3
            obtain ⟨rfl, hb3⟩ := h3
            have HM : Hid ((tm && Ref.mine (A.take (k + 1))) = false) := by
              unfold Hid
              have h1 := HNo.out
              rw [HN.out]
              cases tm with
              | false => rfl
              | true => simp only [Bool.true_and] at h1 hr ⊢; rw [h1, hr]; rfl
            have hbw3 := hbw2.trans (hb3.mono hbw2.size)
            have hbx3 := (hb3.block _ (Array.getElem?_eq_some_iff.1 hx2).1).trans hx2
            clear hr
            dsimp only
            refine hK _ _ ?_
            clear hK K
            refine wpAny_done (by kernel_rfl) ?_ _
            go_wp2
            go_roundg (A.length - (k + 1))
            case measure => omega
            case rel => exact ⟨k + 1, rfl, by omega, by go_num, HM.out, hbw3, hbx3⟩
      · rw [hv] at cr
        rw [hnm] at HN
        clear hv hnm
        have hmN := Tryz.mNamesA
        go_upto_region 4 with fail
        refine wp_region_any (by kernel_rfl) ?_
        change wpAny _ _ _ _ _ _ _ (World.drew _)
        refine wpAny_take (i := 0) (v := .pointer (some ⟨db, 0, none⟩)) rfl (by kernel_rfl) (by kernel_rfl) (by kernel_rfl) (fun _ _ _ h => h) (Or.inl ⟨by rfl, fun w => by go_simp⟩) ?_
        refine wpAny_take (i := 2) (v := (.iface 331 (.agg #[.string x.event, .int .u64 x.delay, .string x.id]))) rfl (by kernel_rfl) (by kernel_rfl) (by kernel_rfl) (fun _ _ _ h => h) (Or.inl ⟨by rfl, fun w => by go_simp⟩) ?_
        refine wpAny_ready (rs := [1, 3]) (by kernel_rfl) (by simp) ?_
        refine AllReady.cons rfl (fun K hK => ?_) (AllReady.cons rfl (fun K hK => ?_) AllReady.nil)
        · go_simp
          refine hK _ _ ?_
          clear hK K
          refine wpAny_ready (rs := [3]) (by kernel_rfl) (by simp) ?_
          refine AllReady.cons rfl (fun K hK => ?_) AllReady.nil
          go_simp
          refine Calls.mono (names_two x.event x.id x.delay _) ?_
          rintro e w2 ⟨nb, c2, rfl, hown, hb2⟩
          have hb2' : Below wr.heap.size wr w2 := ((Below.refl _ _).drew).trans hb2
          obtain ⟨e4, hx2, e0, e1, hbw2⟩ := HD.out w2 hb2'
          obtain ⟨hst, hnbl, _⟩ := own_strs (l := [x.event, x.id]) hown
          dsimp only
          refine hK _ _ ?_
          clear hK K
          refine wpAny_ready (rs := [4]) (by kernel_rfl) (by simp) ?_
          refine AllReady.cons rfl (fun K hK => ?_) AllReady.nil
          go_simp
          have hq4 := checkReserved_any db num dep tm [x.event, x.id] nb c2 w2 e4 hst hnbl (by simp)
          refine Calls.mono hq4 ?_
          rintro e w3 h3
          unfold ResPost at h3
          cases hr : (tm && Pro.resv [x.event, x.id]) with
          | true =>
            rw [hr, if_pos rfl] at h3
            have HM : Hid ((tm && Ref.mine A) = true) := by
              rw [Bool.and_eq_true] at hr
              unfold Hid
              rw [hr.1, HT.out (by rw [HN.out, hr.2]; simp)]; rfl
            obtain ⟨hb, b, h5, h6, rfl⟩ := h3
            dsimp only
            refine ⟨rfl, ?_⟩
            unfold ActsOK
            rw [if_pos HM.out]
            exact ⟨hbw2.trans (hb.mono hbw2.size), b, Nat.le_trans hbw2.size h5, h6, rfl⟩
          | false =>
            rw [hr, if_neg (by simp)] at h3
            obtain ⟨rfl, hb3⟩ := h3
            have HM : Hid ((tm && Ref.mine (A.take (k + 1))) = false) := by
              unfold Hid
              have h1 := HNo.out
              rw [HN.out]
              cases tm with
              | false => rfl
              | true => simp only [Bool.true_and] at h1 hr ⊢; rw [h1, hr]; rfl
            have hbw3 := hbw2.trans (hb3.mono hbw2.size)
            have hbx3 := (hb3.block _ (Array.getElem?_eq_some_iff.1 hx2).1).trans hx2
            clear hr
            dsimp only
            refine hK _ _ ?_
            clear hK K
            refine wpAny_done (by kernel_rfl) ?_ _
            go_wp2
            go_roundg (A.length - (k + 1))
            case measure => omega
            case rel => exact ⟨k + 1, rfl, by omega, by go_num, HM.out, hbw3, hbx3⟩
        · go_simp
          refine Calls.mono (names_two x.event x.id x.delay _) ?_
          rintro e w2 ⟨nb, c2, rfl, hown, hb2⟩
          have hb2' : Below wr.heap.size wr w2 := ((Below.refl _ _).drew).trans hb2
          obtain ⟨e4, hx2, e0, e1, hbw2⟩ := HD.out w2 hb2'
          obtain ⟨hst, hnbl, _⟩ := own_strs (l := [x.event, x.id]) hown
          dsimp only
          refine hK _ _ ?_
          clear hK K
          refine wpAny_ready (rs := [1]) (by kernel_rfl) (by simp) ?_
          refine AllReady.cons rfl (fun K hK => ?_) AllReady.nil
          go_simp
          refine hK _ _ ?_
          clear hK K
          refine wpAny_ready (rs := [4]) (by kernel_rfl) (by simp) ?_
          refine AllReady.cons rfl (fun K hK => ?_) AllReady.nil
          go_simp
          have hq4 := checkReserved_any db num dep tm [x.event, x.id] nb c2 w2 e4 hst hnbl (by simp)
          refine Calls.mono hq4 ?_
          rintro e w3 h3
          unfold ResPost at h3
          cases hr : (tm && Pro.resv [x.event, x.id]) with
          | true =>
            rw [hr, if_pos rfl] at h3
            have HM : Hid ((tm && Ref.mine A) = true) := by
              rw [Bool.and_eq_true] at hr
              unfold Hid
              rw [hr.1, HT.out (by rw [HN.out, hr.2]; simp)]; rfl
            obtain ⟨hb, b, h5, h6, rfl⟩ := h3
            dsimp only
            refine ⟨rfl, ?_⟩
            unfold ActsOK
            rw [if_pos HM.out]
            exact ⟨hbw2.trans (hb.mono hbw2.size), b, Nat.le_trans hbw2.size h5, h6, rfl⟩
          | false =>
            rw [hr, if_neg (by simp)] at h3
            obtain ⟨rfl, hb3⟩ := h3
            have HM : Hid ((tm && Ref.mine (A.take (k + 1))) = false) := by
              unfold Hid
              have h1 := HNo.out
              rw [HN.out]
              cases tm with
              | false => rfl
              | true => simp only [Bool.true_and] at h1 hr ⊢; rw [h1, hr]; rfl
            have hbw3 := hbw2.trans (hb3.mono hbw2.size)
            have hbx3 := (hb3.block _ (Array.getElem?_eq_some_iff.1 hx2).1).trans hx2
            clear hr
            dsimp only
            refine hK _ _ ?_
            clear hK K
            refine wpAny_done (by kernel_rfl) ?_ _
            go_wp2
            go_roundg (A.length - (k + 1))
            case measure => omega
            case rel => exact ⟨k + 1, rfl, by omega, by go_num, HM.out, hbw3, hbx3⟩
    · have hkl : k = A.length := by omega
      have HF : Hid ((tm && Ref.mine A) = false) := by
        have h := hno
        rw [hkl, List.take_length] at h; exact h
      clear hno
      go_wp2
      go_end0
      unfold ActsOK
      rw [HF.out]
      exact ⟨rfl, hbr⟩
end Go.Proofs.YtegmoddppafkfaaGreatDoor
