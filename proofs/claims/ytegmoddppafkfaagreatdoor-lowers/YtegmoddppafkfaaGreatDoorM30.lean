/-
  MY OWN TEXT.
-/
import Derived.Test.YtegmoddppafkfaaGreatDoorM29
import Derived.Defers
import Derived.Recover
import Derived.Stop.Asserts
namespace Go.Proofs.YtegmoddppafkfaaGreatDoor
open Go.RowKit

variable {w0 w : World} {db mb nm : Nat} {sv pv ov : Ref.Sl} {tm : Bool} {X : List Pro.DS} {SP : List (Int × Int)} {O : List Nat} {PT : Nat → List Nat} {D : DataW Nat}
/-- The number of the first line of that name, as the map tells it. -/
def firstOf (D : DataW Nat) (n : ByteArray) : Option Int := match D.atKey (.string n.data.toList) (.lit (.int .i64 0)) with
  | .lit (.int .i64 c) => some c
  | _ => none
def SNPost (D : DataW Nat) (nme : ByteArray) (num : Int) (w : World) (e : Ending) (w' : World) : Prop := if firstOf D nme = some num then e = .returned (.tuple #[]) ∧ Below w.heap.size w w' else Refused 4 num w e w'
set_option maxRecDepth 100000 in
set_option maxHeartbeats 1600000 in
theorem stateNames_any (num dep kd : Int) (nme : ByteArray) (G : DraftG w0 w db sv pv ov mb tm X SP O PT nm D) (hs : nme.size ≤ 1000000) :
    Calls Tryz.prog 358 #[.agg #[.int .i64 num, .int .i64 dep, .int .i64 kd, .string nme], .pointer (some ⟨db, 0, none⟩)] w (SNPost D nme num w) := by
  have hdl := G.dlt
  have hb1 : Below w.heap.size w (w.alloc (.cells #[.int .i64 num, .int .i64 dep, .int .i64 kd, .string nme] 376)) := (Below.refl _ _).alloc (Nat.le_refl _) _
  obtain ⟨_, _, _, c3, _⟩ := (G.keep hb1).cells
  obtain ⟨W1, hW1⟩ : ∃ y, y = w.alloc (.cells #[.int .i64 num, .int .i64 dep, .int .i64 kd, .string nme] 376) := ⟨_, rfl⟩
  have b0 : W1.cell? ⟨w.heap.size, 0, none⟩ = some (.int .i64 num) := by rw [hW1]; simp
  have b1 : W1.cell? ⟨w.heap.size, 1, none⟩ = some (.int .i64 dep) := by rw [hW1]; simp
  have b3 : W1.cell? ⟨w.heap.size, 3, none⟩ = some (.string nme) := by rw [hW1]; simp
  have law : Go.Maps.Keyed Tryz.prog 9 := Go.Maps.string_keyed Tryz.underlying9
  have zeroE : ∀ w : World, (zeroValue 3).run Tryz.prog w = .ok (.int .i64 0) w := fun w => by kernel_rfl
  have hkey : keyOf Tryz.prog 9 (.string nme) = some (.string nme.data.toList) := Go.WideMaps.keyOf_string_mk Tryz.underlying9 (by unfold maxLen; omega)
  have hmapd : FirstMap W1.drew mb nm D := by rw [hW1]; exact map_touch (e := 0) (G.keep hb1).map (touch_below (Below.refl _ _).drew)
  obtain ⟨cc, hrun, hat, _⟩ := hmapd.lookup_int law Tryz.underlying228 Tryz.underlying3 (zeroE _) hkey
  have HF : Hid (firstOf D nme = some cc) := by unfold Hid firstOf; rw [hat]
  rw [← hW1] at c3 hb1
  go_enter Tryz.func358, Tryz.ntmps358
  go_upto_region 1 with fail
  change Code.wp _ _ _ _ (w.alloc (.cells #[.int .i64 num, .int .i64 dep, .int .i64 kd, .string nme] 376))
  rw [← hW1]
  clear hW1 hat
  have hbs := hb1.size
  refine wp_region_held_drew (S := (fun W => W.cell? ⟨db, 3, none⟩ = some (.map (some mb)) ∧ W.cell? ⟨w.heap.size, 0, none⟩ = some (.int .i64 num) ∧ W.cell? ⟨w.heap.size, 3, none⟩ = some (.string nme))) (by kernel_rfl) ⟨c3, b0, b3⟩ (fun hHeld => ?_)
  refine wpAnyH_take (i := 0) (v := .pointer (some ⟨db, 0, none⟩)) rfl (by kernel_rfl) (by kernel_rfl) (by kernel_rfl) (fun _ _ _ h => h) (Or.inl ⟨by rfl, fun w hSw => by (try dsimp only at hSw); go_simp; (try with_reducible rfl)⟩) hHeld ?_
  refine wpAnyH_take (i := 1) (v := .pointer (some ⟨db, 0, none⟩)) rfl (by kernel_rfl) (by kernel_rfl) (by kernel_rfl) (fun _ _ _ h => h) (Or.inl ⟨by rfl, fun w hSw => by (try dsimp only at hSw); go_simp; (try with_reducible rfl)⟩) hHeld ?_
  refine wpAnyH_take (i := 2) (v := .pointer (some ⟨db, 3, none⟩)) rfl (by kernel_rfl) (by kernel_rfl) (by kernel_rfl) (fun _ _ _ h => h) (Or.inl ⟨by rfl, fun w hSw => by (try dsimp only at hSw); go_simp; (try with_reducible rfl)⟩) hHeld ?_
  refine wpAnyH_take (i := 3) (v := .map (some mb)) rfl (by kernel_rfl) (by kernel_rfl) (by kernel_rfl) (fun _ _ _ h => h) (Or.inl ⟨by rfl, fun w hSw => by (try dsimp only at hSw); go_simp; (try with_reducible rfl)⟩) hHeld ?_
  refine wpAnyH_take (i := 4) (v := .pointer (some ⟨w.heap.size, 3, none⟩)) rfl (by kernel_rfl) (by kernel_rfl) (by kernel_rfl) (fun _ _ _ h => h) (Or.inl ⟨by rfl, fun w hSw => by (try dsimp only at hSw); go_simp; (try with_reducible rfl)⟩) hHeld ?_
  refine wpAnyH_take (i := 5) (v := .string nme) rfl (by kernel_rfl) (by kernel_rfl) (by kernel_rfl) (fun _ _ _ h => h) (Or.inl ⟨by rfl, fun w hSw => by (try dsimp only at hSw); go_simp; (try with_reducible rfl)⟩) hHeld ?_
  refine wpAnyH_take (i := 7) (v := .pointer (some ⟨w.heap.size, 0, none⟩)) rfl (by kernel_rfl) (by kernel_rfl) (by kernel_rfl) (fun _ _ _ h => h) (Or.inl ⟨by rfl, fun w hSw => by (try dsimp only at hSw); go_simp; (try with_reducible rfl)⟩) hHeld ?_
  refine wpAnyH_take (i := 8) (v := .pointer (some ⟨w.heap.size, 0, none⟩)) rfl (by kernel_rfl) (by kernel_rfl) (by kernel_rfl) (fun _ _ _ h => h) (Or.inl ⟨by rfl, fun w hSw => by (try dsimp only at hSw); go_simp; (try with_reducible rfl)⟩) hHeld ?_
  refine wpAnyH_take (i := 9) (v := .int .i64 num) rfl (by kernel_rfl) (by kernel_rfl) (by kernel_rfl) (fun _ _ _ h => h) (Or.inl ⟨by rfl, fun w hSw => by (try dsimp only at hSw); go_simp; (try with_reducible rfl)⟩) hHeld ?_
  refine wpAnyH_ready (rs := [6]) (by kernel_rfl) (by simp) ?_
  refine AllReadyH.cons rfl (fun K hK => ?_) AllReadyH.nil
  go_simp
  refine hK.out _ _ hHeld (fun hHeld => ?_)
  clear hK K hrun
  by_cases hcc : cc = num
  · subst hcc
    refine wpAnyH_ready (rs := [10]) (by kernel_rfl) (by simp) ?_
    refine AllReadyH.cons rfl (fun K hK => ?_) AllReadyH.nil
    go_simp
    refine hK.out _ _ hHeld (fun hHeld => ?_)
    clear hK K
    refine wpAnyH_done (by kernel_rfl) ?_ _
    go_wp2
    go_end0
    unfold SNPost
    rw [HF.out, if_pos rfl]
    exact ⟨rfl, hb1.drew⟩
  · have hne : (cc != num) = true := by simpa using hcc
    refine wpAnyH_ready (rs := [10]) (by kernel_rfl) (by simp) ?_
    refine AllReadyH.cons rfl (fun K hK => ?_) AllReadyH.nil
    go_simp
    refine hK.out _ _ hHeld (fun hHeld => ?_)
    clear hK K
    refine wpAnyH_done (by kernel_rfl) ?_ _
    go_wp2_with fail
    refine (refuse_any num dep 4 _).mono ?_
    rintro e w2 ⟨hb, b, h5, h6, rfl⟩
    dsimp only
    refine ⟨rfl, ?_⟩
    unfold SNPost
    rw [HF.out, if_neg (by simpa using hcc)]
    exact ⟨hb1.drew.trans (hb.mono hbs), b, Nat.le_trans hbs h5, h6, rfl⟩
theorem doingsNames_any (num dep : Int) (A : List Ref.Act) (a : Option Addr) (n c : Nat) (G : DraftG w0 w db sv pv ov mb tm X SP O PT nm D) (hA : w0.ownsRow 0 324 1 (.slice a n c) A.length (A.map actV)) (hS : ∀ x ∈ A, Pro.Shape x) (hl : A.length ≤ 100000) :
    Calls Tryz.prog 368 #[.agg #[.int .i64 num, .int .i64 dep, .slice a n c], .pointer (some ⟨db, 0, none⟩)] w (ActsOK tm num A w) := by
  have hb1 : Below w.heap.size w (w.alloc (.cells #[.int .i64 num, .int .i64 dep, .slice a n c] 384)) := (Below.refl _ _).alloc (Nat.le_refl _) _
  have G1 := G.keep hb1
  obtain ⟨_, _, _, _, c4⟩ := G1.cells
  have hA1 := own_keep hA (G1.bel)
  have HC : Hid (∀ W : World, W = w.alloc (.cells #[.int .i64 num, .int .i64 dep, .slice a n c] 384) → Calls Tryz.prog 366 #[.pointer (some ⟨db, 0, none⟩), .agg #[.int .i64 num, .int .i64 dep], .slice a n c] W (ActsOK tm num A W)) := by
    rintro W rfl
    exact checkActions_any db num dep tm A a n c _ c4 hA1 hS hl
  clear G1 c4 hA1
  go_enter Tryz.func368, Tryz.ntmps368
  go_wp2_with fail
  refine Calls.mono (HC.out _ rfl) ?_
  rintro e w2 h2
  unfold ActsOK at h2
  cases hm : (tm && Ref.mine A) with
  | true =>
    rw [hm, if_pos rfl] at h2
    obtain ⟨hb, b, h5, h6, rfl⟩ := h2
    dsimp only
    refine ⟨rfl, ?_⟩
    unfold ActsOK
    rw [hm, if_pos rfl]
    exact ⟨hb1.trans (hb.mono hb1.size), b, Nat.le_trans hb1.size h5, h6, rfl⟩
  | false =>
    rw [hm, if_neg (by simp)] at h2
    obtain ⟨rfl, hb2⟩ := h2
    have HM : Hid _ := hm
    clear hm
    dsimp only
    go_wp2
    go_end0
    unfold ActsOK
    rw [HM.out, if_neg (by simp)]
    exact ⟨rfl, hb1.trans (hb2.mono hb1.size)⟩
/-- Whether the names of a move are such as they may not be. -/
def mBad (D : DataW Nat) (tm : Bool) (m : Ref.Move) : Bool := (!m.to.toList.isEmpty && !Go.Maps.has D (.string m.to.data.toList)) || (tm && (Ref.mine m.acts || (!m.after && Ref.begins m.event Ref.kAfter)))
def MNPost (D : DataW Nat) (tm : Bool) (m : Ref.Move) (num : Int) (w : World) (e : Ending) (w' : World) : Prop := if mBad D tm m then Refused 4 num w e w' else e = .returned (.tuple #[]) ∧ Below w.heap.size w w'
set_option maxRecDepth 100000 in
set_option maxHeartbeats 3200000 in
theorem moveNames_any (num : Int) (dep : Nat) (y : Pro.PV) (G : DraftG w0 w db sv pv ov mb tm X SP O PT nm D) (hs : y.m.to.size ≤ 1000000) (hA : w0.ownsRow 0 324 1 y.v.v y.m.acts.length (y.m.acts.map actV)) (hS : ∀ x ∈ y.m.acts, Pro.Shape x) (hl : y.m.acts.length ≤ 100000) :
    Calls Tryz.prog 363 #[.agg (mlCells num dep y), .pointer (some ⟨db, 0, none⟩)] w (MNPost D tm y.m num w) := by
  have hdl := G.dlt
  have hb1 : Below w.heap.size w (w.alloc (.cells (mlCells num dep y) 380)) := (Below.refl _ _).alloc (Nat.le_refl _) _
  obtain ⟨_, _, _, c3, _⟩ := (G.keep hb1).cells
  obtain ⟨W1, hW1⟩ : ∃ z, z = w.alloc (.cells (mlCells num dep y) 380) := ⟨_, rfl⟩
  have hbx : W1.heap[w.heap.size]? = some (.cells (mlCells num dep y) 380 (0, 0)) := by rw [hW1]; exact heap_alloc_new _ _
  have HBx : Hid (∀ W2, Below W1.heap.size W1 W2 → W2.cell? ⟨w.heap.size, 0, none⟩ = some (.int .i64 num) ∧ W2.cell? ⟨w.heap.size, 1, none⟩ = some (.int .i64 dep) ∧ W2.cell? ⟨w.heap.size, 2, none⟩ = some (.string y.m.event) ∧ W2.cell? ⟨w.heap.size, 3, none⟩ = some (.bool y.m.after) ∧ W2.cell? ⟨w.heap.size, 5, none⟩ = some (.string y.m.to) ∧ W2.cell? ⟨w.heap.size, 6, none⟩ = some (.slice y.v.a y.v.n y.v.c)) := by
    intro W2 hb2
    have h2 := (hb2.block _ (Array.getElem?_eq_some_iff.1 hbx).1).trans hbx
    refine ⟨?_, ?_, ?_, ?_, ?_, ?_⟩ <;> rw [cell_of_row W2 _ _ _ _ _ h2] <;> rfl
  have HA : Hid (∀ W2, Below W1.heap.size W1 W2 → Calls Tryz.prog 366 #[.pointer (some ⟨db, 0, none⟩), .agg #[.int .i64 num, .int .i64 dep], .slice y.v.a y.v.n y.v.c] W2 (ActsOK tm num y.m.acts W2)) := by
    intro W2 hb2
    have G2 := (G.keep hb1).keep (by rw [← hW1]; exact hb2)
    obtain ⟨_, _, _, _, c4⟩ := G2.cells
    exact checkActions_any db num dep tm y.m.acts _ _ _ _ c4 (own_keep hA G2.bel) hS hl
  have HR : Hid (∀ W2, Below W1.heap.size W1 W2 → Calls Tryz.prog 365 #[.pointer (some ⟨db, 0, none⟩), .agg #[.int .i64 num, .int .i64 dep], .slice (some ⟨W2.heap.size, 0, none⟩) 1 1] (W2.alloc (.cells #[.string y.m.event] 9)) (ResPost tm num [y.m.event] (W2.alloc (.cells #[.string y.m.event] 9)))) := by
    intro W2 hb2
    have G2 := ((G.keep hb1).keep (by rw [← hW1]; exact hb2)).keep ((Below.refl _ W2).alloc (Nat.le_refl _) (.cells #[.string y.m.event] 9))
    obtain ⟨_, _, _, _, c4⟩ := G2.cells
    exact checkReserved_any db num dep tm [y.m.event] W2.heap.size 1 _ c4 (strs_cells (l := [y.m.event]) (heap_alloc_new W2 _)) (by simp) (by simp)
  have law : Go.Maps.Keyed Tryz.prog 9 := Go.Maps.string_keyed Tryz.underlying9
  have zeroE : ∀ w : World, (zeroValue 3).run Tryz.prog w = .ok (.int .i64 0) w := fun w => by kernel_rfl
  have hkey : keyOf Tryz.prog 9 (.string y.m.to) = some (.string y.m.to.data.toList) := Go.WideMaps.keyOf_string_mk Tryz.underlying9 (by unfold maxLen; omega)
  have hmapd : FirstMap W1.drew mb nm D := by rw [hW1]; exact map_touch (e := 0) (G.keep hb1).map (touch_below (Below.refl _ _).drew)
  obtain ⟨vv, ps, hrun, hvv⟩ := hmapd.look_ok law Tryz.underlying228 (zeroE _) (plainElem_int Tryz.underlying3 (by decide)) hkey
  obtain ⟨cc, rfl, _, _⟩ := plainElem_int_inv Tryz.underlying3 hvv
  clear hvv hA hS
  rw [← hW1] at c3 hb1
  obtain ⟨b0, b1, b2, b3, b5, b6⟩ := HBx.out W1 (Below.refl _ _)
  have hbs := hb1.size
  unfold mlCells at hW1 ⊢
  go_enter Tryz.func363, Tryz.ntmps363
  go_upto_region 1 with fail
  change Code.wp _ _ _ _ (w.alloc (.cells #[.int .i64 num, .int .i64 dep, .string y.m.event, .bool y.m.after, .int .u64 y.m.delay, .string y.m.to, .slice y.v.a y.v.n y.v.c] 380))
  rw [← hW1]
  clear hW1 G hbx
  refine wp_region_held_drew (S := (fun W => W.cell? ⟨db, 3, none⟩ = some (.map (some mb)) ∧ W.cell? ⟨w.heap.size, 5, none⟩ = some (.string y.m.to))) (by kernel_rfl) ⟨c3, b5⟩ (fun hHeld => ?_)
  refine wpAnyH_take (i := 0) (v := .pointer (some ⟨db, 0, none⟩)) rfl (by kernel_rfl) (by kernel_rfl) (by kernel_rfl) (fun _ _ _ h => h) (Or.inl ⟨by rfl, fun w hSw => by (try dsimp only at hSw); go_simp; (try with_reducible rfl)⟩) hHeld ?_
  refine wpAnyH_take (i := 1) (v := .pointer (some ⟨db, 0, none⟩)) rfl (by kernel_rfl) (by kernel_rfl) (by kernel_rfl) (fun _ _ _ h => h) (Or.inl ⟨by rfl, fun w hSw => by (try dsimp only at hSw); go_simp; (try with_reducible rfl)⟩) hHeld ?_
  refine wpAnyH_take (i := 2) (v := .pointer (some ⟨db, 3, none⟩)) rfl (by kernel_rfl) (by kernel_rfl) (by kernel_rfl) (fun _ _ _ h => h) (Or.inl ⟨by rfl, fun w hSw => by (try dsimp only at hSw); go_simp; (try with_reducible rfl)⟩) hHeld ?_
  refine wpAnyH_take (i := 3) (v := .map (some mb)) rfl (by kernel_rfl) (by kernel_rfl) (by kernel_rfl) (fun _ _ _ h => h) (Or.inl ⟨by rfl, fun w hSw => by (try dsimp only at hSw); go_simp; (try with_reducible rfl)⟩) hHeld ?_
  refine wpAnyH_take (i := 4) (v := .pointer (some ⟨w.heap.size, 2, none⟩)) rfl (by kernel_rfl) (by kernel_rfl) (by kernel_rfl) (fun _ _ _ h => h) (Or.inl ⟨by rfl, fun w hSw => by (try dsimp only at hSw); go_simp; (try with_reducible rfl)⟩) hHeld ?_
  refine wpAnyH_take (i := 5) (v := .pointer (some ⟨w.heap.size, 5, none⟩)) rfl (by kernel_rfl) (by kernel_rfl) (by kernel_rfl) (fun _ _ _ h => h) (Or.inl ⟨by rfl, fun w hSw => by (try dsimp only at hSw); go_simp; (try with_reducible rfl)⟩) hHeld ?_
  refine wpAnyH_take (i := 6) (v := .string y.m.to) rfl (by kernel_rfl) (by kernel_rfl) (by kernel_rfl) (fun _ _ _ h => h) (Or.inl ⟨by rfl, fun w hSw => by (try dsimp only at hSw); go_simp; (try with_reducible rfl)⟩) hHeld ?_
  refine wpAnyH_ready (rs := [7]) (by kernel_rfl) (by simp) ?_
  refine AllReadyH.cons rfl (fun K hK => ?_) AllReadyH.nil
  go_simp
  refine hK.out _ _ hHeld (fun hHeld => ?_)
  clear hK K
  refine wpAnyH_take (i := 8) (v := .tuple #[.int .i64 cc, .bool (Go.Maps.has D (.string y.m.to.data.toList))]) rfl (by kernel_rfl) (by kernel_rfl) (by kernel_rfl) (fun _ _ _ h => h) (Or.inl ⟨by rfl, fun w hSw => by (try dsimp only at hSw); go_simp; (try with_reducible rfl)⟩) hHeld ?_
  refine wpAnyH_take (i := 9) (v := .int .i64 cc) rfl (by kernel_rfl) (by kernel_rfl) (by kernel_rfl) (fun _ _ _ h => h) (Or.inl ⟨by rfl, fun w hSw => by (try dsimp only at hSw); go_simp; (try with_reducible rfl)⟩) hHeld ?_
  refine wpAnyH_take (i := 10) (v := .bool (Go.Maps.has D (.string y.m.to.data.toList))) rfl (by kernel_rfl) (by kernel_rfl) (by kernel_rfl) (fun _ _ _ h => h) (Or.inl ⟨by rfl, fun w hSw => by (try dsimp only at hSw); go_simp; (try with_reducible rfl)⟩) hHeld ?_
  refine wpAnyH_take (i := 11) (v := .int .i64 cc) rfl (by kernel_rfl) (by kernel_rfl) (by kernel_rfl) (fun _ _ _ h => h) (Or.inl ⟨by rfl, fun w hSw => by (try dsimp only at hSw); go_simp; (try with_reducible rfl)⟩) hHeld ?_
  refine wpAnyH_take (i := 12) (v := .bool (Go.Maps.has D (.string y.m.to.data.toList))) rfl (by kernel_rfl) (by kernel_rfl) (by kernel_rfl) (fun _ _ _ h => h) (Or.inl ⟨by rfl, fun w hSw => by (try dsimp only at hSw); go_simp; (try with_reducible rfl)⟩) hHeld ?_
  refine wpAnyH_done (by kernel_rfl) ?_ _
  clear hrun
  obtain ⟨hs0, hhs⟩ : ∃ h, h = Go.Maps.has D (.string y.m.to.data.toList) := ⟨_, rfl⟩
  obtain ⟨te, hte⟩ : ∃ h, h = y.m.to.toList.isEmpty := ⟨_, rfl⟩
  have HBad : Hid (mBad D tm y.m = ((!te && !hs0) || (tm && (Ref.mine y.m.acts || (!y.m.after && Ref.begins y.m.event Ref.kAfter))))) := by unfold Hid mBad; rw [hhs, hte]
  rw [← hhs]
  have HTe : Hid _ := hte
  clear hhs hte hHeld
  have hbd : Below W1.heap.size W1 W1.drew := (Below.refl _ _).drew
  cases hs0 with
  | true =>
    cases haf : y.m.after with
    | true =>
      have b3t := b3
      rw [haf] at b3t
      have HAf : Hid _ := haf
      clear haf b3
      go_wp2_with fail
      refine Calls.mono (HA.out _ hbd) ?_
      rintro e w3 h3
      unfold ActsOK at h3
      have hbw := hb1.trans (Below.mono hbd hbs)
      cases hm : (tm && Ref.mine y.m.acts) with
      | true =>
        rw [hm, if_pos rfl] at h3
        have HM : Hid (mBad D tm y.m = true) := by
          rw [Bool.and_eq_true] at hm
          unfold Hid
          rw [HBad.out, hm.1, hm.2]; simp
        obtain ⟨hb, b, h5, h6, rfl⟩ := h3
        dsimp only
        refine ⟨rfl, ?_⟩
        unfold MNPost
        rw [HM.out, if_pos rfl]
        exact ⟨hbw.trans (hb.mono hbw.size), b, Nat.le_trans hbw.size h5, h6, rfl⟩
      | false =>
        rw [hm, if_neg (by simp)] at h3
        obtain ⟨rfl, hb3⟩ := h3
        have HM : Hid (mBad D tm y.m = false) := by
          unfold Hid
          rw [HBad.out]
          rw [HAf.out]; cases tm with
            | false => simp
            | true => simp only [Bool.true_and] at hm; rw [hm]; simp
        clear hm
        dsimp only
        go_wp2
        go_end0
        unfold MNPost
        rw [HM.out, if_neg (by simp)]
        exact ⟨rfl, hbw.trans (hb3.mono hbw.size)⟩
    | false =>
      have b3t := b3
      rw [haf] at b3t
      have HAf : Hid _ := haf
      clear haf b3
      go_wp2_with fail
      refine Calls.mono (HR.out _ hbd) ?_
      rintro e w4 h4
      unfold ResPost at h4
      have hbe : Below W1.heap.size W1 ((W1.drew).alloc (.cells #[.string y.m.event] 9)) := hbd.alloc (Nat.le_refl _) _
      have hresv : Pro.resv [y.m.event] = Ref.begins y.m.event Ref.kAfter := by simp [Pro.resv]
      rw [hresv] at h4
      cases hr : (tm && Ref.begins y.m.event Ref.kAfter) with
      | true =>
        rw [hr, if_pos rfl] at h4
        have HM : Hid (mBad D tm y.m = true) := by
          rw [Bool.and_eq_true] at hr
          unfold Hid
          rw [HBad.out, HAf.out, hr.1, hr.2]; simp
        have hbw := hb1.trans (hbe.mono hbs)
        obtain ⟨hb, b, h5, h6, rfl⟩ := h4
        dsimp only
        refine ⟨rfl, ?_⟩
        unfold MNPost
        rw [HM.out, if_pos rfl]
        exact ⟨hbw.trans (hb.mono hbw.size), b, Nat.le_trans hbw.size h5, h6, rfl⟩
      | false =>
        rw [hr, if_neg (by simp)] at h4
        obtain ⟨rfl, hb4⟩ := h4
        have hbd4 : Below W1.heap.size W1 w4 := hbe.trans (hb4.mono hbe.size)
        obtain ⟨a0, a1, a2, a3, a5, a6⟩ := HBx.out w4 hbd4
        have HRr : Hid _ := hr
        clear hr hresv
        dsimp only
        go_wp2_with fail
        refine Calls.mono (HA.out _ hbd4) ?_
        rintro e w3 h3
        unfold ActsOK at h3
        have hbw := hb1.trans (Below.mono hbd4 hbs)
        cases hm : (tm && Ref.mine y.m.acts) with
        | true =>
          rw [hm, if_pos rfl] at h3
          have HM : Hid (mBad D tm y.m = true) := by
            rw [Bool.and_eq_true] at hm
            unfold Hid
            rw [HBad.out, hm.1, hm.2]; simp
          obtain ⟨hb, b, h5, h6, rfl⟩ := h3
          dsimp only
          refine ⟨rfl, ?_⟩
          unfold MNPost
          rw [HM.out, if_pos rfl]
          exact ⟨hbw.trans (hb.mono hbw.size), b, Nat.le_trans hbw.size h5, h6, rfl⟩
        | false =>
          rw [hm, if_neg (by simp)] at h3
          obtain ⟨rfl, hb3⟩ := h3
          have HM : Hid (mBad D tm y.m = false) := by
            unfold Hid
            rw [HBad.out]
            have hr := HRr.out
            rw [HAf.out]; cases tm with
              | false => simp
              | true => simp only [Bool.true_and] at hm hr; rw [hm, hr]; simp
          clear hm
          dsimp only
          go_wp2
          go_end0
          unfold MNPost
          rw [HM.out, if_neg (by simp)]
          exact ⟨rfl, hbw.trans (hb3.mono hbw.size)⟩
  | false =>
    cases te with
    | true =>
      have hte' : y.m.to.toList = [] := List.isEmpty_iff.1 HTe.out.symm
      have hte2 : y.m.to.toList.isEmpty = true := HTe.out.symm
      cases haf : y.m.after with
      | true =>
        have b3t := b3
        rw [haf] at b3t
        have HAf : Hid _ := haf
        clear haf b3
        go_wp2_with fail
        refine Calls.mono (HA.out _ hbd) ?_
        rintro e w3 h3
        unfold ActsOK at h3
        have hbw := hb1.trans (Below.mono hbd hbs)
        cases hm : (tm && Ref.mine y.m.acts) with
        | true =>
          rw [hm, if_pos rfl] at h3
          have HM : Hid (mBad D tm y.m = true) := by
            rw [Bool.and_eq_true] at hm
            unfold Hid
            rw [HBad.out, hm.1, hm.2]; simp
          obtain ⟨hb, b, h5, h6, rfl⟩ := h3
          dsimp only
          refine ⟨rfl, ?_⟩
          unfold MNPost
          rw [HM.out, if_pos rfl]
          exact ⟨hbw.trans (hb.mono hbw.size), b, Nat.le_trans hbw.size h5, h6, rfl⟩
        | false =>
          rw [hm, if_neg (by simp)] at h3
          obtain ⟨rfl, hb3⟩ := h3
          have HM : Hid (mBad D tm y.m = false) := by
            unfold Hid
            rw [HBad.out]
            rw [HAf.out]; cases tm with
              | false => simp
              | true => simp only [Bool.true_and] at hm; rw [hm]; simp
          clear hm
          dsimp only
          go_wp2
          go_end0
          unfold MNPost
          rw [HM.out, if_neg (by simp)]
          exact ⟨rfl, hbw.trans (hb3.mono hbw.size)⟩
      | false =>
        have b3t := b3
        rw [haf] at b3t
        have HAf : Hid _ := haf
        clear haf b3
        go_wp2_with fail
        refine Calls.mono (HR.out _ hbd) ?_
        rintro e w4 h4
        unfold ResPost at h4
        have hbe : Below W1.heap.size W1 ((W1.drew).alloc (.cells #[.string y.m.event] 9)) := hbd.alloc (Nat.le_refl _) _
        have hresv : Pro.resv [y.m.event] = Ref.begins y.m.event Ref.kAfter := by simp [Pro.resv]
        rw [hresv] at h4
        cases hr : (tm && Ref.begins y.m.event Ref.kAfter) with
        | true =>
          rw [hr, if_pos rfl] at h4
          have HM : Hid (mBad D tm y.m = true) := by
            rw [Bool.and_eq_true] at hr
            unfold Hid
            rw [HBad.out, HAf.out, hr.1, hr.2]; simp
          have hbw := hb1.trans (hbe.mono hbs)
          obtain ⟨hb, b, h5, h6, rfl⟩ := h4
          dsimp only
          refine ⟨rfl, ?_⟩
          unfold MNPost
          rw [HM.out, if_pos rfl]
          exact ⟨hbw.trans (hb.mono hbw.size), b, Nat.le_trans hbw.size h5, h6, rfl⟩
        | false =>
          rw [hr, if_neg (by simp)] at h4
          obtain ⟨rfl, hb4⟩ := h4
          have hbd4 : Below W1.heap.size W1 w4 := hbe.trans (hb4.mono hbe.size)
          obtain ⟨a0, a1, a2, a3, a5, a6⟩ := HBx.out w4 hbd4
          have HRr : Hid _ := hr
          clear hr hresv
          dsimp only
          go_wp2_with fail
          refine Calls.mono (HA.out _ hbd4) ?_
          rintro e w3 h3
          unfold ActsOK at h3
          have hbw := hb1.trans (Below.mono hbd4 hbs)
          cases hm : (tm && Ref.mine y.m.acts) with
          | true =>
            rw [hm, if_pos rfl] at h3
            have HM : Hid (mBad D tm y.m = true) := by
              rw [Bool.and_eq_true] at hm
              unfold Hid
              rw [HBad.out, hm.1, hm.2]; simp
            obtain ⟨hb, b, h5, h6, rfl⟩ := h3
            dsimp only
            refine ⟨rfl, ?_⟩
            unfold MNPost
            rw [HM.out, if_pos rfl]
            exact ⟨hbw.trans (hb.mono hbw.size), b, Nat.le_trans hbw.size h5, h6, rfl⟩
          | false =>
            rw [hm, if_neg (by simp)] at h3
            obtain ⟨rfl, hb3⟩ := h3
            have HM : Hid (mBad D tm y.m = false) := by
              unfold Hid
              rw [HBad.out]
              have hr := HRr.out
              rw [HAf.out]; cases tm with
                | false => simp
                | true => simp only [Bool.true_and] at hm hr; rw [hm, hr]; simp
            clear hm
            dsimp only
            go_wp2
            go_end0
            unfold MNPost
            rw [HM.out, if_neg (by simp)]
            exact ⟨rfl, hbw.trans (hb3.mono hbw.size)⟩
    | false =>
      have hte2 : y.m.to.toList.isEmpty = false := HTe.out.symm
      have hne : (y.m.to.toList == []) = false := by
        cases h : y.m.to.toList with
        | nil => rw [h] at hte2; cases hte2
        | cons a b => rfl
      have HM : Hid (mBad D tm y.m = true) := by unfold Hid; rw [HBad.out]; rfl
      go_wp2_with fail
      refine (refuse_any num dep 4 _).mono ?_
      rintro e w2 ⟨hb, b, h5, h6, rfl⟩
      have hbw := hb1.trans (hbd.mono hbs)
      dsimp only
      refine ⟨rfl, ?_⟩
      unfold MNPost
      rw [HM.out, if_pos rfl]
      exact ⟨hbw.trans (hb.mono hbw.size), b, Nat.le_trans hbw.size h5, h6, rfl⟩
end Go.Proofs.YtegmoddppafkfaaGreatDoor
namespace Go.Proofs.YtegmoddppafkfaaGreatDoor
open Go.RowKit

set_option maxRecDepth 100000 in
set_option maxHeartbeats 800000 in
theorem catch_idle (p q : Addr) (w : World) :
    CallsD Tryz.prog 105 #[.pointer (some p), .pointer (some q)] .returning w fun e u' w' => e = .returned (.tuple #[]) ∧ u' = .returning ∧ w' = w := by
  refine callsD_of_wpS Tryz.func105 rfl fun c₀ cs hu => ?_
  apply wpS_seq
  apply wpS_region
  simp [wpOpsS, go_sem, recoverD, hu, Tryz.ntmps105, Exit.thenS]
  refine wpS_of_wp ?_
  go_wp2
  cases c₀
  simp_all [bodyPostS, results, Tryz.results105]
theorem Tryz.assertRefusal (f : Nat) (w : World) : (Instr.typeAssert (.iface 218 (.agg #[.pointer (some ⟨f, 0, none⟩)])) 20 218 true).run Tryz.prog w = .ok (.tuple #[.agg #[.pointer (some ⟨f, 0, none⟩)], .bool true]) w := by kernel_rfl
set_option maxRecDepth 100000 in
set_option maxHeartbeats 800000 in
theorem catch_panicking (p q : Nat) (a b : Value) (f : Nat) (older : List PanicEntry) (w : World) (hp : w.heap[p]? = some (.cells #[a] 165 (0, 0))) (hq : w.heap[q]? = some (.cells #[b] 101 (0, 0))) (hpq : p ≠ q) :
    CallsD Tryz.prog 105 #[.pointer (some ⟨p, 0, none⟩), .pointer (some ⟨q, 0, none⟩)] (.panicking ({ v := .iface 218 (.agg #[.pointer (some ⟨f, 0, none⟩)]), recovered := false } :: older)) w fun e u' w' =>
      e = .returned (.tuple #[]) ∧ u' = .panicking ({ v := .iface 218 (.agg #[.pointer (some ⟨f, 0, none⟩)]), recovered := true } :: older) ∧ ∃ W, Below w.heap.size ((w.setCell ⟨p, 0, none⟩ (.pointer none)).setCell ⟨q, 0, none⟩ (.iface 159 (.pointer (some ⟨f, 0, none⟩)))) W ∧ w' = W := by
  refine callsD_of_wpS Tryz.func105 rfl fun c₀ cs hu => ?_
  apply wpS_seq
  apply wpS_region
  simp [wpOpsS, go_sem, recoverD, hu, Tryz.ntmps105, Exit.thenS]
  refine wpS_of_wp ?_
  have hta := Tryz.assertRefusal f
  have cp : w.cell? ⟨p, 0, none⟩ = some a := by rw [cell_of_row w _ _ _ _ _ hp]; rfl
  have cq : w.cell? ⟨q, 0, none⟩ = some b := by rw [cell_of_row w _ _ _ _ _ hq]; rfl
  have fp : w.frozen? ⟨p, 0, none⟩ = false := by simp [World.frozen?, hp]
  have fq : w.frozen? ⟨q, 0, none⟩ = false := by simp [World.frozen?, hq]
  have lp := (Array.getElem?_eq_some_iff.1 hp).1
  have lq := (Array.getElem?_eq_some_iff.1 hq).1
  have hqp : ¬ q = p := fun h => hpq h.symm
  go_upto_region 7 with fail
  go_region
  all_goals (
    go_wp2
    refine ⟨rfl, _, rfl, .tuple #[], by simp [results, Tryz.results105], rfl, rfl, ?_⟩
    exact ((Below.refl _ _).alloc (by simp) _).drew)
end Go.Proofs.YtegmoddppafkfaaGreatDoor
