/-
  MY OWN TEXT.
-/
import Derived.Test.YtegmoddppafkfaaGreatDoorM22
namespace Go.Proofs.YtegmoddppafkfaaGreatDoor
open Go.RowKit

variable {w0 w : World} {db mb nm : Nat} {sv pv ov : Ref.Sl} {tm : Bool} {X : List Pro.DS} {SP : List (Int × Int)} {O : List Nat} {PT : Nat → List Nat} {D : DataW Nat}
/-- A state stands behind the others. -/
def AddOK (num : Int) (dep : Nat) (nme : ByteArray) (ow : Int) (ns : Ref.State) (w0 : World) (db mb : Nat) (tm : Bool) (X : List Pro.DS) (SP : List (Int × Int)) (O : List Nat) (PT : Nat → List Nat) (nm : Nat) (D : DataW Nat) (w' : World) : Prop :=
  ∃ sv' pv' ov' X', X'.map (·.s) = X.map (·.s) ++ [ns] ∧ DraftG w0 w' db sv' pv' ov' mb tm X' (SP ++ [(num, (dep : Int))]) (O.take dep ++ [X.length]) (fun i => if (i : Int) = ow then PT i ++ [X.length] else PT i) (nm + 1) (if Go.Maps.has D (.string nme.data.toList) then D else D.put (.string nme.data.toList) (.lit (.int .i64 num)))
set_option maxHeartbeats 1600000 in
theorem statePlace_none (num : Int) (dep : Nat) (kd : Int) (nme : ByteArray) (G : DraftG w0 w db sv pv ov mb tm X SP O PT nm D) (h0 : 0 < dep) (h : O.length < dep) (hd : dep ≤ 1073741824) :
    Calls Tryz.prog 359 #[.agg (slCells num dep kd nme), .pointer (some ⟨db, 0, none⟩)] w (Refused 3 num w) := by
  have hb1 : Below w.heap.size w (w.alloc (.cells (slCells num dep kd nme) 376)) := (Below.refl _ _).alloc (Nat.le_refl _) _
  have HC : Hid _ := owner_no num dep (G.keep hb1) (.inr h) hd
  unfold slCells at hb1 HC ⊢
  go_enter Tryz.func359, Tryz.ntmps359
  go_wp2_with fail
  refine Calls.mono HC.out ?_
  rintro e w4 ⟨hb, b, h5, h6, rfl⟩
  dsimp only
  exact ⟨rfl, hb1.trans (hb.mono hb1.size), b, Nat.le_trans hb1.size h5, h6, rfl⟩
/-- Whether a state of that kind may stand there. -/
def okAt (X : List Pro.DS) (PT : Nat → List Nat) (dep : Nat) (ow kd : Int) : Bool :=
  !decide (X.length = 24) && (!decide (5 < dep) && (if ow < 0 then !Pro.isHist kd else match X[ow.toNat]? with | some x => Pro.holds x (PT ow.toNat) kd | none => false))
set_option maxRecDepth 100000 in
set_option maxHeartbeats 3200000 in
theorem statePlace_any (num : Int) (dep : Nat) (kd ow : Int) (nme : ByteArray) (ns : Ref.State) (G : DraftG w0 w db sv pv ov mb tm X SP O PT nm D) (hX : X.length ≤ 1000) (hSP : SP.length ≤ 1000) (hO : O.length ≤ 1000) (hPTl : ∀ i, (PT i).length ≤ 1000) (hnm : nm ≤ 1000)
    (hkd : Pro.kindOf ns = kd) (hnme : ns.name = nme) (hdep : ns.depth = dep) (hup : ns.up = ow) (hm : ns.moves = []) (he : ns.enter = []) (hl : ns.leave = []) (hd : dep ≤ O.length) (hsz : nme.size ≤ 1000000) (hnum : (Lit.int .i64 num).wf = true)
    (how : (dep = 0 ∧ ow = -1) ∨ ∃ (k u : Nat) (hk : k < O.length), dep = k + 1 ∧ O[k] = u ∧ ow = u ∧ u < X.length) (hPT : PT X.length = []) :
    Calls Tryz.prog 359 #[.agg (slCells num dep kd nme), .pointer (some ⟨db, 0, none⟩)] w fun e w' => if okAt X PT dep ow kd then e = .returned (.tuple #[]) ∧ AddOK num dep nme ow ns w0 db mb tm X SP O PT nm D w' else Refused 3 num w e w' := by
  have hb1 : Below w.heap.size w (w.alloc (.cells (slCells num dep kd nme) 376)) := (Below.refl _ _).alloc (Nat.le_refl _) _
  have HG : Hid _ := G
  have how' : ow = -1 ∨ ∃ u : Nat, ow = u ∧ u < X.length := by
    rcases how with ⟨_, h⟩ | ⟨k, u, _, _, _, h, hu⟩
    · exact .inl h
    · exact .inr ⟨u, h, hu⟩
  have HAdd : Hid (∀ w', Below w.heap.size w w' → Calls Tryz.prog 362 #[.pointer (some ⟨db, 0, none⟩), .agg (slCells num dep kd nme), .int .i64 ow] w' fun e w' => e = .returned (.tuple #[]) ∧ AddOK num dep nme ow ns w0 db mb tm X SP O PT nm D w') :=
    fun w' hb => add_any num dep kd ow nme ns (G.keep hb) hX hSP hO hPTl hnm hkd hnme hdep hup hm he hl hd hsz hnum how' hPT
  have HHold : Hid (∀ w', Below w.heap.size w w' → Calls Tryz.prog 361 #[.pointer (some ⟨db, 0, none⟩), .int .i64 ow, .int .i64 kd] w' fun e w'' => e = .returned (.bool (if ow < 0 then !Pro.isHist kd else match X[ow.toNat]? with | some x => Pro.holds x (PT ow.toNat) kd | none => false)) ∧ Below w'.heap.size w' w'') := by
    intro w' hb
    rcases how' with h | ⟨u, h, hu⟩
    · subst h
      rw [if_pos (by decide)]
      exact mayHold_none kd
    · subst h
      rw [if_neg (by omega)]
      have e : X[((u : Int)).toNat]? = some X[u] := by simp [hu]
      rw [e]
      exact mayHold_some kd u (G.keep hb) hu (by omega)
  have HOwn : Hid (0 < dep → ∀ w', Below w.heap.size w w' → Calls Tryz.prog 360 #[.pointer (some ⟨db, 0, none⟩), .agg #[.int .i64 num, .int .i64 dep]] w' fun e w'' => e = .returned (.int .i64 ow) ∧ Below w'.heap.size w' w'') := by
    intro h0 w' hb
    rcases how with ⟨h, _⟩ | ⟨k, u, hk, h1, h2, h3, _⟩
    · omega
    · rw [h3, ← h2]
      exact owner_yes num dep k (G.keep hb) hk h1 (by omega)
  have HO0 : Hid (dep = 0 → ow = -1) := by
    intro h0
    rcases how with ⟨_, h⟩ | ⟨k, u, hk, h1, _⟩
    · exact h
    · omega
  have hsn := G.sv_eq
  have hdb := G.dlt
  obtain ⟨c0, _, _, _, _⟩ := G.cells
  rw [hsn] at c0
  have HOk : Hid (okAt X PT dep ow kd = (!decide (X.length = 24) && (!decide (5 < dep) && (if ow < 0 then !Pro.isHist kd else match X[ow.toNat]? with | some x => Pro.holds x (PT ow.toNat) kd | none => false)))) := rfl
  generalize hq : (if ow < 0 then !Pro.isHist kd else match X[ow.toNat]? with | some x => Pro.holds x (PT ow.toNat) kd | none => false) = hold at *
  clear hq how how' hkd hnme hdep hup hm he hl hd hPT hPTl hsz hnum hsn G
  have hxl : X.length ≤ 1000 := hX
  unfold slCells at hb1 HAdd ⊢
  go_enter Tryz.func359, Tryz.ntmps359
  go_upto_if 8 with fail
  change Code.wp _ _ _ _ (w.alloc (.cells #[.int .i64 num, .int .i64 dep, .int .i64 kd, .string nme] 376))
  obtain ⟨W1, hW1⟩ : ∃ y, y = w.alloc (.cells #[.int .i64 num, .int .i64 dep, .int .i64 kd, .string nme] 376) := ⟨_, rfl⟩
  obtain ⟨B, hB⟩ : ∃ B, B = w.heap.size := ⟨_, rfl⟩
  have hbx : W1.heap[B]? = some (.cells #[.int .i64 num, .int .i64 dep, .int .i64 kd, .string nme] 376 (0, 0)) := by rw [hW1, hB]; exact heap_alloc_new _ _
  rw [← hW1] at hb1 ⊢
  have HBl : Hid (B = w.heap.size) := hB
  rw [← hB]
  clear hW1 hB
  go_cut [4] (fun v wx => v = .int .i64 ow ∧ Below w.heap.size w wx ∧ wx.heap[B]? = some (.cells #[.int .i64 num, .int .i64 dep, .int .i64 kd, .string nme] 376 (0, 0)))
  case first =>
    have b0 : W1.cell? ⟨B, 0, none⟩ = some (.int .i64 num) := by rw [cell_of_row W1 _ _ _ _ _ hbx]; rfl
    have b1 : W1.cell? ⟨B, 1, none⟩ = some (.int .i64 dep) := by rw [cell_of_row W1 _ _ _ _ _ hbx]; rfl
    by_cases h0 : 0 < dep
    · go_wp2_with fail
      refine (HOwn.out h0 _ hb1).mono ?_
      rintro e w2 ⟨rfl, hb2⟩
      dsimp only
      go_wp2
      go_meet
      case rel => exact ⟨rfl, hb1.trans (hb2.mono hb1.size), (hb2.block _ (Array.getElem?_eq_some_iff.1 hbx).1).trans hbx⟩
    · have hd0 : dep = 0 := by omega
      have how0 := HO0.out hd0
      go_wp2
      go_meet
      case rel => exact ⟨by rw [how0], hb1, hbx⟩
  case rest =>
    obtain ⟨rfl, hbw, hbx2⟩ := hcut
    obtain ⟨W2, hW⟩ : ∃ y : World, y = wc := ⟨wc, rfl⟩
    subst hW
    clear hb1 hbx
    have b0 : W2.cell? ⟨B, 0, none⟩ = some (.int .i64 num) := by rw [cell_of_row W2 _ _ _ _ _ hbx2]; rfl
    have b1 : W2.cell? ⟨B, 1, none⟩ = some (.int .i64 dep) := by rw [cell_of_row W2 _ _ _ _ _ hbx2]; rfl
    have b2 : W2.cell? ⟨B, 2, none⟩ = some (.int .i64 kd) := by rw [cell_of_row W2 _ _ _ _ _ hbx2]; rfl
    have b3 : W2.cell? ⟨B, 3, none⟩ = some (.string nme) := by rw [cell_of_row W2 _ _ _ _ _ hbx2]; rfl
    have d0 : W2.cell? ⟨db, 0, none⟩ = some (.slice sv.a X.length sv.c) := (World.cell?_of_block (w := w) (hbw.block db hdb)).trans c0
    have hbs := hbw.size
    by_cases h24 : X.length = 24
    · have HF : Hid (okAt X PT dep ow kd = false) := by unfold Hid; rw [HOk.out, decide_eq_true h24]; rfl
      have h24' : ((X.length : Int) == 24) = true := by rw [h24]; rfl
      clear h24
      go_wp2_with fail
      refine (refuse_any num dep 3 _).mono ?_
      rintro e w3 ⟨hb, b, h5, h6, rfl⟩
      dsimp only
      refine ⟨rfl, ?_⟩
      rw [HF.out]
      exact ⟨hbw.trans (hb.mono hbs), b, Nat.le_trans hbs h5, h6, rfl⟩
    · have h24' : ((X.length : Int) == 24) = false := by simp; omega
      by_cases h5 : 5 < dep
      · have HF : Hid (okAt X PT dep ow kd = false) := by unfold Hid; rw [HOk.out, decide_eq_true h5]; simp
        clear h24
        go_wp2_with fail
        refine (refuse_any num dep 3 _).mono ?_
        rintro e w3 ⟨hb, b, h5, h6, rfl⟩
        dsimp only
        refine ⟨rfl, ?_⟩
        rw [HF.out]
        exact ⟨hbw.trans (hb.mono hbs), b, Nat.le_trans hbs h5, h6, rfl⟩
      · have HF : Hid (okAt X PT dep ow kd = hold) := by unfold Hid; rw [HOk.out, decide_eq_false h24, decide_eq_false h5]; rfl
        clear h24
        go_wp2_with fail
        refine (HHold.out _ hbw).mono ?_
        rintro e w3 ⟨rfl, hb3⟩
        have hbw3 := hbw.trans (hb3.mono hbs)
        have hbx3 := (hb3.block _ (Array.getElem?_eq_some_iff.1 hbx2).1).trans hbx2
        have a0 : w3.cell? ⟨B, 0, none⟩ = some (.int .i64 num) := by rw [cell_of_row w3 _ _ _ _ _ hbx3]; rfl
        have a1 : w3.cell? ⟨B, 1, none⟩ = some (.int .i64 dep) := by rw [cell_of_row w3 _ _ _ _ _ hbx3]; rfl
        have a2 : w3.cell? ⟨B, 2, none⟩ = some (.int .i64 kd) := by rw [cell_of_row w3 _ _ _ _ _ hbx3]; rfl
        have a3 : w3.cell? ⟨B, 3, none⟩ = some (.string nme) := by rw [cell_of_row w3 _ _ _ _ _ hbx3]; rfl
        clear b0 b1 b2 b3 d0 hb3
        cases hold with
        | false =>
          dsimp only
          go_wp2_with fail
          refine (refuse_any num dep 3 _).mono ?_
          rintro e w4 ⟨hb, b, h5, h6, rfl⟩
          dsimp only
          refine ⟨rfl, ?_⟩
          rw [HF.out]
          exact ⟨hbw3.trans (hb.mono hbw3.size), b, Nat.le_trans hbw3.size h5, h6, rfl⟩
        | true =>
          dsimp only
          go_wp2_with fail
          refine (HAdd.out _ hbw3).mono ?_
          rintro e w4 ⟨rfl, hadd⟩
          dsimp only
          go_wp2
          go_end0
          exact ⟨rfl, hadd⟩
end Go.Proofs.YtegmoddppafkfaaGreatDoor
