/-
  MY OWN TEXT.
-/
import Derived.Test.YtegmoddppafkfaaGreatDoorM34
namespace Go.Proofs.YtegmoddppafkfaaGreatDoor
open Go.RowKit Go.Proofs

namespace Pro
def bEnterW : ByteArray := ⟨#[101, 110, 116, 101, 114]⟩
def bLeaveW : ByteArray := ⟨#[108, 101, 97, 118, 101]⟩
def lineT (d : Nat) (h : ByteArray) (A : List Ref.Act) : ByteArray := Ref.pad d ++ h ++ Ref.written A ++ Ref.bNl
def endT (d : Nat) (h : ByteArray) (A : List Ref.Act) : ByteArray := if A.isEmpty then ByteArray.empty else lineT d h A
def mvsTo (d : Nat) (M : List Ref.Move) : Nat → ByteArray
  | 0 => ByteArray.empty
  | j + 1 => match M[j]? with
    | some m => mvsTo d M j ++ lineT d (mvText m) m.acts
    | none => mvsTo d M j
def headT (x : Ref.State) : ByteArray := lineT x.depth.toNat (stText (kindOf x) x.name) [] ++ endT (x.depth.toNat + 1) bEnterW x.enter ++ endT (x.depth.toNat + 1) bLeaveW x.leave
/-- The lines of a state that has no move behind a delay. -/
def sLines (x : Ref.State) : ByteArray := headT x ++ mvsTo (x.depth.toNat + 1) x.moves x.moves.length
/-- What is asked of a list of actions. -/
structure ActsG (A : List Ref.Act) : Prop where
  shape : ∀ a ∈ A, Shape a
  small : ∀ a ∈ A, Ref.ActSm a
  len : A.length ≤ 100000
theorem ActsG.nil : ActsG [] := ⟨by simp, by simp, by simp⟩
theorem lineT_small {d : Nat} {h : ByteArray} {A : List Ref.Act} (hd : d ≤ 100000) (hh : h.size ≤ 1000000) (hA : ActsG A) : (lineT d h A).size ≤ 2002000000 := by
  unfold lineT
  have h1 := Ref.written_small hA.small hA.len
  simp only [ByteArray.size_append', Ref.pad_size]
  have : Ref.bNl.size = 1 := rfl
  omega
theorem endT_small {d : Nat} {h : ByteArray} {A : List Ref.Act} (hd : d ≤ 100000) (hh : h.size ≤ 1000000) (hA : ActsG A) : (endT d h A).size ≤ 2002000000 := by
  unfold endT
  split
  · exact Nat.zero_le _
  · exact lineT_small hd hh hA
theorem kindOf_ok (x : Ref.State) : 0 ≤ kindOf x ∧ kindOf x ≤ 4 := by
  unfold kindOf
  repeat' split
  all_goals decide
theorem stText_small {k : Int} {n : ByteArray} (h : n.size ≤ 4096) : (stText k n).size ≤ 5000 := by
  have e1 : Ref.b1.size = 1 := rfl
  have e2 : Ref.bDeep.size = 5 := rfl
  have e3 : (wordOf k).size ≤ 8 := by unfold wordOf; repeat' split
                                      all_goals decide
  unfold stText
  split <;> simp only [ByteArray.size_append'] <;> omega
theorem mvText_small {m : Ref.Move} (h : Ref.MoveSm m) : (mvText m).size ≤ 9000 := by
  have e1 : bOnW.size = 3 := rfl
  have e2 : Ref.bTo.size = 4 := rfl
  have h1 := h.event
  have h2 := h.dst
  unfold mvText
  split <;> simp only [ByteArray.size_append'] <;> omega
theorem mvsTo_small {d : Nat} {M : List Ref.Move} (hd : d ≤ 100000) (h : ∀ m ∈ M, Ref.MoveSm m ∧ ActsG m.acts) : ∀ j, (mvsTo d M j).size ≤ j * 2002000000
  | 0 => Nat.le_refl _
  | j + 1 => by
    have ih := mvsTo_small hd h j
    rw [mvsTo]
    split
    · rename_i m hm
      have hmm := h m (List.mem_of_getElem? hm)
      have h1 := lineT_small (d := d) (h := mvText m) (A := m.acts) hd (by have := mvText_small hmm.1; omega) hmm.2
      rw [ByteArray.size_append', Nat.succ_mul]
      exact Nat.add_le_add ih h1
    · exact Nat.le_trans ih (Nat.mul_le_mul_right _ (Nat.le_succ j))
end Pro
theorem Tryz.sizeMoveM : (Tryz.prog.info? 295).map (·.size) = some 5 := by kernel_rfl
theorem own_len {w : World} {base size n : Nat} {e : TypeId} {v : Ref.Sl} {xs : List Value} (h : w.ownsRow base e size v.v n xs) : v.n = n := by
  rcases h.2 with ⟨h, h0⟩ | ⟨g, cap, cur, h, _⟩
  · simp [Ref.Sl.v] at h; rw [h0]; exact h.2.1
  · simp [Ref.Sl.v] at h; exact h.2.1
/-- A state as it lies, ready to be written. -/
structure WState (w : World) (x : Pro.DS) (M : List Pro.PV) : Prop where
  dep0 : 0 ≤ x.s.depth
  dep : x.s.depth ≤ 5
  name : x.s.name.size ≤ 4096
  mv : M.map (·.m) = x.s.moves
  mlen : M.length ≤ 4096
  moves : w.ownsRow 0 295 5 x.vm.v M.length (M.flatMap Pro.pvCells)
  acts : ∀ y ∈ M, w.ownsRow 0 324 1 y.v.v y.m.acts.length (y.m.acts.map actV)
  actsG : ∀ y ∈ M, Ref.MoveSm y.m ∧ Pro.ActsG y.m.acts
  enter : w.ownsRow 0 324 1 x.ve.v x.s.enter.length (x.s.enter.map actV)
  enterG : Pro.ActsG x.s.enter
  leave : w.ownsRow 0 324 1 x.vl.v x.s.leave.length (x.s.leave.map actV)
  leaveG : Pro.ActsG x.s.leave
theorem WState.wr {B b : Nat} {bs : List Value} {w w' : World} {x : Pro.DS} {M : List Pro.PV} (h : WState w x M) (k : WrKept b w w') (hb : IsWr B b bs w) : WState w' x M :=
  ⟨h.dep0, h.dep, h.name, h.mv, h.mlen, own_wr h.moves k hb (by decide) (by decide), fun y hy => own_wr (h.acts y hy) k hb (by decide) (by decide), h.actsG, own_wr h.enter k hb (by decide) (by decide), h.enterG, own_wr h.leave k hb (by decide) (by decide), h.leaveG⟩
def dsArr (x : Pro.DS) : Array Value := #[.int .i64 (Pro.kindOf x.s), .string x.s.name, .int .i64 x.s.depth, .int .i64 x.s.up, .slice x.vp.a x.vp.n x.vp.c, .slice x.ve.a x.ve.n x.ve.c, .slice x.vl.a x.vl.n x.vl.c, .slice x.vm.a x.vm.n x.vm.c]
theorem ds_cells {w : World} {sb : Nat} {x : Pro.DS} (h : w.heap[sb]? = some (.cells (dsArr x) 242 (0, 0))) : w.cell? ⟨sb, 0, none⟩ = some (.int .i64 (Pro.kindOf x.s)) ∧ w.cell? ⟨sb, 1, none⟩ = some (.string x.s.name) ∧ w.cell? ⟨sb, 2, none⟩ = some (.int .i64 x.s.depth) ∧ w.cell? ⟨sb, 3, none⟩ = some (.int .i64 x.s.up) ∧ w.cell? ⟨sb, 4, none⟩ = some (.slice x.vp.a x.vp.n x.vp.c) ∧ w.cell? ⟨sb, 5, none⟩ = some (.slice x.ve.a x.ve.n x.ve.c) ∧ w.cell? ⟨sb, 6, none⟩ = some (.slice x.vl.a x.vl.n x.vl.c) ∧ w.cell? ⟨sb, 7, none⟩ = some (.slice x.vm.a x.vm.n x.vm.c) := by
  refine ⟨?_, ?_, ?_, ?_, ?_, ?_, ?_, ?_⟩ <;> rw [cell_of_row w _ _ _ _ _ h] <;> rfl
theorem ds_cellsN {w : World} {sb : Nat} {v0 v1 v2 v3 v4 v5 v6 v7 : Value} (h : w.heap[sb]? = some (.cells #[v0, v1, v2, v3, v4, v5, v6, v7] 242 (0, 0))) : w.cell? ⟨sb, 0, none⟩ = some v0 ∧ w.cell? ⟨sb, 1, none⟩ = some v1 ∧ w.cell? ⟨sb, 2, none⟩ = some v2 ∧ w.cell? ⟨sb, 3, none⟩ = some v3 ∧ w.cell? ⟨sb, 4, none⟩ = some v4 ∧ w.cell? ⟨sb, 5, none⟩ = some v5 ∧ w.cell? ⟨sb, 6, none⟩ = some v6 ∧ w.cell? ⟨sb, 7, none⟩ = some v7 := by
  refine ⟨?_, ?_, ?_, ?_, ?_, ?_, ?_, ?_⟩ <;> rw [cell_of_row w _ _ _ _ _ h] <;> rfl
theorem mv_held {W : World} {sb mb : Nat} {v0 v1 v2 v3 v4 v5 v6 v7 u0 u1 u2 u3 u4 : Value} (h : W.heap[sb]? = some (.cells #[v0, v1, v2, v3, v4, v5, v6, v7] 242 (0, 0))) (hm : W.heap[mb]? = some (.cells #[u0, u1, u2, u3, u4] 295 (0, 0))) :
    W.cell? ⟨sb, 2, none⟩ = some v2 ∧ W.cell? ⟨mb, 0, none⟩ = some u0 ∧ W.cell? ⟨mb, 1, none⟩ = some u1 ∧ W.cell? ⟨mb, 2, none⟩ = some u2 ∧ W.cell? ⟨mb, 3, none⟩ = some u3 ∧ W.cell? ⟨mb, 4, none⟩ = some u4 := by
  refine ⟨(ds_cellsN h).2.2.1, ?_, ?_, ?_, ?_, ?_⟩ <;> rw [cell_of_row W _ _ _ _ _ hm] <;> rfl
set_option maxRecDepth 100000 in
set_option maxHeartbeats 12800000 in
theorem wstate_any (B b : Nat) (bs : List Value) (x : Pro.DS) (M : List Pro.PV) (w : World) (h : IsWr B b bs w) (hBw : B ≤ w.heap.size) (hv : EnvAt B w) (hX : WState w x M) (hlen : bs.length ≤ 80000000000000) :
    Calls Tryz.prog 108 #[.pointer (some ⟨b, 0, none⟩), .agg (dsArr x)] w fun e w' => e = .returned (.tuple #[]) ∧ IsWr B b (bs ++ Lib.strCells (Pro.sLines x.s)) w' ∧ Below B w w' ∧ WrKept b w w' := by
  obtain ⟨s, ⟨pa, pn, pc⟩, ⟨ea, en, ec⟩, ⟨la, ln, lc⟩, ⟨ma, mn, mc⟩⟩ := x
  have hnE : en = s.enter.length := own_len (v := ⟨ea, en, ec⟩) hX.enter
  have hnL : ln = s.leave.length := own_len (v := ⟨la, ln, lc⟩) hX.leave
  have hnM : mn = M.length := own_len (v := ⟨ma, mn, mc⟩) hX.moves
  subst hnE hnL hnM
  obtain ⟨x, hx⟩ : ∃ x : Pro.DS, x = ⟨s, ⟨pa, pn, pc⟩, ⟨ea, s.enter.length, ec⟩, ⟨la, s.leave.length, lc⟩, ⟨ma, M.length, mc⟩⟩ := ⟨_, rfl⟩
  have hxs : x.s = s := by rw [hx]
  change Calls _ _ #[.pointer (some ⟨b, 0, none⟩), .agg #[.int .i64 (Pro.kindOf s), .string s.name, .int .i64 s.depth, .int .i64 s.up, .slice pa pn pc, .slice ea s.enter.length ec, .slice la s.leave.length lc, .slice ma M.length mc]] w fun e w' => e = .returned (.tuple #[]) ∧ IsWr B b (bs ++ Lib.strCells (Pro.sLines s)) w' ∧ Below B w w' ∧ WrKept b w w'
  obtain ⟨dn, hdn⟩ : ∃ dn : Nat, s.depth = dn := ⟨s.depth.toNat, (Int.toNat_of_nonneg hX.dep0).symm⟩
  have hdn5 : dn ≤ 5 := by have : s.depth ≤ 5 := hX.dep; omega
  have HEnv : Hid _ := hv
  have hnm : s.name.size ≤ 4096 := hX.name
  have hb1 : Below w.heap.size w (w.alloc (.cells #[.int .i64 (Pro.kindOf s), .string s.name, .int .i64 s.depth, .int .i64 s.up, .slice pa pn pc, .slice ea s.enter.length ec, .slice la s.leave.length lc, .slice ma M.length mc] 242)) := (Below.refl _ _).alloc (Nat.le_refl _) _
  have hsb1 : (w.alloc (.cells #[.int .i64 (Pro.kindOf s), .string s.name, .int .i64 s.depth, .int .i64 s.up, .slice pa pn pc, .slice ea s.enter.length ec, .slice la s.leave.length lc, .slice ma M.length mc] 242)).heap[w.heap.size]? = some (.cells #[.int .i64 (Pro.kindOf s), .string s.name, .int .i64 s.depth, .int .i64 s.up, .slice pa pn pc, .slice ea s.enter.length ec, .slice la s.leave.length lc, .slice ma M.length mc] 242 (0, 0)) := heap_alloc_new _ _
  have hv' := hdn
  obtain ⟨W1, hW1⟩ : ∃ y, y = w.alloc (.cells #[.int .i64 (Pro.kindOf s), .string s.name, .int .i64 s.depth, .int .i64 s.up, .slice pa pn pc, .slice ea s.enter.length ec, .slice la s.leave.length lc, .slice ma M.length mc] 242) := ⟨_, rfl⟩
  rw [← hW1] at hb1 hsb1
  have hk1 : WrKept b w W1 := wrKept_below hb1
  have hw1 := h.keep hb1
  have hX1 := hX.wr hk1 h
  have hs1 := hb1.size
  have hd1 := ds_cellsN hsb1
  have hlw := (Array.getElem?_eq_some_iff.1 hsb1).1
  clear hX hv
  rw [hdn] at hW1 hsb1 hd1 ⊢
  go_enter Tryz.func108, Tryz.ntmps108
  go_upto_region 1 with fail
  change Code.wp _ _ _ _ (w.alloc (.cells #[.int .i64 (Pro.kindOf s), .string s.name, .int .i64 dn, .int .i64 s.up, .slice pa pn pc, .slice ea s.enter.length ec, .slice la s.leave.length lc, .slice ma M.length mc] 242))
  rw [← hW1]
  clear hW1
  refine wp_region_held_drew (S := (fun W => W.cell? ⟨w.heap.size, 0, none⟩ = some (.int .i64 (Pro.kindOf s)) ∧ W.cell? ⟨w.heap.size, 1, none⟩ = some (.string s.name) ∧ W.cell? ⟨w.heap.size, 2, none⟩ = some (.int .i64 dn) ∧ W.cell? ⟨w.heap.size, 3, none⟩ = some (.int .i64 s.up) ∧ W.cell? ⟨w.heap.size, 4, none⟩ = some (.slice pa pn pc) ∧ W.cell? ⟨w.heap.size, 5, none⟩ = some (.slice ea s.enter.length ec) ∧ W.cell? ⟨w.heap.size, 6, none⟩ = some (.slice la s.leave.length lc) ∧ W.cell? ⟨w.heap.size, 7, none⟩ = some (.slice ma M.length mc))) (by kernel_rfl) hd1 (fun hHeld => ?_)
  refine wpAnyH_take (i := 0) (v := .pointer (some ⟨b, 0, none⟩)) rfl (by kernel_rfl) (by kernel_rfl) (by kernel_rfl) (fun _ _ _ h => h) (Or.inl ⟨by rfl, fun w hSw => by (try dsimp only at hSw); go_simp; (try with_reducible rfl)⟩) hHeld ?_
  refine wpAnyH_take (i := 1) (v := .pointer (some ⟨w.heap.size, 2, none⟩)) rfl (by kernel_rfl) (by kernel_rfl) (by kernel_rfl) (fun _ _ _ h => h) (Or.inl ⟨by rfl, fun w hSw => by (try dsimp only at hSw); go_simp; (try with_reducible rfl)⟩) hHeld ?_
  refine wpAnyH_take (i := 2) (v := .int .i64 dn) rfl (by kernel_rfl) (by kernel_rfl) (by kernel_rfl) (fun _ _ _ h => h) (Or.inl ⟨by rfl, fun w hSw => by (try dsimp only at hSw); go_simp; (try with_reducible rfl)⟩) hHeld ?_
  refine wpAnyH_take (i := 3) (v := .agg #[.int .i64 (Pro.kindOf s), .string s.name, .int .i64 dn, .int .i64 s.up, .slice pa pn pc, .slice ea s.enter.length ec, .slice la s.leave.length lc, .slice ma M.length mc]) rfl (by kernel_rfl) (by kernel_rfl) (by kernel_rfl) (fun _ _ _ h => h) (Or.inl ⟨by rfl, fun w hSw => by (try dsimp only at hSw); go_simp; (try with_reducible rfl)⟩) hHeld ?_
  refine wpAnyH_ready (rs := [4]) (by kernel_rfl) (by simp) ?_
  refine AllReadyH.cons rfl (fun K hK => ?_) AllReadyH.nil
  go_simp
  refine Calls.mono (stateText_any (Pro.kindOf s) s.name dn s.up ⟨pa, pn, pc⟩ ⟨ea, s.enter.length, ec⟩ ⟨la, s.leave.length, lc⟩ ⟨ma, M.length, mc⟩ _ (Pro.kindOf_ok s).1 (Pro.kindOf_ok s).2 (by omega)) ?_
  rintro e w2 ⟨rfl, hb2⟩
  have hb2' : Below W1.heap.size W1 w2 := ((Below.refl _ _).drew).trans hb2
  have hsb2 := (hb2'.block _ hlw).trans hsb1
  have hw2 := hw1.keep hb2'
  have hk2 : WrKept b W1 w2 := wrKept_below hb2'
  have hbw2 : Below B w w2 := (hb1.mono hBw).trans (hb2'.mono (by omega))
  have hs2 := hbw2.size
  dsimp only
  refine hK.out _ _ (ds_cellsN hsb2) (fun hHeld => ?_)
  clear hK K hb2 hb2' hd1
  refine wpAnyH_ready (rs := [5]) (by kernel_rfl) (by simp) ?_
  refine AllReadyH.cons rfl (fun K hK => ?_) AllReadyH.nil
  go_simp
  refine Calls.mono (wline_any B b bs dn (Pro.stText (Pro.kindOf s) s.name) [] none 0 0 w2 hw2 (by omega) ⟨rfl, .inl ⟨rfl, rfl⟩⟩ (by simp) (by simp) (by simp) (by omega) (by have := Pro.stText_small (k := Pro.kindOf s) hnm; omega) (by omega) (EnvAt.below HEnv.out hbw2)) ?_
  rintro e w3 ⟨rfl, hw3, hb3, hk3⟩
  have hsb3 := cells_wr hsb2 hk3 hw2 (by decide) (by decide)
  have hk3' : WrKept b W1 w3 := hk2.trans hk3
  have hbw3 := hbw2.trans hb3
  have hs3 := hbw3.size
  dsimp only
  refine hK.out _ _ (ds_cellsN hsb3) (fun hHeld => ?_)
  clear hK K hb3 hk3 hk2 hw2 hsb2 hbw2 hs2
  obtain ⟨T1, hT1⟩ : ∃ T, T = Pro.lineT dn (Pro.stText (Pro.kindOf s) s.name) [] := ⟨_, rfl⟩
  change IsWr B b (bs ++ Lib.strCells (Pro.lineT dn (Pro.stText (Pro.kindOf s) s.name) [])) w3 at hw3
  have hT1s : T1.size ≤ 2002000000 := by rw [hT1]; exact Pro.lineT_small (by omega) (by have := Pro.stText_small (k := Pro.kindOf s) hnm; omega) Pro.ActsG.nil
  rw [← hT1] at hw3
  refine wpAnyH_done (by kernel_rfl) ?_ _
  clear hHeld
  obtain ⟨c0, c1, c2, c3, c4, c5, c6, c7⟩ := ds_cellsN hsb3
  have ed : ((dn + 1 : Nat) : Int) = (dn : Int) + 1 := rfl
  by_cases hE : s.enter.length = 0
  · skip
    obtain ⟨T2, hT2⟩ : ∃ T, T = T1 ++ Pro.endT (dn + 1) Pro.bEnterW s.enter := ⟨_, rfl⟩
    have hT2e : T2 = T1 := by
      rw [hT2]
      unfold Pro.endT
      rw [if_pos (by rw [List.isEmpty_iff_length_eq_zero]; exact hE), ByteArray.append_empty]
    have hT2s : T2.size ≤ T1.size + 2002000000 := by rw [hT2e]; omega
    rw [← hT2e] at hw3
    clear hT2e
    have hE' : s.enter.length = 0 := by omega
    by_cases hL : s.leave.length = 0
    · skip
      obtain ⟨T3, hT3⟩ : ∃ T, T = T2 ++ Pro.endT (dn + 1) Pro.bLeaveW s.leave := ⟨_, rfl⟩
      have hT3e : T3 = T2 := by
        rw [hT3]
        unfold Pro.endT
        rw [if_pos (by rw [List.isEmpty_iff_length_eq_zero]; exact hL), ByteArray.append_empty]
      have hT3s : T3.size ≤ T2.size + 2002000000 := by rw [hT3e]; omega
      rw [← hT3e] at hw3
      clear hT3e
      have hL' : s.leave.length = 0 := by omega
      have HX1 : Hid _ := hX1
      have hml := hX1.mlen
      clear hX1
      go_wp2
      clear hE hE' hL hL'
      go_loopg [37] M.length (fun q i wr => ∃ k : Nat, q = M.length - k ∧ k ≤ M.length ∧ i = .int .i64 k ∧ IsWr B b (bs ++ Lib.strCells (T3 ++ Pro.mvsTo (dn + 1) s.moves k)) wr ∧ Below B w wr ∧ WrKept b W1 wr)
      case atStart => exact ⟨0, rfl, Nat.zero_le _, rfl, by rw [show T3 ++ Pro.mvsTo (dn + 1) s.moves 0 = T3 from ByteArray.append_empty]; exact hw3, hbw3, hk3'⟩
      case round =>
        clear c0 c1 c2 c3 c4 c5 c6 c7 hsb3 hbw3 hk3' hw3 hs3
        obtain ⟨k, hq, hk, rfl, hwr, hbr, hkr⟩ := hrel
        have hbs := hbr.size
        have hsbr := cells_wr hsb1 hkr hw1 (by decide) (by decide)
        by_cases hkn : k < M.length
        · have hXr := HX1.out.wr hkr hw1
          obtain ⟨mb, cm, hvm⟩ := Ref.own_form hXr.moves (by omega)
          simp only [Ref.Sl.v, Value.slice.injEq] at hvm
          obtain ⟨rfl, _, rfl⟩ := hvm
          have hmo : wr.ownsRow 0 295 5 (.slice (some ⟨mb, 0, none⟩) M.length mc) M.length (M.flatMap Pro.pvCells) := hXr.moves
          have hrng := Row.range (f := Pro.pvCells) (n := 5) (fun _ => rfl) hmo hkn
          have hcm : M.length ≤ mc := by
            rcases hmo.2 with ⟨h, _⟩ | ⟨g', cap', cur, h, _, _, hle, _⟩
            · cases h
            · simp at h; rw [h.2]; exact hle
          obtain ⟨y, hy⟩ : ∃ y, y = M[k] := ⟨_, rfl⟩
          have hym : y ∈ M := by rw [hy]; exact List.getElem_mem hkn
          rw [← hy] at hrng
          unfold Pro.pvCells at hrng
          have hyA := hXr.acts y hym
          have hyn : y.v.n = y.m.acts.length := own_len hyA
          unfold Ref.Sl.v at hyA
          rw [hyn] at hyA hrng
          obtain ⟨hyS, hyG⟩ := hXr.actsG y hym
          have hysz := Pro.mvText_small hyS
          have hye := hyS.event
          have hyt := hyS.dst
          have HN : Hid (Pro.mvsTo (dn + 1) s.moves (k + 1) = Pro.mvsTo (dn + 1) s.moves k ++ Pro.lineT (dn + 1) (Pro.mvText y.m) y.m.acts) := by
            unfold Hid
            rw [Pro.mvsTo, show s.moves = M.map (·.m) from hXr.mv.symm, List.getElem?_map, List.getElem?_eq_getElem hkn, ← hy]
            rfl
          have hTs : (T3 ++ Pro.mvsTo (dn + 1) s.moves k).size ≤ 8300000000000 := by
            have h1 := Pro.mvsTo_small (d := dn + 1) (M := s.moves) (by omega) (fun m hm => by
              rw [show s.moves = M.map (·.m) from hXr.mv.symm] at hm
              obtain ⟨z, hz, rfl⟩ := List.mem_map.1 hm
              exact hXr.actsG z hz) k
            have h2 : k * 2002000000 ≤ 4096 * 2002000000 := Nat.mul_le_mul_right _ (by omega)
            rw [ByteArray.size_append']
            omega
          have HAr : Hid _ := hyA
          have HGr : Hid _ := hyG
          clear hyA hyG hyS hmo hy hym hXr
          go_wp2_with (first
            | (refine wpList_load_mid rfl 295 (.tmp 39) rfl mb (k * 5) rfl _ _ hrng Tryz.underlying295 rfl Tryz.sizeMoveM ?_)
            | (refine wpList_store_new rfl 295 (.tmp 5) (.tmp 40) rfl 295 _ _ rfl rfl Tryz.sizeMoveM rfl rfl ?_)
            | fail)
          have hb5 : Below wr.heap.size wr (wr.alloc (.cells #[.string y.m.event, .bool y.m.after, .int .u64 y.m.delay, .string y.m.to, .slice y.v.a y.m.acts.length y.v.c] 295)) := (Below.refl _ _).alloc (Nat.le_refl _) _
          have hm5 : (wr.alloc (.cells #[.string y.m.event, .bool y.m.after, .int .u64 y.m.delay, .string y.m.to, .slice y.v.a y.m.acts.length y.v.c] 295)).heap[wr.heap.size]? = some (.cells #[.string y.m.event, .bool y.m.after, .int .u64 y.m.delay, .string y.m.to, .slice y.v.a y.m.acts.length y.v.c] 295 (0, 0)) := heap_alloc_new _ _
          obtain ⟨W5, hW5⟩ : ∃ z, z = wr.alloc (.cells #[.string y.m.event, .bool y.m.after, .int .u64 y.m.delay, .string y.m.to, .slice y.v.a y.m.acts.length y.v.c] 295) := ⟨_, rfl⟩
          change Code.wp _ _ _ _ (wr.alloc (.cells #[.string y.m.event, .bool y.m.after, .int .u64 y.m.delay, .string y.m.to, .slice y.v.a y.m.acts.length y.v.c] 295))
          rw [← hW5] at hb5 hm5 ⊢
          clear hW5 hrng
          have hk5 : WrKept b wr W5 := wrKept_below hb5
          have hw5 := hwr.keep hb5
          have hsb5 := cells_wr hsbr hk5 hwr (by decide) (by decide)
          have hbw5 : Below B w W5 := hbr.trans (hb5.mono (by omega))
          have hs5 := hbw5.size
          have hkw5 : WrKept b W1 W5 := hkr.trans hk5
          have HA5 : Hid _ := own_wr HAr.out hk5 hwr (by decide) (by decide)
          clear hb5 hk5 hwr hbr hkr HAr hsbr
          have hmlt := (Array.getElem?_eq_some_iff.1 hm5).1
          refine wp_region_held_drew (S := (fun W => W.cell? ⟨w.heap.size, 2, none⟩ = some (.int .i64 dn) ∧ W.cell? ⟨wr.heap.size, 0, none⟩ = some (.string y.m.event) ∧ W.cell? ⟨wr.heap.size, 1, none⟩ = some (.bool y.m.after) ∧ W.cell? ⟨wr.heap.size, 2, none⟩ = some (.int .u64 y.m.delay) ∧ W.cell? ⟨wr.heap.size, 3, none⟩ = some (.string y.m.to) ∧ W.cell? ⟨wr.heap.size, 4, none⟩ = some (.slice y.v.a y.m.acts.length y.v.c))) (by kernel_rfl) (mv_held hsb5 hm5) (fun hHeld => ?_)
          refine wpAnyH_take (i := 0) (v := .pointer (some ⟨b, 0, none⟩)) rfl (by kernel_rfl) (by kernel_rfl) (by kernel_rfl) (fun _ _ _ h => h) (Or.inl ⟨by rfl, fun w hSw => by (try dsimp only at hSw); go_simp; (try with_reducible rfl)⟩) hHeld ?_
          refine wpAnyH_take (i := 1) (v := .pointer (some ⟨w.heap.size, 2, none⟩)) rfl (by kernel_rfl) (by kernel_rfl) (by kernel_rfl) (fun _ _ _ h => h) (Or.inl ⟨by rfl, fun w hSw => by (try dsimp only at hSw); go_simp; (try with_reducible rfl)⟩) hHeld ?_
          refine wpAnyH_take (i := 2) (v := .int .i64 dn) rfl (by kernel_rfl) (by kernel_rfl) (by kernel_rfl) (fun _ _ _ h => h) (Or.inl ⟨by rfl, fun w hSw => by (try dsimp only at hSw); go_simp; (try with_reducible rfl)⟩) hHeld ?_
          refine wpAnyH_take (i := 3) (v := .int .i64 (dn + 1)) rfl (by kernel_rfl) (by kernel_rfl) (by kernel_rfl) (fun _ _ _ h => h) (Or.inl ⟨by rfl, fun w hSw => by (try dsimp only at hSw); go_simp; exact IntWalk.i64_in _ (by omega)⟩) hHeld ?_
          refine wpAnyH_take (i := 4) (v := .agg #[.string y.m.event, .bool y.m.after, .int .u64 y.m.delay, .string y.m.to, .slice y.v.a y.m.acts.length y.v.c]) rfl (by kernel_rfl) (by kernel_rfl) (by kernel_rfl) (fun _ _ _ h => h) (Or.inl ⟨by rfl, fun w hSw => by (try dsimp only at hSw); go_simp; (try with_reducible rfl)⟩) hHeld ?_
          refine wpAnyH_take (i := 6) (v := .pointer (some ⟨wr.heap.size, 4, none⟩)) rfl (by kernel_rfl) (by kernel_rfl) (by kernel_rfl) (fun _ _ _ h => h) (Or.inl ⟨by rfl, fun w hSw => by (try dsimp only at hSw); go_simp; (try with_reducible rfl)⟩) hHeld ?_
          refine wpAnyH_take (i := 7) (v := .slice y.v.a y.m.acts.length y.v.c) rfl (by kernel_rfl) (by kernel_rfl) (by kernel_rfl) (fun _ _ _ h => h) (Or.inl ⟨by rfl, fun w hSw => by (try dsimp only at hSw); go_simp; (try with_reducible rfl)⟩) hHeld ?_
          refine wpAnyH_ready (rs := [5]) (by kernel_rfl) (by simp) ?_
          refine AllReadyH.cons rfl (fun K hK => ?_) AllReadyH.nil
          go_simp
          refine Calls.mono (by have h := moveText_any y W5.drew (by omega) (by omega); rw [hyn] at h; exact h) ?_
          rintro e w6 ⟨rfl, hb6⟩
          have hb6' : Below W5.heap.size W5 w6 := ((Below.refl _ _).drew).trans hb6
          have hsb6 := (hb6'.block _ (Array.getElem?_eq_some_iff.1 hsb5).1).trans hsb5
          have hm6 := (hb6'.block _ hmlt).trans hm5
          have hw6 := hw5.keep hb6'
          have hk6 : WrKept b W1 w6 := hkw5.trans (wrKept_below hb6')
          have hbw6 : Below B w w6 := hbw5.trans (hb6'.mono (by omega))
          have hs6 := hbw6.size
          have hA6 := own_wr HA5.out (wrKept_below hb6') hw5 (by decide) (by decide)
          dsimp only
          refine hK.out _ _ (mv_held hsb6 hm6) (fun hHeld => ?_)
          clear hK K hb6 hb6' hw5 hkw5 hbw5 hsb5 hm5 HA5 hs5
          refine wpAnyH_ready (rs := [8]) (by kernel_rfl) (by simp) ?_
          refine AllReadyH.cons rfl (fun K hK => ?_) AllReadyH.nil
          go_simp
          rw [← ed]
          refine Calls.mono (wline_any B b _ (dn + 1) (Pro.mvText y.m) y.m.acts y.v.a y.m.acts.length y.v.c w6 hw6 (by omega) hA6 HGr.out.shape HGr.out.small HGr.out.len (by omega) (by omega) (by rw [List.length_append, strCells_len]; omega) (EnvAt.below HEnv.out hbw6)) ?_
          rintro e w7 ⟨rfl, hw7, hb7, hk7⟩
          have hsb7 := cells_wr hsb6 hk7 hw6 (by decide) (by decide)
          have hm7 := cells_wr hm6 hk7 hw6 (by decide) (by decide)
          have hk7' : WrKept b W1 w7 := hk6.trans hk7
          have hbw7 := hbw6.trans hb7
          have hw7' : IsWr B b (bs ++ Lib.strCells (T3 ++ Pro.mvsTo (dn + 1) s.moves (k + 1))) w7 := by
            rw [HN.out, ← ByteArray.append_assoc, strCells_app (T3 ++ _), ← List.append_assoc]
            exact hw7
          dsimp only
          refine hK.out _ _ (mv_held hsb7 hm7) (fun hHeld => ?_)
          clear hK K hb7 hk7 hw7 hw6 hk6 hbw6 hsb6 hm6 hA6 hsb7 hm7 hs6
          refine wpAnyH_done (by kernel_rfl) ?_ _
          clear hHeld
          go_wp2
          go_roundg (M.length - (k + 1))
          case measure => omega
          case rel => exact ⟨k + 1, rfl, by omega, by go_num, hw7', hbw7, hk7'⟩
        · have hke : k = M.length := by omega
          subst hke
          have hwE : IsWr B b (bs ++ Lib.strCells (Pro.sLines s)) wr := by
            unfold Pro.sLines Pro.headT
            rw [hdn, Int.toNat_natCast, ← hT1, ← hT2, ← hT3, show s.moves.length = M.length by rw [show s.moves = M.map (·.m) from HX1.out.mv.symm, List.length_map]]
            exact hwr
          go_wp2
          go_end0
          exact ⟨rfl, hwE, hbr, hk1.trans hkr⟩
    · have hL' : 0 < s.leave.length := by omega
      go_wp2_with fail
      rw [← ed]
      have hX3 := hX1.wr hk3' hw1
      refine Calls.mono (wline_any B b _ (dn + 1) Pro.bLeaveW s.leave la s.leave.length lc w3 hw3 (by omega) hX3.leave hX3.leaveG.shape hX3.leaveG.small hX3.leaveG.len (by omega) (by decide) (by rw [List.length_append, strCells_len]; omega) (EnvAt.below HEnv.out hbw3)) ?_
      rintro e w5 ⟨rfl, hw5, hb5, hk5⟩
      have hsb5 := cells_wr hsb3 hk5 hw3 (by decide) (by decide)
      have hk5' : WrKept b W1 w5 := hk3'.trans hk5
      have hbw5 := hbw3.trans hb5
      have hs5 := hbw5.size
      obtain ⟨c0, c1, c2, c3, c4, c5, c6, c7⟩ := ds_cellsN hsb5
      obtain ⟨T3, hT3⟩ : ∃ T, T = T2 ++ Pro.endT (dn + 1) Pro.bLeaveW s.leave := ⟨_, rfl⟩
      have hT3s : T3.size ≤ T2.size + 2002000000 := by rw [hT3, ByteArray.size_append']; have := Pro.endT_small (d := dn + 1) (h := Pro.bLeaveW) (A := s.leave) (by omega) (by decide) hX3.leaveG; omega
      have hw5' : IsWr B b (bs ++ Lib.strCells T3) w5 := by
        rw [hT3, strCells_app, ← List.append_assoc]
        unfold Pro.endT
        rw [if_neg (by rw [List.isEmpty_iff_length_eq_zero]; omega)]
        exact hw5
      clear hw5
      have hw5 := hw5'
      clear hw5'
      clear hb5 hk5 hX3
      have HX1 : Hid _ := hX1
      have hml := hX1.mlen
      clear hX1
      go_wp2
      clear hE hE' hL hL'
      go_loopg [37] M.length (fun q i wr => ∃ k : Nat, q = M.length - k ∧ k ≤ M.length ∧ i = .int .i64 k ∧ IsWr B b (bs ++ Lib.strCells (T3 ++ Pro.mvsTo (dn + 1) s.moves k)) wr ∧ Below B w wr ∧ WrKept b W1 wr)
      case atStart => exact ⟨0, rfl, Nat.zero_le _, rfl, by rw [show T3 ++ Pro.mvsTo (dn + 1) s.moves 0 = T3 from ByteArray.append_empty]; exact hw5, hbw5, hk5'⟩
      case round =>
        clear c0 c1 c2 c3 c4 c5 c6 c7 hsb5 hbw5 hk5' hw5 hs5
        obtain ⟨k, hq, hk, rfl, hwr, hbr, hkr⟩ := hrel
        have hbs := hbr.size
        have hsbr := cells_wr hsb1 hkr hw1 (by decide) (by decide)
        by_cases hkn : k < M.length
        · have hXr := HX1.out.wr hkr hw1
          obtain ⟨mb, cm, hvm⟩ := Ref.own_form hXr.moves (by omega)
          simp only [Ref.Sl.v, Value.slice.injEq] at hvm
          obtain ⟨rfl, _, rfl⟩ := hvm
          have hmo : wr.ownsRow 0 295 5 (.slice (some ⟨mb, 0, none⟩) M.length mc) M.length (M.flatMap Pro.pvCells) := hXr.moves
          have hrng := Row.range (f := Pro.pvCells) (n := 5) (fun _ => rfl) hmo hkn
          have hcm : M.length ≤ mc := by
            rcases hmo.2 with ⟨h, _⟩ | ⟨g', cap', cur, h, _, _, hle, _⟩
            · cases h
            · simp at h; rw [h.2]; exact hle
          obtain ⟨y, hy⟩ : ∃ y, y = M[k] := ⟨_, rfl⟩
          have hym : y ∈ M := by rw [hy]; exact List.getElem_mem hkn
          rw [← hy] at hrng
          unfold Pro.pvCells at hrng
          have hyA := hXr.acts y hym
          have hyn : y.v.n = y.m.acts.length := own_len hyA
          unfold Ref.Sl.v at hyA
          rw [hyn] at hyA hrng
          obtain ⟨hyS, hyG⟩ := hXr.actsG y hym
          have hysz := Pro.mvText_small hyS
          have hye := hyS.event
          have hyt := hyS.dst
          have HN : Hid (Pro.mvsTo (dn + 1) s.moves (k + 1) = Pro.mvsTo (dn + 1) s.moves k ++ Pro.lineT (dn + 1) (Pro.mvText y.m) y.m.acts) := by
            unfold Hid
            rw [Pro.mvsTo, show s.moves = M.map (·.m) from hXr.mv.symm, List.getElem?_map, List.getElem?_eq_getElem hkn, ← hy]
            rfl
          have hTs : (T3 ++ Pro.mvsTo (dn + 1) s.moves k).size ≤ 8300000000000 := by
            have h1 := Pro.mvsTo_small (d := dn + 1) (M := s.moves) (by omega) (fun m hm => by
              rw [show s.moves = M.map (·.m) from hXr.mv.symm] at hm
              obtain ⟨z, hz, rfl⟩ := List.mem_map.1 hm
              exact hXr.actsG z hz) k
            have h2 : k * 2002000000 ≤ 4096 * 2002000000 := Nat.mul_le_mul_right _ (by omega)
            rw [ByteArray.size_append']
            omega
          have HAr : Hid _ := hyA
          have HGr : Hid _ := hyG
          clear hyA hyG hyS hmo hy hym hXr
          go_wp2_with (first
            | (refine wpList_load_mid rfl 295 (.tmp 39) rfl mb (k * 5) rfl _ _ hrng Tryz.underlying295 rfl Tryz.sizeMoveM ?_)
            | (refine wpList_store_new rfl 295 (.tmp 5) (.tmp 40) rfl 295 _ _ rfl rfl Tryz.sizeMoveM rfl rfl ?_)
            | fail)
          have hb5 : Below wr.heap.size wr (wr.alloc (.cells #[.string y.m.event, .bool y.m.after, .int .u64 y.m.delay, .string y.m.to, .slice y.v.a y.m.acts.length y.v.c] 295)) := (Below.refl _ _).alloc (Nat.le_refl _) _
          have hm5 : (wr.alloc (.cells #[.string y.m.event, .bool y.m.after, .int .u64 y.m.delay, .string y.m.to, .slice y.v.a y.m.acts.length y.v.c] 295)).heap[wr.heap.size]? = some (.cells #[.string y.m.event, .bool y.m.after, .int .u64 y.m.delay, .string y.m.to, .slice y.v.a y.m.acts.length y.v.c] 295 (0, 0)) := heap_alloc_new _ _
          obtain ⟨W5, hW5⟩ : ∃ z, z = wr.alloc (.cells #[.string y.m.event, .bool y.m.after, .int .u64 y.m.delay, .string y.m.to, .slice y.v.a y.m.acts.length y.v.c] 295) := ⟨_, rfl⟩
          change Code.wp _ _ _ _ (wr.alloc (.cells #[.string y.m.event, .bool y.m.after, .int .u64 y.m.delay, .string y.m.to, .slice y.v.a y.m.acts.length y.v.c] 295))
          rw [← hW5] at hb5 hm5 ⊢
          clear hW5 hrng
          have hk5 : WrKept b wr W5 := wrKept_below hb5
          have hw5 := hwr.keep hb5
          have hsb5 := cells_wr hsbr hk5 hwr (by decide) (by decide)
          have hbw5 : Below B w W5 := hbr.trans (hb5.mono (by omega))
          have hs5 := hbw5.size
          have hkw5 : WrKept b W1 W5 := hkr.trans hk5
          have HA5 : Hid _ := own_wr HAr.out hk5 hwr (by decide) (by decide)
          clear hb5 hk5 hwr hbr hkr HAr hsbr
          have hmlt := (Array.getElem?_eq_some_iff.1 hm5).1
          refine wp_region_held_drew (S := (fun W => W.cell? ⟨w.heap.size, 2, none⟩ = some (.int .i64 dn) ∧ W.cell? ⟨wr.heap.size, 0, none⟩ = some (.string y.m.event) ∧ W.cell? ⟨wr.heap.size, 1, none⟩ = some (.bool y.m.after) ∧ W.cell? ⟨wr.heap.size, 2, none⟩ = some (.int .u64 y.m.delay) ∧ W.cell? ⟨wr.heap.size, 3, none⟩ = some (.string y.m.to) ∧ W.cell? ⟨wr.heap.size, 4, none⟩ = some (.slice y.v.a y.m.acts.length y.v.c))) (by kernel_rfl) (mv_held hsb5 hm5) (fun hHeld => ?_)
          refine wpAnyH_take (i := 0) (v := .pointer (some ⟨b, 0, none⟩)) rfl (by kernel_rfl) (by kernel_rfl) (by kernel_rfl) (fun _ _ _ h => h) (Or.inl ⟨by rfl, fun w hSw => by (try dsimp only at hSw); go_simp; (try with_reducible rfl)⟩) hHeld ?_
          refine wpAnyH_take (i := 1) (v := .pointer (some ⟨w.heap.size, 2, none⟩)) rfl (by kernel_rfl) (by kernel_rfl) (by kernel_rfl) (fun _ _ _ h => h) (Or.inl ⟨by rfl, fun w hSw => by (try dsimp only at hSw); go_simp; (try with_reducible rfl)⟩) hHeld ?_
          refine wpAnyH_take (i := 2) (v := .int .i64 dn) rfl (by kernel_rfl) (by kernel_rfl) (by kernel_rfl) (fun _ _ _ h => h) (Or.inl ⟨by rfl, fun w hSw => by (try dsimp only at hSw); go_simp; (try with_reducible rfl)⟩) hHeld ?_
          refine wpAnyH_take (i := 3) (v := .int .i64 (dn + 1)) rfl (by kernel_rfl) (by kernel_rfl) (by kernel_rfl) (fun _ _ _ h => h) (Or.inl ⟨by rfl, fun w hSw => by (try dsimp only at hSw); go_simp; exact IntWalk.i64_in _ (by omega)⟩) hHeld ?_
          refine wpAnyH_take (i := 4) (v := .agg #[.string y.m.event, .bool y.m.after, .int .u64 y.m.delay, .string y.m.to, .slice y.v.a y.m.acts.length y.v.c]) rfl (by kernel_rfl) (by kernel_rfl) (by kernel_rfl) (fun _ _ _ h => h) (Or.inl ⟨by rfl, fun w hSw => by (try dsimp only at hSw); go_simp; (try with_reducible rfl)⟩) hHeld ?_
          refine wpAnyH_take (i := 6) (v := .pointer (some ⟨wr.heap.size, 4, none⟩)) rfl (by kernel_rfl) (by kernel_rfl) (by kernel_rfl) (fun _ _ _ h => h) (Or.inl ⟨by rfl, fun w hSw => by (try dsimp only at hSw); go_simp; (try with_reducible rfl)⟩) hHeld ?_
          refine wpAnyH_take (i := 7) (v := .slice y.v.a y.m.acts.length y.v.c) rfl (by kernel_rfl) (by kernel_rfl) (by kernel_rfl) (fun _ _ _ h => h) (Or.inl ⟨by rfl, fun w hSw => by (try dsimp only at hSw); go_simp; (try with_reducible rfl)⟩) hHeld ?_
          refine wpAnyH_ready (rs := [5]) (by kernel_rfl) (by simp) ?_
          refine AllReadyH.cons rfl (fun K hK => ?_) AllReadyH.nil
          go_simp
          refine Calls.mono (by have h := moveText_any y W5.drew (by omega) (by omega); rw [hyn] at h; exact h) ?_
          rintro e w6 ⟨rfl, hb6⟩
          have hb6' : Below W5.heap.size W5 w6 := ((Below.refl _ _).drew).trans hb6
          have hsb6 := (hb6'.block _ (Array.getElem?_eq_some_iff.1 hsb5).1).trans hsb5
          have hm6 := (hb6'.block _ hmlt).trans hm5
          have hw6 := hw5.keep hb6'
          have hk6 : WrKept b W1 w6 := hkw5.trans (wrKept_below hb6')
          have hbw6 : Below B w w6 := hbw5.trans (hb6'.mono (by omega))
          have hs6 := hbw6.size
          have hA6 := own_wr HA5.out (wrKept_below hb6') hw5 (by decide) (by decide)
          dsimp only
          refine hK.out _ _ (mv_held hsb6 hm6) (fun hHeld => ?_)
          clear hK K hb6 hb6' hw5 hkw5 hbw5 hsb5 hm5 HA5 hs5
          refine wpAnyH_ready (rs := [8]) (by kernel_rfl) (by simp) ?_
          refine AllReadyH.cons rfl (fun K hK => ?_) AllReadyH.nil
          go_simp
          rw [← ed]
          refine Calls.mono (wline_any B b _ (dn + 1) (Pro.mvText y.m) y.m.acts y.v.a y.m.acts.length y.v.c w6 hw6 (by omega) hA6 HGr.out.shape HGr.out.small HGr.out.len (by omega) (by omega) (by rw [List.length_append, strCells_len]; omega) (EnvAt.below HEnv.out hbw6)) ?_
          rintro e w7 ⟨rfl, hw7, hb7, hk7⟩
          have hsb7 := cells_wr hsb6 hk7 hw6 (by decide) (by decide)
          have hm7 := cells_wr hm6 hk7 hw6 (by decide) (by decide)
          have hk7' : WrKept b W1 w7 := hk6.trans hk7
          have hbw7 := hbw6.trans hb7
          have hw7' : IsWr B b (bs ++ Lib.strCells (T3 ++ Pro.mvsTo (dn + 1) s.moves (k + 1))) w7 := by
            rw [HN.out, ← ByteArray.append_assoc, strCells_app (T3 ++ _), ← List.append_assoc]
            exact hw7
          dsimp only
          refine hK.out _ _ (mv_held hsb7 hm7) (fun hHeld => ?_)
          clear hK K hb7 hk7 hw7 hw6 hk6 hbw6 hsb6 hm6 hA6 hsb7 hm7 hs6
          refine wpAnyH_done (by kernel_rfl) ?_ _
          clear hHeld
          go_wp2
          go_roundg (M.length - (k + 1))
          case measure => omega
          case rel => exact ⟨k + 1, rfl, by omega, by go_num, hw7', hbw7, hk7'⟩
        · have hke : k = M.length := by omega
          subst hke
          have hwE : IsWr B b (bs ++ Lib.strCells (Pro.sLines s)) wr := by
            unfold Pro.sLines Pro.headT
            rw [hdn, Int.toNat_natCast, ← hT1, ← hT2, ← hT3, show s.moves.length = M.length by rw [show s.moves = M.map (·.m) from HX1.out.mv.symm, List.length_map]]
            exact hwr
          go_wp2
          go_end0
          exact ⟨rfl, hwE, hbr, hk1.trans hkr⟩
  · have hE' : 0 < s.enter.length := by omega
    go_wp2_with fail
    rw [← ed]
    have hX3 := hX1.wr hk3' hw1
    refine Calls.mono (wline_any B b _ (dn + 1) Pro.bEnterW s.enter ea s.enter.length ec w3 hw3 (by omega) hX3.enter hX3.enterG.shape hX3.enterG.small hX3.enterG.len (by omega) (by decide) (by rw [List.length_append, strCells_len]; omega) (EnvAt.below HEnv.out hbw3)) ?_
    rintro e w4 ⟨rfl, hw4, hb4, hk4⟩
    have hsb4 := cells_wr hsb3 hk4 hw3 (by decide) (by decide)
    have hk4' : WrKept b W1 w4 := hk3'.trans hk4
    have hbw4 := hbw3.trans hb4
    have hs4 := hbw4.size
    obtain ⟨c0, c1, c2, c3, c4, c5, c6, c7⟩ := ds_cellsN hsb4
    obtain ⟨T2, hT2⟩ : ∃ T, T = T1 ++ Pro.endT (dn + 1) Pro.bEnterW s.enter := ⟨_, rfl⟩
    have hT2s : T2.size ≤ T1.size + 2002000000 := by rw [hT2, ByteArray.size_append']; have := Pro.endT_small (d := dn + 1) (h := Pro.bEnterW) (A := s.enter) (by omega) (by decide) hX3.enterG; omega
    have hw4' : IsWr B b (bs ++ Lib.strCells T2) w4 := by
      rw [hT2, strCells_app, ← List.append_assoc]
      unfold Pro.endT
      rw [if_neg (by rw [List.isEmpty_iff_length_eq_zero]; omega)]
      exact hw4
    clear hw4
    have hw4 := hw4'
    clear hw4'
    clear hb4 hk4 hX3
    by_cases hL : s.leave.length = 0
    · skip
      obtain ⟨T3, hT3⟩ : ∃ T, T = T2 ++ Pro.endT (dn + 1) Pro.bLeaveW s.leave := ⟨_, rfl⟩
      have hT3e : T3 = T2 := by
        rw [hT3]
        unfold Pro.endT
        rw [if_pos (by rw [List.isEmpty_iff_length_eq_zero]; exact hL), ByteArray.append_empty]
      have hT3s : T3.size ≤ T2.size + 2002000000 := by rw [hT3e]; omega
      rw [← hT3e] at hw4
      clear hT3e
      have hL' : s.leave.length = 0 := by omega
      have HX1 : Hid _ := hX1
      have hml := hX1.mlen
      clear hX1
      go_wp2
      clear hE hE' hL hL'
      go_loopg [37] M.length (fun q i wr => ∃ k : Nat, q = M.length - k ∧ k ≤ M.length ∧ i = .int .i64 k ∧ IsWr B b (bs ++ Lib.strCells (T3 ++ Pro.mvsTo (dn + 1) s.moves k)) wr ∧ Below B w wr ∧ WrKept b W1 wr)
      case atStart => exact ⟨0, rfl, Nat.zero_le _, rfl, by rw [show T3 ++ Pro.mvsTo (dn + 1) s.moves 0 = T3 from ByteArray.append_empty]; exact hw4, hbw4, hk4'⟩
      case round =>
        clear c0 c1 c2 c3 c4 c5 c6 c7 hsb4 hbw4 hk4' hw4 hs4
        obtain ⟨k, hq, hk, rfl, hwr, hbr, hkr⟩ := hrel
        have hbs := hbr.size
        have hsbr := cells_wr hsb1 hkr hw1 (by decide) (by decide)
        by_cases hkn : k < M.length
        · have hXr := HX1.out.wr hkr hw1
          obtain ⟨mb, cm, hvm⟩ := Ref.own_form hXr.moves (by omega)
          simp only [Ref.Sl.v, Value.slice.injEq] at hvm
          obtain ⟨rfl, _, rfl⟩ := hvm
          have hmo : wr.ownsRow 0 295 5 (.slice (some ⟨mb, 0, none⟩) M.length mc) M.length (M.flatMap Pro.pvCells) := hXr.moves
          have hrng := Row.range (f := Pro.pvCells) (n := 5) (fun _ => rfl) hmo hkn
          have hcm : M.length ≤ mc := by
            rcases hmo.2 with ⟨h, _⟩ | ⟨g', cap', cur, h, _, _, hle, _⟩
            · cases h
            · simp at h; rw [h.2]; exact hle
          obtain ⟨y, hy⟩ : ∃ y, y = M[k] := ⟨_, rfl⟩
          have hym : y ∈ M := by rw [hy]; exact List.getElem_mem hkn
          rw [← hy] at hrng
          unfold Pro.pvCells at hrng
          have hyA := hXr.acts y hym
          have hyn : y.v.n = y.m.acts.length := own_len hyA
          unfold Ref.Sl.v at hyA
          rw [hyn] at hyA hrng
          obtain ⟨hyS, hyG⟩ := hXr.actsG y hym
          have hysz := Pro.mvText_small hyS
          have hye := hyS.event
          have hyt := hyS.dst
          have HN : Hid (Pro.mvsTo (dn + 1) s.moves (k + 1) = Pro.mvsTo (dn + 1) s.moves k ++ Pro.lineT (dn + 1) (Pro.mvText y.m) y.m.acts) := by
            unfold Hid
            rw [Pro.mvsTo, show s.moves = M.map (·.m) from hXr.mv.symm, List.getElem?_map, List.getElem?_eq_getElem hkn, ← hy]
            rfl
          have hTs : (T3 ++ Pro.mvsTo (dn + 1) s.moves k).size ≤ 8300000000000 := by
            have h1 := Pro.mvsTo_small (d := dn + 1) (M := s.moves) (by omega) (fun m hm => by
              rw [show s.moves = M.map (·.m) from hXr.mv.symm] at hm
              obtain ⟨z, hz, rfl⟩ := List.mem_map.1 hm
              exact hXr.actsG z hz) k
            have h2 : k * 2002000000 ≤ 4096 * 2002000000 := Nat.mul_le_mul_right _ (by omega)
            rw [ByteArray.size_append']
            omega
          have HAr : Hid _ := hyA
          have HGr : Hid _ := hyG
          clear hyA hyG hyS hmo hy hym hXr
          go_wp2_with (first
            | (refine wpList_load_mid rfl 295 (.tmp 39) rfl mb (k * 5) rfl _ _ hrng Tryz.underlying295 rfl Tryz.sizeMoveM ?_)
            | (refine wpList_store_new rfl 295 (.tmp 5) (.tmp 40) rfl 295 _ _ rfl rfl Tryz.sizeMoveM rfl rfl ?_)
            | fail)
          have hb5 : Below wr.heap.size wr (wr.alloc (.cells #[.string y.m.event, .bool y.m.after, .int .u64 y.m.delay, .string y.m.to, .slice y.v.a y.m.acts.length y.v.c] 295)) := (Below.refl _ _).alloc (Nat.le_refl _) _
          have hm5 : (wr.alloc (.cells #[.string y.m.event, .bool y.m.after, .int .u64 y.m.delay, .string y.m.to, .slice y.v.a y.m.acts.length y.v.c] 295)).heap[wr.heap.size]? = some (.cells #[.string y.m.event, .bool y.m.after, .int .u64 y.m.delay, .string y.m.to, .slice y.v.a y.m.acts.length y.v.c] 295 (0, 0)) := heap_alloc_new _ _
          obtain ⟨W5, hW5⟩ : ∃ z, z = wr.alloc (.cells #[.string y.m.event, .bool y.m.after, .int .u64 y.m.delay, .string y.m.to, .slice y.v.a y.m.acts.length y.v.c] 295) := ⟨_, rfl⟩
          change Code.wp _ _ _ _ (wr.alloc (.cells #[.string y.m.event, .bool y.m.after, .int .u64 y.m.delay, .string y.m.to, .slice y.v.a y.m.acts.length y.v.c] 295))
          rw [← hW5] at hb5 hm5 ⊢
          clear hW5 hrng
          have hk5 : WrKept b wr W5 := wrKept_below hb5
          have hw5 := hwr.keep hb5
          have hsb5 := cells_wr hsbr hk5 hwr (by decide) (by decide)
          have hbw5 : Below B w W5 := hbr.trans (hb5.mono (by omega))
          have hs5 := hbw5.size
          have hkw5 : WrKept b W1 W5 := hkr.trans hk5
          have HA5 : Hid _ := own_wr HAr.out hk5 hwr (by decide) (by decide)
          clear hb5 hk5 hwr hbr hkr HAr hsbr
          have hmlt := (Array.getElem?_eq_some_iff.1 hm5).1
          refine wp_region_held_drew (S := (fun W => W.cell? ⟨w.heap.size, 2, none⟩ = some (.int .i64 dn) ∧ W.cell? ⟨wr.heap.size, 0, none⟩ = some (.string y.m.event) ∧ W.cell? ⟨wr.heap.size, 1, none⟩ = some (.bool y.m.after) ∧ W.cell? ⟨wr.heap.size, 2, none⟩ = some (.int .u64 y.m.delay) ∧ W.cell? ⟨wr.heap.size, 3, none⟩ = some (.string y.m.to) ∧ W.cell? ⟨wr.heap.size, 4, none⟩ = some (.slice y.v.a y.m.acts.length y.v.c))) (by kernel_rfl) (mv_held hsb5 hm5) (fun hHeld => ?_)
          refine wpAnyH_take (i := 0) (v := .pointer (some ⟨b, 0, none⟩)) rfl (by kernel_rfl) (by kernel_rfl) (by kernel_rfl) (fun _ _ _ h => h) (Or.inl ⟨by rfl, fun w hSw => by (try dsimp only at hSw); go_simp; (try with_reducible rfl)⟩) hHeld ?_
          refine wpAnyH_take (i := 1) (v := .pointer (some ⟨w.heap.size, 2, none⟩)) rfl (by kernel_rfl) (by kernel_rfl) (by kernel_rfl) (fun _ _ _ h => h) (Or.inl ⟨by rfl, fun w hSw => by (try dsimp only at hSw); go_simp; (try with_reducible rfl)⟩) hHeld ?_
          refine wpAnyH_take (i := 2) (v := .int .i64 dn) rfl (by kernel_rfl) (by kernel_rfl) (by kernel_rfl) (fun _ _ _ h => h) (Or.inl ⟨by rfl, fun w hSw => by (try dsimp only at hSw); go_simp; (try with_reducible rfl)⟩) hHeld ?_
          refine wpAnyH_take (i := 3) (v := .int .i64 (dn + 1)) rfl (by kernel_rfl) (by kernel_rfl) (by kernel_rfl) (fun _ _ _ h => h) (Or.inl ⟨by rfl, fun w hSw => by (try dsimp only at hSw); go_simp; exact IntWalk.i64_in _ (by omega)⟩) hHeld ?_
          refine wpAnyH_take (i := 4) (v := .agg #[.string y.m.event, .bool y.m.after, .int .u64 y.m.delay, .string y.m.to, .slice y.v.a y.m.acts.length y.v.c]) rfl (by kernel_rfl) (by kernel_rfl) (by kernel_rfl) (fun _ _ _ h => h) (Or.inl ⟨by rfl, fun w hSw => by (try dsimp only at hSw); go_simp; (try with_reducible rfl)⟩) hHeld ?_
          refine wpAnyH_take (i := 6) (v := .pointer (some ⟨wr.heap.size, 4, none⟩)) rfl (by kernel_rfl) (by kernel_rfl) (by kernel_rfl) (fun _ _ _ h => h) (Or.inl ⟨by rfl, fun w hSw => by (try dsimp only at hSw); go_simp; (try with_reducible rfl)⟩) hHeld ?_
          refine wpAnyH_take (i := 7) (v := .slice y.v.a y.m.acts.length y.v.c) rfl (by kernel_rfl) (by kernel_rfl) (by kernel_rfl) (fun _ _ _ h => h) (Or.inl ⟨by rfl, fun w hSw => by (try dsimp only at hSw); go_simp; (try with_reducible rfl)⟩) hHeld ?_
          refine wpAnyH_ready (rs := [5]) (by kernel_rfl) (by simp) ?_
          refine AllReadyH.cons rfl (fun K hK => ?_) AllReadyH.nil
          go_simp
          refine Calls.mono (by have h := moveText_any y W5.drew (by omega) (by omega); rw [hyn] at h; exact h) ?_
          rintro e w6 ⟨rfl, hb6⟩
          have hb6' : Below W5.heap.size W5 w6 := ((Below.refl _ _).drew).trans hb6
          have hsb6 := (hb6'.block _ (Array.getElem?_eq_some_iff.1 hsb5).1).trans hsb5
          have hm6 := (hb6'.block _ hmlt).trans hm5
          have hw6 := hw5.keep hb6'
          have hk6 : WrKept b W1 w6 := hkw5.trans (wrKept_below hb6')
          have hbw6 : Below B w w6 := hbw5.trans (hb6'.mono (by omega))
          have hs6 := hbw6.size
          have hA6 := own_wr HA5.out (wrKept_below hb6') hw5 (by decide) (by decide)
          dsimp only
          refine hK.out _ _ (mv_held hsb6 hm6) (fun hHeld => ?_)
          clear hK K hb6 hb6' hw5 hkw5 hbw5 hsb5 hm5 HA5 hs5
          refine wpAnyH_ready (rs := [8]) (by kernel_rfl) (by simp) ?_
          refine AllReadyH.cons rfl (fun K hK => ?_) AllReadyH.nil
          go_simp
          rw [← ed]
          refine Calls.mono (wline_any B b _ (dn + 1) (Pro.mvText y.m) y.m.acts y.v.a y.m.acts.length y.v.c w6 hw6 (by omega) hA6 HGr.out.shape HGr.out.small HGr.out.len (by omega) (by omega) (by rw [List.length_append, strCells_len]; omega) (EnvAt.below HEnv.out hbw6)) ?_
          rintro e w7 ⟨rfl, hw7, hb7, hk7⟩
          have hsb7 := cells_wr hsb6 hk7 hw6 (by decide) (by decide)
          have hm7 := cells_wr hm6 hk7 hw6 (by decide) (by decide)
          have hk7' : WrKept b W1 w7 := hk6.trans hk7
          have hbw7 := hbw6.trans hb7
          have hw7' : IsWr B b (bs ++ Lib.strCells (T3 ++ Pro.mvsTo (dn + 1) s.moves (k + 1))) w7 := by
            rw [HN.out, ← ByteArray.append_assoc, strCells_app (T3 ++ _), ← List.append_assoc]
            exact hw7
          dsimp only
          refine hK.out _ _ (mv_held hsb7 hm7) (fun hHeld => ?_)
          clear hK K hb7 hk7 hw7 hw6 hk6 hbw6 hsb6 hm6 hA6 hsb7 hm7 hs6
          refine wpAnyH_done (by kernel_rfl) ?_ _
          clear hHeld
          go_wp2
          go_roundg (M.length - (k + 1))
          case measure => omega
          case rel => exact ⟨k + 1, rfl, by omega, by go_num, hw7', hbw7, hk7'⟩
        · have hke : k = M.length := by omega
          subst hke
          have hwE : IsWr B b (bs ++ Lib.strCells (Pro.sLines s)) wr := by
            unfold Pro.sLines Pro.headT
            rw [hdn, Int.toNat_natCast, ← hT1, ← hT2, ← hT3, show s.moves.length = M.length by rw [show s.moves = M.map (·.m) from HX1.out.mv.symm, List.length_map]]
            exact hwr
          go_wp2
          go_end0
          exact ⟨rfl, hwE, hbr, hk1.trans hkr⟩
    · have hL' : 0 < s.leave.length := by omega
      go_wp2_with fail
      rw [← ed]
      have hX4 := hX1.wr hk4' hw1
      refine Calls.mono (wline_any B b _ (dn + 1) Pro.bLeaveW s.leave la s.leave.length lc w4 hw4 (by omega) hX4.leave hX4.leaveG.shape hX4.leaveG.small hX4.leaveG.len (by omega) (by decide) (by rw [List.length_append, strCells_len]; omega) (EnvAt.below HEnv.out hbw4)) ?_
      rintro e w5 ⟨rfl, hw5, hb5, hk5⟩
      have hsb5 := cells_wr hsb4 hk5 hw4 (by decide) (by decide)
      have hk5' : WrKept b W1 w5 := hk4'.trans hk5
      have hbw5 := hbw4.trans hb5
      have hs5 := hbw5.size
      obtain ⟨c0, c1, c2, c3, c4, c5, c6, c7⟩ := ds_cellsN hsb5
      obtain ⟨T3, hT3⟩ : ∃ T, T = T2 ++ Pro.endT (dn + 1) Pro.bLeaveW s.leave := ⟨_, rfl⟩
      have hT3s : T3.size ≤ T2.size + 2002000000 := by rw [hT3, ByteArray.size_append']; have := Pro.endT_small (d := dn + 1) (h := Pro.bLeaveW) (A := s.leave) (by omega) (by decide) hX4.leaveG; omega
      have hw5' : IsWr B b (bs ++ Lib.strCells T3) w5 := by
        rw [hT3, strCells_app, ← List.append_assoc]
        unfold Pro.endT
        rw [if_neg (by rw [List.isEmpty_iff_length_eq_zero]; omega)]
        exact hw5
      clear hw5
      have hw5 := hw5'
      clear hw5'
      clear hb5 hk5 hX4
      have HX1 : Hid _ := hX1
      have hml := hX1.mlen
      clear hX1
      go_wp2
      clear hE hE' hL hL'
      go_loopg [37] M.length (fun q i wr => ∃ k : Nat, q = M.length - k ∧ k ≤ M.length ∧ i = .int .i64 k ∧ IsWr B b (bs ++ Lib.strCells (T3 ++ Pro.mvsTo (dn + 1) s.moves k)) wr ∧ Below B w wr ∧ WrKept b W1 wr)
      case atStart => exact ⟨0, rfl, Nat.zero_le _, rfl, by rw [show T3 ++ Pro.mvsTo (dn + 1) s.moves 0 = T3 from ByteArray.append_empty]; exact hw5, hbw5, hk5'⟩
      case round =>
        clear c0 c1 c2 c3 c4 c5 c6 c7 hsb5 hbw5 hk5' hw5 hs5
        obtain ⟨k, hq, hk, rfl, hwr, hbr, hkr⟩ := hrel
        have hbs := hbr.size
        have hsbr := cells_wr hsb1 hkr hw1 (by decide) (by decide)
        by_cases hkn : k < M.length
        · have hXr := HX1.out.wr hkr hw1
          obtain ⟨mb, cm, hvm⟩ := Ref.own_form hXr.moves (by omega)
          simp only [Ref.Sl.v, Value.slice.injEq] at hvm
          obtain ⟨rfl, _, rfl⟩ := hvm
          have hmo : wr.ownsRow 0 295 5 (.slice (some ⟨mb, 0, none⟩) M.length mc) M.length (M.flatMap Pro.pvCells) := hXr.moves
          have hrng := Row.range (f := Pro.pvCells) (n := 5) (fun _ => rfl) hmo hkn
          have hcm : M.length ≤ mc := by
            rcases hmo.2 with ⟨h, _⟩ | ⟨g', cap', cur, h, _, _, hle, _⟩
            · cases h
            · simp at h; rw [h.2]; exact hle
          obtain ⟨y, hy⟩ : ∃ y, y = M[k] := ⟨_, rfl⟩
          have hym : y ∈ M := by rw [hy]; exact List.getElem_mem hkn
          rw [← hy] at hrng
          unfold Pro.pvCells at hrng
          have hyA := hXr.acts y hym
          have hyn : y.v.n = y.m.acts.length := own_len hyA
          unfold Ref.Sl.v at hyA
          rw [hyn] at hyA hrng
          obtain ⟨hyS, hyG⟩ := hXr.actsG y hym
          have hysz := Pro.mvText_small hyS
          have hye := hyS.event
          have hyt := hyS.dst
          have HN : Hid (Pro.mvsTo (dn + 1) s.moves (k + 1) = Pro.mvsTo (dn + 1) s.moves k ++ Pro.lineT (dn + 1) (Pro.mvText y.m) y.m.acts) := by
            unfold Hid
            rw [Pro.mvsTo, show s.moves = M.map (·.m) from hXr.mv.symm, List.getElem?_map, List.getElem?_eq_getElem hkn, ← hy]
            rfl
          have hTs : (T3 ++ Pro.mvsTo (dn + 1) s.moves k).size ≤ 8300000000000 := by
            have h1 := Pro.mvsTo_small (d := dn + 1) (M := s.moves) (by omega) (fun m hm => by
              rw [show s.moves = M.map (·.m) from hXr.mv.symm] at hm
              obtain ⟨z, hz, rfl⟩ := List.mem_map.1 hm
              exact hXr.actsG z hz) k
            have h2 : k * 2002000000 ≤ 4096 * 2002000000 := Nat.mul_le_mul_right _ (by omega)
            rw [ByteArray.size_append']
            omega
          have HAr : Hid _ := hyA
          have HGr : Hid _ := hyG
          clear hyA hyG hyS hmo hy hym hXr
          go_wp2_with (first
            | (refine wpList_load_mid rfl 295 (.tmp 39) rfl mb (k * 5) rfl _ _ hrng Tryz.underlying295 rfl Tryz.sizeMoveM ?_)
            | (refine wpList_store_new rfl 295 (.tmp 5) (.tmp 40) rfl 295 _ _ rfl rfl Tryz.sizeMoveM rfl rfl ?_)
            | fail)
          have hb5 : Below wr.heap.size wr (wr.alloc (.cells #[.string y.m.event, .bool y.m.after, .int .u64 y.m.delay, .string y.m.to, .slice y.v.a y.m.acts.length y.v.c] 295)) := (Below.refl _ _).alloc (Nat.le_refl _) _
          have hm5 : (wr.alloc (.cells #[.string y.m.event, .bool y.m.after, .int .u64 y.m.delay, .string y.m.to, .slice y.v.a y.m.acts.length y.v.c] 295)).heap[wr.heap.size]? = some (.cells #[.string y.m.event, .bool y.m.after, .int .u64 y.m.delay, .string y.m.to, .slice y.v.a y.m.acts.length y.v.c] 295 (0, 0)) := heap_alloc_new _ _
          obtain ⟨W5, hW5⟩ : ∃ z, z = wr.alloc (.cells #[.string y.m.event, .bool y.m.after, .int .u64 y.m.delay, .string y.m.to, .slice y.v.a y.m.acts.length y.v.c] 295) := ⟨_, rfl⟩
          change Code.wp _ _ _ _ (wr.alloc (.cells #[.string y.m.event, .bool y.m.after, .int .u64 y.m.delay, .string y.m.to, .slice y.v.a y.m.acts.length y.v.c] 295))
          rw [← hW5] at hb5 hm5 ⊢
          clear hW5 hrng
          have hk5 : WrKept b wr W5 := wrKept_below hb5
          have hw5 := hwr.keep hb5
          have hsb5 := cells_wr hsbr hk5 hwr (by decide) (by decide)
          have hbw5 : Below B w W5 := hbr.trans (hb5.mono (by omega))
          have hs5 := hbw5.size
          have hkw5 : WrKept b W1 W5 := hkr.trans hk5
          have HA5 : Hid _ := own_wr HAr.out hk5 hwr (by decide) (by decide)
          clear hb5 hk5 hwr hbr hkr HAr hsbr
          have hmlt := (Array.getElem?_eq_some_iff.1 hm5).1
          refine wp_region_held_drew (S := (fun W => W.cell? ⟨w.heap.size, 2, none⟩ = some (.int .i64 dn) ∧ W.cell? ⟨wr.heap.size, 0, none⟩ = some (.string y.m.event) ∧ W.cell? ⟨wr.heap.size, 1, none⟩ = some (.bool y.m.after) ∧ W.cell? ⟨wr.heap.size, 2, none⟩ = some (.int .u64 y.m.delay) ∧ W.cell? ⟨wr.heap.size, 3, none⟩ = some (.string y.m.to) ∧ W.cell? ⟨wr.heap.size, 4, none⟩ = some (.slice y.v.a y.m.acts.length y.v.c))) (by kernel_rfl) (mv_held hsb5 hm5) (fun hHeld => ?_)
          refine wpAnyH_take (i := 0) (v := .pointer (some ⟨b, 0, none⟩)) rfl (by kernel_rfl) (by kernel_rfl) (by kernel_rfl) (fun _ _ _ h => h) (Or.inl ⟨by rfl, fun w hSw => by (try dsimp only at hSw); go_simp; (try with_reducible rfl)⟩) hHeld ?_
          refine wpAnyH_take (i := 1) (v := .pointer (some ⟨w.heap.size, 2, none⟩)) rfl (by kernel_rfl) (by kernel_rfl) (by kernel_rfl) (fun _ _ _ h => h) (Or.inl ⟨by rfl, fun w hSw => by (try dsimp only at hSw); go_simp; (try with_reducible rfl)⟩) hHeld ?_
          refine wpAnyH_take (i := 2) (v := .int .i64 dn) rfl (by kernel_rfl) (by kernel_rfl) (by kernel_rfl) (fun _ _ _ h => h) (Or.inl ⟨by rfl, fun w hSw => by (try dsimp only at hSw); go_simp; (try with_reducible rfl)⟩) hHeld ?_
          refine wpAnyH_take (i := 3) (v := .int .i64 (dn + 1)) rfl (by kernel_rfl) (by kernel_rfl) (by kernel_rfl) (fun _ _ _ h => h) (Or.inl ⟨by rfl, fun w hSw => by (try dsimp only at hSw); go_simp; exact IntWalk.i64_in _ (by omega)⟩) hHeld ?_
          refine wpAnyH_take (i := 4) (v := .agg #[.string y.m.event, .bool y.m.after, .int .u64 y.m.delay, .string y.m.to, .slice y.v.a y.m.acts.length y.v.c]) rfl (by kernel_rfl) (by kernel_rfl) (by kernel_rfl) (fun _ _ _ h => h) (Or.inl ⟨by rfl, fun w hSw => by (try dsimp only at hSw); go_simp; (try with_reducible rfl)⟩) hHeld ?_
          refine wpAnyH_take (i := 6) (v := .pointer (some ⟨wr.heap.size, 4, none⟩)) rfl (by kernel_rfl) (by kernel_rfl) (by kernel_rfl) (fun _ _ _ h => h) (Or.inl ⟨by rfl, fun w hSw => by (try dsimp only at hSw); go_simp; (try with_reducible rfl)⟩) hHeld ?_
          refine wpAnyH_take (i := 7) (v := .slice y.v.a y.m.acts.length y.v.c) rfl (by kernel_rfl) (by kernel_rfl) (by kernel_rfl) (fun _ _ _ h => h) (Or.inl ⟨by rfl, fun w hSw => by (try dsimp only at hSw); go_simp; (try with_reducible rfl)⟩) hHeld ?_
          refine wpAnyH_ready (rs := [5]) (by kernel_rfl) (by simp) ?_
          refine AllReadyH.cons rfl (fun K hK => ?_) AllReadyH.nil
          go_simp
          refine Calls.mono (by have h := moveText_any y W5.drew (by omega) (by omega); rw [hyn] at h; exact h) ?_
          rintro e w6 ⟨rfl, hb6⟩
          have hb6' : Below W5.heap.size W5 w6 := ((Below.refl _ _).drew).trans hb6
          have hsb6 := (hb6'.block _ (Array.getElem?_eq_some_iff.1 hsb5).1).trans hsb5
          have hm6 := (hb6'.block _ hmlt).trans hm5
          have hw6 := hw5.keep hb6'
          have hk6 : WrKept b W1 w6 := hkw5.trans (wrKept_below hb6')
          have hbw6 : Below B w w6 := hbw5.trans (hb6'.mono (by omega))
          have hs6 := hbw6.size
          have hA6 := own_wr HA5.out (wrKept_below hb6') hw5 (by decide) (by decide)
          dsimp only
          refine hK.out _ _ (mv_held hsb6 hm6) (fun hHeld => ?_)
          clear hK K hb6 hb6' hw5 hkw5 hbw5 hsb5 hm5 HA5 hs5
          refine wpAnyH_ready (rs := [8]) (by kernel_rfl) (by simp) ?_
          refine AllReadyH.cons rfl (fun K hK => ?_) AllReadyH.nil
          go_simp
          rw [← ed]
          refine Calls.mono (wline_any B b _ (dn + 1) (Pro.mvText y.m) y.m.acts y.v.a y.m.acts.length y.v.c w6 hw6 (by omega) hA6 HGr.out.shape HGr.out.small HGr.out.len (by omega) (by omega) (by rw [List.length_append, strCells_len]; omega) (EnvAt.below HEnv.out hbw6)) ?_
          rintro e w7 ⟨rfl, hw7, hb7, hk7⟩
          have hsb7 := cells_wr hsb6 hk7 hw6 (by decide) (by decide)
          have hm7 := cells_wr hm6 hk7 hw6 (by decide) (by decide)
          have hk7' : WrKept b W1 w7 := hk6.trans hk7
          have hbw7 := hbw6.trans hb7
          have hw7' : IsWr B b (bs ++ Lib.strCells (T3 ++ Pro.mvsTo (dn + 1) s.moves (k + 1))) w7 := by
            rw [HN.out, ← ByteArray.append_assoc, strCells_app (T3 ++ _), ← List.append_assoc]
            exact hw7
          dsimp only
          refine hK.out _ _ (mv_held hsb7 hm7) (fun hHeld => ?_)
          clear hK K hb7 hk7 hw7 hw6 hk6 hbw6 hsb6 hm6 hA6 hsb7 hm7 hs6
          refine wpAnyH_done (by kernel_rfl) ?_ _
          clear hHeld
          go_wp2
          go_roundg (M.length - (k + 1))
          case measure => omega
          case rel => exact ⟨k + 1, rfl, by omega, by go_num, hw7', hbw7, hk7'⟩
        · have hke : k = M.length := by omega
          subst hke
          have hwE : IsWr B b (bs ++ Lib.strCells (Pro.sLines s)) wr := by
            unfold Pro.sLines Pro.headT
            rw [hdn, Int.toNat_natCast, ← hT1, ← hT2, ← hT3, show s.moves.length = M.length by rw [show s.moves = M.map (·.m) from HX1.out.mv.symm, List.length_map]]
            exact hwr
          go_wp2
          go_end0
          exact ⟨rfl, hwE, hbr, hk1.trans hkr⟩
end Go.Proofs.YtegmoddppafkfaaGreatDoor
