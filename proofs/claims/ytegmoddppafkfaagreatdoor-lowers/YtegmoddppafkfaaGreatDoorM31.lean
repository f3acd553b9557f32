/-
  MY OWN TEXT.
-/
import Derived.Test.YtegmoddppafkfaaGreatDoorM30
namespace Go.Proofs.YtegmoddppafkfaaGreatDoor
open Go.RowKit

namespace Pro
/-- Whether a line has a name that it may not have. -/
def badLine (D : DataW Nat) (tm : Bool) (num : Nat) : PL → Bool
  | .state _ n => !decide (firstOf D n = some (num : Int))
  | .move ev af d t A => mBad D tm ⟨ev, t, af, d, A, num⟩
  | .enter A => tm && Ref.mine A
  | .leave A => tm && Ref.mine A
def nmBad (S : List Ref.State) (P : List ByteArray) (k : Nat) : Bool := match pWhole (k + 1) (wl P k) with
  | some L => badLine (firstTo S S.length) (timedS S) (k + 1) L
  | none => false
/-- The first line with such a name. -/
def nmFirst (S : List Ref.State) (P : List ByteArray) : Nat → Option Nat
  | 0 => none
  | k + 1 => match nmFirst S P k with
    | some i => some i
    | none => if nmBad S P k then some k else none
theorem nmFirst_some {S : List Ref.State} {P : List ByteArray} {i k : Nat} (h : nmFirst S P k = some i) : ∀ j, k ≤ j → nmFirst S P j = some i
  | 0, hj => by rw [Nat.le_zero.1 hj] at h; exact h
  | j + 1, hj => by
    by_cases e : k = j + 1
    · rw [← e]; exact h
    · rw [nmFirst, nmFirst_some h j (by omega)]
/-- What the program reads. -/
def read (s : ByteArray) : Ref.Got :=
  if 1500 < s.size then .fault 1 0
  else match Ref.syn (Ref.cut s 10) with
    | some i => .fault 2 ((i : Int) + 1)
    | none => match Ref.treeTo (Ref.linesTo (Ref.cut s 10) ((Ref.cut s 10).length - 1)) ((Ref.cut s 10).length - 1) with
      | none => .fault 3 (Ref.failAt (Ref.linesTo (Ref.cut s 10) ((Ref.cut s 10).length - 1)) ((Ref.cut s 10).length - 1))
      | some S => match Ref.parTo S S.length with
        | some l => .fault 3 l
        | none => match nmFirst S (Ref.cut s 10) ((Ref.cut s 10).length - 1) with
          | some i => .fault 4 ((i : Int) + 1)
          | none => .chart S
abbrev ShapeL (m : Nat) : PL → Prop
  | .state _ _ => True
  | .move _ _ _ t A => t.size ≤ 8 ∧ (∀ a ∈ A, Shape a) ∧ A.length ≤ m
  | .enter A => (∀ a ∈ A, Shape a) ∧ A.length ≤ m
  | .leave A => (∀ a ∈ A, Shape a) ∧ A.length ≤ m
theorem line_shape {num : Nat} {l r : List ByteArray} {L : PL} (h : pLine num l = some (L, r)) : ShapeL l.length L := by
  have hal : ∀ (f : Nat) (l r : List ByteArray) (A : List Ref.Act), pActs f l = some (A, r) → A.length ≤ l.length := by
    intro f
    induction f with
    | zero => intro l r A h; cases h; simp
    | succ f ih =>
      intro l r A h
      cases l with
      | nil => cases h; simp
      | cons x t =>
        rw [pActs] at h
        split at h
        · split at h
          · cases h
          · rename_i a r' h1
            split at h
            · cases h
            · rename_i A' t' h2
              cases h
              have e1 := pAction_len h1
              have e2 := ih _ _ _ h2
              simp only [List.length_cons]; omega
        · cases h; simp
  have hacts : ∀ (l r : List ByteArray) (A : List Ref.Act), pActions l = some (A, r) → (∀ a ∈ A, Shape a) ∧ A.length ≤ l.length := fun l r A h => ⟨acts_shape _ _ _ _ h, hal _ _ _ _ h⟩
  have hmove : ∀ (l r : List ByteArray) (t : ByteArray) (A : List Ref.Act), pMove l = some ((t, A), r) → t.size ≤ 8 ∧ (∀ a ∈ A, Shape a) ∧ A.length ≤ l.length := by
    intro l r t A h
    unfold pMove at h
    split at h
    · cases h
    · rename_i t' r' ht
      obtain ⟨⟨A', r2⟩, h1, h2⟩ := Option.map_eq_some_iff.1 h
      cases h2
      obtain ⟨a1, a2⟩ := hacts _ _ _ h1
      cases l with
      | nil => cases ht; exact ⟨by decide, a1, a2⟩
      | cons y u =>
        rw [pTo] at ht
        split at ht
        · have := pOf_some ht
          refine ⟨plain_size this.1, a1, ?_⟩
          have e := congrArg List.length this.2
          simp only [List.length_cons] at e ⊢; omega
        · cases ht; exact ⟨by decide, a1, a2⟩
  cases l with
  | nil => cases h
  | cons x t =>
    rw [pLine] at h
    split at h
    · obtain ⟨q, h1, h2⟩ := Option.map_eq_some_iff.1 h
      cases h2; trivial
    · split at h
      · obtain ⟨q, h1, h2⟩ := Option.map_eq_some_iff.1 h
        cases h2; trivial
      · split at h
        · obtain ⟨q, h1, h2⟩ := Option.map_eq_some_iff.1 h
          cases h2; trivial
        · split at h
          · obtain ⟨q, h1, h2⟩ := Option.map_eq_some_iff.1 h
            cases h2; trivial
          · split at h
            · split at h
              · cases h
              · rename_i ev r1 he
                obtain ⟨⟨⟨t', A⟩, r'⟩, h1, h2⟩ := Option.map_eq_some_iff.1 h
                cases h2
                have e := congrArg List.length (pOf_some he).2
                obtain ⟨a0, a1, a2⟩ := hmove _ _ _ _ h1
                exact ⟨a0, a1, by simp only [List.length_cons] at e ⊢; omega⟩
            · split at h
              · split at h
                · cases h
                · rename_i d r1 he
                  obtain ⟨⟨⟨t', A⟩, r'⟩, h1, h2⟩ := Option.map_eq_some_iff.1 h
                  cases h2
                  have e := pDelay_len he
                  obtain ⟨a0, a1, a2⟩ := hmove _ _ _ _ h1
                  exact ⟨a0, a1, by simp only [List.length_cons] at e ⊢; omega⟩
              · have hdo : ∀ (l r : List ByteArray) (A : List Ref.Act), pDoings l = some (A, r) → (∀ a ∈ A, Shape a) ∧ A.length ≤ l.length := by
                  intro l r A h
                  unfold pDoings at h
                  split at h
                  · cases h
                  · cases h
                  · rename_i h1
                    cases h
                    exact hacts _ _ _ h1
                split at h
                · obtain ⟨⟨A, r'⟩, h1, h2⟩ := Option.map_eq_some_iff.1 h
                  cases h2
                  obtain ⟨a1, a2⟩ := hdo _ _ _ h1
                  exact ⟨a1, Nat.le_succ_of_le a2⟩
                · split at h
                  · obtain ⟨⟨A, r'⟩, h1, h2⟩ := Option.map_eq_some_iff.1 h
                    cases h2
                    obtain ⟨a1, a2⟩ := hdo _ _ _ h1
                    exact ⟨a1, Nat.le_succ_of_le a2⟩
                  · cases h
end Pro
/-- A chart that was read, as it lies. -/
structure ChartMem (w : World) (sv : Ref.Sl) (X : List Pro.DS) : Prop where
  states : w.ownsRow 0 242 8 sv.v X.length (X.flatMap Pro.dsCells)
  moves : ∀ x ∈ X, ∃ M : List Pro.PV, M.map (·.m) = x.s.moves ∧ w.ownsRow 0 295 5 x.vm.v M.length (M.flatMap Pro.pvCells) ∧ ∀ y ∈ M, w.ownsRow 0 324 1 y.v.v y.m.acts.length (y.m.acts.map actV)
  enter : ∀ x ∈ X, w.ownsRow 0 324 1 x.ve.v x.s.enter.length (x.s.enter.map actV)
  leave : ∀ x ∈ X, w.ownsRow 0 324 1 x.vl.v x.s.leave.length (x.s.leave.map actV)
theorem ChartMem.touch {w w' : World} {sv : Ref.Sl} {X : List Pro.DS} {e : TypeId} (h : ChartMem w sv X) (T : Touch e w w') (h1 : 242 ≠ e) (h2 : 295 ≠ e) (h3 : 324 ≠ e) : ChartMem w' sv X :=
  ⟨own_touch h.states T h1, fun x hx => let ⟨M, m1, m2, m3⟩ := h.moves x hx; ⟨M, m1, own_touch m2 T h2, fun y hy => own_touch (m3 y hy) T h3⟩, fun x hx => own_touch (h.enter x hx) T h3, fun x hx => own_touch (h.leave x hx) T h3⟩
theorem DraftG.chart {w0 w : World} {db mb nm : Nat} {sv pv ov : Ref.Sl} {tm : Bool} {X : List Pro.DS} {SP : List (Int × Int)} {O : List Nat} {PT : Nat → List Nat} {D : DataW Nat} (G : DraftG w0 w db sv pv ov mb tm X SP O PT nm D) : ChartMem w sv X := by
  have hd : ∀ x ∈ X, DeepP w0 w x := fun x hx => by
    obtain ⟨i, hi, rfl⟩ := List.getElem_of_mem hx
    exact G.deep i hi
  exact ⟨own_mono G.states (Nat.zero_le _), fun x hx => let ⟨M, m1, m2, m3⟩ := (hd x hx).moves; ⟨M, m1, own_mono m2 (Nat.zero_le _), fun y hy => own_keep (m3 y hy) G.bel⟩, fun x hx => own_keep (hd x hx).enter G.bel, fun x hx => own_keep (hd x hx).leave G.bel⟩
/-- What Read answers. -/
def ReadP (s : ByteArray) (w : World) (e : Ending) (w' : World) : Prop := Below w.heap.size w w' ∧ match Pro.read s with
  | .fault c l => ∃ b, e = .returned (.tuple #[.pointer none, .iface 159 (.pointer (some ⟨b, 0, none⟩))]) ∧ w'.heap[b]? = some (.cells #[.int .i64 c, .int .i64 l] 163 (0, 0))
  | .chart S => ∃ cb sv X, e = .returned (.tuple #[.pointer (some ⟨cb, 0, none⟩), .nilIface]) ∧ w'.heap[cb]? = some (.cells #[.slice sv.a sv.n sv.c] 232 (0, 0)) ∧ X.map (·.s) = S ∧ ChartMem w' sv X ∧ S.length ≤ 24
theorem Tryz.mChkS (a b c d : Value) (w : World) : (method 599 376 (.agg #[a, b, c, d]) "charts/reader.checkNames").run Tryz.prog w = .ok (358, .agg #[a, b, c, d]) w := by kernel_rfl
theorem Tryz.mChkM (a b c d e f g : Value) (w : World) : (method 599 380 (.agg #[a, b, c, d, e, f, g]) "charts/reader.checkNames").run Tryz.prog w = .ok (363, .agg #[a, b, c, d, e, f, g]) w := by kernel_rfl
theorem Tryz.mChkE (a b c : Value) (w : World) : (method 599 387 (.agg #[a, b, c]) "charts/reader.checkNames").run Tryz.prog w = .ok (368, .agg #[a, b, c]) w := by kernel_rfl
theorem Tryz.mChkL (a b c : Value) (w : World) : (method 599 388 (.agg #[a, b, c]) "charts/reader.checkNames").run Tryz.prog w = .ok (368, .agg #[a, b, c]) w := by kernel_rfl
/-- A panic has come to the door: the fault. -/
theorem fault_end {w w1 w2 w' : World} {er ln : Int} {b : Nat} (hw1 : w1 = (w.alloc (.cells #[.pointer none] 165)).alloc (.cells #[.nilIface] 101)) (hb : Below w1.heap.size w1 w2) (hbl : w1.heap.size ≤ b) (hrow : w2.heap[b]? = some (.cells #[.int .i64 er, .int .i64 ln] 163 (0, 0)))
    (hc : Below w2.heap.size ((w2.setCell ⟨w.heap.size, 0, none⟩ (.pointer none)).setCell ⟨w.heap.size + 1, 0, none⟩ (.iface 159 (.pointer (some ⟨b, 0, none⟩)))) w') :
    Below w.heap.size w w' ∧ w'.cell? ⟨w.heap.size, 0, none⟩ = some (.pointer none) ∧ w'.cell? ⟨w.heap.size + 1, 0, none⟩ = some (.iface 159 (.pointer (some ⟨b, 0, none⟩))) ∧ w'.heap[b]? = some (.cells #[.int .i64 er, .int .i64 ln] 163 (0, 0)) := by
  have hs1 : w1.heap.size = w.heap.size + 2 := by rw [hw1]; simp
  have h0 : w1.heap[w.heap.size]? = some (.cells #[.pointer none] 165 (0, 0)) := by rw [hw1]; exact heap_prev _ _ _
  have h1 : w1.heap[w.heap.size + 1]? = some (.cells #[.nilIface] 101 (0, 0)) := by rw [hw1]; exact heap_last2 _ _ _
  have hbw1 : Below w.heap.size w w1 := by rw [hw1]; exact ((Below.refl _ _).alloc (Nat.le_refl _) _).alloc (by simp) _
  have g0 := (hb.block _ (by omega)).trans h0
  have g1 := (hb.block _ (by omega)).trans h1
  have hs2 := hb.size
  have oa := only_setCell w2 w.heap.size 0 (.pointer none)
  have ob := only_setCell (w2.setCell ⟨w.heap.size, 0, none⟩ (.pointer none)) (w.heap.size + 1) 0 (.iface 159 (.pointer (some ⟨b, 0, none⟩)))
  have lb := (Array.getElem?_eq_some_iff.1 hrow).1
  refine ⟨?_, ?_, ?_, ?_⟩
  · have hx := ob.below (oa.below (hbw1.trans (hb.mono hbw1.size)) (Nat.le_refl _)) (by omega)
    exact hx.trans (hc.mono (by omega))
  · have r := heap_setCell_same w2 w.heap.size 0 _ _ (.pointer none) g0
    have r2 := (hc.block w.heap.size (by omega)).trans ((ob.block w.heap.size (by omega)).trans r)
    rw [cell_of_row w' _ _ _ _ _ r2]; rfl
  · have g1' := (oa.block (w.heap.size + 1) (by omega)).trans g1
    have r := heap_setCell_same _ (w.heap.size + 1) 0 _ _ (.iface 159 (.pointer (some ⟨b, 0, none⟩))) g1'
    have r2 := (hc.block (w.heap.size + 1) (by omega)).trans r
    rw [cell_of_row w' _ _ _ _ _ r2]; rfl
  · rw [hc.block b lb, ob.block b (by omega), oa.block b (by omega)]; exact hrow
set_option maxRecDepth 100000 in
set_option maxHeartbeats 3200000 in
theorem read_pro (s : ByteArray) (w : World) (hv : EnvL w) (hs : s.size ≤ 1073741824) :
    Calls Tryz.prog 71 #[.string s] w (ReadP s w) := by
  have hmf : ∀ (fn : Fn) (first cap : Array Value) (w : World), (Instr.makeFunc fn first cap).run Tryz.prog w = .ok (.func fn first cap) w := fun _ _ _ _ => rfl
  obtain ⟨w1, hw1⟩ : ∃ y, y = (w.alloc (.cells #[.pointer none] 165)).alloc (.cells #[.nilIface] 101) := ⟨_, rfl⟩
  have hs1 : w1.heap.size = w.heap.size + 2 := by rw [hw1]; simp
  have h0 : w1.heap[w.heap.size]? = some (.cells #[.pointer none] 165 (0, 0)) := by rw [hw1]; exact heap_prev _ _ _
  have h1 : w1.heap[w.heap.size + 1]? = some (.cells #[.nilIface] 101 (0, 0)) := by rw [hw1]; exact heap_last2 _ _ _
  have hbw1 : Below w.heap.size w w1 := by rw [hw1]; exact ((Below.refl _ _).alloc (Nat.le_refl _) _).alloc (by simp) _
  have HRL : Hid (Calls Tryz.prog 106 #[.string s] w1 (ReadLinesPost s w1)) := by
    by_cases hbig : 1500 < s.size
    · exact readLines_long s w1 hbig hs
    · exact readLines_any s w1 (hv.keep hbw1) (by omega)
  have HW1 : Hid _ := hw1
  go_enter_defers Tryz.func71, Tryz.ntmps71
  go_wp2_with fail
  rw [← HW1.out]
  refine Calls.mono HRL.out ?_
  rintro e w2 h2
  unfold ReadLinesPost at h2
  by_cases hbig : 1500 < s.size
  · rw [if_pos hbig] at h2
    have HR : Hid (Pro.read s = .fault 1 0) := by unfold Hid; rw [Pro.read, if_pos hbig]
    obtain ⟨hb, b, h5, h6, rfl⟩ := h2
    dsimp only
    refine leaves_cons (f := 105) (args := #[.pointer (some ⟨w.heap.size, 0, none⟩), .pointer (some ⟨w.heap.size + 1, 0, none⟩)]) (by simp) (by simp [go_sem]) ?_
    refine (catch_panicking w.heap.size (w.heap.size + 1) _ _ b [] _ ((Below.block hb _ (by omega)).trans h0) ((Below.block hb _ (by omega)).trans h1) (by omega)).mono ?_
    rintro e u' wq ⟨rfl, rfl, W, hc, rfl⟩
    obtain ⟨r1, r2, r3, r4⟩ := fault_end HW1.out hb h5 h6 hc
    simp [Leaves, settle, results, Tryz.results71, go_sem, r2, r3]
    unfold ReadP
    rw [HR.out]
    exact ⟨r1, b, rfl, r4⟩
  · rw [if_neg hbig] at h2
    have HPr : Hid (Pro.read s = match Ref.syn (Ref.cut s 10) with
      | some i => .fault 2 ((i : Int) + 1)
      | none => match Ref.treeTo (Ref.linesTo (Ref.cut s 10) ((Ref.cut s 10).length - 1)) ((Ref.cut s 10).length - 1) with
        | none => .fault 3 (Ref.failAt (Ref.linesTo (Ref.cut s 10) ((Ref.cut s 10).length - 1)) ((Ref.cut s 10).length - 1))
        | some S => match Ref.parTo S S.length with
          | some l => .fault 3 l
          | none => match Pro.nmFirst S (Ref.cut s 10) ((Ref.cut s 10).length - 1) with
            | some i => .fault 4 ((i : Int) + 1)
            | none => .chart S) := by unfold Hid; rw [Pro.read, if_neg hbig]
    have HSz : Hid (∀ j, (Ref.pc (Ref.cut s 10) j).size ≤ 1500) := by
      intro j
      unfold Ref.pc
      rw [List.getD_eq_getElem?_getD]
      cases e : (Ref.cut s 10)[j]? with
      | none => exact Nat.zero_le _
      | some x => exact Nat.le_trans (cut_size x (List.mem_of_getElem? e)) (by omega)
    have hPl : (Ref.cut s 10).length ≤ 1501 := Nat.le_trans cut_len (by omega)
    generalize Ref.cut s 10 = P at *
    cases hsyn : Ref.syn P with
    | some i =>
      rw [hsyn] at h2 HPr
      obtain ⟨hb, b, h5, h6, rfl⟩ := h2
      dsimp only
      refine leaves_cons (f := 105) (args := #[.pointer (some ⟨w.heap.size, 0, none⟩), .pointer (some ⟨w.heap.size + 1, 0, none⟩)]) (by simp) (by simp [go_sem]) ?_
      refine (catch_panicking w.heap.size (w.heap.size + 1) _ _ b [] _ ((Below.block hb _ (by omega)).trans h0) ((Below.block hb _ (by omega)).trans h1) (by omega)).mono ?_
      rintro e u' wq ⟨rfl, rfl, W, hc, rfl⟩
      obtain ⟨r1, r2, r3, r4⟩ := fault_end HW1.out hb h5 h6 hc
      simp [Leaves, settle, results, Tryz.results71, go_sem, r2, r3]
      unfold ReadP
      rw [HPr.out]
      exact ⟨r1, b, rfl, r4⟩
    | none =>
      rw [hsyn] at h2 HPr
      obtain ⟨hb2, lb, vs, LS, rfl, hlb, hv0, HL⟩ := h2
      obtain ⟨n, hn⟩ : ∃ n, n = P.length - 1 := ⟨_, rfl⟩
      rw [← hn] at HL HPr
      have hlv := HL.lv
      rw [hlv] at hv0 ⊢
      have hnb : n ≤ 1500 := by omega
      have HC : Hid _ := placeLines_any P n lb vs LS w2 hlb HL hv0 hnb HSz.out
      have hlbl := (Array.getElem?_eq_some_iff.1 hlb).1
      have HLB : Hid _ := hlb
      have HHL : Hid _ := HL
      have HVl : Hid (vs.length = n) := hlv
      clear hsyn hlb HL hlv hn hPl hbig hs
      dsimp only
      go_wp2_with fail
      refine Calls.mono HC.out ?_
      rintro e w3 h3
      unfold PlacedPost at h3
      cases htr : Ref.treeTo (Ref.linesTo P n) n with
      | none =>
        rw [htr] at h3 HPr
        obtain ⟨hb, b, h5, h6, rfl⟩ := h3
        have hb3 := hb2.trans (hb.mono hb2.size)
        dsimp only
        refine leaves_cons (f := 105) (args := #[.pointer (some ⟨w.heap.size, 0, none⟩), .pointer (some ⟨w.heap.size + 1, 0, none⟩)]) (by simp) (by simp [go_sem]) ?_
        refine (catch_panicking w.heap.size (w.heap.size + 1) _ _ b [] _ ((Below.block hb3 _ (by omega)).trans h0) ((Below.block hb3 _ (by omega)).trans h1) (by omega)).mono ?_
        rintro e u' wq ⟨rfl, rfl, W, hc, rfl⟩
        obtain ⟨r1, r2, r3, r4⟩ := fault_end HW1.out hb3 (Nat.le_trans hb2.size h5) h6 hc
        simp [Leaves, settle, results, Tryz.results71, go_sem, r2, r3]
        unfold ReadP
        rw [HPr.out]
        exact ⟨r1, b, rfl, r4⟩
      | some S =>
        rw [htr] at h3 HPr
        simp only at h3
        cases hpt : Ref.parTo S S.length with
        | some l =>
          rw [hpt] at h3
          simp only [hpt] at HPr
          obtain ⟨hb, b, h5, h6, rfl⟩ := h3
          have hb3 := hb2.trans (hb.mono hb2.size)
          dsimp only
          refine leaves_cons (f := 105) (args := #[.pointer (some ⟨w.heap.size, 0, none⟩), .pointer (some ⟨w.heap.size + 1, 0, none⟩)]) (by simp) (by simp [go_sem]) ?_
          refine (catch_panicking w.heap.size (w.heap.size + 1) _ _ b [] _ ((Below.block hb3 _ (by omega)).trans h0) ((Below.block hb3 _ (by omega)).trans h1) (by omega)).mono ?_
          rintro e u' wq ⟨rfl, rfl, W, hc, rfl⟩
          obtain ⟨r1, r2, r3, r4⟩ := fault_end HW1.out hb3 (Nat.le_trans hb2.size h5) h6 hc
          simp [Leaves, settle, results, Tryz.results71, go_sem, r2, r3]
          unfold ReadP
          rw [HPr.out]
          exact ⟨r1, b, rfl, r4⟩
        | none =>
          rw [hpt] at h3
          simp only [hpt] at HPr
          obtain ⟨db, rfl, hb3, DA⟩ := h3
          have hb13 := hb2.trans (hb3.mono hb2.size)
          clear hpt htr HC
          dsimp only
          go_wp2
          obtain ⟨sv, pv, ov, mb, X, nm, hX, hnm, G⟩ := DA.mem
          have hSl := DA.inv.len
          have HX : Hid _ := hX
          have hlb3 : lb < w3.heap.size := Nat.lt_of_lt_of_le hlbl hb3.size
          clear DA hX hnm
          go_loopg [15] n (fun q i wr => ∃ k : Nat, q = n - k ∧ k ≤ n ∧ i = .int .i64 k ∧ Pro.nmFirst S P k = none ∧ Below w3.heap.size w3 wr)
          case atStart => exact ⟨0, rfl, Nat.zero_le _, rfl, rfl, Below.refl _ _⟩
          case round =>
            obtain ⟨k, hq, hk, rfl, hnf, hbr⟩ := hrel
            have hbr1 : Below w1.heap.size w1 wr := hb13.trans (hbr.mono hb13.size)
            have HNF : Hid _ := hnf
            by_cases hkn : k < n
            · obtain ⟨hp, hv⟩ := HHL.out.row k hkn
              have hgood := Pro.whole_good hp
              have hll : (Pro.wl P k).length ≤ 1501 := by
                unfold Pro.wl
                have h1 := Pro.rest_size (Ref.pc P k)
                have h2 := HSz.out k
                exact Nat.le_trans cut_len (by omega)
              have cv : wr.cell? ⟨lb, k, none⟩ = some (vs[k]'(by have := HVl.out; omega)) := by
                rw [World.cell?_of_block (w := w3) (hbr.block lb hlb3), World.cell?_of_block (w := w2) (hb3.block lb hlbl), cell_of_row w2 _ k _ _ _ HLB.out, List.getElem?_toArray, List.getElem?_eq_getElem]
              obtain ⟨L, hL⟩ : ∃ L, L = LS[k]'(by have := HHL.out.ll; omega) := ⟨_, rfl⟩
              obtain ⟨v, hve⟩ : ∃ v, v = vs[k]'(by have := HVl.out; omega) := ⟨_, rfl⟩
              obtain ⟨dp, hdp⟩ : ∃ dp, dp = Ref.blanks (Ref.pc P k) := ⟨_, rfl⟩
              rw [← hL, ← hve, ← hdp] at hv
              rw [← hL] at hp hgood
              rw [← hve] at cv
              have HNB : Hid (Pro.nmBad S P k = Pro.badLine (Pro.firstTo S S.length) (Pro.timedS S) (k + 1) L) := by unfold Hid Pro.nmBad; rw [hp]
              have hsh : ∃ r, Pro.pLine (k + 1) (Pro.wl P k) = some (L, r) := by
                unfold Pro.pWhole at hp
                split at hp
                · rename_i L' h1
                  cases hp
                  exact ⟨_, h1⟩
                · cases hp
              obtain ⟨rr, hpl⟩ := hsh
              have hshape := Pro.line_shape hpl
              have Gr := G.keep hbr
              clear hL hve hdp hp hpl hnf
              cases L with
            | state kd nme =>
              have hv : v = _ := hv
              subst hv
              have hmS := Tryz.mChkS
              go_wp2_with fail
              refine Calls.mono (stateNames_any ((k + 1 : Nat) : Int) dp kd nme Gr (Nat.le_trans hgood.2.2 (by decide))) ?_
              rintro e w5 h5
              unfold SNPost at h5
              cases hbad : Pro.badLine (Pro.firstTo S S.length) (Pro.timedS S) (k + 1) (.state kd nme) with
              | true =>
                have HRd : Hid (Pro.read s = .fault 4 (((k + 1 : Nat) : Int))) := by
                  have h1 : Pro.nmFirst S P (k + 1) = some k := by
                    rw [Pro.nmFirst, HNF.out]; simp only; rw [HNB.out, hbad]; rfl
                  unfold Hid
                  rw [HPr.out, Pro.nmFirst_some h1 n (by omega)]; rfl
                rw [if_neg (by simpa [Pro.badLine] using hbad)] at h5
                obtain ⟨hb, b, h7, h6, rfl⟩ := h5
                have hbq : Below w1.heap.size w1 w5 := hbr1.trans (hb.mono hbr1.size)
                have hlq : w1.heap.size ≤ b := Nat.le_trans hbr1.size h7
                dsimp only
                refine leaves_cons (f := 105) (args := #[.pointer (some ⟨w.heap.size, 0, none⟩), .pointer (some ⟨w.heap.size + 1, 0, none⟩)]) (by simp) (by simp [go_sem]) ?_
                refine (catch_panicking w.heap.size (w.heap.size + 1) _ _ b [] _ ((Below.block hbq _ (by omega)).trans h0) ((Below.block hbq _ (by omega)).trans h1) (by omega)).mono ?_
                rintro e u' wq ⟨rfl, rfl, W, hc, rfl⟩
                obtain ⟨r1, r2, r3, r4⟩ := fault_end HW1.out hbq hlq h6 hc
                simp [Leaves, settle, results, Tryz.results71, go_sem, r2, r3]
                unfold ReadP
                rw [HRd.out]
                exact ⟨r1, b, rfl, r4⟩
              | false =>
                have HNx : Hid (Pro.nmFirst S P (k + 1) = none) := by
                  unfold Hid
                  rw [Pro.nmFirst, HNF.out]; simp only; rw [HNB.out, hbad]; rfl
                rw [if_pos (by simpa [Pro.badLine] using hbad)] at h5
                obtain ⟨rfl, hb5⟩ := h5
                have hbr5 : Below w3.heap.size w3 w5 := hbr.trans (hb5.mono hbr.size)
                clear hbad
                dsimp only
                go_wp2
                go_roundg (n - (k + 1))
                case measure => omega
                case rel => exact ⟨k + 1, rfl, by omega, by go_num, HNx.out, hbr5⟩
            | move ev af dl t A =>
              obtain ⟨va, vn, vc, hv, hown⟩ := hv
              subst hv
              have hmS := Tryz.mChkM
              go_wp2_with fail
              refine Calls.mono (moveNames_any ((k + 1 : Nat) : Int) dp ⟨⟨ev, t, af, dl, A, ((k + 1 : Nat) : Int)⟩, ⟨va, vn, vc⟩⟩ Gr (Nat.le_trans hshape.1 (by decide)) hown hshape.2.1 (Nat.le_trans hshape.2.2 (by omega))) ?_
              rintro e w5 h5
              unfold MNPost at h5
              cases hbad : Pro.badLine (Pro.firstTo S S.length) (Pro.timedS S) (k + 1) (.move ev af dl t A) with
              | true =>
                have HRd : Hid (Pro.read s = .fault 4 (((k + 1 : Nat) : Int))) := by
                  have h1 : Pro.nmFirst S P (k + 1) = some k := by
                    rw [Pro.nmFirst, HNF.out]; simp only; rw [HNB.out, hbad]; rfl
                  unfold Hid
                  rw [HPr.out, Pro.nmFirst_some h1 n (by omega)]; rfl
                rw [if_pos (by exact hbad)] at h5
                obtain ⟨hb, b, h7, h6, rfl⟩ := h5
                have hbq : Below w1.heap.size w1 w5 := hbr1.trans (hb.mono hbr1.size)
                have hlq : w1.heap.size ≤ b := Nat.le_trans hbr1.size h7
                dsimp only
                refine leaves_cons (f := 105) (args := #[.pointer (some ⟨w.heap.size, 0, none⟩), .pointer (some ⟨w.heap.size + 1, 0, none⟩)]) (by simp) (by simp [go_sem]) ?_
                refine (catch_panicking w.heap.size (w.heap.size + 1) _ _ b [] _ ((Below.block hbq _ (by omega)).trans h0) ((Below.block hbq _ (by omega)).trans h1) (by omega)).mono ?_
                rintro e u' wq ⟨rfl, rfl, W, hc, rfl⟩
                obtain ⟨r1, r2, r3, r4⟩ := fault_end HW1.out hbq hlq h6 hc
                simp [Leaves, settle, results, Tryz.results71, go_sem, r2, r3]
                unfold ReadP
                rw [HRd.out]
                exact ⟨r1, b, rfl, r4⟩
              | false =>
                have HNx : Hid (Pro.nmFirst S P (k + 1) = none) := by
                  unfold Hid
                  rw [Pro.nmFirst, HNF.out]; simp only; rw [HNB.out, hbad]; rfl
                rw [if_neg (by simpa [Pro.badLine] using hbad)] at h5
                obtain ⟨rfl, hb5⟩ := h5
                have hbr5 : Below w3.heap.size w3 w5 := hbr.trans (hb5.mono hbr.size)
                clear hbad
                dsimp only
                go_wp2
                go_roundg (n - (k + 1))
                case measure => omega
                case rel => exact ⟨k + 1, rfl, by omega, by go_num, HNx.out, hbr5⟩
            | enter A =>
              obtain ⟨va, vn, vc, hv, hown⟩ := hv
              subst hv
              have hmS := Tryz.mChkE
              go_wp2_with fail
              refine Calls.mono (doingsNames_any ((k + 1 : Nat) : Int) dp A va vn vc Gr hown hshape.1 (Nat.le_trans hshape.2 (by omega))) ?_
              rintro e w5 h5
              unfold ActsOK at h5
              cases hbad : Pro.badLine (Pro.firstTo S S.length) (Pro.timedS S) (k + 1) (.enter A) with
              | true =>
                have HRd : Hid (Pro.read s = .fault 4 (((k + 1 : Nat) : Int))) := by
                  have h1 : Pro.nmFirst S P (k + 1) = some k := by
                    rw [Pro.nmFirst, HNF.out]; simp only; rw [HNB.out, hbad]; rfl
                  unfold Hid
                  rw [HPr.out, Pro.nmFirst_some h1 n (by omega)]; rfl
                rw [if_pos (by exact hbad)] at h5
                obtain ⟨hb, b, h7, h6, rfl⟩ := h5
                have hbq : Below w1.heap.size w1 w5 := hbr1.trans (hb.mono hbr1.size)
                have hlq : w1.heap.size ≤ b := Nat.le_trans hbr1.size h7
                dsimp only
                refine leaves_cons (f := 105) (args := #[.pointer (some ⟨w.heap.size, 0, none⟩), .pointer (some ⟨w.heap.size + 1, 0, none⟩)]) (by simp) (by simp [go_sem]) ?_
                refine (catch_panicking w.heap.size (w.heap.size + 1) _ _ b [] _ ((Below.block hbq _ (by omega)).trans h0) ((Below.block hbq _ (by omega)).trans h1) (by omega)).mono ?_
                rintro e u' wq ⟨rfl, rfl, W, hc, rfl⟩
                obtain ⟨r1, r2, r3, r4⟩ := fault_end HW1.out hbq hlq h6 hc
                simp [Leaves, settle, results, Tryz.results71, go_sem, r2, r3]
                unfold ReadP
                rw [HRd.out]
                exact ⟨r1, b, rfl, r4⟩
              | false =>
                have HNx : Hid (Pro.nmFirst S P (k + 1) = none) := by
                  unfold Hid
                  rw [Pro.nmFirst, HNF.out]; simp only; rw [HNB.out, hbad]; rfl
                rw [if_neg (by simpa [Pro.badLine] using hbad)] at h5
                obtain ⟨rfl, hb5⟩ := h5
                have hbr5 : Below w3.heap.size w3 w5 := hbr.trans (hb5.mono hbr.size)
                clear hbad
                dsimp only
                go_wp2
                go_roundg (n - (k + 1))
                case measure => omega
                case rel => exact ⟨k + 1, rfl, by omega, by go_num, HNx.out, hbr5⟩
            | leave A =>
              obtain ⟨va, vn, vc, hv, hown⟩ := hv
              subst hv
              have hmS := Tryz.mChkL
              go_wp2_with fail
              refine Calls.mono (doingsNames_any ((k + 1 : Nat) : Int) dp A va vn vc Gr hown hshape.1 (Nat.le_trans hshape.2 (by omega))) ?_
              rintro e w5 h5
              unfold ActsOK at h5
              cases hbad : Pro.badLine (Pro.firstTo S S.length) (Pro.timedS S) (k + 1) (.leave A) with
              | true =>
                have HRd : Hid (Pro.read s = .fault 4 (((k + 1 : Nat) : Int))) := by
                  have h1 : Pro.nmFirst S P (k + 1) = some k := by
                    rw [Pro.nmFirst, HNF.out]; simp only; rw [HNB.out, hbad]; rfl
                  unfold Hid
                  rw [HPr.out, Pro.nmFirst_some h1 n (by omega)]; rfl
                rw [if_pos (by exact hbad)] at h5
                obtain ⟨hb, b, h7, h6, rfl⟩ := h5
                have hbq : Below w1.heap.size w1 w5 := hbr1.trans (hb.mono hbr1.size)
                have hlq : w1.heap.size ≤ b := Nat.le_trans hbr1.size h7
                dsimp only
                refine leaves_cons (f := 105) (args := #[.pointer (some ⟨w.heap.size, 0, none⟩), .pointer (some ⟨w.heap.size + 1, 0, none⟩)]) (by simp) (by simp [go_sem]) ?_
                refine (catch_panicking w.heap.size (w.heap.size + 1) _ _ b [] _ ((Below.block hbq _ (by omega)).trans h0) ((Below.block hbq _ (by omega)).trans h1) (by omega)).mono ?_
                rintro e u' wq ⟨rfl, rfl, W, hc, rfl⟩
                obtain ⟨r1, r2, r3, r4⟩ := fault_end HW1.out hbq hlq h6 hc
                simp [Leaves, settle, results, Tryz.results71, go_sem, r2, r3]
                unfold ReadP
                rw [HRd.out]
                exact ⟨r1, b, rfl, r4⟩
              | false =>
                have HNx : Hid (Pro.nmFirst S P (k + 1) = none) := by
                  unfold Hid
                  rw [Pro.nmFirst, HNF.out]; simp only; rw [HNB.out, hbad]; rfl
                rw [if_neg (by simpa [Pro.badLine] using hbad)] at h5
                obtain ⟨rfl, hb5⟩ := h5
                have hbr5 : Below w3.heap.size w3 w5 := hbr.trans (hb5.mono hbr.size)
                clear hbad
                dsimp only
                go_wp2
                go_roundg (n - (k + 1))
                case measure => omega
                case rel => exact ⟨k + 1, rfl, by omega, by go_num, HNx.out, hbr5⟩
            · obtain rfl : k = n := by omega
              have HRd : Hid (Pro.read s = .chart S) := by unfold Hid; rw [HPr.out, HNF.out]
              have Gr := G.keep hbr
              obtain ⟨c0, _, _, _, _⟩ := Gr.cells
              have hdl := Gr.dlt
              have g0 := (hbr1.block _ (by omega)).trans h0
              have g1 := (hbr1.block _ (by omega)).trans h1
              have k0 : wr.cell? ⟨w.heap.size, 0, none⟩ = some (.pointer none) := by rw [cell_of_row wr _ _ _ _ _ g0]; rfl
              have k1 : wr.cell? ⟨w.heap.size + 1, 0, none⟩ = some .nilIface := by rw [cell_of_row wr _ _ _ _ _ g1]; rfl
              have f0 : wr.frozen? ⟨w.heap.size, 0, none⟩ = false := by simp [World.frozen?, g0]
              have f1 : wr.frozen? ⟨w.heap.size + 1, 0, none⟩ = false := by simp [World.frozen?, g1]
              have l0 : w.heap.size < wr.heap.size := (Array.getElem?_eq_some_iff.1 g0).1
              have l1 : w.heap.size + 1 < wr.heap.size := (Array.getElem?_eq_some_iff.1 g1).1
              have HG : Hid _ := Gr
              clear hnf G Gr
              go_wp2
              refine leaves_cons (f := 105) (args := #[.pointer (some ⟨w.heap.size, 0, none⟩), .pointer (some ⟨w.heap.size + 1, 0, none⟩)]) (by simp) (by simp [go_sem]) ?_
              refine (catch_idle _ _ _).mono ?_
              rintro e u' wq ⟨rfl, rfl, rfl⟩
              have oa := only_setCell wr w.heap.size 0 (.pointer (some ⟨wr.heap.size, 0, none⟩))
              have ob := only_setCell (wr.setCell ⟨w.heap.size, 0, none⟩ (.pointer (some ⟨wr.heap.size, 0, none⟩))) (w.heap.size + 1) 0 .nilIface
              have g1' := (oa.block (w.heap.size + 1) (by omega)).trans g1
              have ra := heap_setCell_same wr w.heap.size 0 _ _ (.pointer (some ⟨wr.heap.size, 0, none⟩)) g0
              have rb := heap_setCell_same _ (w.heap.size + 1) 0 _ _ .nilIface g1'
              have ra' := (ob.block w.heap.size (by omega)).trans ra
              have hT := touch_only oa g0
              have hT2 := touch_only ob g1'
              have hC2 := (HG.out.chart.touch hT (by decide) (by decide) (by decide)).touch hT2 (by decide) (by decide) (by decide)
              have hbe : Below w.heap.size w (wr.setCell ⟨w.heap.size, 0, none⟩ (.pointer (some ⟨wr.heap.size, 0, none⟩))) := oa.below (hbw1.trans (hbr1.mono hbw1.size)) (Nat.le_refl _)
              have hbe2 := ob.below hbe (by omega)
              have hsz : ((wr.setCell ⟨w.heap.size, 0, none⟩ (.pointer (some ⟨wr.heap.size, 0, none⟩))).setCell ⟨w.heap.size + 1, 0, none⟩ .nilIface).heap.size = wr.heap.size := by rw [ob.size, oa.size]
              obtain ⟨W6, hW6⟩ : ∃ y, y = (wr.setCell ⟨w.heap.size, 0, none⟩ (.pointer (some ⟨wr.heap.size, 0, none⟩))).setCell ⟨w.heap.size + 1, 0, none⟩ .nilIface := ⟨_, rfl⟩
              rw [← hW6] at ra' rb hC2 hbe2 hsz ⊢
              have q0 : (W6.alloc (.cells #[.slice sv.a sv.n sv.c] 232)).cell? ⟨w.heap.size, 0, none⟩ = some (.pointer (some ⟨wr.heap.size, 0, none⟩)) := by
                rw [World.cell?_alloc_lt _ _ ⟨w.heap.size, 0, none⟩ (by rw [hsz]; exact l0), cell_of_row W6 _ _ _ _ _ ra']; rfl
              have q1 : (W6.alloc (.cells #[.slice sv.a sv.n sv.c] 232)).cell? ⟨w.heap.size + 1, 0, none⟩ = some .nilIface := by
                rw [World.cell?_alloc_lt _ _ ⟨w.heap.size + 1, 0, none⟩ (by rw [hsz]; exact l1), cell_of_row W6 _ _ _ _ _ rb]; rfl
              simp [Leaves, settle, results, Tryz.results71, go_sem, q0, q1]
              unfold ReadP
              rw [HRd.out]
              refine ⟨hbe2.alloc (by omega) _, wr.heap.size, sv, X, rfl, ?_, HX.out, hC2.touch (e := 0) (touch_below ((Below.refl _ _).alloc (Nat.le_refl _) _)) (by decide) (by decide) (by decide), hSl⟩
              rw [← hsz]; exact heap_alloc_new _ _
end Go.Proofs.YtegmoddppafkfaaGreatDoor
