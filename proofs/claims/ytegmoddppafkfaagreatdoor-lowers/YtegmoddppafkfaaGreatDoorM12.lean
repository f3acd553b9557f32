/-
  MY OWN TEXT.
-/
import Derived.Test.YtegmoddppafkfaaGreatDoorM11
import Derived.StillTailTactics
namespace Go.Proofs.YtegmoddppafkfaaGreatDoor
open Go.RowKit

theorem Tryz.resMove : Tryz.f218.results = #[.cell 4 380] := rfl
theorem Tryz.sizeMoveLine : (Tryz.prog.info? 380).map (·.size) = some 7 := by kernel_rfl
namespace Pro
def bToW : ByteArray := ⟨#[116, 111]⟩
/-- Whither a move leads, if anywhere, and what is left. -/
def pTo : List ByteArray → Option (ByteArray × List ByteArray)
  | [] => some (ByteArray.empty, [])
  | y :: r => if y.toList == bToW.toList then pOf Ref.plain r else some (ByteArray.empty, y :: r)
def pMove (l : List ByteArray) : Option ((ByteArray × List Ref.Act) × List ByteArray) := match pTo l with
  | none => none
  | some (t, r) => (pActions r).map fun q => ((t, q.1), q.2)
end Pro
def MovePost (p : Nat) (num dep : Int) (ev : ByteArray) (af : Bool) (d : Int) (l : List ByteArray) (w : World) (e : Ending) (w' : World) : Prop := match Pro.pMove l with
  | none => RefusedT p 2 num w e w'
  | some ((t, A), r) => ∃ a n c, e = .returned (.agg #[.int .i64 num, .int .i64 dep, .string ev, .bool af, .int .u64 d, .string t, .slice a n c]) ∧ w'.ownsRow w.heap.size 324 1 (.slice a n c) A.length (A.map actV) ∧ Turned p w w' ∧ WordsAt w' p num dep r
/-- What move has made of its own: the move, and the line that it will hand back. -/
structure MoveMem (w w1 : World) (ev t : ByteArray) (af : Bool) (d : Int) : Prop where
  m : w1.heap[w.heap.size]? = some (.cells #[.string ev, .bool af, .int .u64 d, .string t, .slice none 0 0] 295 (0, 0))
  l : w1.heap[w.heap.size + 1]? = some (.cells #[.int .i64 0, .int .i64 0, .string ByteArray.empty, .bool false, .int .u64 0, .string ByteArray.empty, .slice none 0 0] 380 (0, 0))

theorem line7_stored {w : World} {N : Nat} {a0 a1 a2 a3 a4 a5 a6 : Value} {t : TypeId} (hN : w.heap[N]? = some (.cells #[a0, a1, a2, a3, a4, a5, a6] t (0, 0))) (b0 b1 b2 b3 b4 b5 b6 : Value) :
    (((((((w.setCell ⟨N, 0, none⟩ b0).setCell ⟨N, 1, none⟩ b1).setCell ⟨N, 2, none⟩ b2).setCell ⟨N, 3, none⟩ b3).setCell ⟨N, 4, none⟩ b4).setCell ⟨N, 5, none⟩ b5).setCell ⟨N, 6, none⟩ b6).heap[N]? = some (.cells #[b0, b1, b2, b3, b4, b5, b6] t (0, 0)) ∧ Only N w (((((((w.setCell ⟨N, 0, none⟩ b0).setCell ⟨N, 1, none⟩ b1).setCell ⟨N, 2, none⟩ b2).setCell ⟨N, 3, none⟩ b3).setCell ⟨N, 4, none⟩ b4).setCell ⟨N, 5, none⟩ b5).setCell ⟨N, 6, none⟩ b6) := by
  have g0 : (w.setCell ⟨N, 0, none⟩ b0).heap[N]? = some (.cells #[b0, a1, a2, a3, a4, a5, a6] t (0, 0)) := by rw [heap_setCell_same _ N 0 _ _ b0 hN]; rfl
  have g1 : ((w.setCell ⟨N, 0, none⟩ b0).setCell ⟨N, 1, none⟩ b1).heap[N]? = some (.cells #[b0, b1, a2, a3, a4, a5, a6] t (0, 0)) := by rw [heap_setCell_same _ N 1 _ _ b1 g0]; rfl
  have g2 : (((w.setCell ⟨N, 0, none⟩ b0).setCell ⟨N, 1, none⟩ b1).setCell ⟨N, 2, none⟩ b2).heap[N]? = some (.cells #[b0, b1, b2, a3, a4, a5, a6] t (0, 0)) := by rw [heap_setCell_same _ N 2 _ _ b2 g1]; rfl
  have g3 : ((((w.setCell ⟨N, 0, none⟩ b0).setCell ⟨N, 1, none⟩ b1).setCell ⟨N, 2, none⟩ b2).setCell ⟨N, 3, none⟩ b3).heap[N]? = some (.cells #[b0, b1, b2, b3, a4, a5, a6] t (0, 0)) := by rw [heap_setCell_same _ N 3 _ _ b3 g2]; rfl
  have g4 : (((((w.setCell ⟨N, 0, none⟩ b0).setCell ⟨N, 1, none⟩ b1).setCell ⟨N, 2, none⟩ b2).setCell ⟨N, 3, none⟩ b3).setCell ⟨N, 4, none⟩ b4).heap[N]? = some (.cells #[b0, b1, b2, b3, b4, a5, a6] t (0, 0)) := by rw [heap_setCell_same _ N 4 _ _ b4 g3]; rfl
  have g5 : ((((((w.setCell ⟨N, 0, none⟩ b0).setCell ⟨N, 1, none⟩ b1).setCell ⟨N, 2, none⟩ b2).setCell ⟨N, 3, none⟩ b3).setCell ⟨N, 4, none⟩ b4).setCell ⟨N, 5, none⟩ b5).heap[N]? = some (.cells #[b0, b1, b2, b3, b4, b5, a6] t (0, 0)) := by rw [heap_setCell_same _ N 5 _ _ b5 g4]; rfl
  have g6 : (((((((w.setCell ⟨N, 0, none⟩ b0).setCell ⟨N, 1, none⟩ b1).setCell ⟨N, 2, none⟩ b2).setCell ⟨N, 3, none⟩ b3).setCell ⟨N, 4, none⟩ b4).setCell ⟨N, 5, none⟩ b5).setCell ⟨N, 6, none⟩ b6).heap[N]? = some (.cells #[b0, b1, b2, b3, b4, b5, b6] t (0, 0)) := by rw [heap_setCell_same _ N 6 _ _ b6 g5]; rfl
  exact ⟨g6, ((((((only_setCell _ _ _ _).trans (only_setCell _ _ _ _)).trans (only_setCell _ _ _ _)).trans (only_setCell _ _ _ _)).trans (only_setCell _ _ _ _)).trans (only_setCell _ _ _ _)).trans (only_setCell _ _ _ _)⟩

set_option maxHeartbeats 3200000 in
set_option maxRecDepth 100000 in
theorem move_any (p : Nat) (num dep : Int) (ev : ByteArray) (af : Bool) (d : Int) (l : List ByteArray) (w : World) (H : WordsAt w p num dep l) (hv : EnvAt p w) :
    Calls Tryz.prog 218 #[.pointer (some ⟨p, 0, none⟩), .agg #[.string ev, .bool af, .int .u64 d, .string ByteArray.empty, .slice none 0 0]] w (MovePost p num dep ev af d l w) := by
  have hpl := H.lt
  have HPM : Hid (Pro.pMove l = match Pro.pTo l with | none => none | some (t, r) => (Pro.pActions r).map fun q => ((t, q.1), q.2)) := rfl
  go_enter Tryz.func218, Tryz.ntmps218
  go_upto_region 1 with fail
  obtain ⟨w1, hw1⟩ : ∃ y, y = (w.alloc (.cells #[.string ev, .bool af, .int .u64 d, .string ByteArray.empty, .slice none 0 0] 295)).alloc (.cells #[.int .i64 0, .int .i64 0, .string ByteArray.empty, .bool false, .int .u64 0, .string ByteArray.empty, .slice none 0 0] 380) := ⟨_, rfl⟩
  change Code.wp _ _ _ _ ((w.alloc (.cells #[.string ev, .bool af, .int .u64 d, .string ByteArray.empty, .slice none 0 0] 295)).alloc (.cells #[.int .i64 0, .int .i64 0, .string ByteArray.empty, .bool false, .int .u64 0, .string ByteArray.empty, .slice none 0 0] 380))
  rw [← hw1]
  have ht1 : Turned p w w1 := by rw [hw1]; exact ((Turned.refl p w).alloc _).alloc _
  have H1 : WordsAt w1 p num dep l := by rw [hw1]; exact (H.alloc _).alloc _
  have M1 : MoveMem w w1 ev ByteArray.empty af d := by rw [hw1]; exact ⟨heap_prev _ _ _, heap_last2 _ _ _⟩
  clear hw1
  cases htl : Pro.pTo l with
  | none =>
    cases l with
    | nil => cases htl
    | cons y r =>
      cases hy : (y.toList == Pro.bToW.toList)
      · rw [Pro.pTo, hy] at htl; cases htl
      · have hr : Pro.pOf Ref.plain r = none := by rw [Pro.pTo, hy] at htl; exact htl
        have HS : Hid (Pro.pMove (y :: r) = none) := by unfold Hid; rw [HPM.out, htl]
        clear HPM
        go_wp2_with fail
        refine (skip_yes p num dep y r Pro.bToW _ H1 hy).mono ?_
        rintro e w2 ⟨rfl, ho2, H2⟩
        have ht2 := ht1.trans ho2.turned
        dsimp only
        go_wp2_with fail
        refine (nextOf_name_any p num dep r _ H2 (hv.turned ht2)).mono ?_
        rintro e w3 h3
        rw [hr] at h3
        obtain ⟨ht3, b, h4, h5, rfl⟩ := h3
        dsimp only
        refine ⟨rfl, ?_⟩
        unfold MovePost
        rw [HS.out]
        exact ⟨ht2.trans ht3, b, Nat.le_trans ht2.size h4, h5, rfl⟩
  | some q =>
    obtain ⟨t, r⟩ := q
    have HS : Hid (Pro.pMove l = (Pro.pActions r).map fun q => ((t, q.1), q.2)) := by unfold Hid; rw [HPM.out, htl]
    clear HPM
    go_cut [6] (fun c wx => ∃ b : Bool, c = .bool b ∧ MoveMem w wx ev ByteArray.empty af d ∧ Turned p w wx ∧ ((b = true ∧ ∃ r0, Pro.pOf Ref.plain r0 = some (t, r) ∧ WordsAt wx p num dep r0) ∨ (b = false ∧ t = ByteArray.empty ∧ WordsAt wx p num dep r)))
    case first =>
      cases l with
      | nil =>
        cases htl
        go_wp2_with (go_at_call 245; refine (skip_none p num dep Pro.bToW _ H1).mono ?_; rintro e w9 ⟨rfl, hw9⟩; rw [hw9]; clear hw9 w9)
        go_meet
        case rel => exact ⟨false, rfl, M1, ht1, .inr ⟨rfl, by first | rfl | trivial, H1⟩⟩
      | cons y r1 =>
        cases hy : (y.toList == Pro.bToW.toList)
        · rw [Pro.pTo, hy] at htl
          cases htl
          go_wp2_with (go_at_call 245; refine (skip_no p num dep y r1 Pro.bToW _ H1 hy).mono ?_; rintro e w9 ⟨rfl, hw9⟩; rw [hw9]; clear hw9 w9)
          go_meet
          case rel => exact ⟨false, rfl, M1, ht1, .inr ⟨rfl, by first | rfl | trivial, H1⟩⟩
        · have hr : Pro.pOf Ref.plain r1 = some (t, r) := by rw [Pro.pTo, hy] at htl; exact htl
          go_wp2_with (go_at_call 245; refine (skip_yes p num dep y r1 Pro.bToW _ H1 hy).mono ?_; rintro e w2 ⟨rfl, ho2, H2⟩)
          go_meet
          case rel => exact ⟨true, rfl, ⟨(ho2.block _ (by omega)).trans M1.m, (ho2.block _ (by omega)).trans M1.l⟩, ht1.trans ho2.turned, .inl ⟨rfl, r1, hr, H2⟩⟩
    case rest =>
      obtain ⟨b, rfl, M2, ht2, hbb⟩ := hcut
      clear M1 H1 ht1
      obtain ⟨w2, hw2⟩ : ∃ y : World, y = wc := ⟨wc, rfl⟩
      subst hw2
      go_upto_if 6 with fail
      go_cut [] (fun wx => MoveMem w wx ev t af d ∧ Turned p w wx ∧ WordsAt wx p num dep r)
      case first =>
        rcases hbb with ⟨rfl, r0, hr0, H2⟩ | ⟨rfl, rfl, H2⟩
        · go_wp2_with fail
          refine (nextOf_name_any p num dep r0 _ H2 (hv.turned ht2)).mono ?_
          rintro e w3 h3
          rw [hr0] at h3
          obtain ⟨rfl, ht3, H3⟩ := h3
          have hs2 := ht2.size
          have lm := (Array.getElem?_eq_some_iff.1 M2.m).1
          have ll := (Array.getElem?_eq_some_iff.1 M2.l).1
          have m3 := (ht3.block _ lm (by omega)).trans M2.m
          have l3 := (ht3.block _ ll (by omega)).trans M2.l
          have k3 : w3.cell? ⟨w.heap.size, 3, none⟩ = some (.string ByteArray.empty) := by rw [cell_of_row w3 _ 3 _ _ _ m3]; rfl
          have f3 : w3.frozen? ⟨w.heap.size, 3, none⟩ = false := by simp [World.frozen?, m3]
          dsimp only
          go_wp2
          go_meet
          case rel =>
            have oo := only_setCell w3 w.heap.size 3 (.string t)
            refine ⟨⟨?_, (oo.block _ (by omega)).trans l3⟩, (ht2.trans ht3).onlyNew oo (Nat.le_refl _), H3.only oo hpl⟩
            rw [heap_setCell_same w3 _ 3 _ _ _ m3]; rfl
        · go_wp2
          go_meet
          case rel => exact ⟨M2, ht2, H2⟩
      case rest =>
        obtain ⟨M3, ht3, H3⟩ := hcut
        clear M2 ht2 hbb
        obtain ⟨w3, hw3⟩ : ∃ y : World, y = wc := ⟨wc, rfl⟩
        subst hw3
        go_wp2_with fail
        refine (actions_any p num dep r _ H3 (hv.turned ht3)).mono ?_
        rintro e w4 h4
        unfold ActsPost at h4
        cases ha : Pro.pActions r with
        | none =>
          rw [ha] at h4
          have HS2 : Hid (Pro.pMove l = none) := by unfold Hid; rw [HS.out, ha]; rfl
          obtain ⟨ht4, b, h5, h6, rfl⟩ := h4
          dsimp only
          refine ⟨rfl, ?_⟩
          unfold MovePost
          rw [HS2.out]
          exact ⟨ht3.trans ht4, b, Nat.le_trans ht3.size h5, h6, rfl⟩
        | some q =>
          obtain ⟨A, r'⟩ := q
          rw [ha] at h4
          have HS2 : Hid (Pro.pMove l = some ((t, A), r')) := by unfold Hid; rw [HS.out, ha]; rfl
          obtain ⟨a, n, c, rfl, hown, ht4, H4⟩ := h4
          have hs3 := ht3.size
          have lm := (Array.getElem?_eq_some_iff.1 M3.m).1
          have ll := (Array.getElem?_eq_some_iff.1 M3.l).1
          have m4 := (ht4.block _ lm (by omega)).trans M3.m
          have l4 := (ht4.block _ ll (by omega)).trans M3.l
          have hown4 := own_mono hown hs3
          have k4 : w4.cell? ⟨w.heap.size, 4, none⟩ = some (.slice none 0 0) := by rw [cell_of_row w4 _ 4 _ _ _ m4]; rfl
          have f4 : w4.frozen? ⟨w.heap.size, 4, none⟩ = false := by simp [World.frozen?, m4]
          have o5 := only_setCell w4 w.heap.size 4 (.slice a n c)
          have m5 := heap_setCell_same w4 w.heap.size 4 _ _ (.slice a n c) m4
          have l5 := (o5.block (w.heap.size + 1) (by omega)).trans l4
          have hown5 := own_tag hown4 o5 m4 (by decide)
          have ht5 := (ht3.trans ht4).onlyNew o5 (Nat.le_refl _)
          have H5 := H4.only o5 hpl
          clear HS ha M3 ht3 H3 hown ht4 H4 m4 l4 hown4 o5
          dsimp only
          go_upto_region 4 with fail
          generalize w4.setCell ⟨w.heap.size, 4, none⟩ (.slice a n c) = w5 at *
          clear k4 f4
          obtain ⟨c0, c1⟩ := H5.cells
          have y0 : w5.cell? ⟨w.heap.size, 0, none⟩ = some (.string ev) := by rw [cell_of_row w5 _ 0 _ _ _ m5]; rfl
          have y1 : w5.cell? ⟨w.heap.size, 1, none⟩ = some (.bool af) := by rw [cell_of_row w5 _ 1 _ _ _ m5]; rfl
          have y2 : w5.cell? ⟨w.heap.size, 2, none⟩ = some (.int .u64 d) := by rw [cell_of_row w5 _ 2 _ _ _ m5]; rfl
          have y3 : w5.cell? ⟨w.heap.size, 3, none⟩ = some (.string t) := by rw [cell_of_row w5 _ 3 _ _ _ m5]; rfl
          have y4 : w5.cell? ⟨w.heap.size, 4, none⟩ = some (.slice a n c) := by rw [cell_of_row w5 _ 4 _ _ _ m5]; rfl
          have z0 : w5.cell? ⟨w.heap.size + 1, 0, none⟩ = some (.int .i64 0) := by rw [cell_of_row w5 _ 0 _ _ _ l5]; rfl
          have q0 : w5.frozen? ⟨w.heap.size + 1, 0, none⟩ = false := by simp [World.frozen?, l5]
          have z1 : w5.cell? ⟨w.heap.size + 1, 1, none⟩ = some (.int .i64 0) := by rw [cell_of_row w5 _ 1 _ _ _ l5]; rfl
          have q1 : w5.frozen? ⟨w.heap.size + 1, 1, none⟩ = false := by simp [World.frozen?, l5]
          have z2 : w5.cell? ⟨w.heap.size + 1, 2, none⟩ = some (.string ByteArray.empty) := by rw [cell_of_row w5 _ 2 _ _ _ l5]; rfl
          have q2 : w5.frozen? ⟨w.heap.size + 1, 2, none⟩ = false := by simp [World.frozen?, l5]
          have z3 : w5.cell? ⟨w.heap.size + 1, 3, none⟩ = some (.bool false) := by rw [cell_of_row w5 _ 3 _ _ _ l5]; rfl
          have q3 : w5.frozen? ⟨w.heap.size + 1, 3, none⟩ = false := by simp [World.frozen?, l5]
          have z4 : w5.cell? ⟨w.heap.size + 1, 4, none⟩ = some (.int .u64 0) := by rw [cell_of_row w5 _ 4 _ _ _ l5]; rfl
          have q4 : w5.frozen? ⟨w.heap.size + 1, 4, none⟩ = false := by simp [World.frozen?, l5]
          have z5 : w5.cell? ⟨w.heap.size + 1, 5, none⟩ = some (.string ByteArray.empty) := by rw [cell_of_row w5 _ 5 _ _ _ l5]; rfl
          have q5 : w5.frozen? ⟨w.heap.size + 1, 5, none⟩ = false := by simp [World.frozen?, l5]
          have z6 : w5.cell? ⟨w.heap.size + 1, 6, none⟩ = some (.slice none 0 0) := by rw [cell_of_row w5 _ 6 _ _ _ l5]; rfl
          have q6 : w5.frozen? ⟨w.heap.size + 1, 6, none⟩ = false := by simp [World.frozen?, l5]
          have hne1 : ¬ p = w.heap.size + 1 := by omega
          have hne2 : ¬ w.heap.size + 1 = p := by omega
          have hne3 : ¬ w.heap.size = w.heap.size + 1 := by omega
          have HH : Hid (w5.ownsRow w.heap.size 324 1 (.slice a n c) A.length (A.map actV) ∧ Turned p w w5 ∧ WordsAt w5 p num dep r') := ⟨hown5, ht5, H5⟩
          have HL5 : Hid _ := l5
          clear m5 l5 hown5 ht5 H5
          refine region_tail 6 (by kernel_rfl) (by kernel_rfl) ?_
          simp only [List.take_succ_cons, List.take_zero, List.drop_succ_cons, List.drop_zero]
          repeat still_step
          refine wpStill_nil ?_
          refine wpList_store_all rfl 380 (.tmp 4) (.tmp 18) rfl _ 380 _ _ rfl rfl (show w5.drew.heap[w.heap.size + 1]? = _ from HL5.out) Tryz.sizeMoveLine rfl rfl ?_
          go_wp2
          have G2 := (only_setRow w5.drew (w.heap.size + 1) #[.int .i64 num, .int .i64 dep, .string ev, .bool af, .int .u64 d, .string t, .slice a n c]).of_drew
          refine ret_cell Tryz.resMove _ 380 _ (0, 0) _ rfl (setRow_heap _ _ _ _ _ _ (show w5.drew.heap[w.heap.size + 1]? = _ from HL5.out)) Tryz.underlying380 rfl Tryz.sizeMoveLine rfl ?_
          unfold MovePost
          rw [HS2.out]
          exact ⟨a, n, c, rfl, own_tag HH.out.1 G2 HL5.out (by decide), HH.out.2.1.onlyNew G2 (by omega), HH.out.2.2.only G2 (by omega)⟩
end Go.Proofs.YtegmoddppafkfaaGreatDoor
namespace Go.Proofs.YtegmoddppafkfaaGreatDoor
open Go.RowKit

namespace Pro
/-- A line, as the program has it. -/
inductive PL where
  | state (k : Int) (name : ByteArray)
  | move (ev : ByteArray) (af : Bool) (d : Int) (dst : ByteArray) (A : List Ref.Act)
  | enter (A : List Ref.Act)
  | leave (A : List Ref.Act)
def pLine (num : Nat) : List ByteArray → Option (PL × List ByteArray)
  | [] => none
  | x :: r =>
    if x.toList == Ref.cState then (pOf Ref.plain r).map fun q => (.state 0 q.1, q.2)
    else if x.toList == Ref.cParallel then (pOf Ref.plain r).map fun q => (.state 1 q.1, q.2)
    else if x.toList == Ref.cFinal then (pOf Ref.plain r).map fun q => (.state 2 q.1, q.2)
    else if x.toList == Ref.cHistory then (pHistory r).map fun q => (.state q.1.2 q.1.1, q.2)
    else if x.toList == Ref.cOn then match pOf Ref.awaited r with
      | none => none
      | some (ev, r1) => (pMove r1).map fun q => (.move ev false 0 q.1.1 q.1.2, q.2)
    else if x.toList == Ref.cAfter then match pDelay r with
      | none => none
      | some (d, r1) => (pMove r1).map fun q => (.move (Ref.kAfter ++ Ref.dec num) true d q.1.1 q.1.2, q.2)
    else if x.toList == Ref.cEnter then (pDoings r).map fun q => (.enter q.1, q.2)
    else if x.toList == Ref.cLeave then (pDoings r).map fun q => (.leave q.1, q.2)
    else none
end Pro
/-- A line as it lies behind the interface. -/
def LineV (w : World) (base : Nat) (num dep : Int) : Pro.PL → Value → Prop
  | .state k n, v => v = .iface 376 (.agg #[.int .i64 num, .int .i64 dep, .int .i64 k, .string n])
  | .move ev af d t A, v => ∃ a n c, v = .iface 380 (.agg #[.int .i64 num, .int .i64 dep, .string ev, .bool af, .int .u64 d, .string t, .slice a n c]) ∧ w.ownsRow base 324 1 (.slice a n c) A.length (A.map actV)
  | .enter A, v => ∃ a n c, v = .iface 387 (.agg #[.int .i64 num, .int .i64 dep, .slice a n c]) ∧ w.ownsRow base 324 1 (.slice a n c) A.length (A.map actV)
  | .leave A, v => ∃ a n c, v = .iface 388 (.agg #[.int .i64 num, .int .i64 dep, .slice a n c]) ∧ w.ownsRow base 324 1 (.slice a n c) A.length (A.map actV)
def LinePost (p num : Nat) (dep : Int) (l : List ByteArray) (w : World) (e : Ending) (w' : World) : Prop := match Pro.pLine num l with
  | none => RefusedT p 2 num w e w'
  | some (L, r) => ∃ v, e = .returned v ∧ LineV w' w.heap.size num dep L v ∧ Turned p w w' ∧ WordsAt w' p num dep r


set_option maxHeartbeats 1600000 in
theorem line_state (p num : Nat) (dep : Int) (x : ByteArray) (r : List ByteArray) (w : World) (H : WordsAt w p num dep (x :: r)) (hv : EnvAt p w) (h1 : (x.toList == [115, 116, 97, 116, 101]) = true) :
    Calls Tryz.prog 176 #[.pointer (some ⟨p, 0, none⟩)] w (LinePost p num dep (x :: r) w) := by
  cases hn : Pro.pOf Ref.plain r with
  | none =>
    have HS : Hid (Pro.pLine num (x :: r) = none) := by unfold Hid; rw [Pro.pLine, Ref.cState, h1, hn]; rfl
    go_enter Tryz.func176, Tryz.ntmps176
    go_wp2_with fail
    refine (next_some p num dep x r _ H).mono ?_
    rintro e w1 ⟨rfl, ho, H1⟩
    have ht1 := ho.turned
    clear ho
    dsimp only
    go_wp2_with fail
    refine (state_no p num dep 0 r _ H1 (hv.turned ht1) hn).mono ?_
    rintro e w2 hq
    obtain ⟨ht, b, h4, h5, rfl⟩ := hq
    dsimp only
    refine ⟨rfl, ?_⟩
    unfold LinePost
    rw [HS.out]
    exact ⟨ht1.trans ht, b, Nat.le_trans ht1.size h4, h5, rfl⟩
  | some q =>
    obtain ⟨n, r'⟩ := q
    have HS : Hid (Pro.pLine num (x :: r) = some (.state 0 n, r')) := by unfold Hid; rw [Pro.pLine, Ref.cState, h1, hn]; rfl
    go_enter Tryz.func176, Tryz.ntmps176
    go_wp2_with fail
    refine (next_some p num dep x r _ H).mono ?_
    rintro e w1 ⟨rfl, ho, H1⟩
    have ht1 := ho.turned
    clear ho
    dsimp only
    go_wp2_with fail
    refine (state_yes p num dep 0 r r' n _ H1 (hv.turned ht1) hn).mono ?_
    rintro e w2 ⟨rfl, ht2, H2⟩
    dsimp only
    go_wp2
    go_ret
    unfold LinePost
    rw [HS.out]
    exact ⟨_, rfl, rfl, ht1.trans ht2, H2⟩

set_option maxHeartbeats 1600000 in
theorem line_parallel (p num : Nat) (dep : Int) (x : ByteArray) (r : List ByteArray) (w : World) (H : WordsAt w p num dep (x :: r)) (hv : EnvAt p w) (h1 : (x.toList == [115, 116, 97, 116, 101]) = false) (h2 : (x.toList == [112, 97, 114, 97, 108, 108, 101, 108]) = true) :
    Calls Tryz.prog 176 #[.pointer (some ⟨p, 0, none⟩)] w (LinePost p num dep (x :: r) w) := by
  cases hn : Pro.pOf Ref.plain r with
  | none =>
    have HS : Hid (Pro.pLine num (x :: r) = none) := by unfold Hid; rw [Pro.pLine, Ref.cState, h1, Ref.cParallel, h2, hn]; rfl
    go_enter Tryz.func176, Tryz.ntmps176
    go_wp2_with fail
    refine (next_some p num dep x r _ H).mono ?_
    rintro e w1 ⟨rfl, ho, H1⟩
    have ht1 := ho.turned
    clear ho
    dsimp only
    go_wp2_with fail
    refine (state_no p num dep 1 r _ H1 (hv.turned ht1) hn).mono ?_
    rintro e w2 hq
    obtain ⟨ht, b, h4, h5, rfl⟩ := hq
    dsimp only
    refine ⟨rfl, ?_⟩
    unfold LinePost
    rw [HS.out]
    exact ⟨ht1.trans ht, b, Nat.le_trans ht1.size h4, h5, rfl⟩
  | some q =>
    obtain ⟨n, r'⟩ := q
    have HS : Hid (Pro.pLine num (x :: r) = some (.state 1 n, r')) := by unfold Hid; rw [Pro.pLine, Ref.cState, h1, Ref.cParallel, h2, hn]; rfl
    go_enter Tryz.func176, Tryz.ntmps176
    go_wp2_with fail
    refine (next_some p num dep x r _ H).mono ?_
    rintro e w1 ⟨rfl, ho, H1⟩
    have ht1 := ho.turned
    clear ho
    dsimp only
    go_wp2_with fail
    refine (state_yes p num dep 1 r r' n _ H1 (hv.turned ht1) hn).mono ?_
    rintro e w2 ⟨rfl, ht2, H2⟩
    dsimp only
    go_wp2
    go_ret
    unfold LinePost
    rw [HS.out]
    exact ⟨_, rfl, rfl, ht1.trans ht2, H2⟩

set_option maxHeartbeats 1600000 in
theorem line_final (p num : Nat) (dep : Int) (x : ByteArray) (r : List ByteArray) (w : World) (H : WordsAt w p num dep (x :: r)) (hv : EnvAt p w) (h1 : (x.toList == [115, 116, 97, 116, 101]) = false) (h2 : (x.toList == [112, 97, 114, 97, 108, 108, 101, 108]) = false) (h3 : (x.toList == [102, 105, 110, 97, 108]) = true) :
    Calls Tryz.prog 176 #[.pointer (some ⟨p, 0, none⟩)] w (LinePost p num dep (x :: r) w) := by
  cases hn : Pro.pOf Ref.plain r with
  | none =>
    have HS : Hid (Pro.pLine num (x :: r) = none) := by unfold Hid; rw [Pro.pLine, Ref.cState, h1, Ref.cParallel, h2, Ref.cFinal, h3, hn]; rfl
    go_enter Tryz.func176, Tryz.ntmps176
    go_wp2_with fail
    refine (next_some p num dep x r _ H).mono ?_
    rintro e w1 ⟨rfl, ho, H1⟩
    have ht1 := ho.turned
    clear ho
    dsimp only
    go_wp2_with fail
    refine (state_no p num dep 2 r _ H1 (hv.turned ht1) hn).mono ?_
    rintro e w2 hq
    obtain ⟨ht, b, h4, h5, rfl⟩ := hq
    dsimp only
    refine ⟨rfl, ?_⟩
    unfold LinePost
    rw [HS.out]
    exact ⟨ht1.trans ht, b, Nat.le_trans ht1.size h4, h5, rfl⟩
  | some q =>
    obtain ⟨n, r'⟩ := q
    have HS : Hid (Pro.pLine num (x :: r) = some (.state 2 n, r')) := by unfold Hid; rw [Pro.pLine, Ref.cState, h1, Ref.cParallel, h2, Ref.cFinal, h3, hn]; rfl
    go_enter Tryz.func176, Tryz.ntmps176
    go_wp2_with fail
    refine (next_some p num dep x r _ H).mono ?_
    rintro e w1 ⟨rfl, ho, H1⟩
    have ht1 := ho.turned
    clear ho
    dsimp only
    go_wp2_with fail
    refine (state_yes p num dep 2 r r' n _ H1 (hv.turned ht1) hn).mono ?_
    rintro e w2 ⟨rfl, ht2, H2⟩
    dsimp only
    go_wp2
    go_ret
    unfold LinePost
    rw [HS.out]
    exact ⟨_, rfl, rfl, ht1.trans ht2, H2⟩

set_option maxHeartbeats 1600000 in
theorem line_history (p num : Nat) (dep : Int) (x : ByteArray) (r : List ByteArray) (w : World) (H : WordsAt w p num dep (x :: r)) (hv : EnvAt p w) (h1 : (x.toList == [115, 116, 97, 116, 101]) = false) (h2 : (x.toList == [112, 97, 114, 97, 108, 108, 101, 108]) = false) (h3 : (x.toList == [102, 105, 110, 97, 108]) = false) (h4 : (x.toList == [104, 105, 115, 116, 111, 114, 121]) = true) :
    Calls Tryz.prog 176 #[.pointer (some ⟨p, 0, none⟩)] w (LinePost p num dep (x :: r) w) := by
  cases hn : Pro.pHistory r with
  | none =>
    have HS : Hid (Pro.pLine num (x :: r) = none) := by unfold Hid; rw [Pro.pLine, Ref.cState, h1, Ref.cParallel, h2, Ref.cFinal, h3, Ref.cHistory, h4, hn]; rfl
    go_enter Tryz.func176, Tryz.ntmps176
    go_wp2_with fail
    refine (next_some p num dep x r _ H).mono ?_
    rintro e w1 ⟨rfl, ho, H1⟩
    have ht1 := ho.turned
    clear ho
    dsimp only
    go_wp2_with fail
    refine (history_any p num dep r _ H1 (hv.turned ht1)).mono ?_
    rintro e w2 hq
    rw [hn] at hq
    obtain ⟨ht, b, h4, h5, rfl⟩ := hq
    dsimp only
    refine ⟨rfl, ?_⟩
    unfold LinePost
    rw [HS.out]
    exact ⟨ht1.trans ht, b, Nat.le_trans ht1.size h4, h5, rfl⟩
  | some q =>
    obtain ⟨⟨n, kk⟩, r'⟩ := q
    have HS : Hid (Pro.pLine num (x :: r) = some (.state kk n, r')) := by unfold Hid; rw [Pro.pLine, Ref.cState, h1, Ref.cParallel, h2, Ref.cFinal, h3, Ref.cHistory, h4, hn]; rfl
    go_enter Tryz.func176, Tryz.ntmps176
    go_wp2_with fail
    refine (next_some p num dep x r _ H).mono ?_
    rintro e w1 ⟨rfl, ho, H1⟩
    have ht1 := ho.turned
    clear ho
    dsimp only
    go_wp2_with fail
    refine (history_any p num dep r _ H1 (hv.turned ht1)).mono ?_
    rintro e w2 hq
    rw [hn] at hq
    obtain ⟨rfl, ht2, H2⟩ := hq
    clear hn
    dsimp only
    go_wp2
    go_ret
    unfold LinePost
    rw [HS.out]
    exact ⟨_, rfl, rfl, ht1.trans ht2, H2⟩

set_option maxHeartbeats 1600000 in
theorem line_enter (p num : Nat) (dep : Int) (x : ByteArray) (r : List ByteArray) (w : World) (H : WordsAt w p num dep (x :: r)) (hv : EnvAt p w) (h1 : (x.toList == [115, 116, 97, 116, 101]) = false) (h2 : (x.toList == [112, 97, 114, 97, 108, 108, 101, 108]) = false) (h3 : (x.toList == [102, 105, 110, 97, 108]) = false) (h4 : (x.toList == [104, 105, 115, 116, 111, 114, 121]) = false) (h5 : (x.toList == [111, 110]) = false) (h6 : (x.toList == [97, 102, 116, 101, 114]) = false) (h7 : (x.toList == [101, 110, 116, 101, 114]) = true) :
    Calls Tryz.prog 176 #[.pointer (some ⟨p, 0, none⟩)] w (LinePost p num dep (x :: r) w) := by
  cases hn : Pro.pDoings r with
  | none =>
    have HS : Hid (Pro.pLine num (x :: r) = none) := by unfold Hid; rw [Pro.pLine, Ref.cState, h1, Ref.cParallel, h2, Ref.cFinal, h3, Ref.cHistory, h4, Ref.cOn, h5, Ref.cAfter, h6, Ref.cEnter, h7, hn]; rfl
    go_enter Tryz.func176, Tryz.ntmps176
    go_wp2_with fail
    refine (next_some p num dep x r _ H).mono ?_
    rintro e w1 ⟨rfl, ho, H1⟩
    have ht1 := ho.turned
    clear ho
    dsimp only
    go_wp2_with fail
    refine (doings_any p num dep r _ H1 (hv.turned ht1)).mono ?_
    rintro e w2 hq
    unfold DoingsPost at hq
    rw [hn] at hq
    obtain ⟨ht, b, h4, h5, rfl⟩ := hq
    dsimp only
    refine ⟨rfl, ?_⟩
    unfold LinePost
    rw [HS.out]
    exact ⟨ht1.trans ht, b, Nat.le_trans ht1.size h4, h5, rfl⟩
  | some q =>
    obtain ⟨A, r'⟩ := q
    have HS : Hid (Pro.pLine num (x :: r) = some (.enter A, r')) := by unfold Hid; rw [Pro.pLine, Ref.cState, h1, Ref.cParallel, h2, Ref.cFinal, h3, Ref.cHistory, h4, Ref.cOn, h5, Ref.cAfter, h6, Ref.cEnter, h7, hn]; rfl
    go_enter Tryz.func176, Tryz.ntmps176
    go_wp2_with fail
    refine (next_some p num dep x r _ H).mono ?_
    rintro e w1 ⟨rfl, ho, H1⟩
    have ht1 := ho.turned
    clear ho
    dsimp only
    go_wp2_with fail
    refine (doings_any p num dep r _ H1 (hv.turned ht1)).mono ?_
    rintro e w2 hq
    unfold DoingsPost at hq
    rw [hn] at hq
    obtain ⟨a, n, c, rfl, hown, ht2, H2⟩ := hq
    have hown' := own_mono hown ht1.size
    clear hn hown
    dsimp only
    go_wp2
    go_ret
    unfold LinePost
    rw [HS.out]
    exact ⟨_, rfl, ⟨a, n, c, rfl, hown'⟩, ht1.trans ht2, H2⟩

set_option maxHeartbeats 1600000 in
theorem line_leave (p num : Nat) (dep : Int) (x : ByteArray) (r : List ByteArray) (w : World) (H : WordsAt w p num dep (x :: r)) (hv : EnvAt p w) (h1 : (x.toList == [115, 116, 97, 116, 101]) = false) (h2 : (x.toList == [112, 97, 114, 97, 108, 108, 101, 108]) = false) (h3 : (x.toList == [102, 105, 110, 97, 108]) = false) (h4 : (x.toList == [104, 105, 115, 116, 111, 114, 121]) = false) (h5 : (x.toList == [111, 110]) = false) (h6 : (x.toList == [97, 102, 116, 101, 114]) = false) (h7 : (x.toList == [101, 110, 116, 101, 114]) = false) (h8 : (x.toList == [108, 101, 97, 118, 101]) = true) :
    Calls Tryz.prog 176 #[.pointer (some ⟨p, 0, none⟩)] w (LinePost p num dep (x :: r) w) := by
  cases hn : Pro.pDoings r with
  | none =>
    have HS : Hid (Pro.pLine num (x :: r) = none) := by unfold Hid; rw [Pro.pLine, Ref.cState, h1, Ref.cParallel, h2, Ref.cFinal, h3, Ref.cHistory, h4, Ref.cOn, h5, Ref.cAfter, h6, Ref.cEnter, h7, Ref.cLeave, h8, hn]; rfl
    go_enter Tryz.func176, Tryz.ntmps176
    go_wp2_with fail
    refine (next_some p num dep x r _ H).mono ?_
    rintro e w1 ⟨rfl, ho, H1⟩
    have ht1 := ho.turned
    clear ho
    dsimp only
    go_wp2_with fail
    refine (doings_any p num dep r _ H1 (hv.turned ht1)).mono ?_
    rintro e w2 hq
    unfold DoingsPost at hq
    rw [hn] at hq
    obtain ⟨ht, b, h4, h5, rfl⟩ := hq
    dsimp only
    refine ⟨rfl, ?_⟩
    unfold LinePost
    rw [HS.out]
    exact ⟨ht1.trans ht, b, Nat.le_trans ht1.size h4, h5, rfl⟩
  | some q =>
    obtain ⟨A, r'⟩ := q
    have HS : Hid (Pro.pLine num (x :: r) = some (.leave A, r')) := by unfold Hid; rw [Pro.pLine, Ref.cState, h1, Ref.cParallel, h2, Ref.cFinal, h3, Ref.cHistory, h4, Ref.cOn, h5, Ref.cAfter, h6, Ref.cEnter, h7, Ref.cLeave, h8, hn]; rfl
    go_enter Tryz.func176, Tryz.ntmps176
    go_wp2_with fail
    refine (next_some p num dep x r _ H).mono ?_
    rintro e w1 ⟨rfl, ho, H1⟩
    have ht1 := ho.turned
    clear ho
    dsimp only
    go_wp2_with fail
    refine (doings_any p num dep r _ H1 (hv.turned ht1)).mono ?_
    rintro e w2 hq
    unfold DoingsPost at hq
    rw [hn] at hq
    obtain ⟨a, n, c, rfl, hown, ht2, H2⟩ := hq
    have hown' := own_mono hown ht1.size
    clear hn hown
    dsimp only
    go_wp2
    go_ret
    unfold LinePost
    rw [HS.out]
    exact ⟨_, rfl, ⟨a, n, c, rfl, hown'⟩, ht1.trans ht2, H2⟩

set_option maxHeartbeats 1600000 in
theorem line_on (p num : Nat) (dep : Int) (x : ByteArray) (r : List ByteArray) (w : World) (H : WordsAt w p num dep (x :: r)) (hv : EnvAt p w) (h1 : (x.toList == [115, 116, 97, 116, 101]) = false) (h2 : (x.toList == [112, 97, 114, 97, 108, 108, 101, 108]) = false) (h3 : (x.toList == [102, 105, 110, 97, 108]) = false) (h4 : (x.toList == [104, 105, 115, 116, 111, 114, 121]) = false) (h5 : (x.toList == [111, 110]) = true) :
    Calls Tryz.prog 176 #[.pointer (some ⟨p, 0, none⟩)] w (LinePost p num dep (x :: r) w) := by
  cases he : Pro.pOf Ref.awaited r with
  | none =>
    have HS : Hid (Pro.pLine num (x :: r) = none) := by unfold Hid; rw [Pro.pLine, Ref.cState, h1, Ref.cParallel, h2, Ref.cFinal, h3, Ref.cHistory, h4, Ref.cOn, h5, he]; rfl
    go_enter Tryz.func176, Tryz.ntmps176
    go_wp2_with fail
    refine (next_some p num dep x r _ H).mono ?_
    rintro e w1 ⟨rfl, ho, H1⟩
    have ht1 := ho.turned
    clear ho
    dsimp only
    go_wp2_with fail
    refine (nextOf_awaited_any p num dep r _ H1 (hv.turned ht1)).mono ?_
    rintro e w2 hq
    rw [he] at hq
    obtain ⟨ht, b, h4, h5, rfl⟩ := hq
    dsimp only
    refine ⟨rfl, ?_⟩
    unfold LinePost
    rw [HS.out]
    exact ⟨ht1.trans ht, b, Nat.le_trans ht1.size h4, h5, rfl⟩
  | some q =>
    obtain ⟨ev, r1⟩ := q
    cases hn : Pro.pMove r1 with
    | none =>
      have HS : Hid (Pro.pLine num (x :: r) = none) := by unfold Hid; rw [Pro.pLine, Ref.cState, h1, Ref.cParallel, h2, Ref.cFinal, h3, Ref.cHistory, h4, Ref.cOn, h5, he]; simp only; rw [hn]; rfl
      go_enter Tryz.func176, Tryz.ntmps176
      go_wp2_with fail
      refine (next_some p num dep x r _ H).mono ?_
      rintro e w1 ⟨rfl, ho, H1⟩
      have ht1 := ho.turned
      clear ho
      dsimp only
      go_wp2_with fail
      refine (nextOf_awaited_any p num dep r _ H1 (hv.turned ht1)).mono ?_
      rintro e w3 h3
      rw [he] at h3
      obtain ⟨rfl, ht3, H3⟩ := h3
      have ht4 := ht1.trans ht3
      clear he H1 ht3
      dsimp only
      go_wp2_with fail
      refine (move_any p num dep ev false 0 r1 _ H3 (hv.turned ht4)).mono ?_
      rintro e w2 hq
      unfold MovePost at hq
      rw [hn] at hq
      obtain ⟨ht, b, h4, h5, rfl⟩ := hq
      dsimp only
      refine ⟨rfl, ?_⟩
      unfold LinePost
      rw [HS.out]
      exact ⟨ht4.trans ht, b, Nat.le_trans ht4.size h4, h5, rfl⟩
    | some q =>
      obtain ⟨⟨t, A⟩, r'⟩ := q
      have HS : Hid (Pro.pLine num (x :: r) = some (.move ev false 0 t A, r')) := by unfold Hid; rw [Pro.pLine, Ref.cState, h1, Ref.cParallel, h2, Ref.cFinal, h3, Ref.cHistory, h4, Ref.cOn, h5, he]; simp only; rw [hn]; rfl
      go_enter Tryz.func176, Tryz.ntmps176
      go_wp2_with fail
      refine (next_some p num dep x r _ H).mono ?_
      rintro e w1 ⟨rfl, ho, H1⟩
      have ht1 := ho.turned
      clear ho
      dsimp only
      go_wp2_with fail
      refine (nextOf_awaited_any p num dep r _ H1 (hv.turned ht1)).mono ?_
      rintro e w3 h3
      rw [he] at h3
      obtain ⟨rfl, ht3, H3⟩ := h3
      have ht4 := ht1.trans ht3
      clear he H1 ht3
      dsimp only
      go_wp2_with fail
      refine (move_any p num dep ev false 0 r1 _ H3 (hv.turned ht4)).mono ?_
      rintro e w2 hq
      unfold MovePost at hq
      rw [hn] at hq
      obtain ⟨a, n, c, rfl, hown, ht2, H2⟩ := hq
      have hown' := own_mono hown ht4.size
      clear hn hown
      dsimp only
      go_wp2
      go_ret
      unfold LinePost
      rw [HS.out]
      exact ⟨_, rfl, ⟨a, n, c, rfl, hown'⟩, ht4.trans ht2, H2⟩
end Go.Proofs.YtegmoddppafkfaaGreatDoor
