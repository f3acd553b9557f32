/-
  MY OWN TEXT.
-/
import Derived.Test.YtegmoddppafkfaaGreatDoorM02
import Derived.Test.YtegmoddppafkfaaGreatDoorM03
import Derived.StillTailTactics
namespace Go.Proofs.YtegmoddppafkfaaGreatDoor
open Go.RowKit

namespace Ref
structure Move where
  event : ByteArray
  to : ByteArray
  after : Bool
  delay : Int
  acts : List Act
  line : Int
structure State where
  word : ByteArray
  name : ByteArray
  deep : Bool
  up : Int
  depth : Int
  line : Int
  moves : List Move
  enter : List Act
  leave : List Act
  has0 : Int
  has1 : Int
structure Line where
  kind : Int
  word : ByteArray
  name : ByteArray
  deep : Bool
  sline : Int
  m : Move
  acts : List Act
theorem own_slice {w : World} {base size n : Nat} {e : TypeId} {v : Value} {xs : List Value} (h : w.ownsRow base e size v n xs) : ∃ a k c, v = .slice a k c := by
  rcases h.2 with ⟨h0, _⟩ | ⟨g, cap, cur, hv, _⟩
  · exact ⟨_, _, _, h0⟩
  · exact ⟨_, _, _, hv⟩
def cTo : List UInt8 := [116, 111]
def moved (l : List ByteArray) : Option (ByteArray × List Act) :=
  if decide (0 < l.length) && ((at' l 0).toList == cTo) then
    if l.length < 2 then none
    else if plain (at' l 1) then (acts (l.drop 2)).map (at' l 1, ·) else none
  else (acts l).map (ByteArray.empty, ·)
def moveCells (ev to : ByteArray) (af : Bool) (d : Int) (v : Value) (ln : Int) : Array Value := #[.string ev, .string to, .bool af, .int .u64 d, v, .int .i64 ln]
end Ref
theorem mv_to {w : World} {mb : Nat} {ev to : ByteArray} {af : Bool} {d ln : Int} {v : Value} {T : TypeId} (hm : w.heap[mb]? = some (.cells (Ref.moveCells ev to af d v ln) T (0, 0))) (x : ByteArray) :
    (w.setCell ⟨mb, 1, none⟩ (.string x)).heap[mb]? = some (.cells (Ref.moveCells ev x af d v ln) T (0, 0)) := by
  rw [heap_setCell_same w mb 1 _ T _ hm]; rfl
theorem mv_do {w : World} {mb : Nat} {ev to : ByteArray} {af : Bool} {d ln : Int} {v : Value} {T : TypeId} (hm : w.heap[mb]? = some (.cells (Ref.moveCells ev to af d v ln) T (0, 0))) (x : Value) :
    (w.setCell ⟨mb, 4, none⟩ x).heap[mb]? = some (.cells (Ref.moveCells ev to af d x ln) T (0, 0)) := by
  rw [heap_setCell_same w mb 4 _ T _ hm]; rfl
theorem mv_k4 {w : World} {mb : Nat} {ev to : ByteArray} {af : Bool} {d ln : Int} {v : Value} {T : TypeId} (hm : w.heap[mb]? = some (.cells (Ref.moveCells ev to af d v ln) T (0, 0))) :
    w.cell? ⟨mb, 4, none⟩ = some v ∧ w.frozen? ⟨mb, 4, none⟩ = false := by
  constructor
  · simp [World.cell?, hm, Ref.moveCells]
  · simp [World.frozen?, hm]

set_option maxHeartbeats 1600000 in
set_option maxRecDepth 100000 in
theorem moved_any (mb : Nat) (ev : ByteArray) (af : Bool) (d ln : Int) (ao : Option Addr) (b off cap : Nat) (l : List ByteArray) (w : World)
    (hm : w.heap[mb]? = some (.cells (Ref.moveCells ev ByteArray.empty af d (.slice none 0 0) ln) 120 (0, 0))) (hmb : b < mb)
    (hao : 0 < l.length → ao = some ⟨b, off, none⟩) (hc : Strs w b off l) (hsz : ∀ x ∈ l, x.size ≤ 1073741824) (hlen : l.length ≤ 1073741824) (hcap : l.length ≤ cap) :
    Calls Tryz.prog 80 #[.pointer (some ⟨mb, 0, none⟩), .slice ao l.length cap] w fun e w' => Below mb w w' ∧
      ((Ref.moved l = none ∧ e = .returned (.bool false)) ∨
       ∃ to A v, Ref.moved l = some (to, A) ∧ e = .returned (.bool true) ∧ w'.heap[mb]? = some (.cells (Ref.moveCells ev to af d v ln) 120 (0, 0)) ∧ w'.ownsRow w.heap.size 122 4 v A.length (A.flatMap Ref.actCells)) := by
  have hmlt : mb < w.heap.size := by
    rcases Nat.lt_or_ge mb w.heap.size with h | h
    · exact h
    · rw [Array.getElem?_eq_none h] at hm; cases hm
  have k0 : w.cell? ⟨mb, 0, none⟩ = some (.string ev) := by simp [World.cell?, hm, Ref.moveCells]
  have k1 : w.cell? ⟨mb, 1, none⟩ = some (.string ByteArray.empty) := by simp [World.cell?, hm, Ref.moveCells]
  have k4 : w.cell? ⟨mb, 4, none⟩ = some (.slice none 0 0) := by simp [World.cell?, hm, Ref.moveCells]
  have f1 : w.frozen? ⟨mb, 1, none⟩ = false := by simp [World.frozen?, hm]
  have f4 : w.frozen? ⟨mb, 4, none⟩ = false := by simp [World.frozen?, hm]
  have hlt : b < w.heap.size := by omega
  by_cases hto : 0 < l.length ∧ ((Ref.at' l 0).toList == [116, 111]) = true
  · obtain ⟨h1, h2⟩ := hto
    obtain rfl := hao h1
    have c0 := hc 0 h1
    rw [Nat.add_zero] at c0
    by_cases h3 : l.length < 2
    · have HN : Hid (Ref.moved l = none) := by simp only [Hid, Ref.moved, Ref.cTo, decide_eq_true h1, h2, Bool.true_and, if_true, if_pos h3]
      go_enter Tryz.func80, Tryz.ntmps80
      go_wp2
      go_ret
      exact ⟨Below.refl _ _, .inl ⟨HN.out, rfl⟩⟩
    · have c1 := hc 1 (by omega)
      have s1 := Ref.at'_size hsz 1
      cases hp : Ref.plain (Ref.at' l 1)
      · have HN : Hid (Ref.moved l = none) := by simp only [Hid, Ref.moved, Ref.cTo, decide_eq_true h1, h2, Bool.true_and, if_true, if_neg h3, hp, Bool.false_eq_true, if_false]
        have HP : Hid _ := hp
        clear hp
        go_enter Tryz.func80, Tryz.ntmps80
        go_wp2_with (go_at_call 78; refine (plain_any _ _ (by unfold maxLen; omega)).mono ?_; rintro e w' ⟨rfl, rfl⟩; rw [HP.out])
        go_ret
        exact ⟨Below.refl _ _, .inl ⟨HN.out, rfl⟩⟩
      · have HM : Hid (Ref.moved l = (Ref.acts (l.drop 2)).map (Ref.at' l 1, ·)) := by simp only [Hid, Ref.moved, Ref.cTo, decide_eq_true h1, h2, Bool.true_and, if_true, if_neg h3, hp]
        have HP : Hid _ := hp
        clear hp
        go_enter Tryz.func80, Tryz.ntmps80
        go_wp2_with (go_at_call 78; refine (plain_any _ _ (by unfold maxLen; omega)).mono ?_; rintro e w' ⟨rfl, rfl⟩; rw [HP.out])
        all_goals
          rw [show l.length - 2 = (l.drop 2).length from by simp]
          have hcs : Strs (w'.setCell ⟨mb, 1, none⟩ (.string (Ref.at' l 1))) b (off + 2) (l.drop 2) := fun i hi => by
            rw [World.cell?_of_block (Below.heap_setCell _ _ _ _ (by simp; omega))]
            exact hc.drop 2 i hi
          refine (acts_any _ b (off + 2) _ (l.drop 2) _ (fun h => by first | rfl | (exfalso; simp at h; omega)) (by simp; omega) hcs (fun x hx => hsz x (List.mem_of_mem_drop hx)) (by simp; omega) (by simp; omega)).mono ?_
          rintro e w2 ⟨hb2, hR⟩
          have hm2 : w2.heap[mb]? = some (.cells (Ref.moveCells ev (Ref.at' l 1) af d (.slice none 0 0) ln) 120 (0, 0)) := by rw [hb2.block mb (by simp; omega)]; exact mv_to hm _
          obtain ⟨k4', f4'⟩ := mv_k4 hm2
          have hb3 := hb2.mono (show mb ≤ _ by simp; omega)
          rcases hR with ⟨hN, rfl⟩ | ⟨A, v, hA, rfl, hown⟩
          · have HN : Hid (Ref.moved l = none) := by unfold Hid; rw [HM.out, hN]; rfl
            clear hm k0 k1 k4 f1 f4 hN hc
            go_wp2
            go_ret
            exact ⟨((((Below.refl mb _).setCell (Nat.le_refl _) _).trans hb3).setCell (Nat.le_refl _) _), .inl ⟨HN.out, rfl⟩⟩
          · have HS : Hid (Ref.moved l = some ((Ref.at' l 1), A)) := by unfold Hid; rw [HM.out, hA]; rfl
            clear hm k0 k1 k4 f1 f4 hA hc
            obtain ⟨va, vn, vc, hv⟩ := Ref.own_slice hown
            subst hv
            go_wp2
            go_ret
            exact ⟨((((Below.refl mb _).setCell (Nat.le_refl _) _).trans hb3).setCell (Nat.le_refl _) _), .inr ⟨_, A, _, HS.out, rfl, mv_do hm2 _, ownsRow_setCell_below (by simpa using hown) (by simpa using hmlt) _⟩⟩
  · have HM : Hid (Ref.moved l = (Ref.acts l).map (ByteArray.empty, ·)) := by
      unfold Hid
      rw [Ref.moved, if_neg (by rw [Bool.and_eq_true, decide_eq_true_eq]; exact hto)]
    rcases Nat.eq_zero_or_pos l.length with h1 | h1
    · go_enter Tryz.func80, Tryz.ntmps80
      go_wp2_with fail
      have HACT := acts_any ao b off cap l w hao hlt hc hsz hlen hcap
      rw [h1] at HACT
      refine HACT.mono ?_
      clear HACT
      rintro e w2 ⟨hb2, hR⟩
      have hm2 : w2.heap[mb]? = some (.cells (Ref.moveCells ev ByteArray.empty af d (.slice none 0 0) ln) 120 (0, 0)) := by rw [hb2.block mb (by omega)]; exact hm
      obtain ⟨k4', f4'⟩ := mv_k4 hm2
      have hb3 := hb2.mono (show mb ≤ _ by omega)
      rcases hR with ⟨hN, rfl⟩ | ⟨A, v, hA, rfl, hown⟩
      · have HN : Hid (Ref.moved l = none) := by unfold Hid; rw [HM.out, hN]; rfl
        clear hm k0 k1 k4 f1 f4 hN hc
        go_wp2
        go_ret
        exact ⟨(hb3.setCell (Nat.le_refl _) _), .inl ⟨HN.out, rfl⟩⟩
      · have HS : Hid (Ref.moved l = some (ByteArray.empty, A)) := by unfold Hid; rw [HM.out, hA]; rfl
        clear hm k0 k1 k4 f1 f4 hA hc
        obtain ⟨va, vn, vc, hv⟩ := Ref.own_slice hown
        subst hv
        go_wp2
        go_ret
        exact ⟨(hb3.setCell (Nat.le_refl _) _), .inr ⟨_, A, _, HS.out, rfl, mv_do hm2 _, ownsRow_setCell_below hown (by exact hmlt) _⟩⟩
    · have h2 : ((Ref.at' l 0).toList == [116, 111]) = false := by
        cases h : ((Ref.at' l 0).toList == [116, 111]) with
        | false => rfl
        | true => exact absurd ⟨h1, h⟩ hto
      obtain rfl := hao h1
      have c0 := hc 0 h1
      rw [Nat.add_zero] at c0
      go_enter Tryz.func80, Tryz.ntmps80
      go_wp2_with fail
      refine (acts_any _ b off _ l _ (fun _ => rfl) hlt hc hsz hlen hcap).mono ?_
      rintro e w2 ⟨hb2, hR⟩
      have hm2 : w2.heap[mb]? = some (.cells (Ref.moveCells ev ByteArray.empty af d (.slice none 0 0) ln) 120 (0, 0)) := by rw [hb2.block mb (by omega)]; exact hm
      obtain ⟨k4', f4'⟩ := mv_k4 hm2
      have hb3 := hb2.mono (show mb ≤ _ by omega)
      rcases hR with ⟨hN, rfl⟩ | ⟨A, v, hA, rfl, hown⟩
      · have HN : Hid (Ref.moved l = none) := by unfold Hid; rw [HM.out, hN]; rfl
        clear hm k0 k1 k4 f1 f4 hN hc
        go_wp2
        go_ret
        exact ⟨(hb3.setCell (Nat.le_refl _) _), .inl ⟨HN.out, rfl⟩⟩
      · have HS : Hid (Ref.moved l = some (ByteArray.empty, A)) := by unfold Hid; rw [HM.out, hA]; rfl
        clear hm k0 k1 k4 f1 f4 hA hc
        obtain ⟨va, vn, vc, hv⟩ := Ref.own_slice hown
        subst hv
        go_wp2
        go_ret
        exact ⟨(hb3.setCell (Nat.le_refl _) _), .inr ⟨_, A, _, HS.out, rfl, mv_do hm2 _, ownsRow_setCell_below hown (by exact hmlt) _⟩⟩
end Go.Proofs.YtegmoddppafkfaaGreatDoor
namespace Go.Proofs.YtegmoddppafkfaaGreatDoor
open Go.RowKit
open Go.PlainAid (bt get_bt bt_nonneg bt_le bt_end)

namespace Ref
def noMove : Move := ⟨ByteArray.empty, ByteArray.empty, false, 0, [], 0⟩
def noLine : Line := ⟨0, ByteArray.empty, ByteArray.empty, false, 0, noMove, []⟩
def cState : List UInt8 := [115, 116, 97, 116, 101]
def cParallel : List UInt8 := [112, 97, 114, 97, 108, 108, 101, 108]
def cFinal : List UInt8 := [102, 105, 110, 97, 108]
def cHistory : List UInt8 := [104, 105, 115, 116, 111, 114, 121]
def cDeep : List UInt8 := [100, 101, 101, 112]
def cOn : List UInt8 := [111, 110]
def cAfter : List UInt8 := [97, 102, 116, 101, 114]
def cEnter : List UInt8 := [101, 110, 116, 101, 114]
def cLeave : List UInt8 := [108, 101, 97, 118, 101]
def is (l : List ByteArray) (i : Nat) (c : List UInt8) : Bool := (at' l i).toList == c
def deepW (l : List ByteArray) : Bool := decide (l.length = 3) && is l 2 cDeep
def said (l : List ByteArray) (ln : Nat) : Line :=
  if l.length < 2 then noLine
  else if is l 0 cState || (is l 0 cParallel || is l 0 cFinal) then
    if decide (l.length = 2) && plain (at' l 1) then ⟨115, at' l 0, at' l 1, false, ln, noMove, []⟩ else noLine
  else if is l 0 cHistory then
    if plain (at' l 1) && (decide (l.length = 2) || deepW l) then ⟨115, at' l 0, at' l 1, deepW l, ln, noMove, []⟩ else noLine
  else if is l 0 cOn then
    match moved (l.drop 2) with
    | none => noLine
    | some (to, A) => if awaited (at' l 1) then ⟨109, ByteArray.empty, ByteArray.empty, false, 0, ⟨at' l 1, to, false, 0, A, ln⟩, []⟩ else noLine
  else if is l 0 cAfter then
    match moved (l.drop 2) with
    | none => noLine
    | some (to, A) => if digOk (at' l 1) then ⟨109, ByteArray.empty, ByteArray.empty, false, 0, ⟨kAfter ++ dec ln, to, true, digVal (at' l 1), A, ln⟩, []⟩ else noLine
  else if is l 0 cEnter || is l 0 cLeave then
    match acts (l.drop 1) with
    | none => noLine
    | some A => ⟨bt (at' l 0) 0, ByteArray.empty, ByteArray.empty, false, 0, noMove, A⟩
  else noLine
def lineCells (L : Line) (vm vd : Value) : List Value :=
  [.int .u8 L.kind, .string L.word, .string L.name, .bool L.deep, .int .i64 0, .int .i64 0, .int .i64 L.sline, .slice none 0 0, .slice none 0 0, .slice none 0 0, .int .i64 0, .int .i64 0,
   .string L.m.event, .string L.m.to, .bool L.m.after, .int .u64 L.m.delay, vm, .int .i64 L.m.line, vd]
theorem said_eq_state {l : List ByteArray} {ln : Nat} (h2 : ¬ l.length < 2) (h : (is l 0 cState || (is l 0 cParallel || is l 0 cFinal)) = true) :
    said l ln = if decide (l.length = 2) && plain (at' l 1) then ⟨115, at' l 0, at' l 1, false, ln, noMove, []⟩ else noLine := by
  rw [said, if_neg h2, if_pos h]
theorem notTrue {b : Bool} (h : b = false) : ¬ b = true := by rw [h]; exact Bool.false_ne_true
theorem or3 {a b c : Bool} (ha : a = false) (hb : b = false) (hc : c = false) : (a || (b || c)) = false := by rw [ha, hb, hc]; rfl
theorem said_eq_hist {l : List ByteArray} {ln : Nat} (h2 : ¬ l.length < 2) (h : (is l 0 cState || (is l 0 cParallel || is l 0 cFinal)) = false) (hH : is l 0 cHistory = true) :
    said l ln = if plain (at' l 1) && (decide (l.length = 2) || deepW l) then ⟨115, at' l 0, at' l 1, deepW l, ln, noMove, []⟩ else noLine := by
  rw [said, if_neg h2, if_neg (notTrue h), if_pos hH]
theorem said_eq_on {l : List ByteArray} {ln : Nat} (h2 : ¬ l.length < 2) (h : (is l 0 cState || (is l 0 cParallel || is l 0 cFinal)) = false) (hH : is l 0 cHistory = false) (hO : is l 0 cOn = true) :
    said l ln = match moved (l.drop 2) with
    | none => noLine
    | some (to, A) => if awaited (at' l 1) then ⟨109, ByteArray.empty, ByteArray.empty, false, 0, ⟨at' l 1, to, false, 0, A, ln⟩, []⟩ else noLine := by
  rw [said, if_neg h2, if_neg (notTrue h), if_neg (notTrue hH), if_pos hO]
theorem said_eq_after {l : List ByteArray} {ln : Nat} (h2 : ¬ l.length < 2) (h : (is l 0 cState || (is l 0 cParallel || is l 0 cFinal)) = false) (hH : is l 0 cHistory = false) (hO : is l 0 cOn = false) (hA : is l 0 cAfter = true) :
    said l ln = match moved (l.drop 2) with
    | none => noLine
    | some (to, A) => if digOk (at' l 1) then ⟨109, ByteArray.empty, ByteArray.empty, false, 0, ⟨kAfter ++ dec ln, to, true, digVal (at' l 1), A, ln⟩, []⟩ else noLine := by
  rw [said, if_neg h2, if_neg (notTrue h), if_neg (notTrue hH), if_neg (notTrue hO), if_pos hA]
theorem said_eq_do {l : List ByteArray} {ln : Nat} (h2 : ¬ l.length < 2) (h : (is l 0 cState || (is l 0 cParallel || is l 0 cFinal)) = false) (hH : is l 0 cHistory = false) (hO : is l 0 cOn = false) (hA : is l 0 cAfter = false) (hE : (is l 0 cEnter || is l 0 cLeave) = true) :
    said l ln = match acts (l.drop 1) with
    | none => noLine
    | some A => ⟨bt (at' l 0) 0, ByteArray.empty, ByteArray.empty, false, 0, noMove, A⟩ := by
  rw [said, if_neg h2, if_neg (notTrue h), if_neg (notTrue hH), if_neg (notTrue hO), if_neg (notTrue hA), if_pos hE]
theorem said_eq_else {l : List ByteArray} {ln : Nat} (h2 : ¬ l.length < 2) (h : (is l 0 cState || (is l 0 cParallel || is l 0 cFinal)) = false) (hH : is l 0 cHistory = false) (hO : is l 0 cOn = false) (hA : is l 0 cAfter = false) (hE : (is l 0 cEnter || is l 0 cLeave) = false) :
    said l ln = noLine := by
  rw [said, if_neg h2, if_neg (notTrue h), if_neg (notTrue hH), if_neg (notTrue hO), if_neg (notTrue hA), if_neg (notTrue hE)]
end Ref

theorem Tryz.sizeLine : (Tryz.prog.info? 127).map (·.size) = some 19 := by kernel_rfl
theorem Tryz.sizeMove : (Tryz.prog.info? 120).map (·.size) = some 6 := by kernel_rfl
theorem Tryz.resSaid : Tryz.f56.results = #[.cell 4 127] := by kernel_rfl

/-- The words of a line, as said and its callees are handed them. -/
structure Words (w : World) (b off cap : Nat) (l : List ByteArray) : Prop where
  pos : 0 < l.length
  lt : b < w.heap.size
  strs : Strs w b off l
  sizes : ∀ x ∈ l, x.size ≤ 1073741824
  len : l.length ≤ 1073741824
  cap : l.length ≤ cap
def SaidPost (l : List ByteArray) (ln : Nat) (w : World) (e : Ending) (w' : World) : Prop := Below w.heap.size w w' ∧
  ∃ vm vd, e = .returned (.agg (Ref.lineCells (Ref.said l ln) vm vd).toArray) ∧ w'.ownsRow w.heap.size 122 4 vm (Ref.said l ln).m.acts.length ((Ref.said l ln).m.acts.flatMap Ref.actCells) ∧ w'.ownsRow w.heap.size 122 4 vd (Ref.said l ln).acts.length ((Ref.said l ln).acts.flatMap Ref.actCells)
theorem said_plain {l : List ByteArray} {ln : Nat} {w w' : World} {L : Ref.Line} (h : Hid (Ref.said l ln = L)) (hm : L.m.acts = []) (hd : L.acts = []) (hb : Below w.heap.size w w') :
    SaidPost l ln w (.returned (.agg (Ref.lineCells L (.slice none 0 0) (.slice none 0 0)).toArray)) w' := by
  have e := h.out
  unfold SaidPost
  rw [e, hm, hd]
  exact ⟨hb, _, _, rfl, World.ownsRow_nil _ _ _ _, World.ownsRow_nil _ _ _ _⟩
theorem said_none {l : List ByteArray} {ln : Nat} {w w' : World} (h : Hid (Ref.said l ln = Ref.noLine)) (hb : Below w.heap.size w w') :
    SaidPost l ln w (.returned (.agg (Ref.lineCells Ref.noLine (.slice none 0 0) (.slice none 0 0)).toArray)) w' := by
  have e := h.out
  unfold SaidPost
  rw [e]
  exact ⟨hb, _, _, rfl, World.ownsRow_nil _ _ _ _, World.ownsRow_nil _ _ _ _⟩

set_option maxHeartbeats 1600000 in
set_option maxRecDepth 100000 in
theorem said_short (b off cap : Nat) (l : List ByteArray) (ln : Nat) (w : World) (_H : Words w b off cap l) (h2 : l.length < 2) :
    Calls Tryz.prog 56 #[.slice (some ⟨b, off, none⟩) l.length cap, .int .i64 ln] w (SaidPost l ln w) := by
  have HS : Hid (Ref.said l ln = Ref.noLine) := by simp only [Hid, Ref.said, if_pos h2]
  go_enter Tryz.func56, Tryz.ntmps56
  go_wp2_with (first
    | (refine wpList_store_same rfl 127 (.tmp 5) (.tmp 18) rfl _ 127 _ rfl rfl (heap_last2 _ _ _) Tryz.sizeLine rfl ?_)
    | (refine wpList_load_all rfl 127 (.tmp 5) rfl _ 127 _ (0, 0) _ rfl (heap_last2 _ _ _) Tryz.underlying127 rfl Tryz.sizeLine ?_)
    | (refine wpList_store_same rfl 127 (.tmp 4) (.tmp 22) rfl _ 127 _ rfl rfl (heap_prev _ _ _) Tryz.sizeLine rfl ?_))
  exact ret_cell Tryz.resSaid _ 127 _ (0, 0) _ rfl (heap_prev _ _ _) Tryz.underlying127 rfl Tryz.sizeLine rfl (said_none HS (((Below.refl _ _).alloc (Nat.le_refl _) _).alloc (by simp) _))


set_option maxHeartbeats 1600000 in
set_option maxRecDepth 100000 in
theorem said_state_yes (b off cap : Nat) (l : List ByteArray) (ln : Nat) (w : World) (H : Words w b off cap l) (h2 : ¬ l.length < 2) (hSt : ((Ref.at' l 0).toList == [115, 116, 97, 116, 101]) = true) (hl2 : l.length = 2) (hP : Ref.plain (Ref.at' l 1) = true) :
    Calls Tryz.prog 56 #[.slice (some ⟨b, off, none⟩) l.length cap, .int .i64 ln] w (SaidPost l ln w) := by
  have c0 := H.strs 0 H.pos
  have c1 := H.strs 1 (by omega)
  have s1 := Ref.at'_size H.sizes 1
  have hlt := H.lt
  rw [Nat.add_zero] at c0
  have HS : Hid (Ref.said l ln = ⟨115, Ref.at' l 0, Ref.at' l 1, false, ln, Ref.noMove, []⟩) := by unfold Hid; rw [Ref.said_eq_state h2 (by rw [show Ref.is l 0 Ref.cState = true from hSt]; rfl), hP, decide_eq_true hl2]; rfl
  have HP : Hid _ := hP
  clear hP
  go_enter Tryz.func56, Tryz.ntmps56
  go_wp2_with (first | (refine wpList_store_same rfl 127 (.tmp 5) (.tmp 18) rfl _ 127 _ rfl rfl (heap_last2 _ _ _) Tryz.sizeLine rfl ?_) | (go_at_call 78; refine (plain_any _ _ (by unfold maxLen; omega)).mono ?_; rintro e w1 ⟨rfl, hw1⟩; rw [HP.out]; obtain ⟨q0, q1, q2, q3⟩ := two_blocks hw1; clear hw1; rw [← q3.cell (p := ⟨b, off, none⟩) hlt] at c0; rw [← q3.cell (p := ⟨b, off + 1, none⟩) hlt] at c1))
  refine region_tail 9 (by kernel_rfl) (by kernel_rfl) ?_
  simp only [List.take_succ_cons, List.take_zero, List.drop_succ_cons, List.drop_zero]
  repeat still_step
  refine wpStill_nil ?_
  refine wpList_store_all rfl 127 (.tmp 4) (.tmp 48) rfl _ 127 _ _ rfl rfl (show w1.drew.heap[w.heap.size]? = _ from q1) Tryz.sizeLine rfl rfl ?_
  go_wp2
  exact ret_cell Tryz.resSaid _ 127 _ (0, 0) _ rfl (setRow_heap _ _ _ _ _ _ (show w1.drew.heap[w.heap.size]? = _ from q1)) Tryz.underlying127 rfl Tryz.sizeLine rfl (said_plain HS rfl rfl ((only_setRow _ _ _).below q3.drew (Nat.le_refl _)))

set_option maxHeartbeats 1600000 in
set_option maxRecDepth 100000 in
theorem said_state_no (b off cap : Nat) (l : List ByteArray) (ln : Nat) (w : World) (H : Words w b off cap l) (h2 : ¬ l.length < 2) (hSt : ((Ref.at' l 0).toList == [115, 116, 97, 116, 101]) = true) (hn : (decide (l.length = 2) && Ref.plain (Ref.at' l 1)) = false) :
    Calls Tryz.prog 56 #[.slice (some ⟨b, off, none⟩) l.length cap, .int .i64 ln] w (SaidPost l ln w) := by
  have c0 := H.strs 0 H.pos
  have c1 := H.strs 1 (by omega)
  have s1 := Ref.at'_size H.sizes 1
  have hlt := H.lt
  rw [Nat.add_zero] at c0
  have HS : Hid (Ref.said l ln = Ref.noLine) := by unfold Hid; rw [Ref.said_eq_state h2 (by rw [show Ref.is l 0 Ref.cState = true from hSt]; rfl), hn]; rfl
  by_cases hl2 : l.length = 2
  · rw [decide_eq_true hl2, Bool.true_and] at hn
    have HP : Hid _ := hn
    clear hn
    go_enter Tryz.func56, Tryz.ntmps56
    go_wp2_with (first | (refine wpList_store_same rfl 127 (.tmp 5) (.tmp 18) rfl _ 127 _ rfl rfl (heap_last2 _ _ _) Tryz.sizeLine rfl ?_) | (go_at_call 78; refine (plain_any _ _ (by unfold maxLen; omega)).mono ?_; rintro e w1 ⟨rfl, hw1⟩; rw [HP.out]; obtain ⟨q0, q1, q2, q3⟩ := two_blocks hw1; clear hw1; rw [← q3.cell (p := ⟨b, off, none⟩) hlt] at c0; rw [← q3.cell (p := ⟨b, off + 1, none⟩) hlt] at c1) | (refine wpList_load_all rfl 127 (.tmp 5) rfl _ 127 _ (0, 0) _ rfl q2 Tryz.underlying127 rfl Tryz.sizeLine ?_) | (refine wpList_store_same rfl 127 (.tmp 4) (.tmp 140) rfl _ 127 _ rfl rfl q1 Tryz.sizeLine rfl ?_))
    exact ret_cell Tryz.resSaid _ 127 _ (0, 0) _ rfl q1 Tryz.underlying127 rfl Tryz.sizeLine rfl (said_none HS q3)
  · clear hn
    go_enter Tryz.func56, Tryz.ntmps56
    go_wp2_with (first | (refine wpList_store_same rfl 127 (.tmp 5) (.tmp 18) rfl _ 127 _ rfl rfl (heap_last2 _ _ _) Tryz.sizeLine rfl ?_) | (go_at_call 78; refine (plain_any _ _ (by unfold maxLen; omega)).mono ?_; rintro e w1 ⟨rfl, hw1⟩; obtain ⟨q0, q1, q2, q3⟩ := two_blocks hw1; clear hw1; rw [← q3.cell (p := ⟨b, off, none⟩) hlt] at c0; rw [← q3.cell (p := ⟨b, off + 1, none⟩) hlt] at c1) | (refine wpList_load_all rfl 127 (.tmp 5) rfl _ 127 _ (0, 0) _ rfl q2 Tryz.underlying127 rfl Tryz.sizeLine ?_) | (refine wpList_store_same rfl 127 (.tmp 4) (.tmp 140) rfl _ 127 _ rfl rfl q1 Tryz.sizeLine rfl ?_))
    exact ret_cell Tryz.resSaid _ 127 _ (0, 0) _ rfl q1 Tryz.underlying127 rfl Tryz.sizeLine rfl (said_none HS q3)

set_option maxHeartbeats 1600000 in
set_option maxRecDepth 100000 in
theorem said_parallel_yes (b off cap : Nat) (l : List ByteArray) (ln : Nat) (w : World) (H : Words w b off cap l) (h2 : ¬ l.length < 2) (hSt : ((Ref.at' l 0).toList == [115, 116, 97, 116, 101]) = false) (hPa : ((Ref.at' l 0).toList == [112, 97, 114, 97, 108, 108, 101, 108]) = true) (hl2 : l.length = 2) (hP : Ref.plain (Ref.at' l 1) = true) :
    Calls Tryz.prog 56 #[.slice (some ⟨b, off, none⟩) l.length cap, .int .i64 ln] w (SaidPost l ln w) := by
  have c0 := H.strs 0 H.pos
  have c1 := H.strs 1 (by omega)
  have s1 := Ref.at'_size H.sizes 1
  have hlt := H.lt
  rw [Nat.add_zero] at c0
  have HS : Hid (Ref.said l ln = ⟨115, Ref.at' l 0, Ref.at' l 1, false, ln, Ref.noMove, []⟩) := by unfold Hid; rw [Ref.said_eq_state h2 (by rw [show Ref.is l 0 Ref.cState = false from hSt, show Ref.is l 0 Ref.cParallel = true from hPa]; rfl), hP, decide_eq_true hl2]; rfl
  have HP : Hid _ := hP
  clear hP
  go_enter Tryz.func56, Tryz.ntmps56
  go_wp2_with (first | (refine wpList_store_same rfl 127 (.tmp 5) (.tmp 18) rfl _ 127 _ rfl rfl (heap_last2 _ _ _) Tryz.sizeLine rfl ?_) | (go_at_call 78; refine (plain_any _ _ (by unfold maxLen; omega)).mono ?_; rintro e w1 ⟨rfl, hw1⟩; rw [HP.out]; obtain ⟨q0, q1, q2, q3⟩ := two_blocks hw1; clear hw1; rw [← q3.cell (p := ⟨b, off, none⟩) hlt] at c0; rw [← q3.cell (p := ⟨b, off + 1, none⟩) hlt] at c1))
  refine region_tail 9 (by kernel_rfl) (by kernel_rfl) ?_
  simp only [List.take_succ_cons, List.take_zero, List.drop_succ_cons, List.drop_zero]
  repeat still_step
  refine wpStill_nil ?_
  refine wpList_store_all rfl 127 (.tmp 4) (.tmp 48) rfl _ 127 _ _ rfl rfl (show w1.drew.heap[w.heap.size]? = _ from q1) Tryz.sizeLine rfl rfl ?_
  go_wp2
  exact ret_cell Tryz.resSaid _ 127 _ (0, 0) _ rfl (setRow_heap _ _ _ _ _ _ (show w1.drew.heap[w.heap.size]? = _ from q1)) Tryz.underlying127 rfl Tryz.sizeLine rfl (said_plain HS rfl rfl ((only_setRow _ _ _).below q3.drew (Nat.le_refl _)))

set_option maxHeartbeats 1600000 in
set_option maxRecDepth 100000 in
theorem said_parallel_no (b off cap : Nat) (l : List ByteArray) (ln : Nat) (w : World) (H : Words w b off cap l) (h2 : ¬ l.length < 2) (hSt : ((Ref.at' l 0).toList == [115, 116, 97, 116, 101]) = false) (hPa : ((Ref.at' l 0).toList == [112, 97, 114, 97, 108, 108, 101, 108]) = true) (hn : (decide (l.length = 2) && Ref.plain (Ref.at' l 1)) = false) :
    Calls Tryz.prog 56 #[.slice (some ⟨b, off, none⟩) l.length cap, .int .i64 ln] w (SaidPost l ln w) := by
  have c0 := H.strs 0 H.pos
  have c1 := H.strs 1 (by omega)
  have s1 := Ref.at'_size H.sizes 1
  have hlt := H.lt
  rw [Nat.add_zero] at c0
  have HS : Hid (Ref.said l ln = Ref.noLine) := by unfold Hid; rw [Ref.said_eq_state h2 (by rw [show Ref.is l 0 Ref.cState = false from hSt, show Ref.is l 0 Ref.cParallel = true from hPa]; rfl), hn]; rfl
  by_cases hl2 : l.length = 2
  · rw [decide_eq_true hl2, Bool.true_and] at hn
    have HP : Hid _ := hn
    clear hn
    go_enter Tryz.func56, Tryz.ntmps56
    go_wp2_with (first | (refine wpList_store_same rfl 127 (.tmp 5) (.tmp 18) rfl _ 127 _ rfl rfl (heap_last2 _ _ _) Tryz.sizeLine rfl ?_) | (go_at_call 78; refine (plain_any _ _ (by unfold maxLen; omega)).mono ?_; rintro e w1 ⟨rfl, hw1⟩; rw [HP.out]; obtain ⟨q0, q1, q2, q3⟩ := two_blocks hw1; clear hw1; rw [← q3.cell (p := ⟨b, off, none⟩) hlt] at c0; rw [← q3.cell (p := ⟨b, off + 1, none⟩) hlt] at c1) | (refine wpList_load_all rfl 127 (.tmp 5) rfl _ 127 _ (0, 0) _ rfl q2 Tryz.underlying127 rfl Tryz.sizeLine ?_) | (refine wpList_store_same rfl 127 (.tmp 4) (.tmp 140) rfl _ 127 _ rfl rfl q1 Tryz.sizeLine rfl ?_))
    exact ret_cell Tryz.resSaid _ 127 _ (0, 0) _ rfl q1 Tryz.underlying127 rfl Tryz.sizeLine rfl (said_none HS q3)
  · clear hn
    go_enter Tryz.func56, Tryz.ntmps56
    go_wp2_with (first | (refine wpList_store_same rfl 127 (.tmp 5) (.tmp 18) rfl _ 127 _ rfl rfl (heap_last2 _ _ _) Tryz.sizeLine rfl ?_) | (go_at_call 78; refine (plain_any _ _ (by unfold maxLen; omega)).mono ?_; rintro e w1 ⟨rfl, hw1⟩; obtain ⟨q0, q1, q2, q3⟩ := two_blocks hw1; clear hw1; rw [← q3.cell (p := ⟨b, off, none⟩) hlt] at c0; rw [← q3.cell (p := ⟨b, off + 1, none⟩) hlt] at c1) | (refine wpList_load_all rfl 127 (.tmp 5) rfl _ 127 _ (0, 0) _ rfl q2 Tryz.underlying127 rfl Tryz.sizeLine ?_) | (refine wpList_store_same rfl 127 (.tmp 4) (.tmp 140) rfl _ 127 _ rfl rfl q1 Tryz.sizeLine rfl ?_))
    exact ret_cell Tryz.resSaid _ 127 _ (0, 0) _ rfl q1 Tryz.underlying127 rfl Tryz.sizeLine rfl (said_none HS q3)

set_option maxHeartbeats 1600000 in
set_option maxRecDepth 100000 in
theorem said_final_yes (b off cap : Nat) (l : List ByteArray) (ln : Nat) (w : World) (H : Words w b off cap l) (h2 : ¬ l.length < 2) (hSt : ((Ref.at' l 0).toList == [115, 116, 97, 116, 101]) = false) (hPa : ((Ref.at' l 0).toList == [112, 97, 114, 97, 108, 108, 101, 108]) = false) (hFi : ((Ref.at' l 0).toList == [102, 105, 110, 97, 108]) = true) (hl2 : l.length = 2) (hP : Ref.plain (Ref.at' l 1) = true) :
    Calls Tryz.prog 56 #[.slice (some ⟨b, off, none⟩) l.length cap, .int .i64 ln] w (SaidPost l ln w) := by
  have c0 := H.strs 0 H.pos
  have c1 := H.strs 1 (by omega)
  have s1 := Ref.at'_size H.sizes 1
  have hlt := H.lt
  rw [Nat.add_zero] at c0
  have HS : Hid (Ref.said l ln = ⟨115, Ref.at' l 0, Ref.at' l 1, false, ln, Ref.noMove, []⟩) := by unfold Hid; rw [Ref.said_eq_state h2 (by rw [show Ref.is l 0 Ref.cState = false from hSt, show Ref.is l 0 Ref.cParallel = false from hPa, show Ref.is l 0 Ref.cFinal = true from hFi]; rfl), hP, decide_eq_true hl2]; rfl
  have HP : Hid _ := hP
  clear hP
  go_enter Tryz.func56, Tryz.ntmps56
  go_wp2_with (first | (refine wpList_store_same rfl 127 (.tmp 5) (.tmp 18) rfl _ 127 _ rfl rfl (heap_last2 _ _ _) Tryz.sizeLine rfl ?_) | (go_at_call 78; refine (plain_any _ _ (by unfold maxLen; omega)).mono ?_; rintro e w1 ⟨rfl, hw1⟩; rw [HP.out]; obtain ⟨q0, q1, q2, q3⟩ := two_blocks hw1; clear hw1; rw [← q3.cell (p := ⟨b, off, none⟩) hlt] at c0; rw [← q3.cell (p := ⟨b, off + 1, none⟩) hlt] at c1))
  refine region_tail 9 (by kernel_rfl) (by kernel_rfl) ?_
  simp only [List.take_succ_cons, List.take_zero, List.drop_succ_cons, List.drop_zero]
  repeat still_step
  refine wpStill_nil ?_
  refine wpList_store_all rfl 127 (.tmp 4) (.tmp 48) rfl _ 127 _ _ rfl rfl (show w1.drew.heap[w.heap.size]? = _ from q1) Tryz.sizeLine rfl rfl ?_
  go_wp2
  exact ret_cell Tryz.resSaid _ 127 _ (0, 0) _ rfl (setRow_heap _ _ _ _ _ _ (show w1.drew.heap[w.heap.size]? = _ from q1)) Tryz.underlying127 rfl Tryz.sizeLine rfl (said_plain HS rfl rfl ((only_setRow _ _ _).below q3.drew (Nat.le_refl _)))

set_option maxHeartbeats 1600000 in
set_option maxRecDepth 100000 in
theorem said_final_no (b off cap : Nat) (l : List ByteArray) (ln : Nat) (w : World) (H : Words w b off cap l) (h2 : ¬ l.length < 2) (hSt : ((Ref.at' l 0).toList == [115, 116, 97, 116, 101]) = false) (hPa : ((Ref.at' l 0).toList == [112, 97, 114, 97, 108, 108, 101, 108]) = false) (hFi : ((Ref.at' l 0).toList == [102, 105, 110, 97, 108]) = true) (hn : (decide (l.length = 2) && Ref.plain (Ref.at' l 1)) = false) :
    Calls Tryz.prog 56 #[.slice (some ⟨b, off, none⟩) l.length cap, .int .i64 ln] w (SaidPost l ln w) := by
  have c0 := H.strs 0 H.pos
  have c1 := H.strs 1 (by omega)
  have s1 := Ref.at'_size H.sizes 1
  have hlt := H.lt
  rw [Nat.add_zero] at c0
  have HS : Hid (Ref.said l ln = Ref.noLine) := by unfold Hid; rw [Ref.said_eq_state h2 (by rw [show Ref.is l 0 Ref.cState = false from hSt, show Ref.is l 0 Ref.cParallel = false from hPa, show Ref.is l 0 Ref.cFinal = true from hFi]; rfl), hn]; rfl
  by_cases hl2 : l.length = 2
  · rw [decide_eq_true hl2, Bool.true_and] at hn
    have HP : Hid _ := hn
    clear hn
    go_enter Tryz.func56, Tryz.ntmps56
    go_wp2_with (first | (refine wpList_store_same rfl 127 (.tmp 5) (.tmp 18) rfl _ 127 _ rfl rfl (heap_last2 _ _ _) Tryz.sizeLine rfl ?_) | (go_at_call 78; refine (plain_any _ _ (by unfold maxLen; omega)).mono ?_; rintro e w1 ⟨rfl, hw1⟩; rw [HP.out]; obtain ⟨q0, q1, q2, q3⟩ := two_blocks hw1; clear hw1; rw [← q3.cell (p := ⟨b, off, none⟩) hlt] at c0; rw [← q3.cell (p := ⟨b, off + 1, none⟩) hlt] at c1) | (refine wpList_load_all rfl 127 (.tmp 5) rfl _ 127 _ (0, 0) _ rfl q2 Tryz.underlying127 rfl Tryz.sizeLine ?_) | (refine wpList_store_same rfl 127 (.tmp 4) (.tmp 140) rfl _ 127 _ rfl rfl q1 Tryz.sizeLine rfl ?_))
    exact ret_cell Tryz.resSaid _ 127 _ (0, 0) _ rfl q1 Tryz.underlying127 rfl Tryz.sizeLine rfl (said_none HS q3)
  · clear hn
    go_enter Tryz.func56, Tryz.ntmps56
    go_wp2_with (first | (refine wpList_store_same rfl 127 (.tmp 5) (.tmp 18) rfl _ 127 _ rfl rfl (heap_last2 _ _ _) Tryz.sizeLine rfl ?_) | (go_at_call 78; refine (plain_any _ _ (by unfold maxLen; omega)).mono ?_; rintro e w1 ⟨rfl, hw1⟩; obtain ⟨q0, q1, q2, q3⟩ := two_blocks hw1; clear hw1; rw [← q3.cell (p := ⟨b, off, none⟩) hlt] at c0; rw [← q3.cell (p := ⟨b, off + 1, none⟩) hlt] at c1) | (refine wpList_load_all rfl 127 (.tmp 5) rfl _ 127 _ (0, 0) _ rfl q2 Tryz.underlying127 rfl Tryz.sizeLine ?_) | (refine wpList_store_same rfl 127 (.tmp 4) (.tmp 140) rfl _ 127 _ rfl rfl q1 Tryz.sizeLine rfl ?_))
    exact ret_cell Tryz.resSaid _ 127 _ (0, 0) _ rfl q1 Tryz.underlying127 rfl Tryz.sizeLine rfl (said_none HS q3)
end Go.Proofs.YtegmoddppafkfaaGreatDoor
