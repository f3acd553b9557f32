/-
  MY OWN TEXT.
-/
import Derived.Test.YtegmoddppafkfaaGreatDoorM08
import Derived.Test.YtegmoddppafkfaaGreatDoorM14
namespace Go.Proofs.YtegmoddppafkfaaGreatDoor
open Go.RowKit

namespace Ref
def b1 : ByteArray := ⟨#[32]⟩
def bDo : ByteArray := ⟨#[32, 100, 111, 32]⟩
def bAs : ByteArray := ⟨#[32, 97, 115, 32]⟩
/-- What one action adds to a text. -/
def wAct (t : ByteArray) (a : Act) : ByteArray :=
  if a.how.toList == cCancel then t ++ bDo ++ a.how ++ b1 ++ a.id
  else if a.how.toList == cRaise then t ++ bDo ++ a.how ++ b1 ++ a.event
  else if a.id.toList == [] then t ++ bDo ++ a.how ++ b1 ++ a.event ++ b1 ++ dec a.delay.toNat
  else t ++ bDo ++ a.how ++ b1 ++ a.event ++ b1 ++ dec a.delay.toNat ++ bAs ++ a.id
def writTo (A : List Act) : Nat → ByteArray
  | 0 => ByteArray.empty
  | i + 1 => match A[i]? with
    | some a => wAct (writTo A i) a
    | none => writTo A i
def written (A : List Act) : ByteArray := writTo A A.length
theorem wAct_size {t : ByteArray} {a : Act} (h : ActOK a) : (wAct t a).size ≤ t.size + 4294967296 := by
  obtain ⟨h1, h2, h3, n, h4, h5⟩ := h
  have e1 : b1.size = 1 := rfl
  have e2 : bDo.size = 4 := rfl
  have e3 : bAs.size = 4 := rfl
  have e4 := dec_size20 (n := a.delay.toNat) (by rw [h4]; simpa using h5)
  unfold wAct
  repeat' split
  all_goals simp only [ByteArray.size_append', e1, e2, e3]; omega
theorem writTo_size {A : List Act} (hok : ∀ a ∈ A, ActOK a) : ∀ i, (writTo A i).size ≤ i * 4294967296
  | 0 => by simp [writTo]
  | i + 1 => by
    have ih := writTo_size hok i
    unfold writTo
    cases h : A[i]? with
    | none => show (writTo A i).size ≤ (i + 1) * 4294967296; rw [Nat.succ_mul]; exact Nat.le_trans ih (Nat.le_add_right _ _)
    | some a =>
      have := wAct_size (t := writTo A i) (hok a (List.mem_of_getElem? h))
      show (wAct (writTo A i) a).size ≤ (i + 1) * 4294967296
      rw [Nat.succ_mul]
      exact Nat.le_trans this (Nat.add_le_add_right ih _)
end Ref

set_option maxHeartbeats 1600000 in
set_option maxRecDepth 100000 in
theorem written_any (v : Value) (A : List Ref.Act) (w : World) (H : ActRow w v A) (hA : A.length ≤ 1048576) (hok : ∀ a ∈ A, Ref.ActOK a) :
    Calls Tryz.prog 54 #[v] w fun e w' => e = .returned (.string (Ref.written A)) ∧ Below w.heap.size w w' := by
  obtain ⟨sa, sc, rfl⟩ := H.form
  go_enter Tryz.func54, Tryz.ntmps54
  go_wp2
  go_loopw [3, 4] (fun t i wr => ∃ k : Nat, k ≤ A.length ∧ i = .int .i64 k ∧ t = .string (Ref.writTo A k) ∧ Below w.heap.size w wr) (fun _ i _ => A.length - (intOf i).toNat)
  case atStart => exact ⟨0, Nat.zero_le _, rfl, rfl, Below.refl _ _⟩
  case round =>
    obtain ⟨k, hk, rfl, rfl, hbel⟩ := hrel
    have hsize := hbel.size
    by_cases hlt : k < A.length
    · obtain ⟨g, c, hv⟩ := H.pos (by omega)
      simp only [Value.slice.injEq, true_and] at hv
      obtain ⟨rfl, rfl⟩ := hv
      have hg := (World.ownsRow.lt H g rfl).2
      have hc0 := Row.cell (n := 4) (j := 0) (fun _ => rfl) H (by decide) hlt
      have hc1 := Row.cell (n := 4) (j := 1) (fun _ => rfl) H (by decide) hlt
      have hc2 := Row.cell (n := 4) (j := 2) (fun _ => rfl) H (by decide) hlt
      have hc3 := Row.cell (n := 4) (j := 3) (fun _ => rfl) H (by decide) hlt
      simp only [Ref.actCells, List.getElem?_cons_succ, List.getElem?_cons_zero, Nat.add_zero] at hc0 hc1 hc2 hc3
      rw [← hbel.cell (p := ⟨g, _, none⟩) hg] at hc0 hc1 hc2 hc3
      have hg' : g < wr.heap.size := by omega
      obtain ⟨o1, o2, o3, dn, o4, o5⟩ := hok A[k] (List.getElem_mem hlt)
      have hs0 := Ref.writTo_size hok k
      have hds := Ref.dec_size20 o5
      have HW : Hid (Ref.writTo A (k + 1) = Ref.wAct (Ref.writTo A k) A[k]) := by
        unfold Hid; rw [Ref.writTo, List.getElem?_eq_getElem hlt]
      generalize Ref.writTo A k = t at *
      rw [o4] at hc3
      have HO4 : Hid _ := o4
      clear o4 hok
      cases hCa : (A[k].how.toList == [99, 97, 110, 99, 101, 108])
      · cases hRa : (A[k].how.toList == [114, 97, 105, 115, 101])
        · cases hId : (A[k].id.toList == [])
          · go_wp2_with (go_at_call 77; refine (long_any dn _ o5).mono ?_; rintro e w' ⟨rfl, hw'⟩; rw [hw']; clear hw' w')
            go_roundw
            case rel => exact ⟨k + 1, by omega, by go_num, by rw [HW.out, Ref.wAct, Ref.cCancel, hCa, if_neg Bool.false_ne_true, Ref.cRaise, hRa, if_neg Bool.false_ne_true, hId, if_neg Bool.false_ne_true, HO4.out]; rfl, hbel.alloc hsize _⟩
            case measure => simp [intOf]; omega
          · go_wp2_with (go_at_call 77; refine (long_any dn _ o5).mono ?_; rintro e w' ⟨rfl, hw'⟩; rw [hw']; clear hw' w')
            go_roundw
            case rel => exact ⟨k + 1, by omega, by go_num, by rw [HW.out, Ref.wAct, Ref.cCancel, hCa, if_neg Bool.false_ne_true, Ref.cRaise, hRa, if_neg Bool.false_ne_true, hId, if_pos rfl, HO4.out]; rfl, hbel.alloc hsize _⟩
            case measure => simp [intOf]; omega
        · go_wp2
          go_roundw
          case rel => exact ⟨k + 1, by omega, by go_num, by rw [HW.out, Ref.wAct, Ref.cCancel, hCa, if_neg Bool.false_ne_true, Ref.cRaise, hRa, if_pos rfl]; rfl, hbel.alloc hsize _⟩
          case measure => simp [intOf]; omega
      · go_wp2
        go_roundw
        case rel => exact ⟨k + 1, by omega, by go_num, by rw [HW.out, Ref.wAct, Ref.cCancel, hCa, if_pos rfl]; rfl, hbel.alloc hsize _⟩
        case measure => simp [intOf]; omega
    · obtain rfl : k = A.length := by omega
      go_wp2
      go_ret
      exact ⟨rfl, hbel⟩
end Go.Proofs.YtegmoddppafkfaaGreatDoor
namespace Go.Proofs.YtegmoddppafkfaaGreatDoor
open Go.RowKit

namespace Ref
def bSend : ByteArray := ⟨#[115, 101, 110, 100]⟩
def bCancel : ByteArray := ⟨#[99, 97, 110, 99, 101, 108]⟩
def bEnter : ByteArray := ⟨#[32, 101, 110, 116, 101, 114]⟩
def bLeave : ByteArray := ⟨#[32, 108, 101, 97, 118, 101]⟩
def bOn : ByteArray := ⟨#[32, 111, 110, 32]⟩
def bTo : ByteArray := ⟨#[32, 116, 111, 32]⟩
def bDeep : ByteArray := ⟨#[32, 100, 101, 101, 112]⟩
def bNl : ByteArray := ⟨#[10]⟩
def pad : Nat → ByteArray
  | 0 => ByteArray.empty
  | n + 1 => pad n ++ b1
def inAct (m : Move) : Act := ⟨bSend, m.event, m.event, m.delay⟩
def outAct (m : Move) : Act := ⟨bCancel, ByteArray.empty, m.event, 0⟩
def inTo (x : State) : Nat → List Act
  | 0 => x.enter
  | j + 1 => match x.moves[j]? with
    | some m => if m.after then inTo x j ++ [inAct m] else inTo x j
    | none => inTo x j
def outTo (x : State) : Nat → List Act
  | 0 => x.leave
  | j + 1 => match x.moves[j]? with
    | some m => if m.after then outTo x j ++ [outAct m] else outTo x j
    | none => outTo x j
def head0 (t : ByteArray) (x : State) : ByteArray := t ++ pad x.depth.toNat ++ x.word ++ b1 ++ x.name
def head1 (t : ByteArray) (x : State) : ByteArray := if x.deep then head0 t x ++ bDeep else head0 t x
def ends (t p h a : ByteArray) : ByteArray := if a.toList.isEmpty then t else t ++ p ++ h ++ a ++ bNl
def mv0 (p t : ByteArray) (m : Move) : ByteArray := t ++ p ++ bOn ++ m.event
def mv1 (p t : ByteArray) (m : Move) : ByteArray := if m.to.toList.isEmpty then mv0 p t m else mv0 p t m ++ bTo ++ m.to
def mvLine (p t : ByteArray) (m : Move) : ByteArray := mv1 p t m ++ written m.acts ++ bNl
def mvTo (p t : ByteArray) (ms : List Move) : Nat → ByteArray
  | 0 => t
  | j + 1 => match ms[j]? with
    | some m => mvLine p (mvTo p t ms j) m
    | none => mvTo p t ms j
def st1 (t : ByteArray) (x : State) : ByteArray := head1 t x ++ bNl
def st2 (t : ByteArray) (x : State) : ByteArray := ends (st1 t x) (pad x.depth.toNat) bEnter (written (inTo x x.moves.length))
def st3 (t : ByteArray) (x : State) : ByteArray := ends (st2 t x) (pad x.depth.toNat) bLeave (written (outTo x x.moves.length))
def stText (t : ByteArray) (x : State) : ByteArray := mvTo (pad x.depth.toNat) (st3 t x) x.moves x.moves.length
def lowTo (S : List State) : Nat → ByteArray
  | 0 => ByteArray.empty
  | k + 1 => match S[k]? with
    | some x => stText (lowTo S k) x
    | none => lowTo S k
theorem pad_size : ∀ n, (pad n).size = n
  | 0 => rfl
  | n + 1 => by rw [pad, ByteArray.size_append', pad_size n]; rfl
theorem wAct_small {t : ByteArray} {a : Act} (h : ActSm a) : (wAct t a).size ≤ t.size + 20000 := by
  obtain ⟨h1, h2, h3, n, h4, h5⟩ := h
  have e1 : b1.size = 1 := rfl
  have e2 : bDo.size = 4 := rfl
  have e3 : bAs.size = 4 := rfl
  have e4 := dec_size20 (n := a.delay.toNat) (by rw [h4]; simpa using h5)
  unfold wAct
  repeat' split
  all_goals simp only [ByteArray.size_append', e1, e2, e3]; omega
theorem writTo_small {A : List Act} (hok : ∀ a ∈ A, ActSm a) : ∀ i, (writTo A i).size ≤ i * 20000
  | 0 => by simp [writTo]
  | i + 1 => by
    have ih := writTo_small hok i
    unfold writTo
    cases h : A[i]? with
    | none => show (writTo A i).size ≤ (i + 1) * 20000; rw [Nat.succ_mul]; exact Nat.le_trans ih (Nat.le_add_right _ _)
    | some a =>
      have := wAct_small (t := writTo A i) (hok a (List.mem_of_getElem? h))
      show (wAct (writTo A i) a).size ≤ (i + 1) * 20000
      rw [Nat.succ_mul]
      exact Nat.le_trans this (Nat.add_le_add_right ih _)
theorem written_small {A : List Act} {n : Nat} (hok : ∀ a ∈ A, ActSm a) (hn : A.length ≤ n) : (written A).size ≤ n * 20000 := by
  exact Nat.le_trans (writTo_small hok A.length) (Nat.mul_le_mul_right _ hn)
theorem inTo_ok {x : State} (h : StateSm x) : ∀ j, (∀ a ∈ inTo x j, ActSm a) ∧ (inTo x j).length ≤ 4096 + j
  | 0 => ⟨h.enter, h.lenE⟩
  | j + 1 => by
    have ih := inTo_ok h j
    rw [inTo]
    split
    · rename_i m hm
      have hM := h.moves m (List.mem_of_getElem? hm)
      split
      · refine ⟨?_, by simp; omega⟩
        intro a ha
        rcases List.mem_append.1 ha with h' | h'
        · exact ih.1 a h'
        · rw [List.mem_singleton.1 h']; exact ⟨by show bSend.size ≤ 4096; decide, hM.event, hM.event, hM.delay⟩
      · exact ⟨ih.1, by omega⟩
    · exact ⟨ih.1, by omega⟩
theorem outTo_ok {x : State} (h : StateSm x) : ∀ j, (∀ a ∈ outTo x j, ActSm a) ∧ (outTo x j).length ≤ 4096 + j
  | 0 => ⟨h.leave, h.lenL⟩
  | j + 1 => by
    have ih := outTo_ok h j
    rw [outTo]
    split
    · rename_i m hm
      have hM := h.moves m (List.mem_of_getElem? hm)
      split
      · refine ⟨?_, by simp; omega⟩
        intro a ha
        rcases List.mem_append.1 ha with h' | h'
        · exact ih.1 a h'
        · rw [List.mem_singleton.1 h']; exact ⟨by show bCancel.size ≤ 4096; decide, Nat.zero_le _, hM.event, 0, rfl, by decide⟩
      · exact ⟨ih.1, by omega⟩
    · exact ⟨ih.1, by omega⟩
theorem pad_small {x : State} (h : StateSm x) : (pad x.depth.toNat).size ≤ 5 := by
  have h1 := h.dep
  rw [pad_size]; omega
theorem head0_small {t : ByteArray} {x : State} (h : StateSm x) : (head0 t x).size ≤ t.size + 9000 := by
  have h1 := h.word
  have h2 := h.name
  have h3 := pad_small h
  have e1 : b1.size = 1 := rfl
  simp only [head0, ByteArray.size_append']; omega
theorem head1_small {t : ByteArray} {x : State} (h : StateSm x) : (head1 t x).size ≤ t.size + 9010 := by
  have h1 := head0_small (t := t) h
  have e1 : bDeep.size = 5 := rfl
  unfold head1
  split
  · rw [ByteArray.size_append']; omega
  · omega
theorem ends_small {t p h a : ByteArray} (h1 : p.size ≤ 5) (h2 : h.size = 6) (h3 : a.size ≤ 200000000) : (ends t p h a).size ≤ t.size + 200000020 := by
  have e1 : bNl.size = 1 := rfl
  unfold ends
  split
  · omega
  · simp only [ByteArray.size_append']; omega
theorem mv0_small {t p : ByteArray} {m : Move} (hp : p.size ≤ 5) (h : MoveSm m) : (mv0 p t m).size ≤ t.size + 4200 := by
  have h1 := h.event
  have e1 : bOn.size = 4 := rfl
  simp only [mv0, ByteArray.size_append']; omega
theorem mv1_small {t p : ByteArray} {m : Move} (hp : p.size ≤ 5) (h : MoveSm m) : (mv1 p t m).size ≤ t.size + 9000 := by
  have h0 := mv0_small (t := t) hp h
  have h1 := h.dst
  have e1 : bTo.size = 4 := rfl
  unfold mv1
  split
  · omega
  · simp only [ByteArray.size_append']; omega
theorem mvLine_small {t p : ByteArray} {m : Move} (hp : p.size ≤ 5) (h : MoveSm m) : (mvLine p t m).size ≤ t.size + 100000000 := by
  have h0 := mv1_small (t := t) hp h
  have h1 := written_small h.acts h.len
  have e1 : bNl.size = 1 := rfl
  simp only [mvLine, ByteArray.size_append']; omega
theorem mvTo_small {t p : ByteArray} {ms : List Move} (hp : p.size ≤ 5) (h : ∀ m ∈ ms, MoveSm m) : ∀ j, (mvTo p t ms j).size ≤ t.size + j * 100000000
  | 0 => by simp [mvTo]
  | j + 1 => by
    have ih := mvTo_small (t := t) hp h j
    rw [mvTo]
    split
    · rename_i m hm
      have := mvLine_small (t := mvTo p t ms j) hp (h m (List.mem_of_getElem? hm))
      rw [Nat.succ_mul, ← Nat.add_assoc]
      exact Nat.le_trans this (Nat.add_le_add_right ih _)
    · rw [Nat.succ_mul, ← Nat.add_assoc]
      exact Nat.le_trans ih (Nat.le_add_right _ _)
theorem st1_small {t : ByteArray} {x : State} (h : StateSm x) : (st1 t x).size ≤ t.size + 9020 := by
  have h1 := head1_small (t := t) h
  have e1 : bNl.size = 1 := rfl
  simp only [st1, ByteArray.size_append']; omega
theorem st2_small {t : ByteArray} {x : State} (h : StateSm x) (hm : x.moves.length ≤ 4096) : (st2 t x).size ≤ t.size + 200009100 := by
  have h1 := st1_small (t := t) h
  have h2 := inTo_ok h x.moves.length
  have h3 := written_small (n := 8192) h2.1 (by omega)
  have := ends_small (t := st1 t x) (pad_small h) (h := bEnter) rfl (a := written (inTo x x.moves.length)) (by omega)
  unfold st2
  omega
theorem st3_small {t : ByteArray} {x : State} (h : StateSm x) (hm : x.moves.length ≤ 4096) : (st3 t x).size ≤ t.size + 400020000 := by
  have h1 := st2_small (t := t) h hm
  have h2 := outTo_ok h x.moves.length
  have h3 := written_small (n := 8192) h2.1 (by omega)
  have := ends_small (t := st2 t x) (pad_small h) (h := bLeave) rfl (a := written (outTo x x.moves.length)) (by omega)
  unfold st3
  omega
theorem stText_small {t : ByteArray} {x : State} (h : StateSm x) (hm : x.moves.length ≤ 4096) : (stText t x).size ≤ t.size + 500000000000 := by
  have h1 := st3_small (t := t) h hm
  have h2 := mvTo_small (t := st3 t x) (pad_small h) h.moves x.moves.length
  unfold stText
  omega
theorem lowTo_small {S : List State} (h : ∀ x ∈ S, StateSm x ∧ x.moves.length ≤ 4096) : ∀ k, (lowTo S k).size ≤ k * 500000000000
  | 0 => by simp [lowTo]
  | k + 1 => by
    have ih := lowTo_small h k
    rw [lowTo]
    split
    · rename_i x hx
      have hx' := h x (List.mem_of_getElem? hx)
      have := stText_small (t := lowTo S k) hx'.1 hx'.2
      rw [Nat.succ_mul]
      exact Nat.le_trans this (Nat.add_le_add_right ih _)
    · rw [Nat.succ_mul]
      exact Nat.le_trans ih (Nat.le_add_right _ _)
theorem lineOf_ok {t : ByteArray} {i : Nat} (ht : t.size ≤ 1500) (hi : i ≤ 1501) : LineSm (lineOf t i) := by
  have h2 : (rest t).size ≤ 1500 := by unfold rest; simp; omega
  have h3 : ∀ x ∈ cut (rest t) 32, x.size ≤ 4096 := fun x hx => Nat.le_trans (cutTo_sizes _ 32 _ (Nat.le_refl _) x hx) (by omega)
  have h4 : (cut (rest t) 32).length ≤ 4096 := Nat.le_trans (cutTo_le (rest t) 32 (rest t).size) (by omega)
  unfold lineOf
  exact said_ok h3 h4 (by omega)
theorem linesTo_ok {P : List ByteArray} {k : Nat} (hs : ∀ x ∈ P, x.size ≤ 1500) (hk : k ≤ 1501) : ∀ p ∈ linesTo P k, LineSm p.1 ∧ 0 ≤ p.2 := by
  intro p hp
  unfold linesTo at hp
  obtain ⟨i, hi, e⟩ := List.mem_map.1 hp
  rw [List.mem_range] at hi
  have h1 : (pc P i).size ≤ 1500 := at'_size hs i
  have h2 := lineOf_ok (i := i) h1 (by omega)
  have e1 : p.1 = lineOf (pc P i) i := by rw [← e]
  have e2 : p.2 = (blanks (pc P i) : Nat) := by rw [← e]
  rw [e1, e2]
  exact ⟨h2, by omega⟩
/-- A chart that is read is of a chart's size. -/
theorem read_ok {s : ByteArray} {S : List State} (h : read s = .chart S) : S.length ≤ 1501 ∧ ∀ x ∈ S, StateSm x ∧ x.moves.length ≤ 4096 := by
  unfold read at h
  split at h
  · cases h
  · rename_i hs
    split at h
    · cases h
    · split at h
      · cases h
      · rename_i S' hT
        have hl := cutTo_le s 10 s.size
        have hl' : (cut s 10).length ≤ 1501 := by unfold cut; omega
        have hz : ∀ x ∈ cut s 10, x.size ≤ 1500 := fun x hx => Nat.le_trans (cutTo_sizes s 10 s.size (Nat.le_refl _) x hx) (by omega)
        have hok := treeTo_ok (linesTo_ok (k := (cut s 10).length - 1) hz (by omega)) hT
        have hlen := treeTo_len hT
        split at h
        · cases h
        · split at h
          · cases h
          · cases h
            exact ⟨by omega, fun x hx => ⟨(hok x hx).1, by have := (hok x hx).2; omega⟩⟩
theorem read_fault {s : ByteArray} {c l : Int} (h : read s = .fault c l) : ¬ c = 0 := by
  unfold read at h
  repeat' split at h
  all_goals first | (cases h; decide) | cases h
end Ref
end Go.Proofs.YtegmoddppafkfaaGreatDoor
