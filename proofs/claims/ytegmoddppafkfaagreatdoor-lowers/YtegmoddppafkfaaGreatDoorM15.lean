/-
  MY OWN TEXT.
-/
import Derived.Test.YtegmoddppafkfaaGreatDoorM12
import Derived.Test.YtegmoddppafkfaaGreatDoorM13
import Derived.Test.YtegmoddppafkfaaGreatDoorM14
import Derived.Lib.Split
import Derived.Lib.SplitLaws
import Derived.Lib.TrimByte
import Derived.Deep.LoopGhost
namespace Go.Proofs.YtegmoddppafkfaaGreatDoor
open Go.RowKit

namespace Pro
theorem to_list : bToW.toList = Ref.cTo := by rw [ByteArray.toList_eq]; rfl
theorem deep_list : bDeepW.toList = Ref.cDeep := by rw [ByteArray.toList_eq]; rfl
def bState : ByteArray := ⟨#[115, 116, 97, 116, 101]⟩
def bParallel : ByteArray := ⟨#[112, 97, 114, 97, 108, 108, 101, 108]⟩
def bFinal : ByteArray := ⟨#[102, 105, 110, 97, 108]⟩
def bHistory : ByteArray := ⟨#[104, 105, 115, 116, 111, 114, 121]⟩
theorem state_list : bState.toList = Ref.cState := by rw [ByteArray.toList_eq]; rfl
theorem parallel_list : bParallel.toList = Ref.cParallel := by rw [ByteArray.toList_eq]; rfl
theorem final_list : bFinal.toList = Ref.cFinal := by rw [ByteArray.toList_eq]; rfl
theorem history_list : bHistory.toList = Ref.cHistory := by rw [ByteArray.toList_eq]; rfl
/-- The word of a kind of state. -/
def wordOf (k : Int) : ByteArray := if k = 0 then bState else if k = 1 then bParallel else if k = 2 then bFinal else bHistory
/-- The same line, as the document has it. -/
def toLine (num : Nat) : PL → Ref.Line
  | .state k n => ⟨115, wordOf k, n, decide (k = 4), num, Ref.noMove, []⟩
  | .move ev af d t A => ⟨109, ByteArray.empty, ByteArray.empty, false, 0, ⟨ev, t, af, d, A, num⟩, []⟩
  | .enter A => ⟨101, ByteArray.empty, ByteArray.empty, false, 0, Ref.noMove, A⟩
  | .leave A => ⟨108, ByteArray.empty, ByteArray.empty, false, 0, Ref.noMove, A⟩
/-- A whole line. -/
def pWhole (num : Nat) (l : List ByteArray) : Option PL := match pLine num l with
  | some (L, []) => some L
  | _ => none
theorem moved_pro (l : List ByteArray) : Ref.moved l = match pMove l with | some (q, []) => some q | _ => none := by
  unfold Ref.moved pMove
  cases l with
  | nil => simp [pTo, acts_pro]; rfl
  | cons y r =>
    rw [show Ref.at' (y :: r) 0 = y from rfl, pTo, to_list]
    cases hy : (y.toList == Ref.cTo)
    · rw [if_neg (by simp), if_neg (by simp), acts_pro]
      simp only
      cases pActions (y :: r) with
      | none => rfl
      | some q => obtain ⟨A, t⟩ := q; cases t <;> rfl
    · rw [if_pos (by simp), if_pos rfl]
      cases r with
      | nil => rfl
      | cons z t =>
        rw [if_neg (by simp), show Ref.at' (y :: z :: t) 1 = z from rfl, pOf_cons]
        cases Ref.plain z
        · rfl
        · simp only [if_true, List.drop_succ_cons, List.drop_zero]
          rw [acts_pro]
          cases pActions t with
          | none => rfl
          | some q => obtain ⟨A, u⟩ := q; cases u <;> rfl
theorem pActions_not {y : ByteArray} {r : List ByteArray} : pActions (y :: r) ≠ some ([], []) := by
  cases h : (y.toList == bDo.toList)
  · rw [pActions_stop h]; simp
  · cases h2 : pAction r with
    | none => rw [pActions_none h h2]; simp
    | some q =>
      obtain ⟨a, r'⟩ := q
      rw [pActions_more h h2]
      cases pActions r' <;> simp
theorem doings_pro (y : ByteArray) (r : List ByteArray) : Ref.acts (y :: r) = match pDoings (y :: r) with | some (A, []) => some A | _ => none := by
  rw [acts_pro]
  unfold pDoings
  cases h : pActions (y :: r) with
  | none => rfl
  | some q =>
    obtain ⟨A, t⟩ := q
    cases A with
    | nil => cases t with
      | nil => exact absurd h pActions_not
      | cons _ _ => rfl
    | cons a A => cases t <;> rfl
theorem said_pro (num : Nat) (l : List ByteArray) : Ref.said l num = ((pWhole num l).map (toLine num)).getD Ref.noLine := by
  cases l with
  | nil => rfl
  | cons x r =>
    cases r with
    | nil =>
      rw [Ref.said, if_pos (by simp)]
      unfold pWhole pLine
      repeat' (first | rfl | split)
      all_goals first | rfl | (simp_all [pOf, pHistory, pDelay, pDoings, pActions, pActs])
    | cons y r =>
      have h2 : ¬ (x :: y :: r).length < 2 := by simp
      rw [Ref.said, if_neg h2]
      unfold pWhole pLine
      simp only [Ref.is, show Ref.at' (x :: y :: r) 0 = x from rfl, show Ref.at' (x :: y :: r) 1 = y from rfl, List.drop_succ_cons, List.drop_zero]
      cases hS : (x.toList == Ref.cState)
      · cases hP : (x.toList == Ref.cParallel)
        · cases hF : (x.toList == Ref.cFinal)
          · cases hH : (x.toList == Ref.cHistory)
            · cases hO : (x.toList == Ref.cOn)
              · cases hA : (x.toList == Ref.cAfter)
                · cases hE : (x.toList == Ref.cEnter)
                  · cases hL : (x.toList == Ref.cLeave)
                    · simp
                    · have ex : Go.PlainAid.bt x 0 = 108 := by
                        rw [ba_eq' (b := ⟨#[108, 101, 97, 118, 101]⟩) hL (by rw [ByteArray.toList_eq]; rfl)]; rfl
                      simp only [Bool.or_true, Bool.false_or, Bool.false_eq_true, if_false, if_true]
                      rw [doings_pro]
                      cases pDoings (y :: r) with
                      | none => rfl
                      | some q =>
                        obtain ⟨A, t⟩ := q
                        cases t with
                        | nil => simp [toLine, ex]
                        | cons _ _ => rfl
                  · have ex : Go.PlainAid.bt x 0 = 101 := by
                      rw [ba_eq' (b := ⟨#[101, 110, 116, 101, 114]⟩) hE (by rw [ByteArray.toList_eq]; rfl)]; rfl
                    simp only [Bool.true_or, Bool.or_self, Bool.false_eq_true, if_false, if_true]
                    rw [doings_pro]
                    cases pDoings (y :: r) with
                    | none => rfl
                    | some q =>
                      obtain ⟨A, t⟩ := q
                      cases t with
                      | nil => simp [toLine, ex]
                      | cons _ _ => rfl
                · simp only [Bool.or_self, Bool.false_eq_true, if_false, if_true]
                  rw [moved_pro, pDelay_cons]
                  cases Ref.digOk y
                  · cases pMove r with
                    | none => rfl
                    | some q => obtain ⟨q, t⟩ := q; cases t <;> rfl
                  · simp only [if_true]
                    cases pMove r with
                    | none => rfl
                    | some q => obtain ⟨⟨_, _⟩, t⟩ := q; cases t <;> rfl
              · simp only [Bool.or_self, Bool.false_eq_true, if_false, if_true]
                rw [moved_pro, pOf_cons]
                cases Ref.awaited y
                · cases pMove r with
                  | none => rfl
                  | some q => obtain ⟨q, t⟩ := q; cases t <;> rfl
                · simp only [if_true]
                  cases pMove r with
                  | none => rfl
                  | some q => obtain ⟨⟨_, _⟩, t⟩ := q; cases t <;> rfl
            · have ex : x = bHistory := ba_eq' hH history_list
              simp only [Bool.or_self, Bool.false_eq_true, if_false, if_true]
              unfold pHistory
              rw [pOf_cons]
              cases hp : Ref.plain y
              · simp
              · simp only [if_true, Bool.true_and]
                cases r with
                | nil => simp [Ref.deepW, toLine, wordOf, ex]
                | cons z t =>
                  simp only [deep_list]
                  cases hz : (z.toList == Ref.cDeep)
                  · simp [Ref.deepW, Ref.is, show Ref.at' (x :: y :: z :: t) 2 = z from rfl, hz]
                  · cases t with
                    | nil =>
                      have ez : z.toList = Ref.cDeep := eq_of_beq hz
                      simp [Ref.deepW, Ref.is, show Ref.at' [bHistory, y, z] 2 = z from rfl, ez, toLine, wordOf, ex]
                    | cons _ _ => simp [Ref.deepW]
          · have ex : x = bFinal := ba_eq' hF final_list
            simp only [Bool.or_true, Bool.false_eq_true, if_false, if_true]
            rw [pOf_cons]
            cases hp : Ref.plain y
            · simp
            · cases r with
              | nil => simp [toLine, wordOf, ex]
              | cons _ _ => simp
        · have ex : x = bParallel := ba_eq' hP parallel_list
          simp only [Bool.true_or, Bool.or_true, Bool.false_eq_true, if_false, if_true]
          rw [pOf_cons]
          cases hp : Ref.plain y
          · simp
          · cases r with
            | nil => simp [toLine, wordOf, ex]
            | cons _ _ => simp
      · have ex : x = bState := ba_eq' hS state_list
        simp only [Bool.true_or, if_true]
        rw [pOf_cons]
        cases hp : Ref.plain y
        · simp
        · cases r with
          | nil => simp [toLine, wordOf, ex]
          | cons _ _ => simp
theorem toLine_kind (num : Nat) (L : PL) : ¬ (toLine num L).kind = 0 := by cases L <;> simp [toLine]
end Pro
end Go.Proofs.YtegmoddppafkfaaGreatDoor
namespace Go.Proofs.YtegmoddppafkfaaGreatDoor
open Go.RowKit
open Go.PlainAid (bt get_bt bt_nonneg bt_le bt_end)

namespace Pro
/-- Cut at each c. -/
def cutL (c : UInt8) : List UInt8 → List (List UInt8)
  | [] => [[]]
  | x :: l => if x == c then [] :: cutL c l else match cutL c l with
    | [] => [[x]]
    | h :: t => (x :: h) :: t
theorem cutL_pos (c : UInt8) (l : List UInt8) : cutL c l ≠ [] := by
  cases l with
  | nil => simp [cutL]
  | cons x l =>
    rw [cutL]
    split
    · simp
    · split <;> simp
theorem cutL_miss (c : UInt8) : ∀ l : List UInt8, Lib.indexByte l c = -1 → cutL c l = [l]
  | [], _ => rfl
  | x :: l, h => by
    rw [Lib.indexByte] at h
    rw [cutL]
    by_cases hx : (x == c) = true
    · rw [if_pos hx] at h; cases h
    · rw [if_neg hx] at h ⊢
      by_cases hl : (Lib.indexByte l c == -1) = true
      · rw [cutL_miss c l (by simpa using hl)]
      · rw [if_neg hl] at h
        have := Lib.indexByte_ge l c
        omega
theorem cutL_hit (c : UInt8) : ∀ (l : List UInt8) (i : Nat), Lib.indexByte l c = i → cutL c l = l.take i :: cutL c (l.drop (i + 1))
  | [], i, h => by
    have h : (-1 : Int) = i := h
    omega
  | x :: l, i, h => by
    rw [Lib.indexByte] at h
    rw [cutL]
    by_cases hx : (x == c) = true
    · rw [if_pos hx] at h ⊢
      have : i = 0 := by omega
      subst this; simp
    · rw [if_neg hx] at h ⊢
      by_cases hl : (Lib.indexByte l c == -1) = true
      · rw [if_pos hl] at h; omega
      · rw [if_neg hl] at h
        have := Lib.indexByte_ge l c
        have hl' : ¬ Lib.indexByte l c = -1 := by simpa using hl
        obtain ⟨j, rfl⟩ : ∃ j, i = j + 1 := ⟨i - 1, by omega⟩
        rw [cutL_hit c l j (by omega)]
        simp
theorem cutL_snoc (c x : UInt8) : ∀ l : List UInt8, cutL c (l ++ [x]) = if x == c then cutL c l ++ [[]] else (cutL c l).set ((cutL c l).length - 1) ((cutL c l)[(cutL c l).length - 1]?.getD [] ++ [x])
  | [] => by
    rw [List.nil_append, cutL]
    split <;> rename_i h <;> simp [cutL] <;> simpa using h
  | y :: l => by
    rw [List.cons_append, cutL, cutL_snoc c x l, cutL]
    have hp := cutL_pos c l
    by_cases hy : (y == c) = true
    · rw [if_pos hy, if_pos hy]
      split
      · rfl
      · obtain ⟨h, t, e⟩ := List.exists_cons_of_ne_nil hp
        rw [e]; simp
    · rw [if_neg hy, if_neg hy]
      obtain ⟨h, t, e⟩ := List.exists_cons_of_ne_nil hp
      rw [e]
      by_cases hx : (x == c) = true
      · rw [if_pos hx, if_pos hx]; rfl
      · rw [if_neg hx, if_neg hx]
        cases t with
        | nil => simp
        | cons u t => simp
theorem splitB_cutL (c : UInt8) : ∀ (n : Nat) (s : ByteArray), s.size ≤ n → (Lib.splitB ⟨#[c]⟩ 0 (Lib.countB s ⟨#[c]⟩) s).map (·.data.toList) = cutL c s.data.toList := by
  have hone : ∀ s : ByteArray, Lib.indexB s ⟨#[c]⟩ = Lib.indexByte s.data.toList c := by
    intro s
    have := Lib.one s ⟨#[c]⟩ rfl
    rw [this]
    congr 1
    show ((c.toNat : Int).toNat).toUInt8 = c
    simp
  intro n
  induction n with
  | zero =>
    intro s hs
    have h0 : s.data.toList = [] := by
      have := Lib.size_eq s
      exact List.length_eq_zero_iff.1 (by omega)
    have hm : Lib.indexB s ⟨#[c]⟩ = -1 := by rw [hone, h0]; rfl
    rw [Lib.splitB_miss _ _ _ _ hm, cutL_miss c _ (by rw [← hone]; exact hm)]
    rfl
  | succ n ih =>
    intro s hs
    rcases Lib.indexB_cases s ⟨#[c]⟩ with hm | ⟨i, hi, hle⟩
    · rw [Lib.splitB_miss _ _ _ _ hm, cutL_miss c _ (by rw [← hone]; exact hm)]
      rfl
    · have h1 : (⟨#[c]⟩ : ByteArray).size = 1 := rfl
      rw [Lib.countB_hit s _ i (by rw [h1]; exact Nat.le_refl _) hi, Nat.add_comm 1, Lib.splitB_hit _ _ _ _ i hi, List.map_cons, Lib.extract_from_zero, h1, Nat.add_zero]
      rw [ih (s.extract (i + 1) s.size) (by simp; omega), Lib.extract_to_end, cutL_hit c s.data.toList i (by rw [← hone]; exact hi)]
theorem extract_one {s : ByteArray} {k : Nat} (h : k < s.size) : (s.extract k (k + 1)).data.toList = [s.data.toList[k]'(by rw [← Lib.size_eq]; exact h)] := by
  rw [Lib.extract_data, Nat.add_sub_cancel_left]
  rw [List.take_one, List.head?_drop, List.getElem?_eq_getElem (by rw [← Lib.size_eq]; exact h)]; rfl
theorem bt_data {s : ByteArray} {k : Nat} (h : k < s.size) : bt s k = ((s.data.toList[k]'(by rw [← Lib.size_eq]; exact h)).toNat : Int) := by
  rw [← get_bt s k h]; rfl
theorem append_data (a b : ByteArray) : (a ++ b).data.toList = a.data.toList ++ b.data.toList := by simp
theorem cutTo_cutL (s : ByteArray) (c : UInt8) : ∀ k, k ≤ s.size → (Ref.cutTo s (c.toNat : Int) k).map (·.data.toList) = cutL c (s.data.toList.take k)
  | 0, _ => by rw [Ref.cutTo, List.take_zero]; rfl
  | k + 1, hk => by
    have hk' : k < s.size := by omega
    have hl : k < s.data.toList.length := by rw [← Lib.size_eq]; exact hk'
    have ih := cutTo_cutL s c k (by omega)
    rw [List.take_add_one, List.getElem?_eq_getElem hl, Option.toList_some, cutL_snoc, ← ih]
    by_cases h : (s.data.toList[k] == c) = true
    · rw [if_pos h, Ref.cut_yes (by rw [bt_data hk', eq_of_beq h]), List.map_append]; rfl
    · rw [if_neg h, Ref.cut_no (by
        rw [bt_data hk']; intro e
        apply h
        have : s.data.toList[k].toNat = c.toNat := by omega
        rw [UInt8.toNat_inj.1 this]; simp), List.map_set, append_data, extract_one hk', List.length_map, List.getElem?_map]
      have hp := Ref.cutTo_pos s (c.toNat : Int) k
      rw [List.getElem?_eq_getElem (by omega)]; rfl
theorem map_data_inj : ∀ {a b : List ByteArray}, a.map (·.data.toList) = b.map (·.data.toList) → a = b
  | [], [], _ => rfl
  | [], _ :: _, h => by simp at h
  | _ :: _, [], h => by simp at h
  | x :: a, y :: b, h => by
    simp only [List.map_cons, List.cons.injEq] at h
    rw [map_data_inj h.2]
    have : x = y := by rw [← Lib.mk_data x, h.1, Lib.mk_data]
    rw [this]
/-- strings.Split at one byte is the document's cut. -/
theorem split_cut (s : ByteArray) (c : UInt8) : Lib.splitB ⟨#[c]⟩ 0 (Lib.countB s ⟨#[c]⟩) s = Ref.cut s (c.toNat : Int) := by
  apply map_data_inj
  rw [splitB_cutL c s.size s (Nat.le_refl _)]
  unfold Ref.cut
  rw [cutTo_cutL s c s.size (Nat.le_refl _), List.take_of_length_le (by rw [← Lib.size_eq]; exact Nat.le_refl _)]
theorem count_cut (s : ByteArray) (c : UInt8) : Lib.countB s ⟨#[c]⟩ + 1 = (Ref.cut s (c.toNat : Int)).length := by
  rw [← split_cut, Lib.splitB_all _ (show 1 ≤ (⟨#[c]⟩ : ByteArray).size from Nat.le_refl 1) 0 _ s rfl]
/-- The blanks ahead. -/
theorem blanksF_drop (t : ByteArray) : ∀ (f d : Nat), d + f = t.size → t.data.toList.drop (Ref.blanksF t f d) = (t.data.toList.drop d).dropWhile (· == 32) ∧ d ≤ Ref.blanksF t f d
  | 0, d, h => by
    rw [Ref.blanksF, List.drop_eq_nil_of_le (by rw [← Lib.size_eq]; omega)]
    exact ⟨rfl, Nat.le_refl _⟩
  | f + 1, d, h => by
    have hd : d < t.size := by omega
    have hl : d < t.data.toList.length := by rw [← Lib.size_eq]; exact hd
    rw [Ref.blanksF, List.drop_eq_getElem_cons hl, List.dropWhile_cons]
    by_cases hb : bt t d = 32
    · have hx : (t.data.toList[d] == 32) = true := by
        rw [bt_data hd] at hb
        have : t.data.toList[d].toNat = (32 : UInt8).toNat := by
          have e : (32 : UInt8).toNat = 32 := rfl
          omega
        rw [UInt8.toNat_inj.1 this]; rfl
      have ih := blanksF_drop t f (d + 1) (by omega)
      rw [if_pos hb, if_pos hx]
      exact ⟨ih.1, by have := ih.2; omega⟩
    · have hx : ¬ (t.data.toList[d] == 32) = true := by
        intro e
        apply hb
        rw [bt_data hd, eq_of_beq e]; rfl
      rw [if_neg hb, if_neg hx, List.drop_eq_getElem_cons hl]
      exact ⟨rfl, Nat.le_refl _⟩
theorem trim_rest (t : ByteArray) : (⟨(Lib.trimLeftB t.data.toList 32).toArray⟩ : ByteArray) = Ref.rest t := by
  have h := (blanksF_drop t t.size 0 (by omega)).1
  rw [List.drop_zero] at h
  have e : (Ref.rest t).data.toList = Lib.trimLeftB t.data.toList 32 := by
    unfold Ref.rest Lib.trimLeftB
    rw [Lib.extract_to_end]; exact h
  rw [← e, Lib.mk_data]
theorem rest_size (t : ByteArray) : (Ref.rest t).size + Ref.blanks t = t.size := by
  have := Ref.blanks_le t
  unfold Ref.rest
  simp; omega
end Pro
end Go.Proofs.YtegmoddppafkfaaGreatDoor
namespace Go.Proofs.YtegmoddppafkfaaGreatDoor
open Go.RowKit

/-- What of the library's variables is asked beside. -/
structure EnvL (w : World) : Prop where
  env : Env w
  maxL : ∃ m, w.cell? ⟨3, 0, none⟩ = some (.int .i64 m)
theorem EnvL.keep {w w' : World} (h : EnvL w) (hb : Below w.heap.size w w') : EnvL w' :=
  ⟨h.env.keep hb, let ⟨m, hm⟩ := h.maxL; ⟨m, (World.cell?_of_block (hb.block _ (World.block_lt_of_cell? _ _ hm))).trans hm⟩⟩
theorem EnvL.at {w w' : World} (h : EnvL w) (hb : Below w.heap.size w w') : EnvAt w.heap.size w' := ⟨w, Nat.le_refl _, h.env, hb⟩
theorem split_any (s : ByteArray) (c : UInt8) (w : World) (hv : EnvL w) (hs : s.size < 4294967281) : Calls Tryz.prog 140 #[.string s, .string ⟨#[c]⟩] w fun e w' =>
    e = .returned (.slice (some ⟨w.heap.size, 0, none⟩) (Ref.cut s (c.toNat : Int)).length (Ref.cut s (c.toNat : Int)).length) ∧ w' = w.alloc (.cells ((Ref.cut s (c.toNat : Int)).map Value.string).toArray 9) := by
  obtain ⟨m, hm⟩ := hv.maxL
  refine (Tryz.strings_Split s ⟨#[c]⟩ m w hs hm (Nat.le_refl 1)).mono ?_
  rintro e w' ⟨rfl, rfl⟩
  rw [Pro.split_cut, Pro.count_cut]
  exact ⟨rfl, rfl⟩
theorem strs_cells {w : World} {b : Nat} {l : List ByteArray} {t : TypeId} {fz : Nat × Nat} (h : w.heap[b]? = some (.cells (l.map Value.string).toArray t fz)) : Strs w b 0 l := by
  intro i hi
  rw [Nat.zero_add, cell_of_row w b i _ _ _ h]
  simp [Ref.at', List.getElem?_eq_getElem hi, List.getD_eq_getElem?_getD]
theorem cut_size {s : ByteArray} {c : Int} : ∀ x ∈ Ref.cut s c, x.size ≤ s.size := Ref.cutTo_sizes s c s.size (Nat.le_refl _)
theorem cut_len {s : ByteArray} {c : Int} : (Ref.cut s c).length ≤ s.size + 1 := Ref.cutTo_le s c s.size
/-- What readLine answers. -/
def ReadLinePost (num : Nat) (t : ByteArray) (w : World) (e : Ending) (w' : World) : Prop := match Pro.pWhole num (Ref.cut (Ref.rest t) 32) with
  | none => Refused 2 num w e w'
  | some L => Below w.heap.size w w' ∧ ∃ v, e = .returned v ∧ LineV w' w.heap.size num (Ref.blanks t) L v
theorem refused_of_t {p : Nat} {er line : Int} {w0 w w' : World} {e : Ending} (hb : Below w0.heap.size w0 w) (hp : w0.heap.size ≤ p) (h : RefusedT p er line w e w') : Refused er line w0 e w' := by
  obtain ⟨ht, b, h2, h3, h4⟩ := h
  exact ⟨ht.below hb hp hb.size, b, Nat.le_trans hb.size h2, h3, h4⟩
theorem LineV.mono {w : World} {base base' : Nat} {num dep : Int} {L : Pro.PL} {v : Value} (h : LineV w base num dep L v) (hb : base' ≤ base) : LineV w base' num dep L v := by
  cases L with
  | state k n => exact h
  | move ev af d t A => obtain ⟨a, n, c, h1, h2⟩ := h; exact ⟨a, n, c, h1, own_mono h2 hb⟩
  | enter A => obtain ⟨a, n, c, h1, h2⟩ := h; exact ⟨a, n, c, h1, own_mono h2 hb⟩
  | leave A => obtain ⟨a, n, c, h1, h2⟩ := h; exact ⟨a, n, c, h1, own_mono h2 hb⟩

set_option maxHeartbeats 1600000 in
theorem readLine_any (num : Nat) (t : ByteArray) (w : World) (hv : EnvL w) (ht : t.size ≤ 1000000) (hnum : num ≤ 1073741824) :
    Calls Tryz.prog 142 #[.int .i64 num, .string t] w (ReadLinePost num t w) := by
  have hr := Pro.rest_size t
  have hct := Pro.trim_rest t
  go_enter Tryz.func142, Tryz.ntmps142
  go_wp2_with fail
  refine (Tryz.strings_TrimLeft_one t 32 (by decide) _).mono ?_
  rintro e w9 ⟨rfl, hw9⟩
  rw [hw9, hct]
  clear hw9 w9 hct
  dsimp only
  go_wp2_with fail
  refine (split_any (Ref.rest t) 32 _ hv (by omega)).mono ?_
  rintro e w9 ⟨rfl, hw9⟩
  rw [hw9]
  clear hw9 w9
  obtain ⟨l, hl⟩ : ∃ l, l = Ref.cut (Ref.rest t) ((32 : UInt8).toNat : Int) := ⟨_, rfl⟩
  rw [← hl]
  have hlen : l.length ≤ t.size + 1 := by rw [hl]; exact Nat.le_trans cut_len (by omega)
  have hsz : ∀ x ∈ l, x.size ≤ t.size := by rw [hl]; exact fun x hx => Nat.le_trans (cut_size x hx) (by omega)
  have HL : Hid _ := hl
  clear hl
  dsimp only
  go_wp2_with fail
  have hdep : (t.size : Int) - ((Ref.rest t).size : Int) = (Ref.blanks t : Int) := by omega
  rw [hdep]
  obtain ⟨w1, hw1⟩ : ∃ y, y = (w.alloc (.cells (l.map Value.string).toArray 9)).alloc (.cells #[.int .i64 num, .int .i64 (Ref.blanks t), .slice (some ⟨w.heap.size, 0, none⟩) l.length l.length] 343) := ⟨_, rfl⟩
  rw [← hw1]
  have hb1 : Below w.heap.size w w1 := by rw [hw1]; exact ((Below.refl _ _).alloc (Nat.le_refl _) _).alloc (by simp) _
  have hws : w.heap.size + 1 < w1.heap.size := by rw [hw1]; simp
  have H1 : WordsAt w1 (w.heap.size + 1) num (Ref.blanks t) l := by
    rw [hw1]
    refine ⟨⟨some ⟨w.heap.size, 0, none⟩, l.length, heap_last2 _ _ _, Nat.le_refl _, fun _ => ⟨w.heap.size, 0, rfl, by omega, by simp; omega, strs_cells (heap_prev _ _ _)⟩⟩, by omega, fun x hx => by have := hsz x hx; omega⟩
  have hv1 : EnvAt (w.heap.size + 1) w1 := ⟨w, by omega, hv.env, hb1⟩
  clear hw1 hsz hlen
  refine (line_any (w.heap.size + 1) num (Ref.blanks t) l w1 H1 hv1 hnum).mono ?_
  rintro e w2 h2
  unfold LinePost at h2
  have HP : Hid (ReadLinePost num t w = fun e w' => match Pro.pWhole num l with
    | none => Refused 2 num w e w'
    | some L => Below w.heap.size w w' ∧ ∃ v, e = .returned v ∧ LineV w' w.heap.size num (Ref.blanks t) L v) := by
    unfold Hid ReadLinePost; rw [HL.out]; rfl
  cases hp : Pro.pLine num l with
  | none =>
    rw [hp] at h2
    have HW : Hid (Pro.pWhole num l = none) := by unfold Hid Pro.pWhole; rw [hp]
    obtain ⟨hb, b, h4, h5, rfl⟩ := refused_of_t hb1 (by omega) h2
    dsimp only
    refine ⟨rfl, ?_⟩
    rw [HP.out]; simp only; rw [HW.out]
    exact ⟨hb, b, h4, h5, rfl⟩
  | some q =>
    obtain ⟨L, r⟩ := q
    rw [hp] at h2
    obtain ⟨v, rfl, hL, ht2, H2⟩ := h2
    have hb2 : Below w.heap.size w w2 := ht2.below hb1 (by omega) hb1.size
    have hL2 := hL.mono (show w.heap.size ≤ w1.heap.size by omega)
    cases r with
    | nil =>
      have HW : Hid (Pro.pWhole num l = some L) := by unfold Hid Pro.pWhole; rw [hp]
      clear hp hL ht2 H1 hv1
      dsimp only
      go_wp2_with fail
      refine (end_ok (w.heap.size + 1) num (Ref.blanks t) _ H2).mono ?_
      rintro e w9 ⟨rfl, hw9⟩
      rw [hw9]
      clear hw9 w9
      dsimp only
      go_wp2
      go_ret
      rw [HP.out]; simp only; rw [HW.out]
      exact ⟨hb2, v, rfl, hL2⟩
    | cons y r =>
      have HW : Hid (Pro.pWhole num l = none) := by unfold Hid Pro.pWhole; rw [hp]
      clear hp hL ht2 H1 hv1
      dsimp only
      go_wp2_with fail
      refine (end_bad (w.heap.size + 1) num (Ref.blanks t) (y :: r) _ H2 (by simp)).mono ?_
      rintro e w3 hq
      obtain ⟨hb, b, h4, h5, rfl⟩ := hq
      dsimp only
      refine ⟨rfl, ?_⟩
      rw [HP.out]; simp only; rw [HW.out]
      exact ⟨hb2.trans (hb.mono hb2.size), b, Nat.le_trans hb2.size h4, h5, rfl⟩
end Go.Proofs.YtegmoddppafkfaaGreatDoor
namespace Go.Proofs.YtegmoddppafkfaaGreatDoor
open Go.RowKit

theorem clone_any (s : ByteArray) (w : World) (hs : s.size ≤ 281474976710656) : Calls Tryz.prog 141 #[.string s] w fun e w' => e = .returned (.string s) ∧ Below w.heap.size w w' := by
  go_enter Tryz.func141, Tryz.ntmps141
  go_wp2_with fail
  refine (Tryz.stringslite_Clone s _ hs).mono ?_
  rintro e w1 ⟨rfl, hb⟩
  dsimp only
  go_wp2
  go_ret
  exact ⟨rfl, hb⟩
theorem Tryz.infoLine : (Tryz.prog.info? 224).map (fun i => (i.zero, i.size, i.bytes)) = some (some .nilIface, 1, 16) := by kernel_rfl
namespace Pro
/-- The words of line i. -/
def wl (P : List ByteArray) (i : Nat) : List ByteArray := Ref.cut (Ref.rest (Ref.pc P i)) 32
theorem lineOf_pro (P : List ByteArray) (i : Nat) : Ref.lineOf (Ref.pc P i) i = ((pWhole (i + 1) (wl P i)).map (toLine (i + 1))).getD Ref.noLine := said_pro (i + 1) _
theorem lineOf_none {P : List ByteArray} {i : Nat} (h : pWhole (i + 1) (wl P i) = none) : (Ref.lineOf (Ref.pc P i) i).kind = 0 := by rw [lineOf_pro, h]; rfl
theorem lineOf_some {P : List ByteArray} {i : Nat} {L : PL} (h : pWhole (i + 1) (wl P i) = some L) : Ref.lineOf (Ref.pc P i) i = toLine (i + 1) L := by rw [lineOf_pro, h]; rfl
end Pro
/-- Lines that lie in memory: the first k of them. -/
structure LinesTo (w : World) (P : List ByteArray) (k : Nat) (vs : List Value) (LS : List Pro.PL) : Prop where
  lv : vs.length = k
  ll : LS.length = k
  row : ∀ j (h : j < k), Pro.pWhole (j + 1) (Pro.wl P j) = some (LS[j]'(by omega)) ∧ LineV w 0 (j + 1 : Nat) (Ref.blanks (Ref.pc P j)) (LS[j]'(by omega)) (vs[j]'(by omega))
theorem LineV.keep {w w' : World} {num dep : Int} {L : Pro.PL} {v : Value} (h : LineV w 0 num dep L v) (hb : Below w.heap.size w w') : LineV w' 0 num dep L v := by
  cases L with
  | state k n => exact h
  | move ev af d t A => obtain ⟨a, n, c, h1, h2⟩ := h; exact ⟨a, n, c, h1, own_keep h2 hb⟩
  | enter A => obtain ⟨a, n, c, h1, h2⟩ := h; exact ⟨a, n, c, h1, own_keep h2 hb⟩
  | leave A => obtain ⟨a, n, c, h1, h2⟩ := h; exact ⟨a, n, c, h1, own_keep h2 hb⟩
theorem LineV.tag {w w' : World} {num dep : Int} {L : Pro.PL} {v : Value} {g : Nat} {c : Array Value} {t : TypeId} {fz : Nat × Nat} (h : LineV w 0 num dep L v) (ho : Only g w w') (hg : w.heap[g]? = some (.cells c t fz)) (hne : 324 ≠ t) : LineV w' 0 num dep L v := by
  cases L with
  | state k n => exact h
  | move ev af d t A => obtain ⟨a, n, c, h1, h2⟩ := h; exact ⟨a, n, c, h1, own_tag h2 ho hg hne⟩
  | enter A => obtain ⟨a, n, c, h1, h2⟩ := h; exact ⟨a, n, c, h1, own_tag h2 ho hg hne⟩
  | leave A => obtain ⟨a, n, c, h1, h2⟩ := h; exact ⟨a, n, c, h1, own_tag h2 ho hg hne⟩
theorem LineV.iface {w : World} {base : Nat} {num dep : Int} {L : Pro.PL} {v : Value} (h : LineV w base num dep L v) : ∃ t u, v = .iface t u := by
  cases L with
  | state k n => exact ⟨_, _, h⟩
  | move ev af d t A => obtain ⟨a, n, c, h1, h2⟩ := h; exact ⟨_, _, h1⟩
  | enter A => obtain ⟨a, n, c, h1, h2⟩ := h; exact ⟨_, _, h1⟩
  | leave A => obtain ⟨a, n, c, h1, h2⟩ := h; exact ⟨_, _, h1⟩
theorem LinesTo.next {w w' : World} {P : List ByteArray} {k : Nat} {vs : List Value} {LS : List Pro.PL} {v : Value} {L : Pro.PL} (H : LinesTo w P k vs LS) (hk : ∀ num dep L v, LineV w 0 num dep L v → LineV w' 0 num dep L v)
    (h1 : Pro.pWhole (k + 1) (Pro.wl P k) = some L) (h2 : LineV w' 0 (k + 1 : Nat) (Ref.blanks (Ref.pc P k)) L v) : LinesTo w' P (k + 1) (vs ++ [v]) (LS ++ [L]) := by
  have hlv := H.lv
  have hll := H.ll
  refine ⟨by simp [hlv], by simp [hll], fun j hj => ?_⟩
  by_cases e : j = k
  · subst e
    rw [List.getElem_append_right (by omega), List.getElem_append_right (by omega)]
    simp only [hlv, hll, Nat.sub_self, List.getElem_cons_zero]
    exact ⟨h1, h2⟩
  · have hj' : j < k := by omega
    obtain ⟨r1, r2⟩ := H.row j hj'
    rw [List.getElem_append_left (by omega), List.getElem_append_left (by omega)]
    exact ⟨r1, hk _ _ _ _ r2⟩
/-- What readLines answers. -/
def ReadLinesPost (s : ByteArray) (w : World) (e : Ending) (w' : World) : Prop :=
  if 1500 < s.size then Refused 1 0 w e w'
  else match Ref.syn (Ref.cut s 10) with
    | some i => Refused 2 ((i : Int) + 1) w e w'
    | none => Below w.heap.size w w' ∧ ∃ lb vs LS, e = .returned (.slice (some ⟨lb, 0, none⟩) vs.length vs.length) ∧ w'.heap[lb]? = some (.cells vs.toArray 224 (0, 0)) ∧ 0 < vs.length ∧ LinesTo w' (Ref.cut s 10) ((Ref.cut s 10).length - 1) vs LS

set_option maxHeartbeats 1600000 in
theorem readLines_long (s : ByteArray) (w : World) (hs : 1500 < s.size) (hs2 : s.size ≤ 1073741824) :
    Calls Tryz.prog 106 #[.string s] w (ReadLinesPost s w) := by
  go_enter Tryz.func106, Tryz.ntmps106
  go_wp2_with fail
  refine (refuse_any 0 0 1 _).mono ?_
  rintro e w1 ⟨hb, b, h4, h5, rfl⟩
  dsimp only
  refine ⟨rfl, ?_⟩
  unfold ReadLinesPost
  rw [if_pos hs]
  exact ⟨hb, b, h4, h5, rfl⟩
theorem set_line {vs : List Value} {m k : Nat} (hk : vs.length = k) (v : Value) : (vs ++ List.replicate (m + 1) Value.nilIface).toArray.setIfInBounds k v = ((vs ++ [v]) ++ List.replicate m Value.nilIface).toArray := by
  rw [List.setIfInBounds_toArray, List.set_append_right _ _ (by omega), hk, Nat.sub_self, List.replicate_succ, List.set_cons_zero]
  simp
theorem made_nil (n : Nat) : madeCells #[Value.nilIface] n = (List.replicate n Value.nilIface).toArray := by
  apply Array.ext
  · simp [madeCells]
  · intro i h1 h2
    simp [madeCells, Nat.mod_one]
set_option maxRecDepth 100000 in
set_option maxHeartbeats 1600000 in
theorem readLines_any (s : ByteArray) (w : World) (hv : EnvL w) (hs : s.size ≤ 1500) :
    Calls Tryz.prog 106 #[.string s] w (ReadLinesPost s w) := by
  obtain ⟨P, hP⟩ : ∃ P, P = Ref.cut s ((10 : UInt8).toNat : Int) := ⟨_, rfl⟩
  have hpos : 0 < P.length := by rw [hP]; exact Ref.cutTo_pos _ _ _
  obtain ⟨n, hn⟩ : ∃ n, P.length = n + 1 := ⟨P.length - 1, by omega⟩
  clear hpos
  have hlen : n ≤ 1500 := by
    have : P.length ≤ s.size + 1 := by rw [hP]; exact cut_len
    omega
  have HSZ : Hid (∀ j, (Ref.pc P j).size ≤ 1500) := by
    intro j
    unfold Ref.pc
    rw [List.getD_eq_getElem?_getD]
    cases e : P[j]? with
    | none => exact Nat.zero_le _
    | some x => rw [hP] at e; exact Nat.le_trans (cut_size x (List.mem_of_getElem? e)) hs
  have HPost : Hid (ReadLinesPost s w = fun e w' => match Ref.syn P with
    | some i => Refused 2 ((i : Int) + 1) w e w'
    | none => Below w.heap.size w w' ∧ ∃ lb vs LS, e = .returned (.slice (some ⟨lb, 0, none⟩) vs.length vs.length) ∧ w'.heap[lb]? = some (.cells vs.toArray 224 (0, 0)) ∧ 0 < vs.length ∧ LinesTo w' P (P.length - 1) vs LS) := by
    funext e w'
    unfold ReadLinesPost
    rw [if_neg (by omega), hP]; rfl
  have hmk := run_make_row' (P := Tryz.prog) 219 224 .nilIface 16 Tryz.underlying219 Tryz.infoLine rfl .i64 .i64 n (by omega) (by omega)
  go_enter Tryz.func106, Tryz.ntmps106
  go_wp2_with fail
  refine (clone_any s _ (by omega)).mono ?_
  rintro e w1 ⟨rfl, hb1⟩
  have hv1 := hv.keep hb1
  dsimp only
  go_wp2_with fail
  refine (split_any s 10 _ hv1 (by omega)).mono ?_
  rintro e w9 ⟨rfl, hw9⟩
  rw [hw9, ← hP]
  clear hw9 w9
  have HPn : Hid (P.length = n + 1) := hn
  have HP : Hid _ := hP
  rw [hn]
  clear hP hn
  dsimp only
  go_wp2
  go_loopg [25] n (fun q i wr => ∃ (k : Nat) (vs : List Value) (LS : List Pro.PL), q = n - k ∧ k ≤ n ∧ i = .int .i64 k ∧ Ref.synF P k = none ∧ wr.heap[w1.heap.size]? = some (.cells (P.map Value.string).toArray 9 (0, 0)) ∧ wr.heap[w1.heap.size + 1]? = some (.cells (vs ++ List.replicate (n - k) Value.nilIface).toArray 224 (0, 0)) ∧ LinesTo wr P k vs LS ∧ Below w.heap.size w wr ∧ Below w1.heap.size w1 wr)
  case atStart =>
    refine ⟨0, [], [], rfl, Nat.zero_le _, rfl, rfl, heap_prev _ _ _, ?_, ⟨rfl, rfl, fun j h => absurd h (by omega)⟩, (hb1.alloc hb1.size _).alloc (by have := hb1.size; simp; omega) _, ((Below.refl _ _).alloc (Nat.le_refl _) _).alloc (by simp) _⟩
    rw [heap_last2, made_nil]; rfl
  case round =>
    obtain ⟨k, vs, LS, hq, hk, rfl, hsyn, hPB, hLB, HL, hbw, hbw1⟩ := hrel
    have hlv := HL.lv
    have cP : wr.cell? ⟨w1.heap.size, k, none⟩ = some (.string (Ref.pc P k)) := by
      rw [cell_of_row wr _ k _ _ _ hPB]
      simp only [List.getElem?_toArray, List.getElem?_map, Ref.pc, List.getD_eq_getElem?_getD]
      rw [List.getElem?_eq_getElem (show k < P.length by rw [HPn.out]; omega)]; rfl
    have hbs := hbw.size
    have hbs1 := hbw1.size
    have lP := (Array.getElem?_eq_some_iff.1 hPB).1
    have lL := (Array.getElem?_eq_some_iff.1 hLB).1
    by_cases hkn : k < n
    · have hszk := HSZ.out k
      have hvr := hv1.keep hbw1
      go_wp2_with fail
      refine (readLine_any (k + 1) (Ref.pc P k) _ hvr (by omega) (by omega)).mono ?_
      rintro e w2 h2
      unfold ReadLinePost at h2
      change (match Pro.pWhole (k + 1) (Pro.wl P k) with | none => _ | some L => _) at h2
      cases hp : Pro.pWhole (k + 1) (Pro.wl P k) with
      | none =>
        rw [hp] at h2
        have HS : Hid (Ref.syn P = some k) := Ref.syn_bad (by rw [HPn.out]; omega) hsyn (Pro.lineOf_none hp)
        obtain ⟨hb, b, h4, h5, rfl⟩ := h2
        dsimp only
        refine ⟨rfl, ?_⟩
        rw [HPost.out]; simp only; rw [HS.out]
        exact ⟨hbw.trans (hb.mono hbs), b, Nat.le_trans hbs h4, h5, rfl⟩
      | some L =>
        rw [hp] at h2
        obtain ⟨hb2, v, rfl, hLV⟩ := h2
        obtain ⟨vt, vu, rfl⟩ := hLV.iface
        have hPB2 := (hb2.block _ lP).trans hPB
        have hLB2 := (hb2.block _ lL).trans hLB
        obtain ⟨m, hm⟩ : ∃ m, n - k = m + 1 := ⟨n - k - 1, by omega⟩
        rw [hm] at hLB2
        have cL : w2.cell? ⟨w1.heap.size + 1, k, none⟩ = some .nilIface := by
          rw [cell_of_row w2 _ k _ _ _ hLB2, List.getElem?_toArray, List.getElem?_append_right (by omega), hlv, Nat.sub_self]; rfl
        have fL : w2.frozen? ⟨w1.heap.size + 1, k, none⟩ = false := by simp [World.frozen?, hLB2]
        have HSY : Hid (Ref.synF P (k + 1) = none) := Ref.synF_succ hsyn (by rw [Pro.lineOf_some hp]; exact Pro.toLine_kind _ _)
        have HLV : Hid (LineV w2 0 ((k + 1 : Nat) : Int) (Ref.blanks (Ref.pc P k)) L (.iface vt vu)) := LineV.mono hLV (Nat.zero_le _)
        have HH : Hid _ := hPB2
        have HH2 : Hid _ := hLB2
        have HM : Hid _ := hm
        have HHL : Hid _ := HL
        have HPW : Hid _ := hp
        clear hLV hPB2 hLB2 hm hPB hLB hsyn cP hp HL
        dsimp only
        go_wp2
        go_roundg (n - (k + 1))
        case measure => omega
        case rel =>
          have hs1 := hb1.size
          have oo := only_setCell w2 (w1.heap.size + 1) k (.iface vt vu)
          have hb3 := oo.below (hbw.trans (hb2.mono hbs)) (by omega)
          refine ⟨k + 1, vs ++ [.iface vt vu], LS ++ [L], rfl, by omega, rfl, HSY.out, ?_, ?_, ?_, hb3, oo.below (hbw1.trans (hb2.mono hbs1)) (by omega)⟩
          · rw [oo.block _ (by omega)]; exact HH.out
          · rw [heap_setCell_same w2 _ k _ _ (.iface vt vu) HH2.out, set_line hlv, show n - (k + 1) = m by have := HM.out; omega]
          · refine HHL.out.next (fun num dep L' v' h => (h.keep hb2).tag oo HH2.out (by decide)) HPW.out (LineV.tag HLV.out oo HH2.out (by decide))
    · obtain rfl : k = n := by omega
      have hn0 : k - k = 0 := by omega
      rw [hn0] at hLB
      have hk1500 := hlen
      have HLB : Hid _ := hLB
      have HHL : Hid _ := HL
      have HSYN : Hid _ := hsyn
      clear hLB HL hsyn hPB hq hk hkn hn0
      by_cases h0 : k = 0
      · have HS : Hid (Ref.syn P = some k) := by
          have := Ref.syn_last (P := P) (by rw [HPn.out]; exact HSYN.out) (fun h => by have := h.1; rw [HPn.out] at this; omega)
          rw [HPn.out] at this; exact this
        subst h0
        go_wp2_with fail
        refine (refuse_any 1 0 2 _).mono ?_
        rintro e w2 ⟨hb, b, h4, h5, rfl⟩
        dsimp only
        refine ⟨rfl, ?_⟩
        rw [HPost.out]; simp only; rw [HS.out]
        exact ⟨hbw.trans (hb.mono hbs), b, Nat.le_trans hbs h4, h5, rfl⟩
      · cases hE : (Ref.pc P k).toList.isEmpty
        case true =>
          have HS : Hid (Ref.syn P = none) := by
            refine Ref.syn_none (P := P) (by rw [HPn.out]; exact HSYN.out) (by rw [HPn.out]; omega) ?_
            rw [HPn.out]; exact hE
          have hE' : (Ref.pc P k).toList = [] := List.isEmpty_iff.1 hE
          go_wp2
          go_ret
          rw [HPost.out]; simp only; rw [HS.out]
          refine ⟨hbw, w1.heap.size + 1, vs, LS, ?_, ?_, ?_, ?_⟩
          · rw [hlv]; rfl
          · have := HLB.out
            simpa using this
          · omega
          · have := HHL.out
            rw [HPn.out]; exact this
        case false =>
          have HS : Hid (Ref.syn P = some k) := by
            have := Ref.syn_last (P := P) (by rw [HPn.out]; exact HSYN.out) (fun h => by
              have h := h.2
              rw [HPn.out] at h
              have : (Ref.pc P k).toList.isEmpty = true := h
              rw [hE] at this; cases this)
            rw [HPn.out] at this; exact this
          go_wp2_with fail
          refine (refuse_any (k + 1) 0 2 _).mono ?_
          rintro e w2 ⟨hb, b, h4, h5, rfl⟩
          dsimp only
          refine ⟨rfl, ?_⟩
          rw [HPost.out]; simp only; rw [HS.out]
          exact ⟨hbw.trans (hb.mono hbs), b, Nat.le_trans hbs h4, h5, rfl⟩
end Go.Proofs.YtegmoddppafkfaaGreatDoor
