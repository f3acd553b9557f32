/-
  MY OWN TEXT.
-/
import Derived.Test.YtegmoddppafkfaaGreatDoorM14
import Derived.Test.YtegmoddppafkfaaGreatDoorM21
namespace Go.Proofs.YtegmoddppafkfaaGreatDoor
open Go.RowKit

namespace Pro
/-- The states that are open behind the first k. -/
def opnTo (S : List Ref.State) : Nat → List Nat
  | 0 => []
  | k + 1 => (opnTo S k).take (S.getD k Ref.st0).depth.toNat ++ [k]
def opn (S : List Ref.State) : List Nat := opnTo S S.length
/-- Each state stood where it may stand. -/
def Val (S : List Ref.State) : Prop := ∀ k, k < S.length → 0 ≤ (S.getD k Ref.st0).depth ∧ (S.getD k Ref.st0).depth.toNat ≤ (opnTo S k).length
theorem opnTo_congr {S S' : List Ref.State} : ∀ k, (∀ i, i < k → (S.getD i Ref.st0).depth = (S'.getD i Ref.st0).depth) → opnTo S k = opnTo S' k
  | 0, _ => rfl
  | k + 1, h => by rw [opnTo, opnTo, opnTo_congr k (fun i hi => h i (by omega)), h k (by omega)]
theorem up_opn {S : List Ref.State} (hV : Val S) (dn : Nat) (hd : 0 < dn) : ∀ k, k ≤ S.length → Ref.upAux S dn k = match (opnTo S k)[dn - 1]? with | some i => (i : Int) | none => -1
  | 0, _ => by simp [Ref.upAux, opnTo]
  | k + 1, hk => by
    have ih := up_opn hV dn hd k (by omega)
    obtain ⟨h0, h1⟩ := hV k (by omega)
    obtain ⟨e, he⟩ : ∃ e : Nat, (S.getD k Ref.st0).depth = e := ⟨(S.getD k Ref.st0).depth.toNat, by omega⟩
    rw [he] at h1
    simp only [Int.toNat_natCast] at h1
    rw [Ref.upAux, opnTo, he]
    simp only [Int.toNat_natCast]
    have hl : ((opnTo S k).take e).length = e := by rw [List.length_take]; omega
    by_cases h2 : (e : Int) = dn - 1
    · rw [if_pos h2, List.getElem?_append_right (by omega), hl]
      have : dn - 1 - e = 0 := by omega
      rw [this]; rfl
    · rw [if_neg h2]
      by_cases h3 : (e : Int) < dn - 1
      · rw [if_pos h3, List.getElem?_eq_none (by rw [List.length_append, hl]; simp; omega)]
      · rw [if_neg h3, ih, List.getElem?_append_left (by omega), List.getElem?_take, if_pos (by omega)]
theorem upOf_opn {S : List Ref.State} (hV : Val S) (dn : Nat) : Ref.upOf S dn = if dn = 0 then -1 else match (opn S)[dn - 1]? with | some i => (i : Int) | none => -1 := by
  unfold Ref.upOf
  by_cases h : dn = 0
  · subst h; rfl
  · rw [if_neg h, if_pos (by omega), up_opn hV dn (by omega) S.length (Nat.le_refl _)]; rfl
theorem opnTo_lt (S : List Ref.State) : ∀ k, ∀ i ∈ opnTo S k, i < k
  | 0, i, h => by simp [opnTo] at h
  | k + 1, i, h => by
    rw [opnTo] at h
    rcases List.mem_append.1 h with h | h
    · have := opnTo_lt S k i (List.mem_of_mem_take h); omega
    · rw [List.mem_singleton.1 h]; omega
theorem opnTo_len (S : List Ref.State) : ∀ k, (opnTo S k).length ≤ k
  | 0 => by simp [opnTo]
  | k + 1 => by
    have := opnTo_len S k
    rw [opnTo, List.length_append, List.length_take]; simp; omega
theorem getD_append_left {S : List Ref.State} {s : Ref.State} {i : Nat} (h : i < S.length) : (S ++ [s]).getD i Ref.st0 = S.getD i Ref.st0 := by
  rw [List.getD_eq_getElem?_getD, List.getD_eq_getElem?_getD, List.getElem?_append_left h]
theorem getD_append_last {S : List Ref.State} {s : Ref.State} : (S ++ [s]).getD S.length Ref.st0 = s := by
  rw [List.getD_eq_getElem?_getD, List.getElem?_append_right (Nat.le_refl _)]; simp
theorem opn_append (S : List Ref.State) (s : Ref.State) : opn (S ++ [s]) = (opn S).take s.depth.toNat ++ [S.length] := by
  unfold opn
  rw [List.length_append, show S.length + [s].length = S.length + 1 from rfl, opnTo, getD_append_last, opnTo_congr (S' := S) S.length (fun i hi => by rw [getD_append_left hi])]
theorem val_append {S : List Ref.State} {s : Ref.State} (hV : Val S) (h0 : 0 ≤ s.depth) (h1 : s.depth.toNat ≤ (opn S).length) : Val (S ++ [s]) := by
  intro k hk
  by_cases h : k < S.length
  · rw [getD_append_left h, opnTo_congr (S' := S) k (fun i hi => by rw [getD_append_left (by omega)])]
    exact hV k h
  · have e : k = S.length := by simp at hk; omega
    subst e
    rw [getD_append_last, opnTo_congr (S' := S) S.length (fun i hi => by rw [getD_append_left hi])]
    exact ⟨h0, h1⟩
/-- What belongs to state i, of the first k. -/
def partsTo (S : List Ref.State) (i : Nat) : Nat → List Nat
  | 0 => []
  | k + 1 => if (S.getD k Ref.st0).up = i then partsTo S i k ++ [k] else partsTo S i k
def parts (S : List Ref.State) (i : Nat) : List Nat := partsTo S i S.length
theorem partsTo_congr {S S' : List Ref.State} (i : Nat) : ∀ k, (∀ j, j < k → (S.getD j Ref.st0).up = (S'.getD j Ref.st0).up) → partsTo S i k = partsTo S' i k
  | 0, _ => rfl
  | k + 1, h => by rw [partsTo, partsTo, partsTo_congr i k (fun j hj => h j (by omega)), h k (by omega)]
theorem parts_append (S : List Ref.State) (s : Ref.State) (i : Nat) : parts (S ++ [s]) i = if (i : Int) = s.up then parts S i ++ [S.length] else parts S i := by
  unfold parts
  rw [List.length_append, show S.length + [s].length = S.length + 1 from rfl, partsTo, getD_append_last, partsTo_congr (S' := S) i S.length (fun j hj => by rw [getD_append_left hj])]
  by_cases h : s.up = i
  · rw [if_pos h, if_pos h.symm]
  · rw [if_neg h, if_neg (fun e => h e.symm)]
theorem partsTo_len (S : List Ref.State) (i : Nat) : ∀ k, (partsTo S i k).length ≤ k
  | 0 => by simp [partsTo]
  | k + 1 => by
    have := partsTo_len S i k
    rw [partsTo]
    split
    · rw [List.length_append]; simp; omega
    · omega
theorem partsTo_none {S : List Ref.State} {i : Nat} : ∀ k, (∀ j, j < k → (S.getD j Ref.st0).up ≠ i) → partsTo S i k = []
  | 0, _ => rfl
  | k + 1, h => by rw [partsTo, if_neg (h k (by omega)), partsTo_none k (fun j hj => h j (by omega))]
theorem mem_parts {S : List Ref.State} {i x : Nat} : ∀ k, x ∈ partsTo S i k ↔ x < k ∧ (S.getD x Ref.st0).up = i
  | 0 => by simp [partsTo]
  | k + 1 => by
    have ih := mem_parts (S := S) (i := i) (x := x) k
    rw [partsTo]
    by_cases h : (S.getD k Ref.st0).up = i
    · rw [if_pos h, List.mem_append, ih, List.mem_singleton]
      constructor
      · rintro (⟨h1, h2⟩ | rfl)
        · exact ⟨by omega, h2⟩
        · exact ⟨by omega, h⟩
      · rintro ⟨h1, h2⟩
        by_cases e : x = k
        · exact .inr e
        · exact .inl ⟨by omega, h2⟩
    · rw [if_neg h, ih]
      constructor
      · rintro ⟨h1, h2⟩; exact ⟨by omega, h2⟩
      · rintro ⟨h1, h2⟩
        have : x ≠ k := by rintro rfl; exact h h2
        exact ⟨by omega, h2⟩
/-- Each state's word is one of the four, and only a history is deep. -/
def WordOK (s : Ref.State) : Prop := ∃ k : Int, 0 ≤ k ∧ k ≤ 4 ∧ s.word = wordOf k ∧ s.deep = decide (k = 4)
theorem kindOf_word {s : Ref.State} {k : Int} (h0 : 0 ≤ k) (h4 : k ≤ 4) (hw : s.word = wordOf k) (hd : s.deep = decide (k = 4)) : kindOf s = k := by
  have hk : k = 0 ∨ k = 1 ∨ k = 2 ∨ k = 3 ∨ k = 4 := by omega
  unfold kindOf
  rw [hw, hd]
  rcases hk with rfl | rfl | rfl | rfl | rfl
  · rw [show wordOf 0 = bState from rfl, state_list]; rfl
  · rw [show wordOf 1 = bParallel from rfl, parallel_list]; rfl
  · rw [show wordOf 2 = bFinal from rfl, final_list]; rfl
  · rw [show wordOf 3 = bHistory from rfl, history_list]; rfl
  · rw [show wordOf 4 = bHistory from rfl, history_list]; rfl
theorem word_hist {s : Ref.State} (h : WordOK s) : (s.word.toList == Ref.cHistory) = isHist (kindOf s) := by
  obtain ⟨k, h0, h4, hw, hd⟩ := h
  rw [kindOf_word h0 h4 hw hd, hw]
  have hk : k = 0 ∨ k = 1 ∨ k = 2 ∨ k = 3 ∨ k = 4 := by omega
  rcases hk with rfl | rfl | rfl | rfl | rfl
  · rw [show wordOf 0 = bState from rfl, state_list]; rfl
  · rw [show wordOf 1 = bParallel from rfl, parallel_list]; rfl
  · rw [show wordOf 2 = bFinal from rfl, final_list]; rfl
  · rw [show wordOf 3 = bHistory from rfl, history_list]; rfl
  · rw [show wordOf 4 = bHistory from rfl, history_list]; rfl
theorem word_final {s : Ref.State} (h : WordOK s) : (s.word.toList == Ref.cFinal) = decide (kindOf s = 2) := by
  obtain ⟨k, h0, h4, hw, hd⟩ := h
  rw [kindOf_word h0 h4 hw hd, hw]
  have hk : k = 0 ∨ k = 1 ∨ k = 2 ∨ k = 3 ∨ k = 4 := by omega
  rcases hk with rfl | rfl | rfl | rfl | rfl
  · rw [show wordOf 0 = bState from rfl, state_list]; rfl
  · rw [show wordOf 1 = bParallel from rfl, parallel_list]; rfl
  · rw [show wordOf 2 = bFinal from rfl, final_list]; rfl
  · rw [show wordOf 3 = bHistory from rfl, history_list]; rfl
  · rw [show wordOf 4 = bHistory from rfl, history_list]; rfl
theorem word_par {s : Ref.State} (h : WordOK s) : (s.word.toList == Ref.cParallel) = decide (kindOf s = 1) := by
  obtain ⟨k, h0, h4, hw, hd⟩ := h
  rw [kindOf_word h0 h4 hw hd, hw]
  have hk : k = 0 ∨ k = 1 ∨ k = 2 ∨ k = 3 ∨ k = 4 := by omega
  rcases hk with rfl | rfl | rfl | rfl | rfl
  · rw [show wordOf 0 = bState from rfl, state_list]; rfl
  · rw [show wordOf 1 = bParallel from rfl, parallel_list]; rfl
  · rw [show wordOf 2 = bFinal from rfl, final_list]; rfl
  · rw [show wordOf 3 = bHistory from rfl, history_list]; rfl
  · rw [show wordOf 4 = bHistory from rfl, history_list]; rfl
theorem kind_range {s : Ref.State} (h : WordOK s) : 0 ≤ kindOf s ∧ kindOf s ≤ 4 := by
  obtain ⟨k, h0, h4, hw, hd⟩ := h
  rw [kindOf_word h0 h4 hw hd]; exact ⟨h0, h4⟩
end Pro
end Go.Proofs.YtegmoddppafkfaaGreatDoor
namespace Go.Proofs.YtegmoddppafkfaaGreatDoor
open Go.RowKit

namespace Pro
/-- What holds of the states behind the first i lines. -/
structure Inv (S : List Ref.State) (i : Nat) : Prop where
  val : Val S
  words : ∀ s ∈ S, WordOK s
  len : S.length ≤ 24
  up : ∀ k, k < S.length → -1 ≤ (S.getD k Ref.st0).up ∧ (S.getD k Ref.st0).up < k
  enter : ∀ s ∈ S, (0 < s.has0 ↔ s.enter ≠ [])
  leave : ∀ s ∈ S, (0 < s.has1 ↔ s.leave ≠ [])
  moves : ∀ s ∈ S, s.moves.length ≤ i
theorem Inv.nil : Inv [] 0 := ⟨fun k h => absurd h (by simp), fun s h => absurd h (by simp), by simp, fun k h => absurd h (by simp), fun s h => absurd h (by simp), fun s h => absurd h (by simp), fun s h => absurd h (by simp)⟩
theorem getD_mem {S : List Ref.State} {k : Nat} (h : k < S.length) : S.getD k Ref.st0 ∈ S := by
  rw [List.getD_eq_getElem?_getD, List.getElem?_eq_getElem h]; exact List.getElem_mem h
theorem getD_eq {S : List Ref.State} {k : Nat} (h : k < S.length) : S.getD k Ref.st0 = S[k] := by
  rw [List.getD_eq_getElem?_getD, List.getElem?_eq_getElem h]; rfl
/-- The state that a line of depth d belongs to. -/
theorem up_some {S : List Ref.State} {i : Nat} (hI : Inv S i) {k : Nat} (hk : k < (opn S).length) : Ref.upOf S ((k + 1 : Nat) : Int) = ((opn S)[k] : Int) ∧ (opn S)[k] < S.length := by
  refine ⟨?_, opnTo_lt S S.length _ (List.getElem_mem hk)⟩
  rw [upOf_opn hI.val, if_neg (by omega)]
  rw [show k + 1 - 1 = k from rfl, List.getElem?_eq_getElem hk]
theorem up_zero (S : List Ref.State) : Ref.upOf S ((0 : Nat) : Int) = -1 := rfl
theorem up_none {S : List Ref.State} {i : Nat} (hI : Inv S i) {d : Nat} (h : (opn S).length < d) : Ref.upOf S (d : Int) = -1 := by
  rw [upOf_opn hI.val, if_neg (by omega), List.getElem?_eq_none (by omega)]
theorem noneUp_parts (S : List Ref.State) (u : Nat) : Ref.noneUp (S.map Ref.emb) (u : Int) = (parts S u).isEmpty := by
  unfold Ref.noneUp parts
  cases h : (partsTo S u S.length).isEmpty
  · have hne : partsTo S u S.length ≠ [] := fun e => by rw [e] at h; cases h
    obtain ⟨x, t, e⟩ := List.exists_cons_of_ne_nil hne
    have hx : x ∈ partsTo S u S.length := by rw [e]; exact List.mem_cons_self
    obtain ⟨h1, h2⟩ := (mem_parts S.length).1 hx
    rw [List.all_eq_false]
    exact ⟨Ref.emb (S.getD x Ref.st0), List.mem_map_of_mem (getD_mem h1), by
      show ¬ (!decide ((S.getD x Ref.st0).up = (u : Int))) = true
      rw [decide_eq_true h2]; simp⟩
  · have hn : partsTo S u S.length = [] := List.isEmpty_iff.1 h
    rw [List.all_eq_true]
    intro y hy
    obtain ⟨s, hs, rfl⟩ := List.mem_map.1 hy
    obtain ⟨k, hk, rfl⟩ := List.getElem_of_mem hs
    have : ¬ k ∈ partsTo S u S.length := by rw [hn]; simp
    rw [mem_parts, getD_eq hk] at this
    simp only [Ref.emb, Bool.not_eq_true']
    exact decide_eq_false fun e => this ⟨hk, e⟩
theorem upAt_emb {S : List Ref.State} {u : Nat} (h : u < S.length) : (Ref.upAt (S.map Ref.emb) (u : Int)).s = S[u] := by
  unfold Ref.upAt
  rw [Int.toNat_natCast, List.getD_eq_getElem?_getD, List.getElem?_map, List.getElem?_eq_getElem h]; rfl
/-- Whether a state may stand there: the document's words and the program's. -/
theorem fits_ok {S : List Ref.State} {i : Nat} (hI : Inv S i) {ns : Ref.State} (hns : WordOK ns) {dep : Nat} (hdep : ns.depth = dep) {X : List DS} (hX : X.map (·.s) = S) (how : ns.up = -1 ∨ ∃ u : Nat, ns.up = u ∧ u < S.length) :
    Ref.fits (S.map Ref.emb) (Ref.emb ns) = (!decide (X.length = 24) && (!decide (5 < dep) && (if ns.up < 0 then !isHist (kindOf ns) else match X[ns.up.toNat]? with | some x => holds x (parts S ns.up.toNat) (kindOf ns) | none => false))) := by
  have hXl : X.length = S.length := by rw [← hX, List.length_map]
  unfold Ref.fits
  rw [List.length_map, hXl]
  have hw := word_hist hns
  have hf := word_final hns
  simp only [Ref.emb]
  simp only [hdep, hw, hf]
  by_cases h24 : S.length = 24
  · simp [h24]
  · by_cases h5 : 5 < dep
    · have : (5 : Int) < (dep : Int) := by omega
      simp [h24, h5, this]
    · have h5' : ¬ (5 : Int) < (dep : Int) := by omega
      rcases how with hu | ⟨u, hu, hul⟩
      · simp only [hu]
        simp [h24, h5, h5']
      · simp only [hu]
        have hneg : ¬ (u : Int) < 0 := by omega
        have hxu : X[u]? = some (X[u]'(by omega)) := List.getElem?_eq_getElem _
        have hxs : (X[u]'(by omega)).s = S[u] := by
          have := congrArg (fun l => l[u]?) hX
          simp only [List.getElem?_map, hxu, List.getElem?_eq_getElem hul, Option.map_some] at this
          exact Option.some.inj this
        have hwu := hI.words S[u] (List.getElem_mem hul)
        have hU := upAt_emb hul
        rw [hU, word_hist hwu, word_final hwu, word_par hwu]
        have hn := noneUp_parts S u
        rw [hn]
        simp only [Int.toNat_natCast, hxu]
        unfold holds
        rw [hxs]
        obtain ⟨r0, r4⟩ := kind_range hwu
        simp only [h24, h5, h5', hneg, decide_false, Bool.false_or, Bool.false_and, Bool.not_false, Bool.true_and, if_false, Bool.false_eq_true]
        have hk : kindOf S[u] = 0 ∨ kindOf S[u] = 1 ∨ kindOf S[u] = 2 ∨ kindOf S[u] = 3 ∨ kindOf S[u] = 4 := by omega
        rcases hk with e | e | e | e | e <;> rw [e] <;> simp [isHist]
theorem toLine_state {num : Nat} {k : Int} {n : ByteArray} (up d : Int) : Ref.newState (toLine num (.state k n)) up d = ⟨wordOf k, n, decide (k = 4), up, d, num, [], [], [], 0, 0⟩ := rfl
/-- A line of a state. -/
theorem step_state {S : List Ref.State} {i num d : Nat} {k : Int} {n : ByteArray} : Ref.treeStep S i (toLine num (.state k n)) (d : Int) = if 0 < d ∧ Ref.upOf S d < 0 then none else if Ref.fits (S.map Ref.emb) (Ref.emb ⟨wordOf k, n, decide (k = 4), Ref.upOf S d, d, num, [], [], [], 0, 0⟩) then some (S ++ [⟨wordOf k, n, decide (k = 4), Ref.upOf S d, d, num, [], [], [], 0, 0⟩]) else none := by
  unfold Ref.treeStep
  rw [if_pos (show (toLine num (.state k n)).kind = 115 from rfl), toLine_state]
  have e : (0 < (d : Int) ∧ Ref.upOf S ↑d < 0) = (0 < d ∧ Ref.upOf S ↑d < 0) := by simp
  simp only [e]
/-- A line of a move. -/
theorem step_move {S : List Ref.State} {i j num d : Nat} (hI : Inv S j) {ev t : ByteArray} {af : Bool} {dl : Int} {A : List Ref.Act} : Ref.treeStep S i (toLine num (.move ev af dl t A)) (d : Int) =
    if d = 0 then none else match (opn S)[d - 1]? with
      | none => none
      | some u => if kindOf (S.getD u Ref.st0) ∈ ([2, 3, 4] : List Int) then none else some (Ref.turn S u fun p => { p with moves := p.moves ++ [⟨ev, t, af, dl, A, num⟩] }) := by
  unfold Ref.treeStep
  rw [if_neg (show ¬ (toLine num (.move ev af dl t A)).kind = 115 by simp [toLine]), if_pos (show (toLine num (.move ev af dl t A)).kind = 109 from rfl), upOf_opn hI.val]
  by_cases h0 : d = 0
  · subst h0; simp
  · rw [if_neg h0, if_neg h0]
    cases e : (opn S)[d - 1]? with
    | none => simp
    | some u =>
      have hu : u < S.length := opnTo_lt S S.length u (List.mem_of_getElem? e)
      have hw := hI.words _ (getD_mem hu)
      simp only [Int.toNat_natCast]
      rw [if_neg (by omega), if_neg (by omega), word_hist hw, word_final hw]
      obtain ⟨r0, r4⟩ := kind_range hw
      have hk : kindOf (S.getD u Ref.st0) = 0 ∨ kindOf (S.getD u Ref.st0) = 1 ∨ kindOf (S.getD u Ref.st0) = 2 ∨ kindOf (S.getD u Ref.st0) = 3 ∨ kindOf (S.getD u Ref.st0) = 4 := by omega
      rcases hk with e | e | e | e | e <;> rw [e] <;> simp [isHist, toLine]
theorem step_enter {S : List Ref.State} {i j num d : Nat} (hI : Inv S j) {A : List Ref.Act} : Ref.treeStep S i (toLine num (.enter A)) (d : Int) =
    if d = 0 then none else match (opn S)[d - 1]? with
      | none => none
      | some u => if kindOf (S.getD u Ref.st0) ∈ ([3, 4] : List Int) then none else if (S.getD u Ref.st0).enter ≠ [] then none else some (Ref.turn S u fun p => { p with has0 := i + 1, enter := A }) := by
  unfold Ref.treeStep
  rw [if_neg (show ¬ (toLine num (.enter A)).kind = 115 by simp [toLine]), if_neg (show ¬ (toLine num (.enter A)).kind = 109 by simp [toLine]), if_pos (show (toLine num (.enter A)).kind = 101 from rfl), upOf_opn hI.val]
  by_cases h0 : d = 0
  · subst h0; simp
  · rw [if_neg h0, if_neg h0]
    cases e : (opn S)[d - 1]? with
    | none => simp
    | some u =>
      have hu : u < S.length := opnTo_lt S S.length u (List.mem_of_getElem? e)
      have hw := hI.words _ (getD_mem hu)
      have he := hI.enter _ (getD_mem hu)
      simp only [Int.toNat_natCast]
      rw [if_neg (by omega), if_neg (by omega), word_hist hw]
      simp only [he]
      obtain ⟨r0, r4⟩ := kind_range hw
      have hk : kindOf (S.getD u Ref.st0) = 0 ∨ kindOf (S.getD u Ref.st0) = 1 ∨ kindOf (S.getD u Ref.st0) = 2 ∨ kindOf (S.getD u Ref.st0) = 3 ∨ kindOf (S.getD u Ref.st0) = 4 := by omega
      rcases hk with e | e | e | e | e <;> rw [e] <;> simp [isHist, toLine]
theorem step_leave {S : List Ref.State} {i j num d : Nat} (hI : Inv S j) {A : List Ref.Act} : Ref.treeStep S i (toLine num (.leave A)) (d : Int) =
    if d = 0 then none else match (opn S)[d - 1]? with
      | none => none
      | some u => if kindOf (S.getD u Ref.st0) ∈ ([3, 4] : List Int) then none else if (S.getD u Ref.st0).leave ≠ [] then none else some (Ref.turn S u fun p => { p with has1 := i + 1, leave := A }) := by
  unfold Ref.treeStep
  rw [if_neg (show ¬ (toLine num (.leave A)).kind = 115 by simp [toLine]), if_neg (show ¬ (toLine num (.leave A)).kind = 109 by simp [toLine]), if_neg (show ¬ (toLine num (.leave A)).kind = 101 by simp [toLine]), if_pos (show (toLine num (.leave A)).kind = 108 from rfl), upOf_opn hI.val]
  by_cases h0 : d = 0
  · subst h0; simp
  · rw [if_neg h0, if_neg h0]
    cases e : (opn S)[d - 1]? with
    | none => simp
    | some u =>
      have hu : u < S.length := opnTo_lt S S.length u (List.mem_of_getElem? e)
      have hw := hI.words _ (getD_mem hu)
      have he := hI.leave _ (getD_mem hu)
      simp only [Int.toNat_natCast]
      rw [if_neg (by omega), if_neg (by omega), word_hist hw]
      simp only [he]
      obtain ⟨r0, r4⟩ := kind_range hw
      have hk : kindOf (S.getD u Ref.st0) = 0 ∨ kindOf (S.getD u Ref.st0) = 1 ∨ kindOf (S.getD u Ref.st0) = 2 ∨ kindOf (S.getD u Ref.st0) = 3 ∨ kindOf (S.getD u Ref.st0) = 4 := by omega
      rcases hk with e | e | e | e | e <;> rw [e] <;> simp [isHist, toLine]
end Pro
end Go.Proofs.YtegmoddppafkfaaGreatDoor
namespace Go.Proofs.YtegmoddppafkfaaGreatDoor
open Go.RowKit

namespace Pro
/-- The first line of each name, of the first k states. -/
def firstTo (S : List Ref.State) : Nat → DataW Nat
  | 0 => .map []
  | k + 1 => if Go.Maps.has (firstTo S k) (.string (S.getD k Ref.st0).name.data.toList) then firstTo S k else (firstTo S k).put (.string (S.getD k Ref.st0).name.data.toList) (.lit (.int .i64 (S.getD k Ref.st0).line))
def spotsOf (S : List Ref.State) : List (Int × Int) := S.map fun s => (s.line, s.depth)
def timedS (S : List Ref.State) : Bool := S.any fun s => s.moves.any (·.after)
/-- Two lists of states that part in their moves and actions alone. -/
structure Heads (S S' : List Ref.State) : Prop where
  len : S'.length = S.length
  same : ∀ k, (S'.getD k Ref.st0).word = (S.getD k Ref.st0).word ∧ (S'.getD k Ref.st0).name = (S.getD k Ref.st0).name ∧ (S'.getD k Ref.st0).deep = (S.getD k Ref.st0).deep ∧ (S'.getD k Ref.st0).up = (S.getD k Ref.st0).up ∧ (S'.getD k Ref.st0).depth = (S.getD k Ref.st0).depth ∧ (S'.getD k Ref.st0).line = (S.getD k Ref.st0).line
theorem Heads.opnT {S S' : List Ref.State} (h : Heads S S') (k : Nat) : opnTo S' k = opnTo S k := opnTo_congr k (fun i _ => (h.same i).2.2.2.2.1)
theorem Heads.opn {S S' : List Ref.State} (h : Heads S S') : opn S' = opn S := by unfold Pro.opn; rw [h.len]; exact h.opnT _
theorem Heads.parts {S S' : List Ref.State} (h : Heads S S') (i : Nat) : parts S' i = parts S i := by unfold Pro.parts; rw [h.len]; exact partsTo_congr i _ (fun j _ => (h.same j).2.2.2.1)
theorem Heads.first {S S' : List Ref.State} (h : Heads S S') : ∀ k, firstTo S' k = firstTo S k
  | 0 => rfl
  | k + 1 => by rw [firstTo, firstTo, h.first k, (h.same k).2.1, (h.same k).2.2.2.2.2]
theorem Heads.spots {S S' : List Ref.State} (h : Heads S S') : spotsOf S' = spotsOf S := by
  unfold spotsOf
  apply List.ext_getElem
  · simp [h.len]
  · intro k h1 h2
    simp only [List.length_map] at h1 h2
    have := h.same k
    rw [getD_eq h1, getD_eq h2] at this
    simp only [List.getElem_map]
    rw [this.2.2.2.2.1, this.2.2.2.2.2]
theorem heads_set {S : List Ref.State} {u : Nat} {s' : Ref.State} (h : s'.word = (S.getD u Ref.st0).word ∧ s'.name = (S.getD u Ref.st0).name ∧ s'.deep = (S.getD u Ref.st0).deep ∧ s'.up = (S.getD u Ref.st0).up ∧ s'.depth = (S.getD u Ref.st0).depth ∧ s'.line = (S.getD u Ref.st0).line) : Heads S (S.set u s') := by
  refine ⟨List.length_set, fun k => ?_⟩
  by_cases e : u = k
  · subst e
    by_cases hu : u < S.length
    · have : (S.set u s').getD u Ref.st0 = s' := by
        rw [List.getD_eq_getElem?_getD, List.getElem?_set]; simp [hu]
      rw [this]; exact h
    · rw [List.set_eq_of_length_le (by omega)]
      exact ⟨rfl, rfl, rfl, rfl, rfl, rfl⟩
  · have : (S.set u s').getD k Ref.st0 = S.getD k Ref.st0 := by
      rw [List.getD_eq_getElem?_getD, List.getElem?_set, if_neg e, List.getD_eq_getElem?_getD]
    rw [this]
    exact ⟨rfl, rfl, rfl, rfl, rfl, rfl⟩
theorem inv_set {S : List Ref.State} {u i : Nat} {s' : Ref.State} (hI : Inv S i) (hu : u < S.length) (h : s'.word = (S.getD u Ref.st0).word ∧ s'.name = (S.getD u Ref.st0).name ∧ s'.deep = (S.getD u Ref.st0).deep ∧ s'.up = (S.getD u Ref.st0).up ∧ s'.depth = (S.getD u Ref.st0).depth ∧ s'.line = (S.getD u Ref.st0).line)
    (h0 : 0 < s'.has0 ↔ s'.enter ≠ []) (h1 : 0 < s'.has1 ↔ s'.leave ≠ []) (hm : s'.moves.length ≤ i + 1) : Inv (S.set u s') (i + 1) := by
  have H := heads_set h
  refine ⟨fun k hk => ?_, fun s hs => ?_, by rw [List.length_set]; exact hI.len, fun k hk => ?_, fun s hs => ?_, fun s hs => ?_, fun s hs => ?_⟩
  · rw [List.length_set] at hk
    rw [(H.same k).2.2.2.2.1, H.opnT]; exact hI.val k hk
  · rcases List.mem_or_eq_of_mem_set hs with h' | h'
    · exact hI.words s h'
    · obtain ⟨k, r0, r4, hw, hd⟩ := hI.words _ (getD_mem hu)
      rw [h']; exact ⟨k, r0, r4, h.1.trans hw, h.2.2.1.trans hd⟩
  · rw [List.length_set] at hk
    rw [(H.same k).2.2.2.1]; exact hI.up k hk
  · rcases List.mem_or_eq_of_mem_set hs with h' | h'
    · exact hI.enter s h'
    · rw [h']; exact h0
  · rcases List.mem_or_eq_of_mem_set hs with h' | h'
    · exact hI.leave s h'
    · rw [h']; exact h1
  · rcases List.mem_or_eq_of_mem_set hs with h' | h'
    · have := hI.moves s h'; omega
    · rw [h']; exact hm
theorem inv_append {S : List Ref.State} {i : Nat} {s : Ref.State} (hI : Inv S i) (hl : S.length ≠ 24) (hw : WordOK s) (h0 : 0 ≤ s.depth) (h1 : s.depth.toNat ≤ (opn S).length) (hu0 : -1 ≤ s.up) (hu : s.up < S.length) (he : s.enter = []) (hlv : s.leave = []) (hm : s.moves = []) (hh0 : s.has0 = 0) (hh1 : s.has1 = 0) : Inv (S ++ [s]) (i + 1) := by
  have := hI.len
  refine ⟨val_append hI.val h0 h1, fun x hx => ?_, by simp; omega, fun k hk => ?_, fun x hx => ?_, fun x hx => ?_, fun x hx => ?_⟩
  · rcases List.mem_append.1 hx with h | h
    · exact hI.words x h
    · rw [List.mem_singleton.1 h]; exact hw
  · by_cases h : k < S.length
    · rw [getD_append_left h]; exact hI.up k h
    · have e : k = S.length := by simp at hk; omega
      subst e
      rw [getD_append_last]; exact ⟨hu0, hu⟩
  · rcases List.mem_append.1 hx with h | h
    · exact hI.enter x h
    · rw [List.mem_singleton.1 h, he, hh0]; simp
  · rcases List.mem_append.1 hx with h | h
    · exact hI.leave x h
    · rw [List.mem_singleton.1 h, hlv, hh1]; simp
  · rcases List.mem_append.1 hx with h | h
    · have := hI.moves x h; omega
    · rw [List.mem_singleton.1 h, hm]; simp
theorem first_append (S : List Ref.State) (s : Ref.State) : firstTo (S ++ [s]) (S ++ [s]).length = if Go.Maps.has (firstTo S S.length) (.string s.name.data.toList) then firstTo S S.length else (firstTo S S.length).put (.string s.name.data.toList) (.lit (.int .i64 s.line)) := by
  have hc : ∀ k, k ≤ S.length → firstTo (S ++ [s]) k = firstTo S k := by
    intro k
    induction k with
    | zero => intro _; rfl
    | succ k ih => intro hk; rw [firstTo, firstTo, ih (by omega), getD_append_left (by omega)]
  rw [List.length_append, show S.length + [s].length = S.length + 1 from rfl, firstTo, hc S.length (Nat.le_refl _), getD_append_last]
theorem spots_append (S : List Ref.State) (s : Ref.State) : spotsOf (S ++ [s]) = spotsOf S ++ [(s.line, s.depth)] := by simp [spotsOf]
theorem timed_append (S : List Ref.State) (s : Ref.State) (h : s.moves = []) : timedS (S ++ [s]) = timedS S := by simp [timedS, h]
theorem timed_set_same {S : List Ref.State} {u : Nat} {s' : Ref.State} (h : s'.moves = (S.getD u Ref.st0).moves) : timedS (S.set u s') = timedS S := by
  unfold timedS
  by_cases hu : u < S.length
  · have e : (S.set u s').map (·.moves) = S.map (·.moves) := by
      rw [List.map_set]
      apply List.ext_getElem?
      intro i
      rw [List.getElem?_set]
      split
      · rename_i e; subst e
        simp [hu, h]
      · rfl
    have f : ∀ T : List Ref.State, (T.any fun s => s.moves.any (·.after)) = (T.map (·.moves)).any (fun m => m.any (·.after)) := by
      intro T; rw [List.any_map]; rfl
    rw [f, f, e]
  · rw [List.set_eq_of_length_le (by omega)]
theorem timed_set_more {S : List Ref.State} {u : Nat} {s' : Ref.State} {m : Ref.Move} (hu : u < S.length) (h : s'.moves = (S.getD u Ref.st0).moves ++ [m]) : timedS (S.set u s') = (timedS S || m.after) := by
  cases ha : (timedS S || m.after)
  · rw [Bool.or_eq_false_iff] at ha
    show List.any _ _ = false
    rw [List.any_eq_false]
    intro x hx
    rcases List.mem_or_eq_of_mem_set hx with h' | h'
    · have := ha.1
      unfold timedS at this
      rw [List.any_eq_false] at this
      exact this x h'
    · rw [h', h, List.any_append]
      have h1 := ha.1
      unfold timedS at h1
      rw [List.any_eq_false] at h1
      have := h1 _ (getD_mem hu)
      simp [ha.2] at this ⊢
      exact this
  · show List.any _ _ = true
    rw [List.any_eq_true]
    rw [Bool.or_eq_true] at ha
    rcases ha with ha | ha
    · unfold timedS at ha
      rw [List.any_eq_true] at ha
      obtain ⟨x, hx, hxa⟩ := ha
      obtain ⟨k, hk, rfl⟩ := List.getElem_of_mem hx
      by_cases e : u = k
      · subst e
        refine ⟨s', List.mem_set hu _, ?_⟩
        rw [h, List.any_append, getD_eq hu, hxa]; rfl
      · refine ⟨S[k], ?_, hxa⟩
        have : (S.set u s')[k]'(by rw [List.length_set]; exact hk) = S[k] := by rw [List.getElem_set, if_neg e]
        rw [← this]; exact List.getElem_mem _
    · refine ⟨s', List.mem_set hu _, ?_⟩
      rw [h, List.any_append]; simp [ha]
end Pro
end Go.Proofs.YtegmoddppafkfaaGreatDoor
