/-
  MY OWN TEXT.
-/
import Derived.Test.YtegmoddppafkfaaGreatDoorM31
namespace Go.Proofs.YtegmoddppafkfaaGreatDoor
open Go.RowKit

namespace Pro
/-- A thing that a line brings. -/
inductive It where
  | nm (n : ByteArray)
  | mv (m : Ref.Move)
  | en (A : List Ref.Act)
  | lv (A : List Ref.Act)
def itOf (num : Nat) : PL → It
  | .state _ n => .nm n
  | .move ev af d t A => .mv ⟨ev, t, af, d, A, num⟩
  | .enter A => .en A
  | .leave A => .lv A
/-- The states have that thing, at that line. -/
def Item (S : List Ref.State) (l : Int) : It → Prop
  | .nm n => ∃ x ∈ S, x.line = l ∧ x.name = n
  | .mv m => m.line = l ∧ ∃ x ∈ S, m ∈ x.moves
  | .en A => ∃ x ∈ S, x.has0 = l ∧ 0 < l ∧ x.enter = A
  | .lv A => ∃ x ∈ S, x.has1 = l ∧ 0 < l ∧ x.leave = A
def badI (D : DataW Nat) (tm : Bool) (l : Int) : It → Bool
  | .nm n => !decide (firstOf D n = some l)
  | .mv m => mBad D tm m
  | .en A => tm && Ref.mine A
  | .lv A => tm && Ref.mine A
theorem badLine_it (D : DataW Nat) (tm : Bool) (num : Nat) (L : PL) : badLine D tm num L = badI D tm num (itOf num L) := by cases L <;> rfl
structure Itm (P : List ByteArray) (S : List Ref.State) (i : Nat) : Prop where
  fro : ∀ l I, Item S l I → ∃ j L, j < i ∧ l = ((j + 1 : Nat) : Int) ∧ pWhole (j + 1) (wl P j) = some L ∧ I = itOf (j + 1) L
  back : ∀ j, j < i → ∃ L, pWhole (j + 1) (wl P j) = some L ∧ Item S ((j + 1 : Nat) : Int) (itOf (j + 1) L)
  asc : ∀ q q', q < q' → q' < S.length → (S.getD q Ref.st0).line < (S.getD q' Ref.st0).line
  en0 : ∀ x ∈ S, 0 < x.has0 ∨ x.enter = []
  lv0 : ∀ x ∈ S, 0 < x.has1 ∨ x.leave = []
  words : ∀ x ∈ S, WordOK x
theorem Itm.nil (P : List ByteArray) : Itm P [] 0 := by
  refine ⟨fun l I h => ?_, fun j h => absurd h (by omega), fun q q' _ h => absurd h (by simp), fun x h => absurd h (by simp), fun x h => absurd h (by simp), fun x h => absurd h (by simp)⟩
  cases I with
  | nm n => obtain ⟨x, h, _⟩ := h; cases h
  | mv m => obtain ⟨_, x, h, _⟩ := h; cases h
  | en A => obtain ⟨x, h, _⟩ := h; cases h
  | lv A => obtain ⟨x, h, _⟩ := h; cases h
theorem upAux_lt {S : List Ref.State} {d : Int} : ∀ n, Ref.upAux S d n < (n : Int)
  | 0 => by unfold Ref.upAux; omega
  | n + 1 => by
    have := upAux_lt (S := S) (d := d) n
    rw [Ref.upAux]
    repeat' split
    all_goals omega
theorem upOf_lt {S : List Ref.State} {d : Int} (h : ¬ Ref.upOf S d < 0) : (Ref.upOf S d).toNat < S.length := by
  unfold Ref.upOf at h ⊢
  split at h
  · rename_i hd
    rw [if_pos hd]
    have := upAux_lt (S := S) (d := d) S.length
    omega
  · omega
def StepIs (S S' : List Ref.State) (i num : Nat) : PL → Prop
  | .state k n => ∃ ns : Ref.State, S' = S ++ [ns] ∧ ns.line = num ∧ ns.name = n ∧ ns.moves = [] ∧ ns.enter = [] ∧ ns.leave = [] ∧ ns.has0 = 0 ∧ ns.has1 = 0 ∧ ns.word = wordOf k ∧ ns.deep = decide (k = 4)
  | .move ev af d t A => ∃ u, u < S.length ∧ S' = S.set u { S.getD u Ref.st0 with moves := (S.getD u Ref.st0).moves ++ [⟨ev, t, af, d, A, num⟩] }
  | .enter A => ∃ u, u < S.length ∧ ¬ 0 < (S.getD u Ref.st0).has0 ∧ S' = S.set u { S.getD u Ref.st0 with has0 := i + 1, enter := A }
  | .leave A => ∃ u, u < S.length ∧ ¬ 0 < (S.getD u Ref.st0).has1 ∧ S' = S.set u { S.getD u Ref.st0 with has1 := i + 1, leave := A }
theorem step_is {S S' : List Ref.State} {i num : Nat} {d : Int} {L : PL} (h : Ref.treeStep S i (toLine num L) d = some S') : StepIs S S' i num L := by
  unfold Ref.treeStep at h
  split at h
  · cases h
  cases L with
  | state k n =>
    rw [if_pos (show (toLine num (.state k n)).kind = 115 from rfl)] at h
    split at h
    · cases h
      exact ⟨_, rfl, rfl, rfl, rfl, rfl, rfl, rfl, rfl, rfl, rfl⟩
    · cases h
  | move ev af dl t A =>
    rw [if_neg (show ¬ (toLine num (.move ev af dl t A)).kind = 115 by simp [toLine])] at h
    split at h
    · cases h
    rename_i hup
    split at h
    · cases h
    rw [if_pos (show (toLine num (.move ev af dl t A)).kind = 109 from rfl)] at h
    split at h
    · cases h
    cases h
    exact ⟨_, upOf_lt hup, rfl⟩
  | enter A =>
    rw [if_neg (show ¬ (toLine num (.enter A)).kind = 115 by simp [toLine])] at h
    split at h
    · cases h
    rename_i hup
    split at h
    · cases h
    rw [if_neg (show ¬ (toLine num (.enter A)).kind = 109 by simp [toLine]), if_pos (show (toLine num (.enter A)).kind = 101 from rfl)] at h
    split at h
    · cases h
    rename_i h0
    cases h
    exact ⟨_, upOf_lt hup, h0, rfl⟩
  | leave A =>
    rw [if_neg (show ¬ (toLine num (.leave A)).kind = 115 by simp [toLine])] at h
    split at h
    · cases h
    rename_i hup
    split at h
    · cases h
    rw [if_neg (show ¬ (toLine num (.leave A)).kind = 109 by simp [toLine]), if_neg (show ¬ (toLine num (.leave A)).kind = 101 by simp [toLine]), if_pos (show (toLine num (.leave A)).kind = 108 from rfl)] at h
    split at h
    · cases h
    rename_i h0
    cases h
    exact ⟨_, upOf_lt hup, h0, rfl⟩
theorem mem_set_of {S : List Ref.State} {u : Nat} {x' y : Ref.State} (h : y ∈ S) : y ∈ S.set u x' ∨ y = S.getD u Ref.st0 := by
  obtain ⟨k, hk, rfl⟩ := List.getElem_of_mem h
  by_cases e : u = k
  · subst e; exact .inr (getD_eq hk).symm
  · left
    have : (S.set u x')[k]'(by rw [List.length_set]; exact hk) = S[k] := by rw [List.getElem_set, if_neg e]
    rw [← this]; exact List.getElem_mem _
/-- Nothing is lost. -/
theorem item_set {S : List Ref.State} {u : Nat} {x' : Ref.State} {l : Int} {I : It} (hu : u < S.length) (h1 : x'.line = (S.getD u Ref.st0).line) (h2 : x'.name = (S.getD u Ref.st0).name) (h3 : ∀ m ∈ (S.getD u Ref.st0).moves, m ∈ x'.moves)
    (h4 : 0 < (S.getD u Ref.st0).has0 → x'.has0 = (S.getD u Ref.st0).has0 ∧ x'.enter = (S.getD u Ref.st0).enter) (h5 : 0 < (S.getD u Ref.st0).has1 → x'.has1 = (S.getD u Ref.st0).has1 ∧ x'.leave = (S.getD u Ref.st0).leave) (h : Item S l I) : Item (S.set u x') l I := by
  have hx' : x' ∈ S.set u x' := List.mem_set hu _
  cases I with
  | nm n =>
    obtain ⟨y, hy, e1, e2⟩ := h
    rcases mem_set_of (u := u) (x' := x') hy with h | h
    · exact ⟨y, h, e1, e2⟩
    · exact ⟨x', hx', by rw [h1, ← h]; exact e1, by rw [h2, ← h]; exact e2⟩
  | mv m =>
    obtain ⟨e0, y, hy, e1⟩ := h
    rcases mem_set_of (u := u) (x' := x') hy with h | h
    · exact ⟨e0, y, h, e1⟩
    · exact ⟨e0, x', hx', h3 m (by rw [← h]; exact e1)⟩
  | en A =>
    obtain ⟨y, hy, e1, e2, e3⟩ := h
    rcases mem_set_of (u := u) (x' := x') hy with h | h
    · exact ⟨y, h, e1, e2, e3⟩
    · have := h4 (by rw [← h, e1]; exact e2)
      exact ⟨x', hx', by rw [this.1, ← h]; exact e1, e2, by rw [this.2, ← h]; exact e3⟩
  | lv A =>
    obtain ⟨y, hy, e1, e2, e3⟩ := h
    rcases mem_set_of (u := u) (x' := x') hy with h | h
    · exact ⟨y, h, e1, e2, e3⟩
    · have := h5 (by rw [← h, e1]; exact e2)
      exact ⟨x', hx', by rw [this.1, ← h]; exact e1, e2, by rw [this.2, ← h]; exact e3⟩
/-- What is new comes from the state that was turned. -/
theorem item_new {S : List Ref.State} {u : Nat} {x' : Ref.State} {l : Int} {I : It} (h : Item (S.set u x') l I) : Item S l I ∨ Item [x'] l I := by
  cases I with
  | nm n =>
    obtain ⟨y, hy, e⟩ := h
    rcases List.mem_or_eq_of_mem_set hy with h | h
    · exact .inl ⟨y, h, e⟩
    · exact .inr ⟨x', List.mem_singleton.2 rfl, by rw [← h]; exact e⟩
  | mv m =>
    obtain ⟨e0, y, hy, e⟩ := h
    rcases List.mem_or_eq_of_mem_set hy with h | h
    · exact .inl ⟨e0, y, h, e⟩
    · exact .inr ⟨e0, x', List.mem_singleton.2 rfl, by rw [← h]; exact e⟩
  | en A =>
    obtain ⟨y, hy, e⟩ := h
    rcases List.mem_or_eq_of_mem_set hy with h | h
    · exact .inl ⟨y, h, e⟩
    · exact .inr ⟨x', List.mem_singleton.2 rfl, by rw [← h]; exact e⟩
  | lv A =>
    obtain ⟨y, hy, e⟩ := h
    rcases List.mem_or_eq_of_mem_set hy with h | h
    · exact .inl ⟨y, h, e⟩
    · exact .inr ⟨x', List.mem_singleton.2 rfl, by rw [← h]; exact e⟩
theorem item_mono {S S' : List Ref.State} {l : Int} {I : It} (hs : ∀ x ∈ S, x ∈ S') (h : Item S l I) : Item S' l I := by
  cases I with
  | nm n => obtain ⟨y, hy, e⟩ := h; exact ⟨y, hs y hy, e⟩
  | mv m => obtain ⟨e0, y, hy, e⟩ := h; exact ⟨e0, y, hs y hy, e⟩
  | en A => obtain ⟨y, hy, e⟩ := h; exact ⟨y, hs y hy, e⟩
  | lv A => obtain ⟨y, hy, e⟩ := h; exact ⟨y, hs y hy, e⟩
theorem item_append {S T : List Ref.State} {l : Int} {I : It} (h : Item (S ++ T) l I) : Item S l I ∨ Item T l I := by
  cases I with
  | nm n =>
    obtain ⟨y, hy, e⟩ := h
    rcases List.mem_append.1 hy with h | h
    · exact .inl ⟨y, h, e⟩
    · exact .inr ⟨y, h, e⟩
  | mv m =>
    obtain ⟨e0, y, hy, e⟩ := h
    rcases List.mem_append.1 hy with h | h
    · exact .inl ⟨e0, y, h, e⟩
    · exact .inr ⟨e0, y, h, e⟩
  | en A =>
    obtain ⟨y, hy, e⟩ := h
    rcases List.mem_append.1 hy with h | h
    · exact .inl ⟨y, h, e⟩
    · exact .inr ⟨y, h, e⟩
  | lv A =>
    obtain ⟨y, hy, e⟩ := h
    rcases List.mem_append.1 hy with h | h
    · exact .inl ⟨y, h, e⟩
    · exact .inr ⟨y, h, e⟩
theorem line_mem {P : List ByteArray} {S : List Ref.State} {i : Nat} (h : Itm P S i) {x : Ref.State} (hx : x ∈ S) : 0 < x.line ∧ x.line ≤ i := by
  obtain ⟨j, L, hj, e, _⟩ := h.fro x.line (.nm x.name) ⟨x, hx, rfl, rfl⟩
  omega
/-- One more line. -/
theorem Itm.step {P : List ByteArray} {S S' : List Ref.State} {i : Nat} {L : PL} (h : Itm P S i) (hL : pWhole (i + 1) (wl P i) = some L) (hs : StepIs S S' i (i + 1) L) : Itm P S' (i + 1) := by
  have old : ∀ l I, Item S l I → ∃ j L, j < i + 1 ∧ l = ((j + 1 : Nat) : Int) ∧ pWhole (j + 1) (wl P j) = some L ∧ I = itOf (j + 1) L := fun l I hI => by
    obtain ⟨j, L, hj, r⟩ := h.fro l I hI
    exact ⟨j, L, by omega, r⟩
  have fin : ∀ (hm : ∀ l I, Item S l I → Item S' l I) (hn : Item S' ((i + 1 : Nat) : Int) (itOf (i + 1) L)), ∀ j, j < i + 1 → ∃ L, pWhole (j + 1) (wl P j) = some L ∧ Item S' ((j + 1 : Nat) : Int) (itOf (j + 1) L) := fun hm hn j hj => by
    by_cases e : j = i
    · subst e; exact ⟨L, hL, hn⟩
    · obtain ⟨L', h1, h2⟩ := h.back j (by omega)
      exact ⟨L', h1, hm _ _ h2⟩
  have new : ∀ l I, l = ((i + 1 : Nat) : Int) → I = itOf (i + 1) L → ∃ j L, j < i + 1 ∧ l = ((j + 1 : Nat) : Int) ∧ pWhole (j + 1) (wl P j) = some L ∧ I = itOf (j + 1) L := fun l I e1 e2 => ⟨i, L, by omega, e1, hL, e2⟩
  have asc' : ∀ u x', u < S.length → x'.line = (S.getD u Ref.st0).line → ∀ q q', q < q' → q' < (S.set u x').length → ((S.set u x').getD q Ref.st0).line < ((S.set u x').getD q' Ref.st0).line := by
    intro u x' hu hx q q' hq hq'
    rw [List.length_set] at hq'
    have g : ∀ k, k < S.length → ((S.set u x').getD k Ref.st0).line = (S.getD k Ref.st0).line := by
      intro k hk
      by_cases e : u = k
      · subst e
        rw [show (S.set u x').getD u Ref.st0 = x' by rw [List.getD_eq_getElem?_getD, List.getElem?_set]; simp [hu]]
        exact hx
      · rw [show (S.set u x').getD k Ref.st0 = S.getD k Ref.st0 by rw [List.getD_eq_getElem?_getD, List.getElem?_set, if_neg e, List.getD_eq_getElem?_getD]]
    rw [g q (by omega), g q' hq']
    exact h.asc q q' hq hq'
  have hself : ∀ {u}, u < S.length → ∀ {l I}, Item [S.getD u Ref.st0] l I → Item S l I := fun hu l I hI => item_mono (fun x hx => by rw [List.mem_singleton.1 hx]; exact getD_mem hu) hI
  cases L with
  | state k n =>
    obtain ⟨ns, rfl, e1, e2, e3, e4, e5, e6, e7, e8, e9⟩ := hs
    refine ⟨fun l I hI => ?_, fin (fun l I => item_mono (fun x hx => List.mem_append_left _ hx)) ⟨ns, by simp, e1, e2⟩, fun q q' hq hq' => ?_, fun x hx => ?_, fun x hx => ?_, fun x hx => ?_⟩
    · rcases item_append hI with hI | hI
      · exact old l I hI
      · cases I with
        | nm n' =>
          obtain ⟨y, hy, r1, r2⟩ := hI
          rw [List.mem_singleton.1 hy] at r1 r2
          exact new _ _ (by rw [← r1, e1]) (by rw [← r2, e2]; rfl)
        | mv m =>
          obtain ⟨_, y, hy, r⟩ := hI
          rw [List.mem_singleton.1 hy, e3] at r
          cases r
        | en A =>
          obtain ⟨y, hy, r1, r2, _⟩ := hI
          rw [List.mem_singleton.1 hy, e6] at r1
          omega
        | lv A =>
          obtain ⟨y, hy, r1, r2, _⟩ := hI
          rw [List.mem_singleton.1 hy, e7] at r1
          omega
    · rw [List.length_append] at hq'
      by_cases e : q' < S.length
      · rw [getD_append_left e, getD_append_left (by omega)]; exact h.asc q q' hq e
      · have e' : q' = S.length := by simp at hq'; omega
        subst e'
        rw [getD_append_last, getD_append_left hq, e1]
        have := (line_mem h (getD_mem hq)).2
        omega
    · rcases List.mem_append.1 hx with hx | hx
      · exact h.en0 x hx
      · rw [List.mem_singleton.1 hx]; exact .inr e4
    · rcases List.mem_append.1 hx with hx | hx
      · exact h.lv0 x hx
      · rw [List.mem_singleton.1 hx]; exact .inr e5
    · rcases List.mem_append.1 hx with hx | hx
      · exact h.words x hx
      · rw [List.mem_singleton.1 hx]
        have hg : Good (.state k n) := whole_good hL
        exact ⟨k, hg.1, hg.2.1, e8, e9⟩
  | move ev af dl t A =>
    obtain ⟨u, hu, rfl⟩ := hs
    refine ⟨fun l I hI => ?_, fin (fun l I => item_set hu rfl rfl (fun m hm => List.mem_append_left _ hm) (fun _ => ⟨rfl, rfl⟩) (fun _ => ⟨rfl, rfl⟩)) ⟨rfl, _, List.mem_set hu _, List.mem_append_right _ (List.mem_singleton.2 rfl)⟩, asc' u _ hu rfl, fun x hx => ?_, fun x hx => ?_, fun x hx => ?_⟩
    · rcases item_new hI with hI | hI
      · exact old l I hI
      · cases I with
        | nm n' => exact old _ _ (hself hu (I := .nm n') (by obtain ⟨y, hy, r⟩ := hI; rw [List.mem_singleton.1 hy] at r; exact ⟨_, List.mem_singleton.2 rfl, r⟩))
        | mv m =>
          obtain ⟨r0, y, hy, r⟩ := hI
          rw [List.mem_singleton.1 hy] at r
          rcases List.mem_append.1 r with r | r
          · exact old _ _ (hself hu (I := .mv m) ⟨r0, _, List.mem_singleton.2 rfl, r⟩)
          · have := List.mem_singleton.1 r
            subst this
            exact new _ _ r0.symm rfl
        | en A' => exact old _ _ (hself hu (I := .en A') (by obtain ⟨y, hy, r⟩ := hI; rw [List.mem_singleton.1 hy] at r; exact ⟨_, List.mem_singleton.2 rfl, r⟩))
        | lv A' => exact old _ _ (hself hu (I := .lv A') (by obtain ⟨y, hy, r⟩ := hI; rw [List.mem_singleton.1 hy] at r; exact ⟨_, List.mem_singleton.2 rfl, r⟩))
    · rcases List.mem_or_eq_of_mem_set hx with hx | hx
      · exact h.en0 x hx
      · rw [hx]; have := h.en0 (S.getD u Ref.st0) (getD_mem hu); exact this
    · rcases List.mem_or_eq_of_mem_set hx with hx | hx
      · exact h.lv0 x hx
      · rw [hx]; have := h.lv0 (S.getD u Ref.st0) (getD_mem hu); exact this
    · rcases List.mem_or_eq_of_mem_set hx with hx | hx
      · exact h.words x hx
      · rw [hx]; have := h.words (S.getD u Ref.st0) (getD_mem hu); exact this
  | enter A =>
    obtain ⟨u, hu, h0, rfl⟩ := hs
    refine ⟨fun l I hI => ?_, fin (fun l I => item_set hu rfl rfl (fun m hm => hm) (fun hh => absurd hh h0) (fun _ => ⟨rfl, rfl⟩)) ⟨_, List.mem_set hu _, by simp, by omega, rfl⟩, asc' u _ hu rfl, fun x hx => ?_, fun x hx => ?_, fun x hx => ?_⟩
    · rcases item_new hI with hI | hI
      · exact old l I hI
      · cases I with
        | nm n' => exact old _ _ (hself hu (I := .nm n') (by obtain ⟨y, hy, r⟩ := hI; rw [List.mem_singleton.1 hy] at r; exact ⟨_, List.mem_singleton.2 rfl, r⟩))
        | mv m => exact old _ _ (hself hu (I := .mv m) (by obtain ⟨r0, y, hy, r⟩ := hI; rw [List.mem_singleton.1 hy] at r; exact ⟨r0, _, List.mem_singleton.2 rfl, r⟩))
        | en A' =>
          obtain ⟨y, hy, r1, r2, r3⟩ := hI
          rw [List.mem_singleton.1 hy] at r1 r3
          refine new _ _ ?_ (by rw [← r3]; rfl)
          rw [← r1]; simp
        | lv A' => exact old _ _ (hself hu (I := .lv A') (by obtain ⟨y, hy, r⟩ := hI; rw [List.mem_singleton.1 hy] at r; exact ⟨_, List.mem_singleton.2 rfl, r⟩))
    · rcases List.mem_or_eq_of_mem_set hx with hx | hx
      · exact h.en0 x hx
      · rw [hx]; exact .inl (by show (0 : Int) < (i : Int) + 1; omega)
    · rcases List.mem_or_eq_of_mem_set hx with hx | hx
      · exact h.lv0 x hx
      · rw [hx]; have := h.lv0 (S.getD u Ref.st0) (getD_mem hu); exact this
    · rcases List.mem_or_eq_of_mem_set hx with hx | hx
      · exact h.words x hx
      · rw [hx]; have := h.words (S.getD u Ref.st0) (getD_mem hu); exact this
  | leave A =>
    obtain ⟨u, hu, h0, rfl⟩ := hs
    refine ⟨fun l I hI => ?_, fin (fun l I => item_set hu rfl rfl (fun m hm => hm) (fun _ => ⟨rfl, rfl⟩) (fun hh => absurd hh h0)) ⟨_, List.mem_set hu _, by simp, by omega, rfl⟩, asc' u _ hu rfl, fun x hx => ?_, fun x hx => ?_, fun x hx => ?_⟩
    · rcases item_new hI with hI | hI
      · exact old l I hI
      · cases I with
        | nm n' => exact old _ _ (hself hu (I := .nm n') (by obtain ⟨y, hy, r⟩ := hI; rw [List.mem_singleton.1 hy] at r; exact ⟨_, List.mem_singleton.2 rfl, r⟩))
        | mv m => exact old _ _ (hself hu (I := .mv m) (by obtain ⟨r0, y, hy, r⟩ := hI; rw [List.mem_singleton.1 hy] at r; exact ⟨r0, _, List.mem_singleton.2 rfl, r⟩))
        | en A' => exact old _ _ (hself hu (I := .en A') (by obtain ⟨y, hy, r⟩ := hI; rw [List.mem_singleton.1 hy] at r; exact ⟨_, List.mem_singleton.2 rfl, r⟩))
        | lv A' =>
          obtain ⟨y, hy, r1, r2, r3⟩ := hI
          rw [List.mem_singleton.1 hy] at r1 r3
          refine new _ _ ?_ (by rw [← r3]; rfl)
          rw [← r1]; simp
    · rcases List.mem_or_eq_of_mem_set hx with hx | hx
      · exact h.en0 x hx
      · rw [hx]; have := h.en0 (S.getD u Ref.st0) (getD_mem hu); exact this
    · rcases List.mem_or_eq_of_mem_set hx with hx | hx
      · exact h.lv0 x hx
      · rw [hx]; exact .inl (by show (0 : Int) < (i : Int) + 1; omega)
    · rcases List.mem_or_eq_of_mem_set hx with hx | hx
      · exact h.words x hx
      · rw [hx]; have := h.words (S.getD u Ref.st0) (getD_mem hu); exact this
theorem synF_whole {P : List ByteArray} : ∀ {k : Nat}, Ref.synF P k = none → ∀ j, j < k → ∃ L, pWhole (j + 1) (wl P j) = some L
  | 0, _, j, hj => absurd hj (by omega)
  | k + 1, h, j, hj => by
    rw [Ref.synF] at h
    split at h
    · cases h
    rename_i h0
    split at h
    · cases h
    rename_i hk
    by_cases e : j = k
    · subst e
      rw [lineOf_pro] at hk
      cases hp : pWhole (j + 1) (wl P j) with
      | some L => exact ⟨L, rfl⟩
      | none => rw [hp] at hk; exact absurd rfl hk
    · exact synF_whole h0 j (by omega)
theorem itm_tree {P : List ByteArray} {n : Nat} (hw : ∀ j, j < n → ∃ L, pWhole (j + 1) (wl P j) = some L) : ∀ {i : Nat} {S : List Ref.State}, i ≤ n → Ref.treeTo (Ref.linesTo P n) i = some S → Itm P S i
  | 0, S, _, h => by cases h; exact Itm.nil P
  | i + 1, S, hi, h => by
    rw [Ref.treeTo] at h
    split at h
    · cases h
    rename_i S0 h0
    have ih := itm_tree hw (by omega) h0
    have e : (Ref.linesTo P n)[i]? = some (Ref.lineOf (Ref.pc P i) i, (Ref.blanks (Ref.pc P i) : Int)) := by
      unfold Ref.linesTo
      rw [List.getElem?_map, List.getElem?_range (by omega)]; rfl
    rw [e] at h
    obtain ⟨L, hL⟩ := hw i (by omega)
    have hl : Ref.lineOf (Ref.pc P i) i = toLine (i + 1) L := by rw [lineOf_pro, hL]; rfl
    dsimp only at h
    rw [hl] at h
    exact ih.step hL (step_is h)
end Pro
end Go.Proofs.YtegmoddppafkfaaGreatDoor
namespace Go.Proofs.YtegmoddppafkfaaGreatDoor
open Go.RowKit

namespace Pro
/-- The least number that Q has; 0: it has none. -/
def Lo (Q : Int → Prop) (a : Int) : Prop := (a = 0 ∧ ∀ l, ¬ Q l) ∨ (0 < a ∧ Q a ∧ ∀ l, Q l → a ≤ l)
theorem Lo.uniq {Q : Int → Prop} {a b : Int} (h : Lo Q a) (h' : Lo Q b) : a = b := by
  rcases h with ⟨rfl, h⟩ | ⟨h0, h1, h2⟩
  · rcases h' with ⟨rfl, _⟩ | ⟨_, h1, _⟩
    · rfl
    · exact absurd h1 (h _)
  · rcases h' with ⟨_, h'⟩ | ⟨_, h1', h2'⟩
    · exact absurd h1 (h' _)
    · exact Int.le_antisymm (h2 _ h1') (h2' _ h1)
theorem Lo.congr {Q Q' : Int → Prop} {a : Int} (h : Lo Q a) (e : ∀ l, Q l ↔ Q' l) : Lo Q' a := by
  have : Q = Q' := funext fun l => propext (e l)
  rw [← this]; exact h
theorem Lo.add {Q : Int → Prop} {a b : Int} (h : Lo Q a) (hb : 0 < b) : Lo (fun l => Q l ∨ l = b) (Ref.earlier a b) := by
  unfold Ref.earlier
  rcases h with ⟨rfl, h⟩ | ⟨h0, h1, h2⟩
  · rw [if_pos (.inl rfl)]
    refine .inr ⟨hb, .inr rfl, fun l hl => ?_⟩
    rcases hl with hl | hl
    · exact absurd hl (h l)
    · omega
  · split
    · refine .inr ⟨hb, .inr rfl, fun l hl => ?_⟩
      rcases hl with hl | hl
      · have := h2 l hl; omega
      · omega
    · refine .inr ⟨h0, .inl h1, fun l hl => ?_⟩
      rcases hl with hl | hl
      · exact h2 l hl
      · omega
theorem Lo.addIf {Q : Int → Prop} {a b : Int} {c : Prop} [Decidable c] (h : Lo Q a) (hb : c → 0 < b) : Lo (fun l => Q l ∨ (c ∧ l = b)) (if c then Ref.earlier a b else a) := by
  by_cases hc : c
  · rw [if_pos hc]
    exact (h.add (hb hc)).congr (fun l => by simp [hc])
  · rw [if_neg hc]
    exact h.congr (fun l => by simp [hc])
theorem Lo.moves {X : List Ref.SV} {t : Bool} : ∀ (ms : List Ref.Move) {Q : Int → Prop} {a : Int}, Lo Q a → (∀ m ∈ ms, 0 < m.line) → Lo (fun l => Q l ∨ ∃ m ∈ ms, Ref.moveBad X t m = true ∧ l = m.line) (ms.foldl (Ref.stepMove X t) a)
  | [], Q, a, h, _ => h.congr (fun l => by simp)
  | m :: ms, Q, a, h, hp => by
    rw [List.foldl_cons]
    have h1 : Lo (fun l => Q l ∨ (Ref.moveBad X t m = true ∧ l = m.line)) (Ref.stepMove X t a m) := h.addIf (fun _ => hp m (by simp))
    refine (Lo.moves ms h1 (fun m hm => hp m (by simp [hm]))).congr (fun l => ?_)
    simp [or_assoc]
def StB (X : List Ref.SV) (t : Bool) (k : Nat) (x : Ref.State) (l : Int) : Prop := (Ref.place X x.name < k ∧ l = x.line) ∨ (∃ m ∈ x.moves, Ref.moveBad X t m = true ∧ l = m.line) ∨ ((t && Ref.mine x.enter) = true ∧ l = x.has0) ∨ ((t && Ref.mine x.leave) = true ∧ l = x.has1)
theorem Lo.state {X : List Ref.SV} {t : Bool} {k : Nat} {x : Ref.State} {Q : Int → Prop} {a : Int} (h : Lo Q a) (p1 : 0 < x.line) (p2 : ∀ m ∈ x.moves, 0 < m.line) (p3 : (t && Ref.mine x.enter) = true → 0 < x.has0) (p4 : (t && Ref.mine x.leave) = true → 0 < x.has1) : Lo (fun l => Q l ∨ StB X t k x l) (Ref.stepState X t k a x) := by
  have h1 : Lo (fun l => Q l ∨ (Ref.place X x.name < k ∧ l = x.line)) (if Ref.place X x.name < k then Ref.earlier a x.line else a) := h.addIf (fun _ => p1)
  have h2 := Lo.moves (X := X) (t := t) x.moves h1 p2
  have h3 := h2.addIf (c := (t && Ref.mine x.enter) = true) (b := x.has0) p3
  have h4 := h3.addIf (c := (t && Ref.mine x.leave) = true) (b := x.has1) p4
  refine Lo.congr (a := Ref.stepState X t k a x) h4 (fun l => ?_)
  unfold StB
  simp only [or_assoc]
theorem named_lo {X : List Ref.SV} {t : Bool} (hp : ∀ x ∈ X, 0 < x.s.line ∧ (∀ m ∈ x.s.moves, 0 < m.line) ∧ ((t && Ref.mine x.s.enter) = true → 0 < x.s.has0) ∧ ((t && Ref.mine x.s.leave) = true → 0 < x.s.has1)) : ∀ k, k ≤ X.length → Lo (fun l => ∃ q, ∃ h : q < X.length, q < k ∧ StB X t q X[q].s l) (Ref.namedTo X t k)
  | 0, _ => .inl ⟨rfl, fun l ⟨_, _, h, _⟩ => absurd h (by omega)⟩
  | k + 1, hk => by
    have ih := named_lo hp k (by omega)
    have hkl : k < X.length := hk
    rw [Ref.namedTo, List.getElem?_eq_getElem hkl]
    obtain ⟨p1, p2, p3, p4⟩ := hp X[k] (List.getElem_mem hkl)
    refine (ih.state p1 p2 p3 p4).congr (fun l => ?_)
    constructor
    · rintro (⟨q, h, h1, h2⟩ | h)
      · exact ⟨q, h, by omega, h2⟩
      · exact ⟨k, hkl, by omega, h⟩
    · rintro ⟨q, h, h1, h2⟩
      by_cases e : q = k
      · subst e; exact .inr h2
      · exact .inl ⟨q, h, by omega, h2⟩
def nmVal (S : List Ref.State) (P : List ByteArray) (k : Nat) : Int := match nmFirst S P k with
  | some i => (i : Int) + 1
  | none => 0
theorem nmFirst_lt {S : List Ref.State} {P : List ByteArray} : ∀ {k i : Nat}, nmFirst S P k = some i → i < k
  | 0, i, h => by cases h
  | k + 1, i, h => by
    rw [nmFirst] at h
    split at h
    · rename_i h0
      cases h
      have := nmFirst_lt h0; omega
    · split at h
      · cases h; omega
      · cases h
theorem nmVal_lo {S : List Ref.State} {P : List ByteArray} : ∀ k, Lo (fun l => ∃ j, j < k ∧ l = ((j + 1 : Nat) : Int) ∧ nmBad S P j = true) (nmVal S P k)
  | 0 => .inl ⟨rfl, fun l ⟨_, h, _⟩ => absurd h (by omega)⟩
  | k + 1 => by
    have ih := nmVal_lo (S := S) (P := P) k
    have h1 := ih.addIf (c := nmBad S P k = true) (b := ((k + 1 : Nat) : Int)) (fun _ => by omega)
    have e : nmVal S P (k + 1) = if nmBad S P k = true then Ref.earlier (nmVal S P k) ((k + 1 : Nat) : Int) else nmVal S P k := by
      unfold nmVal
      rw [nmFirst]
      cases hn : nmFirst S P k with
      | none =>
        dsimp only
        by_cases hb : nmBad S P k = true
        · rw [if_pos hb, if_pos hb]
          unfold Ref.earlier
          rw [if_pos (.inl rfl)]
          simp
        · rw [if_neg hb, if_neg hb]
      | some i =>
        dsimp only
        have := nmFirst_lt hn
        by_cases hb : nmBad S P k = true
        · rw [if_pos hb]
          unfold Ref.earlier
          rw [if_neg (by omega)]
        · rw [if_neg hb]
    rw [e]
    refine h1.congr (fun l => ?_)
    constructor
    · rintro (⟨j, h1, h2⟩ | ⟨h1, h2⟩)
      · exact ⟨j, by omega, h2⟩
      · exact ⟨k, by omega, h2, h1⟩
    · rintro ⟨j, h1, h2, h3⟩
      by_cases e : j = k
      · subst e; exact .inr ⟨h3, h2⟩
      · exact .inl ⟨j, by omega, h2, h3⟩
theorem ba_list {a b : ByteArray} (h : a.toList = b.toList) : a = b := by
  rw [ByteArray.toList_eq, ByteArray.toList_eq] at h
  cases a
  cases b
  simpa using h
theorem key_ne {a b : ByteArray} (h : a ≠ b) : (Lit.string a.data.toList) ≠ Lit.string b.data.toList := by
  intro e
  apply h
  cases a
  cases b
  simpa using e
theorem first_map (S : List Ref.State) : ∀ k, Go.Maps.IsMap (firstTo S k)
  | 0 => Go.Maps.isMap_empty
  | k + 1 => by
    rw [firstTo]
    split
    · exact first_map S k
    · exact (first_map S k).put _ _
theorem first_is (S : List Ref.State) (n : ByteArray) : ∀ k, (∃ q, q < k ∧ (S.getD q Ref.st0).name = n ∧ (∀ q', q' < q → (S.getD q' Ref.st0).name ≠ n) ∧ Go.Maps.has (firstTo S k) (.string n.data.toList) = true ∧ ∀ z, (firstTo S k).atKey (.string n.data.toList) z = .lit (.int .i64 (S.getD q Ref.st0).line)) ∨ ((∀ q, q < k → (S.getD q Ref.st0).name ≠ n) ∧ Go.Maps.has (firstTo S k) (.string n.data.toList) = false)
  | 0 => .inr ⟨fun q h => absurd h (by omega), rfl⟩
  | k + 1 => by
    rw [firstTo]
    by_cases e : (S.getD k Ref.st0).name = n
    · rw [e]
      rcases first_is S n k with ⟨q, h1, h2, h3, h4, h5⟩ | ⟨h1, h2⟩
      · rw [if_pos h4]
        exact .inl ⟨q, by omega, h2, h3, h4, h5⟩
      · rw [if_neg (by rw [h2]; simp)]
        exact .inl ⟨k, by omega, e, h1, Go.Maps.has_put_same (first_map S k) (show WideAt.IsKeyLit (.string _) from trivial) _, fun z => Go.Maps.atKey_put_same (first_map S k) (show WideAt.IsKeyLit (.string _) from trivial) _ _⟩
    · have hk : (Lit.string n.data.toList) ≠ Lit.string (S.getD k Ref.st0).name.data.toList := key_ne (fun h => e h.symm)
      rcases first_is S n k with ⟨q, h1, h2, h3, h4, h5⟩ | ⟨h1, h2⟩
      · refine .inl ⟨q, by omega, h2, h3, ?_, fun z => ?_⟩
        · split
          · exact h4
          · rw [Go.Maps.has_put_other hk]; exact h4
        · split
          · exact h5 z
          · rw [Go.Maps.atKey_put_other hk]; exact h5 z
      · refine .inr ⟨fun q hq => ?_, ?_⟩
        · by_cases e' : q = k
          · subst e'; exact e
          · exact h1 q (by omega)
        · split
          · exact h2
          · rw [Go.Maps.has_put_other hk]; exact h2
theorem isNm_iff (n : ByteArray) (x : Ref.State) : Ref.isNm n (Ref.emb x) = true ↔ x.name = n := by
  unfold Ref.isNm Ref.emb
  simp only [beq_iff_eq]
  exact ⟨ba_list, fun h => by rw [h]⟩
theorem place_is (S : List Ref.State) (n : ByteArray) : (∃ q, q < S.length ∧ (S.getD q Ref.st0).name = n ∧ (∀ q', q' < q → (S.getD q' Ref.st0).name ≠ n) ∧ Ref.place (S.map Ref.emb) n = (q : Int)) ∨ ((∀ q, q < S.length → (S.getD q Ref.st0).name ≠ n) ∧ Ref.place (S.map Ref.emb) n = -1) := by
  unfold Ref.place
  cases h : (S.map Ref.emb).findIdx? (Ref.isNm n) with
  | some i =>
    left
    obtain ⟨hi, h1, h2⟩ := List.findIdx?_eq_some_iff_getElem.1 h
    rw [List.length_map] at hi
    refine ⟨i, hi, ?_, fun q' hq' => ?_, rfl⟩
    · rw [List.getElem_map] at h1
      rw [getD_eq hi]; exact (isNm_iff _ _).1 h1
    · have := h2 q' hq'
      rw [List.getElem_map] at this
      rw [getD_eq (by omega)]
      exact fun e => this ((isNm_iff _ _).2 e)
  | none =>
    right
    refine ⟨fun q hq e => ?_, rfl⟩
    have := List.findIdx?_eq_none_iff.1 h (Ref.emb S[q]) (List.mem_map_of_mem (List.getElem_mem hq))
    rw [getD_eq hq] at e
    rw [(isNm_iff _ _).2 e] at this
    cases this
theorem timed_same (S : List Ref.State) : Ref.timed (S.map Ref.emb) = timedS S := by
  unfold Ref.timed timedS Ref.timedMs
  rw [List.any_map]
  rfl
theorem has_place (S : List Ref.State) (n : ByteArray) : Go.Maps.has (firstTo S S.length) (.string n.data.toList) = !decide (Ref.place (S.map Ref.emb) n < 0) := by
  rcases first_is S n S.length with ⟨q, h1, h2, h3, h4, _⟩ | ⟨h1, h2⟩
  · rcases place_is S n with ⟨r, g1, g2, g3, g4⟩ | ⟨g1, _⟩
    · rw [h4, g4, decide_eq_false (by omega)]; rfl
    · exact absurd h2 (g1 q h1)
  · rcases place_is S n with ⟨r, g1, g2, g3, g4⟩ | ⟨g1, g2⟩
    · exact absurd g2 (h1 r g1)
    · rw [h2, g2]; rfl
theorem mBad_same (S : List Ref.State) (tm : Bool) (m : Ref.Move) : mBad (firstTo S S.length) tm m = Ref.moveBad (S.map Ref.emb) tm m := by
  unfold mBad Ref.moveBad
  rw [has_place, Bool.not_not]
  congr 3
  cases m.to.toList <;> rfl
theorem place_first {P : List ByteArray} {S : List Ref.State} {i q : Nat} (h : Itm P S i) (hq : q < S.length) : Ref.place (S.map Ref.emb) (S.getD q Ref.st0).name < (q : Int) ↔ ¬ firstOf (firstTo S S.length) (S.getD q Ref.st0).name = some (S.getD q Ref.st0).line := by
  obtain ⟨n, hn⟩ : ∃ n, n = (S.getD q Ref.st0).name := ⟨_, rfl⟩
  rw [← hn]
  rcases first_is S n S.length with ⟨r, h1, h2, h3, _, h5⟩ | ⟨h1, _⟩
  · rcases place_is S n with ⟨r', g1, g2, g3, g4⟩ | ⟨g1, _⟩
    · have hr : r = r' := by
        rcases Nat.lt_trichotomy r r' with c | c | c
        · exact absurd h2 (g3 r c)
        · exact c
        · exact absurd g2 (h3 r' c)
      subst hr
      have hle : r ≤ q := by
        rcases Nat.lt_or_ge q r with c | c
        · exact absurd hn.symm (h3 q c)
        · exact c
      have hf : firstOf (firstTo S S.length) n = some (S.getD r Ref.st0).line := by unfold firstOf; rw [h5]
      rw [g4, hf]
      by_cases e : r = q
      · subst e; simp
      · have := h.asc r q (by omega) hq
        constructor
        · intro _ e2
          have := Option.some.inj e2
          omega
        · intro _; omega
    · exact absurd h2 (g1 r h1)
  · exact absurd hn.symm (h1 q hq)
theorem named_same {P : List ByteArray} {S : List Ref.State} {n : Nat} (h : Itm P S n) : Ref.named (S.map Ref.emb) = nmVal S P n := by
  have mineN : Ref.mine [] = false := rfl
  have hpos : ∀ x ∈ S.map Ref.emb, 0 < x.s.line ∧ (∀ m ∈ x.s.moves, 0 < m.line) ∧ ((timedS S && Ref.mine x.s.enter) = true → 0 < x.s.has0) ∧ ((timedS S && Ref.mine x.s.leave) = true → 0 < x.s.has1) := by
    intro y hy
    obtain ⟨x, hx, rfl⟩ := List.mem_map.1 hy
    refine ⟨(line_mem h hx).1, fun m hm => ?_, fun hm => ?_, fun hm => ?_⟩
    · obtain ⟨j, L, _, e, _⟩ := h.fro m.line (.mv m) ⟨rfl, x, hx, hm⟩
      omega
    · rcases h.en0 x hx with h' | h'
      · exact h'
      · rw [show (Ref.emb x).s.enter = x.enter from rfl, h', mineN, Bool.and_false] at hm; cases hm
    · rcases h.lv0 x hx with h' | h'
      · exact h'
      · rw [show (Ref.emb x).s.leave = x.leave from rfl, h', mineN, Bool.and_false] at hm; cases hm
  have h1 := named_lo (X := S.map Ref.emb) (t := timedS S) hpos (S.map Ref.emb).length (Nat.le_refl _)
  unfold Ref.named
  rw [timed_same]
  refine h1.uniq ((nmVal_lo (S := S) (P := P) n).congr (fun l => ?_))
  have bad : ∀ j, nmBad S P j = true ↔ ∃ L, pWhole (j + 1) (wl P j) = some L ∧ badI (firstTo S S.length) (timedS S) ((j + 1 : Nat) : Int) (itOf (j + 1) L) = true := by
    intro j
    unfold nmBad
    cases hp : pWhole (j + 1) (wl P j) with
    | none => simp
    | some L =>
      dsimp only
      rw [badLine_it]
      constructor
      · intro h; exact ⟨L, rfl, h⟩
      · rintro ⟨L', e, h⟩; cases e; exact h
  constructor
  · rintro ⟨j, hj, rfl, hb⟩
    obtain ⟨L, hL, hbI⟩ := (bad j).1 hb
    obtain ⟨L', hL', hI⟩ := h.back j hj
    rw [hL] at hL'
    cases hL'
    have key : ∀ x ∈ S, (∀ q (hq : q < S.length), S[q] = x → StB (S.map Ref.emb) (timedS S) q x ((j + 1 : Nat) : Int)) → ∃ q, ∃ h : q < (S.map Ref.emb).length, q < (S.map Ref.emb).length ∧ StB (S.map Ref.emb) (timedS S) q (S.map Ref.emb)[q].s ((j + 1 : Nat) : Int) := by
      intro x hx hst
      obtain ⟨q, hq, e⟩ := List.getElem_of_mem hx
      refine ⟨q, by rw [List.length_map]; exact hq, by rw [List.length_map]; exact hq, ?_⟩
      rw [List.getElem_map]
      show StB _ _ q S[q] _
      rw [e]
      exact hst q hq e
    generalize itOf (j + 1) L = I at hI hbI
    cases I with
    | nm nn =>
      obtain ⟨x, hx, e1, e2⟩ := hI
      refine key x hx (fun q hq e => .inl ⟨?_, e1.symm⟩)
      have := (place_first h hq).2
      rw [getD_eq hq, e] at this
      apply this
      rw [e2, e1]
      simpa [badI] using hbI
    | mv m =>
      obtain ⟨e0, x, hx, hm⟩ := hI
      refine key x hx (fun q hq e => .inr (.inl ⟨m, hm, ?_, e0.symm⟩))
      rw [← mBad_same]; exact hbI
    | en A =>
      obtain ⟨x, hx, e1, e2, e3⟩ := hI
      refine key x hx (fun q hq e => .inr (.inr (.inl ⟨?_, e1.symm⟩)))
      rw [e3]; exact hbI
    | lv A =>
      obtain ⟨x, hx, e1, e2, e3⟩ := hI
      refine key x hx (fun q hq e => .inr (.inr (.inr ⟨?_, e1.symm⟩)))
      rw [e3]; exact hbI
  · rintro ⟨q, hq, _, hst⟩
    have hq' : q < S.length := by rw [List.length_map] at hq; exact hq
    rw [List.getElem_map] at hst
    have hst' : StB (S.map Ref.emb) (timedS S) q S[q] l := hst
    have fin : ∀ I, Item S l I → badI (firstTo S S.length) (timedS S) l I = true → ∃ j, j < n ∧ l = ((j + 1 : Nat) : Int) ∧ nmBad S P j = true := by
      intro I hI hb
      obtain ⟨j, L, hj, rfl, hL, rfl⟩ := h.fro l I hI
      exact ⟨j, hj, rfl, (bad j).2 ⟨L, hL, hb⟩⟩
    have hmem : S[q] ∈ S := List.getElem_mem hq'
    obtain ⟨p1, p2, p3, p4⟩ := hpos (Ref.emb S[q]) (List.mem_map_of_mem hmem)
    rcases hst' with ⟨c, e⟩ | ⟨m, hm, c, e⟩ | ⟨c, e⟩ | ⟨c, e⟩
    · refine fin (.nm S[q].name) ⟨_, hmem, e.symm, rfl⟩ ?_
      have := (place_first h hq').1
      rw [getD_eq hq'] at this
      have := this c
      rw [e]
      simpa [badI] using this
    · refine fin (.mv m) ⟨e.symm, _, hmem, hm⟩ ?_
      show mBad _ _ m = true
      rw [mBad_same]; exact c
    · exact fin (.en S[q].enter) ⟨_, hmem, e.symm, by rw [e]; exact p3 c, rfl⟩ c
    · exact fin (.lv S[q].leave) ⟨_, hmem, e.symm, by rw [e]; exact p4 c, rfl⟩ c
theorem parTo_pos {P : List ByteArray} {S : List Ref.State} {n : Nat} (h : Itm P S n) : ∀ {k : Nat} {l : Int}, k ≤ S.length → Ref.parTo S k = some l → 0 < l
  | 0, l, _, e => by cases e
  | k + 1, l, hk, e => by
    rw [Ref.parTo] at e
    split at e
    · rename_i h0
      cases e
      exact parTo_pos h (by omega) h0
    · split at e
      · cases e
        exact (line_mem h (getD_mem hk)).1
      · cases e
theorem syn_whole {P : List ByteArray} (h : Ref.syn P = none) : ∀ j, j < P.length - 1 → ∃ L, pWhole (j + 1) (wl P j) = some L := by
  unfold Ref.syn at h
  split at h
  · cases h
  · rename_i h0
    exact synF_whole h0
theorem read_same (s : ByteArray) : Pro.read s = Ref.read s := by
  unfold Pro.read Ref.read
  by_cases hs : 1500 < s.size
  · rw [if_pos hs, if_pos hs]
  rw [if_neg hs, if_neg hs]
  cases hsy : Ref.syn (Ref.cut s 10) with
  | some i => rfl
  | none =>
    dsimp only
    cases ht : Ref.treeTo (Ref.linesTo (Ref.cut s 10) ((Ref.cut s 10).length - 1)) ((Ref.cut s 10).length - 1) with
    | none => rfl
    | some S =>
      dsimp only
      have hI := itm_tree (syn_whole hsy) (Nat.le_refl _) ht
      cases hp : Ref.parTo S S.length with
      | some l =>
        have := parTo_pos hI (Nat.le_refl _) hp
        dsimp only
        rw [if_pos (by simpa using this)]
        rfl
      | none =>
        dsimp only
        rw [if_neg (by simp)]
        have hn := named_same hI
        unfold nmVal at hn
        cases hf : nmFirst S (Ref.cut s 10) ((Ref.cut s 10).length - 1) with
        | some i =>
          rw [hf] at hn
          dsimp only at hn ⊢
          rw [hn, if_pos (by omega)]
        | none =>
          rw [hf] at hn
          dsimp only at hn ⊢
          rw [hn, if_neg (by omega)]
end Pro
end Go.Proofs.YtegmoddppafkfaaGreatDoor
