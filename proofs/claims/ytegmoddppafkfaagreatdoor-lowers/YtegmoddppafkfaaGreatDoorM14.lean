/-
  MY OWN TEXT.
-/
import Derived.Test.YtegmoddppafkfaaGreatDoorM10
import Derived.Deep.AppendLies
namespace Go.Proofs.YtegmoddppafkfaaGreatDoor
open Go.RowKit
open Go.PlainAid (bt get_bt bt_nonneg bt_le bt_end)

namespace Ref
theorem m64_ok (n : Nat) : ∃ k : Nat, m64 n = k ∧ k ≤ 18446744073709551615 := by
  unfold m64
  rw [IntKind.wrap_u64]
  exact ⟨n % 18446744073709551616, by omega, by omega⟩
theorem digVal_ok (s : ByteArray) : ∃ n : Nat, digVal s = n ∧ n ≤ 18446744073709551615 := by
  unfold digVal
  split
  · exact m64_ok _
  · exact ⟨0, rfl, by decide⟩
/-- Small enough: what a text of a chart's size can hold. -/
structure ActSm (a : Act) : Prop where
  how : a.how.size ≤ 4096
  event : a.event.size ≤ 4096
  id : a.id.size ≤ 4096
  delay : ∃ n : Nat, a.delay = n ∧ n ≤ 18446744073709551615
structure MoveSm (m : Move) : Prop where
  event : m.event.size ≤ 4096
  dst : m.to.size ≤ 4096
  acts : ∀ a ∈ m.acts, ActSm a
  len : m.acts.length ≤ 4096
  delay : ∃ n : Nat, m.delay = n ∧ n ≤ 18446744073709551615
structure LineSm (L : Line) : Prop where
  word : L.word.size ≤ 4096
  name : L.name.size ≤ 4096
  m : MoveSm L.m
  acts : ∀ a ∈ L.acts, ActSm a
  len : L.acts.length ≤ 4096
structure StateSm (x : State) : Prop where
  word : x.word.size ≤ 4096
  name : x.name.size ≤ 4096
  dep0 : 0 ≤ x.depth
  dep : x.depth ≤ 5
  moves : ∀ m ∈ x.moves, MoveSm m
  enter : ∀ a ∈ x.enter, ActSm a
  leave : ∀ a ∈ x.leave, ActSm a
  lenE : x.enter.length ≤ 4096
  lenL : x.leave.length ≤ 4096
theorem ActSm.ok {a : Act} (h : ActSm a) : ActOK a := ⟨Nat.le_trans h.how (by decide), Nat.le_trans h.event (by decide), Nat.le_trans h.id (by decide), h.delay⟩
theorem act1_ok {l : List ByteArray} {a : Act} {n : Nat} (hs : ∀ x ∈ l, x.size ≤ 4096) (h : act1 l = some (a, n)) : ActSm a := by
  have h0 := at'_size hs
  unfold act1 at h
  repeat' split at h
  all_goals cases h
  all_goals refine ⟨h0 _, ?_, ?_, ?_⟩
  all_goals first | exact h0 _ | exact Nat.zero_le _ | exact digVal_ok _ | exact ⟨0, rfl, by decide⟩
theorem actsF_ok : ∀ (f : Nat) (l : List ByteArray) (A : List Act), (∀ x ∈ l, x.size ≤ 4096) → actsF f l = some A → (∀ a ∈ A, ActSm a) ∧ A.length ≤ l.length
  | 0, [], A, _, h => by cases h; exact ⟨fun a ha => absurd ha (by simp), Nat.le_refl _⟩
  | _ + 1, [], A, _, h => by cases h; exact ⟨fun a ha => absurd ha (by simp), Nat.le_refl _⟩
  | 0, x :: r, A, _, h => by cases h
  | f + 1, x :: r, A, hs, h => by
    rw [actsF] at h
    split at h
    · cases h
    · rename_i a n h1
      split at h
      · cases h
      · rename_i r' h2
        cases h
        have hb := act1_bounds h1
        have ih := actsF_ok f ((x :: r).drop n) r' (fun y hy => hs y (List.mem_of_mem_drop hy)) h2
        refine ⟨?_, ?_⟩
        · intro b hm
          rcases List.mem_cons.1 hm with h | h
          · rw [h]; exact act1_ok hs h1
          · exact ih.1 b h
        · have := ih.2
          rw [List.length_drop] at this
          simp only [List.length_cons] at this hb ⊢
          omega
theorem acts_ok {l : List ByteArray} {A : List Act} (hs : ∀ x ∈ l, x.size ≤ 4096) (h : acts l = some A) : (∀ a ∈ A, ActSm a) ∧ A.length ≤ l.length := actsF_ok _ l A hs h
theorem moved_ok {l : List ByteArray} {t : ByteArray} {A : List Act} (hs : ∀ x ∈ l, x.size ≤ 4096) (h : moved l = some (t, A)) : t.size ≤ 4096 ∧ (∀ a ∈ A, ActSm a) ∧ A.length ≤ l.length := by
  unfold moved at h
  split at h
  · split at h
    · cases h
    · split at h
      · cases h2 : acts (l.drop 2) with
        | none => rw [h2] at h; cases h
        | some B =>
          rw [h2] at h
          cases h
          have := acts_ok (fun y hy => hs y (List.mem_of_mem_drop hy)) h2
          exact ⟨at'_size hs 1, this.1, Nat.le_trans this.2 (by simp)⟩
      · cases h
  · cases h2 : acts l with
    | none => rw [h2] at h; cases h
    | some B =>
      rw [h2] at h
      cases h
      exact ⟨Nat.zero_le _, acts_ok hs h2⟩
theorem moveSm_none : MoveSm noMove := ⟨Nat.zero_le _, Nat.zero_le _, fun a ha => absurd ha (by simp [noMove]), Nat.zero_le _, 0, rfl, by decide⟩
theorem lineSm_none : LineSm noLine := ⟨Nat.zero_le _, Nat.zero_le _, moveSm_none, fun a ha => absurd ha (by simp [noLine]), Nat.zero_le _⟩
theorem said_ok {l : List ByteArray} {ln : Nat} (hs : ∀ x ∈ l, x.size ≤ 4096) (hl : l.length ≤ 4096) (hln : ln ≤ 1073741824) : LineSm (said l ln) := by
  have h0 := at'_size hs
  have hs2 : ∀ x ∈ l.drop 2, x.size ≤ 4096 := fun y hy => hs y (List.mem_of_mem_drop hy)
  have hs1 : ∀ x ∈ l.drop 1, x.size ≤ 4096 := fun y hy => hs y (List.mem_of_mem_drop hy)
  unfold said
  split
  · exact lineSm_none
  · split
    · split
      · exact ⟨h0 0, h0 1, moveSm_none, fun a ha => absurd ha (by simp), Nat.zero_le _⟩
      · exact lineSm_none
    · split
      · split
        · exact ⟨h0 0, h0 1, moveSm_none, fun a ha => absurd ha (by simp), Nat.zero_le _⟩
        · exact lineSm_none
      · split
        · split
          · exact lineSm_none
          · rename_i t A hm
            have := moved_ok hs2 hm
            rw [List.length_drop] at this
            split
            · exact ⟨Nat.zero_le _, Nat.zero_le _, ⟨h0 1, this.1, this.2.1, by show A.length ≤ _; omega, 0, rfl, by decide⟩, fun a ha => absurd ha (by simp), Nat.zero_le _⟩
            · exact lineSm_none
        · split
          · split
            · exact lineSm_none
            · rename_i t A hm
              have := moved_ok hs2 hm
              rw [List.length_drop] at this
              have hd : (dec ln).size ≤ 20 := dec_size20 (by omega)
              have hk : kAfter.size ≤ 20 := by decide
              split
              · exact ⟨Nat.zero_le _, Nat.zero_le _, ⟨by show (kAfter ++ dec ln).size ≤ _; rw [ByteArray.size_append']; omega, this.1, this.2.1, by show A.length ≤ _; omega, digVal_ok _⟩, fun a ha => absurd ha (by simp), Nat.zero_le _⟩
              · exact lineSm_none
          · split
            · split
              · exact lineSm_none
              · rename_i A hm
                have := acts_ok hs1 hm
                rw [List.length_drop] at this
                exact ⟨Nat.zero_le _, Nat.zero_le _, moveSm_none, this.1, by show A.length ≤ _; omega⟩
            · exact lineSm_none
theorem turn_mem {S : List State} {k : Nat} {f : State → State} {y : State} (hy : y ∈ turn S k f) : y ∈ S ∨ ∃ x ∈ S, y = f x := by
  unfold turn at hy
  by_cases hk : k < S.length
  · rcases List.mem_or_eq_of_mem_set hy with h | h
    · exact .inl h
    · refine .inr ⟨S.getD k st0, ?_, h⟩
      rw [List.getD_eq_getElem?_getD, List.getElem?_eq_getElem hk]
      exact List.getElem_mem hk
  · rw [List.set_eq_of_length_le (by omega)] at hy
    exact .inl hy
theorem fits_depth {X : List SV} {x : SV} (h : fits X x = true) : x.s.depth ≤ 5 := by
  unfold fits at h
  by_cases hd : x.s.depth ≤ 5
  · exact hd
  · have : 5 < x.s.depth := by omega
    simp [this] at h
theorem treeStep_ok {S S' : List State} {i n : Nat} {x : Line} {d : Int} (h : treeStep S i x d = some S') (hd : 0 ≤ d) (hx : LineSm x) (hS : ∀ y ∈ S, StateSm y ∧ y.moves.length ≤ n) : ∀ y ∈ S', StateSm y ∧ y.moves.length ≤ n + 1 := by
  have hS1 : ∀ y ∈ S, StateSm y ∧ y.moves.length ≤ n + 1 := fun y hy => ⟨(hS y hy).1, Nat.le_succ_of_le (hS y hy).2⟩
  unfold treeStep at h
  split at h
  · cases h
  · split at h
    · split at h
      · rename_i hf
        cases h
        intro y hy
        rcases List.mem_append.1 hy with h | h
        · exact hS1 y h
        · rw [List.mem_singleton.1 h]
          exact ⟨⟨hx.word, hx.name, hd, fits_depth hf, fun m hm => absurd hm (by simp [newState]), fun m hm => absurd hm (by simp [newState]), fun m hm => absurd hm (by simp [newState]), Nat.zero_le _, Nat.zero_le _⟩, Nat.zero_le _⟩
      · cases h
    · split at h
      · cases h
      · split at h
        · cases h
        · split at h
          · split at h
            · cases h
            · cases h
              intro y hy
              rcases turn_mem hy with h | ⟨z, hz, rfl⟩
              · exact hS1 y h
              · obtain ⟨h1, h2⟩ := hS z hz
                refine ⟨{ h1 with moves := ?_ }, ?_⟩
                · intro m hm
                  rcases List.mem_append.1 hm with h | h
                  · exact h1.moves m h
                  · rw [List.mem_singleton.1 h]; exact hx.m
                · simp; omega
          · split at h
            · split at h
              · cases h
              · cases h
                intro y hy
                rcases turn_mem hy with h | ⟨z, hz, rfl⟩
                · exact hS1 y h
                · obtain ⟨h1, h2⟩ := hS1 z hz
                  exact ⟨{ h1 with enter := hx.acts, lenE := hx.len }, h2⟩
            · split at h
              · split at h
                · cases h
                · cases h
                  intro y hy
                  rcases turn_mem hy with h | ⟨z, hz, rfl⟩
                  · exact hS1 y h
                  · obtain ⟨h1, h2⟩ := hS1 z hz
                    exact ⟨{ h1 with leave := hx.acts, lenL := hx.len }, h2⟩
              · cases h
                exact hS1
theorem treeTo_ok {A : List (Line × Int)} (hA : ∀ p ∈ A, LineSm p.1 ∧ 0 ≤ p.2) : ∀ {i : Nat} {S : List State}, treeTo A i = some S → ∀ y ∈ S, StateSm y ∧ y.moves.length ≤ i
  | 0, S, h => by cases h; exact fun y hy => absurd hy (by simp)
  | i + 1, S, h => by
    rw [treeTo] at h
    split at h
    · cases h
    · rename_i S0 h0
      have ih := treeTo_ok hA h0
      split at h
      · cases h; exact fun y hy => ⟨(ih y hy).1, Nat.le_succ_of_le (ih y hy).2⟩
      · rename_i x d hx
        have := hA _ (List.mem_of_getElem? hx)
        exact treeStep_ok h this.2 this.1 ih
end Ref
theorem Ref.MoveSm.ok {m : Ref.Move} (h : Ref.MoveSm m) : MoveOK m := ⟨Nat.le_trans h.event (by decide), Nat.le_trans h.dst (by decide), fun a ha => (h.acts a ha).ok, Nat.le_trans h.len (by decide)⟩

namespace Ref
/-- The blanks ahead. -/
def blanksF (t : ByteArray) : Nat → Nat → Nat
  | 0, d => d
  | f + 1, d => if bt t d = 32 then blanksF t f (d + 1) else d
def blanks (t : ByteArray) : Nat := blanksF t t.size 0
theorem blanks_more {t : ByteArray} {d : Nat} (hd : d < t.size) (h : blanks t = blanksF t (t.size - d) d) (hb : bt t d = 32) : blanks t = blanksF t (t.size - (d + 1)) (d + 1) := by
  rw [h, show t.size - d = (t.size - (d + 1)) + 1 from by omega, blanksF, if_pos hb]
theorem blanks_stop {t : ByteArray} {d : Nat} (hd : d < t.size) (h : blanks t = blanksF t (t.size - d) d) (hb : ¬ bt t d = 32) : blanks t = d := by
  rw [h, show t.size - d = (t.size - (d + 1)) + 1 from by omega, blanksF, if_neg hb]
theorem blanks_end {t : ByteArray} (h : blanks t = blanksF t (t.size - t.size) t.size) : blanks t = t.size := by
  rw [h, Nat.sub_self, blanksF]
theorem blanksF_le (t : ByteArray) : ∀ f d, blanksF t f d ≤ d + f
  | 0, d => Nat.le_refl _
  | f + 1, d => by
    have := blanksF_le t f (d + 1)
    unfold blanksF
    split <;> omega
theorem blanks_le (t : ByteArray) : blanks t ≤ t.size := by have := blanksF_le t t.size 0; unfold blanks; omega
def rest (t : ByteArray) : ByteArray := t.extract (blanks t) t.size
def lineOf (t : ByteArray) (i : Nat) : Line := said (cut (rest t) 32) (i + 1)
def pc (P : List ByteArray) (i : Nat) : ByteArray := P.getD i ByteArray.empty
/-- The first k lines are such as a chart has. -/
def good (P : List ByteArray) : Nat → Bool
  | 0 => true
  | k + 1 => good P k && !decide ((lineOf (pc P k) k).kind = 0)
/-- The first line that is none. -/
def synF (P : List ByteArray) : Nat → Option Nat
  | 0 => none
  | k + 1 => match synF P k with
    | some i => some i
    | none => if (lineOf (pc P k) k).kind = 0 then some k else none
def syn (P : List ByteArray) : Option Nat := match synF P (P.length - 1) with
  | some i => some i
  | none => if decide (0 < P.length - 1) && (pc P (P.length - 1)).toList.isEmpty then none else some (P.length - 1)
def linesTo (P : List ByteArray) (k : Nat) : List (Line × Int) := (List.range k).map fun i => (lineOf (pc P i) i, (blanks (pc P i) : Int))
/-- The line at which tree ends; 0: none. -/
def failAt (A : List (Line × Int)) : Nat → Nat
  | 0 => 0
  | i + 1 => if (treeTo A i).isSome && (treeTo A (i + 1)).isNone then i + 1 else failAt A i
inductive Got where
  | fault (e line : Int)
  | chart (S : List State)
def read (s : ByteArray) : Got :=
  if 1500 < s.size then .fault 1 0
  else match syn (cut s 10) with
    | some i => .fault 2 ((i : Int) + 1)
    | none => match treeTo (linesTo (cut s 10) ((cut s 10).length - 1)) ((cut s 10).length - 1) with
      | none => .fault 3 (failAt (linesTo (cut s 10) ((cut s 10).length - 1)) ((cut s 10).length - 1))
      | some S => if 0 < (parTo S S.length).getD 0 then .fault 3 ((parTo S S.length).getD 0)
        else if 0 < named (S.map emb) then .fault 4 (named (S.map emb))
        else .chart S
theorem treeStep_len {S S' : List State} {i : Nat} {x : Line} {d : Int} (h : treeStep S i x d = some S') : S'.length ≤ S.length + 1 := by
  unfold treeStep turn at h
  repeat' split at h
  all_goals first | (cases h; done) | (cases h; simp)
theorem treeTo_len {A : List (Line × Int)} : ∀ {i : Nat} {S : List State}, treeTo A i = some S → S.length ≤ i
  | 0, S, h => by cases h; exact Nat.le_refl _
  | i + 1, S, h => by
    rw [treeTo] at h
    split at h
    · cases h
    · rename_i S0 h0
      have := treeTo_len h0
      split at h
      · cases h; omega
      · have := treeStep_len h; omega
theorem synF_le {P : List ByteArray} : ∀ {k i : Nat}, synF P k = some i → ∀ j, k ≤ j → synF P j = some i
  | k, i, h, 0, hj => by rw [Nat.le_zero.1 hj] at h; exact h
  | k, i, h, j + 1, hj => by
    by_cases e : k = j + 1
    · rw [← e]; exact h
    · rw [synF, synF_le h j (by omega)]
theorem syn_bad {P : List ByteArray} {k : Nat} (hk : k < P.length - 1) (h : synF P k = none) (hb : (lineOf (pc P k) k).kind = 0) : syn P = some k := by
  have : synF P (P.length - 1) = some k := synF_le (k := k + 1) (by rw [synF, h]; simp only; rw [if_pos hb]) _ (by omega)
  unfold syn
  rw [this]
theorem syn_last {P : List ByteArray} (h : synF P (P.length - 1) = none) (hb : ¬ (0 < P.length - 1 ∧ (pc P (P.length - 1)).toList.isEmpty = true)) : syn P = some (P.length - 1) := by
  unfold syn
  rw [h]
  simp only
  rw [if_neg]
  simpa using hb
theorem syn_none {P : List ByteArray} (h : synF P (P.length - 1) = none) (h0 : 0 < P.length - 1) (he : (pc P (P.length - 1)).toList.isEmpty = true) : syn P = none := by
  unfold syn
  rw [h]
  simp [h0, he]
theorem synF_succ {P : List ByteArray} {k : Nat} (h : synF P k = none) (hb : ¬ (lineOf (pc P k) k).kind = 0) : synF P (k + 1) = none := by
  rw [synF, h]; simp only; rw [if_neg hb]
theorem treeTo_some {A : List (Line × Int)} {i : Nat} (h : (treeTo A i).isSome = true) : ∀ j, j ≤ i → (treeTo A j).isSome = true := by
  intro j hj
  cases e : treeTo A j with
  | some _ => rfl
  | none =>
    have := treeTo_none e i hj
    rw [this] at h; cases h
theorem failAt_eq {A : List (Line × Int)} {i : Nat} (h1 : (treeTo A i).isSome = true) (h2 : treeTo A (i + 1) = none) : ∀ k, i < k → failAt A k = i + 1
  | 0, h => by omega
  | k + 1, h => by
    by_cases e : k = i
    · rw [failAt, e, h1, h2]; rfl
    · have : treeTo A k = none := treeTo_none h2 k (by omega)
      rw [failAt, this]
      exact failAt_eq h1 h2 k (by omega)
end Ref
/-- What Read answers. -/
def ReadPost (s : ByteArray) (w : World) (e : Ending) (w' : World) : Prop := Below w.heap.size w w' ∧
  match Ref.read s with
  | .fault c l => e = .returned (.tuple #[.pointer none, .int .i64 c, .int .i64 l])
  | .chart S => ∃ cb sv X, e = .returned (.tuple #[.pointer (some ⟨cb, 0, none⟩), .int .i64 0, .int .i64 0]) ∧ cb < w'.heap.size ∧ X.map (·.s) = S ∧ ChartAt w' cb sv X ∧ ∀ x ∈ X, Deep w' x
end Go.Proofs.YtegmoddppafkfaaGreatDoor
