/-
  MY OWN TEXT.
-/
import Derived.Test.YtegmoddppafkfaaGreatDoorM01
import Derived.Test.YtegmoddppafkfaaGreatDoorM02
import Derived.Test.YtegmoddppafkfaaGreatDoorM03
import Derived.Lib.AppendIntMem
import Derived.Deep.RegionHeld3
import Derived.Deep.RegionWith
import Derived.Deep.CutBlock
import Derived.Deep.DeepCutAuto
namespace Go.Proofs.YtegmoddppafkfaaGreatDoor
open Go.RowKit
open Go.PlainAid (bt get_bt bt_nonneg bt_le bt_end)

/-- What of package strconv's variables is asked. -/
structure Env (w : World) : Prop where
  err : ErrVars w
  tab : Lib.TabIs Tryz.prog w "internal/strconv.uint64pow10" .u64 Lib.pow10Tab
theorem Env.keep {w w' : World} (h : Env w) (hb : Below w.heap.size w w') : Env w' := ⟨h.err.keep hb, Lib.tabBelow_of_tabIs h.tab w' hb⟩

theorem timedEvent_any (n : Nat) (w : World) (hn : n ≤ 1073741824) (hv : Env w) : Calls Tryz.prog 221 #[.int .i64 n] w fun e w' => e = .returned (.string (Ref.kAfter ++ Ref.dec n)) ∧ Below w.heap.size w w' := by
  have hd : (Ref.dec n).size ≤ 20 := Ref.dec_size20 (by omega)
  have HI : Hid ((⟨(Lib.itoa n).toArray⟩ : ByteArray) = Ref.dec n) := by
    unfold Hid Lib.itoa Ref.dec
    rw [if_neg (by omega)]; rfl
  go_enter Tryz.func221, Tryz.ntmps221
  go_wp2_with fail
  refine (Tryz.strconv_Itoa n (by omega) (by omega) _ hv.tab).mono ?_
  rintro e w1 ⟨rfl, k, os, hw1⟩
  have hb1 : Below w.heap.size w w1 := by rw [hw1]; exact Lib.below_grow _ _ (Nat.le_refl _) _ _
  rw [HI.out]
  clear hw1
  dsimp only
  go_wp2
  go_ret
  exact ⟨rfl, hb1⟩

/-- The panic of a fault. -/
def Refused (er line : Int) (w : World) (e : Ending) (w' : World) : Prop := Below w.heap.size w w' ∧ ∃ b, w.heap.size ≤ b ∧ w'.heap[b]? = some (.cells #[.int .i64 er, .int .i64 line] 163 (0, 0)) ∧ e = .panicked [{ v := .iface 218 (.agg #[.pointer (some ⟨b, 0, none⟩)]), recovered := false }]
theorem refuse_any (num dep er : Int) (w : World) : Calls Tryz.prog 139 #[.agg #[.int .i64 num, .int .i64 dep], .int .i64 er] w (Refused er num w) := by
  go_enter Tryz.func139, Tryz.ntmps139
  go_wp2
  refine ⟨rfl, ((Below.refl _ _).alloc (Nat.le_refl _) _).alloc (by simp) _, w.heap.size + 1, by omega, ?_, rfl⟩
  have h := heap_alloc_new (w.alloc (.cells #[.int .i64 num, .int .i64 dep] 286)) (.cells #[.int .i64 er, .int .i64 num] 163)
  simpa using h

/-- The words of a line, as far as they are left. -/
structure WordsAt (w : World) (p : Nat) (num dep : Int) (l : List ByteArray) : Prop where
  row : ∃ a cap, w.heap[p]? = some (.cells #[.int .i64 num, .int .i64 dep, .slice a l.length cap] 343 (0, 0)) ∧ l.length ≤ cap ∧ (0 < l.length → ∃ b off, a = some ⟨b, off, none⟩ ∧ b < p ∧ b < w.heap.size ∧ Strs w b off l)
  len : l.length ≤ 1073741824
  sizes : ∀ x ∈ l, x.size ≤ 1073741824

theorem WordsAt.turn {w : World} {p b off cap cap' : Nat} {num dep : Int} {x : ByteArray} {r : List ByteArray} {a' : Option Addr} (H : WordsAt w p num dep (x :: r)) (hp : w.heap[p]? = some (.cells #[.int .i64 num, .int .i64 dep, .slice (some ⟨b, off, none⟩) (x :: r).length cap] 343 (0, 0)))
    (hbp : b < p) (hbw : b < w.heap.size) (hst : Strs w b off (x :: r)) (hc : r.length ≤ cap') (ha : 0 < r.length → a' = some ⟨b, off + 1, none⟩) : WordsAt (w.setCell ⟨p, 2, none⟩ (.slice a' r.length cap')) p num dep r := by
  have ho := only_setCell w p 2 (.slice a' r.length cap')
  refine ⟨⟨a', cap', ?_, hc, fun h => ⟨b, off + 1, ha h, hbp, by rw [ho.size]; exact hbw, ?_⟩⟩, by have := H.len; simp at this; omega, fun y hy => H.sizes y (List.mem_cons_of_mem _ hy)⟩
  · rw [heap_setCell_same w p 2 _ _ _ hp]; rfl
  · intro i hi
    have := hst.drop 1 i (by simpa using hi)
    rw [ho.cell (p := ⟨b, off + 1 + i, none⟩) (Nat.ne_of_lt hbp), this]
    rfl

set_option maxHeartbeats 800000 in
theorem next_none (p : Nat) (num dep : Int) (w : World) (H : WordsAt w p num dep []) :
    Calls Tryz.prog 215 #[.pointer (some ⟨p, 0, none⟩)] w (Refused 2 num w) := by
  obtain ⟨a, cap, hp, hc, hs⟩ := H.row
  have c0 : w.cell? ⟨p, 0, none⟩ = some (.int .i64 num) := by rw [cell_of_row w p 0 _ _ _ hp]; rfl
  have c1 : w.cell? ⟨p, 1, none⟩ = some (.int .i64 dep) := by rw [cell_of_row w p 1 _ _ _ hp]; rfl
  have c2 : w.cell? ⟨p, 2, none⟩ = some (.slice a 0 cap) := by rw [cell_of_row w p 2 _ _ _ hp]; rfl
  go_enter Tryz.func215, Tryz.ntmps215
  go_wp2_with fail
  refine (refuse_any num dep 2 _).mono ?_
  rintro e w1 h1
  obtain ⟨hb, b, h2, h3, rfl⟩ := h1
  dsimp only
  exact ⟨rfl, hb, b, h2, h3, rfl⟩
set_option maxHeartbeats 800000 in
theorem next_some (p : Nat) (num dep : Int) (x : ByteArray) (r : List ByteArray) (w : World) (H : WordsAt w p num dep (x :: r)) :
    Calls Tryz.prog 215 #[.pointer (some ⟨p, 0, none⟩)] w fun e w' => e = .returned (.string x) ∧ Only p w w' ∧ WordsAt w' p num dep r := by
  obtain ⟨a, cap, hp, hc, hs⟩ := H.row
  have c2 : w.cell? ⟨p, 2, none⟩ = some (.slice a (x :: r).length cap) := by rw [cell_of_row w p 2 _ _ _ hp]; rfl
  have fr : w.frozen? ⟨p, 2, none⟩ = false := by simp [World.frozen?, hp]
  obtain ⟨b, off, rfl, hbp, hbw, hst⟩ := hs (by simp)
  have d0 := hst 0 (by simp)
  simp only [Ref.at', List.getD_cons_zero, Nat.add_zero] at d0
  have hc1 : r.length + 1 ≤ cap := by simpa using hc
  go_enter Tryz.func215, Tryz.ntmps215
  go_wp2
  · go_ret
    exact ⟨rfl, only_setCell _ _ _ _, H.turn hp hbp hbw hst (by omega) (fun h => by omega)⟩
  · go_ret
    exact ⟨rfl, only_setCell _ _ _ _, H.turn hp hbp hbw hst (by omega) (fun _ => rfl)⟩
set_option maxHeartbeats 800000 in
theorem skip_none (p : Nat) (num dep : Int) (k : ByteArray) (w : World) (H : WordsAt w p num dep []) :
    Calls Tryz.prog 245 #[.pointer (some ⟨p, 0, none⟩), .string k] w fun e w' => e = .returned (.bool false) ∧ w' = w := by
  obtain ⟨a, cap, hp, hc, hs⟩ := H.row
  have c2 : w.cell? ⟨p, 2, none⟩ = some (.slice a 0 cap) := by rw [cell_of_row w p 2 _ _ _ hp]; rfl
  go_enter Tryz.func245, Tryz.ntmps245
  go_wp2
  go_ret
  exact ⟨rfl, rfl⟩
set_option maxHeartbeats 800000 in
theorem skip_no (p : Nat) (num dep : Int) (x : ByteArray) (r : List ByteArray) (k : ByteArray) (w : World) (H : WordsAt w p num dep (x :: r)) (hk : (x.toList == k.toList) = false) :
    Calls Tryz.prog 245 #[.pointer (some ⟨p, 0, none⟩), .string k] w fun e w' => e = .returned (.bool false) ∧ w' = w := by
  obtain ⟨a, cap, hp, hc, hs⟩ := H.row
  have c2 : w.cell? ⟨p, 2, none⟩ = some (.slice a (x :: r).length cap) := by rw [cell_of_row w p 2 _ _ _ hp]; rfl
  obtain ⟨b, off, rfl, hbp, hbw, hst⟩ := hs (by simp)
  have d0 := hst 0 (by simp)
  simp only [Ref.at', List.getD_cons_zero, Nat.add_zero] at d0
  have hk' : (x.toList != k.toList) = true := by rw [bne, hk]; rfl
  go_enter Tryz.func245, Tryz.ntmps245
  go_wp2
  go_ret
  exact ⟨rfl, rfl⟩
set_option maxHeartbeats 800000 in
theorem skip_yes (p : Nat) (num dep : Int) (x : ByteArray) (r : List ByteArray) (k : ByteArray) (w : World) (H : WordsAt w p num dep (x :: r)) (hk : (x.toList == k.toList) = true) :
    Calls Tryz.prog 245 #[.pointer (some ⟨p, 0, none⟩), .string k] w fun e w' => e = .returned (.bool true) ∧ Only p w w' ∧ WordsAt w' p num dep r := by
  obtain ⟨a, cap, hp, hc, hs⟩ := H.row
  have c2 : w.cell? ⟨p, 2, none⟩ = some (.slice a (x :: r).length cap) := by rw [cell_of_row w p 2 _ _ _ hp]; rfl
  have fr : w.frozen? ⟨p, 2, none⟩ = false := by simp [World.frozen?, hp]
  obtain ⟨b, off, rfl, hbp, hbw, hst⟩ := hs (by simp)
  have d0 := hst 0 (by simp)
  simp only [Ref.at', List.getD_cons_zero, Nat.add_zero] at d0
  have hc1 : r.length + 1 ≤ cap := by simpa using hc
  have hk' : (x.toList != k.toList) = false := by rw [bne, hk]; rfl
  go_enter Tryz.func245, Tryz.ntmps245
  go_wp2
  · go_ret
    exact ⟨rfl, only_setCell _ _ _ _, H.turn hp hbp hbw hst (by omega) (fun h => by omega)⟩
  · go_ret
    exact ⟨rfl, only_setCell _ _ _ _, H.turn hp hbp hbw hst (by omega) (fun _ => rfl)⟩

set_option maxHeartbeats 800000 in
theorem end_ok (p : Nat) (num dep : Int) (w : World) (H : WordsAt w p num dep []) :
    Calls Tryz.prog 177 #[.pointer (some ⟨p, 0, none⟩)] w fun e w' => e = .returned (.tuple #[]) ∧ w' = w := by
  obtain ⟨a, cap, hp, hc, hs⟩ := H.row
  have c2 : w.cell? ⟨p, 2, none⟩ = some (.slice a 0 cap) := by rw [cell_of_row w p 2 _ _ _ hp]; rfl
  go_enter Tryz.func177, Tryz.ntmps177
  go_wp2
  go_end0
  exact ⟨rfl, rfl⟩
set_option maxHeartbeats 800000 in
theorem end_bad (p : Nat) (num dep : Int) (l : List ByteArray) (w : World) (H : WordsAt w p num dep l) (h0 : 0 < l.length) :
    Calls Tryz.prog 177 #[.pointer (some ⟨p, 0, none⟩)] w (Refused 2 num w) := by
  obtain ⟨a, cap, hp, hc, hs⟩ := H.row
  have c0 : w.cell? ⟨p, 0, none⟩ = some (.int .i64 num) := by rw [cell_of_row w p 0 _ _ _ hp]; rfl
  have c1 : w.cell? ⟨p, 1, none⟩ = some (.int .i64 dep) := by rw [cell_of_row w p 1 _ _ _ hp]; rfl
  have c2 : w.cell? ⟨p, 2, none⟩ = some (.slice a l.length cap) := by rw [cell_of_row w p 2 _ _ _ hp]; rfl
  go_enter Tryz.func177, Tryz.ntmps177
  go_wp2_with fail
  refine (refuse_any num dep 2 _).mono ?_
  rintro e w1 h1
  obtain ⟨hb, b, h2, h3, rfl⟩ := h1
  dsimp only
  exact ⟨rfl, hb, b, h2, h3, rfl⟩
end Go.Proofs.YtegmoddppafkfaaGreatDoor
namespace Go.Proofs.YtegmoddppafkfaaGreatDoor
open Go.RowKit

/-- Of what stood, one block alone may have turned. -/
structure Turned (p : Nat) (w w' : World) : Prop where
  os : w'.os = w.os
  tape : w'.tape = w.tape
  output : w'.output = w.output
  size : w.heap.size ≤ w'.heap.size
  block : ∀ k, k < w.heap.size → k ≠ p → w'.heap[k]? = w.heap[k]?
theorem Turned.refl (p : Nat) (w : World) : Turned p w w := ⟨rfl, rfl, rfl, Nat.le_refl _, fun _ _ _ => rfl⟩
theorem Turned.trans {p : Nat} {a b c : World} (h : Turned p a b) (k : Turned p b c) : Turned p a c :=
  ⟨k.os.trans h.os, k.tape.trans h.tape, k.output.trans h.output, Nat.le_trans h.size k.size, fun i hi hp => (k.block i (Nat.lt_of_lt_of_le hi h.size) hp).trans (h.block i hi hp)⟩
theorem Only.turned {p : Nat} {w w' : World} (h : Only p w w') : Turned p w w' := ⟨h.os, h.tape, h.output, by rw [h.size]; exact Nat.le_refl _, fun k _ hp => h.block k hp⟩
theorem turned_of_below {p : Nat} {w w' : World} (h : Below w.heap.size w w') : Turned p w w' := ⟨h.os, h.tape, h.output, h.size, fun k hk _ => h.block k hk⟩
theorem Turned.below {p B : Nat} {a w w' : World} (h : Turned p w w') (hb : Below B a w) (hB : B ≤ p) (hs : B ≤ w.heap.size) : Below B a w' :=
  hb.trans ⟨h.os, h.tape, h.output, h.size, fun k hk => h.block k (by omega) (by omega)⟩
/-- strconv's variables lay where they lie before the words did. -/
def EnvAt (p : Nat) (w : World) : Prop := ∃ w0 : World, w0.heap.size ≤ p ∧ Env w0 ∧ Below w0.heap.size w0 w
theorem EnvAt.here {p : Nat} {w : World} (h : EnvAt p w) : Env w := let ⟨_, _, h2, h3⟩ := h; h2.keep h3
theorem EnvAt.turned {p : Nat} {w w' : World} (h : EnvAt p w) (ht : Turned p w w') : EnvAt p w' :=
  let ⟨w0, h1, h2, h3⟩ := h
  ⟨w0, h1, h2, ht.below h3 h1 h3.size⟩
theorem WordsAt.keep {w w' : World} {p : Nat} {num dep : Int} {l : List ByteArray} (H : WordsAt w p num dep l) (hb : Below w.heap.size w w') : WordsAt w' p num dep l := by
  obtain ⟨a, cap, hp, hc, hs⟩ := H.row
  refine ⟨⟨a, cap, ?_, hc, fun h => ?_⟩, H.len, H.sizes⟩
  · rw [hb.block p (Array.getElem?_eq_some_iff.1 hp).1]; exact hp
  · obtain ⟨b, off, h1, h2, h3, h4⟩ := hs h
    exact ⟨b, off, h1, h2, Nat.lt_of_lt_of_le h3 hb.size, h4.below hb h3⟩
def RefusedT (p : Nat) (er line : Int) (w : World) (e : Ending) (w' : World) : Prop := Turned p w w' ∧ ∃ b, w.heap.size ≤ b ∧ w'.heap[b]? = some (.cells #[.int .i64 er, .int .i64 line] 163 (0, 0)) ∧ e = .panicked [{ v := .iface 218 (.agg #[.pointer (some ⟨b, 0, none⟩)]), recovered := false }]
theorem refusedT_of {p : Nat} {er line : Int} {w0 w w' : World} {e : Ending} (ht : Turned p w0 w) (h : Refused er line w e w') : RefusedT p er line w0 e w' := by
  obtain ⟨hb, b, h2, h3, h4⟩ := h
  exact ⟨ht.trans (turned_of_below hb), b, Nat.le_trans ht.size h2, h3, h4⟩
theorem WordsAt.cells {w : World} {p : Nat} {num dep : Int} {l : List ByteArray} (H : WordsAt w p num dep l) : w.cell? ⟨p, 0, none⟩ = some (.int .i64 num) ∧ w.cell? ⟨p, 1, none⟩ = some (.int .i64 dep) := by
  obtain ⟨a, cap, hp, hc, hs⟩ := H.row
  exact ⟨by rw [cell_of_row w p 0 _ _ _ hp]; rfl, by rw [cell_of_row w p 1 _ _ _ hp]; rfl⟩
/-- What a predicate of words answers. -/
def Tells (f : Nat) (P : ByteArray → Bool) : Prop := ∀ (s : ByteArray) (w : World), s.size ≤ 1073741824 → Env w → Calls Tryz.prog f #[.string s] w fun e w' => e = .returned (.bool (P s)) ∧ Below w.heap.size w w'
theorem tells_name : Tells 244 Ref.plain := fun s w hs _ => (isName_any s w (by unfold maxLen; omega)).mono (by rintro e w' ⟨rfl, rfl⟩; exact ⟨rfl, Below.refl _ _⟩)
theorem tells_own : Tells 248 Ref.called := fun s w hs hv => isOwnEvent_any s w hs hv.err
theorem tells_awaited : Tells 220 Ref.awaited := fun s w hs hv => isAwaited_any s w hs hv.err

set_option maxHeartbeats 800000 in
theorem nextOf_none (p : Nat) (num dep : Int) (f : Nat) (w : World) (H : WordsAt w p num dep []) :
    Calls Tryz.prog 219 #[.pointer (some ⟨p, 0, none⟩), .func (.func f) #[] #[]] w (RefusedT p 2 num w) := by
  go_enter Tryz.func219, Tryz.ntmps219
  go_wp2_with fail
  refine (next_none p num dep _ H).mono ?_
  rintro e w1 h1
  have h2 := refusedT_of (Turned.refl p w) h1
  obtain ⟨ht, b, h3, h4, rfl⟩ := h2
  dsimp only
  exact ⟨rfl, ht, b, h3, h4, rfl⟩
set_option maxHeartbeats 800000 in
theorem nextOf_name_no (p : Nat) (num dep : Int) (x : ByteArray) (r : List ByteArray) (w : World) (H : WordsAt w p num dep (x :: r)) (hv : EnvAt p w) (hx : Ref.plain x = false) :
    Calls Tryz.prog 219 #[.pointer (some ⟨p, 0, none⟩), .func (.func 244) #[] #[]] w (RefusedT p 2 num w) := by
  have hsz := H.sizes x (by simp)
  go_enter Tryz.func219, Tryz.ntmps219
  go_wp2_with fail
  refine (next_some p num dep x r _ H).mono ?_
  rintro e w1 ⟨rfl, ho, H1⟩
  have ht1 := ho.turned
  have hv1 := hv.turned ht1
  clear ho
  dsimp only
  go_wp2_with fail
  refine (tells_name x _ hsz hv1.here).mono ?_
  rintro e w2 ⟨rfl, hb2⟩
  rw [hx]
  have H2 := H1.keep hb2
  obtain ⟨c0, c1⟩ := H2.cells
  have ht2 : Turned p w w2 := ht1.trans (turned_of_below hb2)
  clear H1 hb2 ht1 hv1
  dsimp only
  go_wp2_with fail
  refine (refuse_any num dep 2 _).mono ?_
  rintro e w3 h3
  obtain ⟨ht, b, h4, h5, rfl⟩ := refusedT_of ht2 h3
  dsimp only
  exact ⟨rfl, ht, b, h4, h5, rfl⟩
set_option maxHeartbeats 800000 in
theorem nextOf_name_yes (p : Nat) (num dep : Int) (x : ByteArray) (r : List ByteArray) (w : World) (H : WordsAt w p num dep (x :: r)) (hv : EnvAt p w) (hx : Ref.plain x = true) :
    Calls Tryz.prog 219 #[.pointer (some ⟨p, 0, none⟩), .func (.func 244) #[] #[]] w fun e w' => e = .returned (.string x) ∧ Turned p w w' ∧ WordsAt w' p num dep r := by
  have hsz := H.sizes x (by simp)
  go_enter Tryz.func219, Tryz.ntmps219
  go_wp2_with fail
  refine (next_some p num dep x r _ H).mono ?_
  rintro e w1 ⟨rfl, ho, H1⟩
  have ht1 := ho.turned
  have hv1 := hv.turned ht1
  clear ho
  dsimp only
  go_wp2_with fail
  refine (tells_name x _ hsz hv1.here).mono ?_
  rintro e w2 ⟨rfl, hb2⟩
  rw [hx]
  have H2 := H1.keep hb2
  have ht2 : Turned p w w2 := ht1.trans (turned_of_below hb2)
  clear H1 hb2 ht1 hv1
  dsimp only
  go_wp2
  go_ret
  exact ⟨rfl, ht2, H2⟩

set_option maxHeartbeats 800000 in
theorem nextOf_own_no (p : Nat) (num dep : Int) (x : ByteArray) (r : List ByteArray) (w : World) (H : WordsAt w p num dep (x :: r)) (hv : EnvAt p w) (hx : Ref.called x = false) :
    Calls Tryz.prog 219 #[.pointer (some ⟨p, 0, none⟩), .func (.func 248) #[] #[]] w (RefusedT p 2 num w) := by
  have hsz := H.sizes x (by simp)
  go_enter Tryz.func219, Tryz.ntmps219
  go_wp2_with fail
  refine (next_some p num dep x r _ H).mono ?_
  rintro e w1 ⟨rfl, ho, H1⟩
  have ht1 := ho.turned
  have hv1 := hv.turned ht1
  clear ho
  dsimp only
  go_wp2_with fail
  refine (tells_own x _ hsz hv1.here).mono ?_
  rintro e w2 ⟨rfl, hb2⟩
  rw [hx]
  have H2 := H1.keep hb2
  obtain ⟨c0, c1⟩ := H2.cells
  have ht2 : Turned p w w2 := ht1.trans (turned_of_below hb2)
  clear H1 hb2 ht1 hv1
  dsimp only
  go_wp2_with fail
  refine (refuse_any num dep 2 _).mono ?_
  rintro e w3 h3
  obtain ⟨ht, b, h4, h5, rfl⟩ := refusedT_of ht2 h3
  dsimp only
  exact ⟨rfl, ht, b, h4, h5, rfl⟩
set_option maxHeartbeats 800000 in
theorem nextOf_own_yes (p : Nat) (num dep : Int) (x : ByteArray) (r : List ByteArray) (w : World) (H : WordsAt w p num dep (x :: r)) (hv : EnvAt p w) (hx : Ref.called x = true) :
    Calls Tryz.prog 219 #[.pointer (some ⟨p, 0, none⟩), .func (.func 248) #[] #[]] w fun e w' => e = .returned (.string x) ∧ Turned p w w' ∧ WordsAt w' p num dep r := by
  have hsz := H.sizes x (by simp)
  go_enter Tryz.func219, Tryz.ntmps219
  go_wp2_with fail
  refine (next_some p num dep x r _ H).mono ?_
  rintro e w1 ⟨rfl, ho, H1⟩
  have ht1 := ho.turned
  have hv1 := hv.turned ht1
  clear ho
  dsimp only
  go_wp2_with fail
  refine (tells_own x _ hsz hv1.here).mono ?_
  rintro e w2 ⟨rfl, hb2⟩
  rw [hx]
  have H2 := H1.keep hb2
  have ht2 : Turned p w w2 := ht1.trans (turned_of_below hb2)
  clear H1 hb2 ht1 hv1
  dsimp only
  go_wp2
  go_ret
  exact ⟨rfl, ht2, H2⟩

set_option maxHeartbeats 800000 in
theorem nextOf_awaited_no (p : Nat) (num dep : Int) (x : ByteArray) (r : List ByteArray) (w : World) (H : WordsAt w p num dep (x :: r)) (hv : EnvAt p w) (hx : Ref.awaited x = false) :
    Calls Tryz.prog 219 #[.pointer (some ⟨p, 0, none⟩), .func (.func 220) #[] #[]] w (RefusedT p 2 num w) := by
  have hsz := H.sizes x (by simp)
  go_enter Tryz.func219, Tryz.ntmps219
  go_wp2_with fail
  refine (next_some p num dep x r _ H).mono ?_
  rintro e w1 ⟨rfl, ho, H1⟩
  have ht1 := ho.turned
  have hv1 := hv.turned ht1
  clear ho
  dsimp only
  go_wp2_with fail
  refine (tells_awaited x _ hsz hv1.here).mono ?_
  rintro e w2 ⟨rfl, hb2⟩
  rw [hx]
  have H2 := H1.keep hb2
  obtain ⟨c0, c1⟩ := H2.cells
  have ht2 : Turned p w w2 := ht1.trans (turned_of_below hb2)
  clear H1 hb2 ht1 hv1
  dsimp only
  go_wp2_with fail
  refine (refuse_any num dep 2 _).mono ?_
  rintro e w3 h3
  obtain ⟨ht, b, h4, h5, rfl⟩ := refusedT_of ht2 h3
  dsimp only
  exact ⟨rfl, ht, b, h4, h5, rfl⟩
set_option maxHeartbeats 800000 in
theorem nextOf_awaited_yes (p : Nat) (num dep : Int) (x : ByteArray) (r : List ByteArray) (w : World) (H : WordsAt w p num dep (x :: r)) (hv : EnvAt p w) (hx : Ref.awaited x = true) :
    Calls Tryz.prog 219 #[.pointer (some ⟨p, 0, none⟩), .func (.func 220) #[] #[]] w fun e w' => e = .returned (.string x) ∧ Turned p w w' ∧ WordsAt w' p num dep r := by
  have hsz := H.sizes x (by simp)
  go_enter Tryz.func219, Tryz.ntmps219
  go_wp2_with fail
  refine (next_some p num dep x r _ H).mono ?_
  rintro e w1 ⟨rfl, ho, H1⟩
  have ht1 := ho.turned
  have hv1 := hv.turned ht1
  clear ho
  dsimp only
  go_wp2_with fail
  refine (tells_awaited x _ hsz hv1.here).mono ?_
  rintro e w2 ⟨rfl, hb2⟩
  rw [hx]
  have H2 := H1.keep hb2
  have ht2 : Turned p w w2 := ht1.trans (turned_of_below hb2)
  clear H1 hb2 ht1 hv1
  dsimp only
  go_wp2
  go_ret
  exact ⟨rfl, ht2, H2⟩

set_option maxHeartbeats 800000 in
theorem delay_none (p : Nat) (num dep : Int) (w : World) (H : WordsAt w p num dep []) :
    Calls Tryz.prog 222 #[.pointer (some ⟨p, 0, none⟩)] w (RefusedT p 2 num w) := by
  go_enter Tryz.func222, Tryz.ntmps222
  go_wp2_with fail
  refine (next_none p num dep _ H).mono ?_
  rintro e w1 h1
  have h2 := refusedT_of (Turned.refl p w) h1
  obtain ⟨ht, b, h3, h4, rfl⟩ := h2
  dsimp only
  exact ⟨rfl, ht, b, h3, h4, rfl⟩
set_option maxHeartbeats 800000 in
theorem delay_no (p : Nat) (num dep : Int) (x : ByteArray) (r : List ByteArray) (w : World) (H : WordsAt w p num dep (x :: r)) (hv : EnvAt p w) (hx : Ref.digOk x = false) :
    Calls Tryz.prog 222 #[.pointer (some ⟨p, 0, none⟩)] w (RefusedT p 2 num w) := by
  have hsz := H.sizes x (by simp)
  go_enter Tryz.func222, Tryz.ntmps222
  go_wp2_with fail
  refine (next_some p num dep x r _ H).mono ?_
  rintro e w1 ⟨rfl, ho, H1⟩
  have ht1 := ho.turned
  have hv1 := hv.turned ht1
  clear ho
  dsimp only
  go_wp2_with fail
  refine (number_any x _ hsz hv1.here.err).mono ?_
  rintro e w2 ⟨hb2, u, rfl, _⟩
  rw [hx]
  have H2 := H1.keep hb2
  obtain ⟨c0, c1⟩ := H2.cells
  have ht2 : Turned p w w2 := ht1.trans (turned_of_below hb2)
  clear H1 hb2 ht1 hv1
  dsimp only
  go_wp2_with fail
  refine (refuse_any num dep 2 _).mono ?_
  rintro e w3 h3
  obtain ⟨ht, b, h4, h5, rfl⟩ := refusedT_of ht2 h3
  dsimp only
  exact ⟨rfl, ht, b, h4, h5, rfl⟩
set_option maxHeartbeats 800000 in
theorem delay_yes (p : Nat) (num dep : Int) (x : ByteArray) (r : List ByteArray) (w : World) (H : WordsAt w p num dep (x :: r)) (hv : EnvAt p w) (hx : Ref.digOk x = true) :
    Calls Tryz.prog 222 #[.pointer (some ⟨p, 0, none⟩)] w fun e w' => e = .returned (.int .u64 (Ref.digVal x)) ∧ Turned p w w' ∧ WordsAt w' p num dep r := by
  have hsz := H.sizes x (by simp)
  go_enter Tryz.func222, Tryz.ntmps222
  go_wp2_with fail
  refine (next_some p num dep x r _ H).mono ?_
  rintro e w1 ⟨rfl, ho, H1⟩
  have ht1 := ho.turned
  have hv1 := hv.turned ht1
  clear ho
  dsimp only
  go_wp2_with fail
  refine (number_any x _ hsz hv1.here.err).mono ?_
  rintro e w2 ⟨hb2, u, rfl, hu⟩
  rw [hx, hu hx]
  have H2 := H1.keep hb2
  have ht2 : Turned p w w2 := ht1.trans (turned_of_below hb2)
  clear H1 hb2 ht1 hv1 hu u
  dsimp only
  go_wp2
  go_ret
  exact ⟨rfl, ht2, H2⟩
end Go.Proofs.YtegmoddppafkfaaGreatDoor
namespace Go.Proofs.YtegmoddppafkfaaGreatDoor
open Go.RowKit

theorem Turned.setNew {p N o : Nat} {w w1 : World} {v : Value} (h : Turned p w w1) (hN : w.heap.size ≤ N) : Turned p w (w1.setCell ⟨N, o, none⟩ v) := by
  have ho := only_setCell w1 N o v
  exact ⟨ho.os.trans h.os, ho.tape.trans h.tape, ho.output.trans h.output, by rw [ho.size]; exact h.size, fun k hk hp => (ho.block k (by omega)).trans (h.block k hk hp)⟩
theorem Turned.alloc {p : Nat} {w w1 : World} (h : Turned p w w1) (o : Obj) : Turned p w (w1.alloc o) := h.trans (turned_of_below ((Below.refl _ _).alloc (Nat.le_refl _) _))
theorem Turned.drew {p : Nat} {w w1 : World} (h : Turned p w w1) : Turned p w w1.drew := ⟨h.os, h.tape, h.output, h.size, h.block⟩
theorem WordsAt.only {w w' : World} {p N : Nat} {num dep : Int} {l : List ByteArray} (H : WordsAt w p num dep l) (ho : Only N w w') (hN : p < N) : WordsAt w' p num dep l := by
  obtain ⟨a, cap, hp, hc, hs⟩ := H.row
  refine ⟨⟨a, cap, ?_, hc, fun h => ?_⟩, H.len, H.sizes⟩
  · rw [ho.block p (by omega)]; exact hp
  · obtain ⟨b, off, h1, h2, h3, h4⟩ := hs h
    refine ⟨b, off, h1, h2, by rw [ho.size]; exact h3, fun i hi => ?_⟩
    rw [ho.cell (p := ⟨b, off + i, none⟩) (show b ≠ N by omega)]; exact h4 i hi
theorem WordsAt.lt {w : World} {p : Nat} {num dep : Int} {l : List ByteArray} (H : WordsAt w p num dep l) : p < w.heap.size := by
  obtain ⟨a, cap, hp, hc, hs⟩ := H.row
  exact (Array.getElem?_eq_some_iff.1 hp).1
theorem WordsAt.drew {w : World} {p : Nat} {num dep : Int} {l : List ByteArray} (H : WordsAt w p num dep l) : WordsAt w.drew p num dep l := H.keep (Below.refl _ _).drew
theorem EnvAt.alloc {p : Nat} {w : World} (h : EnvAt p w) (o : Obj) : EnvAt p (w.alloc o) := h.turned ((Turned.refl p w).alloc o)
theorem WordsAt.alloc {w : World} {p : Nat} {num dep : Int} {l : List ByteArray} (H : WordsAt w p num dep l) (o : Obj) : WordsAt (w.alloc o) p num dep l := H.keep ((Below.refl _ _).alloc (Nat.le_refl _) _)
theorem Tryz.resNamed : Tryz.f289.results = #[.cell 2 327] := rfl
theorem Tryz.sizeNamed : (Tryz.prog.info? 327).map (·.size) = some 1 := by kernel_rfl

set_option maxHeartbeats 800000 in
theorem named_yes (p : Nat) (num dep : Int) (x : ByteArray) (r : List ByteArray) (w : World) (H : WordsAt w p num dep (x :: r)) (hv : EnvAt p w) (hx : Ref.called x = true) :
    Calls Tryz.prog 289 #[.pointer (some ⟨p, 0, none⟩)] w fun e w' => e = .returned (.agg #[.string x]) ∧ Turned p w w' ∧ WordsAt w' p num dep r := by
  have hpl := H.lt
  go_enter Tryz.func289, Tryz.ntmps289
  go_wp2_with fail
  refine (nextOf_own_yes p num dep x r _ (H.alloc _) (hv.alloc _) hx).mono ?_
  rintro e w1 ⟨rfl, ht1, H1⟩
  dsimp only
  have hN : w1.heap[w.heap.size]? = some (.cells #[.string ByteArray.empty] 327 (0, 0)) := by
    rw [ht1.block w.heap.size (by simp) (by omega)]; exact heap_alloc_new w _
  have cN : w1.cell? ⟨w.heap.size, 0, none⟩ = some (.string ByteArray.empty) := by rw [cell_of_row w1 _ 0 _ _ _ hN]; rfl
  have fN : w1.frozen? ⟨w.heap.size, 0, none⟩ = false := by simp [World.frozen?, hN]
  have ht : Turned p w w1 := ((Turned.refl p w).alloc _).trans ht1
  clear ht1
  go_wp2
  have h2 := heap_setCell_same w1 w.heap.size 0 _ _ (.string x) hN
  exact ret_cell Tryz.resNamed _ 327 _ (0, 0) _ rfl h2 Tryz.underlying327 rfl Tryz.sizeNamed rfl ⟨rfl, ht.setNew (Nat.le_refl _), H1.only (only_setCell _ _ _ _) hpl⟩
theorem named_none (p : Nat) (num dep : Int) (w : World) (H : WordsAt w p num dep []) :
    Calls Tryz.prog 289 #[.pointer (some ⟨p, 0, none⟩)] w (RefusedT p 2 num w) := by
  go_enter Tryz.func289, Tryz.ntmps289
  go_wp2_with fail
  refine (nextOf_none p num dep _ _ (H.alloc _)).mono ?_
  rintro e w1 ⟨ht, b, h3, h4, rfl⟩
  dsimp only
  exact ⟨rfl, ((Turned.refl p w).alloc _).trans ht, b, by simp at h3; omega, h4, rfl⟩
theorem named_no (p : Nat) (num dep : Int) (x : ByteArray) (r : List ByteArray) (w : World) (H : WordsAt w p num dep (x :: r)) (hv : EnvAt p w) (hx : Ref.called x = false) :
    Calls Tryz.prog 289 #[.pointer (some ⟨p, 0, none⟩)] w (RefusedT p 2 num w) := by
  go_enter Tryz.func289, Tryz.ntmps289
  go_wp2_with fail
  refine (nextOf_own_no p num dep x r _ (H.alloc _) (hv.alloc _) hx).mono ?_
  rintro e w1 ⟨ht, b, h3, h4, rfl⟩
  dsimp only
  exact ⟨rfl, ((Turned.refl p w).alloc _).trans ht, b, by simp at h3; omega, h4, rfl⟩
end Go.Proofs.YtegmoddppafkfaaGreatDoor
namespace Go.Proofs.YtegmoddppafkfaaGreatDoor
open Go.RowKit

namespace Pro
/-- A word of which P holds, and what is left. -/
def pOf (P : ByteArray → Bool) : List ByteArray → Option (ByteArray × List ByteArray)
  | [] => none
  | x :: r => if P x then some (x, r) else none
def pDelay : List ByteArray → Option (Int × List ByteArray)
  | [] => none
  | x :: r => if Ref.digOk x then some (Ref.digVal x, r) else none
def bRaise : ByteArray := ⟨#[114, 97, 105, 115, 101]⟩
def bSend : ByteArray := ⟨#[115, 101, 110, 100]⟩
def bCancel : ByteArray := ⟨#[99, 97, 110, 99, 101, 108]⟩
def bAs : ByteArray := ⟨#[97, 115]⟩
/-- Behind send: the event, the delay, and the name behind as, if there is one. -/
def pSend (l : List ByteArray) : Option ((ByteArray × Int × Option ByteArray) × List ByteArray) :=
  match pOf Ref.called l with
  | none => none
  | some (x, l1) => match pDelay l1 with
    | none => none
    | some (d, []) => some ((x, d, none), [])
    | some (d, y :: r) => if y.toList == bAs.toList then
        match pOf Ref.called r with
        | none => none
        | some (a, l3) => some ((x, d, some a), l3)
      else some ((x, d, none), y :: r)
end Pro
theorem Turned.cell {p : Nat} {w w' : World} (h : Turned p w w') {a : Addr} (hb : a.block < w.heap.size) (hp : ¬ a.block = p) : w'.cell? a = w.cell? a := World.cell?_of_block (w := w) (h.block a.block hb hp)
/-- What a reader of words answers: the value and what is left; or it refuses the line. -/
def Parses (p : Nat) (num dep : Int) (res : Option (Value × List ByteArray)) (w : World) (e : Ending) (w' : World) : Prop := match res with
  | none => RefusedT p 2 num w e w'
  | some (v, r) => e = .returned v ∧ Turned p w w' ∧ WordsAt w' p num dep r
theorem namedW_any (p : Nat) (num dep : Int) (l : List ByteArray) (w : World) (H : WordsAt w p num dep l) (hv : EnvAt p w) :
    Calls Tryz.prog 289 #[.pointer (some ⟨p, 0, none⟩)] w (Parses p num dep ((Pro.pOf Ref.called l).map fun q => (.agg #[.string q.1], q.2)) w) := by
  cases l with
  | nil => exact named_none p num dep w H
  | cons x r =>
    cases hx : Ref.called x
    · have : Pro.pOf Ref.called (x :: r) = none := by rw [Pro.pOf, hx]; rfl
      rw [this]; exact named_no p num dep x r w H hv hx
    · have : Pro.pOf Ref.called (x :: r) = some (x, r) := by rw [Pro.pOf, hx]; rfl
      rw [this]; exact named_yes p num dep x r w H hv hx
theorem delay_any (p : Nat) (num dep : Int) (l : List ByteArray) (w : World) (H : WordsAt w p num dep l) (hv : EnvAt p w) :
    Calls Tryz.prog 222 #[.pointer (some ⟨p, 0, none⟩)] w (Parses p num dep ((Pro.pDelay l).map fun q => (.int .u64 q.1, q.2)) w) := by
  cases l with
  | nil => exact delay_none p num dep w H
  | cons x r =>
    cases hx : Ref.digOk x
    · have : Pro.pDelay (x :: r) = none := by rw [Pro.pDelay, hx]; rfl
      rw [this]; exact delay_no p num dep x r w H hv hx
    · have : Pro.pDelay (x :: r) = some (Ref.digVal x, r) := by rw [Pro.pDelay, hx]; rfl
      rw [this]; exact delay_yes p num dep x r w H hv hx
theorem nextOf_own_any (p : Nat) (num dep : Int) (l : List ByteArray) (w : World) (H : WordsAt w p num dep l) (hv : EnvAt p w) :
    Calls Tryz.prog 219 #[.pointer (some ⟨p, 0, none⟩), .func (.func 248) #[] #[]] w (Parses p num dep ((Pro.pOf Ref.called l).map fun q => (.string q.1, q.2)) w) := by
  cases l with
  | nil => exact nextOf_none p num dep _ w H
  | cons x r =>
    cases hx : Ref.called x
    · have : Pro.pOf Ref.called (x :: r) = none := by rw [Pro.pOf, hx]; rfl
      rw [this]; exact nextOf_own_no p num dep x r w H hv hx
    · have : Pro.pOf Ref.called (x :: r) = some (x, r) := by rw [Pro.pOf, hx]; rfl
      rw [this]; exact nextOf_own_yes p num dep x r w H hv hx
/-- The action that send makes. -/
def sendV (x : ByteArray) (d : Int) : Option ByteArray → Value
  | none => .iface 329 (.agg #[.string x, .int .u64 d])
  | some a => .iface 331 (.agg #[.string x, .int .u64 d, .string a])

set_option maxHeartbeats 1600000 in
theorem send_any (p : Nat) (num dep : Int) (l : List ByteArray) (w : World) (H : WordsAt w p num dep l) (hv : EnvAt p w) :
    Calls Tryz.prog 290 #[.pointer (some ⟨p, 0, none⟩)] w (Parses p num dep ((Pro.pSend l).map fun q => (sendV q.1.1 q.1.2.1 q.1.2.2, q.2)) w) := by
  have hpl := H.lt
  cases hn : Pro.pOf Ref.called l with
  | none =>
    have HS : Hid (Pro.pSend l = none) := by unfold Hid Pro.pSend; rw [hn]
    go_enter Tryz.func290, Tryz.ntmps290
    go_wp2_with fail
    refine (namedW_any p num dep l _ H hv).mono ?_
    rintro e w1 h1
    rw [hn] at h1
    obtain ⟨ht, b, h3, h4, rfl⟩ := h1
    dsimp only
    refine ⟨rfl, ?_⟩
    rw [HS.out]
    exact ⟨ht, b, h3, h4, rfl⟩
  | some q =>
    obtain ⟨x, l1⟩ := q
    cases hd : Pro.pDelay l1 with
    | none =>
      have HS : Hid (Pro.pSend l = none) := by unfold Hid Pro.pSend; rw [hn]; simp only; rw [hd]
      go_enter Tryz.func290, Tryz.ntmps290
      go_wp2_with fail
      refine (namedW_any p num dep l _ H hv).mono ?_
      rintro e w1 h1
      rw [hn] at h1
      obtain ⟨rfl, ht1, H1⟩ := h1
      dsimp only
      go_wp2_with fail
      refine (delay_any p num dep l1 _ H1 (hv.turned ht1)).mono ?_
      rintro e w2 h2
      rw [hd] at h2
      obtain ⟨ht, b, h3, h4, rfl⟩ := h2
      dsimp only
      refine ⟨rfl, ?_⟩
      rw [HS.out]
      exact ⟨ht1.trans ht, b, Nat.le_trans ht1.size h3, h4, rfl⟩
    | some q =>
      obtain ⟨d, l2⟩ := q
      go_enter Tryz.func290, Tryz.ntmps290
      go_wp2_with fail
      refine (namedW_any p num dep l _ H hv).mono ?_
      rintro e w1 h1
      rw [hn] at h1
      obtain ⟨rfl, ht1, H1⟩ := h1
      dsimp only
      go_wp2_with fail
      refine (delay_any p num dep l1 _ H1 (hv.turned ht1)).mono ?_
      rintro e w2 h2
      rw [hd] at h2
      obtain ⟨rfl, ht2, H2⟩ := h2
      dsimp only
      have ht := ht1.trans ht2
      have hs2 := ht.size
      clear ht1 ht2 H1
      cases l2 with
      | nil =>
        have HS : Hid (Pro.pSend l = some ((x, d, none), [])) := by unfold Hid Pro.pSend; rw [hn]; simp only; rw [hd]
        clear hn hd
        go_wp2_with fail
        refine (skip_none p num dep Pro.bAs _ (H2.alloc _)).mono ?_
        rintro e w9 ⟨rfl, hw9⟩
        rw [hw9]
        clear hw9 w9
        dsimp only
        go_wp2
        go_ret
        unfold Parses
        rw [HS.out]
        exact ⟨rfl, ht.alloc _, H2.alloc _⟩
      | cons y r =>
        cases hy : (y.toList == Pro.bAs.toList)
        · have HS : Hid (Pro.pSend l = some ((x, d, none), y :: r)) := by unfold Hid Pro.pSend; rw [hn]; simp only; rw [hd]; simp only; rw [hy]; rfl
          clear hn hd
          go_wp2_with fail
          refine (skip_no p num dep y r Pro.bAs _ (H2.alloc _) hy).mono ?_
          rintro e w9 ⟨rfl, hw9⟩
          rw [hw9]
          clear hw9 w9
          dsimp only
          go_wp2
          go_ret
          unfold Parses
          rw [HS.out]
          exact ⟨rfl, ht.alloc _, H2.alloc _⟩
        · have HS : Hid (Pro.pSend l = match Pro.pOf Ref.called r with | none => none | some (a, l3) => some ((x, d, some a), l3)) := by unfold Hid Pro.pSend; rw [hn]; simp only; rw [hd]; simp only; rw [hy]; rfl
          clear hn hd
          go_wp2_with fail
          refine (skip_yes p num dep y r Pro.bAs _ (H2.alloc _) hy).mono ?_
          rintro e w3 ⟨rfl, ho3, H3⟩
          have hp2 := H2.lt
          have ht3 : Turned p w w3 := (ht.alloc _).trans ho3.turned
          have hN : w3.heap[w2.heap.size]? = some (.cells #[.string x, .int .u64 d] 329 (0, 0)) := by
            rw [ho3.block w2.heap.size (by omega)]; exact heap_alloc_new w2 _
          have cN0 : w3.cell? ⟨w2.heap.size, 0, none⟩ = some (.string x) := by rw [cell_of_row w3 _ 0 _ _ _ hN]; rfl
          have cN1 : w3.cell? ⟨w2.heap.size, 1, none⟩ = some (.int .u64 d) := by rw [cell_of_row w3 _ 1 _ _ _ hN]; rfl
          have hNl : w2.heap.size < w3.heap.size := (Array.getElem?_eq_some_iff.1 hN).1
          clear ho3
          dsimp only
          go_wp2_with fail
          have hv3 : EnvAt p w3.drew := (hv.turned ht3).turned (Turned.refl p w3).drew
          have H3d : WordsAt w3.drew p num dep r := H3.drew
          have HN : Hid (w2.heap.size < w3.heap.size ∧ ¬ w2.heap.size = p) := ⟨hNl, by omega⟩
          cases hr : Pro.pOf Ref.called r with
          | none =>
            have HS2 : Hid (Pro.pSend l = none) := by unfold Hid; rw [HS.out, hr]
            refine wp_region_any (by kernel_rfl) ?_
            change wpAny _ _ _ _ _ _ _ (World.drew _)
            refine wpAny_ready (rs := [0, 1]) (by kernel_rfl) (by simp) ?_
            refine AllReady.cons rfl (fun K hK => ?_) (AllReady.cons rfl (fun K hK => ?_) AllReady.nil)
            · go_simp
              refine hK _ _ ?_
              clear hK K
              refine wpAny_ready (rs := [1]) (by kernel_rfl) (by simp) ?_
              refine AllReady.cons rfl (fun K hK => ?_) AllReady.nil
              go_simp
              refine hK _ _ ?_
              clear hK K
              refine wpAny_ready (rs := [2]) (by kernel_rfl) (by simp) ?_
              refine AllReady.cons rfl (fun K hK => ?_) AllReady.nil
              go_simp
              (refine (nextOf_own_any p num dep r _ H3d hv3).mono ?_; rintro e w4 h4; rw [hr] at h4; obtain ⟨ht, b, h5, h6, rfl⟩ := h4; dsimp only; refine ⟨rfl, ?_⟩; rw [HS2.out]; exact ⟨ht3.trans ((Turned.refl p w3).drew.trans ht), b, Nat.le_trans ht3.size h5, h6, rfl⟩)
            · go_simp
              refine hK _ _ ?_
              clear hK K
              refine wpAny_ready (rs := [0, 2]) (by kernel_rfl) (by simp) ?_
              refine AllReady.cons rfl (fun K hK => ?_) (AllReady.cons rfl (fun K hK => ?_) AllReady.nil)
              · go_simp
                refine hK _ _ ?_
                clear hK K
                refine wpAny_ready (rs := [2]) (by kernel_rfl) (by simp) ?_
                refine AllReady.cons rfl (fun K hK => ?_) AllReady.nil
                go_simp
                (refine (nextOf_own_any p num dep r _ H3d hv3).mono ?_; rintro e w4 h4; rw [hr] at h4; obtain ⟨ht, b, h5, h6, rfl⟩ := h4; dsimp only; refine ⟨rfl, ?_⟩; rw [HS2.out]; exact ⟨ht3.trans ((Turned.refl p w3).drew.trans ht), b, Nat.le_trans ht3.size h5, h6, rfl⟩)
              · go_simp
                (refine (nextOf_own_any p num dep r _ H3d hv3).mono ?_; rintro e w4 h4; rw [hr] at h4; obtain ⟨ht, b, h5, h6, rfl⟩ := h4; dsimp only; refine ⟨rfl, ?_⟩; rw [HS2.out]; exact ⟨ht3.trans ((Turned.refl p w3).drew.trans ht), b, Nat.le_trans ht3.size h5, h6, rfl⟩)
          | some q =>
            obtain ⟨a, l3⟩ := q
            have HS2 : Hid (Pro.pSend l = some ((x, d, some a), l3)) := by unfold Hid; rw [HS.out, hr]
            go_region_held3 (fun W => W.cell? ⟨w2.heap.size, 0, none⟩ = some (.string x) ∧ W.cell? ⟨w2.heap.size, 1, none⟩ = some (.int .u64 d)) (first | go_keep | exact ⟨k0, k1⟩)
              ((go_at_call 219; refine (nextOf_own_any p num dep r _ H3d hv3).mono ?_; rintro e w4 h4; rw [hr] at h4; obtain ⟨rfl, ht4, H4⟩ := h4; have k0 := (ht4.cell (a := ⟨w2.heap.size, 0, none⟩) HN.out.1 HN.out.2).trans cN0; have k1 := (ht4.cell (a := ⟨w2.heap.size, 1, none⟩) HN.out.1 HN.out.2).trans cN1; dsimp only))
            go_wp2
            go_ret
            unfold Parses
            rw [HS2.out]
            exact ⟨rfl, ht3.trans ((Turned.refl p w3).drew.trans ht4), H4⟩
end Go.Proofs.YtegmoddppafkfaaGreatDoor
