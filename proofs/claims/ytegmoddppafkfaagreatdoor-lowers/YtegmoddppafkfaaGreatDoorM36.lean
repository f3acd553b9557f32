/-
  MY OWN TEXT.
-/
import Derived.Test.YtegmoddppafkfaaGreatDoorM18
import Derived.Test.YtegmoddppafkfaaGreatDoorM20
import Derived.Test.YtegmoddppafkfaaGreatDoorM31
import Derived.Test.YtegmoddppafkfaaGreatDoorM32
import Derived.Test.YtegmoddppafkfaaGreatDoorM35
import Derived.LaidEql
import Derived.RowKitTokens
namespace Go.Proofs.YtegmoddppafkfaaGreatDoor
open Go.RowKit

namespace Pro
def allTo (X : List Ref.State) : Nat → ByteArray
  | 0 => ByteArray.empty
  | k + 1 => match X[k]? with
    | some x => allTo X k ++ sLines x
    | none => allTo X k
theorem lowMove_text (m : Ref.Move) : mvText (lowMove m) = mvText m := by unfold lowMove; split <;> rfl
theorem lowMove_acts (m : Ref.Move) : (lowMove m).acts = m.acts := by unfold lowMove; split <;> rfl
theorem list_empty (a : ByteArray) : a.toList.isEmpty = decide (a.size = 0) := by
  have h : a.size = a.data.toList.length := by rw [Array.length_toList]; rfl
  rw [ByteArray.toList_eq, h]
  cases a.data.toList <;> simp
theorem wAct_pos (t : ByteArray) (a : Ref.Act) : 0 < (Ref.wAct t a).size := by
  have e2 : Ref.bDo.size = 4 := rfl
  unfold Ref.wAct
  repeat' split
  all_goals simp only [ByteArray.size_append', e2]; omega
theorem written_pos (a : Ref.Act) (A : List Ref.Act) : 0 < (Ref.written (a :: A)).size := by
  unfold Ref.written
  rw [List.length_cons, Ref.writTo]
  have : (a :: A)[A.length]? = some ((a :: A)[A.length]'(by simp)) := List.getElem?_eq_getElem _
  rw [this]
  exact wAct_pos _ _
theorem written_nil : Ref.written [] = ByteArray.empty := rfl
theorem ends_eq (T : ByteArray) (d : Nat) (A : List Ref.Act) (h hW : ByteArray) (hh : h = Ref.b1 ++ hW) : Ref.ends T (Ref.pad d) h (Ref.written A) = T ++ endT (d + 1) hW A := by
  unfold Ref.ends endT lineT
  cases A with
  | nil =>
    rw [written_nil, if_pos (by rw [list_empty]; rfl), if_pos (by rfl), ByteArray.append_empty]
  | cons a A =>
    have := written_pos a A
    rw [if_neg (by rw [list_empty, decide_eq_true_eq]; omega), if_neg (by simp), hh, Ref.pad]
    simp only [ByteArray.append_assoc]
theorem st1_eq {x : Ref.State} (h : WordOK x) (T : ByteArray) : Ref.st1 T x = T ++ lineT x.depth.toNat (stText (kindOf x) x.name) [] := by
  obtain ⟨k, h0, h4, hw, hd⟩ := h
  rw [kindOf_word h0 h4 hw hd]
  unfold Ref.st1 Ref.head1 Ref.head0 lineT stText
  rw [hw, hd, written_nil, ByteArray.append_empty]
  by_cases e : k = 4
  · rw [if_pos e, if_pos (by simpa using e)]
    simp only [ByteArray.append_assoc]
  · rw [if_neg e, if_neg (by simpa using e)]
    simp only [ByteArray.append_assoc]
theorem bOn_eq : Ref.bOn = Ref.b1 ++ bOnW := by decide
theorem mvLine_eq (d : Nat) (T : ByteArray) (m : Ref.Move) : Ref.mvLine (Ref.pad d) T m = T ++ lineT (d + 1) (mvText m) m.acts := by
  unfold Ref.mvLine Ref.mv1 Ref.mv0 lineT mvText
  rw [bOn_eq, Ref.pad]
  split <;> simp only [ByteArray.append_assoc]
theorem mvTo_eq (d : Nat) (T : ByteArray) (ms : List Ref.Move) : ∀ j, Ref.mvTo (Ref.pad d) T ms j = T ++ mvsTo (d + 1) (ms.map lowMove) j
  | 0 => by rw [Ref.mvTo, mvsTo, ByteArray.append_empty]
  | j + 1 => by
    rw [Ref.mvTo, mvsTo, List.getElem?_map, mvTo_eq d T ms j]
    cases ms[j]? with
    | none => rfl
    | some m =>
      dsimp only [Option.map_some]
      rw [mvLine_eq, lowMove_text, lowMove_acts, ByteArray.append_assoc]
theorem stText_eq {x : Ref.State} (h : WordOK x) (T : ByteArray) : Ref.stText T x = T ++ sLines (lowS x) := by
  unfold Ref.stText
  rw [mvTo_eq]
  unfold Ref.st3
  rw [ends_eq _ _ _ Ref.bLeave bLeaveW (by decide)]
  unfold Ref.st2
  rw [ends_eq _ _ _ Ref.bEnter bEnterW (by decide), st1_eq h]
  unfold sLines headT
  rw [show (lowS x).moves.length = x.moves.length from List.length_map _]
  simp only [ByteArray.append_assoc]
  rfl
theorem lowTo_eq {S : List Ref.State} (h : ∀ x ∈ S, WordOK x) : ∀ k, Ref.lowTo S k = allTo (S.map lowS) k
  | 0 => rfl
  | k + 1 => by
    rw [Ref.lowTo, allTo, List.getElem?_map, lowTo_eq h k]
    cases e : S[k]? with
    | none => rfl
    | some x => exact stText_eq (h x (List.mem_of_getElem? e)) _
end Pro
end Go.Proofs.YtegmoddppafkfaaGreatDoor
namespace Go.Proofs.YtegmoddppafkfaaGreatDoor
open Go.RowKit

namespace Pro
theorem line_event {num : Nat} {l r : List ByteArray} {ev t : ByteArray} {d : Int} {A : List Ref.Act} (h : pLine num l = some (.move ev true d t A, r)) : ev.size ≠ 0 := by
  have h6 : Ref.kAfter.size = 6 := rfl
  cases l with
  | nil => cases h
  | cons x l =>
    rw [pLine] at h
    repeat' split at h
    all_goals first
      | (cases h; done)
      | (obtain ⟨q, h1, h2⟩ := Option.map_eq_some_iff.1 h
         first
           | (cases h2; done)
           | (cases h2; rw [ByteArray.size_append']; omega))
structure LowOK (x : Ref.State) : Prop where
  dep0 : 0 ≤ x.depth
  dep : x.depth ≤ 5
  name : x.name.size ≤ 4096
  mlen : x.moves.length ≤ 4096
  moves : ∀ m ∈ x.moves, Ref.MoveSm m ∧ ActsG m.acts
  event : ∀ m ∈ x.moves, m.after = true → m.event.size ≠ 0
  enter : ActsG x.enter
  elen : x.enter.length ≤ 4096
  leave : ActsG x.leave
  llen : x.leave.length ≤ 4096
theorem whole_line {num : Nat} {l : List ByteArray} {L : PL} (h : pWhole num l = some L) : pLine num l = some (L, []) := by
  unfold pWhole at h
  split at h
  · rename_i L' h1
    cases h
    exact h1
  · cases h
theorem itm_low {P : List ByteArray} {S : List Ref.State} {n : Nat} (h : Itm P S n) {x : Ref.State} (hx : x ∈ S) (hs : Ref.StateSm x) (hl : x.moves.length ≤ 4096) : LowOK x := by
  refine ⟨hs.dep0, hs.dep, hs.name, hl, fun m hm => ?_, fun m hm ha => ?_, ⟨?_, hs.enter, ?_⟩, hs.lenE, ⟨?_, hs.leave, ?_⟩, hs.lenL⟩
  · refine ⟨hs.moves m hm, ?_, (hs.moves m hm).acts, by have := (hs.moves m hm).len; omega⟩
    obtain ⟨j, L, _, _, hL, e⟩ := h.fro m.line (.mv m) ⟨rfl, x, hx, hm⟩
    cases L with
    | move ev af d t A =>
      cases e
      exact (line_shape (whole_line hL)).2.1
    | state k n => cases e
    | enter A => cases e
    | leave A => cases e
  · obtain ⟨j, L, _, _, hL, e⟩ := h.fro m.line (.mv m) ⟨rfl, x, hx, hm⟩
    cases L with
    | move ev af d t A =>
      cases e
      simp only at ha
      subst ha
      exact line_event (whole_line hL)
    | state k n => cases e
    | enter A => cases e
    | leave A => cases e
  · rcases h.en0 x hx with h0 | h0
    · obtain ⟨j, L, _, _, hL, e⟩ := h.fro x.has0 (.en x.enter) ⟨x, hx, rfl, h0, rfl⟩
      cases L with
      | enter A =>
        have e' : x.enter = A := by injection e
        rw [e']
        exact (line_shape (whole_line hL)).1
      | state k n => cases e
      | move ev af d t A => cases e
      | leave A => cases e
    · rw [h0]; simp
  · have := hs.lenE; omega
  · rcases h.lv0 x hx with h0 | h0
    · obtain ⟨j, L, _, _, hL, e⟩ := h.fro x.has1 (.lv x.leave) ⟨x, hx, rfl, h0, rfl⟩
      cases L with
      | leave A =>
        have e' : x.leave = A := by injection e
        rw [e']
        exact (line_shape (whole_line hL)).1
      | state k n => cases e
      | move ev af d t A => cases e
      | enter A => cases e
    · rw [h0]; simp
  · have := hs.lenL; omega
theorem read_low {s : ByteArray} {S : List Ref.State} (h : Ref.read s = .chart S) : ∀ x ∈ S, LowOK x ∧ WordOK x := by
  obtain ⟨_, hok⟩ := Ref.read_ok h
  unfold Ref.read at h
  split at h
  · cases h
  · cases hsy : Ref.syn (Ref.cut s 10) with
    | some i => rw [hsy] at h; cases h
    | none =>
      rw [hsy] at h
      dsimp only at h
      cases ht : Ref.treeTo (Ref.linesTo (Ref.cut s 10) ((Ref.cut s 10).length - 1)) ((Ref.cut s 10).length - 1) with
      | none => rw [ht] at h; cases h
      | some S' =>
        rw [ht] at h
        dsimp only at h
        have hI := itm_tree (syn_whole hsy) (Nat.le_refl _) ht
        split at h
        · cases h
        · split at h
          · cases h
          · cases h
            intro x hx
            exact ⟨itm_low hI hx (hok x hx).1 (hok x hx).2, hI.words x hx⟩
/-- What is put at a state's entry and leaving is such as it may be. -/
theorem in_good {x : Ref.State} (h : LowOK x) : ∀ j, (∀ a ∈ Ref.inTo x j, Shape a) ∧ (∀ a ∈ Ref.inTo x j, Ref.ActSm a)
  | 0 => ⟨h.enter.shape, h.enter.small⟩
  | j + 1 => by
    obtain ⟨ih1, ih2⟩ := in_good h j
    rw [Ref.inTo]
    cases e : x.moves[j]? with
    | none => exact ⟨ih1, ih2⟩
    | some m =>
      dsimp only
      have hm := (h.moves m (List.mem_of_getElem? e)).1
      split
      · refine ⟨fun a ha => ?_, fun a ha => ?_⟩
        · rcases List.mem_append.1 ha with ha | ha
          · exact ih1 a ha
          · rw [List.mem_singleton.1 ha]; exact .inr (.inr rfl)
        · rcases List.mem_append.1 ha with ha | ha
          · exact ih2 a ha
          · rw [List.mem_singleton.1 ha]; exact ⟨(show Ref.bSend.size ≤ 4096 by decide), hm.event, hm.event, hm.delay⟩
      · exact ⟨ih1, ih2⟩
theorem out_good {x : Ref.State} (h : LowOK x) : ∀ j, (∀ a ∈ Ref.outTo x j, Shape a) ∧ (∀ a ∈ Ref.outTo x j, Ref.ActSm a)
  | 0 => ⟨h.leave.shape, h.leave.small⟩
  | j + 1 => by
    obtain ⟨ih1, ih2⟩ := out_good h j
    rw [Ref.outTo]
    cases e : x.moves[j]? with
    | none => exact ⟨ih1, ih2⟩
    | some m =>
      dsimp only
      have hm := (h.moves m (List.mem_of_getElem? e)).1
      split
      · refine ⟨fun a ha => ?_, fun a ha => ?_⟩
        · rcases List.mem_append.1 ha with ha | ha
          · exact ih1 a ha
          · rw [List.mem_singleton.1 ha]; exact .inr (.inl ⟨rfl, rfl⟩)
        · rcases List.mem_append.1 ha with ha | ha
          · exact ih2 a ha
          · rw [List.mem_singleton.1 ha]; exact ⟨(show Ref.bCancel.size ≤ 4096 by decide), Nat.zero_le _, hm.event, 0, rfl, by decide⟩
      · exact ⟨ih1, ih2⟩
theorem lowMove_ok {m : Ref.Move} (h : Ref.MoveSm m) : Ref.MoveSm (lowMove m) := by
  unfold lowMove
  split
  · exact ⟨h.event, h.dst, h.acts, h.len, 0, rfl, by decide⟩
  · exact h
end Pro
end Go.Proofs.YtegmoddppafkfaaGreatDoor
namespace Go.Proofs.YtegmoddppafkfaaGreatDoor
open Go.RowKit Go.Proofs

theorem touch_turned {g : Nat} {w w' : World} {c : Array Value} {e : TypeId} {fz : Nat × Nat} (h : Turned g w w') (hg : w.heap[g]? = some (.cells c e fz)) : Touch e w w' :=
  ⟨h.size, fun k hk hn => h.block k hk (fun e0 => by subst e0; exact hn _ _ hg)⟩
theorem WState.touch {w w' : World} {x : Pro.DS} {M : List Pro.PV} (h : WState w x M) (T : Touch 242 w w') : WState w' x M :=
  ⟨h.dep0, h.dep, h.name, h.mv, h.mlen, own_touch h.moves T (by decide), fun y hy => own_touch (h.acts y hy) T (by decide), h.actsG, own_touch h.enter T (by decide), h.enterG, own_touch h.leave T (by decide), h.leaveG⟩
theorem WState.keep {w w' : World} {x : Pro.DS} {M : List Pro.PV} (h : WState w x M) (hb : Below w.heap.size w w') : WState w' x M := h.touch (touch_below hb)
theorem flat_set_same {α : Type} {f : α → List Value} {a b : α} (h : f a = f b) (l : List α) (k : Nat) : (l.set k a).flatMap f = (l.set k b).flatMap f := by
  rw [List.flatMap_def, List.flatMap_def, List.map_set, List.map_set, h]
/-- A state's lists are lowered: it may be written. -/
theorem low_state {w w' : World} {B g cap u : Nat} {Z : List Pro.DS} {x : Pro.DS} {M : List Pro.PV} {ve vl vm : Ref.Sl} (G : LowAt w w' B g cap Z u x ve vl vm (Ref.inTo x.s M.length) (Ref.outTo x.s M.length) (M.map Pro.lowPV)) (hok : Pro.LowOK x.s) (hm : M.map (·.m) = x.s.moves) (ha : ∀ y ∈ M, w'.ownsRow 0 324 1 y.v.v y.m.acts.length (y.m.acts.map actV)) :
    WState w' { s := Pro.lowS x.s, vp := x.vp, ve := ve, vl := vl, vm := vm } (M.map Pro.lowPV) := by
  have hml : x.s.moves.length = M.length := by rw [← hm, List.length_map]
  have hmem : ∀ y ∈ M, y.m ∈ x.s.moves := fun y hy => by rw [← hm]; exact List.mem_map_of_mem hy
  have hIn := Pro.in_good hok M.length
  have hOut := Pro.out_good hok M.length
  have l1 := inTo_len x.s M.length
  have l2 := outTo_len x.s M.length
  have l3 := hok.mlen
  have l4 := hok.elen
  have l5 := hok.llen
  refine ⟨hok.dep0, hok.dep, hok.name, ?_, by rw [List.length_map]; omega, ?_, ?_, ?_, ?_, ?_, ?_, ?_⟩
  · show (M.map Pro.lowPV).map (·.m) = x.s.moves.map Pro.lowMove
    rw [← hm, List.map_map, List.map_map]; rfl
  · exact own_mono G.moves (Nat.zero_le _)
  · intro y hy
    obtain ⟨z, hz, rfl⟩ := List.mem_map.1 hy
    have := ha z hz
    rw [show (Pro.lowPV z).m.acts = z.m.acts from Pro.lowMove_acts z.m]
    exact this
  · intro y hy
    obtain ⟨z, hz, rfl⟩ := List.mem_map.1 hy
    obtain ⟨h1, h2⟩ := hok.moves z.m (hmem z hz)
    refine ⟨Pro.lowMove_ok h1, ?_⟩
    rw [show (Pro.lowPV z).m.acts = z.m.acts from Pro.lowMove_acts z.m]
    exact h2
  · show w'.ownsRow 0 _ 1 ve.v (Ref.inTo x.s x.s.moves.length).length ((Ref.inTo x.s x.s.moves.length).map actV)
    rw [hml]; exact own_mono G.enter (Nat.zero_le _)
  · show Pro.ActsG (Ref.inTo x.s x.s.moves.length)
    rw [hml]; exact ⟨hIn.1, hIn.2, by omega⟩
  · show w'.ownsRow 0 _ 1 vl.v (Ref.outTo x.s x.s.moves.length).length ((Ref.outTo x.s x.s.moves.length).map actV)
    rw [hml]; exact own_mono G.leave (Nat.zero_le _)
  · show Pro.ActsG (Ref.outTo x.s x.s.moves.length)
    rw [hml]; exact ⟨hOut.1, hOut.2, by omega⟩
/-- The first k states are lowered. -/
structure DelAt (w wr : World) (sv : Ref.Sl) (X Z : List Pro.DS) (k : Nat) : Prop where
  bel : Below w.heap.size w wr
  len : Z.length = X.length
  row : wr.ownsRow w.heap.size 242 8 sv.v Z.length (Z.flatMap Pro.dsCells)
  done : ∀ i (h : i < Z.length) (h' : i < X.length), i < k → Z[i].s = Pro.lowS X[i].s ∧ ∃ M, WState wr Z[i] M
  rest : ∀ i (h : i < Z.length) (h' : i < X.length), k ≤ i → Z[i] = X[i]
theorem DelAt.step {w wr w' : World} {X Z : List Pro.DS} {k g cap : Nat} {ve vl vm : Ref.Sl} {M : List Pro.PV} (D : DelAt w wr ⟨some ⟨g, 0, none⟩, Z.length, cap⟩ X Z k) (hk' : k < X.length) (hok : Pro.LowOK X[k].s) (hm : M.map (·.m) = X[k].s.moves)
    (ha : ∀ y ∈ M, w.ownsRow 0 324 1 y.v.v y.m.acts.length (y.m.acts.map actV)) (G : LowAt wr w' w.heap.size g cap Z k X[k] ve vl vm (Ref.inTo X[k].s M.length) (Ref.outTo X[k].s M.length) (M.map Pro.lowPV)) :
    DelAt w w' ⟨some ⟨g, 0, none⟩, Z.length, cap⟩ X (Z.set k { s := Pro.lowS X[k].s, vp := X[k].vp, ve := ve, vl := vl, vm := vm }) (k + 1) := by
  obtain ⟨c, hc⟩ := own_kind D.row g rfl
  have hg := (World.ownsRow.lt D.row g rfl).1
  have T := touch_turned G.turned hc
  have hb : Below w.heap.size w w' := G.turned.below D.bel hg D.bel.size
  refine ⟨hb, by rw [List.length_set]; exact D.len, ?_, ?_, ?_⟩
  · have e := flat_set_same (f := Pro.dsCells) (a := { s := Pro.lowS X[k].s, vp := X[k].vp, ve := ve, vl := vl, vm := vm }) (b := { X[k] with ve := ve, vl := vl, vm := vm }) rfl Z k
    rw [e, List.length_set]
    exact G.states
  · intro i h h' hi
    rw [List.length_set] at h
    rw [List.getElem_set]
    by_cases e : k = i
    · subst e
      rw [if_pos rfl]
      exact ⟨rfl, _, low_state G hok hm (fun y hy => own_keep (ha y hy) hb)⟩
    · rw [if_neg e]
      obtain ⟨h1, M', h2⟩ := D.done i h h' (by omega)
      exact ⟨h1, M', h2.touch T⟩
  · intro i h h' hi
    rw [List.length_set] at h
    rw [List.getElem_set, if_neg (by omega)]
    exact D.rest i h h' (by omega)
/-- What Delays answers. -/
def DelaysP (X : List Pro.DS) (w : World) (e : Ending) (w' : World) : Prop := Below w.heap.size w w' ∧ ∃ cb sv Z, e = .returned (.pointer (some ⟨cb, 0, none⟩)) ∧ w'.heap[cb]? = some (.cells #[.slice sv.a sv.n sv.c] 232 (0, 0)) ∧ DelAt w w' sv X Z X.length
set_option maxRecDepth 100000 in
set_option maxHeartbeats 3200000 in
theorem delays_any (cb : Nat) (sv : Ref.Sl) (X : List Pro.DS) (w : World) (hc : w.heap[cb]? = some (.cells #[.slice sv.a sv.n sv.c] 232 (0, 0))) (hC : ChartMem w sv X) (hXl : X.length ≤ 1000) (hok : ∀ x ∈ X, Pro.LowOK x.s) :
    Calls Tryz.prog 76 #[.pointer (some ⟨cb, 0, none⟩)] w (DelaysP X w) := by
  obtain ⟨sa, sn, sc⟩ := sv
  have c0 : w.cell? ⟨cb, 0, none⟩ = some (.slice sa sn sc) := by rw [cell_of_row w _ _ _ _ _ hc]; rfl
  have HC : Hid _ := hC
  have HOK : Hid _ := hok
  have HCl : Hid _ := cloneS_any sa sn sc X w hC.states (by omega)
  clear hC hok hc
  go_enter Tryz.func76, Tryz.ntmps76
  go_wp2_with fail
  refine Calls.mono HCl.out ?_
  rintro e w1 ⟨⟨ta, tn, tc⟩, rfl, hrow, hb1⟩
  have hnX : tn = X.length := own_n (v := ⟨ta, tn, tc⟩) hrow
  subst hnX
  have HD0 : Hid (DelAt w w1 ⟨ta, X.length, tc⟩ X X 0) := ⟨hb1, rfl, hrow, fun i _ _ h => absurd h (by omega), fun i _ _ _ => rfl⟩
  clear hrow hb1 HCl c0
  dsimp only
  go_wp2
  go_loopg [12] X.length (fun q i wr => ∃ (k : Nat) (Z : List Pro.DS), q = X.length - k ∧ k ≤ X.length ∧ i = .int .i64 k ∧ DelAt w wr ⟨ta, X.length, tc⟩ X Z k)
  case atStart => exact ⟨0, X, rfl, Nat.zero_le _, rfl, HD0.out⟩
  case round =>
    obtain ⟨k, Z, hq, hk, rfl, D⟩ := hrel
    by_cases hkn : k < X.length
    · have hZl := D.len
      obtain ⟨g, cap, hv⟩ := Ref.own_form D.row (by omega)
      simp only [Ref.Sl.v, Value.slice.injEq] at hv
      obtain ⟨rfl, -, rfl⟩ := hv
      have hkz : k < Z.length := by omega
      have hxk : Z[k] = X[k] := D.rest k hkz hkn (Nat.le_refl _)
      have hD : DelAt w wr ⟨some ⟨g, 0, none⟩, Z.length, tc⟩ X Z k := by rw [hZl]; exact D
      have hmem : X[k] ∈ X := List.getElem_mem hkn
      obtain ⟨M, hM1, hM2, hM3⟩ := HC.out.moves X[k] hmem
      have hOK := HOK.out X[k] hmem
      have hMl : M.length ≤ 4096 := by have := hOK.mlen; rw [← hM1, List.length_map] at this; exact this
      have hcap : X.length ≤ tc := by
        rcases D.row.2 with ⟨h, _⟩ | ⟨g', cap', cur, h, _, _, hle, _⟩
        · cases h
        · simp [Ref.Sl.v] at h; rw [h.2.2]; omega
      have HCL : Hid _ := lowerState_any w.heap.size g tc k Z X[k] M wr hD.row hkz hxk (own_keep hM2 D.bel) (own_keep (HC.out.enter X[k] hmem) D.bel) (own_keep (HC.out.leave X[k] hmem) D.bel) hM1 hMl hOK.elen hOK.llen (fun y hy => hOK.event y.m (by rw [← hM1]; exact List.mem_map_of_mem hy))
      have HN : Hid (∀ (w' : World) ve vl vm, LowAt wr w' w.heap.size g tc Z k X[k] ve vl vm (Ref.inTo X[k].s M.length) (Ref.outTo X[k].s M.length) (M.map Pro.lowPV) → ∃ Z', DelAt w w' ⟨some ⟨g, 0, none⟩, X.length, tc⟩ X Z' (k + 1)) := by
        intro w' ve vl vm G
        have := hD.step hkn hOK hM1 hM3 G
        rw [hZl] at this
        exact ⟨_, this⟩
      clear hOK hM1 hM2 hM3 hD hxk D hmem hkz hZl
      go_wp2_with fail
      refine Calls.mono HCL.out ?_
      rintro e w2 ⟨rfl, ve, vl, vm, G⟩
      obtain ⟨Z', D'⟩ := HN.out w2 ve vl vm G
      have HD' : Hid _ := D'
      clear D' G
      dsimp only
      go_wp2
      go_roundg (X.length - (k + 1))
      case measure => omega
      case rel => exact ⟨k + 1, Z', rfl, by omega, by go_num, HD'.out⟩
    · have hke : k = X.length := by omega
      subst hke
      have hbx : Below wr.heap.size wr (wr.alloc (.cells #[.slice ta X.length tc] 232)) := (Below.refl _ _).alloc (Nat.le_refl _) _
      have HD : Hid _ := D
      clear D
      go_wp2
      go_ret
      have D := HD.out
      refine ⟨D.bel.trans (hbx.mono D.bel.size), wr.heap.size, ⟨ta, X.length, tc⟩, Z, rfl, heap_alloc_new _ _, D.bel.trans (hbx.mono D.bel.size), D.len, own_keep D.row hbx, fun i h h' hi => ?_, D.rest⟩
      obtain ⟨h1, M, h2⟩ := D.done i h h' hi
      exact ⟨h1, M, h2.keep hbx⟩
end Go.Proofs.YtegmoddppafkfaaGreatDoor
namespace Go.Proofs.YtegmoddppafkfaaGreatDoor
open Go.RowKit Go.Proofs

namespace Pro
theorem mvsTo_less {d : Nat} {M : List Ref.Move} (hd : d ≤ 10) (h : ∀ m ∈ M, Ref.MoveSm m) : ∀ j, (mvsTo d M j).size ≤ j * 90000000
  | 0 => Nat.le_refl _
  | j + 1 => by
    have ih := mvsTo_less hd h j
    rw [mvsTo]
    split
    · rename_i m hm
      have hmm := h m (List.mem_of_getElem? hm)
      have h1 : (lineT d (mvText m) m.acts).size ≤ 90000000 := by
        unfold lineT
        have h1 := Ref.written_small hmm.acts hmm.len
        have h2 := mvText_small hmm
        simp only [ByteArray.size_append', Ref.pad_size]
        have : Ref.bNl.size = 1 := rfl
        omega
      rw [ByteArray.size_append', Nat.succ_mul]
      exact Nat.add_le_add ih h1
    · exact Nat.le_trans ih (Nat.mul_le_mul_right _ (Nat.le_succ j))
theorem allTo_pos (X : List Ref.State) : ∀ k, 0 < k → k ≤ X.length → 0 < (allTo X k).size
  | 0, h, _ => absurd h (by omega)
  | k + 1, _, hk => by
    rw [allTo, List.getElem?_eq_getElem hk]
    have e : Ref.bNl.size = 1 := rfl
    dsimp only
    unfold sLines headT lineT
    simp only [ByteArray.size_append', e]
    omega
end Pro
theorem sLines_less {w : World} {x : Pro.DS} {M : List Pro.PV} (h : WState w x M) : (Pro.sLines x.s).size ≤ 400000000000 := by
  have hd := h.dep
  have hd0 := h.dep0
  have h1 := Pro.lineT_small (d := x.s.depth.toNat) (h := Pro.stText (Pro.kindOf x.s) x.s.name) (A := []) (by omega) (by have := Pro.stText_small (k := Pro.kindOf x.s) h.name; omega) Pro.ActsG.nil
  have h2 := Pro.endT_small (d := x.s.depth.toNat + 1) (h := Pro.bEnterW) (A := x.s.enter) (by omega) (by decide) h.enterG
  have h3 := Pro.endT_small (d := x.s.depth.toNat + 1) (h := Pro.bLeaveW) (A := x.s.leave) (by omega) (by decide) h.leaveG
  have hml : x.s.moves.length ≤ 4096 := by rw [← h.mv, List.length_map]; exact h.mlen
  have h4 := Pro.mvsTo_less (d := x.s.depth.toNat + 1) (M := x.s.moves) (by omega) (fun m hm => by
    rw [← h.mv] at hm
    obtain ⟨z, hz, rfl⟩ := List.mem_map.1 hm
    exact (h.actsG z hz).1) x.s.moves.length
  have h5 : x.s.moves.length * 90000000 ≤ 4096 * 90000000 := Nat.mul_le_mul_right _ hml
  unfold Pro.sLines Pro.headT
  simp only [ByteArray.size_append']
  omega
set_option maxRecDepth 100000 in
set_option maxHeartbeats 6400000 in
theorem text_any (cb : Nat) (sv : Ref.Sl) (X : List Pro.DS) (w : World) (hc : w.heap[cb]? = some (.cells #[.slice sv.a sv.n sv.c] 232 (0, 0))) (hC : ChartMem w sv X) (hXl : X.length ≤ 24) (hok : ∀ x ∈ X, Pro.LowOK x.s) (hv : Env w) :
    Calls Tryz.prog 72 #[.pointer (some ⟨cb, 0, none⟩)] w fun e w' => e = .returned (.string (Pro.allTo ((X.map (·.s)).map Pro.lowS) X.length)) ∧ Below w.heap.size w w' := by
  obtain ⟨S, hS⟩ : ∃ S, S = (X.map (·.s)).map Pro.lowS := ⟨_, rfl⟩
  have hSl : S.length = X.length := by rw [hS, List.length_map, List.length_map]
  rw [← hS]
  have hb1 : Below w.heap.size w (w.alloc (.cells #[.pointer none, .slice none 0 0] 237)) := (Below.refl _ _).alloc (Nat.le_refl _) _
  have hf : (w.alloc (.cells #[.pointer none, .slice none 0 0] 237)).heap[w.heap.size]? = some (.cells #[.pointer none, .slice none 0 0] 237 (0, 0)) := heap_alloc_new _ _
  have hw1 : IsWr w.heap.size w.heap.size [] (w.alloc (.cells #[.pointer none, .slice none 0 0] 237)) := Lib.IsBuilderF.of (Lib.fresh_isBuilder _ _ w)
  have hcl := (Array.getElem?_eq_some_iff.1 hc).1
  have hd : Calls Tryz.prog 76 #[.pointer (some ⟨cb, 0, none⟩)] (w.alloc (.cells #[.pointer none, .slice none 0 0] 237)) (DelaysP X (w.alloc (.cells #[.pointer none, .slice none 0 0] 237))) :=
    delays_any cb sv X _ ((hb1.block _ hcl).trans hc) (hC.touch (e := 5) (touch_below hb1) (by decide) (by decide) (by decide)) (by omega) hok
  have HS : Hid _ := hS
  have HSl : Hid _ := hSl
  have HEnv : Hid _ := hv
  have HD : Hid _ := hd
  clear hS hSl hv hd hC hc hok
  go_enter Tryz.func72, Tryz.ntmps72
  go_wp2_with fail
  change Calls _ _ _ (w.alloc (.cells #[.pointer none, .slice none 0 0] 237)) _
  generalize w.alloc (.cells #[.pointer none, .slice none 0 0] 237) = W1 at hb1 hf hw1 HD ⊢
  refine Calls.mono HD.out ?_
  rintro e w2 ⟨hb2, cb2, ⟨ta, tn, tc⟩, Z, rfl, hcb2, D⟩
  have c2 : w2.cell? ⟨cb2, 0, none⟩ = some (.slice ta tn tc) := by rw [cell_of_row w2 _ _ _ _ _ hcb2]; rfl
  have hZl := D.len
  have hnX : tn = X.length := by rw [← hZl]; exact own_n (v := ⟨ta, tn, tc⟩) D.row
  subst hnX
  have hf2 := (hb2.block _ (Array.getElem?_eq_some_iff.1 hf).1).trans hf
  have hw2 := hw1.keep hb2
  have hbw2 : Below w.heap.size w w2 := hb1.trans (hb2.mono hb1.size)
  have HDD : Hid _ := D
  have HZl : Hid _ := hZl
  have HZ : Hid (∀ i (h : i < Z.length) (h' : i < S.length), Z[i].s = S[i]) := by
    intro i h h'
    have hX : i < X.length := by rw [← hZl]; exact h
    have := (D.done i h hX hX).1
    rw [this]
    have e : S[i]? = some (Pro.lowS X[i].s) := by rw [HS.out, List.getElem?_map, List.getElem?_map, List.getElem?_eq_getElem hX]; rfl
    rw [List.getElem?_eq_getElem h'] at e
    exact (Option.some.inj e).symm
  clear D hcb2 hZl hf hb2 hw1 HD
  dsimp only
  go_wp2
  go_loopg [12] X.length (fun q i wr => ∃ k : Nat, q = X.length - k ∧ k ≤ X.length ∧ i = .int .i64 k ∧ IsWr w.heap.size w.heap.size (Lib.strCells (Pro.allTo S k)) wr ∧ Below w.heap.size w wr ∧ WrKept w.heap.size w2 wr ∧ (Pro.allTo S k).size ≤ k * 400000000000 ∧ (k = 0 → wr.heap[w.heap.size]? = some (.cells #[.pointer none, .slice none 0 0] 237 (0, 0))))
  case atStart => exact ⟨0, rfl, Nat.zero_le _, rfl, hw2, hbw2, wrKept_below (Below.refl _ _), Nat.zero_le _, fun _ => hf2⟩
  case round =>
    obtain ⟨k, hq, hk, rfl, hwr, hbr, hkr, hsz, h0⟩ := hrel
    clear c2 hbw2
    by_cases hkn : k < X.length
    · have hZl := HZl.out
      have hkz : k < Z.length := by omega
      have hrow := own_wr HDD.out.row hkr hw2 (by decide) (by decide)
      obtain ⟨g, cap, hvv⟩ := Ref.own_form hrow (by omega)
      simp only [Ref.Sl.v, Value.slice.injEq] at hvv
      obtain ⟨rfl, -, rfl⟩ := hvv
      have hmo : wr.ownsRow 0 242 8 (.slice (some ⟨g, 0, none⟩) Z.length tc) Z.length (Z.flatMap Pro.dsCells) := by
        have := own_mono hrow (Nat.zero_le _)
        unfold Ref.Sl.v at this
        rw [show X.length = Z.length from hZl.symm] at this
        exact this
      have hrng := Row.range (f := Pro.dsCells) (n := 8) (fun _ => rfl) hmo hkz
      have hcm : X.length ≤ tc := by
        rcases hmo.2 with ⟨h, _⟩ | ⟨g', cap', cur, h, _, _, hle, _⟩
        · cases h
        · simp at h; rw [h.2]; omega
      obtain ⟨-, M, hWS⟩ := HDD.out.done k hkz hkn hkn
      have hks : k < S.length := by rw [HSl.out]; exact hkn
      have HN : Hid (Pro.allTo S (k + 1) = Pro.allTo S k ++ Pro.sLines Z[k].s) := by
        unfold Hid
        rw [Pro.allTo, List.getElem?_eq_getElem hks, HZ.out k hkz hks]
      obtain ⟨y, hy⟩ : ∃ y, y = Z[k] := ⟨_, rfl⟩
      rw [← hy] at hrng hWS HN
      have hWr := hWS.wr hkr hw2
      have hsl := sLines_less hWS
      have hmul : k * 400000000000 ≤ 24 * 400000000000 := Nat.mul_le_mul_right _ (by omega)
      have hyE : y.ve.n = y.s.enter.length := own_len hWS.enter
      unfold Pro.dsCells at hrng
      have HW : Hid _ := hWr
      have HK0 : Hid _ := h0
      have HHW : Hid (IsWr w.heap.size w.heap.size (Lib.strCells (Pro.allTo S k)) wr) := hwr
      have HHB : Hid (Below w.heap.size w wr) := hbr
      have HHK : Hid (WrKept w.heap.size w2 wr) := hkr
      clear hmo hrow hWS hWr hy hZl hkz hks h0 hwr hbr hkr hyE
      go_wp2_with (first
        | (refine wpList_load_mid rfl 242 (.tmp 14) rfl g (k * 8) rfl _ _ hrng Tryz.underlying242 rfl Tryz.sizeStateM ?_)
        | (refine wpList_store_new rfl 242 (.tmp 5) (.tmp 15) rfl 242 _ _ rfl rfl Tryz.sizeStateM rfl rfl ?_)
        | fail)
      have hb5 : Below wr.heap.size wr (wr.alloc (.cells #[.int .i64 (Pro.kindOf y.s), .string y.s.name, .int .i64 y.s.depth, .int .i64 y.s.up, .slice y.vp.a y.vp.n y.vp.c, .slice y.ve.a y.ve.n y.ve.c, .slice y.vl.a y.vl.n y.vl.c, .slice y.vm.a y.vm.n y.vm.c] 242)) := (Below.refl _ _).alloc (Nat.le_refl _) _
      have hbw5 := HHB.out.trans (hb5.mono HHB.out.size)
      have hk5 : WrKept w.heap.size wr (wr.alloc (.cells #[.int .i64 (Pro.kindOf y.s), .string y.s.name, .int .i64 y.s.depth, .int .i64 y.s.up, .slice y.vp.a y.vp.n y.vp.c, .slice y.ve.a y.ve.n y.ve.c, .slice y.vl.a y.vl.n y.vl.c, .slice y.vm.a y.vm.n y.vm.c] 242)) := wrKept_below hb5
      have hkk : WrKept w.heap.size w2 (wr.alloc (.cells #[.int .i64 (Pro.kindOf y.s), .string y.s.name, .int .i64 y.s.depth, .int .i64 y.s.up, .slice y.vp.a y.vp.n y.vp.c, .slice y.ve.a y.ve.n y.ve.c, .slice y.vl.a y.vl.n y.vl.c, .slice y.vm.a y.vm.n y.vm.c] 242)) := Lib.OthersKept.trans HHK.out hk5
      refine Calls.mono (wstate_any w.heap.size w.heap.size (Lib.strCells (Pro.allTo S k)) y M _ (IsWr.keep HHW.out hb5) hbw5.size ⟨w, Nat.le_refl _, HEnv.out, hbw5⟩ (HW.out.wr hk5 HHW.out) (by rw [strCells_len]; omega)) ?_
      rintro e w6 ⟨rfl, hw6, hb6, hk6⟩
      have hw6' : IsWr w.heap.size w.heap.size (Lib.strCells (Pro.allTo S (k + 1))) w6 := by
        rw [HN.out, strCells_app]; exact hw6
      have hs6 : (Pro.allTo S (k + 1)).size ≤ (k + 1) * 400000000000 := by
        rw [HN.out, ByteArray.size_append', Nat.succ_mul]; omega
      have hk6' := hkk.trans hk6
      have hb6' := hbw5.trans hb6
      have HP : Hid (IsWr w.heap.size w.heap.size (Lib.strCells (Pro.allTo S (k + 1))) w6 ∧ Below w.heap.size w w6 ∧ WrKept w.heap.size w2 w6 ∧ (Pro.allTo S (k + 1)).size ≤ (k + 1) * 400000000000) := ⟨hw6', hb6', hk6', hs6⟩
      clear hb5 hbw5 hk5 hkk hw6 hb6 hk6 hw6' hs6 hk6' hb6'
      dsimp only
      go_wp2
      go_roundg (X.length - (k + 1))
      case measure => omega
      case rel => exact ⟨k + 1, rfl, by omega, by go_num, HP.out.1, HP.out.2.1, HP.out.2.2.1, HP.out.2.2.2, fun h => absurd h (by omega)⟩
    · have hke : k = X.length := by omega
      subst hke
      go_wp2_with fail
      have HSt : Hid (Calls Tryz.prog 109 #[.pointer (some ⟨w.heap.size, 0, none⟩)] wr fun e w' => e = .returned (.string (Pro.allTo S X.length)) ∧ Below w.heap.size wr w') := by
        unfold Hid
        by_cases hX0 : X.length = 0
        · rw [hX0]
          exact wString_nil w.heap.size w.heap.size _ wr (h0 hX0)
        · have hpos := Pro.allTo_pos S X.length (by omega) (by rw [HSl.out]; exact Nat.le_refl _)
          have := wString w.heap.size w.heap.size (Pro.allTo S X.length).data.toList wr hwr (fun e => by
            have h1 : (Pro.allTo S X.length).size = (Pro.allTo S X.length).data.toList.length := by rw [Array.length_toList]; rfl
            have h2 : (Pro.allTo S X.length).size = 0 := h1.trans (by rw [e]; rfl)
            omega)
          simpa using this
      refine Calls.mono HSt.out ?_
      rintro e w7 ⟨rfl, hb7⟩
      have HB7 : Hid _ := hbr.trans hb7
      clear hb7 hwr hbr hkr hsz h0 HSt
      dsimp only
      go_wp2
      go_ret
      exact ⟨rfl, HB7.out⟩
end Go.Proofs.YtegmoddppafkfaaGreatDoor
namespace Go.Proofs.YtegmoddppafkfaaGreatDoor
open Go.RowKit Go.Extern.Stop Go.Stop Go.Extern

theorem Tryz.asUnpackT (t : Addr) (w : World) : (ReflectliteValue.unpack (.iface 161 (.pointer (some t)))).run Tryz.prog w = .ok (.agg #[.pointer (some ⟨9, 161, none⟩), .pointer (some ⟨w.heap.size, 0, none⟩), .int .u64 150]) (w.alloc (.cells #[.pointer (some t)] 161)) := by kernel_rfl
theorem Tryz.asUnpackE (e : Addr) (w : World) : (ReflectliteValue.unpack (.iface 159 (.pointer (some e)))).run Tryz.prog w = .ok (.agg #[.pointer (some ⟨9, 159, none⟩), .pointer (some ⟨w.heap.size, 0, none⟩), .int .u64 150]) (w.alloc (.cells #[.pointer (some e)] 159)) := by kernel_rfl
theorem Tryz.asType (a : Addr) (w : World) : (ReflectliteValue.methodAny (ReflectliteValue.valueError "reflectlite.Value.Type" 0) (fun t _ _ _ => ReflectliteType.toType t) #[.agg #[.pointer (some ⟨9, 161, none⟩), .pointer (some a), .int .u64 150]]).run Tryz.prog w = .ok (.iface 269 (.agg #[.pointer (some ⟨9, 161, none⟩)])) w := by kernel_rfl
theorem Tryz.asKind (h : Value) (w : World) : (Go.method 599 269 (.agg #[h]) "Kind").run Tryz.prog w = .ok (325, h) w := by kernel_rfl
theorem Tryz.asElem (h : Value) (w : World) : (Go.method 599 269 (.agg #[h]) "Elem").run Tryz.prog w = .ok (340, .agg #[h]) w := by kernel_rfl
theorem Tryz.asImpl (h : Value) (w : World) : (Go.method 599 269 (.agg #[h]) "Implements").run Tryz.prog w = .ok (341, .agg #[h]) w := by kernel_rfl
theorem Tryz.asAssign (h : Value) (w : World) : (Go.method 599 269 (.agg #[h]) "AssignableTo").run Tryz.prog w = .ok (338, .agg #[h]) w := by kernel_rfl
theorem Tryz.asKindT (w : World) : ((ReflectliteType.abiMethod fun t => (fun a : Nat => Value.int IntKind.u8 (a : Int)) <$> Rtype.kind t) #[.pointer (some ⟨9, 161, none⟩)]).run Tryz.prog w = .ok (.int .u8 22) w := by kernel_rfl
theorem Tryz.asKindE (w : World) : ((ReflectliteType.abiMethod fun t => (fun a : Nat => Value.int IntKind.u8 (a : Int)) <$> Rtype.kind t) #[.pointer (some ⟨9, 159, none⟩)]).run Tryz.prog w = .ok (.int .u8 22) w := by kernel_rfl
theorem Tryz.asElemT (w : World) : (ReflectliteType.method ReflectliteType.elem #[.agg #[.pointer (some ⟨9, 161, none⟩)]]).run Tryz.prog w = .ok (.iface 269 (.agg #[.pointer (some ⟨9, 159, none⟩)])) w := by kernel_rfl
theorem Tryz.asImplE (w : World) : (ReflectliteType.relation "Implements" ReflectliteType.implements_ #[.agg #[.pointer (some ⟨9, 159, none⟩)], .iface 269 (.agg #[.pointer (some ⟨9, 101, none⟩)])]).run Tryz.prog w = .ok (.bool true) w := by kernel_rfl
theorem Tryz.asTypeOf (v : Value) (w : World) : (ReflectliteType.typeOf #[.iface 159 v]).run Tryz.prog w = .ok (.iface 269 (.agg #[.pointer (some ⟨9, 159, none⟩)])) w := by kernel_rfl
theorem Tryz.asAssignE (w : World) : (ReflectliteType.relation "AssignableTo" ReflectliteType.assignableTo #[.agg #[.pointer (some ⟨9, 159, none⟩)], .iface 269 (.agg #[.pointer (some ⟨9, 159, none⟩)])]).run Tryz.prog w = .ok (.bool true) w := by kernel_rfl
theorem Tryz.asPartsT (a : Addr) (w : World) : (ReflectliteValue.parts (.agg #[.pointer (some ⟨9, 161, none⟩), .pointer (some a), .int .u64 150])).run Tryz.prog w = .ok (some (161, a, 150)) w := by kernel_rfl
theorem Tryz.asPartsE (a : Addr) (w : World) : (ReflectliteValue.parts (.agg #[.pointer (some ⟨9, 159, none⟩), .pointer (some a), .int .u64 150])).run Tryz.prog w = .ok (some (159, a, 150)) w := by kernel_rfl
theorem Tryz.asPartsA (a : Addr) (w : World) : (ReflectliteValue.parts (.agg #[.pointer (some ⟨9, 159, none⟩), .pointer (some a), .int .u64 406])).run Tryz.prog w = .ok (some (159, a, 406)) w := by kernel_rfl
theorem Tryz.asElemOf (w : World) : (Rtype.elem? 161).run Tryz.prog w = .ok (some 159) w := by kernel_rfl
theorem Tryz.asMk (p : Addr) (w : World) : (ReflectliteValue.mk 159 p ReflectliteValue.flagAddr).run Tryz.prog w = .ok (.agg #[.pointer (some ⟨9, 159, none⟩), .pointer (some p), .int .u64 406]) w := by kernel_rfl
theorem Tryz.asDirect (w : World) : (Rtype.directlyAssignable 159 159).run Tryz.prog w = .ok true w := by kernel_rfl
theorem rl_method (z : Sem Value) (f : TypeId → Addr → Nat → Nat → Sem Value) (v : Value) : ReflectliteValue.method z f #[v] = (do match ← ReflectliteValue.parts v with | none => z | some (t, a, fl) => f t a fl (fl % 32)) := rfl
theorem Tryz.asIsNil (a p : Addr) (W : World) (ha : W.cell? a = some (.pointer (some p))) : (ReflectliteValue.method (ReflectliteValue.valueError "reflectlite.Value.IsNil" 0) ReflectliteValue.isNil #[.agg #[.pointer (some ⟨9, 161, none⟩), .pointer (some a), .int .u64 150]]).run Tryz.prog W = .ok (.bool false) W := by
  rw [rl_method]
  simp only [Sem.run_bind, Tryz.asPartsT, Result.andThen]
  simp [ReflectliteValue.isNil, loadVar, isAgg, underlying, Tryz.underlying161, ha, Result.andThen]
theorem Tryz.asElemV (a p : Addr) (W : World) (ha : W.cell? a = some (.pointer (some p))) : (ReflectliteValue.method (ReflectliteValue.valueError "reflectlite.Value.Elem" 0) ReflectliteValue.elem #[.agg #[.pointer (some ⟨9, 161, none⟩), .pointer (some a), .int .u64 150]]).run Tryz.prog W = .ok (.agg #[.pointer (some ⟨9, 159, none⟩), .pointer (some p), .int .u64 406]) W := by
  rw [rl_method]
  simp only [Sem.run_bind, Tryz.asPartsT, Result.andThen]
  simp [ReflectliteValue.elem, loadVar, isAgg, underlying, Tryz.underlying161, ha, Result.andThen, Tryz.asElemOf, Tryz.asMk]
end Go.Proofs.YtegmoddppafkfaaGreatDoor
namespace Go.Proofs.YtegmoddppafkfaaGreatDoor
open Go.RowKit Go.Extern.Stop Go.Stop Go.Extern

theorem set_pair (a b : Value) (h1 : Value → Value → Sem Value) (h2 : Array Value → Sem Value) : ReflectliteValue.set.match_3 (fun _ => Sem Value) #[a, b] h1 h2 = h1 a b := rfl
theorem Tryz.asSet (ta b e : Addr) (old : Value) (W : World) (hb : W.cell? b = some (.pointer (some e))) (ht : W.cell? ta = some old) (hf : W.frozen? ta = false) : (ReflectliteValue.set #[.agg #[.pointer (some ⟨9, 159, none⟩), .pointer (some ta), .int .u64 406], .agg #[.pointer (some ⟨9, 159, none⟩), .pointer (some b), .int .u64 150]]).run Tryz.prog W = .ok (.tuple #[]) (W.setCell ta (.pointer (some e))) := by
  delta ReflectliteValue.set
  rw [set_pair]
  simp only [Sem.run_bind, Tryz.asPartsA, Tryz.asPartsE, Result.andThen]
  simp [ReflectliteValue.flagAddr, loadVar, isAgg, underlying, Tryz.underlying159, hb, Result.andThen, Tryz.asDirect, storeVar, Value.cells, storeCells, Addr.add]
  rw [run_store Tryz.prog W ta _ _ (by rfl)]
  simp [ht, hf]
end Go.Proofs.YtegmoddppafkfaaGreatDoor
