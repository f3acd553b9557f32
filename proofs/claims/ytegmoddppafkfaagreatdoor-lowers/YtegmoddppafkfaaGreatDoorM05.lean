/-
  MY OWN TEXT.
-/
import Derived.Test.YtegmoddppafkfaaGreatDoorM04
namespace Go.Proofs.YtegmoddppafkfaaGreatDoor
open Go.RowKit

namespace Pro
/-- An action behind its do. -/
def pAction : List ByteArray → Option (Ref.Act × List ByteArray)
  | [] => none
  | x :: r =>
    if x.toList == Ref.cRaise then (pOf Ref.called r).map fun q => (⟨bRaise, q.1, ByteArray.empty, 0⟩, q.2)
    else if x.toList == Ref.cSend then (pSend r).map fun q => (⟨bSend, q.1.1, q.1.2.2.getD ByteArray.empty, q.1.2.1⟩, q.2)
    else if x.toList == Ref.cCancel then (pOf Ref.called r).map fun q => (⟨bCancel, ByteArray.empty, q.1, 0⟩, q.2)
    else none
end Pro
/-- An action as it lies behind the interface. -/
def actV (a : Ref.Act) : Value :=
  if a.how.toList == Ref.cRaise then .iface 435 (.agg #[.string a.event])
  else if a.how.toList == Ref.cCancel then .iface 333 (.agg #[.string a.id])
  else sendV a.event a.delay (if a.id.size = 0 then none else some a.id)
theorem raise_list : Pro.bRaise.toList = Ref.cRaise := by rw [ByteArray.toList_eq]; rfl
theorem send_list : Pro.bSend.toList = Ref.cSend := by rw [ByteArray.toList_eq]; rfl
theorem cancel_list : Pro.bCancel.toList = Ref.cCancel := by rw [ByteArray.toList_eq]; rfl
theorem plain_pos {s : ByteArray} (h : Ref.plain s = true) : ¬ s.size = 0 := by
  rw [Ref.plain, Bool.and_eq_true, Bool.and_eq_true, decide_eq_true_eq] at h; omega
theorem called_pos {s : ByteArray} (h : Ref.called s = true) : ¬ s.size = 0 := by
  rw [Ref.called, Bool.or_eq_true] at h
  rcases h with h | h
  · exact plain_pos h
  · rw [Ref.lined, Bool.and_eq_true] at h
    have := Ref.begins_size h.1
    have e : Ref.kAfter.size = 6 := rfl
    omega
theorem pOf_some {P : ByteArray → Bool} {l r : List ByteArray} {x : ByteArray} (h : Pro.pOf P l = some (x, r)) : P x = true ∧ l = x :: r := by
  cases l with
  | nil => cases h
  | cons y t =>
    rw [Pro.pOf] at h
    split at h
    · cases h; exact ⟨by assumption, rfl⟩
    · cases h
theorem pSend_as {l r : List ByteArray} {x : ByteArray} {d : Int} {a : ByteArray} (h : Pro.pSend l = some ((x, d, some a), r)) : ¬ a.size = 0 := by
  unfold Pro.pSend at h
  split at h
  · cases h
  · split at h
    · cases h
    · cases h
    · split at h
      · split at h
        · cases h
        · rename_i hq
          cases h
          exact called_pos (pOf_some hq).1
      · cases h
theorem actV_raise (n : ByteArray) : actV ⟨Pro.bRaise, n, ByteArray.empty, 0⟩ = .iface 435 (.agg #[.string n]) := by
  unfold actV
  rw [raise_list, if_pos (by decide)]
theorem actV_cancel (n : ByteArray) : actV ⟨Pro.bCancel, ByteArray.empty, n, 0⟩ = .iface 333 (.agg #[.string n]) := by
  unfold actV
  rw [cancel_list, if_neg (by decide), if_pos (by decide)]
theorem actV_send {l r : List ByteArray} {x : ByteArray} {d : Int} {o : Option ByteArray} (h : Pro.pSend l = some ((x, d, o), r)) : actV ⟨Pro.bSend, x, o.getD ByteArray.empty, d⟩ = sendV x d o := by
  unfold actV
  rw [send_list, if_neg (by decide), if_neg (by decide)]
  cases o with
  | none => rfl
  | some a => rw [if_neg (show ¬ (Option.getD (some a) ByteArray.empty).size = 0 from pSend_as h)]; rfl

set_option maxHeartbeats 1600000 in
theorem action_any (p : Nat) (num dep : Int) (l : List ByteArray) (w : World) (H : WordsAt w p num dep l) (hv : EnvAt p w) :
    Calls Tryz.prog 274 #[.pointer (some ⟨p, 0, none⟩)] w (Parses p num dep ((Pro.pAction l).map fun q => (actV q.1, q.2)) w) := by
  cases l with
  | nil =>
    go_enter Tryz.func274, Tryz.ntmps274
    go_wp2_with fail
    refine (next_none p num dep _ H).mono ?_
    rintro e w1 h1
    obtain ⟨ht, b, h3, h4, rfl⟩ := refusedT_of (Turned.refl p w) h1
    dsimp only
    exact ⟨rfl, ht, b, h3, h4, rfl⟩
  | cons x r =>
    cases h1 : (x.toList == [114, 97, 105, 115, 101])
    · cases h2 : (x.toList == [115, 101, 110, 100])
      · cases h3 : (x.toList == [99, 97, 110, 99, 101, 108])
        · have HS : Hid (Pro.pAction (x :: r) = none) := by unfold Hid; rw [Pro.pAction, Ref.cRaise, h1, Ref.cSend, h2, Ref.cCancel, h3]; rfl
          go_enter Tryz.func274, Tryz.ntmps274
          go_wp2_with fail
          refine (next_some p num dep x r _ H).mono ?_
          rintro e w1 ⟨rfl, ho, H1⟩
          have ht1 := ho.turned
          obtain ⟨c0, c1⟩ := H1.cells
          clear ho
          dsimp only
          go_wp2_with fail
          refine (refuse_any num dep 2 _).mono ?_
          rintro e w2 hq
          obtain ⟨ht, b, h4, h5, rfl⟩ := refusedT_of ht1 hq
          dsimp only
          refine ⟨rfl, ?_⟩
          rw [HS.out]
          exact ⟨ht, b, h4, h5, rfl⟩
        · cases hn : Pro.pOf Ref.called r with
          | none =>
            have HS : Hid (Pro.pAction (x :: r) = none) := by unfold Hid; rw [Pro.pAction, Ref.cRaise, h1, Ref.cSend, h2, Ref.cCancel, h3, hn]; rfl
            go_enter Tryz.func274, Tryz.ntmps274
            go_wp2_with fail
            refine (next_some p num dep x r _ H).mono ?_
            rintro e w1 ⟨rfl, ho, H1⟩
            have ht1 := ho.turned
            clear ho
            dsimp only
            go_wp2_with fail
            refine (namedW_any p num dep r _ H1 (hv.turned ht1)).mono ?_
            rintro e w2 hq
            rw [hn] at hq
            obtain ⟨ht, b, h4, h5, rfl⟩ := hq
            dsimp only
            refine ⟨rfl, ?_⟩
            rw [HS.out]
            exact ⟨ht1.trans ht, b, Nat.le_trans ht1.size h4, h5, rfl⟩
          | some q =>
            obtain ⟨n, r'⟩ := q
            have HS : Hid (Pro.pAction (x :: r) = some (⟨Pro.bCancel, ByteArray.empty, n, 0⟩, r')) := by unfold Hid; rw [Pro.pAction, Ref.cRaise, h1, Ref.cSend, h2, Ref.cCancel, h3, hn]; rfl
            go_enter Tryz.func274, Tryz.ntmps274
            go_wp2_with fail
            refine (next_some p num dep x r _ H).mono ?_
            rintro e w1 ⟨rfl, ho, H1⟩
            have ht1 := ho.turned
            clear ho
            dsimp only
            go_wp2_with fail
            refine (namedW_any p num dep r _ H1 (hv.turned ht1)).mono ?_
            rintro e w2 hq
            rw [hn] at hq
            obtain ⟨rfl, ht2, H2⟩ := hq
            clear hn
            dsimp only
            go_wp2
            go_ret
            unfold Parses
            rw [HS.out]
            exact ⟨by rw [actV_cancel]; rfl, ht1.trans ht2, H2⟩
      · cases hn : Pro.pSend r with
        | none =>
          have HS : Hid (Pro.pAction (x :: r) = none) := by unfold Hid; rw [Pro.pAction, Ref.cRaise, h1, Ref.cSend, h2, hn]; rfl
          go_enter Tryz.func274, Tryz.ntmps274
          go_wp2_with fail
          refine (next_some p num dep x r _ H).mono ?_
          rintro e w1 ⟨rfl, ho, H1⟩
          have ht1 := ho.turned
          clear ho
          dsimp only
          go_wp2_with fail
          refine (send_any p num dep r _ H1 (hv.turned ht1)).mono ?_
          rintro e w2 hq
          rw [hn] at hq
          obtain ⟨ht, b, h4, h5, rfl⟩ := hq
          dsimp only
          refine ⟨rfl, ?_⟩
          rw [HS.out]
          exact ⟨ht1.trans ht, b, Nat.le_trans ht1.size h4, h5, rfl⟩
        | some q =>
          obtain ⟨⟨n, d, o⟩, r'⟩ := q
          have HS : Hid (Pro.pAction (x :: r) = some (⟨Pro.bSend, n, o.getD ByteArray.empty, d⟩, r')) := by unfold Hid; rw [Pro.pAction, Ref.cRaise, h1, Ref.cSend, h2, hn]; rfl
          have HV : Hid _ := actV_send hn
          go_enter Tryz.func274, Tryz.ntmps274
          go_wp2_with fail
          refine (next_some p num dep x r _ H).mono ?_
          rintro e w1 ⟨rfl, ho, H1⟩
          have ht1 := ho.turned
          clear ho
          dsimp only
          go_wp2_with fail
          refine (send_any p num dep r _ H1 (hv.turned ht1)).mono ?_
          rintro e w2 hq
          rw [hn] at hq
          obtain ⟨rfl, ht2, H2⟩ := hq
          clear hn
          dsimp only
          go_wp2
          go_ret
          unfold Parses
          rw [HS.out]
          exact ⟨by rw [HV.out]; rfl, ht1.trans ht2, H2⟩
    · cases hn : Pro.pOf Ref.called r with
      | none =>
        have HS : Hid (Pro.pAction (x :: r) = none) := by unfold Hid; rw [Pro.pAction, Ref.cRaise, h1, hn]; rfl
        go_enter Tryz.func274, Tryz.ntmps274
        go_wp2_with fail
        refine (next_some p num dep x r _ H).mono ?_
        rintro e w1 ⟨rfl, ho, H1⟩
        have ht1 := ho.turned
        clear ho
        dsimp only
        go_wp2_with fail
        refine (namedW_any p num dep r _ H1 (hv.turned ht1)).mono ?_
        rintro e w2 hq
        rw [hn] at hq
        obtain ⟨ht, b, h4, h5, rfl⟩ := hq
        dsimp only
        refine ⟨rfl, ?_⟩
        rw [HS.out]
        exact ⟨ht1.trans ht, b, Nat.le_trans ht1.size h4, h5, rfl⟩
      | some q =>
        obtain ⟨n, r'⟩ := q
        have HS : Hid (Pro.pAction (x :: r) = some (⟨Pro.bRaise, n, ByteArray.empty, 0⟩, r')) := by unfold Hid; rw [Pro.pAction, Ref.cRaise, h1, hn]; rfl
        go_enter Tryz.func274, Tryz.ntmps274
        go_wp2_with fail
        refine (next_some p num dep x r _ H).mono ?_
        rintro e w1 ⟨rfl, ho, H1⟩
        have ht1 := ho.turned
        clear ho
        dsimp only
        go_wp2_with fail
        refine (namedW_any p num dep r _ H1 (hv.turned ht1)).mono ?_
        rintro e w2 hq
        rw [hn] at hq
        obtain ⟨rfl, ht2, H2⟩ := hq
        clear hn
        dsimp only
        go_wp2
        go_ret
        unfold Parses
        rw [HS.out]
        exact ⟨by rw [actV_raise]; rfl, ht1.trans ht2, H2⟩
end Go.Proofs.YtegmoddppafkfaaGreatDoor
