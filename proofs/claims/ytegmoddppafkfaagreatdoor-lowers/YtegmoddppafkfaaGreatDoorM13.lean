/-
  MY OWN TEXT.
-/
import Derived.Test.YtegmoddppafkfaaGreatDoorM11
import Derived.Test.YtegmoddppafkfaaGreatDoorM12
namespace Go.Proofs.YtegmoddppafkfaaGreatDoor
open Go.RowKit


set_option maxHeartbeats 1600000 in
theorem line_after (p num : Nat) (dep : Int) (x : ByteArray) (r : List ByteArray) (w : World) (H : WordsAt w p num dep (x :: r)) (hv : EnvAt p w) (hnum : num ≤ 1073741824) (h1 : (x.toList == [115, 116, 97, 116, 101]) = false) (h2 : (x.toList == [112, 97, 114, 97, 108, 108, 101, 108]) = false) (h3 : (x.toList == [102, 105, 110, 97, 108]) = false) (h4 : (x.toList == [104, 105, 115, 116, 111, 114, 121]) = false) (h5 : (x.toList == [111, 110]) = false) (h6 : (x.toList == [97, 102, 116, 101, 114]) = true) :
    Calls Tryz.prog 176 #[.pointer (some ⟨p, 0, none⟩)] w (LinePost p num dep (x :: r) w) := by
  cases he : Pro.pDelay r with
  | none =>
    have HS : Hid (Pro.pLine num (x :: r) = none) := by unfold Hid; rw [Pro.pLine, Ref.cState, h1, Ref.cParallel, h2, Ref.cFinal, h3, Ref.cHistory, h4, Ref.cOn, h5, Ref.cAfter, h6, he]; rfl
    go_enter Tryz.func176, Tryz.ntmps176
    go_wp2_with fail
    refine (next_some p num dep x r _ H).mono ?_
    rintro e w1 ⟨rfl, ho, H1⟩
    have ht1 := ho.turned
    clear ho
    obtain ⟨c0, c1⟩ := H1.cells
    dsimp only
    go_wp2_with fail
    refine (timedEvent_any num _ hnum (hv.turned ht1).here).mono ?_
    rintro e w5 ⟨rfl, hb5⟩
    have ht5 := ht1.trans (turned_of_below hb5)
    have H5 := H1.keep hb5
    clear hb5 H1 ht1 c0 c1
    dsimp only
    go_wp2_with fail
    refine (delay_any p num dep r _ H5 (hv.turned ht5)).mono ?_
    rintro e w2 hq
    rw [he] at hq
    obtain ⟨ht, b, h4, h5, rfl⟩ := hq
    dsimp only
    refine ⟨rfl, ?_⟩
    unfold LinePost
    rw [HS.out]
    exact ⟨ht5.trans ht, b, Nat.le_trans ht5.size h4, h5, rfl⟩
  | some q =>
    obtain ⟨d, r1⟩ := q
    cases hn : Pro.pMove r1 with
    | none =>
      have HS : Hid (Pro.pLine num (x :: r) = none) := by unfold Hid; rw [Pro.pLine, Ref.cState, h1, Ref.cParallel, h2, Ref.cFinal, h3, Ref.cHistory, h4, Ref.cOn, h5, Ref.cAfter, h6, he]; simp only; rw [hn]; rfl
      go_enter Tryz.func176, Tryz.ntmps176
      go_wp2_with fail
      refine (next_some p num dep x r _ H).mono ?_
      rintro e w1 ⟨rfl, ho, H1⟩
      have ht1 := ho.turned
      clear ho
      obtain ⟨c0, c1⟩ := H1.cells
      dsimp only
      go_wp2_with fail
      refine (timedEvent_any num _ hnum (hv.turned ht1).here).mono ?_
      rintro e w5 ⟨rfl, hb5⟩
      have ht5 := ht1.trans (turned_of_below hb5)
      have H5 := H1.keep hb5
      clear hb5 H1 ht1 c0 c1
      dsimp only
      go_wp2_with fail
      refine (delay_any p num dep r _ H5 (hv.turned ht5)).mono ?_
      rintro e w3 h3
      rw [he] at h3
      obtain ⟨rfl, ht3, H3⟩ := h3
      have ht4 := ht5.trans ht3
      clear he H5 ht3
      dsimp only
      go_wp2_with fail
      refine (move_any p num dep (Ref.kAfter ++ Ref.dec num) true d r1 _ H3 (hv.turned ht4)).mono ?_
      rintro e w2 hq
      unfold MovePost at hq
      rw [hn] at hq
      obtain ⟨ht, b, h4, h5, rfl⟩ := hq
      dsimp only
      refine ⟨rfl, ?_⟩
      unfold LinePost
      rw [HS.out]
      exact ⟨ht4.trans ht, b, Nat.le_trans ht4.size h4, h5, rfl⟩
    | some q =>
      obtain ⟨⟨t, A⟩, r'⟩ := q
      have HS : Hid (Pro.pLine num (x :: r) = some (.move (Ref.kAfter ++ Ref.dec num) true d t A, r')) := by unfold Hid; rw [Pro.pLine, Ref.cState, h1, Ref.cParallel, h2, Ref.cFinal, h3, Ref.cHistory, h4, Ref.cOn, h5, Ref.cAfter, h6, he]; simp only; rw [hn]; rfl
      go_enter Tryz.func176, Tryz.ntmps176
      go_wp2_with fail
      refine (next_some p num dep x r _ H).mono ?_
      rintro e w1 ⟨rfl, ho, H1⟩
      have ht1 := ho.turned
      clear ho
      obtain ⟨c0, c1⟩ := H1.cells
      dsimp only
      go_wp2_with fail
      refine (timedEvent_any num _ hnum (hv.turned ht1).here).mono ?_
      rintro e w5 ⟨rfl, hb5⟩
      have ht5 := ht1.trans (turned_of_below hb5)
      have H5 := H1.keep hb5
      clear hb5 H1 ht1 c0 c1
      dsimp only
      go_wp2_with fail
      refine (delay_any p num dep r _ H5 (hv.turned ht5)).mono ?_
      rintro e w3 h3
      rw [he] at h3
      obtain ⟨rfl, ht3, H3⟩ := h3
      have ht4 := ht5.trans ht3
      clear he H5 ht3
      dsimp only
      go_wp2_with fail
      refine (move_any p num dep (Ref.kAfter ++ Ref.dec num) true d r1 _ H3 (hv.turned ht4)).mono ?_
      rintro e w2 hq
      unfold MovePost at hq
      rw [hn] at hq
      obtain ⟨a, n, c, rfl, hown, ht2, H2⟩ := hq
      have hown' := own_mono hown ht4.size
      clear hn hown
      dsimp only
      go_wp2
      go_ret
      unfold LinePost
      rw [HS.out]
      exact ⟨_, rfl, ⟨a, n, c, rfl, hown'⟩, ht4.trans ht2, H2⟩

set_option maxHeartbeats 1600000 in
theorem line_none (p num : Nat) (dep : Int) (w : World) (H : WordsAt w p num dep []) :
    Calls Tryz.prog 176 #[.pointer (some ⟨p, 0, none⟩)] w (LinePost p num dep [] w) := by
  go_enter Tryz.func176, Tryz.ntmps176
  go_wp2_with fail
  refine (next_none p num dep _ H).mono ?_
  rintro e w1 h1
  obtain ⟨ht, b, h3, h4, rfl⟩ := refusedT_of (Turned.refl p w) h1
  dsimp only
  exact ⟨rfl, ht, b, h3, h4, rfl⟩

set_option maxHeartbeats 1600000 in
theorem line_other (p num : Nat) (dep : Int) (x : ByteArray) (r : List ByteArray) (w : World) (H : WordsAt w p num dep (x :: r)) (h1 : (x.toList == [115, 116, 97, 116, 101]) = false) (h2 : (x.toList == [112, 97, 114, 97, 108, 108, 101, 108]) = false) (h3 : (x.toList == [102, 105, 110, 97, 108]) = false) (h4 : (x.toList == [104, 105, 115, 116, 111, 114, 121]) = false) (h5 : (x.toList == [111, 110]) = false) (h6 : (x.toList == [97, 102, 116, 101, 114]) = false) (h7 : (x.toList == [101, 110, 116, 101, 114]) = false) (h8 : (x.toList == [108, 101, 97, 118, 101]) = false) :
    Calls Tryz.prog 176 #[.pointer (some ⟨p, 0, none⟩)] w (LinePost p num dep (x :: r) w) := by
  have HS : Hid (Pro.pLine num (x :: r) = none) := by unfold Hid; rw [Pro.pLine, Ref.cState, h1, Ref.cParallel, h2, Ref.cFinal, h3, Ref.cHistory, h4, Ref.cOn, h5, Ref.cAfter, h6, Ref.cEnter, h7, Ref.cLeave, h8]; rfl
  go_enter Tryz.func176, Tryz.ntmps176
  go_wp2_with fail
  refine (next_some p num dep x r _ H).mono ?_
  rintro e w1 ⟨rfl, ho, H1⟩
  have ht1 := ho.turned
  obtain ⟨c0, c1⟩ := H1.cells
  clear ho
  dsimp only
  go_wp2_with fail
  refine (refuse_any num dep 2 _).mono ?_
  rintro e w2 hq
  obtain ⟨ht, b, h4, h5, rfl⟩ := refusedT_of ht1 hq
  dsimp only
  refine ⟨rfl, ?_⟩
  unfold LinePost
  rw [HS.out]
  exact ⟨ht, b, h4, h5, rfl⟩

theorem line_any (p num : Nat) (dep : Int) (l : List ByteArray) (w : World) (H : WordsAt w p num dep l) (hv : EnvAt p w) (hnum : num ≤ 1073741824) :
    Calls Tryz.prog 176 #[.pointer (some ⟨p, 0, none⟩)] w (LinePost p num dep l w) := by
  cases l with
  | nil => exact line_none p num dep w H
  | cons x r =>
    cases h1 : (x.toList == [115, 116, 97, 116, 101])
    case true => exact line_state p num dep x r w H hv h1
    cases h2 : (x.toList == [112, 97, 114, 97, 108, 108, 101, 108])
    case true => exact line_parallel p num dep x r w H hv h1 h2
    cases h3 : (x.toList == [102, 105, 110, 97, 108])
    case true => exact line_final p num dep x r w H hv h1 h2 h3
    cases h4 : (x.toList == [104, 105, 115, 116, 111, 114, 121])
    case true => exact line_history p num dep x r w H hv h1 h2 h3 h4
    cases h5 : (x.toList == [111, 110])
    case true => exact line_on p num dep x r w H hv h1 h2 h3 h4 h5
    cases h6 : (x.toList == [97, 102, 116, 101, 114])
    case true => exact line_after p num dep x r w H hv hnum h1 h2 h3 h4 h5 h6
    cases h7 : (x.toList == [101, 110, 116, 101, 114])
    case true => exact line_enter p num dep x r w H hv h1 h2 h3 h4 h5 h6 h7
    cases h8 : (x.toList == [108, 101, 97, 118, 101])
    case true => exact line_leave p num dep x r w H hv h1 h2 h3 h4 h5 h6 h7 h8
    exact line_other p num dep x r w H h1 h2 h3 h4 h5 h6 h7 h8
end Go.Proofs.YtegmoddppafkfaaGreatDoor
namespace Go.Proofs.YtegmoddppafkfaaGreatDoor
open Go.RowKit

namespace Pro
theorem ba_eq {a b : ByteArray} (h : (a.toList == b.toList) = true) : a = b := by
  have h := eq_of_beq h
  rw [ByteArray.toList_eq, ByteArray.toList_eq] at h
  cases a; cases b
  simp at h
  rw [h]
theorem ba_eq' {a b : ByteArray} {l : List UInt8} (h : (a.toList == l) = true) (hb : b.toList = l) : a = b := ba_eq (by rw [hb]; exact h)
theorem do_list : bDo.toList = Ref.cDo := by rw [ByteArray.toList_eq]; rfl
theorem as_list : bAs.toList = Ref.cAs := by rw [ByteArray.toList_eq]; rfl
theorem pOf_cons {P : ByteArray → Bool} {x : ByteArray} {r : List ByteArray} : pOf P (x :: r) = if P x then some (x, r) else none := rfl
theorem pDelay_cons {x : ByteArray} {r : List ByteArray} : pDelay (x :: r) = if Ref.digOk x then some (Ref.digVal x, r) else none := rfl
/-- What send reads, by how many words there are. -/
theorem pSend_one {c : ByteArray} : pSend [c] = none := by
  unfold pSend; rw [pOf_cons]; split
  · rfl
  · rename_i x l1 h
    split at h
    · cases h; rfl
    · cases h
theorem pSend_two {c d : ByteArray} : pSend [c, d] = if Ref.called c && Ref.digOk d then some ((c, Ref.digVal d, none), []) else none := by
  unfold pSend; rw [pOf_cons]
  cases Ref.called c
  · rfl
  · simp only [Bool.true_and, if_true]; rw [pDelay_cons]
    cases Ref.digOk d <;> rfl
theorem pSend_more {c d y : ByteArray} {r : List ByteArray} (hy : (y.toList == Ref.cAs) = false) : pSend (c :: d :: y :: r) = if Ref.called c && Ref.digOk d then some ((c, Ref.digVal d, none), y :: r) else none := by
  unfold pSend; rw [pOf_cons]
  cases Ref.called c
  · rfl
  · simp only [Bool.true_and, if_true]; rw [pDelay_cons]
    cases Ref.digOk d
    · rfl
    · simp only [if_true]; rw [as_list, hy]; rfl
theorem pSend_as0 {c d y : ByteArray} (hy : (y.toList == Ref.cAs) = true) : pSend [c, d, y] = none := by
  unfold pSend; rw [pOf_cons]
  cases Ref.called c
  · rfl
  · simp only [if_true]; rw [pDelay_cons]
    cases Ref.digOk d
    · rfl
    · simp only [if_true]; rw [as_list, hy]; rfl
theorem pSend_as1 {c d y a : ByteArray} {r : List ByteArray} (hy : (y.toList == Ref.cAs) = true) : pSend (c :: d :: y :: a :: r) = if Ref.called c && Ref.digOk d && Ref.called a then some ((c, Ref.digVal d, some a), r) else none := by
  unfold pSend; rw [pOf_cons]
  cases Ref.called c
  · rfl
  · simp only [Bool.true_and, if_true]; rw [pDelay_cons]
    cases Ref.digOk d
    · rfl
    · simp only [Bool.true_and, if_true]; rw [as_list, hy, if_pos rfl, pOf_cons]
      cases Ref.called a <;> rfl
/-- One action: the document's reading and the program's. -/
theorem act1_do {x : ByteArray} {r : List ByteArray} (h : (x.toList == Ref.cDo) = true) :
    pAction r = (Ref.act1 (x :: r)).map fun q => (q.1, (x :: r).drop q.2) := by
  cases r with
  | nil => rfl
  | cons y r =>
    rw [pAction]
    cases r with
    | nil =>
      have h2 : Ref.act1 [x, y] = none := by unfold Ref.act1; rw [if_pos (by simp)]
      rw [h2]
      split
      · rfl
      · split
        · rfl
        · split <;> rfl
    | cons c r =>
      have hl : ¬ (x :: y :: c :: r).length < 3 := by simp
      unfold Ref.act1
      rw [if_neg hl, show Ref.at' (x :: y :: c :: r) 0 = x from rfl, h, if_pos rfl, show Ref.at' (x :: y :: c :: r) 1 = y from rfl, show Ref.at' (x :: y :: c :: r) 2 = c from rfl]
      cases h1 : (y.toList == Ref.cRaise)
      · simp only [Bool.false_eq_true, if_false]
        cases h2 : (y.toList == Ref.cCancel)
        · simp only [Bool.false_eq_true, if_false]
          cases h3 : (y.toList == Ref.cSend)
          · simp
          · simp only [if_true]
            have ey : y = bSend := ba_eq' h3 send_list
            cases r with
            | nil => rw [if_pos (by simp), pSend_one]; rfl
            | cons d r =>
              rw [if_neg (by simp), show Ref.at' (x :: y :: c :: d :: r) 3 = d from rfl]
              cases r with
              | nil =>
                rw [if_neg (by simp), pSend_two]
                cases Ref.called c <;> cases Ref.digOk d <;> simp [ey]
              | cons u r =>
                rw [show Ref.at' (x :: y :: c :: d :: u :: r) 4 = u from rfl]
                cases h4 : (u.toList == Ref.cAs)
                · rw [if_neg (by simp), pSend_more h4]
                  cases Ref.called c <;> cases Ref.digOk d <;> simp [ey]
                · rw [if_pos (by simp)]
                  cases r with
                  | nil => rw [if_pos (by simp), pSend_as0 h4]; rfl
                  | cons a r =>
                    rw [if_neg (by simp), show Ref.at' (x :: y :: c :: d :: u :: a :: r) 5 = a from rfl, pSend_as1 h4]
                    cases Ref.called c <;> cases Ref.digOk d <;> cases Ref.called a <;> simp [ey]
        · have ey : y = bCancel := ba_eq' h2 cancel_list
          have h3 : (y.toList == Ref.cSend) = false := by rw [ey, cancel_list]; rfl
          rw [h3]
          simp only [Bool.false_eq_true, if_false, if_true]
          rw [pOf_cons]
          cases Ref.called c <;> simp [ey]
      · have ey : y = bRaise := ba_eq' h1 raise_list
        simp only [if_true]
        rw [pOf_cons]
        cases Ref.called c <;> simp [ey]
theorem act1_not {x : ByteArray} {r : List ByteArray} (h : (x.toList == Ref.cDo) = false) : Ref.act1 (x :: r) = none := by
  unfold Ref.act1
  split
  · rfl
  · rw [show Ref.at' (x :: r) 0 = x from rfl, h]; rfl
theorem acts_same : ∀ (n : Nat) (l : List ByteArray), l.length ≤ n → Ref.acts l = match pActions l with | some (A, []) => some A | _ => none
  | _, [], _ => rfl
  | 0, x :: r, h => by simp at h
  | n + 1, x :: r, h => by
    cases hd : (x.toList == Ref.cDo)
    · rw [pActions_stop (by rw [do_list]; exact hd)]
      show Ref.actsF (r.length + 1) (x :: r) = none
      rw [Ref.actsF, act1_not hd]
    · cases ha : Ref.act1 (x :: r) with
      | none =>
        have hp := act1_do (r := r) hd
        rw [ha] at hp
        rw [pActions_none (by rw [do_list]; exact hd) hp]
        show Ref.actsF (r.length + 1) (x :: r) = none
        rw [Ref.actsF, ha]
      | some q =>
        obtain ⟨a, k⟩ := q
        have hp := act1_do (r := r) hd
        rw [ha] at hp
        have hb := Ref.act1_bounds ha
        have hlen : ((x :: r).drop k).length < (x :: r).length := by
          rw [List.length_drop]; have := hb.1; have := hb.2; omega
        rw [pActions_more (by rw [do_list]; exact hd) hp]
        have ih := acts_same n ((x :: r).drop k) (by simp only [List.length_cons] at h hlen ⊢; omega)
        show Ref.actsF (r.length + 1) (x :: r) = _
        rw [Ref.actsF, ha]
        simp only
        rw [Ref.actsF_mono r.length ((x :: r).drop k).length _ (by simp only [List.length_cons] at hlen; omega) (Nat.le_refl _)]
        change (match Ref.acts ((x :: r).drop k) with | none => none | some r' => some (a :: r')) = _
        rw [ih]
        cases pActions ((x :: r).drop k) with
        | none => rfl
        | some q =>
          obtain ⟨A, t⟩ := q
          cases t <;> rfl
theorem acts_pro (l : List ByteArray) : Ref.acts l = match pActions l with | some (A, []) => some A | _ => none := acts_same l.length l (Nat.le_refl _)
end Pro
end Go.Proofs.YtegmoddppafkfaaGreatDoor
