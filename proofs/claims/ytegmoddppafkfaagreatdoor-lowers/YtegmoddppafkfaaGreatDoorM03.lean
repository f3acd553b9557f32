/-
  MY OWN TEXT.
-/
import Derived.Test.YtegmoddppafkfaaGreatDoorM00
import Derived.Test.YtegmoddppafkfaaGreatDoorM02
namespace Go.Proofs.YtegmoddppafkfaaGreatDoor
open Go.RowKit

namespace Ref
structure Act where
  how : ByteArray
  event : ByteArray
  id : ByteArray
  delay : Int
def actCells (a : Act) : List Value := [.string a.how, .string a.event, .string a.id, .int .u64 a.delay]
def cDo : List UInt8 := [100, 111]
def cRaise : List UInt8 := [114, 97, 105, 115, 101]
def cCancel : List UInt8 := [99, 97, 110, 99, 101, 108]
def cSend : List UInt8 := [115, 101, 110, 100]
def cAs : List UInt8 := [97, 115]
def at' (l : List ByteArray) (i : Nat) : ByteArray := l.getD i ByteArray.empty
theorem at'_size {l : List ByteArray} {B : Nat} (h : ∀ x ∈ l, x.size ≤ B) (i : Nat) : (at' l i).size ≤ B := by
  unfold at'
  by_cases hi : i < l.length
  · rw [List.getD_eq_getElem?_getD, List.getElem?_eq_getElem hi]; exact h _ (List.getElem_mem hi)
  · rw [List.getD_eq_getElem?_getD, List.getElem?_eq_none (by omega)]; exact Nat.zero_le _
/-- One action: itself, and how many words it takes. -/
def act1 (l : List ByteArray) : Option (Act × Nat) :=
  if l.length < 3 then none
  else if (at' l 0).toList == cDo then
    if (at' l 1).toList == cRaise then if called (at' l 2) then some (⟨at' l 1, at' l 2, ByteArray.empty, 0⟩, 3) else none
    else if (at' l 1).toList == cCancel then if called (at' l 2) then some (⟨at' l 1, ByteArray.empty, at' l 2, 0⟩, 3) else none
    else if (at' l 1).toList == cSend then
      if l.length < 4 then none
      else if decide (4 < l.length) && ((at' l 4).toList == cAs) then
        if l.length < 6 then none
        else if called (at' l 2) && digOk (at' l 3) && called (at' l 5) then some (⟨at' l 1, at' l 2, at' l 5, digVal (at' l 3)⟩, 6) else none
      else if called (at' l 2) && digOk (at' l 3) then some (⟨at' l 1, at' l 2, ByteArray.empty, digVal (at' l 3)⟩, 4) else none
    else none
  else none
def actsF : Nat → List ByteArray → Option (List Act)
  | _, [] => some []
  | 0, _ :: _ => none
  | f + 1, x :: r =>
    match act1 (x :: r) with
    | none => none
    | some (a, n) => match actsF f ((x :: r).drop n) with
      | none => none
      | some r' => some (a :: r')
def acts (l : List ByteArray) : Option (List Act) := actsF l.length l
theorem act1_bounds {l : List ByteArray} {a : Act} {n : Nat} (h : act1 l = some (a, n)) : 3 ≤ n ∧ n ≤ l.length := by
  unfold act1 at h
  repeat' split at h
  all_goals cases h
  all_goals omega
theorem actsF_mono : ∀ (f g : Nat) (l : List ByteArray), l.length ≤ f → l.length ≤ g → actsF f l = actsF g l
  | f, g, [], _, _ => by cases f <;> cases g <;> rfl
  | 0, _, x :: r, h, _ => by simp at h
  | _ + 1, 0, x :: r, _, h => by simp at h
  | f + 1, g + 1, x :: r, hf, hg => by
    simp only [actsF]
    cases h : act1 (x :: r) with
    | none => rfl
    | some p =>
      obtain ⟨a, n⟩ := p
      have hb := act1_bounds h
      simp only
      rw [actsF_mono f g ((x :: r).drop n) (by simp at hf ⊢; omega) (by simp at hg ⊢; omega)]
theorem acts_nil : acts [] = some [] := rfl
theorem acts_none {l : List ByteArray} (hl : 0 < l.length) (h : act1 l = none) : acts l = none := by
  cases l with
  | nil => simp at hl
  | cons x r => show actsF (r.length + 1) (x :: r) = none; rw [actsF, h]
theorem acts_some {l : List ByteArray} {a : Act} {n : Nat} (h : act1 l = some (a, n)) : acts l = (acts (l.drop n)).map (a :: ·) := by
  have hb := act1_bounds h
  cases l with
  | nil => exact absurd hb.2 (by have := hb.1; simp; omega)
  | cons x r =>
    show actsF (r.length + 1) (x :: r) = _
    rw [actsF, h]
    simp only
    rw [actsF_mono r.length ((x :: r).drop n).length _ (by simp; omega) (Nat.le_refl _)]
    show _ = (actsF _ _).map _
    cases actsF ((x :: r).drop n).length ((x :: r).drop n) <;> rfl
theorem acts_step {l R : List ByteArray} {A : List Act} {a : Act} {n : Nat} (h : acts l = (acts R).map (A ++ ·)) (h1 : act1 R = some (a, n)) : acts l = (acts (R.drop n)).map ((A ++ [a]) ++ ·) := by
  rw [h, acts_some h1]
  cases acts (R.drop n) <;> simp
end Ref
theorem Tryz.infoAct : (Tryz.prog.info? 122).map (fun i => (i.zero, i.size, i.bytes)) = some (some (.agg #[.string ByteArray.empty, .string ByteArray.empty, .string ByteArray.empty, .int .u64 0]), 4, 56) := by kernel_rfl

theorem cells_new (w : World) (cs : List Value) (t : TypeId) : ∀ j u, cs[j]? = some u → (w.alloc (.cells cs.toArray t)).cell? ((⟨w.heap.size, 0, none⟩ : Addr).add j) = some u := by
  intro j u hj
  have hn : (w.alloc (.cells cs.toArray t)).heap[w.heap.size]? = some (.cells cs.toArray t) := heap_alloc_new w _
  cases j with
  | zero => simp only [World.cell?, Addr.add]; simp only [if_true]; rw [hn]; simpa using hj
  | succ j => simp only [World.cell?, Addr.add]; rw [if_neg (by omega)]; simp only; rw [hn]; simpa using hj
theorem cells_new' (w : World) (n : Nat) (hn : w.heap.size = n) (cs : List Value) (t : TypeId) : ∀ j u, cs[j]? = some u → (w.alloc (.cells cs.toArray t)).cell? ((⟨n, 0, none⟩ : Addr).add j) = some u := by
  subst hn
  exact cells_new w cs t
theorem oneCell_act (a : Ref.Act) : ∀ u ∈ Ref.actCells a, u.oneCell' = true := by
  intro u hu
  simp [Ref.actCells] at hu
  rcases hu with rfl | rfl | rfl | rfl <;> rfl
def lenOf : Value → Nat | .slice _ n _ => n | _ => 0
/-- A slice of strings that lies somewhere. -/
def Strs (w : World) (b off : Nat) (l : List ByteArray) : Prop := ∀ i, i < l.length → w.cell? ⟨b, off + i, none⟩ = some (.string (Ref.at' l i))
theorem Strs.drop {w : World} {b off : Nat} {l : List ByteArray} (h : Strs w b off l) (n : Nat) : Strs w b (off + n) (l.drop n) := by
  intro i hi
  have := h (n + i) (by simp at hi; omega)
  rw [Nat.add_assoc, this]
  simp [Ref.at', List.getElem?_drop]
theorem Strs.below {w w' : World} {b off B : Nat} {l : List ByteArray} (h : Strs w b off l) (hb : Below B w w') (hB : b < B) : Strs w' b off l :=
  fun i hi => by rw [hb.cell (p := ⟨b, off + i, none⟩) hB]; exact h i hi

set_option maxHeartbeats 1600000 in
set_option maxRecDepth 100000 in
theorem acts_any (ao : Option Addr) (b off cap : Nat) (l : List ByteArray) (w : World) (hao : 0 < l.length → ao = some ⟨b, off, none⟩) (hb : b < w.heap.size) (hc : Strs w b off l) (hsz : ∀ x ∈ l, x.size ≤ 1073741824) (hlen : l.length ≤ 1073741824) (hcap : l.length ≤ cap) :
    Calls Tryz.prog 83 #[.slice ao l.length cap] w fun e w' => Below w.heap.size w w' ∧
      ((Ref.acts l = none ∧ e = .returned (.tuple #[.slice none 0 0, .bool false])) ∨
       ∃ A v, Ref.acts l = some A ∧ e = .returned (.tuple #[v, .bool true]) ∧ w'.ownsRow w.heap.size 122 4 v A.length (A.flatMap Ref.actCells)) := by
  obtain ⟨i0, hi, hz0, hz1, hz2⟩ := info_parts Tryz.infoAct
  have HAO : Hid _ := hao
  clear hao
  go_enter Tryz.func83, Tryz.ntmps83
  go_wp2
  go_loopw [0, 4] (fun s v wr => ∃ (j c : Nat) (A : List Ref.Act) (ao : Option Addr), j ≤ l.length ∧ s = .slice ao (l.length - j) c ∧ (0 < l.length - j → ao = some ⟨b, off + j, none⟩) ∧ l.length - j ≤ c ∧ A.length ≤ j ∧ wr.ownsRow w.heap.size 122 4 v A.length (A.flatMap Ref.actCells) ∧ Below w.heap.size w wr ∧ Ref.acts l = (Ref.acts (l.drop j)).map (A ++ ·)) (fun s _ _ => lenOf s)
  case atStart =>
    exact ⟨0, cap, [], _, Nat.zero_le _, rfl, fun h => HAO.out (by omega), hcap, Nat.le_refl _, World.ownsRow_nil _ _ _ _, Below.refl _ _, by simp⟩
  case round =>
    obtain ⟨j, c, A, ao2, hj, rfl, hao, hjc, hal, hown, hbel, hacts⟩ := hrel
    have Hao : Hid _ := hao
    clear hao
    have hst := (hc.drop j).below hbel hb
    have hsz' : ∀ i, (Ref.at' (l.drop j) i).size ≤ 1073741824 := fun i => Ref.at'_size (fun x hx => hsz x (List.mem_of_mem_drop hx)) i
    have hL : (l.drop j).length = l.length - j := by simp
    have HA : Hid (Ref.acts l = (Ref.acts (l.drop j)).map (A ++ ·)) := hacts
    clear hacts hsz
    have Hjn : Hid (∃ n, l.length - j = n ∧ n + j = l.length) := ⟨_, rfl, by omega⟩
    generalize hR : l.drop j = R at *
    have HR : Hid _ := hR
    clear hR
    rw [← hL] at hjc ⊢
    have hRlen : R.length ≤ 1073741824 := by omega
    have HLL : Hid _ := hL
    clear hL
    generalize ho : off + j = o at *
    have HO : Hid _ := ho
    clear ho
    have hsize := hbel.size
    have FIN : Hid (∀ (n : Nat) (a : Ref.Act) (ao' : Option Addr) (v' : Value) (w3 : World), (0 < R.length - n → ao' = some ⟨b, o + n, none⟩) → n ≤ R.length → 1 ≤ n → w3.ownsRow w.heap.size 122 4 v' (A.length + 1) (A.flatMap Ref.actCells ++ Ref.actCells a) → Below w.heap.size w w3 → Ref.acts l = (Ref.acts (R.drop n)).map ((A ++ [a]) ++ ·) →
        ∃ (j' c' : Nat) (A' : List Ref.Act) (ao2 : Option Addr), j' ≤ l.length ∧ Value.slice ao' (R.length - n) (c - n) = .slice ao2 (l.length - j') c' ∧ (0 < l.length - j' → ao2 = some ⟨b, off + j', none⟩) ∧ l.length - j' ≤ c' ∧ A'.length ≤ j' ∧ w3.ownsRow w.heap.size 122 4 v' A'.length (A'.flatMap Ref.actCells) ∧ Below w.heap.size w w3 ∧ Ref.acts l = (Ref.acts (l.drop j')).map (A' ++ ·)) := by
      intro n a ao' v' w3 hao' hn1 hn2 ho3 hb3 ha3
      have e1 := HLL.out
      have e2 := HO.out
      have e3 := HR.out
      refine ⟨j + n, c - n, A ++ [a], ao', by omega, ?_, fun h => ?_, by omega, by simp; omega, by simpa using ho3, hb3, ?_⟩
      · rw [show R.length - n = l.length - (j + n) from by omega]
      · rw [hao' (by omega), show o + n = off + (j + n) from by omega]
      · rw [ha3, ← e3, List.drop_drop]
    by_cases h0 : R.length = 0
    · clear Hao
      go_wp2
      go_ret2
      refine ⟨hbel, .inr ⟨A, _, ?_, rfl, hown⟩⟩
      rw [HA.out, List.eq_nil_of_length_eq_zero h0, Ref.acts_nil]; simp
    · obtain rfl := Hao.out (by have := HLL.out; omega)
      clear Hao
      by_cases h3 : R.length < 3
      · have HN : Hid (Ref.acts l = none) := by
          unfold Hid
          rw [HA.out, Ref.acts_none (by omega) (by rw [Ref.act1, if_pos h3])]; rfl
        go_wp2
        all_goals go_ret2
        all_goals exact ⟨hbel.alloc hsize _, .inl ⟨HN.out, rfl⟩⟩
      · have c0 := hst 0 (by omega)
        have c1 := hst 1 (by omega)
        have c2 := hst 2 (by omega)
        have hbw : b < wr.heap.size := by omega
        have s1 := hsz' 1
        have s2 := hsz' 2
        rw [Nat.add_zero] at c0
        cases hDo : ((Ref.at' R 0).toList == [100, 111])
        · have HN : Hid (Ref.acts l = none) := by
            unfold Hid
            rw [HA.out, Ref.acts_none (by omega) (by simp only [Ref.act1, if_neg h3, Ref.cDo, hDo, Bool.false_eq_true, if_false])]; rfl
          go_wp2
          all_goals go_ret2
          all_goals exact ⟨hbel.alloc hsize _, .inl ⟨HN.out, rfl⟩⟩
        · cases hRaise : ((Ref.at' R 1).toList == [114, 97, 105, 115, 101])
          · cases hCancel : ((Ref.at' R 1).toList == [99, 97, 110, 99, 101, 108])
            · cases hSend : ((Ref.at' R 1).toList == [115, 101, 110, 100])
              · have HN : Hid (Ref.acts l = none) := by
                  unfold Hid
                  rw [HA.out, Ref.acts_none (by omega) (by simp only [Ref.act1, if_neg h3, Ref.cDo, hDo, Ref.cRaise, hRaise, Ref.cCancel, hCancel, Ref.cSend, hSend, Bool.false_eq_true, if_false, if_true])]; rfl
                go_wp2_with (go_at_call 121; refine (called_any _ _ (by unfold maxLen; omega)).mono ?_; rintro e w' ⟨rfl, rfl⟩)
                all_goals go_ret2
                all_goals exact ⟨hbel.alloc hsize _, .inl ⟨HN.out, rfl⟩⟩
              · by_cases h4 : R.length < 4
                · have HN : Hid (Ref.acts l = none) := by
                    unfold Hid
                    rw [HA.out, Ref.acts_none (by omega) (by simp only [Ref.act1, if_neg h3, Ref.cDo, hDo, Ref.cRaise, hRaise, Ref.cCancel, hCancel, Ref.cSend, hSend, if_pos h4, Bool.false_eq_true, if_false, if_true])]; rfl
                  go_wp2_with (go_at_call 121; refine (called_any _ _ (by unfold maxLen; omega)).mono ?_; rintro e w' ⟨rfl, rfl⟩)
                  all_goals go_ret2
                  all_goals exact ⟨hbel.alloc hsize _, .inl ⟨HN.out, rfl⟩⟩
                · have c3 := hst 3 (by omega)
                  have s3 := hsz' 3
                  by_cases h5 : 4 < R.length
                  · have c4 := hst 4 (by omega)
                    have s4 := hsz' 4
                    cases hAs : ((Ref.at' R 4).toList == [97, 115])
                    · cases hCa : Ref.called (Ref.at' R 2)
                      · have HN : Hid (Ref.acts l = none) := by
                          unfold Hid
                          rw [HA.out, Ref.acts_none (by omega) (by simp only [Ref.act1, if_neg h3, Ref.cDo, hDo, Ref.cRaise, hRaise, Ref.cCancel, hCancel, Ref.cSend, hSend, if_neg h4, decide_eq_true h5, Ref.cAs, hAs, Bool.true_and, hCa, Bool.false_and, Bool.false_eq_true, if_false, if_true])]; rfl
                        have HC : Hid _ := hCa
                        clear hCa
                        go_wp2_with (first | (go_at_call 121; refine (called_any _ _ (by unfold maxLen; omega)).mono ?_; rintro e w' ⟨rfl, rfl⟩; rw [HC.out]) | (go_at_call 82; refine (digits_any _ _ (by unfold maxLen; omega)).mono ?_; rintro e w' ⟨rfl, rfl⟩))
                        all_goals go_ret2
                        all_goals exact ⟨hbel.alloc hsize _, .inl ⟨HN.out, rfl⟩⟩
                      · cases hDg : Ref.digOk (Ref.at' R 3)
                        · have HN : Hid (Ref.acts l = none) := by
                            unfold Hid
                            rw [HA.out, Ref.acts_none (by omega) (by simp only [Ref.act1, if_neg h3, Ref.cDo, hDo, Ref.cRaise, hRaise, Ref.cCancel, hCancel, Ref.cSend, hSend, if_neg h4, decide_eq_true h5, Ref.cAs, hAs, Bool.true_and, hCa, hDg, Bool.true_and, Bool.false_eq_true, if_false, if_true])]; rfl
                          have HC : Hid _ := hCa
                          clear hCa
                          have HD : Hid _ := hDg
                          clear hDg
                          go_wp2_with (first | (go_at_call 121; refine (called_any _ _ (by unfold maxLen; omega)).mono ?_; rintro e w' ⟨rfl, rfl⟩; rw [HC.out]) | (go_at_call 82; refine (digits_any _ _ (by unfold maxLen; omega)).mono ?_; rintro e w' ⟨rfl, rfl⟩; rw [HD.out]))
                          all_goals go_ret2
                          all_goals exact ⟨hbel.alloc hsize _, .inl ⟨HN.out, rfl⟩⟩
                        · have HS : Hid (Ref.acts l = (Ref.acts (R.drop 4)).map ((A ++ [⟨Ref.at' R 1, Ref.at' R 2, ByteArray.empty, Ref.digVal (Ref.at' R 3)⟩]) ++ ·)) :=
                            Ref.acts_step HA.out (by simp only [Ref.act1, if_neg h3, Ref.cDo, hDo, Ref.cRaise, hRaise, Ref.cCancel, hCancel, Ref.cSend, hSend, if_neg h4, decide_eq_true h5, Ref.cAs, hAs, Bool.true_and, hCa, hDg, Bool.true_and, Bool.false_eq_true, if_false, if_true])
                          have HC : Hid _ := hCa
                          clear hCa
                          have HD : Hid _ := hDg
                          clear hDg
                          go_wp2_with (first | (go_at_call 121; refine (called_any _ _ (by unfold maxLen; omega)).mono ?_; rintro e w' ⟨rfl, rfl⟩; rw [HC.out]) | (go_at_call 82; refine (digits_any _ _ (by unfold maxLen; omega)).mono ?_; rintro e w' ⟨rfl, rfl⟩; rw [HD.out]) | (at_builtin; refine wpList_append_own _ rfl _ _ 115 rfl w.heap.size 122 i0 (.agg #[.string ByteArray.empty, .string ByteArray.empty, .string ByteArray.empty, .int .u64 0]) 4 56 Tryz.underlying115 hi hz0 hz1 hz2 rfl (by decide) _ _ _ rfl ((hown.alloc _).alloc _) ⟨wr.heap.size + 1, 0, none⟩ 1 1 (Ref.actCells ⟨Ref.at' R 1, Ref.at' R 2, ByteArray.empty, Ref.digVal (Ref.at' R 3)⟩) rfl rfl ?hnews (oneCell_act _) (by unfold maxLen; omega) (by omega) (by simp; omega) ?_))
                          case hnews => first | exact cells_new' (wr.alloc _) _ (World.size_alloc _ _) (Ref.actCells ⟨Ref.at' R 1, Ref.at' R 2, ByteArray.empty, Ref.digVal (Ref.at' R 3)⟩) 122 | exact fun _ _ h => h
                          intro v' w3 hown' hgrow3 hnil3
                          go_wp2
                          go_roundw
                          case rel => exact FIN.out 4 _ _ _ _ (fun h => by first | rfl | rw [if_neg (by omega)]) (by omega) (by omega) hown' (((hbel.alloc hsize _).alloc (by simp; omega) _).grown hgrow3 (by simp; omega) (fun q hq => (hown.lt q hq).1)) HS.out
                          case measure => simp [lenOf]; omega
                    · by_cases h6 : R.length < 6
                      · have HN : Hid (Ref.acts l = none) := by
                          unfold Hid
                          rw [HA.out, Ref.acts_none (by omega) (by simp only [Ref.act1, if_neg h3, Ref.cDo, hDo, Ref.cRaise, hRaise, Ref.cCancel, hCancel, Ref.cSend, hSend, if_neg h4, decide_eq_true h5, Ref.cAs, hAs, Bool.true_and, if_pos h6, Bool.false_eq_true, if_false, if_true])]; rfl
                        go_wp2_with (first | (go_at_call 121; refine (called_any _ _ (by unfold maxLen; omega)).mono ?_; rintro e w' ⟨rfl, rfl⟩) | (go_at_call 82; refine (digits_any _ _ (by unfold maxLen; omega)).mono ?_; rintro e w' ⟨rfl, rfl⟩))
                        all_goals go_ret2
                        all_goals exact ⟨hbel.alloc hsize _, .inl ⟨HN.out, rfl⟩⟩
                      · have c5 := hst 5 (by omega)
                        have s5 := hsz' 5
                        cases hCa : Ref.called (Ref.at' R 2)
                        · have HN : Hid (Ref.acts l = none) := by
                            unfold Hid
                            rw [HA.out, Ref.acts_none (by omega) (by simp only [Ref.act1, if_neg h3, Ref.cDo, hDo, Ref.cRaise, hRaise, Ref.cCancel, hCancel, Ref.cSend, hSend, if_neg h4, decide_eq_true h5, Ref.cAs, hAs, Bool.true_and, if_neg h6, hCa, Bool.false_and, Bool.false_eq_true, if_false, if_true])]; rfl
                          have HC : Hid _ := hCa
                          clear hCa
                          go_wp2_with (first | (go_at_call 121; refine (called_any _ _ (by unfold maxLen; omega)).mono ?_; rintro e w' ⟨rfl, rfl⟩; try rw [HC.out]) | (go_at_call 82; refine (digits_any _ _ (by unfold maxLen; omega)).mono ?_; rintro e w' ⟨rfl, rfl⟩))
                          all_goals go_ret2
                          all_goals exact ⟨hbel.alloc hsize _, .inl ⟨HN.out, rfl⟩⟩
                        · cases hDg : Ref.digOk (Ref.at' R 3)
                          · have HN : Hid (Ref.acts l = none) := by
                              unfold Hid
                              rw [HA.out, Ref.acts_none (by omega) (by simp only [Ref.act1, if_neg h3, Ref.cDo, hDo, Ref.cRaise, hRaise, Ref.cCancel, hCancel, Ref.cSend, hSend, if_neg h4, decide_eq_true h5, Ref.cAs, hAs, Bool.true_and, if_neg h6, hCa, hDg, Bool.false_and, Bool.false_eq_true, if_false, if_true])]; rfl
                            have HC : Hid _ := hCa
                            clear hCa
                            have HD : Hid _ := hDg
                            clear hDg
                            go_wp2_with (first | (go_at_call 121; refine (called_any _ _ (by unfold maxLen; omega)).mono ?_; rintro e w' ⟨rfl, rfl⟩; try rw [HC.out]) | (go_at_call 82; refine (digits_any _ _ (by unfold maxLen; omega)).mono ?_; rintro e w' ⟨rfl, rfl⟩; rw [HD.out]))
                            all_goals go_ret2
                            all_goals exact ⟨hbel.alloc hsize _, .inl ⟨HN.out, rfl⟩⟩
                          · cases hC5' : Ref.called (Ref.at' R 5)
                            · have HN : Hid (Ref.acts l = none) := by
                                unfold Hid
                                rw [HA.out, Ref.acts_none (by omega) (by simp only [Ref.act1, if_neg h3, Ref.cDo, hDo, Ref.cRaise, hRaise, Ref.cCancel, hCancel, Ref.cSend, hSend, if_neg h4, decide_eq_true h5, Ref.cAs, hAs, Bool.true_and, if_neg h6, hCa, hDg, hC5', Bool.false_eq_true, if_false, if_true])]; rfl
                              have HC : Hid _ := hCa
                              clear hCa
                              have HD : Hid _ := hDg
                              clear hDg
                              have HC5 : Hid _ := hC5'
                              clear hC5'
                              go_wp2_with (first | (go_at_call 121; refine (called_any _ _ (by unfold maxLen; omega)).mono ?_; rintro e w' ⟨rfl, rfl⟩; first | rw [HC.out] | rw [HC5.out]) | (go_at_call 82; refine (digits_any _ _ (by unfold maxLen; omega)).mono ?_; rintro e w' ⟨rfl, rfl⟩; rw [HD.out]))
                              all_goals go_ret2
                              all_goals exact ⟨hbel.alloc hsize _, .inl ⟨HN.out, rfl⟩⟩
                            · have HS : Hid (Ref.acts l = (Ref.acts (R.drop 6)).map ((A ++ [⟨Ref.at' R 1, Ref.at' R 2, Ref.at' R 5, Ref.digVal (Ref.at' R 3)⟩]) ++ ·)) :=
                                Ref.acts_step HA.out (by simp only [Ref.act1, if_neg h3, Ref.cDo, hDo, Ref.cRaise, hRaise, Ref.cCancel, hCancel, Ref.cSend, hSend, if_neg h4, decide_eq_true h5, Ref.cAs, hAs, Bool.true_and, if_neg h6, hCa, hDg, hC5', Bool.false_eq_true, if_false, if_true])
                              have HC : Hid _ := hCa
                              clear hCa
                              have HD : Hid _ := hDg
                              clear hDg
                              have HC5 : Hid _ := hC5'
                              clear hC5'
                              go_wp2_with (first | (go_at_call 121; refine (called_any _ _ (by unfold maxLen; omega)).mono ?_; rintro e w' ⟨rfl, rfl⟩; first | rw [HC.out] | rw [HC5.out]) | (go_at_call 82; refine (digits_any _ _ (by unfold maxLen; omega)).mono ?_; rintro e w' ⟨rfl, rfl⟩; rw [HD.out]) | (at_builtin; refine wpList_append_own _ rfl _ _ 115 rfl w.heap.size 122 i0 (.agg #[.string ByteArray.empty, .string ByteArray.empty, .string ByteArray.empty, .int .u64 0]) 4 56 Tryz.underlying115 hi hz0 hz1 hz2 rfl (by decide) _ _ _ rfl ((hown.alloc _).alloc _) ⟨wr.heap.size + 1, 0, none⟩ 1 1 (Ref.actCells ⟨Ref.at' R 1, Ref.at' R 2, Ref.at' R 5, Ref.digVal (Ref.at' R 3)⟩) rfl rfl ?hnews (oneCell_act _) (by unfold maxLen; omega) (by omega) (by simp; omega) ?_))
                              case hnews => first | exact cells_new' (wr.alloc _) _ (World.size_alloc _ _) (Ref.actCells ⟨Ref.at' R 1, Ref.at' R 2, Ref.at' R 5, Ref.digVal (Ref.at' R 3)⟩) 122 | exact fun _ _ h => h
                              intro v' w3 hown' hgrow3 hnil3
                              go_wp2
                              go_roundw
                              case rel => exact FIN.out 6 _ _ _ _ (fun h => by first | rfl | rw [if_neg (by omega)]) (by omega) (by omega) hown' (((hbel.alloc hsize _).alloc (by simp; omega) _).grown hgrow3 (by simp; omega) (fun q hq => (hown.lt q hq).1)) HS.out
                              case measure => simp [lenOf]; omega
                  · cases hCa : Ref.called (Ref.at' R 2)
                    · have HN : Hid (Ref.acts l = none) := by
                        unfold Hid
                        rw [HA.out, Ref.acts_none (by omega) (by simp only [Ref.act1, if_neg h3, Ref.cDo, hDo, Ref.cRaise, hRaise, Ref.cCancel, hCancel, Ref.cSend, hSend, if_neg h4, decide_eq_false h5, Bool.false_and, hCa, Bool.false_and, Bool.false_eq_true, if_false, if_true])]; rfl
                      have HC : Hid _ := hCa
                      clear hCa
                      go_wp2_with (first | (go_at_call 121; refine (called_any _ _ (by unfold maxLen; omega)).mono ?_; rintro e w' ⟨rfl, rfl⟩; rw [HC.out]) | (go_at_call 82; refine (digits_any _ _ (by unfold maxLen; omega)).mono ?_; rintro e w' ⟨rfl, rfl⟩))
                      all_goals go_ret2
                      all_goals exact ⟨hbel.alloc hsize _, .inl ⟨HN.out, rfl⟩⟩
                    · cases hDg : Ref.digOk (Ref.at' R 3)
                      · have HN : Hid (Ref.acts l = none) := by
                          unfold Hid
                          rw [HA.out, Ref.acts_none (by omega) (by simp only [Ref.act1, if_neg h3, Ref.cDo, hDo, Ref.cRaise, hRaise, Ref.cCancel, hCancel, Ref.cSend, hSend, if_neg h4, decide_eq_false h5, Bool.false_and, hCa, hDg, Bool.true_and, Bool.false_eq_true, if_false, if_true])]; rfl
                        have HC : Hid _ := hCa
                        clear hCa
                        have HD : Hid _ := hDg
                        clear hDg
                        go_wp2_with (first | (go_at_call 121; refine (called_any _ _ (by unfold maxLen; omega)).mono ?_; rintro e w' ⟨rfl, rfl⟩; rw [HC.out]) | (go_at_call 82; refine (digits_any _ _ (by unfold maxLen; omega)).mono ?_; rintro e w' ⟨rfl, rfl⟩; rw [HD.out]))
                        all_goals go_ret2
                        all_goals exact ⟨hbel.alloc hsize _, .inl ⟨HN.out, rfl⟩⟩
                      · have HS : Hid (Ref.acts l = (Ref.acts (R.drop 4)).map ((A ++ [⟨Ref.at' R 1, Ref.at' R 2, ByteArray.empty, Ref.digVal (Ref.at' R 3)⟩]) ++ ·)) :=
                          Ref.acts_step HA.out (by simp only [Ref.act1, if_neg h3, Ref.cDo, hDo, Ref.cRaise, hRaise, Ref.cCancel, hCancel, Ref.cSend, hSend, if_neg h4, decide_eq_false h5, Bool.false_and, hCa, hDg, Bool.true_and, Bool.false_eq_true, if_false, if_true])
                        have HC : Hid _ := hCa
                        clear hCa
                        have HD : Hid _ := hDg
                        clear hDg
                        go_wp2_with (first | (go_at_call 121; refine (called_any _ _ (by unfold maxLen; omega)).mono ?_; rintro e w' ⟨rfl, rfl⟩; rw [HC.out]) | (go_at_call 82; refine (digits_any _ _ (by unfold maxLen; omega)).mono ?_; rintro e w' ⟨rfl, rfl⟩; rw [HD.out]) | (at_builtin; refine wpList_append_own _ rfl _ _ 115 rfl w.heap.size 122 i0 (.agg #[.string ByteArray.empty, .string ByteArray.empty, .string ByteArray.empty, .int .u64 0]) 4 56 Tryz.underlying115 hi hz0 hz1 hz2 rfl (by decide) _ _ _ rfl ((hown.alloc _).alloc _) ⟨wr.heap.size + 1, 0, none⟩ 1 1 (Ref.actCells ⟨Ref.at' R 1, Ref.at' R 2, ByteArray.empty, Ref.digVal (Ref.at' R 3)⟩) rfl rfl ?hnews (oneCell_act _) (by unfold maxLen; omega) (by omega) (by simp; omega) ?_))
                        case hnews => first | exact cells_new' (wr.alloc _) _ (World.size_alloc _ _) (Ref.actCells ⟨Ref.at' R 1, Ref.at' R 2, ByteArray.empty, Ref.digVal (Ref.at' R 3)⟩) 122 | exact fun _ _ h => h
                        intro v' w3 hown' hgrow3 hnil3
                        go_wp2
                        go_roundw
                        case rel => exact FIN.out 4 _ _ _ _ (fun h => by first | rfl | rw [if_neg (by omega)]) (by omega) (by omega) hown' (((hbel.alloc hsize _).alloc (by simp; omega) _).grown hgrow3 (by simp; omega) (fun q hq => (hown.lt q hq).1)) HS.out
                        case measure => simp [lenOf]; omega
            · cases hCa : Ref.called (Ref.at' R 2)
              · have HN : Hid (Ref.acts l = none) := by
                  unfold Hid
                  rw [HA.out, Ref.acts_none (by omega) (by simp only [Ref.act1, if_neg h3, Ref.cDo, hDo, Ref.cRaise, hRaise, Ref.cCancel, hCancel, hCa, Bool.false_eq_true, if_false, if_true])]; rfl
                have HC : Hid _ := hCa
                clear hCa
                go_wp2_with (go_at_call 121; refine (called_any _ _ (by unfold maxLen; omega)).mono ?_; rintro e w' ⟨rfl, rfl⟩; rw [HC.out])
                all_goals go_ret2
                all_goals exact ⟨hbel.alloc hsize _, .inl ⟨HN.out, rfl⟩⟩
              · have HS : Hid (Ref.acts l = (Ref.acts (R.drop 3)).map ((A ++ [⟨Ref.at' R 1, ByteArray.empty, Ref.at' R 2, 0⟩]) ++ ·)) :=
                  Ref.acts_step HA.out (by simp only [Ref.act1, if_neg h3, Ref.cDo, hDo, Ref.cRaise, hRaise, Ref.cCancel, hCancel, hCa, Bool.false_eq_true, if_false, if_true])
                have HC : Hid _ := hCa
                clear hCa
                go_wp2_with (first | (go_at_call 121; refine (called_any _ _ (by unfold maxLen; omega)).mono ?_; rintro e w' ⟨rfl, rfl⟩; rw [HC.out]) | (at_builtin; refine wpList_append_own _ rfl _ _ 115 rfl w.heap.size 122 i0 (.agg #[.string ByteArray.empty, .string ByteArray.empty, .string ByteArray.empty, .int .u64 0]) 4 56 Tryz.underlying115 hi hz0 hz1 hz2 rfl (by decide) _ _ _ rfl ((hown.alloc _).alloc _) ⟨wr.heap.size + 1, 0, none⟩ 1 1 (Ref.actCells ⟨Ref.at' R 1, ByteArray.empty, Ref.at' R 2, 0⟩) rfl rfl ?hnews (oneCell_act _) (by unfold maxLen; omega) (by omega) (by simp; omega) ?_))
                case hnews => first | exact cells_new' (wr.alloc _) _ (World.size_alloc _ _) (Ref.actCells ⟨Ref.at' R 1, ByteArray.empty, Ref.at' R 2, 0⟩) 122 | exact fun _ _ h => h
                intro v' w3 hown' hgrow3 hnil3
                go_wp2
                go_roundw
                case rel => exact FIN.out 3 _ _ _ _ (fun h => by first | rfl | rw [if_neg (by omega)]) (by omega) (by omega) hown' (((hbel.alloc hsize _).alloc (by simp; omega) _).grown hgrow3 (by simp; omega) (fun q hq => (hown.lt q hq).1)) HS.out
                case measure => simp [lenOf]; omega
          · cases hCa : Ref.called (Ref.at' R 2)
            · have HN : Hid (Ref.acts l = none) := by
                unfold Hid
                rw [HA.out, Ref.acts_none (by omega) (by simp only [Ref.act1, if_neg h3, Ref.cDo, hDo, Ref.cRaise, hRaise, hCa, Bool.false_eq_true, if_false, if_true])]; rfl
              have HC : Hid _ := hCa
              clear hCa
              go_wp2_with (go_at_call 121; refine (called_any _ _ (by unfold maxLen; omega)).mono ?_; rintro e w' ⟨rfl, rfl⟩; rw [HC.out])
              all_goals go_ret2
              all_goals exact ⟨hbel.alloc hsize _, .inl ⟨HN.out, rfl⟩⟩
            · have HS : Hid (Ref.acts l = (Ref.acts (R.drop 3)).map ((A ++ [⟨Ref.at' R 1, Ref.at' R 2, ByteArray.empty, 0⟩]) ++ ·)) :=
                Ref.acts_step HA.out (by simp only [Ref.act1, if_neg h3, Ref.cDo, hDo, Ref.cRaise, hRaise, hCa, if_true])
              have HC : Hid _ := hCa
              clear hCa
              go_wp2_with (first | (go_at_call 121; refine (called_any _ _ (by unfold maxLen; omega)).mono ?_; rintro e w' ⟨rfl, rfl⟩; rw [HC.out]) | (at_builtin; refine wpList_append_own _ rfl _ _ 115 rfl w.heap.size 122 i0 (.agg #[.string ByteArray.empty, .string ByteArray.empty, .string ByteArray.empty, .int .u64 0]) 4 56 Tryz.underlying115 hi hz0 hz1 hz2 rfl (by decide) _ _ _ rfl ((hown.alloc _).alloc _) ⟨wr.heap.size + 1, 0, none⟩ 1 1 (Ref.actCells ⟨Ref.at' R 1, Ref.at' R 2, ByteArray.empty, 0⟩) rfl rfl ?hnews (oneCell_act _) (by unfold maxLen; omega) (by omega) (by simp; omega) ?_))
              case hnews => first | exact cells_new' (wr.alloc _) _ (World.size_alloc _ _) (Ref.actCells ⟨Ref.at' R 1, Ref.at' R 2, ByteArray.empty, 0⟩) 122 | exact fun _ _ h => h
              intro v' w3 hown' hgrow3 hnil3
              go_wp2
              go_roundw
              case rel => exact FIN.out 3 _ _ _ _ (fun h => by first | rfl | rw [if_neg (by omega)]) (by omega) (by omega) hown' (((hbel.alloc hsize _).alloc (by simp; omega) _).grown hgrow3 (by simp; omega) (fun q hq => (hown.lt q hq).1)) HS.out
              case measure => simp [lenOf]; omega
end Go.Proofs.YtegmoddppafkfaaGreatDoor
