/-
  MY OWN TEXT.
-/
import Derived.Test.YtegmoddppafkfaaGreatDoorM06
namespace Go.Proofs.YtegmoddppafkfaaGreatDoor
open Go.RowKit
open Go.PlainAid (bt get_bt bt_nonneg bt_le bt_end)

set_option maxHeartbeats 1600000 in
set_option maxRecDepth 100000 in
theorem said_hist2 (b off cap : Nat) (l : List ByteArray) (ln : Nat) (w : World) (H : Words w b off cap l) (h2 : ¬ l.length < 2) (hSt : ((Ref.at' l 0).toList == [115, 116, 97, 116, 101]) = false) (hPa : ((Ref.at' l 0).toList == [112, 97, 114, 97, 108, 108, 101, 108]) = false) (hFi : ((Ref.at' l 0).toList == [102, 105, 110, 97, 108]) = false) (hHi : ((Ref.at' l 0).toList == [104, 105, 115, 116, 111, 114, 121]) = true) (hl2 : l.length = 2) (hP : Ref.plain (Ref.at' l 1) = true) :
    Calls Tryz.prog 56 #[.slice (some ⟨b, off, none⟩) l.length cap, .int .i64 ln] w (SaidPost l ln w) := by
  have c0 := H.strs 0 H.pos
  have c1 := H.strs 1 (by omega)
  have s1 := Ref.at'_size H.sizes 1
  have hlt := H.lt
  rw [Nat.add_zero] at c0
  have hD : Ref.deepW l = false := by rw [Ref.deepW, decide_eq_false (by omega), Bool.false_and]
  have HS : Hid (Ref.said l ln = ⟨115, Ref.at' l 0, Ref.at' l 1, false, ln, Ref.noMove, []⟩) := by unfold Hid; rw [Ref.said_eq_hist h2 (Ref.or3 hSt hPa hFi) hHi, hP, hD, decide_eq_true hl2]; rfl
  have HP : Hid _ := hP
  clear hP
  go_enter Tryz.func56, Tryz.ntmps56
  go_wp2_with (first | (refine wpList_store_same rfl 127 (.tmp 5) (.tmp 18) rfl _ 127 _ rfl rfl (heap_last2 _ _ _) Tryz.sizeLine rfl ?_) | (go_at_call 78; refine (plain_any _ _ (by unfold maxLen; omega)).mono ?_; rintro e w1 ⟨rfl, hw1⟩; rw [HP.out]; obtain ⟨q0, q1, q2, q3⟩ := two_blocks hw1; clear hw1; rw [← q3.cell (p := ⟨b, off, none⟩) hlt] at c0; rw [← q3.cell (p := ⟨b, off + 1, none⟩) hlt] at c1))
  refine region_tail 10 (by kernel_rfl) (by kernel_rfl) ?_
  simp only [List.take_succ_cons, List.take_zero, List.drop_succ_cons, List.drop_zero]
  repeat still_step
  refine wpStill_nil ?_
  refine wpList_store_all rfl 127 (.tmp 4) (.tmp 78) rfl _ 127 _ _ rfl rfl (show w1.drew.heap[w.heap.size]? = _ from q1) Tryz.sizeLine rfl rfl ?_
  go_wp2
  exact ret_cell Tryz.resSaid _ 127 _ (0, 0) _ rfl (setRow_heap _ _ _ _ _ _ (show w1.drew.heap[w.heap.size]? = _ from q1)) Tryz.underlying127 rfl Tryz.sizeLine rfl (said_plain HS rfl rfl ((only_setRow _ _ _).below q3.drew (Nat.le_refl _)))

set_option maxHeartbeats 1600000 in
set_option maxRecDepth 100000 in
theorem said_hist3 (b off cap : Nat) (l : List ByteArray) (ln : Nat) (w : World) (H : Words w b off cap l) (h2 : ¬ l.length < 2) (hSt : ((Ref.at' l 0).toList == [115, 116, 97, 116, 101]) = false) (hPa : ((Ref.at' l 0).toList == [112, 97, 114, 97, 108, 108, 101, 108]) = false) (hFi : ((Ref.at' l 0).toList == [102, 105, 110, 97, 108]) = false) (hHi : ((Ref.at' l 0).toList == [104, 105, 115, 116, 111, 114, 121]) = true) (hl3 : l.length = 3) (hDe : ((Ref.at' l 2).toList == [100, 101, 101, 112]) = true) (hP : Ref.plain (Ref.at' l 1) = true) :
    Calls Tryz.prog 56 #[.slice (some ⟨b, off, none⟩) l.length cap, .int .i64 ln] w (SaidPost l ln w) := by
  have c0 := H.strs 0 H.pos
  have c1 := H.strs 1 (by omega)
  have s1 := Ref.at'_size H.sizes 1
  have hlt := H.lt
  rw [Nat.add_zero] at c0
  have c2 := H.strs 2 (by omega)
  have hD : Ref.deepW l = true := by rw [Ref.deepW, decide_eq_true hl3, Bool.true_and]; exact hDe
  have HS : Hid (Ref.said l ln = ⟨115, Ref.at' l 0, Ref.at' l 1, true, ln, Ref.noMove, []⟩) := by unfold Hid; rw [Ref.said_eq_hist h2 (Ref.or3 hSt hPa hFi) hHi, hP, hD, decide_eq_false (show ¬ l.length = 2 by omega)]; rfl
  have HP : Hid _ := hP
  clear hP
  go_enter Tryz.func56, Tryz.ntmps56
  go_wp2_with (first | (refine wpList_store_same rfl 127 (.tmp 5) (.tmp 18) rfl _ 127 _ rfl rfl (heap_last2 _ _ _) Tryz.sizeLine rfl ?_) | (go_at_call 78; refine (plain_any _ _ (by unfold maxLen; omega)).mono ?_; rintro e w1 ⟨rfl, hw1⟩; rw [HP.out]; obtain ⟨q0, q1, q2, q3⟩ := two_blocks hw1; clear hw1; rw [← q3.cell (p := ⟨b, off, none⟩) hlt] at c0; rw [← q3.cell (p := ⟨b, off + 1, none⟩) hlt] at c1; rw [← q3.cell (p := ⟨b, off + 2, none⟩) hlt] at c2))
  refine region_tail 10 (by kernel_rfl) (by kernel_rfl) ?_
  simp only [List.take_succ_cons, List.take_zero, List.drop_succ_cons, List.drop_zero]
  repeat still_step
  refine wpStill_nil ?_
  refine wpList_store_all rfl 127 (.tmp 4) (.tmp 78) rfl _ 127 _ _ rfl rfl (show w1.drew.heap[w.heap.size]? = _ from q1) Tryz.sizeLine rfl rfl ?_
  go_wp2
  exact ret_cell Tryz.resSaid _ 127 _ (0, 0) _ rfl (setRow_heap _ _ _ _ _ _ (show w1.drew.heap[w.heap.size]? = _ from q1)) Tryz.underlying127 rfl Tryz.sizeLine rfl (said_plain HS rfl rfl ((only_setRow _ _ _).below q3.drew (Nat.le_refl _)))

set_option maxHeartbeats 1600000 in
set_option maxRecDepth 100000 in
theorem said_hist_no (b off cap : Nat) (l : List ByteArray) (ln : Nat) (w : World) (H : Words w b off cap l) (h2 : ¬ l.length < 2) (hSt : ((Ref.at' l 0).toList == [115, 116, 97, 116, 101]) = false) (hPa : ((Ref.at' l 0).toList == [112, 97, 114, 97, 108, 108, 101, 108]) = false) (hFi : ((Ref.at' l 0).toList == [102, 105, 110, 97, 108]) = false) (hHi : ((Ref.at' l 0).toList == [104, 105, 115, 116, 111, 114, 121]) = true) (hn : (Ref.plain (Ref.at' l 1) && (decide (l.length = 2) || Ref.deepW l)) = false) :
    Calls Tryz.prog 56 #[.slice (some ⟨b, off, none⟩) l.length cap, .int .i64 ln] w (SaidPost l ln w) := by
  have c0 := H.strs 0 H.pos
  have c1 := H.strs 1 (by omega)
  have s1 := Ref.at'_size H.sizes 1
  have hlt := H.lt
  rw [Nat.add_zero] at c0
  have HS : Hid (Ref.said l ln = Ref.noLine) := by unfold Hid; rw [Ref.said_eq_hist h2 (Ref.or3 hSt hPa hFi) hHi, hn]; rfl
  by_cases hl3 : l.length = 3
  · have c2 := H.strs 2 (by omega)
    cases hP : Ref.plain (Ref.at' l 1)
    · have HP : Hid _ := hP
      clear hP hn
      cases hDe : ((Ref.at' l 2).toList == [100, 101, 101, 112])
      · go_enter Tryz.func56, Tryz.ntmps56
        go_wp2_with (first | (refine wpList_store_same rfl 127 (.tmp 5) (.tmp 18) rfl _ 127 _ rfl rfl (heap_last2 _ _ _) Tryz.sizeLine rfl ?_) | (go_at_call 78; refine (plain_any _ _ (by unfold maxLen; omega)).mono ?_; rintro e w1 ⟨rfl, hw1⟩; rw [HP.out]; obtain ⟨q0, q1, q2, q3⟩ := two_blocks hw1; clear hw1; rw [← q3.cell (p := ⟨b, off, none⟩) hlt] at c0; rw [← q3.cell (p := ⟨b, off + 1, none⟩) hlt] at c1; rw [← q3.cell (p := ⟨b, off + 2, none⟩) hlt] at c2) | (refine wpList_load_all rfl 127 (.tmp 5) rfl _ 127 _ (0, 0) _ rfl q2 Tryz.underlying127 rfl Tryz.sizeLine ?_) | (refine wpList_store_same rfl 127 (.tmp 4) (.tmp 140) rfl _ 127 _ rfl rfl q1 Tryz.sizeLine rfl ?_))
        exact ret_cell Tryz.resSaid _ 127 _ (0, 0) _ rfl q1 Tryz.underlying127 rfl Tryz.sizeLine rfl (said_none HS q3)
      · go_enter Tryz.func56, Tryz.ntmps56
        go_wp2_with (first | (refine wpList_store_same rfl 127 (.tmp 5) (.tmp 18) rfl _ 127 _ rfl rfl (heap_last2 _ _ _) Tryz.sizeLine rfl ?_) | (go_at_call 78; refine (plain_any _ _ (by unfold maxLen; omega)).mono ?_; rintro e w1 ⟨rfl, hw1⟩; rw [HP.out]; obtain ⟨q0, q1, q2, q3⟩ := two_blocks hw1; clear hw1; rw [← q3.cell (p := ⟨b, off, none⟩) hlt] at c0; rw [← q3.cell (p := ⟨b, off + 1, none⟩) hlt] at c1; rw [← q3.cell (p := ⟨b, off + 2, none⟩) hlt] at c2) | (refine wpList_load_all rfl 127 (.tmp 5) rfl _ 127 _ (0, 0) _ rfl q2 Tryz.underlying127 rfl Tryz.sizeLine ?_) | (refine wpList_store_same rfl 127 (.tmp 4) (.tmp 140) rfl _ 127 _ rfl rfl q1 Tryz.sizeLine rfl ?_))
        exact ret_cell Tryz.resSaid _ 127 _ (0, 0) _ rfl q1 Tryz.underlying127 rfl Tryz.sizeLine rfl (said_none HS q3)
    · rw [hP, Bool.true_and, decide_eq_false (show ¬ l.length = 2 by omega), Bool.false_or, Ref.deepW, decide_eq_true hl3, Bool.true_and] at hn
      have hDe : ((Ref.at' l 2).toList == [100, 101, 101, 112]) = false := hn
      have HP : Hid _ := hP
      clear hP hn
      go_enter Tryz.func56, Tryz.ntmps56
      go_wp2_with (first | (refine wpList_store_same rfl 127 (.tmp 5) (.tmp 18) rfl _ 127 _ rfl rfl (heap_last2 _ _ _) Tryz.sizeLine rfl ?_) | (go_at_call 78; refine (plain_any _ _ (by unfold maxLen; omega)).mono ?_; rintro e w1 ⟨rfl, hw1⟩; rw [HP.out]; obtain ⟨q0, q1, q2, q3⟩ := two_blocks hw1; clear hw1; rw [← q3.cell (p := ⟨b, off, none⟩) hlt] at c0; rw [← q3.cell (p := ⟨b, off + 1, none⟩) hlt] at c1; rw [← q3.cell (p := ⟨b, off + 2, none⟩) hlt] at c2) | (refine wpList_load_all rfl 127 (.tmp 5) rfl _ 127 _ (0, 0) _ rfl q2 Tryz.underlying127 rfl Tryz.sizeLine ?_) | (refine wpList_store_same rfl 127 (.tmp 4) (.tmp 140) rfl _ 127 _ rfl rfl q1 Tryz.sizeLine rfl ?_))
      exact ret_cell Tryz.resSaid _ 127 _ (0, 0) _ rfl q1 Tryz.underlying127 rfl Tryz.sizeLine rfl (said_none HS q3)
  · cases hP : Ref.plain (Ref.at' l 1)
    · have HP : Hid _ := hP
      clear hP hn
      go_enter Tryz.func56, Tryz.ntmps56
      go_wp2_with (first | (refine wpList_store_same rfl 127 (.tmp 5) (.tmp 18) rfl _ 127 _ rfl rfl (heap_last2 _ _ _) Tryz.sizeLine rfl ?_) | (go_at_call 78; refine (plain_any _ _ (by unfold maxLen; omega)).mono ?_; rintro e w1 ⟨rfl, hw1⟩; rw [HP.out]; obtain ⟨q0, q1, q2, q3⟩ := two_blocks hw1; clear hw1; rw [← q3.cell (p := ⟨b, off, none⟩) hlt] at c0; rw [← q3.cell (p := ⟨b, off + 1, none⟩) hlt] at c1) | (refine wpList_load_all rfl 127 (.tmp 5) rfl _ 127 _ (0, 0) _ rfl q2 Tryz.underlying127 rfl Tryz.sizeLine ?_) | (refine wpList_store_same rfl 127 (.tmp 4) (.tmp 140) rfl _ 127 _ rfl rfl q1 Tryz.sizeLine rfl ?_))
      exact ret_cell Tryz.resSaid _ 127 _ (0, 0) _ rfl q1 Tryz.underlying127 rfl Tryz.sizeLine rfl (said_none HS q3)
    · rw [hP, Bool.true_and, Bool.or_eq_false_iff, decide_eq_false_iff_not] at hn
      have hl2 := hn.1
      have HP : Hid _ := hP
      clear hP hn
      go_enter Tryz.func56, Tryz.ntmps56
      go_wp2_with (first | (refine wpList_store_same rfl 127 (.tmp 5) (.tmp 18) rfl _ 127 _ rfl rfl (heap_last2 _ _ _) Tryz.sizeLine rfl ?_) | (go_at_call 78; refine (plain_any _ _ (by unfold maxLen; omega)).mono ?_; rintro e w1 ⟨rfl, hw1⟩; rw [HP.out]; obtain ⟨q0, q1, q2, q3⟩ := two_blocks hw1; clear hw1; rw [← q3.cell (p := ⟨b, off, none⟩) hlt] at c0; rw [← q3.cell (p := ⟨b, off + 1, none⟩) hlt] at c1) | (refine wpList_load_all rfl 127 (.tmp 5) rfl _ 127 _ (0, 0) _ rfl q2 Tryz.underlying127 rfl Tryz.sizeLine ?_) | (refine wpList_store_same rfl 127 (.tmp 4) (.tmp 140) rfl _ 127 _ rfl rfl q1 Tryz.sizeLine rfl ?_))
      exact ret_cell Tryz.resSaid _ 127 _ (0, 0) _ rfl q1 Tryz.underlying127 rfl Tryz.sizeLine rfl (said_none HS q3)

set_option maxHeartbeats 1600000 in
set_option maxRecDepth 100000 in
theorem said_else (b off cap : Nat) (l : List ByteArray) (ln : Nat) (w : World) (H : Words w b off cap l) (h2 : ¬ l.length < 2) (hSt : ((Ref.at' l 0).toList == [115, 116, 97, 116, 101]) = false) (hPa : ((Ref.at' l 0).toList == [112, 97, 114, 97, 108, 108, 101, 108]) = false) (hFi : ((Ref.at' l 0).toList == [102, 105, 110, 97, 108]) = false) (hHi : ((Ref.at' l 0).toList == [104, 105, 115, 116, 111, 114, 121]) = false) (hOn : ((Ref.at' l 0).toList == [111, 110]) = false) (hAf : ((Ref.at' l 0).toList == [97, 102, 116, 101, 114]) = false) (hEn : ((Ref.at' l 0).toList == [101, 110, 116, 101, 114]) = false) (hLe : ((Ref.at' l 0).toList == [108, 101, 97, 118, 101]) = false) :
    Calls Tryz.prog 56 #[.slice (some ⟨b, off, none⟩) l.length cap, .int .i64 ln] w (SaidPost l ln w) := by
  have c0 := H.strs 0 H.pos
  have c1 := H.strs 1 (by omega)
  have s1 := Ref.at'_size H.sizes 1
  have hlt := H.lt
  rw [Nat.add_zero] at c0
  have HS : Hid (Ref.said l ln = Ref.noLine) := Ref.said_eq_else h2 (Ref.or3 hSt hPa hFi) hHi hOn hAf (by rw [show Ref.is l 0 Ref.cEnter = false from hEn, show Ref.is l 0 Ref.cLeave = false from hLe]; rfl)
  go_enter Tryz.func56, Tryz.ntmps56
  go_wp2_with (first | (refine wpList_store_same rfl 127 (.tmp 5) (.tmp 18) rfl _ 127 _ rfl rfl (heap_last2 _ _ _) Tryz.sizeLine rfl ?_) | (go_at_call 78; refine (plain_any _ _ (by unfold maxLen; omega)).mono ?_; rintro e w1 ⟨rfl, hw1⟩; obtain ⟨q0, q1, q2, q3⟩ := two_blocks hw1; clear hw1; rw [← q3.cell (p := ⟨b, off, none⟩) hlt] at c0; rw [← q3.cell (p := ⟨b, off + 1, none⟩) hlt] at c1) | (refine wpList_load_all rfl 127 (.tmp 5) rfl _ 127 _ (0, 0) _ rfl q2 Tryz.underlying127 rfl Tryz.sizeLine ?_) | (refine wpList_store_same rfl 127 (.tmp 4) (.tmp 140) rfl _ 127 _ rfl rfl q1 Tryz.sizeLine rfl ?_))
  exact ret_cell Tryz.resSaid _ 127 _ (0, 0) _ rfl q1 Tryz.underlying127 rfl Tryz.sizeLine rfl (said_none HS q3)
end Go.Proofs.YtegmoddppafkfaaGreatDoor
namespace Go.Proofs.YtegmoddppafkfaaGreatDoor
open Go.RowKit
open Go.PlainAid (bt get_bt bt_nonneg bt_le bt_end)

set_option maxHeartbeats 1600000 in
set_option maxRecDepth 100000 in
theorem said_on (b off cap : Nat) (l : List ByteArray) (ln : Nat) (w : World) (H : Words w b off cap l) (h2 : ¬ l.length < 2) (hSt : ((Ref.at' l 0).toList == [115, 116, 97, 116, 101]) = false) (hPa : ((Ref.at' l 0).toList == [112, 97, 114, 97, 108, 108, 101, 108]) = false) (hFi : ((Ref.at' l 0).toList == [102, 105, 110, 97, 108]) = false) (hHi : ((Ref.at' l 0).toList == [104, 105, 115, 116, 111, 114, 121]) = false) (hOn : ((Ref.at' l 0).toList == [111, 110]) = true) :
    Calls Tryz.prog 56 #[.slice (some ⟨b, off, none⟩) l.length cap, .int .i64 ln] w (SaidPost l ln w) := by
  have c0 := H.strs 0 H.pos
  have c1 := H.strs 1 (by omega)
  have s1 := Ref.at'_size H.sizes 1
  have hlt := H.lt
  rw [Nat.add_zero] at c0
  cases hAw : Ref.awaited (Ref.at' l 1)
  · have HAw : Hid _ := hAw
    clear hAw
    go_enter Tryz.func56, Tryz.ntmps56
    go_wp2_with (first | (refine wpList_store_same rfl 127 (.tmp 5) (.tmp 18) rfl _ 127 _ rfl rfl (heap_last2 _ _ _) Tryz.sizeLine rfl ?_) | (go_at_call 78; refine (plain_any _ _ (by unfold maxLen; omega)).mono ?_; rintro e w1 ⟨rfl, hw1⟩; obtain ⟨q0, q1, q2, q3⟩ := two_blocks hw1; clear hw1; have Q0 : Hid _ := q0; have hlt1 : b < w1.heap.size := (by omega); clear q0; rw [← q3.cell (p := ⟨b, off, none⟩) hlt] at c0; rw [← q3.cell (p := ⟨b, off + 1, none⟩) hlt] at c1) | (refine wpList_store_new rfl 120 (.tmp 8) (.tmp 85) rfl 120 _ _ rfl rfl Tryz.sizeMove rfl rfl ?_) | (go_at_call 79; refine (awaited_any _ _ (by unfold maxLen; omega)).mono ?_; rintro e w' ⟨rfl, hw'⟩; rw [hw', HAw.out]; clear hw' w'))
    all_goals
      rw [show l.length - 2 = (l.drop 2).length from by simp]
      refine (moved_any w1.heap.size (Ref.at' l 1) false 0 ln _ b (off + 2) _ (l.drop 2) _ (heap_alloc_new w1 _) (by omega) (fun h => by first | rfl | (exfalso; have := H.cap; simp at h; omega)) ((H.strs.drop 2).below (q3.alloc (by have := Q0.out; omega) _) hlt) (fun x hx => H.sizes x (List.mem_of_mem_drop hx)) (by have := H.len; simp; omega) (by have := H.cap; simp; omega)).mono ?_
      rintro e w2 ⟨hb2, hR⟩
      have q0 := Q0.out
      have q1' := hb2.block w.heap.size (by omega)
      rw [Below.heap_alloc _ _ _ (by omega), q1] at q1'
      have q2' := hb2.block (w.heap.size + 1) (by omega)
      rw [Below.heap_alloc _ _ _ (by omega), q2] at q2'
      have q3' : Below w.heap.size w w2 := (q3.alloc (by omega) _).trans (hb2.mono (by omega))
      clear c0 c1 q1 q2 q0
      rcases hR with ⟨hN, rfl⟩ | ⟨to, A, v, hS, rfl, hm2, hown⟩
      · have HS : Hid (Ref.said l ln = Ref.noLine) := by unfold Hid; rw [Ref.said_eq_on h2 (Ref.or3 hSt hPa hFi) hHi hOn, hN]
        clear hN
        go_wp2_with (first | (refine wpList_load_all rfl 127 (.tmp 5) rfl _ 127 _ (0, 0) _ rfl q2' Tryz.underlying127 rfl Tryz.sizeLine ?_) | (refine wpList_store_same rfl 127 (.tmp 4) (.tmp 140) rfl _ 127 _ rfl rfl q1' Tryz.sizeLine rfl ?_))
        exact ret_cell Tryz.resSaid _ 127 _ (0, 0) _ rfl q1' Tryz.underlying127 rfl Tryz.sizeLine rfl (said_none HS q3')
      · have HS : Hid (Ref.said l ln = Ref.noLine) := by unfold Hid; rw [Ref.said_eq_on h2 (Ref.or3 hSt hPa hFi) hHi hOn, hS]; exact if_neg (Ref.notTrue HAw.out)
        clear hS
        go_wp2_with (first | (refine wpList_load_all rfl 127 (.tmp 5) rfl _ 127 _ (0, 0) _ rfl q2' Tryz.underlying127 rfl Tryz.sizeLine ?_) | (refine wpList_store_same rfl 127 (.tmp 4) (.tmp 140) rfl _ 127 _ rfl rfl q1' Tryz.sizeLine rfl ?_))
        exact ret_cell Tryz.resSaid _ 127 _ (0, 0) _ rfl q1' Tryz.underlying127 rfl Tryz.sizeLine rfl (said_none HS q3')
  · have HAw : Hid _ := hAw
    clear hAw
    go_enter Tryz.func56, Tryz.ntmps56
    go_wp2_with (first | (refine wpList_store_same rfl 127 (.tmp 5) (.tmp 18) rfl _ 127 _ rfl rfl (heap_last2 _ _ _) Tryz.sizeLine rfl ?_) | (go_at_call 78; refine (plain_any _ _ (by unfold maxLen; omega)).mono ?_; rintro e w1 ⟨rfl, hw1⟩; obtain ⟨q0, q1, q2, q3⟩ := two_blocks hw1; clear hw1; have Q0 : Hid _ := q0; have hlt1 : b < w1.heap.size := (by omega); clear q0; rw [← q3.cell (p := ⟨b, off, none⟩) hlt] at c0; rw [← q3.cell (p := ⟨b, off + 1, none⟩) hlt] at c1) | (refine wpList_store_new rfl 120 (.tmp 8) (.tmp 85) rfl 120 _ _ rfl rfl Tryz.sizeMove rfl rfl ?_) | (go_at_call 79; refine (awaited_any _ _ (by unfold maxLen; omega)).mono ?_; rintro e w' ⟨rfl, hw'⟩; rw [hw', HAw.out]; clear hw' w'))
    all_goals
      rw [show l.length - 2 = (l.drop 2).length from by simp]
      refine (moved_any w1.heap.size (Ref.at' l 1) false 0 ln _ b (off + 2) _ (l.drop 2) _ (heap_alloc_new w1 _) (by omega) (fun h => by first | rfl | (exfalso; have := H.cap; simp at h; omega)) ((H.strs.drop 2).below (q3.alloc (by have := Q0.out; omega) _) hlt) (fun x hx => H.sizes x (List.mem_of_mem_drop hx)) (by have := H.len; simp; omega) (by have := H.cap; simp; omega)).mono ?_
      rintro e w2 ⟨hb2, hR⟩
      have q0 := Q0.out
      have q1' := hb2.block w.heap.size (by omega)
      rw [Below.heap_alloc _ _ _ (by omega), q1] at q1'
      have q2' := hb2.block (w.heap.size + 1) (by omega)
      rw [Below.heap_alloc _ _ _ (by omega), q2] at q2'
      have q3' : Below w.heap.size w w2 := (q3.alloc (by omega) _).trans (hb2.mono (by omega))
      clear c0 c1 q1 q2 q0
      rcases hR with ⟨hN, rfl⟩ | ⟨to, A, v, hS, rfl, hm2, hown⟩
      · have HS : Hid (Ref.said l ln = Ref.noLine) := by unfold Hid; rw [Ref.said_eq_on h2 (Ref.or3 hSt hPa hFi) hHi hOn, hN]
        clear hN
        go_wp2_with (first | (refine wpList_load_all rfl 127 (.tmp 5) rfl _ 127 _ (0, 0) _ rfl q2' Tryz.underlying127 rfl Tryz.sizeLine ?_) | (refine wpList_store_same rfl 127 (.tmp 4) (.tmp 140) rfl _ 127 _ rfl rfl q1' Tryz.sizeLine rfl ?_))
        exact ret_cell Tryz.resSaid _ 127 _ (0, 0) _ rfl q1' Tryz.underlying127 rfl Tryz.sizeLine rfl (said_none HS q3')
      · have HS : Hid (Ref.said l ln = ⟨109, ByteArray.empty, ByteArray.empty, false, 0, ⟨(Ref.at' l 1), to, false, 0, A, ln⟩, []⟩) := by unfold Hid; rw [Ref.said_eq_on h2 (Ref.or3 hSt hPa hFi) hHi hOn, hS]; exact if_pos HAw.out
        clear hS
        obtain ⟨va, vn, vc, hv⟩ := Ref.own_slice hown
        subst hv
        unfold Ref.moveCells at hm2
        go_wp2_with (first | (refine wpList_load_all rfl 120 (.tmp 8) rfl _ 120 _ (0, 0) _ rfl hm2 Tryz.underlying120 rfl Tryz.sizeMove ?_) | (refine wpList_store_all rfl 127 (.tmp 4) (.tmp 98) rfl _ 127 _ _ rfl rfl q1' Tryz.sizeLine rfl rfl ?_))
        refine ret_cell Tryz.resSaid _ 127 _ (0, 0) _ rfl (setRow_heap _ _ _ _ _ _ q1') Tryz.underlying127 rfl Tryz.sizeLine rfl ?_
        refine ⟨(only_setRow _ _ _).below q3' (Nat.le_refl _), .slice va vn vc, .slice none 0 0, by rw [HS.out]; rfl, ?_, by rw [HS.out]; exact World.ownsRow_nil _ _ _ _⟩
        rw [HS.out]
        exact own_mono (own_only hown (only_setRow _ _ _) (by have := Q0.out; simp; omega)) (by have := Q0.out; simp; omega)
end Go.Proofs.YtegmoddppafkfaaGreatDoor
namespace Go.Proofs.YtegmoddppafkfaaGreatDoor
open Go.RowKit
open Go.PlainAid (bt get_bt bt_nonneg bt_le bt_end)

set_option maxHeartbeats 1600000 in
set_option maxRecDepth 100000 in
theorem said_after (b off cap : Nat) (l : List ByteArray) (ln : Nat) (w : World) (H : Words w b off cap l) (h2 : ¬ l.length < 2) (hSt : ((Ref.at' l 0).toList == [115, 116, 97, 116, 101]) = false) (hPa : ((Ref.at' l 0).toList == [112, 97, 114, 97, 108, 108, 101, 108]) = false) (hFi : ((Ref.at' l 0).toList == [102, 105, 110, 97, 108]) = false) (hHi : ((Ref.at' l 0).toList == [104, 105, 115, 116, 111, 114, 121]) = false) (hOn : ((Ref.at' l 0).toList == [111, 110]) = false) (hAf : ((Ref.at' l 0).toList == [97, 102, 116, 101, 114]) = true) (hln : ln ≤ 1073741824) :
    Calls Tryz.prog 56 #[.slice (some ⟨b, off, none⟩) l.length cap, .int .i64 ln] w (SaidPost l ln w) := by
  have c0 := H.strs 0 H.pos
  have c1 := H.strs 1 (by omega)
  have s1 := Ref.at'_size H.sizes 1
  have hlt := H.lt
  rw [Nat.add_zero] at c0
  have hds : (Ref.dec ln).size ≤ 20 := Ref.dec_size20 (by omega)
  cases hAw : Ref.digOk (Ref.at' l 1)
  · have HAw : Hid _ := hAw
    clear hAw
    go_enter Tryz.func56, Tryz.ntmps56
    go_wp2_with (first | (refine wpList_store_same rfl 127 (.tmp 5) (.tmp 18) rfl _ 127 _ rfl rfl (heap_last2 _ _ _) Tryz.sizeLine rfl ?_) | (go_at_call 78; refine (plain_any _ _ (by unfold maxLen; omega)).mono ?_; rintro e w1 ⟨rfl, hw1⟩; obtain ⟨q0, q1, q2, q3⟩ := two_blocks hw1; clear hw1; have Q0 : Hid _ := q0; have hlt1 : b < w1.heap.size := (by omega); clear q0; rw [← q3.cell (p := ⟨b, off, none⟩) hlt] at c0; rw [← q3.cell (p := ⟨b, off + 1, none⟩) hlt] at c1) | (refine wpList_store_new rfl 120 (.tmp 14) (.tmp 114) rfl 120 _ _ rfl rfl Tryz.sizeMove rfl rfl ?_) | (go_at_call 82; refine (digits_any _ _ (by unfold maxLen; omega)).mono ?_; rintro e w' ⟨rfl, hw'⟩; rw [hw', HAw.out]; clear hw' w') | (go_at_call 81; refine (decimal_any ln _ (by omega)).mono ?_; rintro e w' ⟨rfl, hw'⟩; rw [hw']; clear hw' w'))
    all_goals
      rw [show l.length - 2 = (l.drop 2).length from by simp]
      refine (moved_any w1.heap.size (Ref.kAfter ++ Ref.dec ln) true (Ref.digVal (Ref.at' l 1)) ln _ b (off + 2) _ (l.drop 2) _ (heap_alloc_new w1 _) (by omega) (fun h => by first | rfl | (exfalso; have := H.cap; simp at h; omega)) ((H.strs.drop 2).below (q3.alloc (by have := Q0.out; omega) _) hlt) (fun x hx => H.sizes x (List.mem_of_mem_drop hx)) (by have := H.len; simp; omega) (by have := H.cap; simp; omega)).mono ?_
      rintro e w2 ⟨hb2, hR⟩
      have q0 := Q0.out
      have q1' := hb2.block w.heap.size (by omega)
      rw [Below.heap_alloc _ _ _ (by omega), q1] at q1'
      have q2' := hb2.block (w.heap.size + 1) (by omega)
      rw [Below.heap_alloc _ _ _ (by omega), q2] at q2'
      have q3' : Below w.heap.size w w2 := (q3.alloc (by omega) _).trans (hb2.mono (by omega))
      clear c0 c1 q1 q2 q0
      rcases hR with ⟨hN, rfl⟩ | ⟨to, A, v, hS, rfl, hm2, hown⟩
      · have HS : Hid (Ref.said l ln = Ref.noLine) := by unfold Hid; rw [Ref.said_eq_after h2 (Ref.or3 hSt hPa hFi) hHi hOn hAf, hN]
        clear hN
        go_wp2_with (first | (refine wpList_load_all rfl 127 (.tmp 5) rfl _ 127 _ (0, 0) _ rfl q2' Tryz.underlying127 rfl Tryz.sizeLine ?_) | (refine wpList_store_same rfl 127 (.tmp 4) (.tmp 140) rfl _ 127 _ rfl rfl q1' Tryz.sizeLine rfl ?_))
        exact ret_cell Tryz.resSaid _ 127 _ (0, 0) _ rfl q1' Tryz.underlying127 rfl Tryz.sizeLine rfl (said_none HS q3')
      · have HS : Hid (Ref.said l ln = Ref.noLine) := by unfold Hid; rw [Ref.said_eq_after h2 (Ref.or3 hSt hPa hFi) hHi hOn hAf, hS]; exact if_neg (Ref.notTrue HAw.out)
        clear hS
        go_wp2_with (first | (refine wpList_load_all rfl 127 (.tmp 5) rfl _ 127 _ (0, 0) _ rfl q2' Tryz.underlying127 rfl Tryz.sizeLine ?_) | (refine wpList_store_same rfl 127 (.tmp 4) (.tmp 140) rfl _ 127 _ rfl rfl q1' Tryz.sizeLine rfl ?_))
        exact ret_cell Tryz.resSaid _ 127 _ (0, 0) _ rfl q1' Tryz.underlying127 rfl Tryz.sizeLine rfl (said_none HS q3')
  · have HAw : Hid _ := hAw
    clear hAw
    go_enter Tryz.func56, Tryz.ntmps56
    go_wp2_with (first | (refine wpList_store_same rfl 127 (.tmp 5) (.tmp 18) rfl _ 127 _ rfl rfl (heap_last2 _ _ _) Tryz.sizeLine rfl ?_) | (go_at_call 78; refine (plain_any _ _ (by unfold maxLen; omega)).mono ?_; rintro e w1 ⟨rfl, hw1⟩; obtain ⟨q0, q1, q2, q3⟩ := two_blocks hw1; clear hw1; have Q0 : Hid _ := q0; have hlt1 : b < w1.heap.size := (by omega); clear q0; rw [← q3.cell (p := ⟨b, off, none⟩) hlt] at c0; rw [← q3.cell (p := ⟨b, off + 1, none⟩) hlt] at c1) | (refine wpList_store_new rfl 120 (.tmp 14) (.tmp 114) rfl 120 _ _ rfl rfl Tryz.sizeMove rfl rfl ?_) | (go_at_call 82; refine (digits_any _ _ (by unfold maxLen; omega)).mono ?_; rintro e w' ⟨rfl, hw'⟩; rw [hw', HAw.out]; clear hw' w') | (go_at_call 81; refine (decimal_any ln _ (by omega)).mono ?_; rintro e w' ⟨rfl, hw'⟩; rw [hw']; clear hw' w'))
    all_goals
      rw [show l.length - 2 = (l.drop 2).length from by simp]
      refine (moved_any w1.heap.size (Ref.kAfter ++ Ref.dec ln) true (Ref.digVal (Ref.at' l 1)) ln _ b (off + 2) _ (l.drop 2) _ (heap_alloc_new w1 _) (by omega) (fun h => by first | rfl | (exfalso; have := H.cap; simp at h; omega)) ((H.strs.drop 2).below (q3.alloc (by have := Q0.out; omega) _) hlt) (fun x hx => H.sizes x (List.mem_of_mem_drop hx)) (by have := H.len; simp; omega) (by have := H.cap; simp; omega)).mono ?_
      rintro e w2 ⟨hb2, hR⟩
      have q0 := Q0.out
      have q1' := hb2.block w.heap.size (by omega)
      rw [Below.heap_alloc _ _ _ (by omega), q1] at q1'
      have q2' := hb2.block (w.heap.size + 1) (by omega)
      rw [Below.heap_alloc _ _ _ (by omega), q2] at q2'
      have q3' : Below w.heap.size w w2 := (q3.alloc (by omega) _).trans (hb2.mono (by omega))
      clear c0 c1 q1 q2 q0
      rcases hR with ⟨hN, rfl⟩ | ⟨to, A, v, hS, rfl, hm2, hown⟩
      · have HS : Hid (Ref.said l ln = Ref.noLine) := by unfold Hid; rw [Ref.said_eq_after h2 (Ref.or3 hSt hPa hFi) hHi hOn hAf, hN]
        clear hN
        go_wp2_with (first | (refine wpList_load_all rfl 127 (.tmp 5) rfl _ 127 _ (0, 0) _ rfl q2' Tryz.underlying127 rfl Tryz.sizeLine ?_) | (refine wpList_store_same rfl 127 (.tmp 4) (.tmp 140) rfl _ 127 _ rfl rfl q1' Tryz.sizeLine rfl ?_))
        exact ret_cell Tryz.resSaid _ 127 _ (0, 0) _ rfl q1' Tryz.underlying127 rfl Tryz.sizeLine rfl (said_none HS q3')
      · have HS : Hid (Ref.said l ln = ⟨109, ByteArray.empty, ByteArray.empty, false, 0, ⟨(Ref.kAfter ++ Ref.dec ln), to, true, (Ref.digVal (Ref.at' l 1)), A, ln⟩, []⟩) := by unfold Hid; rw [Ref.said_eq_after h2 (Ref.or3 hSt hPa hFi) hHi hOn hAf, hS]; exact if_pos HAw.out
        clear hS
        obtain ⟨va, vn, vc, hv⟩ := Ref.own_slice hown
        subst hv
        unfold Ref.moveCells at hm2
        go_wp2_with (first | (refine wpList_load_all rfl 120 (.tmp 14) rfl _ 120 _ (0, 0) _ rfl hm2 Tryz.underlying120 rfl Tryz.sizeMove ?_) | (refine wpList_store_all rfl 127 (.tmp 4) (.tmp 123) rfl _ 127 _ _ rfl rfl q1' Tryz.sizeLine rfl rfl ?_))
        refine ret_cell Tryz.resSaid _ 127 _ (0, 0) _ rfl (setRow_heap _ _ _ _ _ _ q1') Tryz.underlying127 rfl Tryz.sizeLine rfl ?_
        refine ⟨(only_setRow _ _ _).below q3' (Nat.le_refl _), .slice va vn vc, .slice none 0 0, by rw [HS.out]; rfl, ?_, by rw [HS.out]; exact World.ownsRow_nil _ _ _ _⟩
        rw [HS.out]
        exact own_mono (own_only hown (only_setRow _ _ _) (by have := Q0.out; simp; omega)) (by have := Q0.out; simp; omega)
end Go.Proofs.YtegmoddppafkfaaGreatDoor
namespace Go.Proofs.YtegmoddppafkfaaGreatDoor
open Go.RowKit
open Go.PlainAid (bt get_bt bt_nonneg bt_le bt_end)

theorem size_of_list {s : ByteArray} {l : List UInt8} (h : (s.toList == l) = true) : s.size = l.length := by
  rw [beq_iff_eq, Lib.toList_data] at h
  show s.data.size = _
  rw [← Array.length_toList, h]

set_option maxHeartbeats 1600000 in
set_option maxRecDepth 100000 in
theorem said_enter (b off cap : Nat) (l : List ByteArray) (ln : Nat) (w : World) (H : Words w b off cap l) (h2 : ¬ l.length < 2) (hSt : ((Ref.at' l 0).toList == [115, 116, 97, 116, 101]) = false) (hPa : ((Ref.at' l 0).toList == [112, 97, 114, 97, 108, 108, 101, 108]) = false) (hFi : ((Ref.at' l 0).toList == [102, 105, 110, 97, 108]) = false) (hHi : ((Ref.at' l 0).toList == [104, 105, 115, 116, 111, 114, 121]) = false) (hOn : ((Ref.at' l 0).toList == [111, 110]) = false) (hAf : ((Ref.at' l 0).toList == [97, 102, 116, 101, 114]) = false) (hEn : ((Ref.at' l 0).toList == [101, 110, 116, 101, 114]) = true) :
    Calls Tryz.prog 56 #[.slice (some ⟨b, off, none⟩) l.length cap, .int .i64 ln] w (SaidPost l ln w) := by
  have c0 := H.strs 0 H.pos
  have c1 := H.strs 1 (by omega)
  have s1 := Ref.at'_size H.sizes 1
  have hlt := H.lt
  rw [Nat.add_zero] at c0
  have hs5 : 0 < (Ref.at' l 0).size := by rw [size_of_list hEn]; decide
  have hbt := get_bt (Ref.at' l 0)
  go_enter Tryz.func56, Tryz.ntmps56
  go_wp2_with (first | (refine wpList_store_same rfl 127 (.tmp 5) (.tmp 18) rfl _ 127 _ rfl rfl (heap_last2 _ _ _) Tryz.sizeLine rfl ?_) | (go_at_call 78; refine (plain_any _ _ (by unfold maxLen; omega)).mono ?_; rintro e w1 ⟨rfl, hw1⟩; obtain ⟨q0, q1, q2, q3⟩ := two_blocks hw1; clear hw1; have Q0 : Hid _ := q0; have hlt1 : b < w1.heap.size := (by omega); clear q0; rw [← q3.cell (p := ⟨b, off, none⟩) hlt] at c0; rw [← q3.cell (p := ⟨b, off + 1, none⟩) hlt] at c1))
  all_goals
    rw [show l.length - 1 = (l.drop 1).length from by simp]
    refine (acts_any _ b (off + 1) _ (l.drop 1) _ (fun h => by first | rfl | (exfalso; have := H.cap; simp at h; omega)) (by omega) ((H.strs.drop 1).below q3 hlt) (fun x hx => H.sizes x (List.mem_of_mem_drop hx)) (by have := H.len; simp; omega) (by have := H.cap; simp; omega)).mono ?_
    rintro e w2 ⟨hb2, hR⟩
    have q0 := Q0.out
    have q1' := hb2.block w.heap.size (by omega)
    rw [q1] at q1'
    have q2' := hb2.block (w.heap.size + 1) (by omega)
    rw [q2] at q2'
    have q3' : Below w.heap.size w w2 := q3.trans (hb2.mono (by omega))
    rw [← hb2.cell (p := ⟨b, off, none⟩) (by omega)] at c0
    clear c1 q1 q2 q0
    rcases hR with ⟨hN, rfl⟩ | ⟨A, v, hS, rfl, hown⟩
    · have HS : Hid (Ref.said l ln = Ref.noLine) := by unfold Hid; rw [Ref.said_eq_do h2 (Ref.or3 hSt hPa hFi) hHi hOn hAf (by rw [show Ref.is l 0 Ref.cEnter = true from hEn]; rfl), hN]
      clear hN
      go_wp2_with (first | (refine wpList_load_all rfl 127 (.tmp 5) rfl _ 127 _ (0, 0) _ rfl q2' Tryz.underlying127 rfl Tryz.sizeLine ?_) | (refine wpList_store_same rfl 127 (.tmp 4) (.tmp 140) rfl _ 127 _ rfl rfl q1' Tryz.sizeLine rfl ?_))
      exact ret_cell Tryz.resSaid _ 127 _ (0, 0) _ rfl q1' Tryz.underlying127 rfl Tryz.sizeLine rfl (said_none HS q3')
    · have HS : Hid (Ref.said l ln = ⟨bt (Ref.at' l 0) 0, ByteArray.empty, ByteArray.empty, false, 0, Ref.noMove, A⟩) := by unfold Hid; rw [Ref.said_eq_do h2 (Ref.or3 hSt hPa hFi) hHi hOn hAf (by rw [show Ref.is l 0 Ref.cEnter = true from hEn]; rfl), hS]
      clear hS
      obtain ⟨va, vn, vc, hv⟩ := Ref.own_slice hown
      subst hv
      go_wp2_with (refine wpList_store_all rfl 127 (.tmp 4) (.tmp 139) rfl _ 127 _ _ rfl rfl q1' Tryz.sizeLine rfl rfl ?_)
      refine ret_cell Tryz.resSaid _ 127 _ (0, 0) _ rfl (setRow_heap _ _ _ _ _ _ q1') Tryz.underlying127 rfl Tryz.sizeLine rfl ?_
      refine ⟨(only_setRow _ _ _).below q3' (Nat.le_refl _), .slice none 0 0, .slice va vn vc, by rw [HS.out]; rfl, by rw [HS.out]; exact World.ownsRow_nil _ _ _ _, ?_⟩
      rw [HS.out]
      exact own_mono (own_only hown (only_setRow _ _ _) (by have := Q0.out; omega)) (by have := Q0.out; omega)

set_option maxHeartbeats 1600000 in
set_option maxRecDepth 100000 in
theorem said_leave (b off cap : Nat) (l : List ByteArray) (ln : Nat) (w : World) (H : Words w b off cap l) (h2 : ¬ l.length < 2) (hSt : ((Ref.at' l 0).toList == [115, 116, 97, 116, 101]) = false) (hPa : ((Ref.at' l 0).toList == [112, 97, 114, 97, 108, 108, 101, 108]) = false) (hFi : ((Ref.at' l 0).toList == [102, 105, 110, 97, 108]) = false) (hHi : ((Ref.at' l 0).toList == [104, 105, 115, 116, 111, 114, 121]) = false) (hOn : ((Ref.at' l 0).toList == [111, 110]) = false) (hAf : ((Ref.at' l 0).toList == [97, 102, 116, 101, 114]) = false) (hEn : ((Ref.at' l 0).toList == [101, 110, 116, 101, 114]) = false) (hLe : ((Ref.at' l 0).toList == [108, 101, 97, 118, 101]) = true) :
    Calls Tryz.prog 56 #[.slice (some ⟨b, off, none⟩) l.length cap, .int .i64 ln] w (SaidPost l ln w) := by
  have c0 := H.strs 0 H.pos
  have c1 := H.strs 1 (by omega)
  have s1 := Ref.at'_size H.sizes 1
  have hlt := H.lt
  rw [Nat.add_zero] at c0
  have hs5 : 0 < (Ref.at' l 0).size := by rw [size_of_list hLe]; decide
  have hbt := get_bt (Ref.at' l 0)
  go_enter Tryz.func56, Tryz.ntmps56
  go_wp2_with (first | (refine wpList_store_same rfl 127 (.tmp 5) (.tmp 18) rfl _ 127 _ rfl rfl (heap_last2 _ _ _) Tryz.sizeLine rfl ?_) | (go_at_call 78; refine (plain_any _ _ (by unfold maxLen; omega)).mono ?_; rintro e w1 ⟨rfl, hw1⟩; obtain ⟨q0, q1, q2, q3⟩ := two_blocks hw1; clear hw1; have Q0 : Hid _ := q0; have hlt1 : b < w1.heap.size := (by omega); clear q0; rw [← q3.cell (p := ⟨b, off, none⟩) hlt] at c0; rw [← q3.cell (p := ⟨b, off + 1, none⟩) hlt] at c1))
  all_goals
    rw [show l.length - 1 = (l.drop 1).length from by simp]
    refine (acts_any _ b (off + 1) _ (l.drop 1) _ (fun h => by first | rfl | (exfalso; have := H.cap; simp at h; omega)) (by omega) ((H.strs.drop 1).below q3 hlt) (fun x hx => H.sizes x (List.mem_of_mem_drop hx)) (by have := H.len; simp; omega) (by have := H.cap; simp; omega)).mono ?_
    rintro e w2 ⟨hb2, hR⟩
    have q0 := Q0.out
    have q1' := hb2.block w.heap.size (by omega)
    rw [q1] at q1'
    have q2' := hb2.block (w.heap.size + 1) (by omega)
    rw [q2] at q2'
    have q3' : Below w.heap.size w w2 := q3.trans (hb2.mono (by omega))
    rw [← hb2.cell (p := ⟨b, off, none⟩) (by omega)] at c0
    clear c1 q1 q2 q0
    rcases hR with ⟨hN, rfl⟩ | ⟨A, v, hS, rfl, hown⟩
    · have HS : Hid (Ref.said l ln = Ref.noLine) := by unfold Hid; rw [Ref.said_eq_do h2 (Ref.or3 hSt hPa hFi) hHi hOn hAf (by rw [show Ref.is l 0 Ref.cEnter = false from hEn, show Ref.is l 0 Ref.cLeave = true from hLe]; rfl), hN]
      clear hN
      go_wp2_with (first | (refine wpList_load_all rfl 127 (.tmp 5) rfl _ 127 _ (0, 0) _ rfl q2' Tryz.underlying127 rfl Tryz.sizeLine ?_) | (refine wpList_store_same rfl 127 (.tmp 4) (.tmp 140) rfl _ 127 _ rfl rfl q1' Tryz.sizeLine rfl ?_))
      exact ret_cell Tryz.resSaid _ 127 _ (0, 0) _ rfl q1' Tryz.underlying127 rfl Tryz.sizeLine rfl (said_none HS q3')
    · have HS : Hid (Ref.said l ln = ⟨bt (Ref.at' l 0) 0, ByteArray.empty, ByteArray.empty, false, 0, Ref.noMove, A⟩) := by unfold Hid; rw [Ref.said_eq_do h2 (Ref.or3 hSt hPa hFi) hHi hOn hAf (by rw [show Ref.is l 0 Ref.cEnter = false from hEn, show Ref.is l 0 Ref.cLeave = true from hLe]; rfl), hS]
      clear hS
      obtain ⟨va, vn, vc, hv⟩ := Ref.own_slice hown
      subst hv
      go_wp2_with (refine wpList_store_all rfl 127 (.tmp 4) (.tmp 139) rfl _ 127 _ _ rfl rfl q1' Tryz.sizeLine rfl rfl ?_)
      refine ret_cell Tryz.resSaid _ 127 _ (0, 0) _ rfl (setRow_heap _ _ _ _ _ _ q1') Tryz.underlying127 rfl Tryz.sizeLine rfl ?_
      refine ⟨(only_setRow _ _ _).below q3' (Nat.le_refl _), .slice none 0 0, .slice va vn vc, by rw [HS.out]; rfl, by rw [HS.out]; exact World.ownsRow_nil _ _ _ _, ?_⟩
      rw [HS.out]
      exact own_mono (own_only hown (only_setRow _ _ _) (by have := Q0.out; omega)) (by have := Q0.out; omega)
end Go.Proofs.YtegmoddppafkfaaGreatDoor
