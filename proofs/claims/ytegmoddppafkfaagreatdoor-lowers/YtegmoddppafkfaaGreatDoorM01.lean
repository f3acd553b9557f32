/-
  MY OWN TEXT.
-/
import Derived.Test.YtegmoddppafkfaaGreatDoorM00
import Derived.Test.YtegmoddppafkfaaGreatDoorSh
import Derived.Deep.LoopGhost
import Derived.Lib.ParseIntB
import Derived.Deep.QuietTactic
import Derived.BigQuiet
namespace Go.Proofs.YtegmoddppafkfaaGreatDoor
open Go.RowKit
open Go.PlainAid (bt get_bt bt_nonneg bt_le bt_end)

theorem smallLetter_any (c : Int) (w : World) : Calls Tryz.prog 272 #[.int .u8 c] w fun e w' => e = .returned (.bool (Ref.small c)) ∧ w' = w := by
  by_cases h1 : 97 ≤ c
  · by_cases h2 : c ≤ 122
    · go_enter Tryz.func272, Tryz.ntmps272
      go_wp2
      go_ret
      exact ⟨by simp [Ref.small, h1, h2], rfl⟩
    · go_enter Tryz.func272, Tryz.ntmps272
      go_wp2
      go_ret
      exact ⟨by rw [Ref.small, decide_eq_false (show ¬ c ≤ 122 by omega), Bool.and_false]; rfl, rfl⟩
  · go_enter Tryz.func272, Tryz.ntmps272
    go_wp2
    go_ret
    exact ⟨by rw [Ref.small, decide_eq_false (show ¬ 97 ≤ c by omega), Bool.false_and]; rfl, rfl⟩
theorem isDigit_any (c : Int) (w : World) : Calls Tryz.prog 273 #[.int .u8 c] w fun e w' => e = .returned (.bool (Ref.isDig c)) ∧ w' = w := by
  by_cases h1 : 48 ≤ c
  · by_cases h2 : c ≤ 57
    · go_enter Tryz.func273, Tryz.ntmps273
      go_wp2
      go_ret
      exact ⟨by simp [Ref.isDig, h1, h2], rfl⟩
    · go_enter Tryz.func273, Tryz.ntmps273
      go_wp2
      go_ret
      exact ⟨by rw [Ref.isDig, decide_eq_false (show ¬ c ≤ 57 by omega), Bool.and_false]; rfl, rfl⟩
  · go_enter Tryz.func273, Tryz.ntmps273
    go_wp2
    go_ret
    exact ⟨by rw [Ref.isDig, decide_eq_false (show ¬ 48 ≤ c by omega), Bool.false_and]; rfl, rfl⟩

namespace Ref
theorem okAt_of {s : ByteArray} {k : Nat} (h0 : small (bt s 0) = true) (h : (small (bt s k) || (isDig (bt s k) || decide (bt s k = 95))) = true) : okAt s k = true := by
  by_cases hk : k = 0
  · rw [hk, okAt_zero]; exact h0
  · unfold okAt more
    unfold isDig at h
    rw [decide_eq_true (show k ≠ 0 from hk), Bool.true_and, Bool.or_comm (decide (bt s k = 95))]
    exact h
theorem okAt_not {s : ByteArray} {k : Nat} (h1 : small (bt s k) = false) (h2 : isDig (bt s k) = false) (h3 : ¬ bt s k = 95) : okAt s k = false := by
  unfold okAt more
  unfold isDig at h2
  rw [h1, h2, decide_eq_false h3, Bool.or_false, Bool.and_false, Bool.or_false]
theorem plain_no {s : ByteArray} {k : Nat} (hk : k < s.size) (h : okAt s k = false) : plain s = false := by
  rw [plain, not_all_range hk h, Bool.false_and]
end Ref

set_option maxHeartbeats 1600000 in
theorem isName_any (s : ByteArray) (w : World) (hs : s.size ≤ maxLen) : Calls Tryz.prog 244 #[.string s] w fun e w' => e = .returned (.bool (Ref.plain s)) ∧ w' = w := by
  unfold maxLen at hs
  have hb := get_bt s
  by_cases he : s.size = 0
  · have he' : (s.toList == []) = true := by rw [beq_iff_eq, ← List.isEmpty_iff, Ref.isEmpty_eq]; exact decide_eq_true he
    have HP : Hid (Ref.plain s = false) := by unfold Hid Ref.plain; rw [decide_eq_false (show ¬ 0 < s.size by omega), Bool.false_and, Bool.and_false]
    go_enter Tryz.func244, Tryz.ntmps244
    go_wp2
    go_ret
    exact ⟨by rw [HP.out]; rfl, rfl⟩
  · have he' : (s.toList == []) = false := by
      rw [beq_eq_false_iff_ne]; intro h
      have := Ref.isEmpty_eq s
      rw [h] at this
      exact he (of_decide_eq_true this.symm)
    by_cases h8 : 8 < s.size
    · have HP : Hid (Ref.plain s = false) := by unfold Hid Ref.plain; rw [decide_eq_false (show ¬ s.size ≤ 8 by omega), Bool.and_false, Bool.and_false]
      go_enter Tryz.func244, Tryz.ntmps244
      go_wp2
      go_ret
      exact ⟨by rw [HP.out]; rfl, rfl⟩
    · cases hm : Ref.small (bt s 0)
      · have HP : Hid (Ref.plain s = false) := Ref.plain_no (k := 0) (by omega) (by rw [Ref.okAt_zero]; exact hm)
        have HM : Hid _ := hm
        clear hm
        go_enter Tryz.func244, Tryz.ntmps244
        go_wp2_with (go_at_call 272; refine (smallLetter_any _ _).mono ?_; rintro e w9 ⟨rfl, hw9⟩; rw [hw9, HM.out]; clear hw9 w9)
        go_ret
        exact ⟨by rw [HP.out]; rfl, rfl⟩
      · have HM : Hid _ := hm
        clear hm
        go_enter Tryz.func244, Tryz.ntmps244
        go_wp2_with (go_at_call 272; refine (smallLetter_any _ _).mono ?_; rintro e w9 ⟨rfl, hw9⟩; rw [hw9, HM.out]; clear hw9 w9)
        go_loop [20] (fun i => ∃ k : Nat, k ≤ s.size ∧ i = .int .i64 k ∧ ∀ j, j < k → Ref.okAt s j = true) (fun i => s.size - (intOf i).toNat)
        case atStart => exact ⟨0, Nat.zero_le _, rfl, fun _ h => by omega⟩
        case round =>
          obtain ⟨k, hk, rfl, hok⟩ := hrel
          have Hok : Hid (∀ j, j < k → Ref.okAt s j = true) := hok
          clear hok
          by_cases hlt : k < s.size
          · cases h1 : Ref.small (bt s k)
            · cases h2 : Ref.isDig (bt s k)
              · by_cases h3 : bt s k = 95
                · have HS : Hid _ := Ref.ok_snoc Hok (Ref.okAt_of HM.out (by rw [decide_eq_true h3, Bool.or_true, Bool.or_true]))
                  have H1 : Hid _ := h1
                  have H2 : Hid _ := h2
                  have h3' : (bt s k != 95) = false := by rw [h3]; rfl
                  clear h1 h2 h3
                  go_wp2_with (first | (go_at_call 272; refine (smallLetter_any _ _).mono ?_; rintro e w9 ⟨rfl, hw9⟩; rw [hw9, H1.out]; clear hw9 w9) | (go_at_call 273; refine (isDigit_any _ _).mono ?_; rintro e w9 ⟨rfl, hw9⟩; rw [hw9, H2.out]; clear hw9 w9))
                  go_round
                  case rel => exact ⟨k + 1, by omega, by go_num, HS.out⟩
                  case measure => simp [intOf]; omega
                · have HP : Hid (Ref.plain s = false) := Ref.plain_no hlt (Ref.okAt_not h1 h2 h3)
                  have H1 : Hid _ := h1
                  have H2 : Hid _ := h2
                  have h3' : (bt s k != 95) = true := by simpa using h3
                  clear h1 h2 h3
                  go_wp2_with (first | (go_at_call 272; refine (smallLetter_any _ _).mono ?_; rintro e w9 ⟨rfl, hw9⟩; rw [hw9, H1.out]; clear hw9 w9) | (go_at_call 273; refine (isDigit_any _ _).mono ?_; rintro e w9 ⟨rfl, hw9⟩; rw [hw9, H2.out]; clear hw9 w9))
                  go_ret
                  exact ⟨by rw [HP.out]; rfl, rfl⟩
              · have HS : Hid _ := Ref.ok_snoc Hok (Ref.okAt_of HM.out (by rw [h2, Bool.true_or, Bool.or_true]))
                have H1 : Hid _ := h1
                have H2 : Hid _ := h2
                clear h1 h2
                go_wp2_with (first | (go_at_call 272; refine (smallLetter_any _ _).mono ?_; rintro e w9 ⟨rfl, hw9⟩; rw [hw9, H1.out]; clear hw9 w9) | (go_at_call 273; refine (isDigit_any _ _).mono ?_; rintro e w9 ⟨rfl, hw9⟩; rw [hw9, H2.out]; clear hw9 w9))
                go_round
                case rel => exact ⟨k + 1, by omega, by go_num, HS.out⟩
                case measure => simp [intOf]; omega
            · have HS : Hid _ := Ref.ok_snoc Hok (Ref.okAt_of HM.out (by rw [h1, Bool.true_or]))
              have H1 : Hid _ := h1
              clear h1
              go_wp2_with (go_at_call 272; refine (smallLetter_any _ _).mono ?_; rintro e w9 ⟨rfl, hw9⟩; rw [hw9, H1.out]; clear hw9 w9)
              go_round
              case rel => exact ⟨k + 1, by omega, by go_num, HS.out⟩
              case measure => simp [intOf]; omega
          · obtain rfl : k = s.size := by omega
            have HP : Hid (Ref.plain s = true) := by
              unfold Hid Ref.plain; rw [Ref.all_range Hok.out, Bool.true_and, decide_eq_true (show 0 < s.size by omega), decide_eq_true (show s.size ≤ 8 by omega)]; rfl
            clear hb
            go_wp2
            go_ret
            exact ⟨by rw [HP.out]; rfl, rfl⟩
end Go.Proofs.YtegmoddppafkfaaGreatDoor
namespace Go.Proofs.YtegmoddppafkfaaGreatDoor
open Go.RowKit
open Go.PlainAid (bt get_bt bt_nonneg bt_le bt_end)

namespace Num
def isD (c : UInt8) : Bool := decide (48 ≤ c.toNat) && decide (c.toNat ≤ 57)
def num (acc : Nat) (l : List UInt8) : Nat := l.foldl (fun a c => a * 10 + (c.toNat - 48)) acc
theorem num_cons (acc : Nat) (c : UInt8) (r : List UInt8) : num acc (c :: r) = num (acc * 10 + (c.toNat - 48)) r := by unfold num; rw [List.foldl_cons]
theorem num_ge (l : List UInt8) : ∀ acc : Nat, acc ≤ num acc l := by
  induction l with
  | nil => exact fun acc => Nat.le_refl _
  | cons c r ih =>
    intro acc
    have h1 := ih (acc * 10 + (c.toNat - 48))
    rw [num_cons]
    exact Nat.le_trans (Nat.le_trans (Nat.le_mul_of_pos_right acc (by decide)) (Nat.le_add_right _ _)) h1
theorem parse_digits : ∀ (l : List UInt8) (acc : Nat), l.all isD = true → acc ≤ 18446744073709551615 → Lib.parseUintM 18446744073709551615 acc l = if num acc l ≤ 18446744073709551615 then .ok (num acc l) else .range
  | [], acc, _, h => by rw [Lib.parseUintM, if_pos (show num acc [] ≤ _ from h)]; rfl
  | c :: r, acc, hd, h => by
    rw [List.all_cons, Bool.and_eq_true] at hd
    have hc : 48 ≤ c.toNat ∧ c.toNat ≤ 57 := by simpa [isD] using hd.1
    have hg := num_ge r (acc * 10 + (c.toNat - 48))
    rw [Lib.parseUintM, if_pos hc, num_cons]
    by_cases h1 : 1844674407370955162 ≤ acc
    · rw [if_pos h1, if_neg (by omega)]
    · rw [if_neg h1]
      by_cases h2 : 18446744073709551615 < acc * 10 + (c.toNat - 48)
      · rw [if_pos h2, if_neg (by omega)]
      · rw [if_neg h2, parse_digits r _ hd.2 (by omega)]
theorem parse_ok {M u : Nat} : ∀ (l : List UInt8) (acc : Nat), Lib.parseUintM M acc l = .ok u → l.all isD = true
  | [], _, _ => rfl
  | c :: r, acc, h => by
    rw [Lib.parseUintM] at h
    by_cases hc : 48 ≤ c.toNat ∧ c.toNat ≤ 57
    · rw [if_pos hc] at h
      split at h
      · cases h
      · split at h
        · cases h
        · rw [List.all_cons, parse_ok r _ h, Bool.and_true]; simp [isD, hc]
    · rw [if_neg hc] at h; cases h
theorem num_acc : ∀ (l : List UInt8) (acc : Nat), num acc l = acc * 10 ^ l.length + num 0 l
  | [], acc => by simp [num]
  | c :: r, acc => by
    rw [num_cons, num_cons, num_acc r (acc * 10 + (c.toNat - 48)), num_acc r (0 * 10 + (c.toNat - 48)), List.length_cons, Nat.pow_succ, Nat.add_mul, Nat.zero_mul, Nat.zero_add, Nat.mul_assoc, Nat.mul_comm 10 (10 ^ r.length), Nat.add_assoc]
theorem num_head (c : UInt8) (r : List UInt8) : num 0 (c :: r) = (c.toNat - 48) * 10 ^ r.length + num 0 r := by
  rw [num_cons, num_acc, Nat.zero_mul, Nat.zero_add]
theorem num_lt : ∀ l : List UInt8, l.all isD = true → num 0 l < 10 ^ l.length
  | [], _ => by decide
  | c :: r, hd => by
    rw [List.all_cons, Bool.and_eq_true] at hd
    have hc : 48 ≤ c.toNat ∧ c.toNat ≤ 57 := by simpa [isD] using hd.1
    have ih := num_lt r hd.2
    rw [num_head, List.length_cons, Nat.pow_succ]
    have h9 : (c.toNat - 48) * 10 ^ r.length ≤ 9 * 10 ^ r.length := Nat.mul_le_mul_right _ (by omega)
    omega
theorem num_lex : ∀ a b : List UInt8, a.all isD = true → b.all isD = true → a.length = b.length → (num 0 a < num 0 b ↔ Op.bytesLess a b = true) ∧ (num 0 a = num 0 b ↔ a = b)
  | [], [], _, _, _ => ⟨by simp [num, Op.bytesLess], by simp⟩
  | [], _ :: _, _, _, h => by simp at h
  | _ :: _, [], _, _, h => by simp at h
  | x :: p, y :: q, ha, hb, h => by
    rw [List.all_cons, Bool.and_eq_true] at ha hb
    have hx : 48 ≤ x.toNat ∧ x.toNat ≤ 57 := by simpa [isD] using ha.1
    have hy : 48 ≤ y.toNat ∧ y.toNat ≤ 57 := by simpa [isD] using hb.1
    have hl : p.length = q.length := by simpa using h
    have ih := num_lex p q ha.2 hb.2 hl
    have lp := num_lt p ha.2
    have lq := num_lt q hb.2
    rw [num_head, num_head, ← hl]
    rw [← hl] at lq
    rcases Nat.lt_trichotomy x.toNat y.toNat with h1 | h1 | h1
    · have hm : (x.toNat - 48 + 1) * 10 ^ p.length ≤ (y.toNat - 48) * 10 ^ p.length := Nat.mul_le_mul_right _ (by omega)
      rw [Nat.add_mul, Nat.one_mul] at hm
      have hlt : x < y := UInt8.lt_iff_toNat_lt.2 h1
      refine ⟨⟨fun _ => by simp [Op.bytesLess, hlt], fun _ => by omega⟩, ⟨fun e => by omega, fun e => ?_⟩⟩
      cases e; omega
    · have hxy : x = y := UInt8.toNat_inj.1 h1
      subst hxy
      refine ⟨⟨fun e => ?_, fun e => ?_⟩, ⟨fun e => ?_, fun e => ?_⟩⟩
      · have := ih.1.1 (by omega)
        simp [Op.bytesLess, this]
      · have : Op.bytesLess p q = true := by simpa [Op.bytesLess] using e
        have := ih.1.2 this; omega
      · rw [ih.2.1 (by omega)]
      · cases e; rfl
    · have hm : (y.toNat - 48 + 1) * 10 ^ p.length ≤ (x.toNat - 48) * 10 ^ p.length := Nat.mul_le_mul_right _ (by omega)
      rw [Nat.add_mul, Nat.one_mul] at hm
      have hlt : ¬ x < y := fun h => by have := UInt8.lt_iff_toNat_lt.1 h; omega
      have hne : ¬ x = y := fun e => by rw [e] at h1; omega
      refine ⟨⟨fun e => by omega, fun e => ?_⟩, ⟨fun e => by omega, fun e => ?_⟩⟩
      · simp [Op.bytesLess, hlt, hne] at e
      · cases e; omega
theorem bt_get {s : ByteArray} {k : Nat} (h : k < s.data.toList.length) : bt s k = ((s.data.toList[k]).toNat : Int) := by
  have h' : k < s.size := by simpa using h
  rw [← get_bt s k h']; rfl
theorem digits_eq (s : ByteArray) : (List.range s.size).all (fun i => Ref.isDig (bt s i)) = s.data.toList.all isD := by
  rw [Bool.eq_iff_iff, List.all_eq_true, List.all_eq_true]
  have hsz : s.size = s.data.toList.length := by simp
  constructor
  · intro h c hc
    obtain ⟨k, hk, rfl⟩ := List.mem_iff_getElem.1 hc
    have := h k (List.mem_range.2 (by omega))
    rw [bt_get hk] at this
    simp only [Ref.isDig, Bool.and_eq_true, decide_eq_true_eq] at this
    simp only [isD, Bool.and_eq_true, decide_eq_true_eq]; omega
  · intro h i hi
    rw [List.mem_range] at hi
    have hk : i < s.data.toList.length := by omega
    have := h _ (List.getElem_mem hk)
    rw [bt_get hk]
    simp only [isD, Bool.and_eq_true, decide_eq_true_eq] at this
    simp only [Ref.isDig, Bool.and_eq_true, decide_eq_true_eq]; omega
theorem val_eq (s : ByteArray) : ∀ k, k ≤ s.size → Ref.val s k = num 0 (s.data.toList.take k)
  | 0, _ => rfl
  | k + 1, h => by
    have hsz : s.size = s.data.toList.length := by simp
    have hk : k < s.data.toList.length := by omega
    rw [Ref.val, val_eq s k (by omega), List.take_succ_eq_append_getElem hk, bt_get hk]
    unfold num
    rw [List.foldl_append]
    simp
theorem val_all (s : ByteArray) : Ref.val s s.size = num 0 s.data.toList := by
  rw [val_eq s s.size (Nat.le_refl _)]
  congr 1
  exact List.take_of_length_le (by simp)
theorem num_ge_pow {l : List UInt8} (hd : l.all isD = true) (hl : 1 < l.length) (h0 : ∀ c, l.head? = some c → ¬ c.toNat = 48) : 10 ^ (l.length - 1) ≤ num 0 l := by
  cases l with
  | nil => simp at hl
  | cons c r =>
    rw [List.all_cons, Bool.and_eq_true] at hd
    have hc : 48 ≤ c.toNat ∧ c.toNat ≤ 57 := by simpa [isD] using hd.1
    have := h0 c rfl
    rw [num_head, List.length_cons, Nat.add_sub_cancel]
    have hm : 1 * 10 ^ r.length ≤ (c.toNat - 48) * 10 ^ r.length := Nat.mul_le_mul_right _ (by omega)
    omega
theorem most_num : num 0 Ref.most.data.toList = 18446744073709551615 := by decide
/-- Of a number without noughts ahead: the document's reading and strconv's are one. -/
theorem num_same (s : ByteArray) (h : ¬ (1 < s.size ∧ bt s 0 = 48)) : (∀ u, Lib.parseUintB 64 s.data.toList = .ok u → Ref.digOk s = true ∧ Ref.digVal s = (u : Nat)) ∧ ((∀ u, Lib.parseUintB 64 s.data.toList ≠ .ok u) → Ref.digOk s = false) := by
  have hsz : s.size = s.data.toList.length := by simp
  have hlist : s.toList = s.data.toList := Lib.toList_data s
  by_cases hd : s.data.toList.all isD = true
  · by_cases he : s.size = 0
    · have hnil : s.data.toList = [] := List.eq_nil_of_length_eq_zero (by omega)
      refine ⟨fun u hu => ?_, fun _ => ?_⟩
      · rw [Lib.parseUintB, if_pos hnil] at hu; cases hu
      · rw [Ref.digOk, Ref.badNum, Ref.isEmpty_eq, decide_eq_true he, Bool.true_or, Bool.true_or, Bool.true_or, Bool.not_true, Bool.and_false]
    · have hne : ¬ s.data.toList = [] := fun e => he (by rw [hsz, e]; rfl)
      have hp : Lib.parseUintB 64 s.data.toList = if num 0 s.data.toList ≤ 18446744073709551615 then .ok (num 0 s.data.toList) else .range := by
        rw [Lib.parseUintB, if_neg hne]
        exact parse_digits _ 0 hd (by decide)
      have hbad : Ref.badNum s = decide (18446744073709551615 < num 0 s.data.toList) := by
        rw [Ref.badNum, Ref.isEmpty_eq, decide_eq_false he, Bool.false_or]
        have h1 : (decide (1 < s.size) && decide (bt s 0 = 48)) = false := by
          rw [Bool.and_eq_false_iff]
          by_cases h1 : 1 < s.size
          · exact .inr (decide_eq_false fun h2 => h ⟨h1, h2⟩)
          · exact .inl (decide_eq_false h1)
        rw [h1, Bool.false_or]
        rcases Nat.lt_trichotomy s.size 20 with h2 | h2 | h2
        · rw [decide_eq_false (show ¬ 20 < s.size by omega), decide_eq_false (show ¬ s.size = 20 by omega), Bool.false_and, Bool.false_or]
          symm
          apply decide_eq_false
          have := num_lt _ hd
          have hpw : (10 : Nat) ^ s.data.toList.length ≤ 10 ^ 19 := Nat.pow_le_pow_right (by decide) (by omega)
          have : (10 : Nat) ^ 19 = 10000000000000000000 := by decide
          omega
        · rw [decide_eq_false (show ¬ 20 < s.size by omega), decide_eq_true h2, Bool.true_and, Bool.false_or, hlist, Lib.toList_data Ref.most]
          have hx := num_lex s.data.toList Ref.most.data.toList hd (by decide) (by rw [← hsz, h2]; rfl)
          rw [most_num] at hx
          rw [Bool.eq_iff_iff, Bool.and_eq_true, decide_eq_true_eq, Bool.not_eq_true', Bool.not_eq_true']
          constructor
          · rintro ⟨ha, hb⟩
            have h3 : ¬ num 0 s.data.toList < 18446744073709551615 := fun e => by rw [hx.1.1 e] at ha; cases ha
            have h4 : ¬ num 0 s.data.toList = 18446744073709551615 := fun e => by rw [hx.2.1 e] at hb; simp at hb
            omega
          · intro hlt
            constructor
            · cases hb : Op.bytesLess s.data.toList Ref.most.data.toList with
              | false => rfl
              | true => have := hx.1.2 hb; omega
            · rw [beq_eq_false_iff_ne]; intro e; have := hx.2.2 e; omega
        · rw [decide_eq_true h2, Bool.true_or]
          symm
          apply decide_eq_true
          have hh : ∀ c, s.data.toList.head? = some c → ¬ c.toNat = 48 := by
            intro c hc e
            refine h ⟨by omega, ?_⟩
            have hk : 0 < s.data.toList.length := by omega
            rw [bt_get hk]
            rw [List.head?_eq_getElem?, List.getElem?_eq_getElem hk] at hc
            cases hc
            omega
          have h3 := num_ge_pow hd (by omega) hh
          have hpw : (10 : Nat) ^ 20 ≤ 10 ^ (s.data.toList.length - 1) := Nat.pow_le_pow_right (by decide) (by omega)
          have : (10 : Nat) ^ 20 = 100000000000000000000 := by decide
          omega
      have hok : Ref.digOk s = !decide (18446744073709551615 < num 0 s.data.toList) := by rw [Ref.digOk, digits_eq, hd, hbad, Bool.true_and]
      refine ⟨fun u hu => ?_, fun hu => ?_⟩
      · rw [hp] at hu
        by_cases hle : num 0 s.data.toList ≤ 18446744073709551615
        · rw [if_pos hle] at hu
          cases hu
          have h1 : Ref.digOk s = true := by rw [hok, decide_eq_false (by omega)]; rfl
          refine ⟨h1, ?_⟩
          rw [Ref.digVal, h1, if_pos rfl, val_all, Ref.m64, IntKind.wrap_u64]
          omega
        · rw [if_neg hle] at hu; cases hu
      · rw [hok]
        by_cases hle : num 0 s.data.toList ≤ 18446744073709551615
        · exact absurd (by rw [hp, if_pos hle]) (hu (num 0 s.data.toList))
        · rw [decide_eq_true (by omega)]; rfl
  · have hf : Ref.digOk s = false := by rw [Ref.digOk, digits_eq, Bool.eq_false_iff.2 hd, Bool.false_and]
    refine ⟨fun u hu => ?_, fun _ => hf⟩
    exfalso
    rw [Lib.parseUintB] at hu
    split at hu
    · cases hu
    · exact hd (parse_ok _ _ hu)
end Num
end Go.Proofs.YtegmoddppafkfaaGreatDoor
namespace Go.Proofs.YtegmoddppafkfaaGreatDoor
open Go.RowKit
open Go.PlainAid (bt get_bt bt_nonneg bt_le bt_end)

/-- strconv's two errors lie where they lie. -/
structure ErrVars (w : World) : Prop where
  syn : ∃ ev, w.cell? ⟨7, 0, none⟩ = some ev ∧ (ev = .nilIface ∨ ∃ te pe, ev = .iface te pe)
  rng : ∃ ev, w.cell? ⟨8, 0, none⟩ = some ev ∧ (ev = .nilIface ∨ ∃ te pe, ev = .iface te pe)
def NumPost (s : ByteArray) (w : World) (e : Ending) (w' : World) : Prop := Below w.heap.size w w' ∧ ∃ u : Int, e = .returned (.tuple #[.int .u64 u, .bool (Ref.digOk s)]) ∧ (Ref.digOk s = true → u = Ref.digVal s)
theorem bytesWorld_below (w : World) (t : TypeId) (s : ByteArray) : Below w.heap.size w (Lib.bytesWorld w t s) := by
  unfold Lib.bytesWorld
  exact Lib.below_freeze ((Below.drew (Below.refl _ w)).alloc (Nat.le_refl _) _) (p := ⟨w.heap.size, _, none⟩) (Nat.le_refl _) 1
theorem cell_keep {w w' : World} {p : Addr} {v : Value} (h : w.cell? p = some v) (hb : Below w.heap.size w w') : w'.cell? p = some v := by
  rw [hb.cell (World.block_lt_of_cell? w _ h)]; exact h
theorem ErrVars.keep {w w' : World} (h : ErrVars w) (hb : Below w.heap.size w w') : ErrVars w' :=
  let ⟨e1, h1, h2⟩ := h.syn
  let ⟨e3, h3, h4⟩ := h.rng
  ⟨⟨e1, cell_keep h1 hb, h2⟩, ⟨e3, cell_keep h3 hb, h4⟩⟩
theorem begins_has (s p : ByteArray) : Lib.hasPrefix s.data.toList p.data.toList = Ref.begins s p := by
  rw [← Lib.hasPrefix_raw, Ref.begins, Ref.beq_str]
theorem begins_cut {s p : ByteArray} (h : Ref.begins s p = true) : (⟨(Lib.trimPrefix s.data.toList p.data.toList).toArray⟩ : ByteArray) = s.extract p.size s.size := by
  refine Lib.trimPrefix_hit s p (Ref.begins_size h) ?_
  rw [Ref.beq_str]
  rw [Ref.begins, Bool.and_eq_true] at h
  exact h.2

set_option maxHeartbeats 1600000 in
theorem number_any (s : ByteArray) (w : World) (hs : s.size ≤ 1073741824) (hv : ErrVars w) : Calls Tryz.prog 250 #[.string s] w (NumPost s w) := by
  have hb := get_bt s
  by_cases h0 : 1 < s.size ∧ bt s 0 = 48
  · obtain ⟨h1, h2⟩ := h0
    have HD : Hid (Ref.digOk s = false) := by
      unfold Hid
      rw [Ref.digOk, Ref.badNum, decide_eq_true h1, decide_eq_true h2, Bool.true_and, Bool.or_true, Bool.true_or, Bool.true_or, Bool.not_true, Bool.and_false]
    have h2' : (bt s 0 == 48) = true := by rw [h2]; rfl
    clear h2
    go_enter Tryz.func250, Tryz.ntmps250
    go_wp2
    go_ret2
    exact ⟨Below.refl _ _, 0, by rw [HD.out]; rfl, fun h => by rw [HD.out] at h; cases h⟩
  · have HN : Hid _ := Num.num_same s h0
    have HD0 : Hid (decide (1 < s.size) = true → (bt s 0 == 48) = false) := fun h => by
      rw [beq_eq_false_iff_ne]; exact fun e => h0 ⟨of_decide_eq_true h, e⟩
    clear h0
    go_enter Tryz.func250, Tryz.ntmps250
    go_upto_region 1 with fail
    go_cut [13] (fun c wx => c = .bool false ∧ wx = w)
    case first =>
      by_cases h1 : 1 < s.size
      · have h2' := HD0.out (decide_eq_true h1)
        go_wp2
        go_meet
        case rel => exact ⟨rfl, rfl⟩
      · go_wp2
        go_meet
        case rel => exact ⟨rfl, rfl⟩
    case rest =>
      obtain ⟨rfl, hwc⟩ := hcut
      rw [hwc]
      clear hwc wc
      cases hp : Lib.parseUintB 64 s.data.toList with
      | ok u =>
        have HU : Hid _ := HN.out.1 u hp
        go_wp2_with fail
        refine (Tryz.strconv_ParseUint_10_at64_ok s (by omega) u hp _).mono ?_
        rintro e w1 ⟨rfl, hw1⟩
        have hb1 : Below w.heap.size w w1 := by
          rcases hw1 with h | h
          · rw [h]; exact Below.refl _ _
          · rw [h]; exact bytesWorld_below _ _ _
        clear hw1 hp
        dsimp only
        go_wp2
        go_quiet (fail)
        go_wp2
        go_ret2
        exact ⟨below_drewN hb1 _, u, by rw [HU.out.1]; rfl, fun _ => HU.out.2.symm⟩
      | «syntax» =>
        have HU : Hid _ := HN.out.2 (fun u h => by rw [hp] at h; cases h)
        obtain ⟨ev, hv1, hv2⟩ := hv.syn
        go_wp2_with fail
        refine (Tryz.strconv_ParseUint_10_at64_syntax s (by omega) hp ev _ hv1 hv2).mono ?_
        rintro e w1 ⟨N, rfl, hN, hcell, hb1⟩
        clear hp hcell
        dsimp only
        go_wp2
        go_quiet (fail)
        go_wp2
        go_ret2
        exact ⟨below_drewN hb1 _, 0, by rw [HU.out]; rfl, fun h => by rw [HU.out] at h; cases h⟩
      | range =>
        have HU : Hid _ := HN.out.2 (fun u h => by rw [hp] at h; cases h)
        obtain ⟨ev, hv1, hv2⟩ := hv.rng
        go_wp2_with fail
        refine (Tryz.strconv_ParseUint_10_at64_range s (by omega) hp ev _ hv1 hv2).mono ?_
        rintro e w1 ⟨N, rfl, hN, hcell, hb1⟩
        clear hp hcell
        dsimp only
        go_wp2
        go_quiet (fail)
        go_wp2
        go_ret2
        exact ⟨below_drewN hb1 _, 18446744073709551615, by rw [HU.out]; rfl, fun h => by rw [HU.out] at h; cases h⟩

set_option maxHeartbeats 1600000 in
theorem isReserved_any (s : ByteArray) (w : World) (hs : s.size ≤ 1073741824) (hv : ErrVars w) : Calls Tryz.prog 276 #[.string s] w fun e w' => e = .returned (.bool (Ref.lined s)) ∧ Below w.heap.size w w' := by
  cases hb : Ref.begins s Ref.kAfter
  · have HL : Hid (Ref.lined s = false) := by unfold Hid Ref.lined; rw [hb, Bool.false_and]
    have HB : Hid _ := (begins_has s Ref.kAfter).trans hb
    clear hb
    go_enter Tryz.func276, Tryz.ntmps276
    go_wp2_with fail
    refine (Tryz.strings_CutPrefix s Ref.kAfter _).mono ?_
    rintro e w9 ⟨rfl, hw9⟩
    rw [hw9, HB.out]
    clear hw9 w9
    dsimp only
    go_wp2
    go_ret
    exact ⟨by rw [HL.out]; rfl, Below.refl _ _⟩
  · have HL : Hid (Ref.lined s = (Ref.digOk (s.extract 6 s.size) && (decide (0 < Ref.digVal (s.extract 6 s.size)) && decide (Ref.digVal (s.extract 6 s.size) ≤ 1500)))) := by unfold Hid Ref.lined; rw [hb, Bool.true_and]
    have HB : Hid _ := (begins_has s Ref.kAfter).trans hb
    have HC : Hid ((⟨(Lib.trimPrefix s.data.toList Ref.kAfter.data.toList).toArray⟩ : ByteArray) = s.extract 6 s.size) := begins_cut hb
    have hr : (s.extract 6 s.size).size ≤ 1073741824 := by simp; omega
    clear hb
    go_enter Tryz.func276, Tryz.ntmps276
    go_wp2_with fail
    refine (Tryz.strings_CutPrefix s Ref.kAfter _).mono ?_
    rintro e w9 ⟨rfl, hw9⟩
    rw [hw9, HB.out, HC.out]
    clear hw9 w9 HC
    generalize s.extract 6 s.size = r at *
    dsimp only
    go_wp2_with fail
    refine (number_any r _ hr hv).mono ?_
    rintro e w1 ⟨hb1, u, rfl, hu⟩
    have HU : Hid _ := hu
    clear hu
    dsimp only
    cases hk : Ref.digOk r
    · have HK : Hid _ := hk
      clear hk
      go_wp2
      go_ret
      exact ⟨by rw [HL.out, HK.out]; rfl, hb1⟩
    · have HV : Hid _ := HU.out hk
      have HK : Hid _ := hk
      clear hk HU
      by_cases h1 : 1 ≤ u
      · by_cases h2 : u ≤ 1500
        · have HR : Hid (Ref.lined s = true) := by unfold Hid; rw [HL.out, HK.out, ← HV.out, decide_eq_true (show 0 < u by omega), decide_eq_true h2]; rfl
          go_wp2
          go_ret
          exact ⟨by rw [HR.out]; simp, hb1⟩
        · have HR : Hid (Ref.lined s = false) := by unfold Hid; rw [HL.out, HK.out, ← HV.out, decide_eq_false h2, Bool.and_false]; rfl
          have h2' : decide (u ≤ 1500) = false := decide_eq_false h2
          go_wp2
          go_ret
          exact ⟨by rw [HR.out]; simp, hb1⟩
      · have HR : Hid (Ref.lined s = false) := by unfold Hid; rw [HL.out, HK.out, ← HV.out, decide_eq_false (show ¬ 0 < u by omega), Bool.false_and]; rfl
        go_wp2
        go_ret
        exact ⟨by rw [HR.out]; rfl, hb1⟩

set_option maxHeartbeats 800000 in
theorem isOwnEvent_any (s : ByteArray) (w : World) (hs : s.size ≤ 1073741824) (hv : ErrVars w) : Calls Tryz.prog 248 #[.string s] w fun e w' => e = .returned (.bool (Ref.called s)) ∧ Below w.heap.size w w' := by
  cases hp : Ref.plain s
  · cases hl : Ref.lined s
    · have HC : Hid (Ref.called s = false) := by unfold Hid Ref.called; rw [hp, hl]; rfl
      have HP : Hid _ := hp
      have HL : Hid _ := hl
      clear hp hl
      go_enter Tryz.func248, Tryz.ntmps248
      go_wp2_with (first
        | (go_at_call 244; refine (isName_any s _ (by unfold maxLen; omega)).mono ?_; rintro e w9 ⟨rfl, hw9⟩; rw [hw9, HP.out]; clear hw9 w9)
        | (go_at_call 276; refine (isReserved_any s _ hs hv).mono ?_; rintro e w9 ⟨rfl, hb9⟩; rw [HL.out]))
      go_ret
      exact ⟨by rw [HC.out]; rfl, hb9⟩
    · have HC : Hid (Ref.called s = true) := by unfold Hid Ref.called; rw [hp, hl]; rfl
      have HP : Hid _ := hp
      have HL : Hid _ := hl
      clear hp hl
      go_enter Tryz.func248, Tryz.ntmps248
      go_wp2_with (first
        | (go_at_call 244; refine (isName_any s _ (by unfold maxLen; omega)).mono ?_; rintro e w9 ⟨rfl, hw9⟩; rw [hw9, HP.out]; clear hw9 w9)
        | (go_at_call 276; refine (isReserved_any s _ hs hv).mono ?_; rintro e w9 ⟨rfl, hb9⟩; rw [HL.out]))
      go_ret
      exact ⟨by rw [HC.out]; rfl, hb9⟩
  · have HC : Hid (Ref.called s = true) := by unfold Hid Ref.called; rw [hp, Bool.true_or]
    have HP : Hid _ := hp
    clear hp
    go_enter Tryz.func248, Tryz.ntmps248
    go_wp2_with (go_at_call 244; refine (isName_any s _ (by unfold maxLen; omega)).mono ?_; rintro e w9 ⟨rfl, hw9⟩; rw [hw9, HP.out]; clear hw9 w9)
    go_ret
    exact ⟨by rw [HC.out]; rfl, Below.refl _ _⟩

/-- isAwaited by cases: what begins with done. and a name; else what isOwnEvent says. -/
theorem isAwaited_done (s : ByteArray) (w : World) (hs : s.size ≤ 1073741824) (hb : Ref.begins s Ref.kDone = true) (hp : Ref.plain (s.extract 5 s.size) = true) : Calls Tryz.prog 220 #[.string s] w fun e w' => e = .returned (.bool (Ref.awaited s)) ∧ Below w.heap.size w w' := by
  have HR : Hid (Ref.awaited s = true) := by unfold Hid Ref.awaited; rw [hb, hp, Bool.and_self, Bool.or_true]
  have HB : Hid _ := (begins_has s Ref.kDone).trans hb
  have HC : Hid ((⟨(Lib.trimPrefix s.data.toList Ref.kDone.data.toList).toArray⟩ : ByteArray) = s.extract 5 s.size) := begins_cut hb
  have HP : Hid _ := hp
  have hr : (s.extract 5 s.size).size ≤ 1073741824 := by simp; omega
  clear hb hp
  go_enter Tryz.func220, Tryz.ntmps220
  go_wp2_with fail
  refine (Tryz.strings_CutPrefix s Ref.kDone _).mono ?_
  rintro e w9 ⟨rfl, hw9⟩
  rw [hw9, HB.out, HC.out]
  clear hw9 w9 HC
  generalize s.extract 5 s.size = r at *
  dsimp only
  go_wp2_with (go_at_call 244; refine (isName_any r _ (by unfold maxLen; omega)).mono ?_; rintro e w9 ⟨rfl, hw9⟩; rw [hw9, HP.out]; clear hw9 w9)
  go_ret
  exact ⟨by rw [HR.out]; rfl, Below.refl _ _⟩
theorem isAwaited_else (s : ByteArray) (w : World) (hs : s.size ≤ 1073741824) (hv : ErrVars w) (hb : Ref.begins s Ref.kDone = false) : Calls Tryz.prog 220 #[.string s] w fun e w' => e = .returned (.bool (Ref.awaited s)) ∧ Below w.heap.size w w' := by
  have HR : Hid (Ref.awaited s = Ref.called s) := by unfold Hid Ref.awaited; rw [hb, Bool.false_and, Bool.or_false]
  have HB : Hid _ := (begins_has s Ref.kDone).trans hb
  clear hb
  cases hc : Ref.called s
  all_goals
    have HC : Hid _ := hc
    clear hc
    go_enter Tryz.func220, Tryz.ntmps220
    go_wp2_with fail
    refine (Tryz.strings_CutPrefix s Ref.kDone _).mono ?_
    rintro e w9 ⟨rfl, hw9⟩
    rw [hw9, HB.out]
    clear hw9 w9
    dsimp only
    go_wp2_with (go_at_call 248; refine (isOwnEvent_any s _ hs hv).mono ?_; rintro e w9 ⟨rfl, hb9⟩; rw [HC.out])
    go_ret
    exact ⟨by rw [HR.out, HC.out]; rfl, hb9⟩
theorem isAwaited_no (s : ByteArray) (w : World) (hs : s.size ≤ 1073741824) (hv : ErrVars w) (hb : Ref.begins s Ref.kDone = true) (hp : Ref.plain (s.extract 5 s.size) = false) : Calls Tryz.prog 220 #[.string s] w fun e w' => e = .returned (.bool (Ref.awaited s)) ∧ Below w.heap.size w w' := by
  have HR : Hid (Ref.awaited s = Ref.called s) := by unfold Hid Ref.awaited; rw [hb, hp, Bool.and_false, Bool.or_false]
  have HB : Hid _ := (begins_has s Ref.kDone).trans hb
  have HC0 : Hid ((⟨(Lib.trimPrefix s.data.toList Ref.kDone.data.toList).toArray⟩ : ByteArray) = s.extract 5 s.size) := begins_cut hb
  have HP : Hid _ := hp
  have hr : (s.extract 5 s.size).size ≤ 1073741824 := by simp; omega
  clear hb hp
  cases hc : Ref.called s
  all_goals
    have HC : Hid _ := hc
    clear hc
    go_enter Tryz.func220, Tryz.ntmps220
    go_wp2_with fail
    refine (Tryz.strings_CutPrefix s Ref.kDone _).mono ?_
    rintro e w9 ⟨rfl, hw9⟩
    rw [hw9, HB.out, HC0.out]
    clear hw9 w9 HC0
    generalize s.extract 5 s.size = r at *
    dsimp only
    go_wp2_with (first
      | (go_at_call 244; refine (isName_any r _ (by unfold maxLen; omega)).mono ?_; rintro e w9 ⟨rfl, hw9⟩; rw [hw9, HP.out]; clear hw9 w9)
      | (go_at_call 248; refine (isOwnEvent_any s _ hs hv).mono ?_; rintro e w9 ⟨rfl, hb9⟩; rw [HC.out]))
    go_ret
    exact ⟨by rw [HR.out, HC.out]; rfl, hb9⟩
theorem isAwaited_any (s : ByteArray) (w : World) (hs : s.size ≤ 1073741824) (hv : ErrVars w) : Calls Tryz.prog 220 #[.string s] w fun e w' => e = .returned (.bool (Ref.awaited s)) ∧ Below w.heap.size w w' := by
  cases hb : Ref.begins s Ref.kDone
  · exact isAwaited_else s w hs hv hb
  · cases hp : Ref.plain (s.extract 5 s.size)
    · exact isAwaited_no s w hs hv hb hp
    · exact isAwaited_done s w hs hb hp
end Go.Proofs.YtegmoddppafkfaaGreatDoor
