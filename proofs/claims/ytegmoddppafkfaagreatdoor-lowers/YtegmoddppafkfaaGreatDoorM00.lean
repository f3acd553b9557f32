/-
  MY OWN TEXT.
-/
import Derived.Test.YtegmoddppafkfaaGreatDoorProg
import Derived.WalkKit
import Derived.WalkLawsBesides
import Derived.WalkSpells
import Derived.Outline
import Derived.PlainAid
import Derived.Deep.Light
import Derived.Lib.Strings
import Derived.Lib.ItoaNum
namespace Go.Proofs.YtegmoddppafkfaaGreatDoor
open Go.RowKit
open Go.PlainAid (bt get_bt bt_nonneg bt_le bt_end)

namespace Ref
theorem beq_str (a b : ByteArray) : (a.toList == b.toList) = decide (a = b) := by
  rw [Bool.eq_iff_iff]
  simp only [beq_iff_eq, decide_eq_true_eq, Lib.toList_data]
  constructor
  · intro h
    cases a; cases b
    simp only at h
    congr 1
    exact Array.ext' h
  · intro h; rw [h]
theorem ret_bool {a b : Bool} (h : a = b) : Ending.returned (.bool a) = .returned (.bool b) := by rw [h]
def begins (s t : ByteArray) : Bool := decide (t.size ≤ s.size) && decide (s.extract 0 t.size = t)
def earlier (a b : Int) : Int := if a = 0 ∨ b < a then b else a
def small (x : Int) : Bool := decide (97 ≤ x) && decide (x ≤ 122)
def more (x : Int) : Bool := decide (x = 95) || (decide (48 ≤ x) && decide (x ≤ 57))
def okAt (s : ByteArray) (i : Nat) : Bool := small (bt s i) || (decide (i ≠ 0) && more (bt s i))
def plain (s : ByteArray) : Bool := (List.range s.size).all (okAt s) && (decide (0 < s.size) && decide (s.size ≤ 8))
end Ref

set_option maxHeartbeats 400000 in
theorem begins_any (s t : ByteArray) (w : World) (_hs : s.size ≤ maxLen) (_ht : t.size ≤ maxLen) :
    Calls Tryz.prog 89 #[.string s, .string t] w fun e w' => e = .returned (.bool (Ref.begins s t)) ∧ w' = w := by
  unfold maxLen at _hs _ht
  go_enter Tryz.func89, Tryz.ntmps89
  go_wp2
  · go_ret
    rename_i h
    exact ⟨by rw [Ref.beq_str]; simp [Ref.begins, h], rfl⟩
  · go_ret
    rename_i h
    exact ⟨by simp [Ref.begins, h], rfl⟩

set_option maxHeartbeats 400000 in
theorem earlier_any (a b : Int) (w : World) :
    Calls Tryz.prog 87 #[.int .i64 a, .int .i64 b] w fun e w' => e = .returned (.int .i64 (Ref.earlier a b)) ∧ w' = w := by
  by_cases h0 : a = 0
  · subst h0
    go_enter Tryz.func87, Tryz.ntmps87
    go_wp2
    go_ret
    exact ⟨by simp [Ref.earlier], rfl⟩
  · have h1 : (a == 0) = false := by simpa using h0
    by_cases h2 : b < a
    · go_enter Tryz.func87, Tryz.ntmps87
      go_wp2
      go_ret
      exact ⟨by simp [Ref.earlier, h2], rfl⟩
    · go_enter Tryz.func87, Tryz.ntmps87
      go_wp2
      go_ret
      exact ⟨by rw [show Ref.earlier a b = a from by rw [Ref.earlier, if_neg (by omega)]]; rfl, rfl⟩

namespace Ref
theorem all_range {n : Nat} {p : Nat → Bool} (h : ∀ j, j < n → p j = true) : (List.range n).all p = true := by
  rw [List.all_eq_true]; intro x hx; exact h x (List.mem_range.1 hx)
theorem not_all_range {n k : Nat} {p : Nat → Bool} (hk : k < n) (h : p k = false) : (List.range n).all p = false := by
  rw [List.all_eq_false]; exact ⟨k, List.mem_range.2 hk, by simp [h]⟩
theorem okAt_zero (s : ByteArray) : okAt s 0 = small (bt s 0) := by simp [okAt]
theorem ok_snoc {s : ByteArray} {k : Nat} (h : Hid (∀ j, j < k → okAt s j = true)) (hk : okAt s k = true) : ∀ j, j < k + 1 → okAt s j = true := by
  intro j hj
  by_cases e : j = k
  · rw [e]; exact hk
  · exact h.out j (by omega)
end Ref

set_option maxHeartbeats 800000 in
theorem plain_any (s : ByteArray) (w : World) (hs : s.size ≤ maxLen) :
    Calls Tryz.prog 78 #[.string s] w fun e w' => e = .returned (.bool (Ref.plain s)) ∧ w' = w := by
  unfold maxLen at hs
  have hb := get_bt s
  go_enter Tryz.func78, Tryz.ntmps78
  go_wp2
  go_loop [3] (fun i => ∃ k : Nat, k ≤ s.size ∧ i = .int .i64 k ∧ ∀ j, j < k → Ref.okAt s j = true) (fun i => s.size - (intOf i).toNat)
  case atStart => exact ⟨0, Nat.zero_le _, rfl, fun _ h => by omega⟩
  case round =>
    obtain ⟨k, hk, rfl, hok⟩ := hrel
    have Hok : Hid (∀ j, j < k → Ref.okAt s j = true) := hok
    clear hok
    by_cases hlt : k < s.size
    · by_cases hk0 : k = 0
      · subst hk0
        clear Hok
        go_wp2
        all_goals first
          | (go_ret
             have hf : Ref.okAt s 0 = false := by
               go_light
               simp only [Ref.okAt_zero, Ref.small, Bool.and_eq_false_iff, decide_eq_false_iff_not] at *
               omega
             exact ⟨by simp [Ref.plain, Ref.not_all_range hlt hf], rfl⟩)
          | (have ht : Ref.okAt s 0 = true := by
               go_light
               simp only [Ref.okAt_zero, Ref.small, Bool.and_eq_true, decide_eq_true_eq, Bool.not_eq_false'] at *
               omega
             have HS : Hid _ := Ref.ok_snoc (fun j hj => absurd hj (Nat.not_lt_zero j)) ht
             clear ht
             go_round
             case rel => exact ⟨1, by omega, by go_num, HS.out⟩
             case measure => simp [intOf]; omega)
      · have e0 : ((k : Int) == 0) = false := by simpa using hk0
        go_wp2
        all_goals first
          | (go_ret
             have hf : Ref.okAt s k = false := by
               go_light
               simp only [Ref.okAt, Ref.small, Ref.more, Bool.or_eq_false_iff, Bool.and_eq_false_iff, decide_eq_false_iff_not, Bool.not_eq_true', beq_eq_false_iff_ne, ne_eq] at *
               omega
             exact ⟨by simp [Ref.plain, Ref.not_all_range hlt hf], rfl⟩)
          | (have ht : Ref.okAt s k = true := by
               go_light
               simp only [Ref.okAt, Ref.small, Ref.more, Bool.or_eq_true, Bool.and_eq_true, decide_eq_true_eq, Bool.not_eq_false', beq_iff_eq, beq_eq_false_iff_ne, ne_eq] at *
               omega
             have HS : Hid _ := Ref.ok_snoc Hok ht
             clear ht
             go_round
             case rel => exact ⟨k + 1, by omega, by go_num, HS.out⟩
             case measure => simp [intOf]; omega)
    · obtain rfl : k = s.size := by omega
      clear hb
      go_wp2
      · go_ret
        refine ⟨Ref.ret_bool ?_, rfl⟩
        rw [Ref.plain, Ref.all_range Hok.out, Bool.true_and, decide_eq_true (show 0 < s.size from ‹_›), Bool.true_and]
        exact decide_eq_decide.2 (by omega)
      · go_ret
        refine ⟨Ref.ret_bool ?_, rfl⟩
        rw [Ref.plain, decide_eq_false (show ¬ 0 < s.size from ‹_›), Bool.false_and, Bool.and_false]
end Go.Proofs.YtegmoddppafkfaaGreatDoor
namespace Go.Proofs.YtegmoddppafkfaaGreatDoor
open Go.RowKit
open Go.PlainAid (bt get_bt bt_nonneg bt_le bt_end)

namespace Ref
theorem ret_str {a b : ByteArray} (h : a = b) : Ending.returned (.string a) = .returned (.string b) := by rw [h]
def dec (n : Nat) : ByteArray := ⟨(Lib.decDigits n).toArray⟩
def tenS : ByteArray := ⟨#[48, 49, 50, 51, 52, 53, 54, 55, 56, 57]⟩
theorem tenS_fin : ∀ i : Fin 10, (tenS.extract i.val (i.val + 1)).data = #[UInt8.ofNat (48 + i.val)] := by decide +kernel
theorem tenS_at {i : Nat} (h : i < 10) : tenS.extract i (i + 1) = ⟨#[UInt8.ofNat (48 + i)]⟩ := ByteArray.ext (tenS_fin ⟨i, h⟩)
theorem dec_small {n : Nat} (h : n < 10) : dec n = ⟨#[UInt8.ofNat (48 + n)]⟩ := by
  unfold dec; rw [Lib.decDigits_one h]
theorem dec_big {n : Nat} (h : ¬ n < 10) : dec n = dec (n / 10) ++ ⟨#[UInt8.ofNat (48 + n % 10)]⟩ := by
  unfold dec
  conv => lhs; rw [Lib.decDigits, dif_neg h]
  apply ByteArray.ext
  simp
theorem dec_size : ∀ (k n : Nat), n < 10 ^ (k + 1) → (dec n).size ≤ k + 1
  | 0, n, h => by rw [dec_small (by simpa using h)]; exact Nat.le_refl 1
  | k + 1, n, h => by
    by_cases h9 : n < 10
    · rw [dec_small h9]; exact Nat.le_add_left 1 (k + 1)
    · rw [dec_big h9, ByteArray.size_append']
      have := dec_size k (n / 10) (by rw [Nat.pow_succ] at h; omega)
      have e : (ByteArray.mk #[UInt8.ofNat (48 + n % 10)]).size = 1 := rfl
      omega
theorem dec_size20 {n : Nat} (h : n ≤ 18446744073709551615) : (dec n).size ≤ 20 := dec_size 19 n (by omega)
end Ref

set_option maxHeartbeats 400000 in
theorem decimal_any : ∀ (n : Nat) (w : World), n ≤ 9223372036854775807 →
    Calls Tryz.prog 81 #[.int .i64 n] w fun e w' => e = .returned (.string (Ref.dec n)) ∧ w' = w := by
  intro n
  induction n using Nat.strongRecOn with
  | _ n ih =>
  intro w hn
  have IH : Hid _ := ih
  clear ih
  by_cases h : n < 10
  · have HD : Hid _ := Ref.dec_small h
    have HT : Hid _ := Ref.tenS_at (show n % 10 < 10 by omega)
    go_enter Tryz.func81, Tryz.ntmps81
    go_wp2_with fail
    go_ret
    refine ⟨Ref.ret_str ?_, rfl⟩
    rw [HD.out]
    have e := HT.out
    rw [Nat.mod_eq_of_lt h] at e ⊢
    exact e
  · have HD : Hid _ := Ref.dec_big h
    have HT : Hid _ := Ref.tenS_at (show n % 10 < 10 by omega)
    go_enter Tryz.func81, Tryz.ntmps81
    go_wp2_with fail
    rw [show ((n : Int) / 10) = ((n / 10 : Nat) : Int) from by omega]
    refine (IH.out (n / 10) (by omega) _ (by omega)).mono ?_
    rintro e w' ⟨rfl, rfl⟩
    have hsz : (Ref.dec (n / 10)).size ≤ 20 := Ref.dec_size20 (by omega)
    go_wp2
    go_ret
    refine ⟨Ref.ret_str ?_, rfl⟩
    rw [HD.out]
    exact congrArg (Ref.dec (n / 10) ++ ·) HT.out

set_option maxHeartbeats 400000 in
theorem long_any : ∀ (n : Nat) (w : World), n ≤ 18446744073709551615 →
    Calls Tryz.prog 77 #[.int .u64 n] w fun e w' => e = .returned (.string (Ref.dec n)) ∧ w' = w := by
  intro n
  induction n using Nat.strongRecOn with
  | _ n ih =>
  intro w hn
  have IH : Hid _ := ih
  clear ih
  by_cases h : n < 10
  · have HD : Hid _ := Ref.dec_small h
    have HT : Hid _ := Ref.tenS_at (show n % 10 < 10 by omega)
    go_enter Tryz.func77, Tryz.ntmps77
    go_wp2_with fail
    go_ret
    refine ⟨Ref.ret_str ?_, rfl⟩
    rw [HD.out]
    have e := HT.out
    rw [Nat.mod_eq_of_lt h] at e ⊢
    exact e
  · have HD : Hid _ := Ref.dec_big h
    have HT : Hid _ := Ref.tenS_at (show n % 10 < 10 by omega)
    go_enter Tryz.func77, Tryz.ntmps77
    go_wp2_with fail
    rw [show ((n : Int) / 10) = ((n / 10 : Nat) : Int) from by omega]
    refine (IH.out (n / 10) (by omega) _ (by omega)).mono ?_
    rintro e w' ⟨rfl, rfl⟩
    have hsz : (Ref.dec (n / 10)).size ≤ 20 := Ref.dec_size20 (by omega)
    go_wp2
    go_ret
    refine ⟨Ref.ret_str ?_, rfl⟩
    rw [HD.out]
    exact congrArg (Ref.dec (n / 10) ++ ·) HT.out

namespace Ref
def isDig (x : Int) : Bool := decide (48 ≤ x) && decide (x ≤ 57)
def val (s : ByteArray) : Nat → Nat
  | 0 => 0
  | k + 1 => val s k * 10 + ((bt s k).toNat - 48)
def m64 (n : Nat) : Int := IntKind.u64.wrap n
def most : ByteArray := ⟨#[49, 56, 52, 52, 54, 55, 52, 52, 48, 55, 51, 55, 48, 57, 53, 53, 49, 54, 49, 53]⟩
def badNum (s : ByteArray) : Bool := s.toList.isEmpty || (decide (1 < s.size) && decide (bt s 0 = 48)) || decide (20 < s.size) || (decide (s.size = 20) && (!Op.bytesLess s.toList most.toList && !(s.toList == most.toList)))
def digOk (s : ByteArray) : Bool := (List.range s.size).all (fun i => isDig (bt s i)) && !badNum s
theorem m64_succ (s : ByteArray) (k : Nat) (h : 48 ≤ bt s k) : m64 (val s (k + 1)) = IntKind.u64.wrap (IntKind.u64.wrap (10 * m64 (val s k)) + (bt s k - 48)) := by
  unfold m64
  rw [val, IntKind.wrap_u64, IntKind.wrap_u64, IntKind.wrap_u64, IntKind.wrap_u64]
  omega
theorem dig_snoc {s : ByteArray} {k : Nat} (h : Hid (∀ j, j < k → isDig (bt s j) = true)) (hk : isDig (bt s k) = true) : ∀ j, j < k + 1 → isDig (bt s j) = true := by
  intro j hj
  by_cases e : j = k
  · rw [e]; exact hk
  · exact h.out j (by omega)
theorem most_list : most.toList = [49, 56, 52, 52, 54, 55, 52, 52, 48, 55, 51, 55, 48, 57, 53, 53, 49, 54, 49, 53] := by rw [ByteArray.toList_eq]; rfl
theorem isEmpty_eq (s : ByteArray) : s.toList.isEmpty = decide (s.size = 0) := by
  rw [Lib.toList_data, Bool.eq_iff_iff, List.isEmpty_iff, decide_eq_true_eq]
  exact ⟨fun h => by show s.data.size = 0; rw [← Array.length_toList, h]; rfl, fun h => List.eq_nil_of_length_eq_zero (by rw [Array.length_toList]; exact h)⟩
def digVal (s : ByteArray) : Int := if digOk s then m64 (val s s.size) else 0
end Ref

set_option maxHeartbeats 800000 in
theorem digits_any (s : ByteArray) (w : World) (hs : s.size ≤ maxLen) :
    Calls Tryz.prog 82 #[.string s] w fun e w' => e = .returned (.tuple #[.int .u64 (Ref.digVal s), .bool (Ref.digOk s)]) ∧ w' = w := by
  unfold maxLen at hs
  have hb := get_bt s
  go_enter Tryz.func82, Tryz.ntmps82
  go_wp2
  go_loop [5, 6] (fun v i => ∃ k : Nat, k ≤ s.size ∧ i = .int .i64 k ∧ v = .int .u64 (Ref.m64 (Ref.val s k)) ∧ ∀ j, j < k → Ref.isDig (bt s j) = true) (fun _ i => s.size - (intOf i).toNat)
  case atStart => exact ⟨0, Nat.zero_le _, rfl, rfl, fun _ h => by omega⟩
  case round =>
    obtain ⟨k, hk, rfl, rfl, hok⟩ := hrel
    have Hok : Hid (∀ j, j < k → Ref.isDig (bt s j) = true) := hok
    clear hok
    by_cases hlt : k < s.size
    · have c0 := bt_nonneg s k
      have c1 := bt_le s k
      have HV := fun h1 => Ref.m64_succ s k h1
      have HV' : Hid _ := HV
      clear HV
      generalize hV : Ref.m64 (Ref.val s k) = V at HV'
      clear hV
      by_cases hd : 48 ≤ bt s k ∧ bt s k ≤ 57
      · obtain ⟨hd0, hd1⟩ := hd
        have ht : Ref.isDig (bt s k) = true := by simp [Ref.isDig, hd0, hd1]
        have HT : Hid _ := ht
        clear ht
        go_wp2
        go_round
        case rel => exact ⟨k + 1, by omega, by go_num, by rw [HV'.out hd0], Ref.dig_snoc Hok HT.out⟩
        case measure => simp [intOf]; omega
      · have hf : Ref.isDig (bt s k) = false := by simp [Ref.isDig]; omega
        have hr : Ref.digOk s = false := by rw [Ref.digOk, Ref.not_all_range hlt hf, Bool.false_and]
        have HR : Hid (Ref.digOk s = false ∧ Ref.digVal s = 0) := ⟨hr, by rw [Ref.digVal, hr]; rfl⟩
        clear hf hr
        rcases (show bt s k < 48 ∨ 57 < bt s k by omega) with h | h
        all_goals
          go_wp2
          go_ret2
          exact ⟨by rw [HR.out.1, HR.out.2]; rfl, rfl⟩
    · obtain rfl : k = s.size := by omega
      have hall : (List.range s.size).all (fun i => Ref.isDig (bt s i)) = true := Ref.all_range Hok.out
      clear Hok
      have hfin : Hid (∀ b, Ref.badNum s = b → Ref.digOk s = !b ∧ Ref.digVal s = if b then 0 else Ref.m64 (Ref.val s s.size)) := by
        intro b hb'
        have : Ref.digOk s = !b := by rw [Ref.digOk, hall, hb', Bool.true_and]
        exact ⟨this, by rw [Ref.digVal, this]; cases b <;> rfl⟩
      clear hall
      generalize Ref.m64 (Ref.val s s.size) = V at *
      have hE := Ref.isEmpty_eq s
      by_cases h0 : s.size = 0
      · have HB : Hid _ := hfin.out true (by simp [Ref.badNum, hE, h0])
        rw [decide_eq_true h0] at hE
        go_wp2
        go_ret2
        exact ⟨by rw [HB.out.1, HB.out.2]; rfl, rfl⟩
      · rw [decide_eq_false h0] at hE
        by_cases h2 : 1 < s.size
        · cases h3 : (bt s 0 == 48)
          · have h3' : ¬ bt s 0 = 48 := by simpa using h3
            by_cases h4 : 20 < s.size
            · have HB : Hid _ := hfin.out true (by simp [Ref.badNum, h4])
              go_wp2
              go_ret2
              exact ⟨by rw [HB.out.1, HB.out.2]; rfl, rfl⟩
            · by_cases h5 : s.size = 20
              · cases h6 : (!Op.bytesLess s.toList Ref.most.toList && !(s.toList == Ref.most.toList))
                · have HB : Hid _ := hfin.out false (by rw [Ref.badNum, hE, h6]; simp [h3', h4])
                  rw [Ref.most_list] at h6
                  go_wp2
                  go_ret2
                  exact ⟨by rw [HB.out.1, HB.out.2]; rfl, rfl⟩
                · have HB : Hid _ := hfin.out true (by rw [Ref.badNum, hE, h6]; simp [h5])
                  rw [Ref.most_list] at h6
                  go_wp2
                  go_ret2
                  exact ⟨by rw [HB.out.1, HB.out.2]; rfl, rfl⟩
              · have HB : Hid _ := hfin.out false (by rw [Ref.badNum, hE]; simp [h3', h4, h5])
                go_wp2
                go_ret2
                exact ⟨by rw [HB.out.1, HB.out.2]; rfl, rfl⟩
          · have h3' : bt s 0 = 48 := by simpa using h3
            have HB : Hid _ := hfin.out true (by rw [Ref.badNum, hE]; simp [h3', h2])
            clear h3'
            go_wp2
            go_ret2
            exact ⟨by rw [HB.out.1, HB.out.2]; rfl, rfl⟩
        · have HB : Hid _ := hfin.out false (by rw [Ref.badNum, hE]; simp [h2]; omega)
          go_wp2
          go_ret2
          exact ⟨by rw [HB.out.1, HB.out.2]; rfl, rfl⟩
end Go.Proofs.YtegmoddppafkfaaGreatDoor
namespace Go.Proofs.YtegmoddppafkfaaGreatDoor
open Go.RowKit
open Go.PlainAid (bt get_bt bt_nonneg bt_le bt_end)

namespace Ref
def kAfter : ByteArray := ⟨#[97, 102, 116, 101, 114, 46]⟩
def kDone : ByteArray := ⟨#[100, 111, 110, 101, 46]⟩
def lined (s : ByteArray) : Bool := begins s kAfter && (digOk (s.extract 6 s.size) && (decide (0 < digVal (s.extract 6 s.size)) && decide (digVal (s.extract 6 s.size) ≤ 1500)))
def called (s : ByteArray) : Bool := plain s || lined s
def awaited (s : ByteArray) : Bool := called s || (begins s kDone && plain (s.extract 5 s.size))
theorem begins_size {s t : ByteArray} (h : begins s t = true) : t.size ≤ s.size := by
  simp [begins] at h; exact h.1
end Ref

set_option maxHeartbeats 400000 in
theorem lined_any (s : ByteArray) (w : World) (hs : s.size ≤ maxLen) :
    Calls Tryz.prog 166 #[.string s] w fun e w' => e = .returned (.bool (Ref.lined s)) ∧ w' = w := by
  cases hb : Ref.begins s Ref.kAfter
  · have HR : Hid (Ref.lined s = false) := by simp [Hid, Ref.lined, hb]
    have HB : Hid _ := hb
    clear hb
    unfold maxLen at hs
    go_enter Tryz.func166, Tryz.ntmps166
    go_wp2_with fail
    refine (begins_any s Ref.kAfter _ (by unfold maxLen; omega) (by decide)).mono ?_
    rintro e w' ⟨rfl, rfl⟩
    rw [HB.out]
    go_wp2
    go_ret
    exact ⟨by rw [HR.out]; rfl, rfl⟩
  · have h6 : 6 ≤ s.size := Ref.begins_size hb
    have HR : Hid (Ref.lined s = (Ref.digOk (s.extract 6 s.size) && (decide (0 < Ref.digVal (s.extract 6 s.size)) && decide (Ref.digVal (s.extract 6 s.size) ≤ 1500)))) := by simp [Hid, Ref.lined, hb]
    have HB : Hid _ := hb
    clear hb
    unfold maxLen at hs
    go_enter Tryz.func166, Tryz.ntmps166
    go_wp2_with fail
    refine (begins_any s Ref.kAfter _ (by unfold maxLen; omega) (by decide)).mono ?_
    rintro e w' ⟨rfl, rfl⟩
    rw [HB.out]
    go_wp2_with fail
    refine (digits_any _ _ (by unfold maxLen; simp; omega)).mono ?_
    rintro e w' ⟨rfl, rfl⟩
    generalize Ref.digVal (s.extract 6 s.size) = V at *
    generalize Ref.digOk (s.extract 6 s.size) = B at *
    cases B
    · go_wp2
      go_ret
      exact ⟨by rw [HR.out]; rfl, rfl⟩
    · by_cases h0 : 0 < V
      · go_wp2
        go_ret
        exact ⟨by rw [HR.out]; simp [h0], rfl⟩
      · have h0' : decide (0 < V) = false := by simpa using h0
        go_wp2
        go_ret
        exact ⟨by rw [HR.out, h0']; rfl, rfl⟩

set_option maxHeartbeats 400000 in
theorem called_any (s : ByteArray) (w : World) (hs : s.size ≤ maxLen) :
    Calls Tryz.prog 121 #[.string s] w fun e w' => e = .returned (.bool (Ref.called s)) ∧ w' = w := by
  go_enter Tryz.func121, Tryz.ntmps121
  go_wp2_with fail
  refine (plain_any _ _ hs).mono ?_
  rintro e w' ⟨rfl, rfl⟩
  go_wp2_with fail
  refine (lined_any _ _ hs).mono ?_
  rintro e w' ⟨rfl, rfl⟩
  cases h : Ref.plain s
  all_goals
    go_wp2
    go_ret
    exact ⟨by rw [Ref.called, h]; rfl, rfl⟩

set_option maxHeartbeats 400000 in
theorem awaited_any (s : ByteArray) (w : World) (hs : s.size ≤ maxLen) :
    Calls Tryz.prog 79 #[.string s] w fun e w' => e = .returned (.bool (Ref.awaited s)) ∧ w' = w := by
  have hs' := hs
  unfold maxLen at hs'
  have HR : Hid (Ref.awaited s = (Ref.called s || (Ref.begins s Ref.kDone && Ref.plain (s.extract 5 s.size)))) := rfl
  generalize Ref.awaited s = C at *
  cases hb : Ref.begins s Ref.kDone
  · have HB : Hid _ := hb
    clear hb
    go_enter Tryz.func79, Tryz.ntmps79
    go_wp2_with fail
    refine (called_any _ _ hs).mono ?_
    rintro e w' ⟨rfl, rfl⟩
    go_wp2_with fail
    refine (begins_any s Ref.kDone _ hs (by decide)).mono ?_
    rintro e w' ⟨rfl, rfl⟩
    rw [HB.out]
    cases h : Ref.called s
    all_goals
      go_wp2
      go_ret
      exact ⟨by rw [HR.out, h, HB.out]; rfl, rfl⟩
  · have h5 : 5 ≤ s.size := Ref.begins_size hb
    have HB : Hid _ := hb
    clear hb
    go_enter Tryz.func79, Tryz.ntmps79
    go_wp2_with fail
    refine (called_any _ _ hs).mono ?_
    rintro e w' ⟨rfl, rfl⟩
    go_wp2_with fail
    refine (begins_any s Ref.kDone _ hs (by decide)).mono ?_
    rintro e w' ⟨rfl, rfl⟩
    rw [HB.out]
    go_wp2_with fail
    refine (plain_any _ _ (by unfold maxLen; simp; omega)).mono ?_
    rintro e w' ⟨rfl, rfl⟩
    cases h : Ref.called s
    all_goals
      go_wp2
      go_ret
      exact ⟨by rw [HR.out, h, HB.out]; rfl, rfl⟩
end Go.Proofs.YtegmoddppafkfaaGreatDoor
