/-
  MY OWN TEXT.
-/
import Derived.Test.YtegmoddppafkfaaGreatDoorM07
import Derived.Deep.QuietTactic
import Derived.BigQuiet
namespace Go.Proofs.YtegmoddppafkfaaGreatDoor
open Go.RowKit

theorem said_any (b off cap : Nat) (l : List ByteArray) (ln : Nat) (w : World) (H : Words w b off cap l) (hln : ln ≤ 1073741824) :
    Calls Tryz.prog 56 #[.slice (some ⟨b, off, none⟩) l.length cap, .int .i64 ln] w (SaidPost l ln w) := by
  by_cases h2 : l.length < 2
  · exact said_short b off cap l ln w H h2
  cases hSt : ((Ref.at' l 0).toList == [115, 116, 97, 116, 101])
  · cases hPa : ((Ref.at' l 0).toList == [112, 97, 114, 97, 108, 108, 101, 108])
    · cases hFi : ((Ref.at' l 0).toList == [102, 105, 110, 97, 108])
      · cases hHi : ((Ref.at' l 0).toList == [104, 105, 115, 116, 111, 114, 121])
        · cases hOn : ((Ref.at' l 0).toList == [111, 110])
          · cases hAf : ((Ref.at' l 0).toList == [97, 102, 116, 101, 114])
            · cases hEn : ((Ref.at' l 0).toList == [101, 110, 116, 101, 114])
              · cases hLe : ((Ref.at' l 0).toList == [108, 101, 97, 118, 101])
                · exact said_else b off cap l ln w H h2 hSt hPa hFi hHi hOn hAf hEn hLe
                · exact said_leave b off cap l ln w H h2 hSt hPa hFi hHi hOn hAf hEn hLe
              · exact said_enter b off cap l ln w H h2 hSt hPa hFi hHi hOn hAf hEn
            · exact said_after b off cap l ln w H h2 hSt hPa hFi hHi hOn hAf hln
          · exact said_on b off cap l ln w H h2 hSt hPa hFi hHi hOn
        · cases hn : (Ref.plain (Ref.at' l 1) && (decide (l.length = 2) || Ref.deepW l))
          · exact said_hist_no b off cap l ln w H h2 hSt hPa hFi hHi hn
          · simp only [Bool.and_eq_true, Bool.or_eq_true, decide_eq_true_eq, Ref.deepW] at hn
            obtain ⟨hP, hl2 | ⟨hl3, hDe⟩⟩ := hn
            · exact said_hist2 b off cap l ln w H h2 hSt hPa hFi hHi hl2 hP
            · exact said_hist3 b off cap l ln w H h2 hSt hPa hFi hHi hl3 hDe hP
      · cases hn : (decide (l.length = 2) && Ref.plain (Ref.at' l 1))
        · exact said_final_no b off cap l ln w H h2 hSt hPa hFi hn
        · simp only [Bool.and_eq_true, decide_eq_true_eq] at hn
          exact said_final_yes b off cap l ln w H h2 hSt hPa hFi hn.1 hn.2
    · cases hn : (decide (l.length = 2) && Ref.plain (Ref.at' l 1))
      · exact said_parallel_no b off cap l ln w H h2 hSt hPa hn
      · simp only [Bool.and_eq_true, decide_eq_true_eq] at hn
        exact said_parallel_yes b off cap l ln w H h2 hSt hPa hn.1 hn.2
  · cases hn : (decide (l.length = 2) && Ref.plain (Ref.at' l 1))
    · exact said_state_no b off cap l ln w H h2 hSt hn
    · simp only [Bool.and_eq_true, decide_eq_true_eq] at hn
      exact said_state_yes b off cap l ln w H h2 hSt hn.1 hn.2

namespace Ref
/-- A slice's three words. -/
structure Sl where
  a : Option Addr
  n : Nat
  c : Nat
def Sl.v (s : Sl) : Value := .slice s.a s.n s.c
def Sl.nil : Sl := ⟨none, 0, 0⟩
/-- A state as it lies: itself, and its three lists. -/
structure SV where
  s : State
  vm : Sl
  ve : Sl
  vl : Sl
def svCells (x : SV) : List Value := [.string x.s.word, .string x.s.name, .bool x.s.deep, .int .i64 x.s.up, .int .i64 x.s.depth, .int .i64 x.s.line, .slice x.vm.a x.vm.n x.vm.c, .slice x.ve.a x.ve.n x.ve.c, .slice x.vl.a x.vl.n x.vl.c, .int .i64 x.s.has0, .int .i64 x.s.has1]
structure MV where
  m : Move
  v : Sl
def mvCells (x : MV) : List Value := [.string x.m.event, .string x.m.to, .bool x.m.after, .int .u64 x.m.delay, .slice x.v.a x.v.n x.v.c, .int .i64 x.m.line]
theorem flat_get {α : Type} {f : α → List Value} {n : Nat} (hf : ∀ x, (f x).length = n) : ∀ (X : List α) (i j : Nat), j < n → ∀ (h : i < X.length), (X.flatMap f)[i * n + j]? = (f X[i])[j]?
  | [], i, j, _, h => by simp at h
  | x :: X, 0, j, hj, _ => by
    rw [List.flatMap_cons, Nat.zero_mul, Nat.zero_add, List.getElem?_append_left (by rw [hf]; exact hj)]; rfl
  | x :: X, i + 1, j, hj, h => by
    rw [List.flatMap_cons, Nat.succ_mul, List.getElem?_append_right (by rw [hf]; omega), hf]
    rw [show i * n + n + j - n = i * n + j from by omega, flat_get hf X i j hj (by simpa using h)]
    rfl
theorem flat_len {α : Type} {f : α → List Value} {n : Nat} (hf : ∀ x, (f x).length = n) : ∀ (X : List α), (X.flatMap f).length = X.length * n
  | [] => by simp
  | x :: X => by rw [List.flatMap_cons, List.length_append, hf, flat_len hf X, List.length_cons, Nat.succ_mul, Nat.add_comm]
def isNm (n : ByteArray) (x : SV) : Bool := x.s.name.toList == n.toList
def place (X : List SV) (n : ByteArray) : Int := match X.findIdx? (isNm n) with | some i => (i : Int) | none => -1
def mineAct (a : Act) : Bool := begins a.event kAfter || begins a.id kAfter
def mine (A : List Act) : Bool := A.any mineAct
end Ref

/-- A row that lies in memory (nothing is said of whose it is). -/
def Row {α : Type} (w : World) (e : TypeId) (size : Nat) (f : α → List Value) (v : Value) (X : List α) : Prop := w.ownsRow 0 e size v X.length (X.flatMap f)
theorem Row.cell {α : Type} {w : World} {e : TypeId} {n : Nat} {f : α → List Value} {g cap : Nat} {X : List α} (hf : ∀ x, (f x).length = n) (h : Row w e n f (.slice (some ⟨g, 0, none⟩) X.length cap) X) {i j : Nat} (hj : j < n) (hi : i < X.length) :
    w.cell? ⟨g, i * n + j, none⟩ = (f X[i])[j]? := by
  have hlt : i * n + j < X.length * n := by
    have : (i + 1) * n ≤ X.length * n := Nat.mul_le_mul_right n hi
    rw [Nat.succ_mul] at this; omega
  rw [h.cellAt (i * n + j) hlt, Ref.flat_get hf X i j hj hi]
theorem Row.form {α : Type} {w : World} {e : TypeId} {n : Nat} {f : α → List Value} {v : Value} {X : List α} (h : Row w e n f v X) : ∃ a c, v = .slice a X.length c := by
  rcases h.2 with ⟨hv, h0⟩ | ⟨g, cap, cur, hv, _⟩
  · exact ⟨none, 0, by rw [hv, h0]⟩
  · exact ⟨_, _, hv⟩
theorem Row.pos {α : Type} {w : World} {e : TypeId} {n : Nat} {f : α → List Value} {v : Value} {X : List α} (h : Row w e n f v X) (hX : 0 < X.length) : ∃ g c, v = .slice (some ⟨g, 0, none⟩) X.length c := Ref.own_form h hX

/-- The chart at block cb: its states. -/
structure ChartAt (w : World) (cb : Nat) (sv : Value) (X : List Ref.SV) : Prop where
  at' : w.heap[cb]? = some (.cells #[sv] 113 (0, 0))
  row : Row w 118 11 Ref.svCells sv X
theorem ChartAt.cell {w : World} {cb : Nat} {sv : Value} {X : List Ref.SV} (h : ChartAt w cb sv X) : w.cell? ⟨cb, 0, none⟩ = some sv := by simp [World.cell?, h.at']

set_option maxHeartbeats 800000 in
set_option maxRecDepth 100000 in
theorem place_any (cb : Nat) (sv : Value) (X : List Ref.SV) (n : ByteArray) (w : World) (H : ChartAt w cb sv X) (hX : X.length ≤ 1073741824) :
    Calls Tryz.prog 86 #[.pointer (some ⟨cb, 0, none⟩), .string n] w fun e w' => e = .returned (.int .i64 (Ref.place X n)) ∧ w' = w := by
  have hcb := H.cell
  obtain ⟨sa, sc, rfl⟩ := H.row.form
  go_enter Tryz.func86, Tryz.ntmps86
  go_wp2
  go_loop [5] (fun i => ∃ k : Nat, k ≤ X.length ∧ i = .int .i64 k ∧ ∀ j (h : j < X.length), j < k → Ref.isNm n X[j] = false) (fun i => X.length - (intOf i).toNat)
  case atStart => exact ⟨0, Nat.zero_le _, rfl, fun _ _ h => by omega⟩
  case round =>
    obtain ⟨k, hk, rfl, hno⟩ := hrel
    have HNO : Hid _ := hno
    clear hno
    by_cases hlt : k < X.length
    · obtain ⟨g, c, hv⟩ := H.row.pos (by omega)
      simp only [Value.slice.injEq, true_and] at hv
      obtain ⟨rfl, rfl⟩ := hv
      have hc := H.row.cell (n := 11) (j := 1) (fun _ => rfl) (by decide) hlt
      simp only [Ref.svCells, List.getElem?_cons_succ, List.getElem?_cons_zero] at hc
      cases hn : (X[k].s.name.toList == n.toList)
      · go_wp2
        go_round
        case rel =>
          refine ⟨k + 1, by omega, by go_num, fun j h hj => ?_⟩
          by_cases e : j = k
          · subst e; exact hn
          · exact HNO.out j h (by omega)
        case measure => simp [intOf]; omega
      · have HP : Hid (Ref.place X n = k) := by
          have e : X.findIdx? (Ref.isNm n) = some k := List.findIdx?_eq_some_iff_getElem.2 ⟨hlt, hn, fun j hj => by rw [HNO.out j (by omega) hj]; exact Bool.false_ne_true⟩
          unfold Hid Ref.place; rw [e]
        go_wp2
        go_ret
        exact ⟨by rw [HP.out]; rfl, rfl⟩
    · have HP : Hid (Ref.place X n = -1) := by
        have e : X.findIdx? (Ref.isNm n) = none := List.findIdx?_eq_none_iff.2 (fun x hx => by
          obtain ⟨j, hj, rfl⟩ := List.getElem_of_mem hx
          exact HNO.out j hj (by omega))
        unfold Hid Ref.place; rw [e]
      go_wp2
      go_ret
      exact ⟨by rw [HP.out]; rfl, rfl⟩
end Go.Proofs.YtegmoddppafkfaaGreatDoor
namespace Go.Proofs.YtegmoddppafkfaaGreatDoor
open Go.RowKit

namespace Ref
/-- An action whose texts and delay are such as a chart may have. -/
structure ActOK (a : Act) : Prop where
  how : a.how.size ≤ 1073741824
  event : a.event.size ≤ 1073741824
  id : a.id.size ≤ 1073741824
  delay : ∃ n : Nat, a.delay = n ∧ n ≤ 18446744073709551615
def isReg (k : Int) (x : SV) : Bool := decide (x.s.up = k) && !(x.s.word.toList == cHistory)
def regTo (X : List SV) (k : Int) : Nat → List Nat
  | 0 => []
  | i + 1 => if (X[i]?.map (isReg k)).getD false then regTo X k i ++ [i] else regTo X k i
def regions (X : List SV) (k : Int) : List Nat := regTo X k X.length
theorem regTo_len (X : List SV) (k : Int) : ∀ i, (regTo X k i).length ≤ i
  | 0 => by simp [regTo]
  | i + 1 => by
    have := regTo_len X k i
    unfold regTo
    split <;> simp <;> omega
end Ref
def ActRow (w : World) (v : Value) (A : List Ref.Act) : Prop := Row w 122 4 Ref.actCells v A
theorem Tryz.infoInt : (Tryz.prog.info? 3).map (fun i => (i.zero, i.size, i.bytes)) = some (some (.int .i64 0), 1, 8) := by kernel_rfl

set_option maxHeartbeats 800000 in
set_option maxRecDepth 100000 in
theorem mine_any (v : Value) (A : List Ref.Act) (w : World) (H : ActRow w v A) (hA : A.length ≤ 1073741824) (hok : ∀ a ∈ A, Ref.ActOK a) :
    Calls Tryz.prog 88 #[v] w fun e w' => e = .returned (.bool (Ref.mine A)) ∧ w' = w := by
  obtain ⟨sa, sc, rfl⟩ := H.form
  go_enter Tryz.func88, Tryz.ntmps88
  go_wp2
  go_loop [3] (fun i => ∃ k : Nat, k ≤ A.length ∧ i = .int .i64 k ∧ ∀ j (h : j < A.length), j < k → Ref.mineAct A[j] = false) (fun i => A.length - (intOf i).toNat)
  case atStart => exact ⟨0, Nat.zero_le _, rfl, fun _ _ h => by omega⟩
  case round =>
    obtain ⟨k, hk, rfl, hno⟩ := hrel
    have HNO : Hid _ := hno
    clear hno
    by_cases hlt : k < A.length
    · obtain ⟨g, c, hv⟩ := H.pos (by omega)
      simp only [Value.slice.injEq, true_and] at hv
      obtain ⟨rfl, rfl⟩ := hv
      have hc1 := Row.cell (n := 4) (j := 1) (fun _ => rfl) H (by decide) hlt
      have hc2 := Row.cell (n := 4) (j := 2) (fun _ => rfl) H (by decide) hlt
      simp only [Ref.actCells, List.getElem?_cons_succ, List.getElem?_cons_zero] at hc1 hc2
      have o := hok A[k] (List.getElem_mem hlt)
      have o1 := o.event
      have o2 := o.id
      have HALL : Hid (Ref.mineAct A[k] = true → Ref.mine A = true) := fun h => List.any_eq_true.2 ⟨A[k], List.getElem_mem hlt, h⟩
      clear o hok
      cases h1 : Ref.begins A[k].event Ref.kAfter
      · cases h2 : Ref.begins A[k].id Ref.kAfter
        · have HM : Hid (Ref.mineAct A[k] = false) := by unfold Hid Ref.mineAct; rw [h1, h2]; rfl
          have H1 : Hid _ := h1
          have H2 : Hid _ := h2
          clear h1 h2
          go_wp2_with fail
          refine (begins_any _ Ref.kAfter _ (by unfold maxLen; omega) (by decide)).mono ?_
          rintro e w' ⟨rfl, rfl⟩
          rw [H1.out]
          go_wp2_with fail
          refine (begins_any _ Ref.kAfter _ (by unfold maxLen; omega) (by decide)).mono ?_
          rintro e w' ⟨rfl, rfl⟩
          rw [H2.out]
          go_wp2
          go_round
          case rel =>
            refine ⟨k + 1, by omega, by go_num, fun j h hj => ?_⟩
            by_cases e : j = k
            · subst e; exact HM.out
            · exact HNO.out j h (by omega)
          case measure => simp [intOf]; omega
        · have HM : Hid (Ref.mine A = true) := HALL.out (by unfold Ref.mineAct; rw [h1, h2]; rfl)
          have H1 : Hid _ := h1
          have H2 : Hid _ := h2
          clear h1 h2
          go_wp2_with fail
          refine (begins_any _ Ref.kAfter _ (by unfold maxLen; omega) (by decide)).mono ?_
          rintro e w' ⟨rfl, rfl⟩
          rw [H1.out]
          go_wp2_with fail
          refine (begins_any _ Ref.kAfter _ (by unfold maxLen; omega) (by decide)).mono ?_
          rintro e w' ⟨rfl, rfl⟩
          rw [H2.out]
          go_wp2
          go_ret
          exact ⟨by rw [HM.out]; rfl, rfl⟩
      · have HM : Hid (Ref.mine A = true) := HALL.out (by unfold Ref.mineAct; rw [h1]; rfl)
        have H1 : Hid _ := h1
        clear h1
        go_wp2_with fail
        refine (begins_any _ Ref.kAfter _ (by unfold maxLen; omega) (by decide)).mono ?_
        rintro e w' ⟨rfl, rfl⟩
        rw [H1.out]
        go_wp2_with fail
        refine (begins_any _ Ref.kAfter _ (by unfold maxLen; omega) (by decide)).mono ?_
        rintro e w' ⟨rfl, rfl⟩
        go_wp2
        go_ret
        exact ⟨by rw [HM.out]; rfl, rfl⟩
    · have HP : Hid (Ref.mine A = false) := by
        unfold Hid Ref.mine
        rw [List.any_eq_false]
        intro x hx
        obtain ⟨j, hj, rfl⟩ := List.getElem_of_mem hx
        rw [HNO.out j hj (by omega)]; exact Bool.false_ne_true
      go_wp2
      go_ret
      exact ⟨by rw [HP.out]; rfl, rfl⟩

set_option maxHeartbeats 800000 in
set_option maxRecDepth 100000 in
theorem regions_any (cb : Nat) (sv : Value) (X : List Ref.SV) (k : Int) (w : World) (H : ChartAt w cb sv X) (hcb : cb < w.heap.size) (hX : X.length ≤ 1073741824) :
    Calls Tryz.prog 85 #[.pointer (some ⟨cb, 0, none⟩), .int .i64 k] w fun e w' => Below w.heap.size w w' ∧ ∃ v, e = .returned v ∧ w'.ownsRow w.heap.size 3 1 v (Ref.regions X k).length ((Ref.regions X k).map fun (i : Nat) => Value.int .i64 i) := by
  obtain ⟨i0, hi, hz0, hz1, hz2⟩ := info_parts Tryz.infoInt
  have hcc := H.cell
  obtain ⟨sa, sc, rfl⟩ := H.row.form
  go_enter Tryz.func85, Tryz.ntmps85
  go_wp2
  go_loopw [5, 6] (fun v i wr => ∃ n : Nat, n ≤ X.length ∧ i = .int .i64 n ∧ wr.ownsRow w.heap.size 3 1 v (Ref.regTo X k n).length ((Ref.regTo X k n).map fun (i : Nat) => Value.int .i64 i) ∧ Below w.heap.size w wr) (fun _ i _ => X.length - (intOf i).toNat)
  case atStart => exact ⟨0, Nat.zero_le _, rfl, World.ownsRow_nil _ _ _ _, Below.refl _ _⟩
  case round =>
    obtain ⟨n, hn, rfl, hown, hbel⟩ := hrel
    have hsize := hbel.size
    have hcc' : wr.cell? ⟨cb, 0, none⟩ = some (.slice sa X.length sc) := by rw [hbel.cell (p := ⟨cb, 0, none⟩) hcb]; exact hcc
    clear hcc
    by_cases hlt : n < X.length
    · obtain ⟨g, c, hv⟩ := H.row.pos (by omega)
      simp only [Value.slice.injEq, true_and] at hv
      obtain ⟨rfl, rfl⟩ := hv
      have hg := (World.ownsRow.lt H.row g rfl).2
      have hc3 := H.row.cell (n := 11) (j := 3) (fun _ => rfl) (by decide) hlt
      have hc0 := H.row.cell (n := 11) (j := 0) (fun _ => rfl) (by decide) hlt
      simp only [Ref.svCells, List.getElem?_cons_succ, List.getElem?_cons_zero, Nat.add_zero] at hc3 hc0
      rw [← hbel.cell (p := ⟨g, n * 11 + 3, none⟩) hg] at hc3
      rw [← hbel.cell (p := ⟨g, n * 11, none⟩) hg] at hc0
      have hle := Ref.regTo_len X k n
      have HR : Hid (Ref.regTo X k (n + 1) = if Ref.isReg k X[n] then Ref.regTo X k n ++ [n] else Ref.regTo X k n) := by
        unfold Hid; rw [Ref.regTo, List.getElem?_eq_getElem hlt]; rfl
      by_cases hup : X[n].s.up = k
      · have hup' : (X[n].s.up == k) = true := by simpa using hup
        have HU : Hid _ := hup
        clear hup
        cases hw : (X[n].s.word.toList == [104, 105, 115, 116, 111, 114, 121])
        · have HR' : Hid (Ref.regTo X k (n + 1) = Ref.regTo X k n ++ [n]) := by
            unfold Hid; rw [HR.out, if_pos (by rw [Ref.isReg, decide_eq_true HU.out, Ref.cHistory, hw]; rfl)]
          clear HR
          go_wp2_with (at_builtin; refine wpList_append_own _ rfl _ _ 35 rfl w.heap.size 3 i0 (.int .i64 0) 1 8 Tryz.underlying35 hi hz0 hz1 hz2 rfl (by decide) _ _ _ rfl (hown.alloc _) ⟨wr.heap.size, 0, none⟩ 1 1 [.int .i64 n] rfl rfl (cell_one_new _ _ _) (fun x hx => by simp at hx; subst hx; rfl) (by unfold maxLen; omega) (by omega) (by simp; omega) ?_; intro v' w3 hown' hgrow3 hnil3)
          go_roundw
          case rel => exact ⟨n + 1, by omega, by go_num, by rw [HR'.out]; simpa using hown', (hbel.alloc (by omega) _).grown hgrow3 (by simp; omega) (fun q hq => (hown.lt q hq).1)⟩
          case measure => simp [intOf]; omega
        · have HR' : Hid (Ref.regTo X k (n + 1) = Ref.regTo X k n) := by
            unfold Hid; rw [HR.out, if_neg (by rw [Ref.isReg, Ref.cHistory, hw]; simp)]
          clear HR
          go_wp2
          go_roundw
          case rel => exact ⟨n + 1, by omega, by go_num, by rw [HR'.out]; exact hown, hbel⟩
          case measure => simp [intOf]; omega
      · have hup' : (X[n].s.up == k) = false := by simpa using hup
        have HR' : Hid (Ref.regTo X k (n + 1) = Ref.regTo X k n) := by
          unfold Hid; rw [HR.out, if_neg (by rw [Ref.isReg, decide_eq_false hup]; simp)]
        clear HR hup
        go_wp2
        go_roundw
        case rel => exact ⟨n + 1, by omega, by go_num, by rw [HR'.out]; exact hown, hbel⟩
        case measure => simp [intOf]; omega
    · obtain rfl : n = X.length := by omega
      go_wp2
      go_ret
      exact ⟨hbel, _, rfl, hown⟩
end Go.Proofs.YtegmoddppafkfaaGreatDoor
namespace Go.Proofs.YtegmoddppafkfaaGreatDoor
open Go.RowKit

namespace Ref
def upAt (X : List SV) (k : Int) : SV := X.getD k.toNat ⟨⟨ByteArray.empty, ByteArray.empty, false, 0, 0, 0, [], [], [], 0, 0⟩, Sl.nil, Sl.nil, Sl.nil⟩
def noneUp (X : List SV) (u : Int) : Bool := X.all fun y => !decide (y.s.up = u)
def fits (X : List SV) (x : SV) : Bool :=
  if decide (X.length = 24) || (decide (5 < x.s.depth) || (decide (x.s.up < 0) && (x.s.word.toList == cHistory))) then false
  else if x.s.up < 0 then true
  else if ((upAt X x.s.up).s.word.toList == cFinal) || ((upAt X x.s.up).s.word.toList == cHistory) then false
  else if (upAt X x.s.up).s.word.toList == cParallel then !(x.s.word.toList == cFinal)
  else !noneUp X x.s.up || !(x.s.word.toList == cHistory)
theorem bne_dec (a b : Int) : (a != b) = !decide (a = b) := by
  by_cases h : a = b <;> simp [h]
end Ref
theorem Tryz.sizeState : (Tryz.prog.info? 118).map (·.size) = some 11 := by kernel_rfl

set_option maxHeartbeats 1600000 in
set_option maxRecDepth 100000 in
theorem fits_any (cb : Nat) (sv : Value) (X : List Ref.SV) (x : Ref.SV) (w : World) (H : ChartAt w cb sv X) (hcb : cb < w.heap.size) (hX : X.length ≤ 1073741824) (hup : x.s.up < X.length) (_hup0 : -1 ≤ x.s.up) :
    Calls Tryz.prog 84 #[.pointer (some ⟨cb, 0, none⟩), .agg (Ref.svCells x).toArray] w fun e w' => e = .returned (.bool (Ref.fits X x)) ∧ Below w.heap.size w w' := by
  have hcc := H.cell
  by_cases h0 : x.s.up < 0
  · obtain ⟨sa, sc, rfl⟩ := H.row.form
    by_cases h24 : X.length = 24
    · have HF : Hid (Ref.fits X x = false) := by unfold Hid Ref.fits; rw [decide_eq_true h24]; rfl
      rw [Ref.svCells]
      go_enter Tryz.func84, Tryz.ntmps84
      go_wp2
      go_ret
      exact ⟨by rw [HF.out]; rfl, (Below.refl _ _).alloc (Nat.le_refl _) _⟩
    · by_cases hd : 5 < x.s.depth
      · have HF : Hid (Ref.fits X x = false) := by unfold Hid Ref.fits; rw [decide_eq_true hd]; simp
        rw [Ref.svCells]
        go_enter Tryz.func84, Tryz.ntmps84
        go_wp2
        go_ret
        exact ⟨by rw [HF.out]; rfl, (Below.refl _ _).alloc (Nat.le_refl _) _⟩
      · cases hh : (x.s.word.toList == [104, 105, 115, 116, 111, 114, 121])
        · have HF : Hid (Ref.fits X x = true) := by unfold Hid Ref.fits; rw [decide_eq_false h24, decide_eq_false hd, Ref.cHistory, hh, if_neg (by simp), if_pos h0]
          rw [Ref.svCells]
          go_enter Tryz.func84, Tryz.ntmps84
          go_wp2
          go_ret
          exact ⟨by rw [HF.out]; rfl, (Below.refl _ _).alloc (Nat.le_refl _) _⟩
        · have HF : Hid (Ref.fits X x = false) := by unfold Hid Ref.fits; rw [decide_eq_true h0, Ref.cHistory, hh]; simp
          rw [Ref.svCells]
          go_enter Tryz.func84, Tryz.ntmps84
          go_wp2
          go_ret
          exact ⟨by rw [HF.out]; rfl, (Below.refl _ _).alloc (Nat.le_refl _) _⟩
  · obtain ⟨u, hu⟩ : ∃ u : Nat, x.s.up = u := ⟨x.s.up.toNat, by omega⟩
    have hul : u < X.length := by omega
    obtain ⟨g, c, hv⟩ := H.row.pos (by omega)
    subst hv
    have hg := (World.ownsRow.lt H.row g rfl).2
    by_cases h24 : X.length = 24
    · have HF : Hid (Ref.fits X x = false) := by unfold Hid Ref.fits; rw [decide_eq_true h24]; rfl
      rw [Ref.svCells, hu]
      go_enter Tryz.func84, Tryz.ntmps84
      go_wp2
      go_ret
      exact ⟨by rw [HF.out]; rfl, (Below.refl _ _).alloc (Nat.le_refl _) _⟩
    · by_cases hd : 5 < x.s.depth
      · have HF : Hid (Ref.fits X x = false) := by unfold Hid Ref.fits; rw [decide_eq_true hd]; simp
        rw [Ref.svCells, hu]
        go_enter Tryz.func84, Tryz.ntmps84
        go_wp2
        go_ret
        exact ⟨by rw [HF.out]; rfl, (Below.refl _ _).alloc (Nat.le_refl _) _⟩
      · have hc : ∀ j, j < 11 → w.cell? ⟨g, u * 11 + j, none⟩ = (Ref.svCells X[u])[j]? := fun j hj => H.row.cell (n := 11) (fun _ => rfl) hj hul
        have k0 := hc 0 (by decide)
        have k1 := hc 1 (by decide)
        have k2 := hc 2 (by decide)
        have k3 := hc 3 (by decide)
        have k4 := hc 4 (by decide)
        have k5 := hc 5 (by decide)
        have k6 := hc 6 (by decide)
        have k7 := hc 7 (by decide)
        have k8 := hc 8 (by decide)
        have k9 := hc 9 (by decide)
        have k10 := hc 10 (by decide)
        simp only [Ref.svCells, List.getElem?_cons_succ, List.getElem?_cons_zero, Nat.add_zero] at k0 k1 k2 k3 k4 k5 k6 k7 k8 k9 k10
        clear hc
        rw [Ref.svCells, hu]
        go_enter Tryz.func84, Tryz.ntmps84
        go_wp2
        go_region
        go_wp2
        clear k1 k2 k3 k4 k5 k6 k7 k8 k9 k10 k0
        go_loopw [6, 7] (fun f i wr => ∃ k : Nat, k ≤ X.length ∧ i = .int .i64 k ∧ f = .bool ((X.take k).all fun y => !decide (y.s.up = u)) ∧ Below w.heap.size w wr ∧ wr.cell? ⟨w.heap.size, 0, none⟩ = some (.string x.s.word) ∧ wr.cell? ⟨w.heap.size, 3, none⟩ = some (.int .i64 u) ∧ wr.cell? ⟨w.heap.size + 1, 0, none⟩ = some (.string X[u].s.word)) (fun _ i _ => X.length - (intOf i).toNat)
        case atStart =>
          refine ⟨0, Nat.zero_le _, rfl, rfl, (((Below.refl _ _).alloc (Nat.le_refl _) _).alloc (by simp) _).drew, ?_, ?_, ?_⟩
          all_goals simp
        case round =>
          obtain ⟨k, hk, rfl, rfl, hbel, z0, z3, z1⟩ := hrel
          have hcc' : wr.cell? ⟨cb, 0, none⟩ = some (.slice (some ⟨g, 0, none⟩) X.length c) := by rw [hbel.cell (p := ⟨cb, 0, none⟩) hcb]; exact hcc
          clear hcc
          by_cases hlt : k < X.length
          · have k3 := H.row.cell (n := 11) (j := 3) (fun _ => rfl) (by decide) hlt
            simp only [Ref.svCells, List.getElem?_cons_succ, List.getElem?_cons_zero] at k3
            rw [← hbel.cell (p := ⟨g, k * 11 + 3, none⟩) hg] at k3
            have HT : Hid (((X.take (k + 1)).all fun y => !decide (y.s.up = u)) = (((X.take k).all fun y => !decide (y.s.up = u)) && !decide (X[k].s.up = u))) := by
              unfold Hid
              rw [List.take_succ_eq_append_getElem hlt, List.all_append]; simp
            generalize hF : ((X.take k).all fun y => !decide (y.s.up = u)) = F at *
            have hlt' : (k : Int) < (X.length : Int) := by omega
            cases F
            · go_wp2
              go_quiet (fail)
              go_wp2
              go_roundw
              case rel =>
                refine ⟨k + 1, by omega, by go_num, ?_, below_drewN hbel _, ?_, ?_, ?_⟩
                · rw [HT.out]; rfl
                · simpa using z0
                · simpa using z3
                · simpa using z1
              case measure => simp [intOf]; omega
            · go_wp2
              go_quiet (fail)
              go_wp2
              go_roundw
              case rel =>
                refine ⟨k + 1, by omega, by go_num, ?_, below_drewN hbel _, ?_, ?_, ?_⟩
                · rw [HT.out]; rw [Bool.true_and]; exact congrArg Value.bool (Ref.bne_dec _ _)
                · simpa using z0
                · simpa using z3
                · simpa using z1
              case measure => simp [intOf]; omega
          · obtain rfl : k = X.length := by omega
            have HN : Hid (((X.take X.length).all fun y => !decide (y.s.up = u)) = Ref.noneUp X u) := by unfold Hid; rw [List.take_length]; rfl
            have HU : Hid (Ref.upAt X x.s.up = X[u]) := by unfold Hid Ref.upAt; rw [hu]; simp [hul]
            have HF : Hid (Ref.fits X x = if (X[u].s.word.toList == Ref.cFinal) || (X[u].s.word.toList == Ref.cHistory) then false else if X[u].s.word.toList == Ref.cParallel then !(x.s.word.toList == Ref.cFinal) else !Ref.noneUp X u || !(x.s.word.toList == Ref.cHistory)) := by
              unfold Hid Ref.fits
              rw [decide_eq_false h24, decide_eq_false (show ¬ 5 < x.s.depth by omega), decide_eq_false (show ¬ x.s.up < 0 by omega), if_neg (by simp), if_neg (show ¬ x.s.up < 0 by omega), HU.out, hu]
            rw [HN.out]
            generalize Ref.noneUp X u = F at *
            cases p1 : (X[u].s.word.toList == [102, 105, 110, 97, 108])
            · cases p2 : (X[u].s.word.toList == [104, 105, 115, 116, 111, 114, 121])
              · cases p3 : (X[u].s.word.toList == [112, 97, 114, 97, 108, 108, 101, 108])
                · cases F
                  · go_wp2
                    go_ret
                    exact ⟨by rw [HF.out, Ref.cFinal, Ref.cHistory, Ref.cParallel, p1, p2, p3]; rfl, hbel⟩
                  · go_wp2
                    go_ret
                    exact ⟨by rw [HF.out, Ref.cFinal, Ref.cHistory, Ref.cParallel, p1, p2, p3]; rfl, hbel⟩
                · go_wp2
                  go_ret
                  exact ⟨by rw [HF.out, Ref.cFinal, Ref.cHistory, Ref.cParallel, p1, p2, p3]; rfl, hbel⟩
              · go_wp2
                go_ret
                exact ⟨by rw [HF.out, Ref.cFinal, Ref.cHistory, p1, p2]; rfl, hbel⟩
            · go_wp2
              go_ret
              exact ⟨by rw [HF.out, Ref.cFinal, p1]; rfl, hbel⟩
end Go.Proofs.YtegmoddppafkfaaGreatDoor
