/-
  MY OWN TEXT.
-/
import Derived.Test.YtegmoddppafkfaaGreatDoorM17
import Derived.Test.YtegmoddppafkfaaGreatDoorM31
import Derived.Test.YtegmoddppafkfaaGreatDoorSh
import Derived.Lib.AppendIntMem
import Derived.Shelf.Strings.BuilderK
namespace Go.Proofs.YtegmoddppafkfaaGreatDoor
open Go.RowKit

namespace Pro
/-- A state's own words. -/
def stText (k : Int) (n : ByteArray) : ByteArray := if k = 4 then wordOf k ++ Ref.b1 ++ n ++ Ref.bDeep else wordOf k ++ Ref.b1 ++ n
def bOnW : ByteArray := ⟨#[111, 110, 32]⟩
/-- A move's own words. -/
def mvText (m : Ref.Move) : ByteArray := if m.to.toList.isEmpty then bOnW ++ m.event else bOnW ++ m.event ++ Ref.bTo ++ m.to
end Pro
theorem w9 : (⟨#[112, 97, 114, 97, 108, 108, 101, 108, 32]⟩ : ByteArray) = Pro.bParallel ++ Ref.b1 := by decide
theorem w6 : (⟨#[102, 105, 110, 97, 108, 32]⟩ : ByteArray) = Pro.bFinal ++ Ref.b1 := by decide
theorem w8 : (⟨#[104, 105, 115, 116, 111, 114, 121, 32]⟩ : ByteArray) = Pro.bHistory ++ Ref.b1 := by decide
theorem w5 : (⟨#[115, 116, 97, 116, 101, 32]⟩ : ByteArray) = Pro.bState ++ Ref.b1 := by decide
set_option maxRecDepth 100000 in
set_option maxHeartbeats 1600000 in
theorem stateText_any (k : Int) (n : ByteArray) (d u : Int) (p e l m : Ref.Sl) (w : World) (h0 : 0 ≤ k) (h4 : k ≤ 4) (hn : n.size ≤ 1000000) :
    Calls Tryz.prog 145 #[.agg #[.int .i64 k, .string n, .int .i64 d, .int .i64 u, .slice p.a p.n p.c, .slice e.a e.n e.c, .slice l.a l.n l.c, .slice m.a m.n m.c]] w fun ev w' => ev = .returned (.string (Pro.stText k n)) ∧ Below w.heap.size w w' := by
  have hk : k = 0 ∨ k = 1 ∨ k = 2 ∨ k = 3 ∨ k = 4 := by omega
  rcases hk with rfl | rfl | rfl | rfl | rfl
  · have e1 : Pro.stText 0 n = (⟨#[115, 116, 97, 116, 101, 32]⟩ : ByteArray) ++ n := by rw [w5]; rfl
    rw [e1]
    go_enter Tryz.func145, Tryz.ntmps145
    go_wp2
    go_ret
    exact ⟨rfl, (Below.refl _ _).alloc (Nat.le_refl _) _⟩
  · have e1 : Pro.stText 1 n = (⟨#[112, 97, 114, 97, 108, 108, 101, 108, 32]⟩ : ByteArray) ++ n := by rw [w9]; rfl
    rw [e1]
    go_enter Tryz.func145, Tryz.ntmps145
    go_wp2
    go_ret
    exact ⟨rfl, (Below.refl _ _).alloc (Nat.le_refl _) _⟩
  · have e1 : Pro.stText 2 n = (⟨#[102, 105, 110, 97, 108, 32]⟩ : ByteArray) ++ n := by rw [w6]; rfl
    rw [e1]
    go_enter Tryz.func145, Tryz.ntmps145
    go_wp2
    go_ret
    exact ⟨rfl, (Below.refl _ _).alloc (Nat.le_refl _) _⟩
  · have e1 : Pro.stText 3 n = (⟨#[104, 105, 115, 116, 111, 114, 121, 32]⟩ : ByteArray) ++ n := by rw [w8]; rfl
    rw [e1]
    go_enter Tryz.func145, Tryz.ntmps145
    go_wp2
    go_ret
    exact ⟨rfl, (Below.refl _ _).alloc (Nat.le_refl _) _⟩
  · have e1 : Pro.stText 4 n = (⟨#[104, 105, 115, 116, 111, 114, 121, 32]⟩ : ByteArray) ++ n ++ (⟨#[32, 100, 101, 101, 112]⟩ : ByteArray) := by rw [w8]; rfl
    rw [e1]
    go_enter Tryz.func145, Tryz.ntmps145
    go_wp2
    go_ret
    exact ⟨rfl, (Below.refl _ _).alloc (Nat.le_refl _) _⟩
set_option maxRecDepth 100000 in
set_option maxHeartbeats 1600000 in
theorem moveText_any (y : Pro.PV) (w : World) (he : y.m.event.size ≤ 1000000) (ht : y.m.to.size ≤ 1000000) :
    Calls Tryz.prog 146 #[.agg #[.string y.m.event, .bool y.m.after, .int .u64 y.m.delay, .string y.m.to, .slice y.v.a y.v.n y.v.c]] w fun ev w' => ev = .returned (.string (Pro.mvText y.m)) ∧ Below w.heap.size w w' := by
  cases hte : y.m.to.toList.isEmpty
  · have e1 : Pro.mvText y.m = (⟨#[111, 110, 32]⟩ : ByteArray) ++ y.m.event ++ (⟨#[32, 116, 111, 32]⟩ : ByteArray) ++ y.m.to := by unfold Pro.mvText; rw [hte]; rfl
    rw [e1]
    have hne : (y.m.to.toList == []) = false := by
      cases h : y.m.to.toList with
      | nil => rw [h] at hte; cases hte
      | cons a b => rfl
    go_enter Tryz.func146, Tryz.ntmps146
    go_wp2
    go_ret
    exact ⟨rfl, (Below.refl _ _).alloc (Nat.le_refl _) _⟩
  · have e1 : Pro.mvText y.m = (⟨#[111, 110, 32]⟩ : ByteArray) ++ y.m.event := by unfold Pro.mvText; rw [hte]; rfl
    rw [e1]
    have hte' : y.m.to.toList = [] := List.isEmpty_iff.1 hte
    go_enter Tryz.func146, Tryz.ntmps146
    go_wp2
    go_ret
    exact ⟨rfl, (Below.refl _ _).alloc (Nat.le_refl _) _⟩
theorem raiseText_any (n : ByteArray) (w : World) (hn : n.size ≤ 1000000) : Calls Tryz.prog 373 #[.agg #[.string n]] w fun ev w' => ev = .returned (.string (Pro.bRaise ++ Ref.b1 ++ n)) ∧ Below w.heap.size w w' := by
  have e1 : Pro.bRaise ++ Ref.b1 ++ n = (⟨#[114, 97, 105, 115, 101, 32]⟩ : ByteArray) ++ n := by rw [show (⟨#[114, 97, 105, 115, 101, 32]⟩ : ByteArray) = Pro.bRaise ++ Ref.b1 by decide]
  rw [e1]
  go_enter Tryz.func373, Tryz.ntmps373
  go_wp2
  go_ret
  exact ⟨rfl, (Below.refl _ _).alloc (Nat.le_refl _) _⟩
theorem cancelText_any (n : ByteArray) (w : World) (hn : n.size ≤ 1000000) : Calls Tryz.prog 357 #[.agg #[.string n]] w fun ev w' => ev = .returned (.string (Pro.bCancel ++ Ref.b1 ++ n)) ∧ Below w.heap.size w w' := by
  have e1 : Pro.bCancel ++ Ref.b1 ++ n = (⟨#[99, 97, 110, 99, 101, 108, 32]⟩ : ByteArray) ++ n := by rw [show (⟨#[99, 97, 110, 99, 101, 108, 32]⟩ : ByteArray) = Pro.bCancel ++ Ref.b1 by decide]
  rw [e1]
  go_enter Tryz.func357, Tryz.ntmps357
  go_wp2
  go_ret
  exact ⟨rfl, (Below.refl _ _).alloc (Nat.le_refl _) _⟩
end Go.Proofs.YtegmoddppafkfaaGreatDoor
namespace Go.Proofs.YtegmoddppafkfaaGreatDoor
open Go.RowKit Go.Sort

set_option maxRecDepth 100000 in
set_option maxHeartbeats 1600000 in
theorem formatUintI_any (u : Nat) (w : World) (hu64 : u < 18446744073709551616) (hv : Env w) : Calls Tryz.prog 352 #[.int .u64 u, .int .i64 10] w fun e w' => e = .returned (.string (Ref.dec u)) ∧ Below w.heap.size w w' := by
  by_cases hs : u < 100
  · go_enter Tryz.func352, Tryz.ntmps352
    go_wp2_with fail
    refine (Tryz.internal_strconv_small u hs _).mono ?_
    rintro e w9 ⟨rfl, hw9⟩
    rw [hw9]
    clear hw9 w9
    dsimp only
    go_wp2
    go_ret
    exact ⟨rfl, Below.refl _ _⟩
  · have hu1 : 1 ≤ u := by omega
    have hnd20 : Lib.nDigits u ≤ 20 := by have := Lib.numDigits_eq u hu1 hu64; split at this <;> omega
    have hal : Tryz.prog.arrayLen 438 = 24 := by simp [Program.arrayLen, Tryz.underlying438]
    have hsl : ∀ W, (Instr.sliceAt 438 (.pointer (some ⟨w.heap.size, 0, none⟩)) none (some (.int .i64 (Lib.nDigits u : Int))) none).run Tryz.prog W = .ok (.slice (some ⟨w.heap.size, 0, none⟩) (Lib.nDigits u) 24) W := fun W => by
      rw [run_sliceAt_array_h W 438 ⟨w.heap.size, 0, none⟩ (by simp [Program.arrayLen, Program.elem, Tryz.underlying438]) .i64 (Lib.nDigits u : Int) (by omega) (by rw [hal]; omega)]
      go_simp
    have hH0 := Lib.holds_zero0 w 438 (Lib.nDigits u) (by omega)
    have hfmt := Tryz.internal_strconv_formatBase10 w.heap.size 0 24 u (Array.replicate (Lib.nDigits u) 0) (w.alloc (.cells Lib.zeros24 438)) hH0 (by rw [Array.size_replicate]; exact Lib.lt_pow_nDigits u) hu64 (by rw [Array.size_replicate]; omega)
    rw [Array.size_replicate] at hfmt
    have HH0 : Hid _ := hH0
    have htab := hv.tab
    clear hH0 hal
    go_enter Tryz.func352, Tryz.ntmps352
    go_wp2_with fail
    refine (Tryz.internal_strconv_numDigits u hu1 hu64 _ (Lib.tabIs_alloc htab _)).mono ?_
    rintro e w9 ⟨rfl, hw9⟩
    rw [hw9]
    clear hw9 w9
    dsimp only
    go_wp2_with fail
    refine Calls.mono hfmt ?_
    rintro e w' ⟨rfl, k, v', dk, rfl, hF⟩
    have hcv : (convert 192 9 (.slice (some ⟨w.heap.size, 0, none⟩) (Lib.nDigits u) 24)).run Tryz.prog ((putRow (fun (b : UInt8) => Value.int .u8 (b.toNat : Int)) (w.alloc (.cells Lib.zeros24 438)) w.heap.size 0 dk).drewN k) = .ok (.string ⟨(Lib.decDigits u).toArray⟩) ((putRow (fun (b : UInt8) => Value.int .u8 (b.toNat : Int)) (w.alloc (.cells Lib.zeros24 438)) w.heap.size 0 dk).drewN k) := by
      have h := run_convert_bytes_back (P := Tryz.prog) ((putRow (fun (b : UInt8) => Value.int .u8 (b.toNat : Int)) (w.alloc (.cells Lib.zeros24 438)) w.heap.size 0 dk).drewN k) 192 9 5 ⟨w.heap.size, 0, none⟩ 24 (Lib.decDigits u) Tryz.underlying192 Tryz.underlying5 Tryz.underlying9 (fun j hj => by
        rw [Lib.row_is_numeral hF j hj, Lib.add_plain, World.cell?_drewN]
        exact cell?_putRow (fun (b : UInt8) => Value.int .u8 (b.toNat : Int)) _ w.heap.size 0 _ dk HH0.out (by rw [hF.size, Array.size_replicate]) j (by rw [hF.size]; rw [Lib.decDigits_length] at hj; exact hj))
      rw [Lib.decDigits_length] at h
      exact h
    obtain ⟨os, eo⟩ := Lib.fin_at w (.cells Lib.zeros24 438) dk k 0
    have hbl : Below w.heap.size w ((putRow (fun (b : UInt8) => Value.int .u8 (b.toNat : Int)) (w.alloc (.cells Lib.zeros24 438)) w.heap.size 0 dk).drewN k) := by rw [eo]; exact Lib.below_grow _ _ (Nat.le_refl _) _ _
    have HB : Hid _ := hbl
    clear eo hbl
    dsimp only
    go_wp2
    go_ret
    exact ⟨rfl, HB.out⟩
theorem formatUint_any (u : Nat) (w : World) (hu64 : u < 18446744073709551616) (hv : Env w) : Calls Tryz.prog 351 #[.int .u64 u, .int .i64 10] w fun e w' => e = .returned (.string (Ref.dec u)) ∧ Below w.heap.size w w' := by
  go_enter Tryz.func351, Tryz.ntmps351
  go_wp2_with fail
  refine (formatUintI_any u _ hu64 hv).mono ?_
  rintro e w1 ⟨rfl, hb⟩
  dsimp only
  go_wp2
  go_ret
  exact ⟨rfl, hb⟩
end Go.Proofs.YtegmoddppafkfaaGreatDoor
namespace Go.Proofs.YtegmoddppafkfaaGreatDoor
open Go.RowKit

namespace Pro
def sText (n : ByteArray) (d : Nat) : ByteArray := bSend ++ Ref.b1 ++ n ++ Ref.b1 ++ Ref.dec d
end Pro
set_option maxRecDepth 100000 in
set_option maxHeartbeats 1600000 in
theorem sendText_any (n : ByteArray) (d : Nat) (w : World) (hn : n.size ≤ 1000000) (hd : d < 18446744073709551616) (hv : Env w) : Calls Tryz.prog 350 #[.agg #[.string n, .int .u64 d]] w fun ev w' => ev = .returned (.string (Pro.sText n d)) ∧ Below w.heap.size w w' := by
  have e1 : Pro.sText n d = (⟨#[115, 101, 110, 100, 32]⟩ : ByteArray) ++ n ++ (⟨#[32]⟩ : ByteArray) ++ Ref.dec d := by unfold Pro.sText; rw [show (⟨#[115, 101, 110, 100, 32]⟩ : ByteArray) = Pro.bSend ++ Ref.b1 by decide]; rfl
  rw [e1]
  have hds := Ref.dec_size20 (n := d) (by omega)
  have hb1 : Below w.heap.size w (w.alloc (.cells #[.string n, .int .u64 d] 329)) := (Below.refl _ _).alloc (Nat.le_refl _) _
  obtain ⟨W1, hW1⟩ : ∃ y, y = w.alloc (.cells #[.string n, .int .u64 d] 329) := ⟨_, rfl⟩
  have b0 : W1.cell? ⟨w.heap.size, 0, none⟩ = some (.string n) := by rw [hW1]; simp
  have b1 : W1.cell? ⟨w.heap.size, 1, none⟩ = some (.int .u64 d) := by rw [hW1]; simp
  have hlw : w.heap.size < W1.heap.size := by rw [hW1]; simp
  go_enter Tryz.func350, Tryz.ntmps350
  go_upto_region 1 with fail
  change Code.wp _ _ _ _ (w.alloc (.cells #[.string n, .int .u64 d] 329))
  rw [← hW1] at hb1 ⊢
  clear hW1 e1
  have hbs := hb1.size
  have hs1 : ((⟨#[115, 101, 110, 100, 32]⟩ : ByteArray) ++ n).size ≤ 1000005 := by rw [ByteArray.size_append']; have : (⟨#[115, 101, 110, 100, 32]⟩ : ByteArray).size = 5 := rfl; omega
  have hs2 : ((⟨#[115, 101, 110, 100, 32]⟩ : ByteArray) ++ n ++ (⟨#[32]⟩ : ByteArray)).size ≤ 1000006 := by rw [ByteArray.size_append']; have : (⟨#[32]⟩ : ByteArray).size = 1 := rfl; omega
  refine wp_region_held_drew (S := (fun W => W.cell? ⟨w.heap.size, 0, none⟩ = some (.string n) ∧ W.cell? ⟨w.heap.size, 1, none⟩ = some (.int .u64 d))) (by kernel_rfl) ⟨b0, b1⟩ (fun hHeld => ?_)
  refine wpAnyH_take (i := 0) (v := .pointer (some ⟨w.heap.size, 0, none⟩)) rfl (by kernel_rfl) (by kernel_rfl) (by kernel_rfl) (fun _ _ _ h => h) (Or.inl ⟨by rfl, fun w hSw => by (try dsimp only at hSw); go_simp; (try with_reducible rfl)⟩) hHeld ?_
  refine wpAnyH_take (i := 1) (v := .pointer (some ⟨w.heap.size, 0, none⟩)) rfl (by kernel_rfl) (by kernel_rfl) (by kernel_rfl) (fun _ _ _ h => h) (Or.inl ⟨by rfl, fun w hSw => by (try dsimp only at hSw); go_simp; (try with_reducible rfl)⟩) hHeld ?_
  refine wpAnyH_take (i := 2) (v := .string n) rfl (by kernel_rfl) (by kernel_rfl) (by kernel_rfl) (fun _ _ _ h => h) (Or.inl ⟨by rfl, fun w hSw => by (try dsimp only at hSw); go_simp; (try with_reducible rfl)⟩) hHeld ?_
  refine wpAnyH_take (i := 3) (v := .string ((⟨#[115, 101, 110, 100, 32]⟩ : ByteArray) ++ n)) rfl (by kernel_rfl) (by kernel_rfl) (by kernel_rfl) (fun _ _ _ h => h) (Or.inl ⟨by rfl, fun w hSw => by (try dsimp only at hSw); go_simp; omega⟩) hHeld ?_
  refine wpAnyH_take (i := 4) (v := .string ((⟨#[115, 101, 110, 100, 32]⟩ : ByteArray) ++ n ++ (⟨#[32]⟩ : ByteArray))) rfl (by kernel_rfl) (by kernel_rfl) (by kernel_rfl) (fun _ _ _ h => h) (Or.inl ⟨by rfl, fun w hSw => by (try dsimp only at hSw); go_simp; omega⟩) hHeld ?_
  refine wpAnyH_take (i := 5) (v := .pointer (some ⟨w.heap.size, 1, none⟩)) rfl (by kernel_rfl) (by kernel_rfl) (by kernel_rfl) (fun _ _ _ h => h) (Or.inl ⟨by rfl, fun w hSw => by (try dsimp only at hSw); go_simp; (try with_reducible rfl)⟩) hHeld ?_
  refine wpAnyH_take (i := 6) (v := .int .u64 d) rfl (by kernel_rfl) (by kernel_rfl) (by kernel_rfl) (fun _ _ _ h => h) (Or.inl ⟨by rfl, fun w hSw => by (try dsimp only at hSw); go_simp; (try with_reducible rfl)⟩) hHeld ?_
  refine wpAnyH_ready (rs := [7]) (by kernel_rfl) (by simp) ?_
  refine AllReadyH.cons rfl (fun K hK => ?_) AllReadyH.nil
  go_simp
  refine (formatUint_any d _ hd ((hv.keep hb1).keep (Below.refl _ _).drew)).mono ?_
  rintro e w2 ⟨rfl, hb2⟩
  have hb2' : Below W1.heap.size W1 w2 := ((Below.refl _ _).drew).trans hb2
  have k0 := (World.cell?_of_block (w := W1) (w' := w2) (a := ⟨w.heap.size, 0, none⟩) (hb2'.block _ hlw)).trans b0
  have k1 := (World.cell?_of_block (w := W1) (w' := w2) (a := ⟨w.heap.size, 1, none⟩) (hb2'.block _ hlw)).trans b1
  dsimp only
  refine hK.out _ _ ⟨k0, k1⟩ (fun hHeld => ?_)
  clear hK K
  refine wpAnyH_take (i := 8) (v := .string ((⟨#[115, 101, 110, 100, 32]⟩ : ByteArray) ++ n ++ (⟨#[32]⟩ : ByteArray) ++ Ref.dec d)) rfl (by kernel_rfl) (by kernel_rfl) (by kernel_rfl) (fun _ _ _ h => h) (Or.inl ⟨by rfl, fun w hSw => by (try dsimp only at hSw); go_simp; omega⟩) hHeld ?_
  refine wpAnyH_take (i := 9) (v := .string ((⟨#[115, 101, 110, 100, 32]⟩ : ByteArray) ++ n ++ (⟨#[32]⟩ : ByteArray) ++ Ref.dec d)) rfl (by kernel_rfl) (by kernel_rfl) (by kernel_rfl) (fun _ _ _ h => h) (Or.inl ⟨by rfl, fun w hSw => by (try dsimp only at hSw); go_simp; (try with_reducible rfl)⟩) hHeld ?_
  refine wpAnyH_done (by kernel_rfl) ?_ _
  go_wp2
  go_ret
  exact ⟨rfl, hb1.trans (hb2'.mono hbs)⟩
set_option maxRecDepth 100000 in
set_option maxHeartbeats 1600000 in
theorem sendAsText_any (n a : ByteArray) (d : Nat) (w : World) (hn : n.size ≤ 1000000) (ha : a.size ≤ 1000000) (hd : d < 18446744073709551616) (hv : Env w) : Calls Tryz.prog 355 #[.agg #[.string n, .int .u64 d, .string a]] w fun ev w' => ev = .returned (.string (Pro.sText n d ++ Ref.bAs ++ a)) ∧ Below w.heap.size w w' := by
  have hds := Ref.dec_size20 (n := d) (by omega)
  have hts : (Pro.sText n d).size ≤ 1000030 := by
    unfold Pro.sText
    simp only [ByteArray.size_append']
    have : Pro.bSend.size = 4 := rfl
    have : Ref.b1.size = 1 := rfl
    omega
  have hb1 : Below w.heap.size w (w.alloc (.cells #[.string n, .int .u64 d, .string a] 331)) := (Below.refl _ _).alloc (Nat.le_refl _) _
  obtain ⟨W1, hW1⟩ : ∃ y, y = w.alloc (.cells #[.string n, .int .u64 d, .string a] 331) := ⟨_, rfl⟩
  have b0 : W1.cell? ⟨w.heap.size, 0, none⟩ = some (.string n) := by rw [hW1]; simp
  have b1 : W1.cell? ⟨w.heap.size, 1, none⟩ = some (.int .u64 d) := by rw [hW1]; simp
  have b2 : W1.cell? ⟨w.heap.size, 2, none⟩ = some (.string a) := by rw [hW1]; simp
  have hlw : w.heap.size < W1.heap.size := by rw [hW1]; simp
  generalize hX : Pro.sText n d = X at *
  have HX : Hid _ := hX
  clear hX
  have HA : Hid (Ref.bAs = (⟨#[32, 97, 115, 32]⟩ : ByteArray)) := rfl
  rw [HA.out]
  have hs1 : (X ++ (⟨#[32, 97, 115, 32]⟩ : ByteArray)).size ≤ 1000034 := by rw [ByteArray.size_append']; have : (⟨#[32, 97, 115, 32]⟩ : ByteArray).size = 4 := rfl; omega
  go_enter Tryz.func355, Tryz.ntmps355
  go_upto_region 1 with fail
  change Code.wp _ _ _ _ (w.alloc (.cells #[.string n, .int .u64 d, .string a] 331))
  rw [← hW1] at hb1 ⊢
  clear hW1
  have hbs := hb1.size
  refine wp_region_held_drew (S := (fun W => W.cell? ⟨w.heap.size, 0, none⟩ = some (.string n) ∧ W.cell? ⟨w.heap.size, 1, none⟩ = some (.int .u64 d) ∧ W.cell? ⟨w.heap.size, 2, none⟩ = some (.string a))) (by kernel_rfl) ⟨b0, b1, b2⟩ (fun hHeld => ?_)
  refine wpAnyH_take (i := 0) (v := .pointer (some ⟨w.heap.size, 0, none⟩)) rfl (by kernel_rfl) (by kernel_rfl) (by kernel_rfl) (fun _ _ _ h => h) (Or.inl ⟨by rfl, fun w hSw => by (try dsimp only at hSw); go_simp; (try with_reducible rfl)⟩) hHeld ?_
  refine wpAnyH_take (i := 1) (v := .agg #[.string n, .int .u64 d]) rfl (by kernel_rfl) (by kernel_rfl) (by kernel_rfl) (fun _ _ _ h => h) (Or.inl ⟨by rfl, fun w hSw => by (try dsimp only at hSw); go_simp; (try with_reducible rfl)⟩) hHeld ?_
  refine wpAnyH_take (i := 4) (v := .pointer (some ⟨w.heap.size, 2, none⟩)) rfl (by kernel_rfl) (by kernel_rfl) (by kernel_rfl) (fun _ _ _ h => h) (Or.inl ⟨by rfl, fun w hSw => by (try dsimp only at hSw); go_simp; (try with_reducible rfl)⟩) hHeld ?_
  refine wpAnyH_take (i := 5) (v := .string a) rfl (by kernel_rfl) (by kernel_rfl) (by kernel_rfl) (fun _ _ _ h => h) (Or.inl ⟨by rfl, fun w hSw => by (try dsimp only at hSw); go_simp; (try with_reducible rfl)⟩) hHeld ?_
  refine wpAnyH_ready (rs := [2]) (by kernel_rfl) (by simp) ?_
  refine AllReadyH.cons rfl (fun K hK => ?_) AllReadyH.nil
  go_simp
  refine (sendText_any n d _ hn hd ((hv.keep hb1).keep (Below.refl _ _).drew)).mono ?_
  rintro e w2 ⟨rfl, hb2⟩
  rw [HX.out]
  have hb2' : Below W1.heap.size W1 w2 := ((Below.refl _ _).drew).trans hb2
  have k0 := (World.cell?_of_block (w := W1) (w' := w2) (a := ⟨w.heap.size, 0, none⟩) (hb2'.block _ hlw)).trans b0
  have k1 := (World.cell?_of_block (w := W1) (w' := w2) (a := ⟨w.heap.size, 1, none⟩) (hb2'.block _ hlw)).trans b1
  have k2 := (World.cell?_of_block (w := W1) (w' := w2) (a := ⟨w.heap.size, 2, none⟩) (hb2'.block _ hlw)).trans b2
  dsimp only
  refine hK.out _ _ ⟨k0, k1, k2⟩ (fun hHeld => ?_)
  clear hK K
  refine wpAnyH_take (i := 3) (v := .string (X ++ (⟨#[32, 97, 115, 32]⟩ : ByteArray))) rfl (by kernel_rfl) (by kernel_rfl) (by kernel_rfl) (fun _ _ _ h => h) (Or.inl ⟨by rfl, fun w hSw => by (try dsimp only at hSw); go_simp; omega⟩) hHeld ?_
  refine wpAnyH_take (i := 6) (v := .string (X ++ (⟨#[32, 97, 115, 32]⟩ : ByteArray) ++ a)) rfl (by kernel_rfl) (by kernel_rfl) (by kernel_rfl) (fun _ _ _ h => h) (Or.inl ⟨by rfl, fun w hSw => by (try dsimp only at hSw); go_simp; omega⟩) hHeld ?_
  refine wpAnyH_take (i := 7) (v := .string (X ++ (⟨#[32, 97, 115, 32]⟩ : ByteArray) ++ a)) rfl (by kernel_rfl) (by kernel_rfl) (by kernel_rfl) (fun _ _ _ h => h) (Or.inl ⟨by rfl, fun w hSw => by (try dsimp only at hSw); go_simp; (try with_reducible rfl)⟩) hHeld ?_
  refine wpAnyH_done (by kernel_rfl) ?_ _
  go_wp2
  go_ret
  exact ⟨rfl, hb1.trans (hb2'.mono hbs)⟩
end Go.Proofs.YtegmoddppafkfaaGreatDoor
namespace Go.Proofs.YtegmoddppafkfaaGreatDoor
open Go.RowKit Go.Proofs

def Tryz.renB : Go.Shelf.Ren := ⟨fun | 166 => 179 | 167 => 181 | 240 => 224 | 276 => 251 | n => n, fun | 20 => 20 | 37 => 192 | 70 => 233 | 72 => 235 | 75 => 101 | 80 => 244 | 164 => 201 | n => n, fun | n => n⟩
theorem Tryz.laysWS : Lays.n166 Tryz.prog Tryz.renB := {
  mixed := by kernel_rfl
  f166 := Tryz.func179.trans (congrArg some (by kernel_rfl))
  f240 := Tryz.func224.trans (congrArg some (by kernel_rfl))
  f276 := Tryz.func251.trans (congrArg some (by kernel_rfl))
  t0 := Tryz.underlying0
  a0 := Tryz.isAgg0
  z0 := Tryz.sizeOf0
  v0 := Tryz.zeroValue0
  t3 := Tryz.underlying3
  a3 := Tryz.isAgg3
  z3 := Tryz.sizeOf3
  v3 := Tryz.zeroValue3
  t4 := Tryz.underlying4
  a4 := Tryz.isAgg4
  z4 := Tryz.sizeOf4
  v4 := Tryz.zeroValue4
  t9 := Tryz.underlying9
  a9 := Tryz.isAgg9
  z9 := Tryz.sizeOf9
  v9 := Tryz.zeroValue9
  t20 := Tryz.underlying20
  a20 := Tryz.isAgg20
  z20 := Tryz.sizeOf20
  v20 := Tryz.zeroValue20
  t37 := Tryz.underlying192
  a37 := Tryz.isAgg192
  z37 := Tryz.sizeOf192
  v37 := Tryz.zeroValue192
  t70 := Tryz.underlying233
  a70 := Tryz.isAgg233
  z70 := Tryz.sizeOf233
  v70 := Tryz.zeroValue233
  t72 := Tryz.underlying235
  a72 := Tryz.isAgg235
  z72 := Tryz.sizeOf235
  v72 := Tryz.zeroValue235
  t75 := Tryz.underlying101
  a75 := Tryz.isAgg101
  z75 := Tryz.sizeOf101
  v75 := Tryz.zeroValue101
  t164 := Tryz.underlying201
  a164 := Tryz.isAgg201
  z164 := Tryz.sizeOf201
  v164 := Tryz.zeroValue201 }
theorem Tryz.laysWB : Lays.n167 Tryz.prog Tryz.renB := {
  mixed := by kernel_rfl
  f167 := Tryz.func181.trans (congrArg some (by kernel_rfl))
  f240 := Tryz.func224.trans (congrArg some (by kernel_rfl))
  f276 := Tryz.func251.trans (congrArg some (by kernel_rfl))
  t0 := Tryz.underlying0
  a0 := Tryz.isAgg0
  z0 := Tryz.sizeOf0
  v0 := Tryz.zeroValue0
  t4 := Tryz.underlying4
  a4 := Tryz.isAgg4
  z4 := Tryz.sizeOf4
  v4 := Tryz.zeroValue4
  t5 := Tryz.underlying5
  a5 := Tryz.isAgg5
  z5 := Tryz.sizeOf5
  v5 := Tryz.zeroValue5
  t9 := Tryz.underlying9
  a9 := Tryz.isAgg9
  z9 := Tryz.sizeOf9
  v9 := Tryz.zeroValue9
  t20 := Tryz.underlying20
  a20 := Tryz.isAgg20
  z20 := Tryz.sizeOf20
  v20 := Tryz.zeroValue20
  t37 := Tryz.underlying192
  a37 := Tryz.isAgg192
  z37 := Tryz.sizeOf192
  v37 := Tryz.zeroValue192
  t70 := Tryz.underlying233
  a70 := Tryz.isAgg233
  z70 := Tryz.sizeOf233
  v70 := Tryz.zeroValue233
  t72 := Tryz.underlying235
  a72 := Tryz.isAgg235
  z72 := Tryz.sizeOf235
  v72 := Tryz.zeroValue235
  t75 := Tryz.underlying101
  a75 := Tryz.isAgg101
  z75 := Tryz.sizeOf101
  v75 := Tryz.zeroValue101
  t164 := Tryz.underlying201
  a164 := Tryz.isAgg201
  z164 := Tryz.sizeOf201
  v164 := Tryz.zeroValue201 }
theorem Tryz.extraB : Builder.Extra Tryz.prog Tryz.renB := {
  sizeBuilder := by kernel_rfl
  liesBuilder := by kernel_rfl
  t5 := Tryz.underlying5
  a5 := Tryz.isAgg5
  z5 := Tryz.sizeOf5
  v5 := Tryz.zeroValue5
  infoByte := by kernel_rfl
  cellsByte := by kernel_rfl
  sizeByte := by kernel_rfl
  neB5 := by decide }
theorem writeString_any (B b : Nat) (bs : List Value) (s : ByteArray) (w : World) (h : Lib.IsBuilderF 235 5 B b bs w) (hlen : bs.length + s.size ≤ 140737488355328) (hBw : B ≤ w.heap.size) :
    Calls Tryz.prog 179 #[.pointer (some ⟨b, 0, none⟩), .string s] w fun e w' => e = .returned (.tuple #[.int .i64 s.size, .nilIface]) ∧ (Lib.BuilderAtF 235 5 B b (.pointer (some ⟨b, 0, none⟩)) (bs ++ Lib.strCells s) w' ∧ Below B w w' ∧ Lib.OthersKept 5 (some b) w w') :=
  Any.Builder_WriteString_k Tryz.laysWS Tryz.extraB B b bs s w h hlen hBw
theorem writeByte_any (B b : Nat) (bs : List Value) (c : Int) (w : World) (h : Lib.IsBuilderF 235 5 B b bs w) (hlen : bs.length + 1 ≤ 140737488355328) (hBw : B ≤ w.heap.size) :
    Calls Tryz.prog 181 #[.pointer (some ⟨b, 0, none⟩), .int .u8 c] w fun e w' => e = .returned .nilIface ∧ (Lib.BuilderAtF 235 5 B b (.pointer (some ⟨b, 0, none⟩)) (bs ++ [.int .u8 c]) w' ∧ Below B w w' ∧ Lib.OthersKept 5 (some b) w w') :=
  Any.Builder_WriteByte_k Tryz.laysWB Tryz.extraB B b bs c w h hlen hBw
end Go.Proofs.YtegmoddppafkfaaGreatDoor
namespace Go.Proofs.YtegmoddppafkfaaGreatDoor
open Go.RowKit Go.Proofs

/-- A writer in use or fresh, whose bytes are bs. -/
abbrev WrAt (B b : Nat) (p : Value) (bs : List Value) (w : World) : Prop := Lib.BuilderAtF 237 5 B b p bs w
def IsWr (B b : Nat) (bs : List Value) (w : World) : Prop := Lib.IsBuilderF 237 5 B b bs w
abbrev WrKept (b : Nat) (w w' : World) : Prop := Lib.OthersKept 5 (some b) w w'
theorem laysCC : Lays.n240 Tryz.prog Tryz.renB := { Tryz.laysWB with }
set_option maxHeartbeats 1000000 in
set_option maxRecDepth 100000 in
theorem wcopyCheck_fresh (b : Nat) (w : World) (h0 : w.cell? ⟨b, 0, none⟩ = some (.pointer none)) (hsh : w.shape? b = some (237, 2)) (hfz : w.frozen? ⟨b, 0, none⟩ = false) :
    Calls Tryz.prog 224 #[.pointer (some ⟨b, 0, none⟩)] w fun e w' => e = .returned (.tuple #[]) ∧ w' = w.setCell ⟨b, 0, none⟩ (.pointer (some ⟨b, 0, none⟩)) := by
  obtain ⟨j, hj, hjs⟩ := Option.map_eq_some_iff.1 Tryz.extraB.sizeBuilder
  have x1 := @run_callFunc_extern Tryz.prog 251 _ Extern.AbiNoEscape.same Tryz.func251 (by kernel_rfl) (by kernel_rfl) (by kernel_rfl) (by kernel_rfl)
  have x2 : ∀ (x : Value) (w : World), (Extern.AbiNoEscape.same #[x]).run Tryz.prog w = .ok x w := fun _ _ => rfl
  have x3 := Lib.run_to_unsafe w ⟨b, 0, none⟩ Tryz.underlying233 Tryz.underlying201 hj (by rw [hjs]; decide) hsh (Nat.zero_lt_succ 1)
  have x4 := Lib.run_from_unsafe w ⟨b, 0, none⟩ Tryz.underlying201 Tryz.underlying233 hj hsh (by kernel_rfl)
  go_enter Tryz.func224, Tryz.ntmps224
  go_wp2
  go_end0
  exact ⟨rfl, rfl⟩
theorem wcopyCheck (B b : Nat) (bs : List Value) (w : World) (h : IsWr B b bs w) :
    Calls Tryz.prog 224 #[.pointer (some ⟨b, 0, none⟩)] w fun e w' => e = .returned (.tuple #[]) ∧ (WrAt B b (.pointer (some ⟨b, 0, none⟩)) bs w' ∧ Below B w w' ∧ WrKept b w w') := by
  rcases h with h | h
  · refine (wcopyCheck_fresh b w h.cell0 h.shape h.frozen0).mono ?_
    rintro e w' ⟨rfl, rfl⟩
    exact ⟨rfl, h.used _, (Below.refl B w).setCell (p := ⟨b, 0, none⟩) h.1 _, (Lib.OthersKept.refl _ _ w).setCell ⟨b, 0, none⟩ rfl _⟩
  · refine (Any.Builder_copyCheck_used laysCC Tryz.extraB.toX72 b w h.cell0).mono ?_
    rintro e w' ⟨rfl, rfl⟩
    exact ⟨rfl, h, Below.refl B _, Lib.OthersKept.refl _ _ _⟩
set_option maxHeartbeats 2000000 in
set_option maxRecDepth 100000 in
theorem wWriteByte (B b : Nat) (bs : List Value) (c : Int) (w : World) (h : IsWr B b bs w) (hlen : bs.length + 1 ≤ 140737488355328) (hBw : B ≤ w.heap.size) :
    Calls Tryz.prog 181 #[.pointer (some ⟨b, 0, none⟩), .int .u8 c] w fun e w' => e = .returned .nilIface ∧ (IsWr B b (bs ++ [.int .u8 c]) w' ∧ Below B w w' ∧ WrKept b w w') := by
  obtain ⟨i0, hi, hz0, hz1, hz2⟩ := info_parts Tryz.extraB.infoByte
  go_enter Tryz.func181, Tryz.ntmps181
  go_wp2_with fail
  refine (wcopyCheck B b bs _ h).mono ?_
  rintro e w1 ⟨rfl, h1, hb1, hk1⟩
  obtain ⟨hB, v, hbk, hown, hne⟩ := h1
  have c0 : w1.cell? ⟨b, 0, none⟩ = some (.pointer (some ⟨b, 0, none⟩)) := by rw [Lib.cell_of_heap hbk]; rfl
  have c1 : w1.cell? ⟨b, 1, none⟩ = some v := by rw [Lib.cell_of_heap hbk]; rfl
  go_wp2_with (at_builtin; refine wpList_append_ownF _ rfl _ _ 192 rfl B 5 i0 (.int .u8 0) 1 1 Tryz.underlying192 hi hz0 hz1 hz2 rfl (by decide) _ _ _ rfl (hown.alloc _) ⟨w1.heap.size, 0, none⟩ 1 1 [.int .u8 c] rfl rfl ?c1 ?c2 ?c3 ?c4 ?c5 ?_)
  case c1 =>
    intro j u hj
    match j, hj with
    | 0, hj => simp at hj; subst hj; simp [Addr.add]
  case c2 => intro u hu; simp at hu; subst hu; rfl
  case c3 => unfold maxLen; omega
  case c4 => omega
  case c5 => have := hb1.size; simp; omega
  intro v' w2 hown' hgrow _
  have hlt : b < w1.heap.size := by
    rcases Nat.lt_or_ge b w1.heap.size with h' | h'
    · exact h'
    · simp [Array.getElem?_eq_none h'] at hbk
  have hb2 : w2.heap[b]? = some (.cells #[.pointer (some ⟨b, 0, none⟩), v] 237 (0, 0)) := by
    rw [hgrow.block b (by simp; omega) (fun e => hne e.symm), Lib.alloc_old w1 _ b hlt]
    exact hbk
  have d0 : w2.cell? ⟨b, 0, none⟩ = some (.pointer (some ⟨b, 0, none⟩)) := by rw [Lib.cell_of_heap hb2]; rfl
  have d1 : w2.cell? ⟨b, 1, none⟩ = some v := by rw [Lib.cell_of_heap hb2]; rfl
  have f1 : w2.frozen? ⟨b, 1, none⟩ = false := Lib.frozen_of_heap hb2 1
  obtain ⟨g, cap, rfl⟩ : ∃ g cap, v' = .slice (some ⟨g, 0, none⟩) (bs.length + 1) cap := by
    rcases hown'.2 with ⟨_, h0⟩ | ⟨g, cap, cur, fz, hv, _⟩
    · omega
    · exact ⟨g, cap, hv⟩
  go_wp2
  go_ret
  refine ⟨rfl, ?_, ?_, ((hk1.alloc _).grown hgrow (Lib.ownsRowF_kind (hown.alloc _))).setCell ⟨b, 1, none⟩ rfl _⟩
  · exact .inr (Lib.BuilderAtF.put (T := 237) (e := 5) hB hb2 (bs' := bs ++ [.int .u8 c]) (by simpa using hown') (by decide))
  · exact ((hb1.alloc (by have := hb1.size; omega) _).grown hgrow (by have := hb1.size; simp; omega) (fun k hk => (hown.lt k hk).1)).setCell (p := ⟨b, 1, none⟩) hB _
set_option maxHeartbeats 2000000 in
set_option maxRecDepth 100000 in
theorem wWriteString (B b : Nat) (bs : List Value) (s : ByteArray) (w : World) (h : IsWr B b bs w) (hlen : bs.length + s.size ≤ 140737488355328) (hBw : B ≤ w.heap.size) :
    Calls Tryz.prog 179 #[.pointer (some ⟨b, 0, none⟩), .string s] w fun e w' => e = .returned (.tuple #[.int .i64 s.size, .nilIface]) ∧ (IsWr B b (bs ++ Lib.strCells s) w' ∧ Below B w w' ∧ WrKept b w w') := by
  obtain ⟨i0, hi, hz0, hz1, hz2⟩ := info_parts Tryz.extraB.infoByte
  go_enter Tryz.func179, Tryz.ntmps179
  go_wp2_with fail
  refine (wcopyCheck B b bs _ h).mono ?_
  rintro e w1 ⟨rfl, h1, hb1, hk1⟩
  obtain ⟨hB, v, hbk, hown, hne⟩ := h1
  have c0 : w1.cell? ⟨b, 0, none⟩ = some (.pointer (some ⟨b, 0, none⟩)) := by rw [Lib.cell_of_heap hbk]; rfl
  have c1 : w1.cell? ⟨b, 1, none⟩ = some v := by rw [Lib.cell_of_heap hbk]; rfl
  go_wp2_with (at_builtin; refine Lib.wpList_append_own_stringF _ rfl _ _ 192 9 rfl B 5 i0 Tryz.underlying192 Tryz.underlying9 hi hz0 hz1 hz2 _ _ _ rfl hown s rfl ?c3 ?c4 ?c5 ?_)
  case c3 => unfold maxLen; omega
  case c4 => omega
  case c5 => have := hb1.size; omega
  intro v' w2 hown' hgrow _
  have hlt : b < w1.heap.size := by
    rcases Nat.lt_or_ge b w1.heap.size with h' | h'
    · exact h'
    · simp [Array.getElem?_eq_none h'] at hbk
  have hb2 : w2.heap[b]? = some (.cells #[.pointer (some ⟨b, 0, none⟩), v] 237 (0, 0)) := by
    rw [hgrow.block b hlt (fun e => hne e.symm)]
    exact hbk
  have d0 : w2.cell? ⟨b, 0, none⟩ = some (.pointer (some ⟨b, 0, none⟩)) := by rw [Lib.cell_of_heap hb2]; rfl
  have d1 : w2.cell? ⟨b, 1, none⟩ = some v := by rw [Lib.cell_of_heap hb2]; rfl
  have f1 : w2.frozen? ⟨b, 1, none⟩ = false := Lib.frozen_of_heap hb2 1
  obtain ⟨ao, n', cap, rfl⟩ : ∃ ao n' cap, v' = .slice ao n' cap := by
    rcases hown'.2 with ⟨hv, _⟩ | ⟨g, cap, cur, fz, hv, _⟩
    · exact ⟨_, _, _, hv⟩
    · exact ⟨_, _, _, hv⟩
  go_wp2
  go_ret2
  refine ⟨rfl, ?_, ?_, (hk1.grown hgrow (Lib.ownsRowF_kind hown)).setCell ⟨b, 1, none⟩ rfl _⟩
  · exact .inr (Lib.BuilderAtF.put (T := 237) (e := 5) hB hb2 (bs' := bs ++ Lib.strCells s) (by simpa [Lib.strCells_length] using hown') (by decide))
  · exact (hb1.grown hgrow (by have := hb1.size; omega) (fun k hk => (hown.lt k hk).1)).setCell (p := ⟨b, 1, none⟩) hB _
end Go.Proofs.YtegmoddppafkfaaGreatDoor
namespace Go.Proofs.YtegmoddppafkfaaGreatDoor
open Go.RowKit Go.Proofs

set_option maxHeartbeats 1000000 in
set_option maxRecDepth 100000 in
theorem wString (B b : Nat) (l : List UInt8) (w : World) (h : IsWr B b (Lib.byteCells l) w) (h0 : l ≠ []) :
    Calls Tryz.prog 109 #[.pointer (some ⟨b, 0, none⟩)] w fun e w' => e = .returned (.string ⟨l.toArray⟩) ∧ Below B w w' := by
  obtain ⟨p, hAt⟩ : ∃ p, WrAt B b p (Lib.byteCells l) w := by
    rcases h with h | h
    · exact ⟨_, h⟩
    · exact ⟨_, h⟩
  obtain ⟨hB, v, hbk, hown, hne⟩ := hAt
  have hl0 : l.length ≠ 0 := by simpa using h0
  rw [Lib.byteCells_length] at hown
  obtain ⟨g, cap, cur, fz, rfl, hbg, hg, hfz, hnc, hcm, hcs, htake⟩ : ∃ g cap cur fz, v = .slice (some ⟨g, 0, none⟩) l.length cap ∧ B ≤ g ∧ w.heap[g]? = some (.cells cur 5 fz) ∧ fz.2 ≤ l.length * 1 ∧ l.length ≤ cap ∧ cap ≤ maxLen ∧ cur.size = cap * 1 ∧ cur.toList.take (l.length * 1) = Lib.byteCells l := by
    rcases hown.2 with ⟨_, hz⟩ | ⟨g, cap, cur, fz, hv, r⟩
    · exact absurd hz hl0
    · exact ⟨g, cap, cur, fz, hv, r⟩
  have c1 : w.drew.cell? ⟨b, 1, none⟩ = some (.slice (some ⟨g, 0, none⟩) l.length cap) := by
    have : w.drew.heap[b]? = some (.cells #[p, .slice (some ⟨g, 0, none⟩) l.length cap] 237 (0, 0)) := hbk
    rw [Lib.cell_of_heap this]; rfl
  have hSD : (Builtin.unsafeSliceData_ #[192] 297 #[.slice (some ⟨g, 0, none⟩) l.length cap]).run Tryz.prog w.drew = .ok (.pointer (some ⟨g, 0, none⟩)) w.drew :=
    Lib.run_unsafeSliceData_row _ _ _ _ _ _ (by omega)
  have hUS : (Builtin.unsafeString_ #[297, 3] 9 #[.pointer (some ⟨g, 0, none⟩), .int .i64 l.length]).run Tryz.prog w.drew = .ok (.string ⟨l.toArray⟩) (w.drew.freeze ⟨g, 0, none⟩ l.length) := by
    refine Lib.run_unsafeString_row w.drew 297 3 9 5 Tryz.underlying297 Tryz.extraB.cellsByte g cur.size (by have hg' : w.drew.heap[g]? = some (.cells cur 5 fz) := hg; simp [World.shape?, hg']) l h0 (by omega) (by unfold maxLen at hcm; omega) ?_
    intro j x hx
    have := hown.cells (g := g) rfl j (.int .u8 x.toNat) (by simp [Lib.byteCells, hx])
    exact this
  have hbf : Below B w (w.drew.freeze ⟨g, 0, none⟩ l.length) := Lib.below_freeze (Below.drew (Below.refl B w)) (p := ⟨g, 0, none⟩) hbg _
  clear hown htake hcs hcm hnc hfz hg
  have mixed : Tryz.prog.follows .mixedOrders = true := by kernel_rfl
  go_enter Tryz.func109, Tryz.ntmps109
  go_wp2
  go_region_o
  all_goals (go_wp2; go_ret; exact ⟨rfl, hbf⟩)
set_option maxHeartbeats 2000000 in
set_option maxRecDepth 100000 in
theorem wString_nil (B b : Nat) (p : Value) (w : World) (hbk : w.heap[b]? = some (.cells #[p, .slice none 0 0] 237 (0, 0))) :
    Calls Tryz.prog 109 #[.pointer (some ⟨b, 0, none⟩)] w fun e w' => e = .returned (.string .empty) ∧ Below B w w' := by
  have hUS : ∀ (W : World) (q : Option Addr), (Builtin.unsafeString_ #[297, 3] 9 #[.pointer q, .int .i64 0]).run Tryz.prog W = .ok (.string .empty) W := fun W q => Lib.run_unsafeString_none W _ _ _ q
  have c1 : w.drew.cell? ⟨b, 1, none⟩ = some (.slice none 0 0) := by
    have : w.drew.heap[b]? = some (.cells #[p, .slice none 0 0] 237 (0, 0)) := hbk
    rw [Lib.cell_of_heap this]; rfl
  have hSD : (Builtin.unsafeSliceData_ #[192] 297 #[.slice none 0 0]).run Tryz.prog w.drew = .ok (.pointer none) w.drew := rfl
  have mixed : Tryz.prog.follows .mixedOrders = true := by kernel_rfl
  go_enter Tryz.func109, Tryz.ntmps109
  go_wp2
  go_region_o
  all_goals (go_wp2; go_ret; exact ⟨rfl, Below.drew (Below.refl B w)⟩)
end Go.Proofs.YtegmoddppafkfaaGreatDoor
