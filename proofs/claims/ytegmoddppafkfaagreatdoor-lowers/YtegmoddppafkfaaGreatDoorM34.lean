/-
  MY OWN TEXT.
-/
import Derived.Test.YtegmoddppafkfaaGreatDoorM33
namespace Go.Proofs.YtegmoddppafkfaaGreatDoor
open Go.RowKit Go.Proofs

theorem wr_block {B b : Nat} {bs : List Value} {w : World} (h : IsWr B b bs w) : B ≤ b ∧ ∃ p v, w.heap[b]? = some (.cells #[p, v] 237 (0, 0)) := by
  rcases h with ⟨hB, v, hb, _⟩ | ⟨hB, v, hb, _⟩
  · exact ⟨hB, _, v, hb⟩
  · exact ⟨hB, _, v, hb⟩
theorem IsWr.keep {B b : Nat} {bs : List Value} {w w' : World} (h : IsWr B b bs w) (k : Below w.heap.size w w') : IsWr B b bs w' := by
  have h1 : ∀ p, WrAt B b p bs w → WrAt B b p bs w' := fun p ⟨hB, v, hb, ho, hne⟩ => by
    refine ⟨hB, v, ?_, ⟨ho.1, ?_⟩, hne⟩
    · rw [k.block b (Array.getElem?_eq_some_iff.1 hb).1]; exact hb
    · rcases ho.2 with h' | ⟨g, cap, cur, fz, hv, hbg, hg, r⟩
      · exact .inl h'
      · refine .inr ⟨g, cap, cur, fz, hv, hbg, ?_, r⟩
        rw [k.block g (Array.getElem?_eq_some_iff.1 hg).1]; exact hg
  rcases h with h | h
  · exact .inl (h1 _ h)
  · exact .inr (h1 _ h)
theorem wrKept_below {b : Nat} {w w' : World} (k : Below w.heap.size w w') : WrKept b w w' := fun i o hi _ _ => by
  rw [k.block i (Array.getElem?_eq_some_iff.1 hi).1]; exact hi
theorem EnvAt.below {p : Nat} {w w' : World} (h : EnvAt p w) (k : Below p w w') : EnvAt p w' :=
  let ⟨w0, h1, h2, h3⟩ := h
  ⟨w0, h1, h2, h3.trans (k.mono h1)⟩
theorem cells_wr {b g : Nat} {c : Array Value} {e : TypeId} {fz : Nat × Nat} {w w' : World} {B : Nat} {bs : List Value} (h : w.heap[g]? = some (.cells c e fz)) (k : WrKept b w w') (hb : IsWr B b bs w) (h1 : e ≠ 5) (h2 : e ≠ 237) : w'.heap[g]? = some (.cells c e fz) := by
  refine k g _ h ?_ ?_
  · intro e0
    obtain ⟨_, p, v, hb⟩ := wr_block hb
    simp at e0
    subst e0
    rw [h] at hb
    simp at hb
    exact h2 hb.2.1
  · intro c' fz' h'
    simp at h'
    exact h1 h'.2.1
theorem own_wr {b base size n : Nat} {e : TypeId} {v : Value} {xs : List Value} {w w' : World} {B : Nat} {bs : List Value} (h : w.ownsRow base e size v n xs) (k : WrKept b w w') (hb : IsWr B b bs w) (h1 : e ≠ 5) (h2 : e ≠ 237) : w'.ownsRow base e size v n xs := by
  refine ⟨h.1, ?_⟩
  rcases h.2 with h' | ⟨g, cap, cur, hv, hbg, hg, r⟩
  · exact .inl h'
  · exact .inr ⟨g, cap, cur, hv, hbg, cells_wr hg k hb h1 h2, r⟩
theorem strCells_app (s t : ByteArray) : Lib.strCells (s ++ t) = Lib.strCells s ++ Lib.strCells t := by
  simp [Lib.strCells]
theorem strCells_len (s : ByteArray) : (Lib.strCells s).length = s.size := by simp [Lib.strCells]
theorem pad_repeat : ∀ d, (⟨(Lib.repeatL Ref.b1.data.toList d).toArray⟩ : ByteArray) = Ref.pad d
  | 0 => rfl
  | d + 1 => by
    rw [Lib.repeatL_add _ d 1, Ref.pad, ← pad_repeat d]
    apply ByteArray.ext
    simp [Lib.repeatL]
namespace Pro
/-- An action's own words. -/
def aText (a : Ref.Act) : ByteArray :=
  if a.how.toList == Ref.cRaise then bRaise ++ Ref.b1 ++ a.event
  else if a.how.toList == Ref.cCancel then bCancel ++ Ref.b1 ++ a.id
  else if a.id.size = 0 then sText a.event a.delay.toNat
  else sText a.event a.delay.toNat ++ Ref.bAs ++ a.id
theorem wAct_text {a : Ref.Act} (h : Shape a) (t : ByteArray) : Ref.wAct t a = t ++ Ref.bDo ++ aText a := by
  unfold Ref.wAct aText
  rcases h with ⟨h1, h2⟩ | ⟨h1, h2⟩ | h1
  · rw [h1, raise_list]
    simp only [show (Ref.cRaise == Ref.cCancel) = false by decide, show (Ref.cRaise == Ref.cRaise) = true by decide, if_true, Bool.false_eq_true, if_false, ByteArray.append_assoc]
  · rw [h1, cancel_list]
    simp only [show (Ref.cCancel == Ref.cCancel) = true by decide, show (Ref.cCancel == Ref.cRaise) = false by decide, if_true, Bool.false_eq_true, if_false, ByteArray.append_assoc]
  · rw [h1, send_list]
    simp only [show (Ref.cSend == Ref.cCancel) = false by decide, show (Ref.cSend == Ref.cRaise) = false by decide, Bool.false_eq_true, if_false]
    by_cases h3 : a.id.size = 0
    · have : a.id.toList = [] := by rw [ByteArray.toList_eq]; exact List.eq_nil_of_length_eq_zero h3
      rw [if_pos h3, this, if_pos (by decide)]
      simp only [sText, ByteArray.append_assoc]
    · have : ¬ (a.id.toList == []) = true := by
        rw [ByteArray.toList_eq]
        intro e
        simp at e
        exact h3 (by rw [ByteArray.size]; simp [e])
      rw [if_neg h3, if_neg this]
      simp only [sText, ByteArray.append_assoc]
end Pro
theorem EnvAt.drewE {p : Nat} {w : World} (h : EnvAt p w) : Env w.drew := h.here.keep (Below.refl _ _).drew
/-- The four makes of actions, with their words. -/
theorem aText_cases (x : Ref.Act) (dl : Nat) (hd : x.delay = dl) : (actV x = .iface 435 (.agg #[.string x.event]) ∧ Pro.aText x = Pro.bRaise ++ Ref.b1 ++ x.event) ∨ (actV x = .iface 333 (.agg #[.string x.id]) ∧ Pro.aText x = Pro.bCancel ++ Ref.b1 ++ x.id) ∨ (actV x = .iface 329 (.agg #[.string x.event, .int .u64 dl]) ∧ Pro.aText x = Pro.sText x.event dl) ∨ (actV x = .iface 331 (.agg #[.string x.event, .int .u64 dl, .string x.id]) ∧ Pro.aText x = Pro.sText x.event dl ++ Ref.bAs ++ x.id) := by
  unfold actV Pro.aText
  rw [hd]
  cases h1 : (x.how.toList == Ref.cRaise)
  · cases h2 : (x.how.toList == Ref.cCancel)
    · simp only [Bool.false_eq_true, if_false, Int.toNat_natCast]
      by_cases h3 : x.id.size = 0
      · rw [if_pos h3, if_pos h3]; exact .inr (.inr (.inl ⟨rfl, rfl⟩))
      · rw [if_neg h3, if_neg h3]; exact .inr (.inr (.inr ⟨rfl, rfl⟩))
    · simp only [Bool.false_eq_true, if_false, if_true]
      exact .inr (.inl ⟨by first | rfl | trivial, by first | rfl | trivial⟩)
  · simp only [if_true]
    exact .inl ⟨by first | rfl | trivial, by first | rfl | trivial⟩
theorem act_cell {w : World} {A : List Ref.Act} {a : Option Addr} {n c : Nat} (hA : w.ownsRow 0 324 1 (.slice a n c) A.length (A.map actV)) {k : Nat} (hk : k < A.length) : ∃ ab, a = some ⟨ab, 0, none⟩ ∧ w.cell? ⟨ab, k, none⟩ = some (actV A[k]) ∧ A.length ≤ c := by
  rcases hA.2 with ⟨_, h0⟩ | ⟨g, cap, cur, h, _, hg, hle, _, _, h4⟩
  · omega
  · simp at h
    refine ⟨g, h.1, ?_, by rw [h.2.2]; exact hle⟩
    rw [cell_of_row w g k _ _ _ hg]
    have h5 : (cur.toList.take (A.length * 1))[k]? = (A.map actV)[k]? := by rw [h4]
    rw [List.getElem?_take, if_pos (by omega)] at h5
    rw [← Array.getElem?_toList, h5]
    simp [List.getElem?_eq_getElem hk]
theorem act_len {w : World} {A : List Ref.Act} {a : Option Addr} {n c : Nat} (hA : w.ownsRow 0 324 1 (.slice a n c) A.length (A.map actV)) : n = A.length := by
  rcases hA.2 with ⟨h, h0⟩ | ⟨g, cap, cur, h, _⟩
  · simp at h; rw [h0]; exact h.2.1
  · simp at h; exact h.2.1
theorem Tryz.mTextR (a : Value) (w : World) : (method 599 435 (.agg #[a]) "Text").run Tryz.prog w = .ok (373, .agg #[a]) w := by kernel_rfl
theorem Tryz.mTextC (a : Value) (w : World) : (method 599 333 (.agg #[a]) "Text").run Tryz.prog w = .ok (357, .agg #[a]) w := by kernel_rfl
theorem Tryz.mTextS (a b : Value) (w : World) : (method 599 329 (.agg #[a, b]) "Text").run Tryz.prog w = .ok (350, .agg #[a, b]) w := by kernel_rfl
theorem Tryz.mTextA (a b c : Value) (w : World) : (method 599 331 (.agg #[a, b, c]) "Text").run Tryz.prog w = .ok (355, .agg #[a, b, c]) w := by kernel_rfl
set_option maxRecDepth 100000 in
set_option maxHeartbeats 3200000 in
theorem wline_any (B b : Nat) (bs : List Value) (d : Nat) (hd : ByteArray) (A : List Ref.Act) (a : Option Addr) (n c : Nat) (w : World) (h : IsWr B b bs w) (hBw : B ≤ w.heap.size) (hA : w.ownsRow 0 324 1 (.slice a n c) A.length (A.map actV)) (hS : ∀ x ∈ A, Pro.Shape x) (hsm : ∀ x ∈ A, Ref.ActSm x) (hl : A.length ≤ 100000) (hd0 : d ≤ 100000) (hh : hd.size ≤ 1000000) (hlen : bs.length ≤ 100000000000000) (hv : EnvAt B w) :
    Calls Tryz.prog 144 #[.pointer (some ⟨b, 0, none⟩), .int .i64 d, .string hd, .slice a n c] w fun e w' => e = .returned (.tuple #[]) ∧ IsWr B b (bs ++ Lib.strCells (Ref.pad d ++ hd ++ Ref.written A ++ Ref.bNl)) w' ∧ Below B w w' ∧ WrKept b w w' := by
  go_enter Tryz.func144, Tryz.ntmps144
  have HEnv : Hid _ := hv
  clear hv
  go_upto_region 1 with fail
  refine wp_region_any (by kernel_rfl) ?_
  change wpAny _ _ _ _ _ _ _ (World.drew _)
  refine wpAny_take (i := 0) (v := .pointer (some ⟨b, 0, none⟩)) rfl (by kernel_rfl) (by kernel_rfl) (by kernel_rfl) (fun _ _ _ h => h) (Or.inl ⟨by rfl, fun w => by go_simp⟩) ?_
  refine wpAny_take (i := 1) (v := .pointer (some ⟨b, 0, none⟩)) rfl (by kernel_rfl) (by kernel_rfl) (by kernel_rfl) (fun _ _ _ h => h) (Or.inl ⟨by rfl, fun w => by go_simp⟩) ?_
  refine wpAny_take (i := 2) (v := .pointer (some ⟨b, 0, none⟩)) rfl (by kernel_rfl) (by kernel_rfl) (by kernel_rfl) (fun _ _ _ h => h) (Or.inl ⟨by rfl, fun w => by go_simp⟩) ?_
  refine wpAny_take (i := 3) (v := .int .i64 d) rfl (by kernel_rfl) (by kernel_rfl) (by kernel_rfl) (fun _ _ _ h => h) (Or.inl ⟨by rfl, fun w => by go_simp⟩) ?_
  refine wpAny_ready (rs := [4]) (by kernel_rfl) (by simp) ?_
  refine AllReady.cons rfl (fun K hK => ?_) AllReady.nil
  go_simp
  refine Calls.mono (Tryz.strings_Repeat Ref.b1 d _ (by omega) (by have : Ref.b1.size = 1 := rfl; rw [this]; omega)) ?_
  rintro e w1 ⟨rfl, hb1⟩
  rw [pad_repeat]
  have hb1' : Below w.heap.size w w1 := ((Below.refl _ _).drew).trans hb1
  have hw1 := h.keep hb1'
  have hk1 : WrKept b w w1 := wrKept_below hb1'
  have hs1 := hb1'.size
  dsimp only
  refine hK _ _ ?_
  clear hK K
  refine wpAny_ready (rs := [5]) (by kernel_rfl) (by simp) ?_
  refine AllReady.cons rfl (fun K hK => ?_) AllReady.nil
  go_simp
  refine Calls.mono (wWriteString B b bs (Ref.pad d) w1 hw1 (by rw [Ref.pad_size]; omega) (by omega)) ?_
  rintro e w2 ⟨rfl, hw2, hb2, hk2⟩
  have hb2' : Below B w w2 := (hb1'.mono hBw).trans hb2
  have hk2' : WrKept b w w2 := hk1.trans hk2
  have hs2 := hb2'.size
  clear hb1 hb1' hw1 hk1 hb2 hk2 hs1
  dsimp only
  refine hK _ _ ?_
  clear hK K w1
  refine wpAny_done (by kernel_rfl) ?_ _
  go_wp2_with fail
  refine Calls.mono (wWriteString B b _ hd w2 hw2 (by rw [List.length_append, strCells_len, Ref.pad_size]; omega) (by omega)) ?_
  rintro e w3 ⟨rfl, hw3, hb3, hk3⟩
  have hb3' : Below B w w3 := hb2'.trans hb3
  have hk3' : WrKept b w w3 := hk2'.trans hk3
  have hs3 := hb3'.size
  rw [List.append_assoc, ← strCells_app] at hw3
  clear hb2' hk2' hb3 hk3 hs2
  have hn := act_len hA
  subst hn
  have HA : Hid _ := hA
  have HSh : Hid _ := hS
  have HSm : Hid _ := hsm
  have HW : Hid _ := h
  clear hA hS hsm h
  go_wp2
  go_loopg [23] A.length (fun q i wr => ∃ k : Nat, q = A.length - k ∧ k ≤ A.length ∧ i = .int .i64 k ∧ IsWr B b (bs ++ Lib.strCells (Ref.pad d ++ hd ++ Ref.writTo A k)) wr ∧ Below B w wr ∧ WrKept b w wr)
  case atStart => exact ⟨0, rfl, Nat.zero_le _, rfl, by rw [show Ref.pad d ++ hd ++ Ref.writTo A 0 = Ref.pad d ++ hd from ByteArray.append_empty]; exact hw3, hb3', hk3'⟩
  case round =>
    obtain ⟨k, hq, hk, rfl, hwr, hbr, hkr⟩ := hrel
    have hbs := hbr.size
    have hrw : ∀ j, (Ref.writTo A j).size ≤ j * 20000 := Ref.writTo_small HSm.out
    have hrk := hrw k
    by_cases hkn : k < A.length
    · have hAr := own_wr HA.out hkr HW.out (by decide) (by decide)
      obtain ⟨ab, ha, ck, hcc⟩ := act_cell hAr hkn
      subst ha
      obtain ⟨x, hx⟩ : ∃ x, x = A[k] := ⟨_, rfl⟩
      rw [← hx] at ck
      have hxS : Pro.Shape x := HSh.out x (by rw [hx]; exact List.getElem_mem hkn)
      have hxm : Ref.ActSm x := HSm.out x (by rw [hx]; exact List.getElem_mem hkn)
      obtain ⟨dl, hdl, hdl2⟩ := hxm.delay
      have hev := hxm.event
      have hid := hxm.id
      have HN : Hid (Ref.writTo A (k + 1) = Ref.writTo A k ++ Ref.bDo ++ Pro.aText x) := by
        unfold Hid
        rw [Ref.writTo, List.getElem?_eq_getElem hkn, ← hx]
        exact Pro.wAct_text hxS _
      have hsz : (Ref.pad d ++ hd ++ Ref.writTo A k).size ≤ 2002000000 := by
        rw [ByteArray.size_append', ByteArray.size_append', Ref.pad_size]
        have : k * 20000 ≤ 100000 * 20000 := Nat.mul_le_mul_right _ (by omega)
        omega
      clear hrk hrw hAr hx hxS hxm
      rcases aText_cases x dl hdl with ⟨hvv, hnm⟩ | ⟨hvv, hnm⟩ | ⟨hvv, hnm⟩ | ⟨hvv, hnm⟩
      · rw [hvv] at ck
        rw [hnm] at HN
        clear hvv hnm
        have hmN := Tryz.mTextR
        have hts : (Pro.bRaise ++ Ref.b1 ++ x.event).size ≤ 20000 := by
          simp only [ByteArray.size_append']
          have e1 : Ref.b1.size = 1 := rfl
          have e2 : Pro.bRaise.size = 5 := rfl
          have e3 : Pro.bCancel.size = 6 := rfl
          have e4 : Pro.bSend.size = 4 := rfl
          have e5 : Ref.bAs.size = 4 := rfl
          have e6 := Ref.dec_size20 (n := dl) (by omega)
          omega
        go_wp2_with fail
        refine Calls.mono (wWriteString B b _ Ref.bDo _ hwr (by rw [List.length_append, strCells_len]; have : Ref.bDo.size = 4 := rfl; omega) (by omega)) ?_
        rintro e w5 ⟨rfl, hw5, hb5, hk5⟩
        have hb5' : Below B w w5 := hbr.trans hb5
        have hk5' : WrKept b w w5 := hkr.trans hk5
        have hs5 := hb5'.size
        rw [List.append_assoc, ← strCells_app] at hw5
        have HEnv2 : Hid (EnvAt B w5) := EnvAt.below HEnv.out hb5'
        clear hb5 hk5
        go_upto_region 1 with fail
        refine wp_region_any (by kernel_rfl) ?_
        change wpAny _ _ _ _ _ _ _ (World.drew _)
        refine wpAny_take (i := 0) (v := .pointer (some ⟨b, 0, none⟩)) rfl (by kernel_rfl) (by kernel_rfl) (by kernel_rfl) (fun _ _ _ h => h) (Or.inl ⟨by rfl, fun w => by go_simp⟩) ?_
        refine wpAny_take (i := 1) (v := .pointer (some ⟨b, 0, none⟩)) rfl (by kernel_rfl) (by kernel_rfl) (by kernel_rfl) (fun _ _ _ h => h) (Or.inl ⟨by rfl, fun w => by go_simp⟩) ?_
        refine wpAny_take (i := 2) (v := .pointer (some ⟨b, 0, none⟩)) rfl (by kernel_rfl) (by kernel_rfl) (by kernel_rfl) (fun _ _ _ h => h) (Or.inl ⟨by rfl, fun w => by go_simp⟩) ?_
        refine wpAny_take (i := 3) (v := (.iface 435 (.agg #[.string x.event]))) rfl (by kernel_rfl) (by kernel_rfl) (by kernel_rfl) (fun _ _ _ h => h) (Or.inl ⟨by rfl, fun w => by go_simp⟩) ?_
        refine wpAny_ready (rs := [4]) (by kernel_rfl) (by simp) ?_
        refine AllReady.cons rfl (fun K hK => ?_) AllReady.nil
        go_simp
        refine Calls.mono (raiseText_any x.event _ (by omega)) ?_
        rintro e w6 ⟨rfl, hb6⟩
        have hb6' : Below w5.heap.size w5 w6 := ((Below.refl _ _).drew).trans hb6
        have hw6 := hw5.keep hb6'
        have hk6 : WrKept b w w6 := hk5'.trans (wrKept_below hb6')
        have hbw6 : Below B w w6 := hb5'.trans (hb6'.mono (by omega))
        have hs6 := hbw6.size
        clear hb6 hb6' hw5 hk5' hb5'
        dsimp only
        refine hK _ _ ?_
        clear hK K
        refine wpAny_ready (rs := [5]) (by kernel_rfl) (by simp) ?_
        refine AllReady.cons rfl (fun K hK => ?_) AllReady.nil
        go_simp
        refine Calls.mono (wWriteString B b _ (Pro.bRaise ++ Ref.b1 ++ x.event) _ hw6 (by rw [List.length_append, strCells_len, ByteArray.size_append']; have : Ref.bDo.size = 4 := rfl; omega) (by omega)) ?_
        rintro e w7 ⟨rfl, hw7, hb7, hk7⟩
        have hb7' : Below B w w7 := hbw6.trans hb7
        have hk7' : WrKept b w w7 := hk6.trans hk7
        rw [List.append_assoc, ← strCells_app] at hw7
        have hw7' : IsWr B b (bs ++ Lib.strCells (Ref.pad d ++ hd ++ Ref.writTo A (k + 1))) w7 := by rw [HN.out]; simpa only [ByteArray.append_assoc] using hw7
        clear hb7 hk7 hw7 hw6 hk6 hbw6
        dsimp only
        refine hK _ _ ?_
        clear hK K
        refine wpAny_done (by kernel_rfl) ?_ _
        go_wp2
        go_roundg (A.length - (k + 1))
        case measure => omega
        case rel => exact ⟨k + 1, rfl, by omega, by go_num, hw7', hb7', hk7'⟩
      · rw [hvv] at ck
        rw [hnm] at HN
        clear hvv hnm
        have hmN := Tryz.mTextC
        have hts : (Pro.bCancel ++ Ref.b1 ++ x.id).size ≤ 20000 := by
          simp only [ByteArray.size_append']
          have e1 : Ref.b1.size = 1 := rfl
          have e2 : Pro.bRaise.size = 5 := rfl
          have e3 : Pro.bCancel.size = 6 := rfl
          have e4 : Pro.bSend.size = 4 := rfl
          have e5 : Ref.bAs.size = 4 := rfl
          have e6 := Ref.dec_size20 (n := dl) (by omega)
          omega
        go_wp2_with fail
        refine Calls.mono (wWriteString B b _ Ref.bDo _ hwr (by rw [List.length_append, strCells_len]; have : Ref.bDo.size = 4 := rfl; omega) (by omega)) ?_
        rintro e w5 ⟨rfl, hw5, hb5, hk5⟩
        have hb5' : Below B w w5 := hbr.trans hb5
        have hk5' : WrKept b w w5 := hkr.trans hk5
        have hs5 := hb5'.size
        rw [List.append_assoc, ← strCells_app] at hw5
        have HEnv2 : Hid (EnvAt B w5) := EnvAt.below HEnv.out hb5'
        clear hb5 hk5
        go_upto_region 1 with fail
        refine wp_region_any (by kernel_rfl) ?_
        change wpAny _ _ _ _ _ _ _ (World.drew _)
        refine wpAny_take (i := 0) (v := .pointer (some ⟨b, 0, none⟩)) rfl (by kernel_rfl) (by kernel_rfl) (by kernel_rfl) (fun _ _ _ h => h) (Or.inl ⟨by rfl, fun w => by go_simp⟩) ?_
        refine wpAny_take (i := 1) (v := .pointer (some ⟨b, 0, none⟩)) rfl (by kernel_rfl) (by kernel_rfl) (by kernel_rfl) (fun _ _ _ h => h) (Or.inl ⟨by rfl, fun w => by go_simp⟩) ?_
        refine wpAny_take (i := 2) (v := .pointer (some ⟨b, 0, none⟩)) rfl (by kernel_rfl) (by kernel_rfl) (by kernel_rfl) (fun _ _ _ h => h) (Or.inl ⟨by rfl, fun w => by go_simp⟩) ?_
        refine wpAny_take (i := 3) (v := (.iface 333 (.agg #[.string x.id]))) rfl (by kernel_rfl) (by kernel_rfl) (by kernel_rfl) (fun _ _ _ h => h) (Or.inl ⟨by rfl, fun w => by go_simp⟩) ?_
        refine wpAny_ready (rs := [4]) (by kernel_rfl) (by simp) ?_
        refine AllReady.cons rfl (fun K hK => ?_) AllReady.nil
        go_simp
        refine Calls.mono (cancelText_any x.id _ (by omega)) ?_
        rintro e w6 ⟨rfl, hb6⟩
        have hb6' : Below w5.heap.size w5 w6 := ((Below.refl _ _).drew).trans hb6
        have hw6 := hw5.keep hb6'
        have hk6 : WrKept b w w6 := hk5'.trans (wrKept_below hb6')
        have hbw6 : Below B w w6 := hb5'.trans (hb6'.mono (by omega))
        have hs6 := hbw6.size
        clear hb6 hb6' hw5 hk5' hb5'
        dsimp only
        refine hK _ _ ?_
        clear hK K
        refine wpAny_ready (rs := [5]) (by kernel_rfl) (by simp) ?_
        refine AllReady.cons rfl (fun K hK => ?_) AllReady.nil
        go_simp
        refine Calls.mono (wWriteString B b _ (Pro.bCancel ++ Ref.b1 ++ x.id) _ hw6 (by rw [List.length_append, strCells_len, ByteArray.size_append']; have : Ref.bDo.size = 4 := rfl; omega) (by omega)) ?_
        rintro e w7 ⟨rfl, hw7, hb7, hk7⟩
        have hb7' : Below B w w7 := hbw6.trans hb7
        have hk7' : WrKept b w w7 := hk6.trans hk7
        rw [List.append_assoc, ← strCells_app] at hw7
        have hw7' : IsWr B b (bs ++ Lib.strCells (Ref.pad d ++ hd ++ Ref.writTo A (k + 1))) w7 := by rw [HN.out]; simpa only [ByteArray.append_assoc] using hw7
        clear hb7 hk7 hw7 hw6 hk6 hbw6
        dsimp only
        refine hK _ _ ?_
        clear hK K
        refine wpAny_done (by kernel_rfl) ?_ _
        go_wp2
        go_roundg (A.length - (k + 1))
        case measure => omega
        case rel => exact ⟨k + 1, rfl, by omega, by go_num, hw7', hb7', hk7'⟩
      · rw [hvv] at ck
        rw [hnm] at HN
        clear hvv hnm
        have hmN := Tryz.mTextS
        have hts : (Pro.sText x.event dl).size ≤ 20000 := by
          unfold Pro.sText
          simp only [ByteArray.size_append']
          have e1 : Ref.b1.size = 1 := rfl
          have e2 : Pro.bRaise.size = 5 := rfl
          have e3 : Pro.bCancel.size = 6 := rfl
          have e4 : Pro.bSend.size = 4 := rfl
          have e5 : Ref.bAs.size = 4 := rfl
          have e6 := Ref.dec_size20 (n := dl) (by omega)
          omega
        go_wp2_with fail
        refine Calls.mono (wWriteString B b _ Ref.bDo _ hwr (by rw [List.length_append, strCells_len]; have : Ref.bDo.size = 4 := rfl; omega) (by omega)) ?_
        rintro e w5 ⟨rfl, hw5, hb5, hk5⟩
        have hb5' : Below B w w5 := hbr.trans hb5
        have hk5' : WrKept b w w5 := hkr.trans hk5
        have hs5 := hb5'.size
        rw [List.append_assoc, ← strCells_app] at hw5
        have HEnv2 : Hid (EnvAt B w5) := EnvAt.below HEnv.out hb5'
        clear hb5 hk5
        go_upto_region 1 with fail
        refine wp_region_any (by kernel_rfl) ?_
        change wpAny _ _ _ _ _ _ _ (World.drew _)
        refine wpAny_take (i := 0) (v := .pointer (some ⟨b, 0, none⟩)) rfl (by kernel_rfl) (by kernel_rfl) (by kernel_rfl) (fun _ _ _ h => h) (Or.inl ⟨by rfl, fun w => by go_simp⟩) ?_
        refine wpAny_take (i := 1) (v := .pointer (some ⟨b, 0, none⟩)) rfl (by kernel_rfl) (by kernel_rfl) (by kernel_rfl) (fun _ _ _ h => h) (Or.inl ⟨by rfl, fun w => by go_simp⟩) ?_
        refine wpAny_take (i := 2) (v := .pointer (some ⟨b, 0, none⟩)) rfl (by kernel_rfl) (by kernel_rfl) (by kernel_rfl) (fun _ _ _ h => h) (Or.inl ⟨by rfl, fun w => by go_simp⟩) ?_
        refine wpAny_take (i := 3) (v := (.iface 329 (.agg #[.string x.event, .int .u64 dl]))) rfl (by kernel_rfl) (by kernel_rfl) (by kernel_rfl) (fun _ _ _ h => h) (Or.inl ⟨by rfl, fun w => by go_simp⟩) ?_
        refine wpAny_ready (rs := [4]) (by kernel_rfl) (by simp) ?_
        refine AllReady.cons rfl (fun K hK => ?_) AllReady.nil
        go_simp
        refine Calls.mono (sendText_any x.event dl _ (by omega) (by omega) (EnvAt.drewE HEnv2.out)) ?_
        rintro e w6 ⟨rfl, hb6⟩
        have hb6' : Below w5.heap.size w5 w6 := ((Below.refl _ _).drew).trans hb6
        have hw6 := hw5.keep hb6'
        have hk6 : WrKept b w w6 := hk5'.trans (wrKept_below hb6')
        have hbw6 : Below B w w6 := hb5'.trans (hb6'.mono (by omega))
        have hs6 := hbw6.size
        clear hb6 hb6' hw5 hk5' hb5'
        dsimp only
        refine hK _ _ ?_
        clear hK K
        refine wpAny_ready (rs := [5]) (by kernel_rfl) (by simp) ?_
        refine AllReady.cons rfl (fun K hK => ?_) AllReady.nil
        go_simp
        refine Calls.mono (wWriteString B b _ (Pro.sText x.event dl) _ hw6 (by rw [List.length_append, strCells_len, ByteArray.size_append']; have : Ref.bDo.size = 4 := rfl; omega) (by omega)) ?_
        rintro e w7 ⟨rfl, hw7, hb7, hk7⟩
        have hb7' : Below B w w7 := hbw6.trans hb7
        have hk7' : WrKept b w w7 := hk6.trans hk7
        rw [List.append_assoc, ← strCells_app] at hw7
        have hw7' : IsWr B b (bs ++ Lib.strCells (Ref.pad d ++ hd ++ Ref.writTo A (k + 1))) w7 := by rw [HN.out]; simpa only [ByteArray.append_assoc] using hw7
        clear hb7 hk7 hw7 hw6 hk6 hbw6
        dsimp only
        refine hK _ _ ?_
        clear hK K
        refine wpAny_done (by kernel_rfl) ?_ _
        go_wp2
        go_roundg (A.length - (k + 1))
        case measure => omega
        case rel => exact ⟨k + 1, rfl, by omega, by go_num, hw7', hb7', hk7'⟩
      · rw [hvv] at ck
        rw [hnm] at HN
        clear hvv hnm
        have hmN := Tryz.mTextA
        have hts : (Pro.sText x.event dl ++ Ref.bAs ++ x.id).size ≤ 20000 := by
          unfold Pro.sText
          simp only [ByteArray.size_append']
          have e1 : Ref.b1.size = 1 := rfl
          have e2 : Pro.bRaise.size = 5 := rfl
          have e3 : Pro.bCancel.size = 6 := rfl
          have e4 : Pro.bSend.size = 4 := rfl
          have e5 : Ref.bAs.size = 4 := rfl
          have e6 := Ref.dec_size20 (n := dl) (by omega)
          omega
        go_wp2_with fail
        refine Calls.mono (wWriteString B b _ Ref.bDo _ hwr (by rw [List.length_append, strCells_len]; have : Ref.bDo.size = 4 := rfl; omega) (by omega)) ?_
        rintro e w5 ⟨rfl, hw5, hb5, hk5⟩
        have hb5' : Below B w w5 := hbr.trans hb5
        have hk5' : WrKept b w w5 := hkr.trans hk5
        have hs5 := hb5'.size
        rw [List.append_assoc, ← strCells_app] at hw5
        have HEnv2 : Hid (EnvAt B w5) := EnvAt.below HEnv.out hb5'
        clear hb5 hk5
        go_upto_region 1 with fail
        refine wp_region_any (by kernel_rfl) ?_
        change wpAny _ _ _ _ _ _ _ (World.drew _)
        refine wpAny_take (i := 0) (v := .pointer (some ⟨b, 0, none⟩)) rfl (by kernel_rfl) (by kernel_rfl) (by kernel_rfl) (fun _ _ _ h => h) (Or.inl ⟨by rfl, fun w => by go_simp⟩) ?_
        refine wpAny_take (i := 1) (v := .pointer (some ⟨b, 0, none⟩)) rfl (by kernel_rfl) (by kernel_rfl) (by kernel_rfl) (fun _ _ _ h => h) (Or.inl ⟨by rfl, fun w => by go_simp⟩) ?_
        refine wpAny_take (i := 2) (v := .pointer (some ⟨b, 0, none⟩)) rfl (by kernel_rfl) (by kernel_rfl) (by kernel_rfl) (fun _ _ _ h => h) (Or.inl ⟨by rfl, fun w => by go_simp⟩) ?_
        refine wpAny_take (i := 3) (v := (.iface 331 (.agg #[.string x.event, .int .u64 dl, .string x.id]))) rfl (by kernel_rfl) (by kernel_rfl) (by kernel_rfl) (fun _ _ _ h => h) (Or.inl ⟨by rfl, fun w => by go_simp⟩) ?_
        refine wpAny_ready (rs := [4]) (by kernel_rfl) (by simp) ?_
        refine AllReady.cons rfl (fun K hK => ?_) AllReady.nil
        go_simp
        refine Calls.mono (sendAsText_any x.event x.id dl _ (by omega) (by omega) (by omega) (EnvAt.drewE HEnv2.out)) ?_
        rintro e w6 ⟨rfl, hb6⟩
        have hb6' : Below w5.heap.size w5 w6 := ((Below.refl _ _).drew).trans hb6
        have hw6 := hw5.keep hb6'
        have hk6 : WrKept b w w6 := hk5'.trans (wrKept_below hb6')
        have hbw6 : Below B w w6 := hb5'.trans (hb6'.mono (by omega))
        have hs6 := hbw6.size
        clear hb6 hb6' hw5 hk5' hb5'
        dsimp only
        refine hK _ _ ?_
        clear hK K
        refine wpAny_ready (rs := [5]) (by kernel_rfl) (by simp) ?_
        refine AllReady.cons rfl (fun K hK => ?_) AllReady.nil
        go_simp
        refine Calls.mono (wWriteString B b _ (Pro.sText x.event dl ++ Ref.bAs ++ x.id) _ hw6 (by rw [List.length_append, strCells_len, ByteArray.size_append']; have : Ref.bDo.size = 4 := rfl; omega) (by omega)) ?_
        rintro e w7 ⟨rfl, hw7, hb7, hk7⟩
        have hb7' : Below B w w7 := hbw6.trans hb7
        have hk7' : WrKept b w w7 := hk6.trans hk7
        rw [List.append_assoc, ← strCells_app] at hw7
        have hw7' : IsWr B b (bs ++ Lib.strCells (Ref.pad d ++ hd ++ Ref.writTo A (k + 1))) w7 := by rw [HN.out]; simpa only [ByteArray.append_assoc] using hw7
        clear hb7 hk7 hw7 hw6 hk6 hbw6
        dsimp only
        refine hK _ _ ?_
        clear hK K
        refine wpAny_done (by kernel_rfl) ?_ _
        go_wp2
        go_roundg (A.length - (k + 1))
        case measure => omega
        case rel => exact ⟨k + 1, rfl, by omega, by go_num, hw7', hb7', hk7'⟩
    · have hke : k = A.length := by omega
      subst hke
      have hsz : (Ref.pad d ++ hd ++ Ref.writTo A A.length).size ≤ 2002000000 := by
        rw [ByteArray.size_append', ByteArray.size_append', Ref.pad_size]
        have : A.length * 20000 ≤ 100000 * 20000 := Nat.mul_le_mul_right _ (by omega)
        omega
      clear hrk hrw
      go_wp2_with fail
      refine Calls.mono (wWriteByte B b _ 10 _ hwr (by rw [List.length_append, strCells_len]; omega) (by omega)) ?_
      rintro e w5 ⟨rfl, hw5, hb5, hk5⟩
      have hw5' : IsWr B b (bs ++ Lib.strCells (Ref.pad d ++ hd ++ Ref.written A ++ Ref.bNl)) w5 := by
        rw [strCells_app, ← List.append_assoc]
        exact hw5
      go_wp2
      go_end0
      exact ⟨rfl, hw5', hbr.trans hb5, hkr.trans hk5⟩
end Go.Proofs.YtegmoddppafkfaaGreatDoor
