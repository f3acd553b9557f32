/-
  MY OWN TEXT.
-/
import Derived.Test.YtegmoddppafkfaaGreatDoorM27
namespace Go.Proofs.YtegmoddppafkfaaGreatDoor
open Go.RowKit

namespace Pro
/-- What is known of a line that was read whole. -/
def Good : PL → Prop
  | .state k n => 0 ≤ k ∧ k ≤ 4 ∧ n.size ≤ 8
  | .move _ _ _ _ _ => True
  | .enter A => A ≠ []
  | .leave A => A ≠ []
theorem plain_size {s : ByteArray} (h : Ref.plain s = true) : s.size ≤ 8 := by
  rw [Ref.plain, Bool.and_eq_true, Bool.and_eq_true, decide_eq_true_eq, decide_eq_true_eq] at h; exact h.2.2
theorem doings_ne {l r : List ByteArray} {A : List Ref.Act} (h : pDoings l = some (A, r)) : A ≠ [] := by
  unfold pDoings at h
  split at h
  · cases h
  · cases h
  · cases h; simp
theorem hist_good {l r : List ByteArray} {n : ByteArray} {k : Int} (h : pHistory l = some ((n, k), r)) : 0 ≤ k ∧ k ≤ 4 ∧ n.size ≤ 8 := by
  unfold pHistory at h
  split at h
  · cases h
  · rename_i hq
    cases h
    exact ⟨by decide, by decide, plain_size (pOf_some hq).1⟩
  · rename_i hq
    split at h
    · cases h; exact ⟨by decide, by decide, plain_size (pOf_some hq).1⟩
    · cases h; exact ⟨by decide, by decide, plain_size (pOf_some hq).1⟩
theorem line_good {num : Nat} {l r : List ByteArray} {L : PL} (h : pLine num l = some (L, r)) : Good L := by
  cases l with
  | nil => cases h
  | cons x t =>
    rw [pLine] at h
    have st : ∀ k : Int, 0 ≤ k → k ≤ 4 → ((pOf Ref.plain t).map fun q => (PL.state k q.1, q.2)) = some (L, r) → Good L := by
      intro k h0 h4 h
      obtain ⟨⟨n, r'⟩, h1, h2⟩ := Option.map_eq_some_iff.1 h
      cases h2
      exact ⟨h0, h4, plain_size (pOf_some h1).1⟩
    split at h
    · exact st 0 (by decide) (by decide) h
    · split at h
      · exact st 1 (by decide) (by decide) h
      · split at h
        · exact st 2 (by decide) (by decide) h
        · split at h
          · obtain ⟨⟨⟨n, k⟩, r'⟩, h1, h2⟩ := Option.map_eq_some_iff.1 h
            cases h2
            exact hist_good h1
          · split at h
            · split at h
              · cases h
              · obtain ⟨q, h1, h2⟩ := Option.map_eq_some_iff.1 h
                cases h2; trivial
            · split at h
              · split at h
                · cases h
                · obtain ⟨q, h1, h2⟩ := Option.map_eq_some_iff.1 h
                  cases h2; trivial
              · split at h
                · obtain ⟨⟨A, r'⟩, h1, h2⟩ := Option.map_eq_some_iff.1 h
                  cases h2; exact doings_ne h1
                · split at h
                  · obtain ⟨⟨A, r'⟩, h1, h2⟩ := Option.map_eq_some_iff.1 h
                    cases h2; exact doings_ne h1
                  · cases h
theorem whole_good {num : Nat} {l : List ByteArray} {L : PL} (h : pWhole num l = some L) : Good L := by
  unfold pWhole at h
  split at h
  · rename_i L' h1
    cases h
    exact line_good h1
  · cases h
theorem step_pos {S S' : List Ref.State} {i num d : Nat} {L : PL} (hI : Inv S i) (h : Ref.treeStep S i (toLine num L) (d : Int) = some S') : 0 < S'.length := by
  cases L with
  | state k n =>
    rw [step_state] at h
    split at h
    · cases h
    · split at h
      · cases h; simp
      · cases h
  | move ev af dl t A =>
    rw [step_move hI] at h
    split at h
    · cases h
    · split at h
      · cases h
      · rename_i u hu
        split at h
        · cases h
        · have : u < S.length := opnTo_lt S S.length u (List.mem_of_getElem? hu)
          cases h; unfold Ref.turn; rw [List.length_set]; omega
  | enter A =>
    rw [step_enter hI] at h
    split at h
    · cases h
    · split at h
      · cases h
      · rename_i u hu
        have : u < S.length := opnTo_lt S S.length u (List.mem_of_getElem? hu)
        split at h
        · cases h
        · split at h
          · cases h
          · cases h; unfold Ref.turn; rw [List.length_set]; omega
  | leave A =>
    rw [step_leave hI] at h
    split at h
    · cases h
    · split at h
      · cases h
      · rename_i u hu
        have : u < S.length := opnTo_lt S S.length u (List.mem_of_getElem? hu)
        split at h
        · cases h
        · split at h
          · cases h
          · cases h; unfold Ref.turn; rw [List.length_set]; omega
end Pro
theorem linesTo_get {P : List ByteArray} {n k : Nat} (hk : k < n) {L : Pro.PL} (h : Pro.pWhole (k + 1) (Pro.wl P k) = some L) : (Ref.linesTo P n)[k]? = some (Pro.toLine (k + 1) L, (Ref.blanks (Ref.pc P k) : Int)) := by
  unfold Ref.linesTo
  rw [List.getElem?_map, List.getElem?_range hk, Option.map_some, Pro.lineOf_some h]
theorem treeTo_step {P : List ByteArray} {n k : Nat} {S : List Ref.State} (hk : k < n) {L : Pro.PL} (h : Pro.pWhole (k + 1) (Pro.wl P k) = some L) (hS : Ref.treeTo (Ref.linesTo P n) k = some S) : Ref.treeTo (Ref.linesTo P n) (k + 1) = Ref.treeStep S k (Pro.toLine (k + 1) L) (Ref.blanks (Ref.pc P k) : Int) := by
  rw [Ref.treeTo, hS]
  simp only
  rw [linesTo_get hk h]
/-- What placeLines answers. -/
def PlacedPost (P : List ByteArray) (n : Nat) (w : World) (e : Ending) (w' : World) : Prop := match Ref.treeTo (Ref.linesTo P n) n with
  | none => Refused 3 (Ref.failAt (Ref.linesTo P n) n : Int) w e w'
  | some S => match Ref.parTo S S.length with
    | some l => Refused 3 l w e w'
    | none => ∃ db, e = .returned (.pointer (some ⟨db, 0, none⟩)) ∧ Below w.heap.size w w' ∧ DraftAt w w' db S n
theorem draft_new (w : World) : DraftAt w ((w.alloc (.map #[] 0)).alloc (.cells #[.slice none 0 0, .slice none 0 0, .slice none 0 0, .map (some w.heap.size), .bool false] 230)) (w.heap.size + 1) [] 0 := by
  refine ⟨⟨Ref.Sl.nil, Ref.Sl.nil, Ref.Sl.nil, w.heap.size, [], 0, rfl, Nat.le_refl _, ?_⟩, Pro.Inv.nil⟩
  have hb : Below w.heap.size w ((w.alloc (.map #[] 0)).alloc (.cells #[.slice none 0 0, .slice none 0 0, .slice none 0 0, .map (some w.heap.size), .bool false] 230)) := ((Below.refl _ _).alloc (Nat.le_refl _) _).alloc (by simp) _
  refine ⟨hb, by omega, Nat.le_refl _, heap_last2 _ _ _, World.ownsRow_nil _ _ _ _, World.ownsRow_nil _ _ _ _, World.ownsRow_nil _ _ _ _, fun i h => absurd h (by simp), fun i h => absurd h (by simp), fun i j h => absurd h (by simp), fun i h => absurd h (by simp), fun i j h => absurd h (by simp), ?_⟩
  exact map_touch (e := 0) (World.ownsMap_made w _ _ _) (touch_below ((Below.refl _ _).alloc (Nat.le_refl _) _))
theorem Tryz.mPlaceS (a b c d : Value) (w : World) : (method 599 376 (.agg #[a, b, c, d]) "charts/reader.place").run Tryz.prog w = .ok (359, .agg #[a, b, c, d]) w := by kernel_rfl
theorem Tryz.mPlaceM (a b c d e f g : Value) (w : World) : (method 599 380 (.agg #[a, b, c, d, e, f, g]) "charts/reader.place").run Tryz.prog w = .ok (364, .agg #[a, b, c, d, e, f, g]) w := by kernel_rfl
theorem Tryz.mPlaceE (a b c : Value) (w : World) : (method 599 387 (.agg #[a, b, c]) "charts/reader.place").run Tryz.prog w = .ok (369, .agg #[a, b, c]) w := by kernel_rfl
theorem Tryz.mPlaceL (a b c : Value) (w : World) : (method 599 388 (.agg #[a, b, c]) "charts/reader.place").run Tryz.prog w = .ok (371, .agg #[a, b, c]) w := by kernel_rfl
set_option maxRecDepth 100000 in
set_option maxHeartbeats 3200000 in
theorem placeLines_any (P : List ByteArray) (n lb : Nat) (vs : List Value) (LS : List Pro.PL) (w : World) (hlb : w.heap[lb]? = some (.cells vs.toArray 224 (0, 0))) (HL : LinesTo w P n vs LS) (hn0 : 0 < n) (hn : n ≤ 1500) (hsz : ∀ j, (Ref.pc P j).size ≤ 1500) :
    Calls Tryz.prog 107 #[.slice (some ⟨lb, 0, none⟩) n n] w (PlacedPost P n w) := by
  have hlv := HL.lv
  have hll := HL.ll
  have hlbl := (Array.getElem?_eq_some_iff.1 hlb).1
  have HSZ : Hid _ := hsz
  have HLN : Hid _ := HL
  have hmm := @run_makeMap Tryz.prog
  have D0 := draft_new w
  have HLV : Hid (vs.length = n) := hlv
  have HLL : Hid (LS.length = n) := hll
  clear hsz HL hlv hll
  go_enter Tryz.func107, Tryz.ntmps107
  go_wp2
  go_loopg [11] n (fun q i wr => ∃ (k : Nat) (S : List Ref.State), q = n - k ∧ k ≤ n ∧ i = .int .i64 k ∧ Ref.treeTo (Ref.linesTo P n) k = some S ∧ (0 < k → 0 < S.length) ∧ Below w.heap.size w wr ∧ DraftAt w wr (w.heap.size + 1) S k)
  case atStart => exact ⟨0, [], rfl, Nat.zero_le _, rfl, rfl, fun h => by omega, ((Below.refl _ _).alloc (Nat.le_refl _) _).alloc (by simp) _, D0⟩
  case round =>
    obtain ⟨k, S, hq, hk, rfl, hS, hS0, hbr, DA⟩ := hrel
    by_cases hkn : k < n
    · obtain ⟨hp, hv⟩ := HLN.out.row k hkn
      have hgood := Pro.whole_good hp
      have hbl : Ref.blanks (Ref.pc P k) ≤ 1500 := Nat.le_trans (Ref.blanks_le _) (HSZ.out k)
      have cv : wr.cell? ⟨lb, k, none⟩ = some (vs[k]'(by have := HLV.out; omega)) := by
        rw [World.cell?_of_block (w := w) (hbr.block lb hlbl), cell_of_row w _ k _ _ _ hlb, List.getElem?_toArray, List.getElem?_eq_getElem]
      obtain ⟨L, hL⟩ : ∃ L, L = LS[k]'(by have := HLL.out; omega) := ⟨_, rfl⟩
      obtain ⟨v, hve⟩ : ∃ v, v = vs[k]'(by have := HLV.out; omega) := ⟨_, rfl⟩
      obtain ⟨dp, hdp⟩ : ∃ dp, dp = Ref.blanks (Ref.pc P k) := ⟨_, rfl⟩
      rw [← hL, ← hve, ← hdp] at hv
      rw [← hL] at hp hgood
      rw [← hve] at cv
      have hstep := treeTo_step hkn hp hS
      rw [← hdp] at hstep hbl
      have HSt : Hid _ := hstep
      have HPos : Hid _ := fun S' => Pro.step_pos (S' := S') (num := k + 1) (d := dp) (L := L) DA.inv
      have HS : Hid _ := hS
      have HS0 : Hid _ := hS0
      clear hL hve hdp hp hS hstep hS0
      cases L with
      | state kd nme =>
        have hv : v = _ := hv
        subst hv
        have hmS := Tryz.mPlaceS
        go_wp2_with fail
        refine Calls.mono (placeState w wr (w.heap.size + 1) S k dp kd nme DA hgood.1 hgood.2.1 (Nat.le_trans hgood.2.2 (by decide)) (by omega) (by omega)) ?_
        rintro e w2 h2
        unfold PlacePost at h2
        cases hts : Ref.treeStep S k (Pro.toLine (k + 1) (.state kd nme)) (dp : Int) with
        | none =>
          rw [hts] at h2
          have HN : Hid (Ref.treeTo (Ref.linesTo P n) n = none ∧ Ref.failAt (Ref.linesTo P n) n = k + 1) := by
            have h1 : Ref.treeTo (Ref.linesTo P n) (k + 1) = none := by rw [HSt.out]; exact hts
            exact ⟨treeTo_none h1 n (by omega), Ref.failAt_eq (by rw [HS.out]; rfl) h1 n hkn⟩
          obtain ⟨hb, b, h5, h6, rfl⟩ := h2
          dsimp only
          refine ⟨rfl, ?_⟩
          unfold PlacedPost
          rw [HN.out.1, HN.out.2]
          exact ⟨hbr.trans (hb.mono hbr.size), b, Nat.le_trans hbr.size h5, h6, rfl⟩
        | some S' =>
          rw [hts] at h2
          obtain ⟨rfl, DA2⟩ := h2
          have HN : Hid (Ref.treeTo (Ref.linesTo P n) (k + 1) = some S') := by unfold Hid; rw [HSt.out]; exact hts
          have HP' : Hid (0 < S'.length) := HPos.out S' hts
          have HD2 : Hid _ := DA2
          clear hts DA2
          dsimp only
          go_wp2
          go_roundg (n - (k + 1))
          case measure => omega
          case rel => exact ⟨k + 1, S', rfl, by omega, by go_num, HN.out, fun _ => HP'.out, (let ⟨_, _, _, _, _, _, _, _, G⟩ := HD2.out.mem; G.bel), HD2.out⟩
      | move ev af dl t A =>
        obtain ⟨va, vn, vc, hv, hown⟩ := hv
        subst hv
        have hmS := Tryz.mPlaceM
        go_wp2_with fail
        refine Calls.mono (placeMove w wr (w.heap.size + 1) S k dp ev t af dl A ⟨va, vn, vc⟩ DA (by omega) (by omega) hown) ?_
        rintro e w2 h2
        unfold PlacePost at h2
        cases hts : Ref.treeStep S k (Pro.toLine (k + 1) (.move ev af dl t A)) (dp : Int) with
        | none =>
          rw [hts] at h2
          have HN : Hid (Ref.treeTo (Ref.linesTo P n) n = none ∧ Ref.failAt (Ref.linesTo P n) n = k + 1) := by
            have h1 : Ref.treeTo (Ref.linesTo P n) (k + 1) = none := by rw [HSt.out]; exact hts
            exact ⟨treeTo_none h1 n (by omega), Ref.failAt_eq (by rw [HS.out]; rfl) h1 n hkn⟩
          obtain ⟨hb, b, h5, h6, rfl⟩ := h2
          dsimp only
          refine ⟨rfl, ?_⟩
          unfold PlacedPost
          rw [HN.out.1, HN.out.2]
          exact ⟨hbr.trans (hb.mono hbr.size), b, Nat.le_trans hbr.size h5, h6, rfl⟩
        | some S' =>
          rw [hts] at h2
          obtain ⟨rfl, DA2⟩ := h2
          have HN : Hid (Ref.treeTo (Ref.linesTo P n) (k + 1) = some S') := by unfold Hid; rw [HSt.out]; exact hts
          have HP' : Hid (0 < S'.length) := HPos.out S' hts
          have HD2 : Hid _ := DA2
          clear hts DA2
          dsimp only
          go_wp2
          go_roundg (n - (k + 1))
          case measure => omega
          case rel => exact ⟨k + 1, S', rfl, by omega, by go_num, HN.out, fun _ => HP'.out, (let ⟨_, _, _, _, _, _, _, _, G⟩ := HD2.out.mem; G.bel), HD2.out⟩
      | enter A =>
        obtain ⟨va, vn, vc, hv, hown⟩ := hv
        subst hv
        have hmS := Tryz.mPlaceE
        go_wp2_with fail
        refine Calls.mono (placeEnter w wr (w.heap.size + 1) S k dp A ⟨va, vn, vc⟩ DA (by omega) hown hgood) ?_
        rintro e w2 h2
        unfold PlacePost at h2
        cases hts : Ref.treeStep S k (Pro.toLine (k + 1) (.enter A)) (dp : Int) with
        | none =>
          rw [hts] at h2
          have HN : Hid (Ref.treeTo (Ref.linesTo P n) n = none ∧ Ref.failAt (Ref.linesTo P n) n = k + 1) := by
            have h1 : Ref.treeTo (Ref.linesTo P n) (k + 1) = none := by rw [HSt.out]; exact hts
            exact ⟨treeTo_none h1 n (by omega), Ref.failAt_eq (by rw [HS.out]; rfl) h1 n hkn⟩
          obtain ⟨hb, b, h5, h6, rfl⟩ := h2
          dsimp only
          refine ⟨rfl, ?_⟩
          unfold PlacedPost
          rw [HN.out.1, HN.out.2]
          exact ⟨hbr.trans (hb.mono hbr.size), b, Nat.le_trans hbr.size h5, h6, rfl⟩
        | some S' =>
          rw [hts] at h2
          obtain ⟨rfl, DA2⟩ := h2
          have HN : Hid (Ref.treeTo (Ref.linesTo P n) (k + 1) = some S') := by unfold Hid; rw [HSt.out]; exact hts
          have HP' : Hid (0 < S'.length) := HPos.out S' hts
          have HD2 : Hid _ := DA2
          clear hts DA2
          dsimp only
          go_wp2
          go_roundg (n - (k + 1))
          case measure => omega
          case rel => exact ⟨k + 1, S', rfl, by omega, by go_num, HN.out, fun _ => HP'.out, (let ⟨_, _, _, _, _, _, _, _, G⟩ := HD2.out.mem; G.bel), HD2.out⟩
      | leave A =>
        obtain ⟨va, vn, vc, hv, hown⟩ := hv
        subst hv
        have hmS := Tryz.mPlaceL
        go_wp2_with fail
        refine Calls.mono (placeLeave w wr (w.heap.size + 1) S k dp A ⟨va, vn, vc⟩ DA (by omega) hown hgood) ?_
        rintro e w2 h2
        unfold PlacePost at h2
        cases hts : Ref.treeStep S k (Pro.toLine (k + 1) (.leave A)) (dp : Int) with
        | none =>
          rw [hts] at h2
          have HN : Hid (Ref.treeTo (Ref.linesTo P n) n = none ∧ Ref.failAt (Ref.linesTo P n) n = k + 1) := by
            have h1 : Ref.treeTo (Ref.linesTo P n) (k + 1) = none := by rw [HSt.out]; exact hts
            exact ⟨treeTo_none h1 n (by omega), Ref.failAt_eq (by rw [HS.out]; rfl) h1 n hkn⟩
          obtain ⟨hb, b, h5, h6, rfl⟩ := h2
          dsimp only
          refine ⟨rfl, ?_⟩
          unfold PlacedPost
          rw [HN.out.1, HN.out.2]
          exact ⟨hbr.trans (hb.mono hbr.size), b, Nat.le_trans hbr.size h5, h6, rfl⟩
        | some S' =>
          rw [hts] at h2
          obtain ⟨rfl, DA2⟩ := h2
          have HN : Hid (Ref.treeTo (Ref.linesTo P n) (k + 1) = some S') := by unfold Hid; rw [HSt.out]; exact hts
          have HP' : Hid (0 < S'.length) := HPos.out S' hts
          have HD2 : Hid _ := DA2
          clear hts DA2
          dsimp only
          go_wp2
          go_roundg (n - (k + 1))
          case measure => omega
          case rel => exact ⟨k + 1, S', rfl, by omega, by go_num, HN.out, fun _ => HP'.out, (let ⟨_, _, _, _, _, _, _, _, G⟩ := HD2.out.mem; G.bel), HD2.out⟩
    · obtain rfl : k = n := by omega
      have HN : Hid _ := hS
      have hSp := hS0 hn0
      clear hS hS0
      go_wp2_with fail
      refine (checkParallels_any w wr (w.heap.size + 1) S k DA hSp).mono ?_
      rintro e w2 h2
      unfold ParPost at h2
      cases hpt : Ref.parTo S S.length with
      | some l =>
        rw [hpt] at h2
        have HPt : Hid _ := hpt
        obtain ⟨hb, b, h5, h6, rfl⟩ := h2
        dsimp only
        refine ⟨rfl, ?_⟩
        unfold PlacedPost
        rw [HN.out]
        simp only
        rw [HPt.out]
        exact ⟨hbr.trans (hb.mono hbr.size), b, Nat.le_trans hbr.size h5, h6, rfl⟩
      | none =>
        rw [hpt] at h2
        obtain ⟨rfl, hb2⟩ := h2
        have HPt : Hid _ := hpt
        have HD2 : Hid (DraftAt w w2 (w.heap.size + 1) S k) := ⟨let ⟨sv, pv, ov, mb, X, nm, h1, h2, G⟩ := DA.mem; ⟨sv, pv, ov, mb, X, nm, h1, h2, G.keep hb2⟩, DA.inv⟩
        have hb3 := hbr.trans (hb2.mono hbr.size)
        clear hpt DA
        dsimp only
        go_wp2
        go_ret
        unfold PlacedPost
        rw [HN.out]
        simp only
        rw [HPt.out]
        exact ⟨w.heap.size + 1, rfl, hb3, HD2.out⟩
end Go.Proofs.YtegmoddppafkfaaGreatDoor
namespace Go.Proofs.YtegmoddppafkfaaGreatDoor
open Go.RowKit

namespace Pro
/-- The names in an action, as the program tells them. -/
def namesOf (a : Ref.Act) : List ByteArray :=
  if a.how.toList == Ref.cRaise then [a.event]
  else if a.how.toList == Ref.cCancel then [a.id]
  else if a.id.size = 0 then [a.event] else [a.event, a.id]
def resv (l : List ByteArray) : Bool := l.any fun s => Ref.begins s Ref.kAfter
/-- Such actions as are read. -/
def Shape (a : Ref.Act) : Prop := (a.how = bRaise ∧ a.id = ByteArray.empty) ∨ (a.how = bCancel ∧ a.event = ByteArray.empty) ∨ a.how = bSend
theorem begins_empty : Ref.begins ByteArray.empty Ref.kAfter = false := by decide
theorem resv_names {a : Ref.Act} (h : Shape a) : resv (namesOf a) = Ref.mineAct a := by
  unfold Ref.mineAct namesOf
  rcases h with ⟨h1, h2⟩ | ⟨h1, h2⟩ | h1
  · rw [h1, h2, raise_list, if_pos (by decide), begins_empty]; simp [resv]
  · rw [h1, h2, cancel_list, if_neg (by decide), if_pos (by decide), begins_empty]; simp [resv]
  · rw [h1, send_list, if_neg (by decide), if_neg (by decide)]
    by_cases hi : a.id.size = 0
    · have he : a.id = ByteArray.empty := by
        have := Lib.size_eq a.id
        have h0 : a.id.data.toList = [] := List.length_eq_zero_iff.1 (by omega)
        rw [← Lib.mk_data a.id, h0]; rfl
      rw [if_pos hi, he, begins_empty]; simp [resv]
    · rw [if_neg hi]; simp [resv]
theorem action_shape {l r : List ByteArray} {a : Ref.Act} (h : pAction l = some (a, r)) : Shape a := by
  cases l with
  | nil => cases h
  | cons x t =>
    rw [pAction] at h
    split at h
    · obtain ⟨q, h1, h2⟩ := Option.map_eq_some_iff.1 h
      cases h2; exact .inl ⟨rfl, rfl⟩
    · split at h
      · obtain ⟨q, h1, h2⟩ := Option.map_eq_some_iff.1 h
        cases h2; exact .inr (.inr rfl)
      · split at h
        · obtain ⟨q, h1, h2⟩ := Option.map_eq_some_iff.1 h
          cases h2; exact .inr (.inl ⟨rfl, rfl⟩)
        · cases h
theorem acts_shape : ∀ (f : Nat) (l r : List ByteArray) (A : List Ref.Act), pActs f l = some (A, r) → ∀ a ∈ A, Shape a
  | 0, l, r, A, h => by cases h; simp
  | f + 1, [], r, A, h => by cases h; simp
  | f + 1, x :: t, r, A, h => by
    rw [pActs] at h
    split at h
    · split at h
      · cases h
      · rename_i a r' h1
        split at h
        · cases h
        · rename_i A' t' h2
          cases h
          intro b hb
          rcases List.mem_cons.1 hb with rfl | hb
          · exact action_shape h1
          · exact acts_shape f r' r A' h2 b hb
    · cases h; simp
end Pro
/-- What Names answers. -/
def NamesPost (l : List ByteArray) (w : World) (e : Ending) (w' : World) : Prop := ∃ nb c, e = .returned (.slice (some ⟨nb, 0, none⟩) l.length c) ∧ w'.ownsRow w.heap.size 9 1 (.slice (some ⟨nb, 0, none⟩) l.length c) l.length (l.map Value.string) ∧ Below w.heap.size w w'
set_option maxHeartbeats 800000 in
theorem names_one (s : ByteArray) (w : World) : Calls Tryz.prog 348 #[.agg #[.string s]] w (NamesPost [s] w) := by
  go_enter Tryz.func348, Tryz.ntmps348
  go_wp2
  go_ret
  refine ⟨w.heap.size + 1, 1, rfl, ?_, ((Below.refl _ _).alloc (Nat.le_refl _) _).alloc (by simp) _⟩
  refine ⟨rfl, .inr ⟨w.heap.size + 1, 1, #[.string s], rfl, by omega, heap_last2 w _ _, Nat.le_refl _, by unfold maxLen; omega, rfl, rfl⟩⟩
theorem own_strs {w : World} {base nb c : Nat} {l : List ByteArray} (h : w.ownsRow base 9 1 (.slice (some ⟨nb, 0, none⟩) l.length c) l.length (l.map Value.string)) : Strs w nb 0 l ∧ nb < w.heap.size ∧ l.length ≤ c := by
  rcases h.2 with ⟨h', _⟩ | ⟨g, cap, cur, hv, hb, hg, h1, h2, h3, h4⟩
  · cases h'
  · simp only [Value.slice.injEq, Option.some.injEq, Addr.mk.injEq, and_true, true_and] at hv
    obtain ⟨rfl, rfl⟩ := hv
    refine ⟨fun i hi => ?_, (Array.getElem?_eq_some_iff.1 hg).1, h1⟩
    rw [Nat.zero_add, cell_of_row w nb i _ _ _ hg]
    have h5 : (cur.toList.take (l.length * 1))[i]? = (l.map Value.string)[i]? := by rw [h4]
    rw [List.getElem?_take, if_pos (by omega)] at h5
    rw [← Array.getElem?_toList, h5]
    simp [Ref.at', List.getD_eq_getElem?_getD, List.getElem?_eq_getElem hi]
theorem Tryz.infoStr2 : (Tryz.prog.info? 9).map (fun i => (i.zero, i.size, i.bytes)) = some (some (.string ByteArray.empty), 1, 16) := by kernel_rfl
set_option maxRecDepth 100000 in
set_option maxHeartbeats 1600000 in
theorem names_two (s a : ByteArray) (d : Int) (w : World) : Calls Tryz.prog 354 #[.agg #[.string s, .int .u64 d, .string a]] w (NamesPost [s, a] w) := by
  obtain ⟨i0, hi, hz0, hz1, hz2⟩ := info_parts Tryz.infoStr2
  have hb1 : Below w.heap.size w (w.alloc (.cells #[.string s, .int .u64 d, .string a] 331)) := (Below.refl _ _).alloc (Nat.le_refl _) _
  obtain ⟨W1, hW1⟩ : ∃ y, y = w.alloc (.cells #[.string s, .int .u64 d, .string a] 331) := ⟨_, rfl⟩
  have b0 : W1.cell? ⟨w.heap.size, 0, none⟩ = some (.string s) := by rw [hW1]; simp
  have b2 : W1.cell? ⟨w.heap.size, 2, none⟩ = some (.string a) := by rw [hW1]; simp
  have hlw : w.heap.size < W1.heap.size := by rw [hW1]; simp
  go_enter Tryz.func354, Tryz.ntmps354
  go_upto_region 1 with fail
  change Code.wp _ _ _ _ (w.alloc (.cells #[.string s, .int .u64 d, .string a] 331))
  rw [← hW1] at hb1 ⊢
  clear hW1
  have hbs := hb1.size
  refine wp_region_held_drew (S := (fun W => W.cell? ⟨w.heap.size, 0, none⟩ = some (.string s) ∧ W.cell? ⟨w.heap.size, 2, none⟩ = some (.string a))) (by kernel_rfl) ⟨b0, b2⟩ (fun hHeld => ?_)
  refine wpAnyH_take (i := 0) (v := .pointer (some ⟨w.heap.size, 0, none⟩)) rfl (by kernel_rfl) (by kernel_rfl) (by kernel_rfl) (fun _ _ _ h => h) (Or.inl ⟨by rfl, fun w hSw => by (try dsimp only at hSw); go_simp; (try with_reducible rfl)⟩) hHeld ?_
  refine wpAnyH_take (i := 1) (v := .pointer (some ⟨w.heap.size, 0, none⟩)) rfl (by kernel_rfl) (by kernel_rfl) (by kernel_rfl) (fun _ _ _ h => h) (Or.inl ⟨by rfl, fun w hSw => by (try dsimp only at hSw); go_simp; (try with_reducible rfl)⟩) hHeld ?_
  refine wpAnyH_take (i := 2) (v := .agg #[.string s]) rfl (by kernel_rfl) (by kernel_rfl) (by kernel_rfl) (fun _ _ _ h => h) (Or.inl ⟨by rfl, fun w hSw => by (try dsimp only at hSw); go_simp; (try with_reducible rfl)⟩) hHeld ?_
  refine wpAnyH_take (i := 4) (v := .pointer (some ⟨w.heap.size, 2, none⟩)) rfl (by kernel_rfl) (by kernel_rfl) (by kernel_rfl) (fun _ _ _ h => h) (Or.inl ⟨by rfl, fun w hSw => by (try dsimp only at hSw); go_simp; (try with_reducible rfl)⟩) hHeld ?_
  refine wpAnyH_take (i := 5) (v := .string a) rfl (by kernel_rfl) (by kernel_rfl) (by kernel_rfl) (fun _ _ _ h => h) (Or.inl ⟨by rfl, fun w hSw => by (try dsimp only at hSw); go_simp; (try with_reducible rfl)⟩) hHeld ?_
  refine wpAnyH_ready (rs := [3, 6]) (by kernel_rfl) (by simp) ?_
  refine AllReadyH.cons rfl (fun K hK => ?_) (AllReadyH.cons rfl (fun K hK => ?_) AllReadyH.nil)
  · go_simp
    refine (names_one s _).mono ?_
    rintro e w2 ⟨nb, c2, rfl, hown, hb2⟩
    have hb2' : Below W1.heap.size W1 w2 := ((Below.refl _ _).drew).trans hb2
    have k0 := (World.cell?_of_block (w := W1) (w' := w2) (a := ⟨w.heap.size, 0, none⟩) (hb2'.block _ hlw)).trans b0
    have k2 := (World.cell?_of_block (w := W1) (w' := w2) (a := ⟨w.heap.size, 2, none⟩) (hb2'.block _ hlw)).trans b2
    have hlw2 : w.heap.size < w2.heap.size := Nat.lt_of_lt_of_le hlw hb2'.size
    dsimp only
    refine hK.out _ _ ⟨k0, k2⟩ (fun hHeld => ?_)
    clear hK K
    refine wpAnyH_ready (rs := [6]) (by kernel_rfl) (by simp) ?_
    refine AllReadyH.cons rfl (fun K hK => ?_) AllReadyH.nil
    go_simp
    refine hK.out _ _ (by (try dsimp only); go_keep) (fun hHeld => ?_)
    clear hK K
    refine wpAnyH_ready (rs := [7]) (by kernel_rfl) (by simp) ?_
    refine AllReadyH.cons rfl (fun K hK => ?_) AllReadyH.nil
    have hown' := own_mono hown (show w.heap.size ≤ W1.heap.size from hbs)
    refine step_append_lies _ (by rfl) _ _ _ (by rfl) w.heap.size 9 i0 _ 1 16 Tryz.underlying31 hi hz0 hz1 hz2 rfl (by decide) (.slice (some ⟨nb, 0, none⟩) 1 c2) 1 [.string s] (by rfl) (World.ownsRow.alloc hown' _) ⟨w2.heap.size, 0, none⟩ 1 1 [.string a] (by rfl) (by rfl) (World.news_of_block (cs := #[.string a]) (t := 9) (fr := (0, 0)) (heap_alloc_new w2 _)) (by simp [Value.oneCell']) (by omega) (by unfold maxLen; omega) (by omega) (by simp; omega) (w2.heap.size + 1) (by simp) ?_
    intro g5 cap5 w5 hown5 hgrow hat hlt5
    have HNB : Hid (some w.heap.size ≠ Value.ownBlock (.slice (some ⟨nb, 0, none⟩) 1 c2)) := fun e => by
      have h1 := (World.ownsRow.lt hown _ e.symm).1
      have h2 : W1.drew.heap.size = W1.heap.size := rfl
      omega
    have k0 := ((hgrow.cell_far ⟨w.heap.size, 0, none⟩ (by simp; omega) HNB.out).trans (((Below.refl w2.heap.size w2).alloc (Nat.le_refl _) _).cell (p := ⟨w.heap.size, 0, none⟩) hlw2)).trans k0
    have k2 := ((hgrow.cell_far ⟨w.heap.size, 2, none⟩ (by simp; omega) HNB.out).trans (((Below.refl w2.heap.size w2).alloc (Nat.le_refl _) _).cell (p := ⟨w.heap.size, 2, none⟩) hlw2)).trans k2
    have HB5 : Hid (Below w.heap.size w w5) := ((hb1.trans (hb2'.mono hbs)).alloc (by omega) _).grown hgrow (by simp; omega) (fun k h => by have := (World.ownsRow.lt hown' k h).1; exact this)
    refine hK.out _ _ ⟨k0, k2⟩ (fun hHeld => ?_)
    clear hK K
    refine wpAnyH_take (i := 8) (v := .slice (some ⟨g5, 0, none⟩) 2 cap5) rfl (by kernel_rfl) (by kernel_rfl) (by kernel_rfl) (fun _ _ _ h => h) (Or.inl ⟨by rfl, fun w hSw => by (try dsimp only at hSw); go_simp; (try with_reducible rfl)⟩) hHeld ?_
    refine wpAnyH_done (by kernel_rfl) ?_ _
    go_wp2
    go_ret
    exact ⟨g5, cap5, rfl, hown5, HB5.out⟩
  · go_simp
    refine hK.out _ _ (by (try dsimp only); go_keep) (fun hHeld => ?_)
    clear hK K
    refine wpAnyH_ready (rs := [3]) (by kernel_rfl) (by simp) ?_
    refine AllReadyH.cons rfl (fun K hK => ?_) AllReadyH.nil
    go_simp
    refine (names_one s _).mono ?_
    rintro e w2 ⟨nb, c2, rfl, hown, hb2⟩
    have hbW : Below W1.heap.size W1 ((W1.drew).alloc (.cells #[.string a] 9)) := ((Below.refl _ _).drew).alloc (Nat.le_refl _) _
    have hbl : W1.heap.size < ((W1.drew).alloc (.cells #[.string a] 9)).heap.size := by simp
    have hb2' : Below W1.heap.size W1 w2 := hbW.trans (hb2.mono hbW.size)
    have hel : w2.heap[W1.heap.size]? = some (.cells #[.string a] 9 (0, 0)) := (hb2.block _ hbl).trans (heap_alloc_new _ _)
    have k0 := (World.cell?_of_block (w := W1) (w' := w2) (a := ⟨w.heap.size, 0, none⟩) (hb2'.block _ hlw)).trans b0
    have k2 := (World.cell?_of_block (w := W1) (w' := w2) (a := ⟨w.heap.size, 2, none⟩) (hb2'.block _ hlw)).trans b2
    have hlw2 : w.heap.size < w2.heap.size := Nat.lt_of_lt_of_le hlw hb2'.size
    have hszl : W1.heap.size ≤ ((W1.drew).alloc (.cells #[.string a] 9)).heap.size := Nat.le_of_lt hbl
    dsimp only
    refine hK.out _ _ ⟨k0, k2⟩ (fun hHeld => ?_)
    clear hK K
    refine wpAnyH_ready (rs := [7]) (by kernel_rfl) (by simp) ?_
    refine AllReadyH.cons rfl (fun K hK => ?_) AllReadyH.nil
    have hown' := own_mono hown (show w.heap.size ≤ ((W1.drew).alloc (.cells #[.string a] 9)).heap.size by omega)
    refine step_append_lies _ (by rfl) _ _ _ (by rfl) w.heap.size 9 i0 _ 1 16 Tryz.underlying31 hi hz0 hz1 hz2 rfl (by decide) (.slice (some ⟨nb, 0, none⟩) 1 c2) 1 [.string s] (by rfl) hown' ⟨W1.heap.size, 0, none⟩ 1 1 [.string a] (by rfl) (by rfl) (World.news_of_block (cs := #[.string a]) (t := 9) (fr := (0, 0)) hel) (by simp [Value.oneCell']) (by omega) (by unfold maxLen; omega) (by omega) (by omega) w2.heap.size rfl ?_
    intro g5 cap5 w5 hown5 hgrow hat hlt5
    have HNB : Hid (some w.heap.size ≠ Value.ownBlock (.slice (some ⟨nb, 0, none⟩) 1 c2)) := fun e => by
      have h1 : W1.heap.size + 1 ≤ w.heap.size := by simpa using (World.ownsRow.lt hown _ e.symm).1
      omega
    have k0 := (hgrow.cell_far ⟨w.heap.size, 0, none⟩ hlw2 HNB.out).trans k0
    have k2 := (hgrow.cell_far ⟨w.heap.size, 2, none⟩ hlw2 HNB.out).trans k2
    have HB5 : Hid (Below w.heap.size w w5) := (hb1.trans (hb2'.mono hbs)).grown hgrow (by omega) (fun k h => by have := (World.ownsRow.lt hown' k h).1; exact this)
    refine hK.out _ _ ⟨k0, k2⟩ (fun hHeld => ?_)
    clear hK K
    refine wpAnyH_take (i := 8) (v := .slice (some ⟨g5, 0, none⟩) 2 cap5) rfl (by kernel_rfl) (by kernel_rfl) (by kernel_rfl) (fun _ _ _ h => h) (Or.inl ⟨by rfl, fun w hSw => by (try dsimp only at hSw); go_simp; (try with_reducible rfl)⟩) hHeld ?_
    refine wpAnyH_done (by kernel_rfl) ?_ _
    go_wp2
    go_ret
    exact ⟨g5, cap5, rfl, hown5, HB5.out⟩
/-- What checkReserved answers. -/
def ResPost (tm : Bool) (num : Int) (l : List ByteArray) (w : World) (e : Ending) (w' : World) : Prop := if tm && Pro.resv l then Refused 4 num w e w' else e = .returned (.tuple #[]) ∧ Below w.heap.size w w'
set_option maxRecDepth 100000 in
set_option maxHeartbeats 1600000 in
theorem checkReserved_any (db : Nat) (num dep : Int) (tm : Bool) (l : List ByteArray) (nb c : Nat) (w : World) (hd : w.cell? ⟨db, 4, none⟩ = some (.bool tm)) (hs : Strs w nb 0 l) (hnb : nb < w.heap.size) (hl : l.length ≤ 10) :
    Calls Tryz.prog 365 #[.pointer (some ⟨db, 0, none⟩), .agg #[.int .i64 num, .int .i64 dep], .slice (some ⟨nb, 0, none⟩) l.length c] w (ResPost tm num l w) := by
  have hdl := World.block_lt_of_cell? _ _ hd
  have HS : Hid _ := hs
  clear hs
  go_enter Tryz.func365, Tryz.ntmps365
  go_wp2
  go_loop [10] (fun i => ∃ k : Nat, k ≤ l.length ∧ i = .int .i64 k ∧ (tm && Pro.resv (l.take k)) = false) (fun i => l.length - (intOf i).toNat)
  case atStart => exact ⟨0, Nat.zero_le _, rfl, by cases tm <;> rfl⟩
  case round =>
    obtain ⟨k, hk, rfl, hno⟩ := hrel
    by_cases hkn : k < l.length
    · have ck : w.cell? ⟨nb, k, none⟩ = some (.string l[k]) := by
        have := HS.out k hkn
        simpa [Ref.at', List.getD_eq_getElem?_getD, List.getElem?_eq_getElem hkn] using this
      obtain ⟨x, hx⟩ : ∃ x, x = l[k] := ⟨_, rfl⟩
      rw [← hx] at ck
      have HN : Hid (Pro.resv (l.take (k + 1)) = (Pro.resv (l.take k) || Ref.begins x Ref.kAfter)) := by
        unfold Hid Pro.resv
        rw [List.take_add_one, List.getElem?_eq_getElem hkn, List.any_append, ← hx]
        simp
      have HNo : Hid _ := hno
      clear hno hx
      cases tm with
      | false =>
        go_wp2
        go_round
        case rel => exact ⟨k + 1, by omega, by go_num, rfl⟩
        case measure => simp [intOf]; omega
      | true =>
        go_wp2_with fail
        refine (Tryz.strings_HasPrefix x Ref.kAfter _).mono ?_
        rintro e w9 ⟨rfl, hw9⟩
        rw [hw9, begins_has]
        clear hw9 w9
        cases hb : Ref.begins x Ref.kAfter with
        | false =>
          have HN2 : Hid (Pro.resv (l.take (k + 1)) = false) := by
            have := HNo.out
            unfold Hid; rw [HN.out, hb]; simpa using this
          clear hb
          dsimp only
          go_wp2
          go_round
          case rel => exact ⟨k + 1, by omega, by go_num, by rw [HN2.out]; rfl⟩
          case measure => simp [intOf]; omega
        | true =>
          have HT : Hid (Pro.resv l = true) := by
            have h1 : Pro.resv (l.take (k + 1)) = true := by rw [HN.out, hb]; simp
            unfold Pro.resv at h1
            rw [List.any_eq_true] at h1
            obtain ⟨y, hy, hy2⟩ := h1
            show List.any _ _ = true
            rw [List.any_eq_true]
            exact ⟨y, List.mem_of_mem_take hy, hy2⟩
          clear hb
          dsimp only
          go_wp2_with fail
          refine (refuse_any num dep 4 _).mono ?_
          rintro e w2 ⟨hb, b, h5, h6, rfl⟩
          dsimp only
          refine ⟨rfl, ?_⟩
          unfold ResPost
          rw [HT.out, if_pos (by rfl)]
          exact ⟨((Below.refl w.heap.size w).alloc (Nat.le_refl _) _).trans (hb.mono (by simp)), b, by simp at h5; omega, h6, rfl⟩
    · have hkl : k = l.length := by omega
      have HF : Hid ((tm && Pro.resv l) = false) := by
        have h := hno
        rw [hkl, List.take_length] at h; exact h
      clear hno
      go_wp2
      go_end0
      unfold ResPost
      rw [HF.out]
      exact ⟨rfl, (Below.refl _ _).alloc (Nat.le_refl _) _⟩
end Go.Proofs.YtegmoddppafkfaaGreatDoor
