/-
  MY OWN TEXT.
-/
import Derived.Test.YtegmoddppafkfaaGreatDoorM05
import Derived.Test.YtegmoddppafkfaaGreatDoorM10
import Derived.Deep.AppendLies
import Derived.Deep.LoopGhost
namespace Go.Proofs.YtegmoddppafkfaaGreatDoor
open Go.RowKit

namespace Pro
def bDo : ByteArray := ⟨#[100, 111]⟩
/-- Actions, each behind a do, as far as they go. -/
def pActs : Nat → List ByteArray → Option (List Ref.Act × List ByteArray)
  | 0, l => some ([], l)
  | _ + 1, [] => some ([], [])
  | f + 1, x :: r =>
    if x.toList == bDo.toList then
      match pAction r with
      | none => none
      | some (a, r') => match pActs f r' with
        | none => none
        | some (A, t) => some (a :: A, t)
    else some ([], x :: r)
def pActions (l : List ByteArray) : Option (List Ref.Act × List ByteArray) := pActs l.length l
theorem pOf_len {P : ByteArray → Bool} {l r : List ByteArray} {x : ByteArray} (h : pOf P l = some (x, r)) : r.length + 1 = l.length := by
  rw [(pOf_some h).2]; rfl
theorem pDelay_len {l r : List ByteArray} {d : Int} (h : pDelay l = some (d, r)) : r.length + 1 = l.length := by
  cases l with
  | nil => cases h
  | cons y t =>
    rw [pDelay] at h
    split at h
    · cases h; rfl
    · cases h
theorem pSend_len {l r : List ByteArray} {q : ByteArray × Int × Option ByteArray} (h : pSend l = some (q, r)) : r.length < l.length := by
  unfold pSend at h
  split at h
  · cases h
  · rename_i x l1 h1
    have e1 := pOf_len h1
    split at h
    · cases h
    · rename_i d h2
      have e2 := pDelay_len h2
      cases h; simp at e2 ⊢; omega
    · rename_i d y t h2
      have e2 := pDelay_len h2
      simp only [List.length_cons] at e2
      split at h
      · split at h
        · cases h
        · rename_i a l3 h3
          have e3 := pOf_len h3
          cases h; omega
      · cases h; simp only [List.length_cons]; omega
theorem pAction_len {l r : List ByteArray} {a : Ref.Act} (h : pAction l = some (a, r)) : r.length < l.length := by
  cases l with
  | nil => cases h
  | cons x t =>
    rw [pAction] at h
    simp only [List.length_cons]
    split at h
    · obtain ⟨⟨n, r'⟩, h1, h2⟩ := Option.map_eq_some_iff.1 h
      cases h2
      have := pOf_len h1
      dsimp only at this ⊢; omega
    · split at h
      · obtain ⟨⟨n, r'⟩, h1, h2⟩ := Option.map_eq_some_iff.1 h
        cases h2
        have := pSend_len h1
        dsimp only at this ⊢; omega
      · split at h
        · obtain ⟨⟨n, r'⟩, h1, h2⟩ := Option.map_eq_some_iff.1 h
          cases h2
          have := pOf_len h1
          dsimp only at this ⊢; omega
        · cases h
theorem pActs_mono : ∀ (f g : Nat) (l : List ByteArray), l.length ≤ f → l.length ≤ g → pActs f l = pActs g l
  | 0, 0, l, _, _ => rfl
  | 0, g + 1, [], _, _ => rfl
  | f + 1, 0, [], _, _ => rfl
  | f + 1, g + 1, [], _, _ => rfl
  | 0, _, x :: r, h, _ => by simp at h
  | _ + 1, 0, x :: r, _, h => by simp at h
  | f + 1, g + 1, x :: r, hf, hg => by
    simp only [pActs]
    split
    · cases h : pAction r with
      | none => rfl
      | some q =>
        obtain ⟨a, r'⟩ := q
        have := pAction_len h
        simp only [List.length_cons] at hf hg
        simp only
        rw [pActs_mono f g r' (by omega) (by omega)]
    · rfl
theorem pActions_stop {x : ByteArray} {r : List ByteArray} (h : (x.toList == bDo.toList) = false) : pActions (x :: r) = some ([], x :: r) := by
  show pActs (r.length + 1) (x :: r) = _
  rw [pActs, h]; rfl
theorem pActions_none {x : ByteArray} {r : List ByteArray} (h : (x.toList == bDo.toList) = true) (h2 : pAction r = none) : pActions (x :: r) = none := by
  show pActs (r.length + 1) (x :: r) = _
  rw [pActs, h, h2]; rfl
theorem pActions_more {x : ByteArray} {r r' : List ByteArray} {a : Ref.Act} (h : (x.toList == bDo.toList) = true) (h2 : pAction r = some (a, r')) : pActions (x :: r) = (pActions r').map fun q => (a :: q.1, q.2) := by
  have := pAction_len h2
  show pActs (r.length + 1) (x :: r) = _
  rw [pActs, h, if_pos rfl, h2]
  simp only
  rw [pActs_mono r.length r'.length r' (by omega) (Nat.le_refl _)]
  show _ = (pActs r'.length r').map _
  cases pActs r'.length r' with
  | none => rfl
  | some q => rfl
end Pro
theorem own_turned {p base size n : Nat} {e : TypeId} {v : Value} {xs : List Value} {w w' : World} (h : w.ownsRow base e size v n xs) (ht : Turned p w w') (hp : p < base) : w'.ownsRow base e size v n xs := by
  refine ⟨h.1, ?_⟩
  rcases h.2 with h' | ⟨k, cap, cur, hv, hb, hk, r⟩
  · exact .inl h'
  · exact .inr ⟨k, cap, cur, hv, hb, by rw [ht.block k (Array.getElem?_eq_some_iff.1 hk).1 (by omega)]; exact hk, r⟩
theorem Turned.grown {p : Nat} {w w1 w2 : World} {row : Option Nat} (h : Turned p w w1) (hg : w1.grownBy w2 row) (hr : ∀ k, row = some k → w.heap.size ≤ k) : Turned p w w2 :=
  ⟨hg.os.trans h.os, hg.tape.trans h.tape, hg.output.trans h.output, Nat.le_trans h.size hg.size, fun k hk hp => (hg.block k (Nat.lt_of_lt_of_le hk h.size) (fun e => by have := hr k e.symm; omega)).trans (h.block k hk hp)⟩
theorem WordsAt.grown {w w' : World} {p : Nat} {num dep : Int} {l : List ByteArray} {row : Option Nat} (H : WordsAt w p num dep l) (hg : w.grownBy w' row) (hr : ∀ k, row = some k → p < k) : WordsAt w' p num dep l := by
  obtain ⟨a, cap, hp, hc, hs⟩ := H.row
  refine ⟨⟨a, cap, ?_, hc, fun h => ?_⟩, H.len, H.sizes⟩
  · rw [hg.block p (Array.getElem?_eq_some_iff.1 hp).1 (fun e => by have := hr p e.symm; omega)]; exact hp
  · obtain ⟨b, off, h1, h2, h3, h4⟩ := hs h
    refine ⟨b, off, h1, h2, Nat.lt_of_lt_of_le h3 hg.size, fun i hi => ?_⟩
    rw [hg.cell_far ⟨b, off + i, none⟩ h3 (fun e => by have := hr b e.symm; omega)]; exact h4 i hi
theorem Tryz.infoAction : (Tryz.prog.info? 324).map (fun i => (i.zero, i.size, i.bytes)) = some (some .nilIface, 1, 16) := by kernel_rfl
/-- What actions answers. -/
def ActsPost (p : Nat) (num dep : Int) (l : List ByteArray) (w : World) (e : Ending) (w' : World) : Prop := match Pro.pActions l with
  | none => RefusedT p 2 num w e w'
  | some (A, r) => ∃ a n c, e = .returned (.slice a n c) ∧ w'.ownsRow w.heap.size 324 1 (.slice a n c) A.length (A.map actV) ∧ Turned p w w' ∧ WordsAt w' p num dep r
theorem actV_iface (a : Ref.Act) : ∃ t u, actV a = .iface t u := by
  unfold actV sendV
  repeat' split
  all_goals exact ⟨_, _, rfl⟩

set_option maxHeartbeats 1600000 in
theorem actions_any (p : Nat) (num dep : Int) (l : List ByteArray) (w : World) (H : WordsAt w p num dep l) (hv : EnvAt p w) :
    Calls Tryz.prog 246 #[.pointer (some ⟨p, 0, none⟩)] w (ActsPost p num dep l w) := by
  have hpl := H.lt
  have hll := H.len
  obtain ⟨i0, hi0, hz0, hz1, hz2⟩ := info_parts Tryz.infoAction
  go_enter Tryz.func246, Tryz.ntmps246
  go_wp2_with fail
  go_loopg [3] l.length (fun q v wr => ∃ (va : Option Addr) (vn vc : Nat) (A : List Ref.Act) (l' : List ByteArray), q = l'.length ∧ v = .slice va vn vc ∧ A.length + l'.length ≤ l.length ∧ Pro.pActions l = (Pro.pActions l').map (fun q => (A ++ q.1, q.2)) ∧ wr.ownsRow w.heap.size 324 1 (.slice va vn vc) A.length (A.map actV) ∧ Turned p w wr ∧ WordsAt wr p num dep l')
  case atStart => exact ⟨none, 0, 0, [], l, rfl, rfl, by simp, by cases Pro.pActions l <;> rfl, World.ownsRow_nil _ _ _ _, Turned.refl _ _, H⟩
  case round =>
    obtain ⟨va, vn, vc, A, l', hq, rfl, hlen, hP, hown, ht, H'⟩ := hrel
    have HP : Hid _ := hP
    clear hP
    have hsz := ht.size
    cases l' with
    | nil =>
      go_wp2_with (go_at_call 245; refine (skip_none p num dep Pro.bDo _ H').mono ?_; rintro e w9 ⟨rfl, hw9⟩; rw [hw9]; clear hw9 w9)
      go_ret
      unfold ActsPost
      rw [HP.out]
      exact ⟨va, vn, vc, rfl, by simpa using hown, ht, H'⟩
    | cons x r =>
      cases hx : (x.toList == Pro.bDo.toList)
      · have HS : Hid _ := Pro.pActions_stop (r := r) hx
        go_wp2_with (go_at_call 245; refine (skip_no p num dep x r Pro.bDo _ H' hx).mono ?_; rintro e w9 ⟨rfl, hw9⟩; rw [hw9]; clear hw9 w9)
        go_ret
        unfold ActsPost
        rw [HP.out, HS.out]
        exact ⟨va, vn, vc, rfl, by simpa using hown, ht, H'⟩
      · cases ha : Pro.pAction r with
        | none =>
          have HS : Hid (Pro.pActions l = none) := by unfold Hid; rw [HP.out, Pro.pActions_none hx ha]; rfl
          go_wp2_with fail
          refine (skip_yes p num dep x r Pro.bDo _ H' hx).mono ?_
          rintro e w1 ⟨rfl, ho1, H1⟩
          have ht1 := ht.trans ho1.turned
          clear ho1
          dsimp only
          go_wp2_with fail
          refine (action_any p num dep r _ H1 (hv.turned ht1)).mono ?_
          rintro e w2 hq2
          rw [ha] at hq2
          obtain ⟨ht2, b, h4, h5, rfl⟩ := hq2
          dsimp only
          refine ⟨rfl, ?_⟩
          unfold ActsPost
          rw [HS.out]
          exact ⟨ht1.trans ht2, b, Nat.le_trans ht1.size h4, h5, rfl⟩
        | some q =>
          obtain ⟨a, r'⟩ := q
          have hal := Pro.pAction_len ha
          have HS : Hid (Pro.pActions l = (Pro.pActions r').map (fun q => ((A ++ [a]) ++ q.1, q.2))) := by
            unfold Hid; rw [HP.out, Pro.pActions_more hx ha]
            cases Pro.pActions r' with
            | none => rfl
            | some q => simp
          go_wp2_with fail
          refine (skip_yes p num dep x r Pro.bDo _ H' hx).mono ?_
          rintro e w1 ⟨rfl, ho1, H1⟩
          have ht1 := ht.trans ho1.turned
          have hown1 := own_turned hown ho1.turned hpl
          clear ho1
          dsimp only
          go_wp2_with fail
          refine (action_any p num dep r _ H1 (hv.turned ht1)).mono ?_
          rintro e w2 hq2
          rw [ha] at hq2
          obtain ⟨rfl, ht2, H2⟩ := hq2
          have hown2 := own_turned hown1 ht2 hpl
          have ht3 := ht1.trans ht2
          have hs3 := ht3.size
          clear ha H1 ht1 ht2 hown1 hown
          simp only [List.length_cons] at hlen
          dsimp only
          obtain ⟨at1, au1, hav⟩ := actV_iface a
          rw [hav]
          have HAV : Hid _ := hav
          clear hav
          go_wp2_with (at_builtin; refine wpList_append_lies _ (by rfl) (.tmp 6) (.tmp 9) _ (by rfl) w.heap.size 324 i0 _ 1 16 Tryz.underlying239 hi0 hz0 hz1 hz2 rfl (by decide) (.slice va vn vc) A.length (A.map actV) (by rfl) (World.ownsRow.alloc hown2 _) ⟨w2.heap.size, 0, none⟩ 1 1 [.iface at1 au1] (by rfl) (by rfl) (World.news_of_block (cs := #[.iface at1 au1]) (t := 324) (fr := (0, 0)) (heap_alloc_new w2 _)) (by intro u hu; rw [List.mem_singleton.1 hu]; rfl) (by omega) (by unfold maxLen; omega) (by omega) (by simp; omega) (w2.heap.size + 1) (by simp) ?_; intro g5 cap5 w5 hown5 hgrow hat hlt5)
          go_roundg r'.length
          case measure => omega
          case rel =>
            refine ⟨some ⟨g5, 0, none⟩, A.length + 1, cap5, A ++ [a], r', rfl, rfl, by simp; omega, HS.out, ?_, (ht3.alloc _).grown hgrow (fun k e => (World.ownsRow.lt hown2 k e).1), (H2.alloc _).grown hgrow (fun k e => Nat.lt_of_lt_of_le hpl (World.ownsRow.lt hown2 k e).1)⟩
            rw [List.length_append, List.map_append, List.map_cons, List.map_nil, HAV.out]
            exact hown5
end Go.Proofs.YtegmoddppafkfaaGreatDoor
namespace Go.Proofs.YtegmoddppafkfaaGreatDoor
open Go.RowKit

theorem Tryz.resDoings : Tryz.f223.results = #[.cell 2 384] := rfl
theorem Tryz.sizeDoings : (Tryz.prog.info? 384).map (·.size) = some 3 := by kernel_rfl
namespace Pro
/-- At least one action. -/
def pDoings (l : List ByteArray) : Option (List Ref.Act × List ByteArray) := match pActions l with
  | none => none
  | some ([], _) => none
  | some (a :: A, r) => some (a :: A, r)
end Pro
def DoingsPost (p : Nat) (num dep : Int) (l : List ByteArray) (w : World) (e : Ending) (w' : World) : Prop := match Pro.pDoings l with
  | none => RefusedT p 2 num w e w'
  | some (A, r) => ∃ a n c, e = .returned (.agg #[.int .i64 num, .int .i64 dep, .slice a n c]) ∧ w'.ownsRow w.heap.size 324 1 (.slice a n c) A.length (A.map actV) ∧ Turned p w w' ∧ WordsAt w' p num dep r
theorem Only.trans {g : Nat} {a b c : World} (h : Only g a b) (k : Only g b c) : Only g a c := ⟨k.os.trans h.os, k.tape.trans h.tape, k.output.trans h.output, k.size.trans h.size, fun i hi => (k.block i hi).trans (h.block i hi)⟩
theorem Turned.onlyNew {p N : Nat} {w w1 w2 : World} (h : Turned p w w1) (ho : Only N w1 w2) (hN : w.heap.size ≤ N) : Turned p w w2 :=
  ⟨ho.os.trans h.os, ho.tape.trans h.tape, ho.output.trans h.output, by rw [ho.size]; exact h.size, fun k hk hp => (ho.block k (by omega)).trans (h.block k hk hp)⟩

set_option maxHeartbeats 1600000 in
theorem doings_any (p : Nat) (num dep : Int) (l : List ByteArray) (w : World) (H : WordsAt w p num dep l) (hv : EnvAt p w) :
    Calls Tryz.prog 223 #[.pointer (some ⟨p, 0, none⟩)] w (DoingsPost p num dep l w) := by
  have hpl := H.lt
  cases ha : Pro.pActions l with
  | none =>
    have HS : Hid (Pro.pDoings l = none) := by unfold Hid Pro.pDoings; rw [ha]
    go_enter Tryz.func223, Tryz.ntmps223
    go_wp2_with fail
    refine (actions_any p num dep l _ (H.alloc _) (hv.alloc _)).mono ?_
    rintro e w1 h1
    unfold ActsPost at h1
    rw [ha] at h1
    obtain ⟨ht, b, h4, h5, rfl⟩ := h1
    dsimp only
    refine ⟨rfl, ?_⟩
    unfold DoingsPost
    rw [HS.out]
    exact ⟨((Turned.refl p w).alloc _).trans ht, b, by simp at h4; omega, h5, rfl⟩
  | some q =>
    obtain ⟨A, r⟩ := q
    cases A with
    | nil =>
      have HS : Hid (Pro.pDoings l = none) := by unfold Hid Pro.pDoings; rw [ha]
      go_enter Tryz.func223, Tryz.ntmps223
      go_wp2_with fail
      refine (actions_any p num dep l _ (H.alloc _) (hv.alloc _)).mono ?_
      rintro e w1 h1
      unfold ActsPost at h1
      rw [ha] at h1
      obtain ⟨a, n, c, rfl, hown, ht1, H1⟩ := h1
      obtain rfl : n = 0 := by
        rcases hown.2 with ⟨hv', _⟩ | ⟨g, cap, cur, hv', _⟩
        · simp only [Value.slice.injEq] at hv'; exact hv'.2.1
        · simp only [Value.slice.injEq] at hv'; exact hv'.2.1
      obtain ⟨c0, c1⟩ := H1.cells
      have ht : Turned p w w1 := ((Turned.refl p w).alloc _).trans ht1
      clear ht1 hown ha
      dsimp only
      go_wp2_with fail
      refine (refuse_any num dep 2 _).mono ?_
      rintro e w2 hq
      obtain ⟨ht', b, h4, h5, rfl⟩ := refusedT_of ht hq
      dsimp only
      refine ⟨rfl, ?_⟩
      unfold DoingsPost
      rw [HS.out]
      exact ⟨ht', b, h4, h5, rfl⟩
    | cons a0 A =>
      have HS : Hid (Pro.pDoings l = some (a0 :: A, r)) := by unfold Hid Pro.pDoings; rw [ha]
      go_enter Tryz.func223, Tryz.ntmps223
      go_wp2_with fail
      refine (actions_any p num dep l _ (H.alloc _) (hv.alloc _)).mono ?_
      rintro e w1 h1
      unfold ActsPost at h1
      rw [ha] at h1
      obtain ⟨a, n, c, rfl, hown, ht1, H1⟩ := h1
      obtain rfl : n = (a0 :: A).length := by
        rcases hown.2 with ⟨hv', h0⟩ | ⟨g, cap, cur, hv', _⟩
        · simp only [Value.slice.injEq] at hv'; rw [h0]; exact hv'.2.1
        · simp only [Value.slice.injEq] at hv'; exact hv'.2.1
      have hN : w1.heap[w.heap.size]? = some (.cells #[.int .i64 0, .int .i64 0, .slice none 0 0] 384 (0, 0)) := by
        rw [ht1.block w.heap.size (by simp) (by omega)]; exact heap_alloc_new w _
      have d0 : w1.cell? ⟨w.heap.size, 0, none⟩ = some (.int .i64 0) := by rw [cell_of_row w1 _ 0 _ _ _ hN]; rfl
      have d1 : w1.cell? ⟨w.heap.size, 1, none⟩ = some (.int .i64 0) := by rw [cell_of_row w1 _ 1 _ _ _ hN]; rfl
      have d2 : w1.cell? ⟨w.heap.size, 2, none⟩ = some (.slice none 0 0) := by rw [cell_of_row w1 _ 2 _ _ _ hN]; rfl
      have f0 : w1.frozen? ⟨w.heap.size, 0, none⟩ = false := by simp [World.frozen?, hN]
      have f1 : w1.frozen? ⟨w.heap.size, 1, none⟩ = false := by simp [World.frozen?, hN]
      have f2 : w1.frozen? ⟨w.heap.size, 2, none⟩ = false := by simp [World.frozen?, hN]
      obtain ⟨c0, c1⟩ := H1.cells
      have ht : Turned p w w1 := ((Turned.refl p w).alloc _).trans ht1
      have hown' := own_mono hown (show w.heap.size ≤ (w.alloc (.cells #[.int .i64 0, .int .i64 0, .slice none 0 0] 384)).heap.size by simp)
      have hpos : (((a0 :: A).length : Int) == 0) = false := by simp; omega
      clear ht1 ha hown
      generalize hm : (a0 :: A).length = m at *
      have HM : Hid _ := hm
      clear hm
      dsimp only
      go_wp2
      have o1 := only_setCell w1 w.heap.size 0 (.int .i64 num)
      have o2 := only_setCell (w1.setCell ⟨w.heap.size, 0, none⟩ (.int .i64 num)) w.heap.size 1 (.int .i64 dep)
      have o3 := only_setCell ((w1.setCell ⟨w.heap.size, 0, none⟩ (.int .i64 num)).setCell ⟨w.heap.size, 1, none⟩ (.int .i64 dep)) w.heap.size 2 (.slice a m c)
      have oo := (o1.trans o2).trans o3
      have g1 := heap_setCell_same w1 w.heap.size 0 _ _ (.int .i64 num) hN
      have g2 := heap_setCell_same _ w.heap.size 1 _ _ (.int .i64 dep) g1
      have g3 := heap_setCell_same _ w.heap.size 2 _ _ (.slice a m c) g2
      refine ret_cell Tryz.resDoings _ 384 _ (0, 0) _ rfl g3 Tryz.underlying384 rfl Tryz.sizeDoings rfl ?_
      unfold DoingsPost
      rw [HS.out]
      exact ⟨a, m, c, rfl, by rw [HM.out]; exact own_tag hown' oo hN (by decide), ht.onlyNew oo (Nat.le_refl _), H1.only oo hpl⟩

theorem nextOf_name_any (p : Nat) (num dep : Int) (l : List ByteArray) (w : World) (H : WordsAt w p num dep l) (hv : EnvAt p w) :
    Calls Tryz.prog 219 #[.pointer (some ⟨p, 0, none⟩), .func (.func 244) #[] #[]] w (Parses p num dep ((Pro.pOf Ref.plain l).map fun q => (.string q.1, q.2)) w) := by
  cases l with
  | nil => exact nextOf_none p num dep _ w H
  | cons x r =>
    cases hx : Ref.plain x
    · have : Pro.pOf Ref.plain (x :: r) = none := by rw [Pro.pOf, hx]; rfl
      rw [this]; exact nextOf_name_no p num dep x r w H hv hx
    · have : Pro.pOf Ref.plain (x :: r) = some (x, r) := by rw [Pro.pOf, hx]; rfl
      rw [this]; exact nextOf_name_yes p num dep x r w H hv hx
theorem nextOf_awaited_any (p : Nat) (num dep : Int) (l : List ByteArray) (w : World) (H : WordsAt w p num dep l) (hv : EnvAt p w) :
    Calls Tryz.prog 219 #[.pointer (some ⟨p, 0, none⟩), .func (.func 220) #[] #[]] w (Parses p num dep ((Pro.pOf Ref.awaited l).map fun q => (.string q.1, q.2)) w) := by
  cases l with
  | nil => exact nextOf_none p num dep _ w H
  | cons x r =>
    cases hx : Ref.awaited x
    · have : Pro.pOf Ref.awaited (x :: r) = none := by rw [Pro.pOf, hx]; rfl
      rw [this]; exact nextOf_awaited_no p num dep x r w H hv hx
    · have : Pro.pOf Ref.awaited (x :: r) = some (x, r) := by rw [Pro.pOf, hx]; rfl
      rw [this]; exact nextOf_awaited_yes p num dep x r w H hv hx
end Go.Proofs.YtegmoddppafkfaaGreatDoor
namespace Go.Proofs.YtegmoddppafkfaaGreatDoor
open Go.RowKit

theorem Tryz.resState : Tryz.f216.results = #[.cell 4 376] := rfl
theorem Tryz.sizeStateLine : (Tryz.prog.info? 376).map (·.size) = some 4 := by kernel_rfl

set_option maxHeartbeats 1600000 in
theorem state_no (p : Nat) (num dep k : Int) (l : List ByteArray) (w : World) (H : WordsAt w p num dep l) (hv : EnvAt p w) (hn : Pro.pOf Ref.plain l = none) :
    Calls Tryz.prog 216 #[.pointer (some ⟨p, 0, none⟩), .int .i64 k] w (RefusedT p 2 num w) := by
  have hpl := H.lt
  obtain ⟨c0, c1⟩ := H.cells
  go_enter Tryz.func216, Tryz.ntmps216
  go_wp2_with fail
  have H1 := (H.alloc (.cells #[.int .i64 0, .int .i64 0, .int .i64 0, .string ByteArray.empty] 376)).drew
  have hv1 : EnvAt p (w.alloc (.cells #[.int .i64 0, .int .i64 0, .int .i64 0, .string ByteArray.empty] 376)).drew := (hv.alloc _).turned (Turned.refl p _).drew
  refine wp_region_any (by kernel_rfl) ?_
  change wpAny _ _ _ _ _ _ _ (World.drew _)
  refine wpAny_take (i := 0) (v := .pointer (some ⟨p, 0, none⟩)) rfl (by kernel_rfl) (by kernel_rfl) (by kernel_rfl) (fun _ _ _ h => h) (Or.inl ⟨by rfl, fun w => by go_simp⟩) ?_
  refine wpAny_take (i := 1) (v := .pointer (some ⟨p, 0, none⟩)) rfl (by kernel_rfl) (by kernel_rfl) (by kernel_rfl) (fun _ _ _ h => h) (Or.inl ⟨by rfl, fun w => by go_simp⟩) ?_
  refine wpAny_take (i := 2) (v := .pointer (some ⟨p, 0, none⟩)) rfl (by kernel_rfl) (by kernel_rfl) (by kernel_rfl) (fun _ _ _ h => h) (Or.inl ⟨by rfl, fun w => by go_simp⟩) ?_
  refine wpAny_take (i := 4) (v := .int .i64 k) rfl (by kernel_rfl) (by kernel_rfl) (by kernel_rfl) (fun _ _ _ h => h) (Or.inl ⟨by rfl, fun w => by go_simp⟩) ?_
  refine wpAny_take (i := 5) (v := .pointer (some ⟨p, 0, none⟩)) rfl (by kernel_rfl) (by kernel_rfl) (by kernel_rfl) (fun _ _ _ h => h) (Or.inl ⟨by rfl, fun w => by go_simp⟩) ?_
  refine wpAny_ready (rs := [3, 6]) (by kernel_rfl) (by simp) ?_
  refine AllReady.cons rfl (fun K hK => ?_) (AllReady.cons rfl (fun K hK => ?_) AllReady.nil)
  · go_simp
    refine hK _ _ ?_
    clear hK K
    refine wpAny_ready (rs := [6]) (by kernel_rfl) (by simp) ?_
    refine AllReady.cons rfl (fun K hK => ?_) AllReady.nil
    go_simp
    (refine (nextOf_name_any p num dep l _ H1 hv1).mono ?_; rintro e w4 h4; rw [hn] at h4; obtain ⟨ht, b, h5, h6, rfl⟩ := h4; dsimp only; exact ⟨rfl, ((Turned.refl p w).alloc _).drew.trans ht, b, by simp at h5; omega, h6, rfl⟩)
  · go_simp
    (refine (nextOf_name_any p num dep l _ H1 hv1).mono ?_; rintro e w4 h4; rw [hn] at h4; obtain ⟨ht, b, h5, h6, rfl⟩ := h4; dsimp only; exact ⟨rfl, ((Turned.refl p w).alloc _).drew.trans ht, b, by simp at h5; omega, h6, rfl⟩)

set_option maxHeartbeats 1600000 in
theorem state_yes (p : Nat) (num dep k : Int) (l r : List ByteArray) (x : ByteArray) (w : World) (H : WordsAt w p num dep l) (hv : EnvAt p w) (hn : Pro.pOf Ref.plain l = some (x, r)) :
    Calls Tryz.prog 216 #[.pointer (some ⟨p, 0, none⟩), .int .i64 k] w fun e w' => e = .returned (.agg #[.int .i64 num, .int .i64 dep, .int .i64 k, .string x]) ∧ Turned p w w' ∧ WordsAt w' p num dep r := by
  have hpl := H.lt
  obtain ⟨c0, c1⟩ := H.cells
  go_enter Tryz.func216, Tryz.ntmps216
  go_wp2_with fail
  have H1 := (H.alloc (.cells #[.int .i64 0, .int .i64 0, .int .i64 0, .string ByteArray.empty] 376)).drew
  have hv1 : EnvAt p (w.alloc (.cells #[.int .i64 0, .int .i64 0, .int .i64 0, .string ByteArray.empty] 376)).drew := (hv.alloc _).turned (Turned.refl p _).drew
  go_region_held3 (fun W => W.cell? ⟨p, 0, none⟩ = some (.int .i64 num) ∧ W.cell? ⟨p, 1, none⟩ = some (.int .i64 dep)) (first | go_keep | exact ⟨k0, k1⟩ | exact ⟨k2, k3⟩)
    ((go_at_call 219; refine (nextOf_name_any p num dep l _ H1 hv1).mono ?_; rintro e w4 h4; rw [hn] at h4; obtain ⟨rfl, ht4, H4⟩ := h4; obtain ⟨k0, k1⟩ := H4.cells; have hN : w4.heap[w.heap.size]? = some (.cells #[.int .i64 0, .int .i64 0, .int .i64 0, .string ByteArray.empty] 376 (0, 0)) := (ht4.block w.heap.size (by simp) (by omega)).trans (heap_alloc_new w _); have d0 : w4.cell? ⟨w.heap.size, 0, none⟩ = some (.int .i64 0) := by rw [cell_of_row w4 _ 0 _ _ _ hN]; rfl
      have d1 : w4.cell? ⟨w.heap.size, 1, none⟩ = some (.int .i64 0) := by rw [cell_of_row w4 _ 1 _ _ _ hN]; rfl
      have d2 : w4.cell? ⟨w.heap.size, 2, none⟩ = some (.int .i64 0) := by rw [cell_of_row w4 _ 2 _ _ _ hN]; rfl
      have d3 : w4.cell? ⟨w.heap.size, 3, none⟩ = some (.string ByteArray.empty) := by rw [cell_of_row w4 _ 3 _ _ _ hN]; rfl
      have f0 : w4.frozen? ⟨w.heap.size, 0, none⟩ = false := by simp [World.frozen?, hN]
      have f1 : w4.frozen? ⟨w.heap.size, 1, none⟩ = false := by simp [World.frozen?, hN]
      have f2 : w4.frozen? ⟨w.heap.size, 2, none⟩ = false := by simp [World.frozen?, hN]
      have f3 : w4.frozen? ⟨w.heap.size, 3, none⟩ = false := by simp [World.frozen?, hN]
      have hne : ¬ p = w.heap.size := by omega
      have hne2 : ¬ w.heap.size = p := by omega
      dsimp only))
  go_wp2
  have o1 := only_setCell w4 w.heap.size 0 (.int .i64 num)
  have o2 := only_setCell (w4.setCell ⟨w.heap.size, 0, none⟩ (.int .i64 num)) w.heap.size 1 (.int .i64 dep)
  have o3 := only_setCell ((w4.setCell ⟨w.heap.size, 0, none⟩ (.int .i64 num)).setCell ⟨w.heap.size, 1, none⟩ (.int .i64 dep)) w.heap.size 2 (.int .i64 k)
  have o4 := only_setCell (((w4.setCell ⟨w.heap.size, 0, none⟩ (.int .i64 num)).setCell ⟨w.heap.size, 1, none⟩ (.int .i64 dep)).setCell ⟨w.heap.size, 2, none⟩ (.int .i64 k)) w.heap.size 3 (.string x)
  have oo := ((o1.trans o2).trans o3).trans o4
  have g1 := heap_setCell_same w4 w.heap.size 0 _ _ (.int .i64 num) hN
  have g2 := heap_setCell_same _ w.heap.size 1 _ _ (.int .i64 dep) g1
  have g3 := heap_setCell_same _ w.heap.size 2 _ _ (.int .i64 k) g2
  have g4 := heap_setCell_same _ w.heap.size 3 _ _ (.string x) g3
  have ht : Turned p w w4 := ((Turned.refl p w).alloc _).drew.trans ht4
  exact ret_cell Tryz.resState _ 376 _ (0, 0) _ rfl g4 Tryz.underlying376 rfl Tryz.sizeStateLine rfl ⟨rfl, ht.onlyNew oo (Nat.le_refl _), H4.only oo hpl⟩
end Go.Proofs.YtegmoddppafkfaaGreatDoor
namespace Go.Proofs.YtegmoddppafkfaaGreatDoor
open Go.RowKit

theorem Tryz.resHistory : Tryz.f217.results = #[.cell 2 376] := rfl
namespace Pro
def bDeepW : ByteArray := ⟨#[100, 101, 101, 112]⟩
/-- A history's name, whether it is deep, and what is left. -/
def pHistory (l : List ByteArray) : Option ((ByteArray × Int) × List ByteArray) := match pOf Ref.plain l with
  | none => none
  | some (x, []) => some ((x, 3), [])
  | some (x, y :: r) => if y.toList == bDeepW.toList then some ((x, 4), r) else some ((x, 3), y :: r)
end Pro
/-- A line of a state, as it lies in its block. -/
theorem line_facts {w : World} {N : Nat} {a b c d : Value} {t : TypeId} (hN : w.heap[N]? = some (.cells #[a, b, c, d] t (0, 0))) :
    w.cell? ⟨N, 0, none⟩ = some a ∧ w.cell? ⟨N, 1, none⟩ = some b ∧ w.cell? ⟨N, 2, none⟩ = some c ∧ w.cell? ⟨N, 3, none⟩ = some d ∧ w.frozen? ⟨N, 0, none⟩ = false ∧ w.frozen? ⟨N, 1, none⟩ = false ∧ w.frozen? ⟨N, 2, none⟩ = false ∧ w.frozen? ⟨N, 3, none⟩ = false :=
  ⟨by rw [cell_of_row w _ 0 _ _ _ hN]; rfl, by rw [cell_of_row w _ 1 _ _ _ hN]; rfl, by rw [cell_of_row w _ 2 _ _ _ hN]; rfl, by rw [cell_of_row w _ 3 _ _ _ hN]; rfl, by simp [World.frozen?, hN], by simp [World.frozen?, hN], by simp [World.frozen?, hN], by simp [World.frozen?, hN]⟩
theorem line_stored {w : World} {N : Nat} {a b c d a' b' c' d' : Value} {t : TypeId} (hN : w.heap[N]? = some (.cells #[a, b, c, d] t (0, 0))) :
    ((((w.setCell ⟨N, 0, none⟩ a').setCell ⟨N, 1, none⟩ b').setCell ⟨N, 2, none⟩ c').setCell ⟨N, 3, none⟩ d').heap[N]? = some (.cells #[a', b', c', d'] t (0, 0)) ∧ Only N w ((((w.setCell ⟨N, 0, none⟩ a').setCell ⟨N, 1, none⟩ b').setCell ⟨N, 2, none⟩ c').setCell ⟨N, 3, none⟩ d') := by
  have g1 := heap_setCell_same w N 0 _ _ a' hN
  have g2 := heap_setCell_same _ N 1 _ _ b' g1
  have g3 := heap_setCell_same _ N 2 _ _ c' g2
  have g4 := heap_setCell_same _ N 3 _ _ d' g3
  exact ⟨g4, (((only_setCell _ _ _ _).trans (only_setCell _ _ _ _)).trans (only_setCell _ _ _ _)).trans (only_setCell _ _ _ _)⟩

set_option maxHeartbeats 1600000 in
theorem history_any (p : Nat) (num dep : Int) (l : List ByteArray) (w : World) (H : WordsAt w p num dep l) (hv : EnvAt p w) :
    Calls Tryz.prog 217 #[.pointer (some ⟨p, 0, none⟩)] w (Parses p num dep ((Pro.pHistory l).map fun q => (.agg #[.int .i64 num, .int .i64 dep, .int .i64 q.1.2, .string q.1.1], q.2)) w) := by
  have hpl := H.lt
  cases hn : Pro.pOf Ref.plain l with
  | none =>
    have HS : Hid (Pro.pHistory l = none) := by unfold Hid Pro.pHistory; rw [hn]
    go_enter Tryz.func217, Tryz.ntmps217
    go_wp2_with fail
    refine (state_no p num dep 3 l _ (H.alloc _) (hv.alloc _) hn).mono ?_
    rintro e w1 h1
    obtain ⟨ht, b, h4, h5, rfl⟩ := h1
    dsimp only
    refine ⟨rfl, ?_⟩
    rw [HS.out]
    exact ⟨((Turned.refl p w).alloc _).trans ht, b, by simp at h4; omega, h5, rfl⟩
  | some q =>
    obtain ⟨x, l2⟩ := q
    go_enter Tryz.func217, Tryz.ntmps217
    go_wp2_with fail
    refine (state_yes p num dep 3 l l2 x _ (H.alloc _) (hv.alloc _) hn).mono ?_
    rintro e w1 ⟨rfl, ht1, H1⟩
    dsimp only
    have hN : w1.heap[w.heap.size]? = some (.cells #[.int .i64 0, .int .i64 0, .int .i64 0, .string ByteArray.empty] 376 (0, 0)) := (ht1.block w.heap.size (by simp) (by omega)).trans (heap_alloc_new w _)
    have hNl : w.heap.size < w1.heap.size := (Array.getElem?_eq_some_iff.1 hN).1
    have ht : Turned p w w1 := ((Turned.refl p w).alloc _).trans ht1
    have hp1 := H1.lt
    clear ht1
    have H2 := H1.alloc (.cells #[.int .i64 num, .int .i64 dep, .int .i64 3, .string x] 376)
    have hN2 : (w1.alloc (.cells #[.int .i64 num, .int .i64 dep, .int .i64 3, .string x] 376)).heap[w.heap.size]? = some (.cells #[.int .i64 0, .int .i64 0, .int .i64 0, .string ByteArray.empty] 376 (0, 0)) := by rw [Below.heap_alloc _ _ _ hNl]; exact hN
    have ht2 : Turned p w (w1.alloc (.cells #[.int .i64 num, .int .i64 dep, .int .i64 3, .string x] 376)) := ht.alloc _
    have hM2 := heap_alloc_new w1 (.cells #[.int .i64 num, .int .i64 dep, .int .i64 3, .string x] 376)
    have hne : ¬ w.heap.size = w1.heap.size := by omega
    have hne' : ¬ w1.heap.size = w.heap.size := by omega
    cases l2 with
    | nil =>
      have HS : Hid (Pro.pHistory l = some ((x, 3), [])) := by unfold Hid Pro.pHistory; rw [hn]
      go_wp2_with fail
      refine (skip_none p num dep Pro.bDeepW _ H2).mono ?_
      rintro e w9 ⟨rfl, hw9⟩
      rw [hw9]
      clear hw9 w9 hN
      generalize w1.alloc (.cells #[.int .i64 num, .int .i64 dep, .int .i64 3, .string x] 376) = w2 at *
      obtain ⟨a0, a1, a2, a3, b0, b1, b2, b3⟩ := line_facts hN2
      obtain ⟨c0, c1, c2, c3, _, _, _, _⟩ := line_facts hM2
      have gg := line_stored (a' := .int .i64 num) (b' := .int .i64 dep) (c' := .int .i64 3) (d' := .string x) hN2
      have GG : Hid _ := gg
      clear gg
      dsimp only
      go_wp2
      refine ret_cell Tryz.resHistory _ 376 _ (0, 0) _ rfl GG.out.1 Tryz.underlying376 rfl Tryz.sizeStateLine rfl ?_
      unfold Parses
      rw [HS.out]
      exact ⟨rfl, ht2.onlyNew GG.out.2 (Nat.le_refl _), H2.only GG.out.2 hpl⟩
    | cons y r =>
      cases hy : (y.toList == Pro.bDeepW.toList)
      · have HS : Hid (Pro.pHistory l = some ((x, 3), y :: r)) := by unfold Hid Pro.pHistory; rw [hn]; simp only; rw [hy]; rfl
        go_wp2_with fail
        refine (skip_no p num dep y r Pro.bDeepW _ H2 hy).mono ?_
        rintro e w9 ⟨rfl, hw9⟩
        rw [hw9]
        clear hw9 w9 hN
        generalize w1.alloc (.cells #[.int .i64 num, .int .i64 dep, .int .i64 3, .string x] 376) = w2 at *
        obtain ⟨a0, a1, a2, a3, b0, b1, b2, b3⟩ := line_facts hN2
        obtain ⟨c0, c1, c2, c3, _, _, _, _⟩ := line_facts hM2
        have GG : Hid _ := line_stored (a' := .int .i64 num) (b' := .int .i64 dep) (c' := .int .i64 3) (d' := .string x) hN2
        dsimp only
        go_wp2
        refine ret_cell Tryz.resHistory _ 376 _ (0, 0) _ rfl GG.out.1 Tryz.underlying376 rfl Tryz.sizeStateLine rfl ?_
        unfold Parses
        rw [HS.out]
        exact ⟨rfl, ht2.onlyNew GG.out.2 (Nat.le_refl _), H2.only GG.out.2 hpl⟩
      · have HS : Hid (Pro.pHistory l = some ((x, 4), r)) := by unfold Hid Pro.pHistory; rw [hn]; simp only; rw [hy]; rfl
        go_wp2_with fail
        refine (skip_yes p num dep y r Pro.bDeepW _ H2 hy).mono ?_
        rintro e w3 ⟨rfl, ho3, H3⟩
        have hN3 := (ho3.block w.heap.size (by omega)).trans hN2
        have hM3 := (ho3.block w1.heap.size (by omega)).trans hM2
        have ht3 := ht2.trans ho3.turned
        have hM4 := heap_setCell_same w3 w1.heap.size 2 _ _ (.int .i64 4) hM3
        have oM := only_setCell w3 w1.heap.size 2 (.int .i64 4)
        have hN4 := (oM.block w.heap.size hne).trans hN3
        have ht4 := ht3.onlyNew oM (by omega)
        have H4 := H3.only oM (by omega)
        obtain ⟨_, _, m2, _, _, _, m6, _⟩ := line_facts hM3
        clear hN hN2 hM2 ho3 ht3 H3 hM3 hN3 oM
        dsimp only
        go_upto_region 4 with fail
        generalize w3.setCell ⟨w1.heap.size, 2, none⟩ (.int .i64 4) = w4 at *
        obtain ⟨a0, a1, a2, a3, b0, b1, b2, b3⟩ := line_facts hN4
        obtain ⟨c0, c1, c2, c3, _, _, _, _⟩ := line_facts (a := .int .i64 num) (b := .int .i64 dep) (c := .int .i64 4) (d := .string x) hM4
        have GG : Hid _ := line_stored (a' := .int .i64 num) (b' := .int .i64 dep) (c' := .int .i64 4) (d' := .string x) hN4
        go_wp2
        refine ret_cell Tryz.resHistory _ 376 _ (0, 0) _ rfl GG.out.1 Tryz.underlying376 rfl Tryz.sizeStateLine rfl ?_
        unfold Parses
        rw [HS.out]
        exact ⟨rfl, ht4.onlyNew GG.out.2 (Nat.le_refl _), H4.only GG.out.2 hpl⟩
end Go.Proofs.YtegmoddppafkfaaGreatDoor
