/-
  MY OWN TEXT.
-/
import Derived.Test.YtegmoddppafkfaaGreatDoorM23
import Derived.Test.YtegmoddppafkfaaGreatDoorM24
import Derived.Test.YtegmoddppafkfaaGreatDoorM25
import Derived.Test.YtegmoddppafkfaaGreatDoorM26
namespace Go.Proofs.YtegmoddppafkfaaGreatDoor
open Go.RowKit

/-- The draft holds the states S, which the first i lines have left. -/
structure DraftAt (w0 w : World) (db : Nat) (S : List Ref.State) (i : Nat) : Prop where
  mem : ∃ sv pv ov mb X nm, X.map (·.s) = S ∧ nm ≤ S.length ∧ DraftG w0 w db sv pv ov mb (Pro.timedS S) X (Pro.spotsOf S) (Pro.opn S) (Pro.parts S) nm (Pro.firstTo S S.length)
  inv : Pro.Inv S i
/-- What place answers. -/
def PlacePost (w0 : World) (db : Nat) (S : List Ref.State) (i d : Nat) (L : Pro.PL) (w : World) (e : Ending) (w' : World) : Prop := match Ref.treeStep S i (Pro.toLine (i + 1) L) (d : Int) with
  | none => Refused 3 ((i + 1 : Nat) : Int) w e w'
  | some S' => e = .returned (.tuple #[]) ∧ DraftAt w0 w' db S' (i + 1)
theorem wf_num {i : Nat} (h : i ≤ 1000000) : (Lit.int .i64 ((i : Nat) : Int)).wf = true := WalkArith.wf_i64 (by omega)
theorem map_get {X : List Pro.DS} {S : List Ref.State} (h : X.map (·.s) = S) {u : Nat} (hu : u < S.length) : ∃ hx : u < X.length, X[u].s = S.getD u Ref.st0 := by
  have hl : X.length = S.length := by rw [← h, List.length_map]
  refine ⟨by omega, ?_⟩
  subst h
  rw [Pro.getD_eq hu, List.getElem_map]
theorem placeState (w0 w : World) (db : Nat) (S : List Ref.State) (i d : Nat) (k : Int) (n : ByteArray) (H : DraftAt w0 w db S i) (hk0 : 0 ≤ k) (hk4 : k ≤ 4) (hn : n.size ≤ 1000000) (hd : d ≤ 1000000) (hi : i ≤ 100000) :
    Calls Tryz.prog 359 #[.agg (slCells ((i + 1 : Nat) : Int) d k n), .pointer (some ⟨db, 0, none⟩)] w (PlacePost w0 db S i d (.state k n) w) := by
  obtain ⟨⟨sv, pv, ov, mb, X, nm, hX, hnm, G⟩, I⟩ := H
  have hXl : X.length = S.length := by rw [← hX, List.length_map]
  have hlen := I.len
  have hol := Pro.opnTo_len S S.length
  change (Pro.opn S).length ≤ S.length at hol
  unfold PlacePost
  rw [Pro.step_state]
  by_cases hbad : 0 < d ∧ Ref.upOf S d < 0
  · rw [if_pos hbad]
    refine statePlace_none _ d k n G hbad.1 ?_ (by omega)
    rcases Nat.lt_or_ge (Pro.opn S).length d with h | h
    · exact h
    · obtain ⟨d', rfl⟩ : ∃ d', d = d' + 1 := ⟨d - 1, by omega⟩
      have := (Pro.up_some I (k := d') (by omega)).1
      have h2 := hbad.2
      rw [this] at h2; omega
  · rw [if_neg hbad]
    obtain ⟨ns, hns⟩ : ∃ ns : Ref.State, ns = ⟨Pro.wordOf k, n, decide (k = 4), Ref.upOf S d, d, ((i + 1 : Nat) : Int), [], [], [], 0, 0⟩ := ⟨_, rfl⟩
    have hdo : d ≤ (Pro.opn S).length := by
      rcases Nat.lt_or_ge (Pro.opn S).length d with h | h
      · exact absurd ⟨by omega, by rw [Pro.up_none I h]; decide⟩ hbad
      · exact h
    have how : (d = 0 ∧ Ref.upOf S d = -1) ∨ ∃ (k u : Nat) (hk : k < (Pro.opn S).length), d = k + 1 ∧ (Pro.opn S)[k] = u ∧ Ref.upOf S d = u ∧ u < X.length := by
      by_cases h0 : d = 0
      · subst h0; exact .inl ⟨rfl, rfl⟩
      · obtain ⟨d', rfl⟩ : ∃ d', d = d' + 1 := ⟨d - 1, by omega⟩
        obtain ⟨h1, h2⟩ := Pro.up_some I (k := d') (by omega)
        exact .inr ⟨d', _, by omega, rfl, rfl, h1, by omega⟩
    have how2 : Ref.upOf S d = -1 ∨ ∃ u : Nat, Ref.upOf S d = u ∧ u < S.length := by
      rcases how with ⟨_, h⟩ | ⟨_, u, _, _, _, h, hu⟩
      · exact .inl h
      · exact .inr ⟨u, h, by omega⟩
    have hw : Pro.WordOK ns := ⟨k, hk0, hk4, by rw [hns], by rw [hns]⟩
    have hkd : Pro.kindOf ns = k := Pro.kindOf_word hk0 hk4 (by rw [hns]) (by rw [hns])
    have hfit := Pro.fits_ok I hw (dep := d) (by rw [hns]) hX (by rw [hns]; exact how2)
    have hst := statePlace_any ((i + 1 : Nat) : Int) d k (Ref.upOf S d) n ns G (by omega) (by unfold Pro.spotsOf; rw [List.length_map]; omega) (by omega) (fun j => by have := Pro.partsTo_len S j S.length; exact Nat.le_trans this (by omega)) (by omega)
      hkd (by rw [hns]) (by rw [hns]) (by rw [hns]) (by rw [hns]) (by rw [hns]) (by rw [hns]) hdo hn (wf_num (by omega)) how (by
        rw [hXl]
        exact Pro.partsTo_none _ (fun j hj e => by have := (I.up j hj).2; omega))
    refine Calls.mono hst ?_
    intro e w' h
    have hup : ns.up = Ref.upOf S d := by rw [hns]
    rw [hkd, hup] at hfit
    change _ = okAt X (Pro.parts S) d (Ref.upOf S d) k at hfit
    rw [← hns, hfit]
    cases hok : okAt X (Pro.parts S) d (Ref.upOf S d) k
    · rw [hok] at h
      exact h
    · rw [hok] at h
      obtain ⟨rfl, sv', pv', ov', X', hX', G'⟩ := h
      have h24 : S.length ≠ 24 := by
        intro e
        unfold okAt at hok
        rw [hXl, decide_eq_true e] at hok
        cases hok
      refine ⟨rfl, ⟨sv', pv', ov', mb, X', nm + 1, by rw [hX', hX], by simp; omega, ?_⟩, ?_⟩
      · have e1 : Pro.timedS (S ++ [ns]) = Pro.timedS S := Pro.timed_append S ns (by rw [hns])
        have e2 : Pro.spotsOf (S ++ [ns]) = Pro.spotsOf S ++ [(((i + 1 : Nat) : Int), (d : Int))] := by rw [Pro.spots_append, hns]
        have e3 : Pro.opn (S ++ [ns]) = (Pro.opn S).take d ++ [X.length] := by rw [Pro.opn_append, hXl, hns]; rfl
        have e4 : Pro.parts (S ++ [ns]) = fun j : Nat => if (j : Int) = Ref.upOf S d then Pro.parts S j ++ [X.length] else Pro.parts S j := by
          funext j; rw [Pro.parts_append, hXl, hup]
        have e5 : Pro.firstTo (S ++ [ns]) (S ++ [ns]).length = if Go.Maps.has (Pro.firstTo S S.length) (.string n.data.toList) then Pro.firstTo S S.length else (Pro.firstTo S S.length).put (.string n.data.toList) (.lit (.int .i64 ((i + 1 : Nat) : Int))) := by rw [Pro.first_append, hns]
        rw [e1, e2, e3, e4, e5]; exact G'
      · refine Pro.inv_append I h24 hw (by rw [hns]; show (0 : Int) ≤ (d : Int); omega) (by rw [hns]; simpa using hdo) ?_ ?_ (by rw [hns]) (by rw [hns]) (by rw [hns]) (by rw [hns]) (by rw [hns])
        · rw [hup]; rcases how2 with h | ⟨u, h, _⟩ <;> omega
        · rw [hup]; rcases how2 with h | ⟨u, h, _⟩ <;> omega
/-- The draft behind a turned state. -/
theorem draft_turned {w0 w' : World} {db : Nat} {S : List Ref.State} {i u : Nat} {sv pv ov : Ref.Sl} {mb nm : Nat} {X : List Pro.DS} {x' : Pro.DS} {tm : Bool} (hX : X.map (·.s) = S) (hnm : nm ≤ S.length) (I : Pro.Inv S i) (hu : u < S.length)
    (h : x'.s.word = (S.getD u Ref.st0).word ∧ x'.s.name = (S.getD u Ref.st0).name ∧ x'.s.deep = (S.getD u Ref.st0).deep ∧ x'.s.up = (S.getD u Ref.st0).up ∧ x'.s.depth = (S.getD u Ref.st0).depth ∧ x'.s.line = (S.getD u Ref.st0).line)
    (h0 : 0 < x'.s.has0 ↔ x'.s.enter ≠ []) (h1 : 0 < x'.s.has1 ↔ x'.s.leave ≠ []) (hm : x'.s.moves.length ≤ i + 1) (ht : Pro.timedS (S.set u x'.s) = tm)
    (G : DraftG w0 w' db sv pv ov mb tm (X.set u x') (Pro.spotsOf S) (Pro.opn S) (Pro.parts S) nm (Pro.firstTo S S.length)) : DraftAt w0 w' db (S.set u x'.s) (i + 1) := by
  have H := Pro.heads_set h
  refine ⟨⟨sv, pv, ov, mb, X.set u x', nm, ?_, by rw [List.length_set]; exact hnm, ?_⟩, Pro.inv_set I hu h h0 h1 hm⟩
  · rw [List.map_set, hX]
  · have e4 : Pro.parts (S.set u x'.s) = Pro.parts S := funext fun j => H.parts j
    rw [ht, H.spots, H.opn, e4, H.len, H.first]; exact G
theorem placeMove (w0 w : World) (db : Nat) (S : List Ref.State) (i d : Nat) (ev t : ByteArray) (af : Bool) (dl : Int) (A : List Ref.Act) (v : Ref.Sl) (H : DraftAt w0 w db S i) (hd : d ≤ 1000000) (hi : i ≤ 100000) (hA : w0.ownsRow 0 324 1 v.v A.length (A.map actV)) :
    Calls Tryz.prog 364 #[.agg #[.int .i64 ((i + 1 : Nat) : Int), .int .i64 d, .string ev, .bool af, .int .u64 dl, .string t, .slice v.a v.n v.c], .pointer (some ⟨db, 0, none⟩)] w (PlacePost w0 db S i d (.move ev af dl t A) w) := by
  obtain ⟨⟨sv, pv, ov, mb, X, nm, hX, hnm, G⟩, I⟩ := H
  have hXl : X.length = S.length := by rw [← hX, List.length_map]
  have hlen := I.len
  have hol := Pro.opnTo_len S S.length
  change (Pro.opn S).length ≤ S.length at hol
  have y : Pro.PV := ⟨⟨ev, t, af, dl, A, ((i + 1 : Nat) : Int)⟩, v⟩
  unfold PlacePost
  rw [Pro.step_move I]
  by_cases h0 : d = 0
  · rw [if_pos h0]
    exact movePlace_none _ d ⟨⟨ev, t, af, dl, A, ((i + 1 : Nat) : Int)⟩, v⟩ G (.inl h0) (by omega)
  · rw [if_neg h0]
    obtain ⟨d', rfl⟩ : ∃ d', d = d' + 1 := ⟨d - 1, by omega⟩
    rw [show d' + 1 - 1 = d' from rfl]
    rcases Nat.lt_or_ge d' (Pro.opn S).length with hk | hk
    · rw [List.getElem?_eq_getElem hk]
      have hu : (Pro.opn S)[d'] < S.length := Pro.opnTo_lt S S.length _ (List.getElem_mem hk)
      obtain ⟨u, hue⟩ : ∃ u, u = (Pro.opn S)[d'] := ⟨_, rfl⟩
      rw [← hue] at hu ⊢
      obtain ⟨hux, hxs⟩ := map_get hX hu
      obtain ⟨g, cap, rfl⟩ := G.rowG (by omega)
      simp only
      by_cases hb : Pro.kindOf (S.getD u Ref.st0) ∈ ([2, 3, 4] : List Int)
      · rw [if_pos hb]
        exact movePlace_bad _ (d' + 1) ⟨⟨ev, t, af, dl, A, ((i + 1 : Nat) : Int)⟩, v⟩ d' u g cap G hk rfl (by omega) hue.symm hux (by rw [hxs]; exact hb)
      · rw [if_neg hb]
        have hml := I.moves _ (Pro.getD_mem hu)
        refine Calls.mono (movePlace_yes _ (d' + 1) ⟨⟨ev, t, af, dl, A, ((i + 1 : Nat) : Int)⟩, v⟩ d' u g cap G hk rfl (by omega) hue.symm hux (by rw [hxs]; exact hb) hA (by rw [hxs]; omega)) ?_
        rintro e w' ⟨rfl, vm', G'⟩
        refine ⟨rfl, ?_⟩
        have he := I.enter _ (Pro.getD_mem hu)
        have hl := I.leave _ (Pro.getD_mem hu)
        have := draft_turned (x' := Pro.moreMove X[u] ⟨⟨ev, t, af, dl, A, ((i + 1 : Nat) : Int)⟩, v⟩ vm') hX hnm I hu (by simp [Pro.moreMove, hxs]) (by simpa [Pro.moreMove, hxs] using he) (by simpa [Pro.moreMove, hxs] using hl) (by simp [Pro.moreMove, hxs]; simpa using hml) (Pro.timed_set_more hu (m := ⟨ev, t, af, dl, A, ((i + 1 : Nat) : Int)⟩) (by simp [Pro.moreMove, hxs])) G'
        unfold Ref.turn
        rw [← hxs]
        exact this
    · rw [List.getElem?_eq_none hk]
      exact movePlace_none _ (d' + 1) ⟨⟨ev, t, af, dl, A, ((i + 1 : Nat) : Int)⟩, v⟩ G (.inr (by omega)) (by omega)
theorem placeEnter (w0 w : World) (db : Nat) (S : List Ref.State) (i d : Nat) (A : List Ref.Act) (v : Ref.Sl) (H : DraftAt w0 w db S i) (hd : d ≤ 1000000) (hA : w0.ownsRow 0 324 1 v.v A.length (A.map actV)) (hA0 : A ≠ []) :
    Calls Tryz.prog 369 #[.agg #[.int .i64 ((i + 1 : Nat) : Int), .int .i64 d, .slice v.a v.n v.c], .pointer (some ⟨db, 0, none⟩)] w (PlacePost w0 db S i d (.enter A) w) := by
  obtain ⟨⟨sv, pv, ov, mb, X, nm, hX, hnm, G⟩, I⟩ := H
  have hXl : X.length = S.length := by rw [← hX, List.length_map]
  have hlen := I.len
  have hol := Pro.opnTo_len S S.length
  change (Pro.opn S).length ≤ S.length at hol
  unfold PlacePost
  rw [Pro.step_enter I]
  by_cases h0 : d = 0
  · rw [if_pos h0]
    exact enterPlace_none _ d v.a v.n v.c G (.inl h0) (by omega)
  · rw [if_neg h0]
    obtain ⟨d', rfl⟩ : ∃ d', d = d' + 1 := ⟨d - 1, by omega⟩
    rw [show d' + 1 - 1 = d' from rfl]
    rcases Nat.lt_or_ge d' (Pro.opn S).length with hk | hk
    · rw [List.getElem?_eq_getElem hk]
      have hu : (Pro.opn S)[d'] < S.length := Pro.opnTo_lt S S.length _ (List.getElem_mem hk)
      obtain ⟨u, hue⟩ : ∃ u, u = (Pro.opn S)[d'] := ⟨_, rfl⟩
      rw [← hue] at hu ⊢
      obtain ⟨hux, hxs⟩ := map_get hX hu
      obtain ⟨g, cap, rfl⟩ := G.rowG (by omega)
      simp only
      have hvn : X[u].ve.n = (S.getD u Ref.st0).enter.length := by
        rw [← hxs]
        rcases (G.deep u hux).enter.2 with ⟨h, h0⟩ | ⟨g, cap, cur, h, _⟩
        · simp [Ref.Sl.v] at h; rw [h0]; exact h.2.1
        · simp [Ref.Sl.v] at h; exact h.2.1
      by_cases hb : Pro.kindOf (S.getD u Ref.st0) ∈ ([3, 4] : List Int)
      · rw [if_pos hb]
        exact enterPlace_hist _ (d' + 1) v.a v.n v.c d' u g cap G hk rfl (by omega) hue.symm hux (by rw [hxs]; exact hb)
      · rw [if_neg hb]
        by_cases h2 : (S.getD u Ref.st0).enter ≠ []
        · rw [if_pos h2]
          exact enterPlace_twice _ (d' + 1) v.a v.n v.c d' u g cap G hk rfl (by omega) hue.symm hux (by rw [hxs]; exact hb) (by rw [hvn]; exact List.length_pos_iff.2 h2)
        · rw [if_neg h2]
          have h2' : (S.getD u Ref.st0).enter = [] := Classical.not_not.1 h2
          refine Calls.mono (enterPlace_yes _ (d' + 1) v.a v.n v.c d' u g cap G hk rfl (by omega) hue.symm hux (by rw [hxs]; exact hb) (by rw [hvn, h2']; rfl) A hA) ?_
          rintro e w' ⟨rfl, G'⟩
          refine ⟨rfl, ?_⟩
          have he := I.enter _ (Pro.getD_mem hu)
          have hl := I.leave _ (Pro.getD_mem hu)
          have hml := I.moves _ (Pro.getD_mem hu)
          have := draft_turned (x' := Pro.enterTo X[u] ((i + 1 : Nat) : Int) A v) hX hnm I hu (by simp [Pro.enterTo, hxs]) (by simp [Pro.enterTo]; exact hA0) (by simpa [Pro.enterTo, hxs] using hl) (by simp [Pro.enterTo, hxs]; have := hml; simp at this; omega) (Pro.timed_set_same (by simp [Pro.enterTo, hxs])) G'
          unfold Ref.turn
          rw [← hxs]
          exact this
    · rw [List.getElem?_eq_none hk]
      exact enterPlace_none _ (d' + 1) v.a v.n v.c G (.inr (by omega)) (by omega)
theorem placeLeave (w0 w : World) (db : Nat) (S : List Ref.State) (i d : Nat) (A : List Ref.Act) (v : Ref.Sl) (H : DraftAt w0 w db S i) (hd : d ≤ 1000000) (hA : w0.ownsRow 0 324 1 v.v A.length (A.map actV)) (hA0 : A ≠ []) :
    Calls Tryz.prog 371 #[.agg #[.int .i64 ((i + 1 : Nat) : Int), .int .i64 d, .slice v.a v.n v.c], .pointer (some ⟨db, 0, none⟩)] w (PlacePost w0 db S i d (.leave A) w) := by
  obtain ⟨⟨sv, pv, ov, mb, X, nm, hX, hnm, G⟩, I⟩ := H
  have hXl : X.length = S.length := by rw [← hX, List.length_map]
  have hlen := I.len
  have hol := Pro.opnTo_len S S.length
  change (Pro.opn S).length ≤ S.length at hol
  unfold PlacePost
  rw [Pro.step_leave I]
  by_cases h0 : d = 0
  · rw [if_pos h0]
    exact leavePlace_none _ d v.a v.n v.c G (.inl h0) (by omega)
  · rw [if_neg h0]
    obtain ⟨d', rfl⟩ : ∃ d', d = d' + 1 := ⟨d - 1, by omega⟩
    rw [show d' + 1 - 1 = d' from rfl]
    rcases Nat.lt_or_ge d' (Pro.opn S).length with hk | hk
    · rw [List.getElem?_eq_getElem hk]
      have hu : (Pro.opn S)[d'] < S.length := Pro.opnTo_lt S S.length _ (List.getElem_mem hk)
      obtain ⟨u, hue⟩ : ∃ u, u = (Pro.opn S)[d'] := ⟨_, rfl⟩
      rw [← hue] at hu ⊢
      obtain ⟨hux, hxs⟩ := map_get hX hu
      obtain ⟨g, cap, rfl⟩ := G.rowG (by omega)
      simp only
      have hvn : X[u].vl.n = (S.getD u Ref.st0).leave.length := by
        rw [← hxs]
        rcases (G.deep u hux).leave.2 with ⟨h, h0⟩ | ⟨g, cap, cur, h, _⟩
        · simp [Ref.Sl.v] at h; rw [h0]; exact h.2.1
        · simp [Ref.Sl.v] at h; exact h.2.1
      by_cases hb : Pro.kindOf (S.getD u Ref.st0) ∈ ([3, 4] : List Int)
      · rw [if_pos hb]
        exact leavePlace_hist _ (d' + 1) v.a v.n v.c d' u g cap G hk rfl (by omega) hue.symm hux (by rw [hxs]; exact hb)
      · rw [if_neg hb]
        by_cases h2 : (S.getD u Ref.st0).leave ≠ []
        · rw [if_pos h2]
          exact leavePlace_twice _ (d' + 1) v.a v.n v.c d' u g cap G hk rfl (by omega) hue.symm hux (by rw [hxs]; exact hb) (by rw [hvn]; exact List.length_pos_iff.2 h2)
        · rw [if_neg h2]
          have h2' : (S.getD u Ref.st0).leave = [] := Classical.not_not.1 h2
          refine Calls.mono (leavePlace_yes _ (d' + 1) v.a v.n v.c d' u g cap G hk rfl (by omega) hue.symm hux (by rw [hxs]; exact hb) (by rw [hvn, h2']; rfl) A hA) ?_
          rintro e w' ⟨rfl, G'⟩
          refine ⟨rfl, ?_⟩
          have he := I.enter _ (Pro.getD_mem hu)
          have hl := I.leave _ (Pro.getD_mem hu)
          have hml := I.moves _ (Pro.getD_mem hu)
          have := draft_turned (x' := Pro.leaveTo X[u] ((i + 1 : Nat) : Int) A v) hX hnm I hu (by simp [Pro.leaveTo, hxs]) (by simpa [Pro.leaveTo, hxs] using he) (by simp [Pro.leaveTo]; exact hA0) (by simp [Pro.leaveTo, hxs]; have := hml; simp at this; omega) (Pro.timed_set_same (by simp [Pro.leaveTo, hxs])) G'
          unfold Ref.turn
          rw [← hxs]
          exact this
    · rw [List.getElem?_eq_none hk]
      exact leavePlace_none _ (d' + 1) v.a v.n v.c G (.inr (by omega)) (by omega)
end Go.Proofs.YtegmoddppafkfaaGreatDoor
namespace Go.Proofs.YtegmoddppafkfaaGreatDoor
open Go.RowKit

variable {w0 w : World} {db mb nm : Nat} {sv pv ov : Ref.Sl} {tm : Bool} {X : List Pro.DS} {SP : List (Int × Int)} {O : List Nat} {PT : Nat → List Nat} {D : DataW Nat}
/-- Some part can be active. -/
def hasPart (X : List Pro.DS) (p : List Nat) : Bool := p.any fun j => match X[j]? with | some x => !Pro.isHist (Pro.kindOf x.s) | none => false
set_option maxRecDepth 100000 in
set_option maxHeartbeats 1600000 in
theorem hasActiveParts_any (u : Nat) (G : DraftG w0 w db sv pv ov mb tm X SP O PT nm D) (hu : u < X.length) (hX : X.length ≤ 1000) (hPT : ∀ j ∈ PT u, j < X.length) (hPl : (PT u).length ≤ 1000) :
    Calls Tryz.prog 178 #[.pointer (some ⟨db, 0, none⟩), .agg #[.int .i64 (Pro.kindOf X[u].s), .string X[u].s.name, .int .i64 X[u].s.depth, .int .i64 X[u].s.up, .slice X[u].vp.a (PT u).length X[u].vp.c, .slice X[u].ve.a X[u].ve.n X[u].ve.c, .slice X[u].vl.a X[u].vl.n X[u].vl.c, .slice X[u].vm.a X[u].vm.n X[u].vm.c]] w fun e w' => e = .returned (.bool (hasPart X (PT u))) ∧ Below w.heap.size w w' := by
  obtain ⟨g, cap, rfl⟩ := G.rowG (by omega)
  obtain ⟨hcap, hgl, _⟩ := G.capS
  have hdl := G.dlt
  obtain ⟨c0, _, _, _, _⟩ := G.cells
  have HR : Hid (∀ j (hj : j < X.length), w.cell? ⟨g, j * 8, none⟩ = some (.int .i64 (Pro.kindOf X[j].s))) := fun j hj => by
    have := G.row8 hj 0 (.int .i64 (Pro.kindOf X[j].s)) rfl
    simpa using this
  have HV : Hid (∀ k (hk : k < (PT u).length), ∃ gp, X[u].vp.a = some ⟨gp, 0, none⟩ ∧ gp < w.heap.size ∧ w.cell? ⟨gp, k, none⟩ = some (.int .i64 ((PT u)[k] : Nat)) ∧ (PT u).length ≤ X[u].vp.c) := fun k hk => by
    have ho := G.parts u hu
    obtain ⟨gp, cp, e⟩ := Ref.own_form ho (by omega)
    have h := ho
    rw [e] at h
    have hc := Row.cell (α := Nat) (n := 1) (j := 0) (f := intCell) (fun _ => rfl) (own_mono h (Nat.zero_le _)) (by decide) hk
    have hc' : w.cell? ⟨gp, k, none⟩ = some (.int .i64 ((PT u)[k] : Nat)) := by simpa [intCell] using hc
    simp only [Ref.Sl.v, Value.slice.injEq] at e
    refine ⟨gp, e.1, World.block_lt_of_cell? _ _ hc', hc', ?_⟩
    rcases h.2 with ⟨h, _⟩ | ⟨g', cap', cur, h, _, _, hle, _⟩
    · cases h
    · simp at h; rw [e.2.2, h.2]; exact hle
  have HP : Hid _ := hPT
  generalize hkd : Pro.kindOf X[u].s = kd0
  generalize hva : X[u].vp.a = va at *
  generalize hvc : X[u].vp.c = vc at *
  clear hkd hva hvc hPT G
  go_enter Tryz.func178, Tryz.ntmps178
  go_wp2
  go_loop [10] (fun i => ∃ k : Nat, k ≤ (PT u).length ∧ i = .int .i64 k ∧ hasPart X ((PT u).take k) = false) (fun i => (PT u).length - (intOf i).toNat)
  case atStart => exact ⟨0, Nat.zero_le _, rfl, rfl⟩
  case round =>
    obtain ⟨k, hk, rfl, hno⟩ := hrel
    by_cases hkn : k < (PT u).length
    · obtain ⟨gp, rfl, hgp, cp, hcp⟩ := HV.out k hkn
      have hj := HP.out _ (List.getElem_mem hkn)
      obtain ⟨j, hje⟩ : ∃ j, j = (PT u)[k] := ⟨_, rfl⟩
      rw [← hje] at cp hj
      have cK := HR.out j hj
      have HN : Hid (hasPart X ((PT u).take (k + 1)) = (hasPart X ((PT u).take k) || !Pro.isHist (Pro.kindOf X[j].s))) := by
        unfold Hid hasPart
        rw [List.take_add_one, List.getElem?_eq_getElem hkn, List.any_append, ← hje]
        simp [hj]
      generalize hq : Pro.kindOf X[j].s = kj at *
      clear hq
      have HNo : Hid _ := hno
      clear hno hje
      go_wp2_with fail
      refine (isHistory_any kj _).mono ?_
      rintro e w9 ⟨rfl, hw9⟩
      rw [hw9]
      clear hw9 w9
      obtain ⟨h, hh⟩ : ∃ h, h = Pro.isHist kj := ⟨_, rfl⟩
      have hi : (decide (kj = 3) || decide (kj = 4)) = h := hh.symm
      rw [hi]
      rw [← hh] at HN
      clear hh hi
      cases h with
      | true =>
        dsimp only
        go_wp2
        go_round
        case rel => exact ⟨k + 1, by omega, by go_num, by rw [HN.out, HNo.out]; rfl⟩
        case measure => simp [intOf]; omega
      | false =>
        have HT : Hid (hasPart X (PT u) = true) := by
          have h1 : hasPart X ((PT u).take (k + 1)) = true := by rw [HN.out, HNo.out]; rfl
          unfold hasPart at h1
          rw [List.any_eq_true] at h1
          obtain ⟨y, hy, hy2⟩ := h1
          show List.any _ _ = true
          rw [List.any_eq_true]
          exact ⟨y, List.mem_of_mem_take hy, hy2⟩
        dsimp only
        go_wp2
        go_ret
        exact ⟨by rw [HT.out]; rfl, (Below.refl _ _).alloc (Nat.le_refl _) _⟩
    · have hkl : k = (PT u).length := by omega
      have HF : Hid (hasPart X (PT u) = false) := by
        have h := hno
        rw [hkl, List.take_length] at h; exact h
      clear hno
      go_wp2
      go_ret
      exact ⟨by rw [HF.out]; rfl, (Below.refl _ _).alloc (Nat.le_refl _) _⟩
namespace Pro
/-- Regions: the document's and the program's. -/
theorem regions_parts {S : List Ref.State} {i : Nat} (hI : Inv S i) {X : List DS} (hX : X.map (·.s) = S) (k : Nat) : (Ref.regions (S.map Ref.emb) k).isEmpty = !hasPart X (parts S k) := by
  have hmem : ∀ (m : Nat) (x : Nat), x ∈ Ref.regTo (S.map Ref.emb) k m ↔ x < m ∧ ∃ h : x < S.length, S[x].up = k ∧ isHist (kindOf S[x]) = false := by
    intro m
    induction m with
    | zero => intro x; simp [Ref.regTo]
    | succ m ih =>
      intro x
      rw [Ref.regTo]
      by_cases hm : m < S.length
      · have e : ((S.map Ref.emb)[m]?.map (Ref.isReg k)).getD false = (decide (S[m].up = k) && !isHist (kindOf S[m])) := by
          rw [List.getElem?_map, List.getElem?_eq_getElem hm]
          simp only [Option.map_some, Option.getD_some, Ref.isReg, Ref.emb]
          rw [word_hist (hI.words _ (List.getElem_mem hm))]
        rw [e]
        by_cases hc : (decide (S[m].up = (k : Int)) && !isHist (kindOf S[m])) = true
        · rw [if_pos hc, List.mem_append, ih, List.mem_singleton]
          rw [Bool.and_eq_true, decide_eq_true_eq, Bool.not_eq_true'] at hc
          constructor
          · rintro (⟨h1, h2⟩ | rfl)
            · exact ⟨by omega, h2⟩
            · exact ⟨by omega, hm, hc.1, hc.2⟩
          · rintro ⟨h1, h2⟩
            by_cases ex : x = m
            · exact .inr ex
            · exact .inl ⟨by omega, h2⟩
        · rw [if_neg hc, ih]
          constructor
          · rintro ⟨h1, h2⟩; exact ⟨by omega, h2⟩
          · rintro ⟨h1, h2⟩
            refine ⟨?_, h2⟩
            have : x ≠ m := by
              rintro rfl
              obtain ⟨_, h3, h4⟩ := h2
              apply hc
              rw [decide_eq_true h3, h4]; rfl
            omega
      · have e : ((S.map Ref.emb)[m]?.map (Ref.isReg k)).getD false = false := by
          rw [List.getElem?_eq_none (by rw [List.length_map]; omega)]; rfl
        rw [e]
        simp only [Bool.false_eq_true, if_false]
        rw [ih]
        constructor
        · rintro ⟨h1, h2⟩; exact ⟨by omega, h2⟩
        · rintro ⟨h1, h2, h3⟩; exact ⟨by omega, h2, h3⟩
  unfold Ref.regions
  rw [List.length_map]
  have hXl : X.length = S.length := by rw [← hX, List.length_map]
  have hXs : ∀ x (h : x < S.length), (X[x]'(by omega)).s = S[x] := fun x h => by
    subst hX; rw [List.getElem_map]
  cases hp : hasPart X (parts S k)
  · show _ = true
    rw [List.isEmpty_iff]
    unfold hasPart at hp
    rw [List.any_eq_false] at hp
    rw [List.eq_nil_iff_forall_not_mem]
    intro x hx
    obtain ⟨h1, h2, h3, h4⟩ := (hmem S.length x).1 hx
    have := hp x ((mem_parts S.length).2 ⟨h2, by rw [getD_eq h2]; exact h3⟩)
    rw [List.getElem?_eq_getElem (by omega)] at this
    simp only [hXs x h2, h4] at this
    exact this rfl
  · show _ = false
    unfold hasPart at hp
    rw [List.any_eq_true] at hp
    obtain ⟨x, hx, hx2⟩ := hp
    obtain ⟨h1, h2⟩ := (mem_parts S.length).1 hx
    rw [List.getElem?_eq_getElem (by omega)] at hx2
    simp only [hXs x h1, Bool.not_eq_true'] at hx2
    rw [getD_eq h1] at h2
    have hm := (hmem S.length x).2 ⟨h1, h1, h2, hx2⟩
    cases hr : Ref.regTo (S.map Ref.emb) k S.length with
    | nil => rw [hr] at hm; cases hm
    | cons a b => rfl
end Pro
end Go.Proofs.YtegmoddppafkfaaGreatDoor
namespace Go.Proofs.YtegmoddppafkfaaGreatDoor
open Go.RowKit

namespace Pro
theorem parTo_next {S : List Ref.State} {i : Nat} (hI : Inv S i) {X : List DS} (hX : X.map (·.s) = S) {k : Nat} (hk : k < S.length) (h : Ref.parTo S k = none) : Ref.parTo S (k + 1) = if kindOf (S.getD k Ref.st0) = 1 ∧ hasPart X (parts S k) = false then some (S.getD k Ref.st0).line else none := by
  rw [Ref.parTo, h]
  simp only
  rw [word_par (hI.words _ (getD_mem hk)), regions_parts hI hX]
  by_cases h1 : kindOf (S.getD k Ref.st0) = 1
  · rw [decide_eq_true h1]
    cases hp : hasPart X (parts S k)
    · rw [if_pos (by rfl), if_pos ⟨h1, rfl⟩]
    · rw [if_neg (by simp), if_neg (by simp)]
  · rw [decide_eq_false h1, if_neg (by simp), if_neg (fun h => h1 h.1)]
end Pro
/-- What checkParallels answers. -/
def ParPost (S : List Ref.State) (w : World) (e : Ending) (w' : World) : Prop := match Ref.parTo S S.length with
  | some l => Refused 3 l w e w'
  | none => e = .returned (.tuple #[]) ∧ Below w.heap.size w w'
set_option maxRecDepth 100000 in
set_option maxHeartbeats 3200000 in
theorem checkParallels_any (w0 w : World) (db : Nat) (S : List Ref.State) (i : Nat) (H : DraftAt w0 w db S i) (hS : 0 < S.length) :
    Calls Tryz.prog 143 #[.pointer (some ⟨db, 0, none⟩)] w (ParPost S w) := by
  obtain ⟨⟨sv, pv, ov, mb, X, nm, hX, hnm, G⟩, I⟩ := H
  have hXl : X.length = S.length := by rw [← hX, List.length_map]
  have hlen := I.len
  obtain ⟨g, cap, rfl⟩ := G.rowG (by omega)
  obtain ⟨hsvc, hgl, _⟩ := G.capS
  have hdl := G.dlt
  obtain ⟨c0, c1, _, _, _⟩ := G.cells
  have hpn := G.pv_eq
  rw [hpn] at c1
  have hspl : (Pro.spotsOf S).length = X.length := by unfold Pro.spotsOf; rw [List.length_map, hXl]
  rw [hspl] at c1
  have HSp : Hid (∀ k (hk : k < X.length), ∃ gs, pv.a = some ⟨gs, 0, none⟩ ∧ w.cell? ⟨gs, k * 2, none⟩ = some (.int .i64 (S.getD k Ref.st0).line) ∧ w.cell? ⟨gs, k * 2 + 1, none⟩ = some (.int .i64 (S.getD k Ref.st0).depth) ∧ X.length ≤ pv.c) := fun k hk => by
    have ho := G.spots
    obtain ⟨gs, cs, e⟩ := Ref.own_form ho (by omega)
    have h := ho
    rw [e] at h
    have hr := Row.range (f := Pro.spotCells) (n := 2) (fun _ => rfl) (own_mono h (Nat.zero_le _)) (show k < (Pro.spotsOf S).length by omega)
    have es : (Pro.spotsOf S)[k]'(by omega) = ((S.getD k Ref.st0).line, (S.getD k Ref.st0).depth) := by unfold Pro.spotsOf; rw [List.getElem_map, Pro.getD_eq (show k < S.length by omega)]
    rw [es] at hr
    simp only [Ref.Sl.v, Value.slice.injEq] at e
    refine ⟨gs, e.1, by have := hr 0 _ rfl; simpa using this, hr 1 _ rfl, ?_⟩
    rcases h.2 with ⟨h, _⟩ | ⟨g', cap', cur, h, _, _, hle, _⟩
    · cases h
    · simp at h; rw [e.2.2, h.2, ← hspl]; exact hle
  have HRow : Hid (∀ k (hk : k < X.length), w.rangeAt g (k * 8) [.int .i64 (Pro.kindOf X[k].s), .string X[k].s.name, .int .i64 X[k].s.depth, .int .i64 X[k].s.up, .slice X[k].vp.a (Pro.parts S k).length X[k].vp.c, .slice X[k].ve.a X[k].ve.n X[k].ve.c, .slice X[k].vl.a X[k].vl.n X[k].vl.c, .slice X[k].vm.a X[k].vm.n X[k].vm.c]) := fun k hk => by
    have := G.row8 hk
    rw [Pro.dsCells, G.vp_eq hk] at this
    exact this
  have HHas : Hid (∀ k (hk : k < X.length) w', Below w.heap.size w w' → Calls Tryz.prog 178 #[.pointer (some ⟨db, 0, none⟩), .agg #[.int .i64 (Pro.kindOf X[k].s), .string X[k].s.name, .int .i64 X[k].s.depth, .int .i64 X[k].s.up, .slice X[k].vp.a (Pro.parts S k).length X[k].vp.c, .slice X[k].ve.a X[k].ve.n X[k].ve.c, .slice X[k].vl.a X[k].vl.n X[k].vl.c, .slice X[k].vm.a X[k].vm.n X[k].vm.c]] w' fun e w'' => e = .returned (.bool (hasPart X (Pro.parts S k))) ∧ Below w'.heap.size w' w'') := fun k hk w' hb =>
    hasActiveParts_any k (G.keep hb) hk (by omega) (fun j hj => by have := ((Pro.mem_parts S.length).1 hj).1; omega) (Nat.le_trans (Pro.partsTo_len S k S.length) (by omega))
  have HXs : Hid (∀ k (hk : k < X.length), Pro.kindOf X[k].s = Pro.kindOf (S.getD k Ref.st0)) := fun k hk => by
    rw [(map_get hX (show k < S.length by omega)).2]
  have HI : Hid _ := I
  have HXm : Hid _ := hX
  have HXl : Hid _ := hXl
  have hXb : X.length ≤ 24 := by omega
  clear hX hXl hlen hpn hspl I G hnm hS
  go_enter Tryz.func143, Tryz.ntmps143
  go_wp2
  go_loopg [9] X.length (fun q i wr => ∃ k : Nat, q = X.length - k ∧ k ≤ X.length ∧ i = .int .i64 k ∧ Ref.parTo S k = none ∧ Below w.heap.size w wr)
  case atStart => exact ⟨0, rfl, Nat.zero_le _, rfl, rfl, Below.refl _ _⟩
  case round =>
    obtain ⟨k, hq, hk, rfl, hpar, hbr⟩ := hrel
    have hbs := hbr.size
    by_cases hkn : k < X.length
    · have hrng := HRow.out k hkn
      have hrng' : wr.rangeAt g (k * 8) [.int .i64 (Pro.kindOf X[k].s), .string X[k].s.name, .int .i64 X[k].s.depth, .int .i64 X[k].s.up, .slice X[k].vp.a (Pro.parts S k).length X[k].vp.c, .slice X[k].ve.a X[k].ve.n X[k].ve.c, .slice X[k].vl.a X[k].vl.n X[k].vl.c, .slice X[k].vm.a X[k].vm.n X[k].vm.c] := fun j v hj => (World.cell?_of_block (w := w) (hbr.block g hgl)).trans (hrng j v hj)
      have HP1 : Hid _ := Pro.parTo_next HI.out HXm.out (k := k) (by have := HXl.out; omega) hpar
      have hkk := HXs.out k hkn
      have HPar : Hid _ := hpar
      clear hrng hpar
      by_cases h1 : Pro.kindOf X[k].s = 1
      · have HH : Hid _ := HHas.out k hkn
        have HS1 : Hid (Pro.kindOf (S.getD k Ref.st0) = 1) := by unfold Hid; rw [← hkk]; exact h1
        rw [h1] at hrng' HH
        clear hkk h1
        go_wp2_with (first
          | (refine wpList_load_mid rfl 242 (.tmp 12) rfl g (k * 8) rfl _ _ hrng' Tryz.underlying242 rfl Tryz.sizeStateM ?_)
          | (refine wpList_store_new rfl 242 (.tmp 3) (.tmp 13) rfl 242 _ _ rfl rfl Tryz.sizeStateM rfl rfl ?_))
        have hbw1 : Below w.heap.size w (wr.alloc (.cells #[.int .i64 1, .string X[k].s.name, .int .i64 X[k].s.depth, .int .i64 X[k].s.up, .slice X[k].vp.a (Pro.parts S k).length X[k].vp.c, .slice X[k].ve.a X[k].ve.n X[k].ve.c, .slice X[k].vl.a X[k].vl.n X[k].vl.c, .slice X[k].vm.a X[k].vm.n X[k].vm.c] 242)) := hbr.alloc hbs _
        refine Calls.mono (HH.out _ hbw1) ?_
        rintro e w2 ⟨rfl, hb2⟩
        have hbw2 := hbw1.trans (hb2.mono hbw1.size)
        clear hbw1 hb2 hrng'
        have d1 : w2.cell? ⟨db, 1, none⟩ = some (.slice pv.a X.length pv.c) := (World.cell?_of_block (w := w) (hbw2.block db hdl)).trans c1
        cases hp : hasPart X (Pro.parts S k) with
        | true =>
          have HN : Hid (Ref.parTo S (k + 1) = none) := by unfold Hid; rw [HP1.out, if_neg (by rw [hp]; simp)]
          clear hp
          dsimp only
          go_wp2
          go_roundg (X.length - (k + 1))
          case measure => omega
          case rel => exact ⟨k + 1, rfl, by omega, by go_num, HN.out, hbw2⟩
        | false =>
          have HN : Hid (Ref.parTo S S.length = some (S.getD k Ref.st0).line) := Ref.parTo_some (i := k + 1) (by rw [HP1.out, if_pos ⟨HS1.out, hp⟩]) _ (by have := HXl.out; omega)
          obtain ⟨gs, hpva, s0, s1, hpc⟩ := HSp.out k hkn
          have hgs := World.block_lt_of_cell? _ _ s0
          have t0 := (World.cell?_of_block (w := w) (w' := w2) (a := ⟨gs, k * 2, none⟩) (hbw2.block gs hgs)).trans s0
          have t1 := (World.cell?_of_block (w := w) (w' := w2) (a := ⟨gs, k * 2 + 1, none⟩) (hbw2.block gs hgs)).trans s1
          rw [hpva] at d1
          clear hp s0 s1 hpva
          generalize hln : (S.getD k Ref.st0).line = ln at *
          generalize hdp : (S.getD k Ref.st0).depth = dp at *
          clear hln hdp
          dsimp only
          go_wp2_with fail
          refine (refuse_any ln dp 3 _).mono ?_
          rintro e w3 ⟨hb, b, h5, h6, rfl⟩
          dsimp only
          refine ⟨rfl, ?_⟩
          unfold ParPost
          rw [HN.out]
          exact ⟨hbw2.trans (hb.mono hbw2.size), b, Nat.le_trans hbw2.size h5, h6, rfl⟩
      · have HN : Hid (Ref.parTo S (k + 1) = none) := by unfold Hid; rw [HP1.out, if_neg (fun h => h1 (by rw [hkk]; exact h.1))]
        have h1' : (Pro.kindOf X[k].s == 1) = false := by simpa using h1
        generalize hkd : Pro.kindOf X[k].s = kd at *
        clear hkd hkk h1
        go_wp2_with (first
          | (refine wpList_load_mid rfl 242 (.tmp 12) rfl g (k * 8) rfl _ _ hrng' Tryz.underlying242 rfl Tryz.sizeStateM ?_)
          | (refine wpList_store_new rfl 242 (.tmp 3) (.tmp 13) rfl 242 _ _ rfl rfl Tryz.sizeStateM rfl rfl ?_))
        go_roundg (X.length - (k + 1))
        case measure => omega
        case rel => exact ⟨k + 1, rfl, by omega, by go_num, HN.out, hbr.alloc hbs _⟩
    · have hke : k = X.length := by omega
      have HN : Hid (Ref.parTo S S.length = none) := by
        have := hpar
        rw [hke, HXl.out] at this; exact this
      clear hpar
      go_wp2
      go_end0
      unfold ParPost
      rw [HN.out]
      exact ⟨rfl, hbr⟩
end Go.Proofs.YtegmoddppafkfaaGreatDoor
