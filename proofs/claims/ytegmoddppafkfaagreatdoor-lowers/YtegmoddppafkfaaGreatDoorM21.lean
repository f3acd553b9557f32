/-
  MY OWN TEXT.
-/
import Derived.Test.YtegmoddppafkfaaGreatDoorM16
import Derived.BigQuiet
import Derived.WalkSmall
import Derived.Deep.LoopGhost
import Derived.Deep.RegionHeld3
import Derived.Deep.RegionWith
import Derived.Deep.CutBlock
import Derived.Deep.DeepCutAuto
import Derived.Deep.AppendLies
import Derived.Deep.RegionLaw
namespace Go.Proofs.YtegmoddppafkfaaGreatDoor
open Go.RowKit

variable {w0 w : World} {db mb nm : Nat} {sv pv ov : Ref.Sl} {tm : Bool} {X : List Pro.DS} {SP : List (Int × Int)} {O : List Nat} {PT : Nat → List Nat} {D : DataW Nat}
theorem DraftG.openAt (G : DraftG w0 w db sv pv ov mb tm X SP O PT nm D) {k : Nat} (hk : k < O.length) : ∃ g cap, ov = ⟨some ⟨g, 0, none⟩, O.length, cap⟩ ∧ w.cell? ⟨g, k, none⟩ = some (.int .i64 O[k]) ∧ O.length ≤ cap := by
  obtain ⟨g, cap, e⟩ := Ref.own_form G.opens (by omega)
  have h := G.opens
  rw [e] at h
  have hc := Row.cell (α := Nat) (n := 1) (j := 0) (f := intCell) (fun _ => rfl) (own_mono h (Nat.zero_le _)) (by decide) hk
  refine ⟨g, cap, ?_, ?_, ?_⟩
  · cases ov
    simp [Ref.Sl.v] at e
    simp [e.1, e.2.1, e.2.2]
  · simpa [intCell] using hc
  · rcases h.2 with ⟨h, _⟩ | ⟨g', cap', cur, h, _, _, hle, _⟩
    · cases h
    · simp at h; rw [h.2]; exact hle
set_option maxHeartbeats 1600000 in
theorem owner_no (num : Int) (dep : Nat) (G : DraftG w0 w db sv pv ov mb tm X SP O PT nm D) (h : dep = 0 ∨ O.length < dep) (hd : dep ≤ 1073741824) :
    Calls Tryz.prog 360 #[.pointer (some ⟨db, 0, none⟩), .agg #[.int .i64 num, .int .i64 dep]] w (Refused 3 num w) := by
  obtain ⟨c0, c1, c2, c3, c4⟩ := G.cells
  have hlt := G.dlt
  rw [G.ov_eq] at c2
  by_cases h0 : dep = 0
  · subst h0
    go_enter Tryz.func360, Tryz.ntmps360
    go_upto_region 1 with fail
    go_quiet (fail)
    go_wp2_with fail
    refine (refuse_any num 0 3 _).mono ?_
    rintro e w1 ⟨hb, b, h4, h5, rfl⟩
    dsimp only
    refine ⟨rfl, ?_⟩
    exact ⟨(below_drewN ((Below.refl w.heap.size w).alloc (Nat.le_refl _) _) _).trans (hb.mono (by simp)), b, by simp at h4; omega, h5, rfl⟩
  · have h1 : O.length < dep := by omega
    have hz : ((dep : Int) == 0) = false := by simp; omega
    go_enter Tryz.func360, Tryz.ntmps360
    go_upto_region 1 with fail
    go_quiet (fail)
    go_wp2_with fail
    refine (refuse_any num dep 3 _).mono ?_
    rintro e w1 ⟨hb, b, h4, h5, rfl⟩
    dsimp only
    refine ⟨rfl, ?_⟩
    exact ⟨(below_drewN ((Below.refl w.heap.size w).alloc (Nat.le_refl _) _) _).trans (hb.mono (by simp)), b, by simp at h4; omega, h5, rfl⟩
set_option maxHeartbeats 1600000 in
theorem owner_yes (num : Int) (dep k : Nat) (G : DraftG w0 w db sv pv ov mb tm X SP O PT nm D) (hk : k < O.length) (hd : dep = k + 1) (hO : O.length ≤ 1073741824) :
    Calls Tryz.prog 360 #[.pointer (some ⟨db, 0, none⟩), .agg #[.int .i64 num, .int .i64 dep]] w fun e w' => e = .returned (.int .i64 O[k]) ∧ Below w.heap.size w w' := by
  subst hd
  obtain ⟨c0, c1, c2, c3, c4⟩ := G.cells
  obtain ⟨g, cap, rfl, cO, hcap⟩ := G.openAt hk
  have hlt := G.dlt
  have hgl := World.block_lt_of_cell? _ _ cO
  have hz : ((k : Int) + 1 == 0) = false := by simp; omega
  have hgt : decide ((O.length : Int) < (k : Int) + 1) = false := by simp; omega
  go_enter Tryz.func360, Tryz.ntmps360
  go_upto_region 1 with fail
  go_quiet (fail)
  go_wp2_with fail
  go_quiet (fail)
  go_wp2
  go_ret
  exact ⟨rfl, below_drewN (below_drewN ((Below.refl w.heap.size w).alloc (Nat.le_refl _) _) _) _⟩
theorem isHistory_any (k : Int) (w : World) : Calls Tryz.prog 156 #[.int .i64 k] w fun e w' => e = .returned (.bool (decide (k = 3) || decide (k = 4))) ∧ w' = w := by
  by_cases h3 : k = 3
  · subst h3
    go_enter Tryz.func156, Tryz.ntmps156
    go_wp2
    go_ret
    exact ⟨rfl, rfl⟩
  · by_cases h4 : k = 4
    · subst h4
      go_enter Tryz.func156, Tryz.ntmps156
      go_wp2
      go_ret
      exact ⟨rfl, rfl⟩
    · have e3 : (k == 3) = false := by simpa using h3
      have e4 : (k == 4) = false := by simpa using h4
      go_enter Tryz.func156, Tryz.ntmps156
      go_wp2
      go_ret
      exact ⟨by simp [h3, h4], rfl⟩
end Go.Proofs.YtegmoddppafkfaaGreatDoor
namespace Go.Proofs.YtegmoddppafkfaaGreatDoor
open Go.RowKit

variable {w0 w : World} {db mb nm : Nat} {sv pv ov : Ref.Sl} {tm : Bool} {X : List Pro.DS} {SP : List (Int × Int)} {O : List Nat} {PT : Nat → List Nat} {D : DataW Nat}
theorem Tryz.sizeStateM : (Tryz.prog.info? 242).map (·.size) = some 8 := by kernel_rfl
namespace Pro
def isHist (k : Int) : Bool := decide (k = 3) || decide (k = 4)
/-- Whether a state of this kind may stand in that one. -/
def holds (x : DS) (p : List Nat) (k : Int) : Bool := if kindOf x.s = 0 then !p.isEmpty || !isHist k else if kindOf x.s = 1 then !decide (k = 2) else false
end Pro
theorem DraftG.row8 {g cap u : Nat} (G : DraftG w0 w db ⟨some ⟨g, 0, none⟩, X.length, cap⟩ pv ov mb tm X SP O PT nm D) (hu : u < X.length) : w.rangeAt g (u * 8) (Pro.dsCells X[u]) :=
  Row.range (f := Pro.dsCells) (fun _ => rfl) (own_mono G.states (Nat.zero_le _)) hu
theorem DraftG.vp_eq (G : DraftG w0 w db sv pv ov mb tm X SP O PT nm D) {u : Nat} (hu : u < X.length) : X[u].vp.n = (PT u).length := by
  rcases (G.parts u hu).2 with ⟨h, h0⟩ | ⟨g, cap, cur, h, _⟩
  · simp [Ref.Sl.v] at h; rw [h0]; exact h.2.1
  · simp [Ref.Sl.v] at h; exact h.2.1
theorem DraftG.capS {g cap : Nat} (G : DraftG w0 w db ⟨some ⟨g, 0, none⟩, X.length, cap⟩ pv ov mb tm X SP O PT nm D) : X.length ≤ cap ∧ g < w.heap.size ∧ w0.heap.size ≤ g := by
  rcases G.states.2 with ⟨h, _⟩ | ⟨g', cap', cur, h, hb, hg, hle, _⟩
  · cases h
  · simp [Ref.Sl.v] at h
    obtain ⟨rfl, rfl⟩ := h
    exact ⟨hle, (Array.getElem?_eq_some_iff.1 hg).1, hb⟩

set_option maxHeartbeats 1600000 in
theorem mayHold_none (k : Int) : Calls Tryz.prog 361 #[.pointer (some ⟨db, 0, none⟩), .int .i64 (-1), .int .i64 k] w fun e w' => e = .returned (.bool (!Pro.isHist k)) ∧ Below w.heap.size w w' := by
  go_enter Tryz.func361, Tryz.ntmps361
  go_wp2_with fail
  refine (isHistory_any k _).mono ?_
  rintro e w9 ⟨rfl, hw9⟩
  rw [hw9]
  clear hw9 w9
  obtain ⟨h, hh⟩ : ∃ h, h = Pro.isHist k := ⟨_, rfl⟩
  have hi : (decide (k = 3) || decide (k = 4)) = h := hh.symm
  rw [hi]
  have HH : Hid _ := hh
  clear hh hi
  dsimp only
  go_wp2
  go_ret
  exact ⟨by rw [← HH.out]; rfl, Below.refl _ _⟩
set_option maxRecDepth 100000 in
set_option maxHeartbeats 1600000 in
theorem mayHold_some (k : Int) (u : Nat) (G : DraftG w0 w db sv pv ov mb tm X SP O PT nm D) (hu : u < X.length) (hX : X.length ≤ 1073741824) : Calls Tryz.prog 361 #[.pointer (some ⟨db, 0, none⟩), .int .i64 u, .int .i64 k] w fun e w' => e = .returned (.bool (Pro.holds X[u] (PT u) k)) ∧ Below w.heap.size w w' := by
  obtain ⟨g, cap, rfl⟩ := G.rowG (by omega)
  obtain ⟨c0, c1, c2, c3, c4⟩ := G.cells
  have hrng := G.row8 hu
  have hvp := G.vp_eq hu
  obtain ⟨hcap, hgl, _⟩ := G.capS
  have hdl := G.dlt
  have hneg : ((u : Int) == -1) = false := by simp
  obtain ⟨x, hx⟩ : ∃ x, x = X[u] := ⟨_, rfl⟩
  rw [← hx] at hrng hvp ⊢
  clear hx G
  rw [Pro.dsCells, hvp] at hrng
  by_cases h0 : Pro.kindOf x.s = 0
  · have HV : Hid (Pro.holds x (PT u) k = (!(PT u).isEmpty || !Pro.isHist k)) := by unfold Hid Pro.holds; rw [if_pos h0]
    rw [h0] at hrng
    go_enter Tryz.func361, Tryz.ntmps361
    by_cases hp : 0 < (PT u).length
    · go_wp2_with (first
        | (refine wpList_load_mid rfl 242 (.tmp 18) rfl g (u * 8) rfl _ _ hrng Tryz.underlying242 rfl Tryz.sizeStateM ?_)
        | (refine wpList_store_new rfl 242 (.tmp 7) (.tmp 19) rfl 242 _ _ rfl rfl Tryz.sizeStateM rfl rfl ?_))
      go_ret
      exact ⟨by rw [HV.out]; cases hq : PT u with | nil => simp [hq] at hp | cons a b => rfl, (Below.refl _ _).alloc (Nat.le_refl _) _⟩
    · have hp0 : PT u = [] := List.length_eq_zero_iff.1 (by omega)
      rw [hp0] at hrng
      go_wp2_with (first
        | (refine wpList_load_mid rfl 242 (.tmp 18) rfl g (u * 8) rfl _ _ hrng Tryz.underlying242 rfl Tryz.sizeStateM ?_)
        | (refine wpList_store_new rfl 242 (.tmp 7) (.tmp 19) rfl 242 _ _ rfl rfl Tryz.sizeStateM rfl rfl ?_)
        | (go_at_call 156; refine (isHistory_any k _).mono ?_; rintro e w9 ⟨rfl, hw9⟩; rw [hw9]; clear hw9 w9))
      go_ret
      have e : (!decide (k = 3) && !decide (k = 4)) = !Pro.isHist k := by unfold Pro.isHist; cases decide (k = 3) <;> rfl
      refine ⟨?_, (Below.refl _ _).alloc (Nat.le_refl _) _⟩
      show Ending.returned (Value.bool (!decide (k = 3) && !decide (k = 4))) = _
      rw [HV.out, hp0, e]; rfl
  · by_cases h1 : Pro.kindOf x.s = 1
    · have HV : Hid (Pro.holds x (PT u) k = !decide (k = 2)) := by unfold Hid Pro.holds; rw [if_neg h0, if_pos h1]
      rw [h1] at hrng
      go_enter Tryz.func361, Tryz.ntmps361
      go_wp2_with (first
        | (refine wpList_load_mid rfl 242 (.tmp 18) rfl g (u * 8) rfl _ _ hrng Tryz.underlying242 rfl Tryz.sizeStateM ?_)
        | (refine wpList_store_new rfl 242 (.tmp 7) (.tmp 19) rfl 242 _ _ rfl rfl Tryz.sizeStateM rfl rfl ?_))
      go_ret
      refine ⟨?_, (Below.refl _ _).alloc (Nat.le_refl _) _⟩
      rw [HV.out]
      by_cases hk : k = 2
      · subst hk; rfl
      · simp [hk]
    · have HV : Hid (Pro.holds x (PT u) k = false) := by unfold Hid Pro.holds; rw [if_neg h0, if_neg h1]
      have e0 : (Pro.kindOf x.s == 0) = false := by simpa using h0
      have e1 : (Pro.kindOf x.s == 1) = false := by simpa using h1
      generalize Pro.kindOf x.s = kk at *
      go_enter Tryz.func361, Tryz.ntmps361
      go_wp2_with (first
        | (refine wpList_load_mid rfl 242 (.tmp 18) rfl g (u * 8) rfl _ _ hrng Tryz.underlying242 rfl Tryz.sizeStateM ?_)
        | (refine wpList_store_new rfl 242 (.tmp 7) (.tmp 19) rfl 242 _ _ rfl rfl Tryz.sizeStateM rfl rfl ?_))
      go_ret
      exact ⟨by rw [HV.out]; rfl, (Below.refl _ _).alloc (Nat.le_refl _) _⟩
theorem Tryz.sizeDoingsM : (Tryz.prog.info? 384).map (·.size) = some 3 := by kernel_rfl
/-- putInto: a second line is refused. -/
theorem putInto_no (num dep : Int) (a : Option Addr) (n c : Nat) (g o : Nat) (a' : Option Addr) (n' c' : Nat) (hc : w.cell? ⟨g, o, none⟩ = some (.slice a' n' c')) (hn : 0 < n') :
    Calls Tryz.prog 370 #[.agg #[.int .i64 num, .int .i64 dep, .slice a n c], .pointer (some ⟨g, o, none⟩)] w (Refused 3 num w) := by
  have hgl := World.block_lt_of_cell? _ _ hc
  go_enter Tryz.func370, Tryz.ntmps370
  go_wp2_with fail
  refine (refuse_any num dep 3 _).mono ?_
  rintro e w1 ⟨hb, b, h4, h5, rfl⟩
  dsimp only
  refine ⟨rfl, ?_⟩
  exact ⟨((Below.refl w.heap.size w).alloc (Nat.le_refl _) _).trans (hb.mono (by simp)), b, by simp at h4; omega, h5, rfl⟩
theorem putInto_yes (num dep : Int) (a : Option Addr) (n c : Nat) (g o : Nat) (a' : Option Addr) (c' : Nat) (hc : w.cell? ⟨g, o, none⟩ = some (.slice a' 0 c')) (hf : w.frozen? ⟨g, o, none⟩ = false) :
    Calls Tryz.prog 370 #[.agg #[.int .i64 num, .int .i64 dep, .slice a n c], .pointer (some ⟨g, o, none⟩)] w fun e w' => e = .returned (.tuple #[]) ∧ Below w.heap.size (w.setCell ⟨g, o, none⟩ (.slice a n c)) w' := by
  have hgl := World.block_lt_of_cell? _ _ hc
  go_enter Tryz.func370, Tryz.ntmps370
  go_wp2
  go_end0
  exact ⟨rfl, (Below.refl w.heap.size (w.setCell ⟨g, o, none⟩ (.slice a n c))).alloc (by simp) _⟩
end Go.Proofs.YtegmoddppafkfaaGreatDoor
namespace Go.Proofs.YtegmoddppafkfaaGreatDoor
open Go.RowKit

variable {w0 w : World} {db mb nm : Nat} {sv pv ov : Ref.Sl} {tm : Bool} {X : List Pro.DS} {SP : List (Int × Int)} {O : List Nat} {PT : Nat → List Nat} {D : DataW Nat}
set_option maxHeartbeats 1600000 in
theorem ownerBut_none (num : Int) (dep : Nat) (kv : Value) (G : DraftG w0 w db sv pv ov mb tm X SP O PT nm D) (h : dep = 0 ∨ O.length < dep) (hd : dep ≤ 1073741824) :
    Calls Tryz.prog 367 #[.pointer (some ⟨db, 0, none⟩), .agg #[.int .i64 num, .int .i64 dep], kv] w (Refused 3 num w) := by
  obtain ⟨c0, c1, c2, c3, c4⟩ := G.cells
  have hdl := G.dlt
  go_enter Tryz.func367, Tryz.ntmps367
  go_upto_region 1 with fail
  have hb1 : Below w.heap.size w (w.alloc (.cells #[.int .i64 num, .int .i64 dep] 286)) := (Below.refl _ _).alloc (Nat.le_refl _) _
  have c0' : (w.alloc (.cells #[.int .i64 num, .int .i64 dep] 286)).cell? ⟨db, 0, none⟩ = some (.slice sv.a sv.n sv.c) := by rw [World.cell?_alloc_lt _ _ ⟨db, 0, none⟩ hdl]; exact c0
  have G1 := (G.keep hb1).keep ((Below.refl _ _).drew)
  have hend : ∀ e w1, Refused 3 num ((w.alloc (.cells #[.int .i64 num, .int .i64 dep] 286)).drew) e w1 → Refused 3 num w e w1 := by
    rintro e w1 ⟨hb, b, h4, h5, h6⟩
    exact ⟨hb1.drew.trans (hb.mono (by simp)), b, by simp at h4; omega, h5, h6⟩
  refine wp_region_any (by kernel_rfl) ?_
  change wpAny _ _ _ _ _ _ _ (World.drew _)
  refine wpAny_take (i := 0) (v := .pointer (some ⟨db, 0, none⟩)) rfl (by kernel_rfl) (by kernel_rfl) (by kernel_rfl) (fun _ _ _ h => h) (Or.inl ⟨by rfl, fun w => by go_simp⟩) ?_
  refine wpAny_take (i := 1) (v := .pointer (some ⟨db, 0, none⟩)) rfl (by kernel_rfl) (by kernel_rfl) (by kernel_rfl) (fun _ _ _ h => h) (Or.inl ⟨by rfl, fun w => by go_simp⟩) ?_
  refine wpAny_take (i := 2) (v := .pointer (some ⟨db, 0, none⟩)) rfl (by kernel_rfl) (by kernel_rfl) (by kernel_rfl) (fun _ _ _ h => h) (Or.inl ⟨by rfl, fun w => by go_simp⟩) ?_
  refine wpAny_take (i := 4) (v := .pointer (some ⟨db, 0, none⟩)) rfl (by kernel_rfl) (by kernel_rfl) (by kernel_rfl) (fun _ _ _ h => h) (Or.inl ⟨by rfl, fun w => by go_simp⟩) ?_
  refine wpAny_ready (rs := [3, 5]) (by kernel_rfl) (by simp) ?_
  refine AllReady.cons rfl (fun K hK => ?_) (AllReady.cons rfl (fun K hK => ?_) AllReady.nil)
  · go_simp
    refine hK _ _ ?_
    clear hK K
    refine wpAny_ready (rs := [5]) (by kernel_rfl) (by simp) ?_
    refine AllReady.cons rfl (fun K hK => ?_) AllReady.nil
    go_simp
    refine hK _ _ ?_
    clear hK K
    refine wpAny_ready (rs := [6]) (by kernel_rfl) (by simp) ?_
    refine AllReady.cons rfl (fun K hK => ?_) AllReady.nil
    go_simp
    (refine (owner_no num dep G1 h hd).mono ?_; rintro e w4 h4; obtain ⟨hb, b, h5, h6, rfl⟩ := hend _ _ h4; dsimp only; exact ⟨rfl, hb, b, h5, h6, rfl⟩)
  · go_simp
    refine hK _ _ ?_
    clear hK K
    refine wpAny_ready (rs := [3, 6]) (by kernel_rfl) (by simp) ?_
    refine AllReady.cons rfl (fun K hK => ?_) (AllReady.cons rfl (fun K hK => ?_) AllReady.nil)
    · go_simp
      refine hK _ _ ?_
      clear hK K
      refine wpAny_ready (rs := [6]) (by kernel_rfl) (by simp) ?_
      refine AllReady.cons rfl (fun K hK => ?_) AllReady.nil
      go_simp
      (refine (owner_no num dep G1 h hd).mono ?_; rintro e w4 h4; obtain ⟨hb, b, h5, h6, rfl⟩ := hend _ _ h4; dsimp only; exact ⟨rfl, hb, b, h5, h6, rfl⟩)
    · go_simp
      (refine (owner_no num dep G1 h hd).mono ?_; rintro e w4 h4; obtain ⟨hb, b, h5, h6, rfl⟩ := hend _ _ h4; dsimp only; exact ⟨rfl, hb, b, h5, h6, rfl⟩)

/-- What ownerBut answers at a state there is. -/
def ButPost (num : Int) (k : Int) (ks : List Int) (p : Addr) (w : World) (e : Ending) (w' : World) : Prop := if k ∈ ks then Refused 3 num w e w' else e = .returned (.pointer (some p)) ∧ Below w.heap.size w w'
set_option maxRecDepth 100000 in
set_option maxHeartbeats 800000 in
theorem ownerBut_some (num : Int) (dep k u : Nat) (ks : List Int) (kb : Nat) (g cap : Nat) (G : DraftG w0 w db ⟨some ⟨g, 0, none⟩, X.length, cap⟩ pv ov mb tm X SP O PT nm D) (hk : k < O.length) (hd : dep = k + 1) (hO : O.length ≤ 1073741824) (hku : O[k] = u) (hu : u < X.length)
    (hkb : w.heap[kb]? = some (.cells (ks.map (Value.int .i64)).toArray 238 (0, 0))) (hks : ks.length ≤ 10) :
    Calls Tryz.prog 367 #[.pointer (some ⟨db, 0, none⟩), .agg #[.int .i64 num, .int .i64 dep], .slice (some ⟨kb, 0, none⟩) ks.length ks.length] w (ButPost num (Pro.kindOf X[u].s) ks ⟨g, u * 8, none⟩ w) := by
  obtain ⟨c0, c1, c2, c3, c4⟩ := G.cells
  have hdl := G.dlt
  have hrng := G.row8 hu
  obtain ⟨hcap, hgl, _⟩ := G.capS
  have hkl := (Array.getElem?_eq_some_iff.1 hkb).1
  obtain ⟨kd, hkd⟩ : ∃ kd, kd = Pro.kindOf X[u].s := ⟨_, rfl⟩
  have cK := hrng 0 (.int .i64 kd) (by rw [hkd]; rfl)
  rw [Nat.add_zero] at cK
  rw [← hkd]
  have HO : Hid (∀ W : World, W = (w.alloc (.cells #[.int .i64 num, .int .i64 dep] 286)).drew → Calls Tryz.prog 360 #[.pointer (some ⟨db, 0, none⟩), .agg #[.int .i64 num, .int .i64 dep]] W fun e w' => e = .returned (.int .i64 u) ∧ Below W.heap.size W w') := by
    rintro W rfl
    rw [← hku]
    exact owner_yes num dep k ((G.keep ((Below.refl _ _).alloc (Nat.le_refl _) _)).keep ((Below.refl _ _).drew)) hk hd hO
  clear hd hku hk hO hrng hkd G
  go_enter Tryz.func367, Tryz.ntmps367
  go_upto_region 1 with fail
  have hb1 : Below w.heap.size w (w.alloc (.cells #[.int .i64 num, .int .i64 dep] 286)) := (Below.refl _ _).alloc (Nat.le_refl _) _
  have c0' : (w.alloc (.cells #[.int .i64 num, .int .i64 dep] 286)).cell? ⟨db, 0, none⟩ = some (.slice (some ⟨g, 0, none⟩) X.length cap) := by rw [World.cell?_alloc_lt _ _ ⟨db, 0, none⟩ hdl]; exact c0
  have p0 : (w.alloc (.cells #[.int .i64 num, .int .i64 dep] 286)).cell? ⟨w.heap.size, 0, none⟩ = some (.int .i64 num) := by simp
  have p1 : (w.alloc (.cells #[.int .i64 num, .int .i64 dep] 286)).cell? ⟨w.heap.size, 1, none⟩ = some (.int .i64 dep) := by simp
  have hpl : w.heap.size < (w.alloc (.cells #[.int .i64 num, .int .i64 dep] 286)).heap.size := by simp
  obtain ⟨W1, hW1⟩ : ∃ y, y = w.alloc (.cells #[.int .i64 num, .int .i64 dep] 286) := ⟨_, rfl⟩
  change Code.wp _ _ _ _ (w.alloc (.cells #[.int .i64 num, .int .i64 dep] 286))
  rw [← hW1] at p0 p1 hpl c0' hb1 HO ⊢
  clear hW1
  have hdl1 : db < W1.heap.size := Nat.lt_of_lt_of_le hdl hb1.size
  go_region_held3 (fun W => W.cell? ⟨db, 0, none⟩ = some (.slice (some ⟨g, 0, none⟩) X.length cap) ∧ W.cell? ⟨w.heap.size, 0, none⟩ = some (.int .i64 num) ∧ W.cell? ⟨w.heap.size, 1, none⟩ = some (.int .i64 dep)) (first | go_keep | exact ⟨k0, k1, k2⟩)
    ((go_at_call 360; refine (HO.out _ rfl).mono ?_; rintro e w4 ⟨rfl, hb4⟩; have k0 := (World.cell?_of_block (w := W1.drew) (w' := w4) (a := ⟨db, 0, none⟩) (hb4.block db hdl1)).trans c0'; have k1 := (World.cell?_of_block (w := W1.drew) (w' := w4) (a := ⟨w.heap.size, 0, none⟩) (hb4.block w.heap.size hpl)).trans p0; have k2 := (World.cell?_of_block (w := W1.drew) (w' := w4) (a := ⟨w.heap.size, 1, none⟩) (hb4.block w.heap.size hpl)).trans p1; dsimp only))
  have hb4' : Below w.heap.size w w4 := hb1.drew.trans (hb4.mono hb1.size)
  have cK4 : w4.cell? ⟨g, u * 8, none⟩ = some (.int .i64 kd) := (World.cell?_of_block (w := w) (hb4'.block g hgl)).trans cK
  have kb4 := (hb4'.block kb hkl).trans hkb
  have HS4 : Hid _ := hb4'
  clear k0 hb4' hb4 cK hkb hgl hb1 c0' p0 p1 hpl HO hdl1 c0 c1 c2 c3 c4
  go_wp2
  go_loop [20] (fun i => ∃ j : Nat, j ≤ ks.length ∧ i = .int .i64 j ∧ ∀ q (h : q < ks.length), q < j → ¬ ks[q] = kd) (fun i => ks.length - (intOf i).toNat)
  case atStart => exact ⟨0, Nat.zero_le _, rfl, fun _ _ h => by omega⟩
  case round =>
    obtain ⟨j, hj, rfl, hno⟩ := hrel
    by_cases hjn : j < ks.length
    · have cj : w4.cell? ⟨kb, j, none⟩ = some (.int .i64 ks[j]) := by
        rw [cell_of_row w4 _ j _ _ _ kb4]
        simp [List.getElem?_eq_getElem hjn]
      obtain ⟨z, hz⟩ : ∃ z, z = ks[j] := ⟨_, rfl⟩
      rw [← hz] at cj
      by_cases he : kd = z
      · have hm : Hid (kd ∈ ks) := by rw [he, hz]; exact List.getElem_mem hjn
        have he' : (kd == z) = true := by simpa using he
        clear he hz hno
        go_wp2_with fail
        refine (refuse_any num dep 3 _).mono ?_
        rintro e w5 ⟨hb, b, h4, h5, rfl⟩
        dsimp only
        refine ⟨rfl, ?_⟩
        unfold ButPost
        rw [if_pos hm.out]
        exact ⟨HS4.out.trans (hb.mono HS4.out.size), b, Nat.le_trans HS4.out.size h4, h5, rfl⟩
      · have he' : (kd == z) = false := by simpa using he
        have HZ : Hid (¬ ks[j] = kd) := by rw [← hz]; exact fun h => he h.symm
        clear hz he
        go_wp2
        go_round
        case rel =>
          refine ⟨j + 1, by omega, by go_num, fun q h hq => ?_⟩
          by_cases e : q = j
          · subst e; exact HZ.out
          · exact hno q h (by omega)
        case measure => simp [intOf]; omega
    · have hm : Hid (¬ kd ∈ ks) := by
        intro h
        obtain ⟨q, hq, e⟩ := List.getElem_of_mem h
        exact hno q hq (by omega) e
      clear hno
      go_wp2
      go_ret
      unfold ButPost
      rw [if_neg hm.out]
      exact ⟨rfl, HS4.out⟩
end Go.Proofs.YtegmoddppafkfaaGreatDoor
namespace Go.Proofs.YtegmoddppafkfaaGreatDoor
open Go.RowKit

variable {w0 w : World} {db mb nm : Nat} {sv pv ov : Ref.Sl} {tm : Bool} {X : List Pro.DS} {SP : List (Int × Int)} {O : List Nat} {PT : Nat → List Nat} {D : DataW Nat}
theorem Tryz.infoMoveM : (Tryz.prog.info? 295).map (fun i => (i.zero, i.size, i.bytes)) = some (some (.agg #[.string ByteArray.empty, .bool false, .int .u64 0, .string ByteArray.empty, .slice none 0 0]), 5, 72) := by kernel_rfl
/-- A line of a move, as it is handed on. -/
def mlCells (num : Int) (dep : Nat) (y : Pro.PV) : Array Value := #[.int .i64 num, .int .i64 dep, .string y.m.event, .bool y.m.after, .int .u64 y.m.delay, .string y.m.to, .slice y.v.a y.v.n y.v.c]
set_option maxHeartbeats 1600000 in
theorem movePlace_none (num : Int) (dep : Nat) (y : Pro.PV) (G : DraftG w0 w db sv pv ov mb tm X SP O PT nm D) (h : dep = 0 ∨ O.length < dep) (hd : dep ≤ 1073741824) :
    Calls Tryz.prog 364 #[.agg (mlCells num dep y), .pointer (some ⟨db, 0, none⟩)] w (Refused 3 num w) := by
  have hdl := G.dlt
  have hb1 : Below w.heap.size w ((w.alloc (.cells (mlCells num dep y) 380)).alloc (.cells #[.int .i64 2, .int .i64 3, .int .i64 4] 238)) := ((Below.refl _ _).alloc (Nat.le_refl _) _).alloc (by simp) _
  have HC : Hid _ := ownerBut_none num dep (.slice (some ⟨w.heap.size + 1, 0, none⟩) 3 3) (G.keep hb1) h hd
  unfold mlCells at hb1 HC ⊢
  go_enter Tryz.func364, Tryz.ntmps364
  go_wp2_with fail
  refine Calls.mono HC.out ?_
  rintro e w4 ⟨hb, b, h5, h6, rfl⟩
  dsimp only
  exact ⟨rfl, hb1.trans (hb.mono hb1.size), b, Nat.le_trans hb1.size h5, h6, rfl⟩
set_option maxHeartbeats 1600000 in
theorem movePlace_bad (num : Int) (dep : Nat) (y : Pro.PV) (k u g cap : Nat) (G : DraftG w0 w db ⟨some ⟨g, 0, none⟩, X.length, cap⟩ pv ov mb tm X SP O PT nm D) (hk : k < O.length) (hd : dep = k + 1) (hO : O.length ≤ 1073741824) (hku : O[k] = u) (hu : u < X.length) (hh : Pro.kindOf X[u].s ∈ ([2, 3, 4] : List Int)) :
    Calls Tryz.prog 364 #[.agg (mlCells num dep y), .pointer (some ⟨db, 0, none⟩)] w (Refused 3 num w) := by
  have hdl := G.dlt
  have hb1 : Below w.heap.size w ((w.alloc (.cells (mlCells num dep y) 380)).alloc (.cells #[.int .i64 2, .int .i64 3, .int .i64 4] 238)) := ((Below.refl _ _).alloc (Nat.le_refl _) _).alloc (by simp) _
  have HC : Hid _ := ownerBut_some num dep k u [2, 3, 4] (w.heap.size + 1) g cap (G.keep hb1) hk hd hO hku hu (heap_last2 _ _ _) (by decide)
  clear hd hku hk hO
  unfold mlCells at hb1 HC ⊢
  go_enter Tryz.func364, Tryz.ntmps364
  go_wp2_with fail
  refine Calls.mono HC.out ?_
  rintro e w4 h4
  unfold ButPost at h4
  rw [if_pos hh] at h4
  obtain ⟨hb, b, h5, h6, rfl⟩ := h4
  dsimp only
  exact ⟨rfl, hb1.trans (hb.mono hb1.size), b, Nat.le_trans hb1.size h5, h6, rfl⟩
set_option maxRecDepth 100000 in
set_option maxHeartbeats 1600000 in
theorem movePlace_yes (num : Int) (dep : Nat) (y : Pro.PV) (k u g cap : Nat) (G : DraftG w0 w db ⟨some ⟨g, 0, none⟩, X.length, cap⟩ pv ov mb tm X SP O PT nm D) (hk : k < O.length) (hd : dep = k + 1) (hO : O.length ≤ 1073741824) (hku : O[k] = u) (hu : u < X.length) (hh : ¬ Pro.kindOf X[u].s ∈ ([2, 3, 4] : List Int))
    (hy : w0.ownsRow 0 324 1 y.v.v y.m.acts.length (y.m.acts.map actV)) (hml : X[u].s.moves.length ≤ 1000000) :
    Calls Tryz.prog 364 #[.agg (mlCells num dep y), .pointer (some ⟨db, 0, none⟩)] w fun e w' => e = .returned (.tuple #[]) ∧ ∃ vm', DraftG w0 w' db ⟨some ⟨g, 0, none⟩, X.length, cap⟩ pv ov mb (tm || y.m.after) (X.set u (Pro.moreMove X[u] y vm')) SP O PT nm D := by
  have hdl := G.dlt
  obtain ⟨hcap, hgl, hg0⟩ := G.capS
  have hb1 : Below w.heap.size w ((w.alloc (.cells (mlCells num dep y) 380)).alloc (.cells #[.int .i64 2, .int .i64 3, .int .i64 4] 238)) := ((Below.refl _ _).alloc (Nat.le_refl _) _).alloc (by simp) _
  have HC : Hid _ := ownerBut_some num dep k u [2, 3, 4] (w.heap.size + 1) g cap (G.keep hb1) hk hd hO hku hu (heap_last2 _ _ _) (by decide)
  have hbx : ((w.alloc (.cells (mlCells num dep y) 380)).alloc (.cells #[.int .i64 2, .int .i64 3, .int .i64 4] 238)).heap[w.heap.size]? = some (.cells (mlCells num dep y) 380 (0, 0)) := heap_prev _ _ _
  obtain ⟨i0, hi, hz0, hz1, hz2⟩ := info_parts Tryz.infoMoveM
  clear hd hku hk hO
  have hlw : w.heap.size < ((w.alloc (.cells (mlCells num dep y) 380)).alloc (.cells #[.int .i64 2, .int .i64 3, .int .i64 4] 238)).heap.size := by simp; omega
  unfold mlCells at hb1 HC hbx hlw ⊢
  go_enter Tryz.func364, Tryz.ntmps364
  go_wp2_with fail
  refine Calls.mono HC.out ?_
  rintro e w4 h4
  unfold ButPost at h4
  rw [if_neg hh] at h4
  obtain ⟨rfl, hb4⟩ := h4
  have hbw := hb1.trans (hb4.mono hb1.size)
  have G4 := G.keep hbw
  have hbx4 := (hb4.block _ hlw).trans hbx
  have hbs := hbw.size
  obtain ⟨M, hM1, hM2, hM3⟩ := (G4.deep u hu).moves
  have hMl : M.length ≤ 1000000 := by rw [← hM1] at hml; simpa using hml
  have c7 : w4.cell? ⟨g, u * 8 + 7, none⟩ = some (.slice X[u].vm.a X[u].vm.n X[u].vm.c) := G4.row8 hu 7 _ rfl
  have f7 : w4.frozen? ⟨g, u * 8 + 7, none⟩ = false := World.ownsRow.frozenAt (own_mono G4.states (Nat.zero_le _)) _
  have e2 : w4.cell? ⟨w.heap.size, 2, none⟩ = some (.string y.m.event) := by rw [cell_of_row w4 _ _ _ _ _ hbx4]; rfl
  have e3 : w4.cell? ⟨w.heap.size, 3, none⟩ = some (.bool y.m.after) := by rw [cell_of_row w4 _ _ _ _ _ hbx4]; rfl
  have e4 : w4.cell? ⟨w.heap.size, 4, none⟩ = some (.int .u64 y.m.delay) := by rw [cell_of_row w4 _ _ _ _ _ hbx4]; rfl
  have e5 : w4.cell? ⟨w.heap.size, 5, none⟩ = some (.string y.m.to) := by rw [cell_of_row w4 _ _ _ _ _ hbx4]; rfl
  have e6 : w4.cell? ⟨w.heap.size, 6, none⟩ = some (.slice y.v.a y.v.n y.v.c) := by rw [cell_of_row w4 _ _ _ _ _ hbx4]; rfl
  have hgl4 : g < w4.heap.size := Nat.lt_of_lt_of_le hgl hbs
  have hlw4 : w.heap.size < w4.heap.size := (Array.getElem?_eq_some_iff.1 hbx4).1
  have hw04 : w0.heap.size ≤ w4.heap.size := G4.bel.size
  have HND : Hid (some g ≠ X[u].vm.v.ownBlock) := fun e => by
    obtain ⟨c, hc⟩ := own_kind hM2 _ e.symm
    obtain ⟨c', hc'⟩ := own_kind G4.states g rfl
    rw [hc] at hc'; simp at hc'
  have HB4 : Hid _ := hbx4
  clear hbx hbx4 HC hh hlw hb1
  dsimp only
  go_upto_region 2 with fail
  go_cut [] (fun wx => ∃ vm', DraftG w0 wx db ⟨some ⟨g, 0, none⟩, X.length, cap⟩ pv ov mb tm (X.set u (Pro.moreMove X[u] y vm')) SP O PT nm D ∧ wx.heap[w.heap.size]? = some (.cells (mlCells num dep y) 380 (0, 0)))
  case first =>
    go_region_law
      ((refine step_append_lies _ (by rfl) _ _ _ (by rfl) w0.heap.size 295 i0 _ 5 72 Tryz.underlying240 hi hz0 hz1 hz2 rfl (by decide) (.slice X[u].vm.a X[u].vm.n X[u].vm.c) M.length (M.flatMap Pro.pvCells) (by rfl) ((World.ownsRow.alloc hM2 _).drew) ⟨w4.heap.size, 0, none⟩ 1 1 (Pro.pvCells y) (by rfl) (by rfl) (World.news_of_block (cs := (Pro.pvCells y).toArray) (t := 295) (fr := (0, 0)) (heap_alloc_new w4 _)) (by simp [Pro.pvCells, Value.oneCell']) (by omega) (by unfold maxLen; omega) (by omega) (by simp; omega) (w4.heap.size + 1) (by simp) ?_; intro g5 cap5 w5 hown5 hgrow hat hlt5; have hfz5 := ((hgrow.frozen_far ⟨g, u * 8 + 7, none⟩ (by simp; omega) HND.out).trans ((((Below.refl w4.heap.size w4).alloc (Nat.le_refl _) _).drew).frozen (p := ⟨g, u * 8 + 7, none⟩) hgl4)).trans f7; have hcc5 := ((hgrow.cell_far ⟨g, u * 8 + 7, none⟩ (by simp; omega) HND.out).trans ((((Below.refl w4.heap.size w4).alloc (Nat.le_refl _) _).drew).cell (p := ⟨g, u * 8 + 7, none⟩) hgl4)).trans c7))
    all_goals (
      go_wp2_with fail
      go_meet
      case rel =>
        have hbc : Below w4.heap.size w4 ((w4.alloc (.cells #[.string y.m.event, .bool y.m.after, .int .u64 y.m.delay, .string y.m.to, .slice y.v.a y.v.n y.v.c] 295)).drew) := ((Below.refl _ _).alloc (Nat.le_refl _) _).drew
        refine ⟨⟨some ⟨g5, 0, none⟩, M.length + 1, cap5⟩, G4.addMove (vm' := ⟨some ⟨g5, 0, none⟩, M.length + 1, cap5⟩) (y := y) (M := M) hbc hu hM1 hM2 hM3 hgrow hown5 ?_ hy, ?_⟩
        · rcases hat with h | h
          · exact .inl h.symm
          · exact .inr (by rw [h]; simp [Ref.Sl.v, Value.ownBlock])
        · have t1 : Touch 295 _ w5 := touch_grown (World.ownsRow.drew (World.ownsRow.alloc hM2 _)) hgrow
          have b5 := cells_touch (cells_touch HB4.out (touch_below (e := 295) hbc) (by decide)) t1 (by decide)
          rw [(only_setCell w5 g (u * 8 + 7) _).block w.heap.size (by omega)]
          exact b5)
  case rest =>
    obtain ⟨vm', G6, hbx6⟩ := hcut
    obtain ⟨W6, hW6⟩ : ∃ y : World, y = wc := ⟨wc, rfl⟩
    subst hW6
    obtain ⟨d0, d1, d2, d3, d4⟩ := G6.cells
    have fd := G6.frozen 4
    have hl6 := G6.dlt
    have e3' : W6.cell? ⟨w.heap.size, 3, none⟩ = some (.bool y.m.after) := by rw [cell_of_row W6 _ _ _ _ _ hbx6]; rfl
    have HG : Hid _ := G6
    clear e2 e3 e4 e5 e6 c7 f7 hi hz0 hz1 hz2 hM1 hM2 hM3
    cases tm with
    | true =>
      go_wp2
      go_end0
      exact ⟨rfl, vm', by simpa using HG.out.setTimed true (Below.refl _ _)⟩
    | false =>
      go_wp2
      go_end0
      exact ⟨rfl, vm', by simpa using HG.out.setTimed y.m.after (Below.refl _ _)⟩
end Go.Proofs.YtegmoddppafkfaaGreatDoor
