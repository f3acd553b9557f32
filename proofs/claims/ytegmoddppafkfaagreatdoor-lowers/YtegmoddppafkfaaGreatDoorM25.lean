/-
  MY OWN TEXT.
-/
import Derived.Test.YtegmoddppafkfaaGreatDoorM21
namespace Go.Proofs.YtegmoddppafkfaaGreatDoor
open Go.RowKit

variable {w0 w : World} {db mb nm : Nat} {sv pv ov : Ref.Sl} {tm : Bool} {X : List Pro.DS} {SP : List (Int × Int)} {O : List Nat} {PT : Nat → List Nat} {D : DataW Nat}
set_option maxRecDepth 100000 in
set_option maxHeartbeats 1600000 in
theorem leavePlace_none (num : Int) (dep : Nat) (a : Option Addr) (n c : Nat) (G : DraftG w0 w db sv pv ov mb tm X SP O PT nm D) (h : dep = 0 ∨ O.length < dep) (hd : dep ≤ 1073741824) :
    Calls Tryz.prog 371 #[.agg #[.int .i64 num, .int .i64 dep, .slice a n c], .pointer (some ⟨db, 0, none⟩)] w (Refused 3 num w) := by
  have hdl := G.dlt
  go_enter Tryz.func371, Tryz.ntmps371
  go_upto_region 1 with fail
  have hb1 : Below w.heap.size w (((w.alloc (.cells #[.int .i64 num, .int .i64 dep, .slice a n c] 388)).drew).alloc (.cells #[.int .i64 3, .int .i64 4] 238)) := ((Below.refl _ _).alloc (Nat.le_refl _) _).drew.alloc (by simp) _
  have G1 := G.keep hb1
  refine wp_region_any (by kernel_rfl) ?_
  change wpAny _ _ _ _ _ _ _ (World.drew _)
  refine wpAny_take (i := 0) (v := .pointer (some ⟨w.heap.size, 0, none⟩)) rfl (by kernel_rfl) (by kernel_rfl) (by kernel_rfl) (fun _ _ _ h => h) (Or.inl ⟨by rfl, fun w => by go_simp⟩) ?_
  refine wpAny_take (i := 2) (v := .pointer (some ⟨db, 0, none⟩)) rfl (by kernel_rfl) (by kernel_rfl) (by kernel_rfl) (fun _ _ _ h => h) (Or.inl ⟨by rfl, fun w => by go_simp⟩) ?_
  refine wpAny_take (i := 3) (v := .pointer (some ⟨w.heap.size, 0, none⟩)) rfl (by kernel_rfl) (by kernel_rfl) (by kernel_rfl) (fun _ _ _ h => h) (Or.inl ⟨by rfl, fun w => by go_simp⟩) ?_
  refine wpAny_take (i := 4) (v := .pointer (some ⟨w.heap.size, 0, none⟩)) rfl (by kernel_rfl) (by kernel_rfl) (by kernel_rfl) (fun _ _ _ h => h) (Or.inl ⟨by rfl, fun w => by go_simp⟩) ?_
  refine wpAny_ready (rs := [1, 5, 6]) (by kernel_rfl) (by simp) ?_
  refine AllReady.cons rfl (fun K hK => ?_) (AllReady.cons rfl (fun K hK => ?_) (AllReady.cons rfl (fun K hK => ?_) AllReady.nil))
  · go_simp
    refine hK _ _ ?_
    clear hK K
    refine wpAny_ready (rs := [5, 6]) (by kernel_rfl) (by simp) ?_
    refine AllReady.cons rfl (fun K hK => ?_) (AllReady.cons rfl (fun K hK => ?_) AllReady.nil)
    · go_simp
      refine hK _ _ ?_
      clear hK K
      refine wpAny_ready (rs := [6]) (by kernel_rfl) (by simp) ?_
      refine AllReady.cons rfl (fun K hK => ?_) AllReady.nil
      · go_simp
        refine hK _ _ ?_
        clear hK K
        refine wpAny_ready (rs := [7]) (by kernel_rfl) (by simp) ?_
        refine AllReady.cons rfl (fun K hK => ?_) AllReady.nil
        · go_simp
          refine (ownerBut_none num dep _ G1 h hd).mono ?_
          rintro e w4 ⟨hb, b, h5, h6, rfl⟩
          dsimp only
          exact ⟨rfl, hb1.trans (hb.mono hb1.size), b, Nat.le_trans hb1.size h5, h6, rfl⟩
    · go_simp
      refine hK _ _ ?_
      clear hK K
      refine wpAny_ready (rs := [5]) (by kernel_rfl) (by simp) ?_
      refine AllReady.cons rfl (fun K hK => ?_) AllReady.nil
      · go_simp
        refine hK _ _ ?_
        clear hK K
        refine wpAny_ready (rs := [7]) (by kernel_rfl) (by simp) ?_
        refine AllReady.cons rfl (fun K hK => ?_) AllReady.nil
        · go_simp
          refine (ownerBut_none num dep _ G1 h hd).mono ?_
          rintro e w4 ⟨hb, b, h5, h6, rfl⟩
          dsimp only
          exact ⟨rfl, hb1.trans (hb.mono hb1.size), b, Nat.le_trans hb1.size h5, h6, rfl⟩
  · go_simp
    refine hK _ _ ?_
    clear hK K
    refine wpAny_ready (rs := [1, 6]) (by kernel_rfl) (by simp) ?_
    refine AllReady.cons rfl (fun K hK => ?_) (AllReady.cons rfl (fun K hK => ?_) AllReady.nil)
    · go_simp
      refine hK _ _ ?_
      clear hK K
      refine wpAny_ready (rs := [6]) (by kernel_rfl) (by simp) ?_
      refine AllReady.cons rfl (fun K hK => ?_) AllReady.nil
      · go_simp
        refine hK _ _ ?_
        clear hK K
        refine wpAny_ready (rs := [7]) (by kernel_rfl) (by simp) ?_
        refine AllReady.cons rfl (fun K hK => ?_) AllReady.nil
        · go_simp
          refine (ownerBut_none num dep _ G1 h hd).mono ?_
          rintro e w4 ⟨hb, b, h5, h6, rfl⟩
          dsimp only
          exact ⟨rfl, hb1.trans (hb.mono hb1.size), b, Nat.le_trans hb1.size h5, h6, rfl⟩
    · go_simp
      refine hK _ _ ?_
      clear hK K
      refine wpAny_ready (rs := [1, 7]) (by kernel_rfl) (by simp) ?_
      refine AllReady.cons rfl (fun K hK => ?_) (AllReady.cons rfl (fun K hK => ?_) AllReady.nil)
      · go_simp
        refine hK _ _ ?_
        clear hK K
        refine wpAny_ready (rs := [7]) (by kernel_rfl) (by simp) ?_
        refine AllReady.cons rfl (fun K hK => ?_) AllReady.nil
        · go_simp
          refine (ownerBut_none num dep _ G1 h hd).mono ?_
          rintro e w4 ⟨hb, b, h5, h6, rfl⟩
          dsimp only
          exact ⟨rfl, hb1.trans (hb.mono hb1.size), b, Nat.le_trans hb1.size h5, h6, rfl⟩
      · go_simp
        refine (ownerBut_none num dep _ G1 h hd).mono ?_
        rintro e w4 ⟨hb, b, h5, h6, rfl⟩
        dsimp only
        exact ⟨rfl, hb1.trans (hb.mono hb1.size), b, Nat.le_trans hb1.size h5, h6, rfl⟩
  · go_simp
    refine hK _ _ ?_
    clear hK K
    refine wpAny_ready (rs := [1, 5]) (by kernel_rfl) (by simp) ?_
    refine AllReady.cons rfl (fun K hK => ?_) (AllReady.cons rfl (fun K hK => ?_) AllReady.nil)
    · go_simp
      refine hK _ _ ?_
      clear hK K
      refine wpAny_ready (rs := [5]) (by kernel_rfl) (by simp) ?_
      refine AllReady.cons rfl (fun K hK => ?_) AllReady.nil
      · go_simp
        refine hK _ _ ?_
        clear hK K
        refine wpAny_ready (rs := [7]) (by kernel_rfl) (by simp) ?_
        refine AllReady.cons rfl (fun K hK => ?_) AllReady.nil
        · go_simp
          refine (ownerBut_none num dep _ G1 h hd).mono ?_
          rintro e w4 ⟨hb, b, h5, h6, rfl⟩
          dsimp only
          exact ⟨rfl, hb1.trans (hb.mono hb1.size), b, Nat.le_trans hb1.size h5, h6, rfl⟩
    · go_simp
      refine hK _ _ ?_
      clear hK K
      refine wpAny_ready (rs := [1, 7]) (by kernel_rfl) (by simp) ?_
      refine AllReady.cons rfl (fun K hK => ?_) (AllReady.cons rfl (fun K hK => ?_) AllReady.nil)
      · go_simp
        refine hK _ _ ?_
        clear hK K
        refine wpAny_ready (rs := [7]) (by kernel_rfl) (by simp) ?_
        refine AllReady.cons rfl (fun K hK => ?_) AllReady.nil
        · go_simp
          refine (ownerBut_none num dep _ G1 h hd).mono ?_
          rintro e w4 ⟨hb, b, h5, h6, rfl⟩
          dsimp only
          exact ⟨rfl, hb1.trans (hb.mono hb1.size), b, Nat.le_trans hb1.size h5, h6, rfl⟩
      · go_simp
        refine (ownerBut_none num dep _ G1 h hd).mono ?_
        rintro e w4 ⟨hb, b, h5, h6, rfl⟩
        dsimp only
        exact ⟨rfl, hb1.trans (hb.mono hb1.size), b, Nat.le_trans hb1.size h5, h6, rfl⟩
set_option maxRecDepth 100000 in
set_option maxHeartbeats 1600000 in
theorem leavePlace_hist (num : Int) (dep : Nat) (a : Option Addr) (n c : Nat) (k u g cap : Nat) (G : DraftG w0 w db ⟨some ⟨g, 0, none⟩, X.length, cap⟩ pv ov mb tm X SP O PT nm D) (hk : k < O.length) (hd : dep = k + 1) (hO : O.length ≤ 1073741824) (hku : O[k] = u) (hu : u < X.length) (hh : Pro.kindOf X[u].s ∈ ([3, 4] : List Int)) :
    Calls Tryz.prog 371 #[.agg #[.int .i64 num, .int .i64 dep, .slice a n c], .pointer (some ⟨db, 0, none⟩)] w (Refused 3 num w) := by
  have hdl := G.dlt
  have hb1 : Below w.heap.size w (((w.alloc (.cells #[.int .i64 num, .int .i64 dep, .slice a n c] 388)).drew).alloc (.cells #[.int .i64 3, .int .i64 4] 238)) := ((Below.refl _ _).alloc (Nat.le_refl _) _).drew.alloc (by simp) _
  have hkb : (((w.alloc (.cells #[.int .i64 num, .int .i64 dep, .slice a n c] 388)).drew).alloc (.cells #[.int .i64 3, .int .i64 4] 238)).heap[w.heap.size + 1]? = some (.cells (([3, 4] : List Int).map (Value.int .i64)).toArray 238 (0, 0)) := by
    have := heap_alloc_new ((w.alloc (.cells #[.int .i64 num, .int .i64 dep, .slice a n c] 388)).drew) (.cells #[.int .i64 3, .int .i64 4] 238)
    simpa using this
  have HC : Hid (Calls Tryz.prog 367 #[.pointer (some ⟨db, 0, none⟩), .agg #[.int .i64 num, .int .i64 dep], .slice (some ⟨w.heap.size + 1, 0, none⟩) 2 2] (((w.alloc (.cells #[.int .i64 num, .int .i64 dep, .slice a n c] 388)).drew).alloc (.cells #[.int .i64 3, .int .i64 4] 238)) (ButPost num (Pro.kindOf X[u].s) [3, 4] ⟨g, u * 8, none⟩ (((w.alloc (.cells #[.int .i64 num, .int .i64 dep, .slice a n c] 388)).drew).alloc (.cells #[.int .i64 3, .int .i64 4] 238)))) := ownerBut_some num dep k u [3, 4] (w.heap.size + 1) g cap (G.keep hb1) hk hd hO hku hu hkb (by decide)
  clear hd hku hk hO hkb
  go_enter Tryz.func371, Tryz.ntmps371
  go_upto_region 1 with fail
  refine wp_region_any (by kernel_rfl) ?_
  change wpAny _ _ _ _ _ _ _ (World.drew _)
  refine wpAny_take (i := 0) (v := .pointer (some ⟨w.heap.size, 0, none⟩)) rfl (by kernel_rfl) (by kernel_rfl) (by kernel_rfl) (fun _ _ _ h => h) (Or.inl ⟨by rfl, fun w => by go_simp⟩) ?_
  refine wpAny_take (i := 2) (v := .pointer (some ⟨db, 0, none⟩)) rfl (by kernel_rfl) (by kernel_rfl) (by kernel_rfl) (fun _ _ _ h => h) (Or.inl ⟨by rfl, fun w => by go_simp⟩) ?_
  refine wpAny_take (i := 3) (v := .pointer (some ⟨w.heap.size, 0, none⟩)) rfl (by kernel_rfl) (by kernel_rfl) (by kernel_rfl) (fun _ _ _ h => h) (Or.inl ⟨by rfl, fun w => by go_simp⟩) ?_
  refine wpAny_take (i := 4) (v := .pointer (some ⟨w.heap.size, 0, none⟩)) rfl (by kernel_rfl) (by kernel_rfl) (by kernel_rfl) (fun _ _ _ h => h) (Or.inl ⟨by rfl, fun w => by go_simp⟩) ?_
  refine wpAny_ready (rs := [1, 5, 6]) (by kernel_rfl) (by simp) ?_
  refine AllReady.cons rfl (fun K hK => ?_) (AllReady.cons rfl (fun K hK => ?_) (AllReady.cons rfl (fun K hK => ?_) AllReady.nil))
  · go_simp
    refine hK _ _ ?_
    clear hK K
    refine wpAny_ready (rs := [5, 6]) (by kernel_rfl) (by simp) ?_
    refine AllReady.cons rfl (fun K hK => ?_) (AllReady.cons rfl (fun K hK => ?_) AllReady.nil)
    · go_simp
      refine hK _ _ ?_
      clear hK K
      refine wpAny_ready (rs := [6]) (by kernel_rfl) (by simp) ?_
      refine AllReady.cons rfl (fun K hK => ?_) AllReady.nil
      · go_simp
        refine hK _ _ ?_
        clear hK K
        refine wpAny_ready (rs := [7]) (by kernel_rfl) (by simp) ?_
        refine AllReady.cons rfl (fun K hK => ?_) AllReady.nil
        · go_simp
          refine HC.out.mono ?_
          rintro e w4 h4
          unfold ButPost at h4
          rw [if_pos hh] at h4
          obtain ⟨hb, b, h5, h6, rfl⟩ := h4
          dsimp only
          exact ⟨rfl, hb1.trans (hb.mono hb1.size), b, Nat.le_trans hb1.size h5, h6, rfl⟩
    · go_simp
      refine hK _ _ ?_
      clear hK K
      refine wpAny_ready (rs := [5]) (by kernel_rfl) (by simp) ?_
      refine AllReady.cons rfl (fun K hK => ?_) AllReady.nil
      · go_simp
        refine hK _ _ ?_
        clear hK K
        refine wpAny_ready (rs := [7]) (by kernel_rfl) (by simp) ?_
        refine AllReady.cons rfl (fun K hK => ?_) AllReady.nil
        · go_simp
          refine HC.out.mono ?_
          rintro e w4 h4
          unfold ButPost at h4
          rw [if_pos hh] at h4
          obtain ⟨hb, b, h5, h6, rfl⟩ := h4
          dsimp only
          exact ⟨rfl, hb1.trans (hb.mono hb1.size), b, Nat.le_trans hb1.size h5, h6, rfl⟩
  · go_simp
    refine hK _ _ ?_
    clear hK K
    refine wpAny_ready (rs := [1, 6]) (by kernel_rfl) (by simp) ?_
    refine AllReady.cons rfl (fun K hK => ?_) (AllReady.cons rfl (fun K hK => ?_) AllReady.nil)
    · go_simp
      refine hK _ _ ?_
      clear hK K
      refine wpAny_ready (rs := [6]) (by kernel_rfl) (by simp) ?_
      refine AllReady.cons rfl (fun K hK => ?_) AllReady.nil
      · go_simp
        refine hK _ _ ?_
        clear hK K
        refine wpAny_ready (rs := [7]) (by kernel_rfl) (by simp) ?_
        refine AllReady.cons rfl (fun K hK => ?_) AllReady.nil
        · go_simp
          refine HC.out.mono ?_
          rintro e w4 h4
          unfold ButPost at h4
          rw [if_pos hh] at h4
          obtain ⟨hb, b, h5, h6, rfl⟩ := h4
          dsimp only
          exact ⟨rfl, hb1.trans (hb.mono hb1.size), b, Nat.le_trans hb1.size h5, h6, rfl⟩
    · go_simp
      refine hK _ _ ?_
      clear hK K
      refine wpAny_ready (rs := [1, 7]) (by kernel_rfl) (by simp) ?_
      refine AllReady.cons rfl (fun K hK => ?_) (AllReady.cons rfl (fun K hK => ?_) AllReady.nil)
      · go_simp
        refine hK _ _ ?_
        clear hK K
        refine wpAny_ready (rs := [7]) (by kernel_rfl) (by simp) ?_
        refine AllReady.cons rfl (fun K hK => ?_) AllReady.nil
        · go_simp
          refine HC.out.mono ?_
          rintro e w4 h4
          unfold ButPost at h4
          rw [if_pos hh] at h4
          obtain ⟨hb, b, h5, h6, rfl⟩ := h4
          dsimp only
          exact ⟨rfl, hb1.trans (hb.mono hb1.size), b, Nat.le_trans hb1.size h5, h6, rfl⟩
      · go_simp
        refine HC.out.mono ?_
        rintro e w4 h4
        unfold ButPost at h4
        rw [if_pos hh] at h4
        obtain ⟨hb, b, h5, h6, rfl⟩ := h4
        dsimp only
        exact ⟨rfl, hb1.trans (hb.mono hb1.size), b, Nat.le_trans hb1.size h5, h6, rfl⟩
  · go_simp
    refine hK _ _ ?_
    clear hK K
    refine wpAny_ready (rs := [1, 5]) (by kernel_rfl) (by simp) ?_
    refine AllReady.cons rfl (fun K hK => ?_) (AllReady.cons rfl (fun K hK => ?_) AllReady.nil)
    · go_simp
      refine hK _ _ ?_
      clear hK K
      refine wpAny_ready (rs := [5]) (by kernel_rfl) (by simp) ?_
      refine AllReady.cons rfl (fun K hK => ?_) AllReady.nil
      · go_simp
        refine hK _ _ ?_
        clear hK K
        refine wpAny_ready (rs := [7]) (by kernel_rfl) (by simp) ?_
        refine AllReady.cons rfl (fun K hK => ?_) AllReady.nil
        · go_simp
          refine HC.out.mono ?_
          rintro e w4 h4
          unfold ButPost at h4
          rw [if_pos hh] at h4
          obtain ⟨hb, b, h5, h6, rfl⟩ := h4
          dsimp only
          exact ⟨rfl, hb1.trans (hb.mono hb1.size), b, Nat.le_trans hb1.size h5, h6, rfl⟩
    · go_simp
      refine hK _ _ ?_
      clear hK K
      refine wpAny_ready (rs := [1, 7]) (by kernel_rfl) (by simp) ?_
      refine AllReady.cons rfl (fun K hK => ?_) (AllReady.cons rfl (fun K hK => ?_) AllReady.nil)
      · go_simp
        refine hK _ _ ?_
        clear hK K
        refine wpAny_ready (rs := [7]) (by kernel_rfl) (by simp) ?_
        refine AllReady.cons rfl (fun K hK => ?_) AllReady.nil
        · go_simp
          refine HC.out.mono ?_
          rintro e w4 h4
          unfold ButPost at h4
          rw [if_pos hh] at h4
          obtain ⟨hb, b, h5, h6, rfl⟩ := h4
          dsimp only
          exact ⟨rfl, hb1.trans (hb.mono hb1.size), b, Nat.le_trans hb1.size h5, h6, rfl⟩
      · go_simp
        refine HC.out.mono ?_
        rintro e w4 h4
        unfold ButPost at h4
        rw [if_pos hh] at h4
        obtain ⟨hb, b, h5, h6, rfl⟩ := h4
        dsimp only
        exact ⟨rfl, hb1.trans (hb.mono hb1.size), b, Nat.le_trans hb1.size h5, h6, rfl⟩
set_option maxRecDepth 100000 in
set_option maxHeartbeats 1600000 in
theorem leavePlace_twice (num : Int) (dep : Nat) (a : Option Addr) (n c : Nat) (k u g cap : Nat) (G : DraftG w0 w db ⟨some ⟨g, 0, none⟩, X.length, cap⟩ pv ov mb tm X SP O PT nm D) (hk : k < O.length) (hd : dep = k + 1) (hO : O.length ≤ 1073741824) (hku : O[k] = u) (hu : u < X.length) (hh : ¬ Pro.kindOf X[u].s ∈ ([3, 4] : List Int)) (h2 : 0 < X[u].vl.n) :
    Calls Tryz.prog 371 #[.agg #[.int .i64 num, .int .i64 dep, .slice a n c], .pointer (some ⟨db, 0, none⟩)] w (Refused 3 num w) := by
  have hdl := G.dlt
  have hb1 : Below w.heap.size w (((w.alloc (.cells #[.int .i64 num, .int .i64 dep, .slice a n c] 388)).drew).alloc (.cells #[.int .i64 3, .int .i64 4] 238)) := ((Below.refl _ _).alloc (Nat.le_refl _) _).drew.alloc (by simp) _
  have hkb : (((w.alloc (.cells #[.int .i64 num, .int .i64 dep, .slice a n c] 388)).drew).alloc (.cells #[.int .i64 3, .int .i64 4] 238)).heap[w.heap.size + 1]? = some (.cells (([3, 4] : List Int).map (Value.int .i64)).toArray 238 (0, 0)) := by
    have := heap_alloc_new ((w.alloc (.cells #[.int .i64 num, .int .i64 dep, .slice a n c] 388)).drew) (.cells #[.int .i64 3, .int .i64 4] 238)
    simpa using this
  have HC : Hid (Calls Tryz.prog 367 #[.pointer (some ⟨db, 0, none⟩), .agg #[.int .i64 num, .int .i64 dep], .slice (some ⟨w.heap.size + 1, 0, none⟩) 2 2] (((w.alloc (.cells #[.int .i64 num, .int .i64 dep, .slice a n c] 388)).drew).alloc (.cells #[.int .i64 3, .int .i64 4] 238)) (ButPost num (Pro.kindOf X[u].s) [3, 4] ⟨g, u * 8, none⟩ (((w.alloc (.cells #[.int .i64 num, .int .i64 dep, .slice a n c] 388)).drew).alloc (.cells #[.int .i64 3, .int .i64 4] 238)))) := ownerBut_some num dep k u [3, 4] (w.heap.size + 1) g cap (G.keep hb1) hk hd hO hku hu hkb (by decide)
  obtain ⟨hcap, hgl, hg0⟩ := G.capS
  have hrng := G.row8 hu
  have hfz : w.frozen? ⟨g, u * 8 + 6, none⟩ = false := World.ownsRow.frozenAt (own_mono G.states (Nat.zero_le _)) _
  have cv : w.cell? ⟨g, u * 8 + 6, none⟩ = some (.slice X[u].vl.a X[u].vl.n X[u].vl.c) := hrng 6 _ rfl
  have hlw : w.heap.size < (((w.alloc (.cells #[.int .i64 num, .int .i64 dep, .slice a n c] 388)).drew).alloc (.cells #[.int .i64 3, .int .i64 4] 238)).heap.size := by simp; omega
  have HF : Hid (∀ w4, Below (((w.alloc (.cells #[.int .i64 num, .int .i64 dep, .slice a n c] 388)).drew).alloc (.cells #[.int .i64 3, .int .i64 4] 238)).heap.size (((w.alloc (.cells #[.int .i64 num, .int .i64 dep, .slice a n c] 388)).drew).alloc (.cells #[.int .i64 3, .int .i64 4] 238)) w4 → w4.cell? ⟨g, u * 8 + 6, none⟩ = some (.slice X[u].vl.a X[u].vl.n X[u].vl.c) ∧ w4.frozen? ⟨g, u * 8 + 6, none⟩ = false ∧ w4.cell? ⟨w.heap.size, 0, none⟩ = some (.int .i64 num) ∧ w4.cell? ⟨w.heap.size, 1, none⟩ = some (.int .i64 dep) ∧ w4.cell? ⟨w.heap.size, 2, none⟩ = some (.slice a n c)) := by
    intro w4 hb4
    have hbg := (hb1.trans (hb4.mono hb1.size)).block g hgl
    have hbw : w4.heap[w.heap.size]? = some (.cells #[.int .i64 num, .int .i64 dep, .slice a n c] 388 (0, 0)) := by
      rw [hb4.block w.heap.size hlw, Below.heap_alloc _ _ _ (by simp)]
      exact heap_alloc_new w _
    refine ⟨(World.cell?_of_block hbg).trans cv, (World.frozen?_of_block hbg).trans hfz, ?_, ?_, ?_⟩ <;> rw [cell_of_row w4 _ _ _ _ _ hbw] <;> rfl
  clear cv hfz hrng
  clear hd hku hk hO hkb
  go_enter Tryz.func371, Tryz.ntmps371
  go_upto_region 1 with fail
  refine wp_region_any (by kernel_rfl) ?_
  change wpAny _ _ _ _ _ _ _ (World.drew _)
  refine wpAny_take (i := 0) (v := .pointer (some ⟨w.heap.size, 0, none⟩)) rfl (by kernel_rfl) (by kernel_rfl) (by kernel_rfl) (fun _ _ _ h => h) (Or.inl ⟨by rfl, fun w => by go_simp⟩) ?_
  refine wpAny_take (i := 2) (v := .pointer (some ⟨db, 0, none⟩)) rfl (by kernel_rfl) (by kernel_rfl) (by kernel_rfl) (fun _ _ _ h => h) (Or.inl ⟨by rfl, fun w => by go_simp⟩) ?_
  refine wpAny_take (i := 3) (v := .pointer (some ⟨w.heap.size, 0, none⟩)) rfl (by kernel_rfl) (by kernel_rfl) (by kernel_rfl) (fun _ _ _ h => h) (Or.inl ⟨by rfl, fun w => by go_simp⟩) ?_
  refine wpAny_take (i := 4) (v := .pointer (some ⟨w.heap.size, 0, none⟩)) rfl (by kernel_rfl) (by kernel_rfl) (by kernel_rfl) (fun _ _ _ h => h) (Or.inl ⟨by rfl, fun w => by go_simp⟩) ?_
  refine wpAny_ready (rs := [1, 5, 6]) (by kernel_rfl) (by simp) ?_
  refine AllReady.cons rfl (fun K hK => ?_) (AllReady.cons rfl (fun K hK => ?_) (AllReady.cons rfl (fun K hK => ?_) AllReady.nil))
  · go_simp
    refine hK _ _ ?_
    clear hK K
    refine wpAny_ready (rs := [5, 6]) (by kernel_rfl) (by simp) ?_
    refine AllReady.cons rfl (fun K hK => ?_) (AllReady.cons rfl (fun K hK => ?_) AllReady.nil)
    · go_simp
      refine hK _ _ ?_
      clear hK K
      refine wpAny_ready (rs := [6]) (by kernel_rfl) (by simp) ?_
      refine AllReady.cons rfl (fun K hK => ?_) AllReady.nil
      · go_simp
        refine hK _ _ ?_
        clear hK K
        refine wpAny_ready (rs := [7]) (by kernel_rfl) (by simp) ?_
        refine AllReady.cons rfl (fun K hK => ?_) AllReady.nil
        · go_simp
          refine HC.out.mono ?_
          rintro e w4 h4
          unfold ButPost at h4
          rw [if_neg hh] at h4
          obtain ⟨rfl, hb4⟩ := h4
          obtain ⟨cx, fx, q0, q1, q2⟩ := HF.out w4 hb4
          dsimp only
          refine hK _ _ ?_
          clear hK K
          refine wpAny_take (i := 8) (v := .pointer (some ⟨g, u * 8, none⟩)) rfl (by kernel_rfl) (by kernel_rfl) (by kernel_rfl) (fun _ _ _ h => h) (Or.inl ⟨by rfl, fun w => by go_simp⟩) ?_
          refine wpAny_take (i := 9) (v := .pointer (some ⟨g, u * 8 + 6, none⟩)) rfl (by kernel_rfl) (by kernel_rfl) (by kernel_rfl) (fun _ _ _ h => h) (Or.inl ⟨by rfl, fun w => by go_simp⟩) ?_
          refine wpAny_ready (rs := [10]) (by kernel_rfl) (by simp) ?_
          refine AllReady.cons rfl (fun K hK => ?_) AllReady.nil
          go_simp
          refine (putInto_no num dep a n c g (u * 8 + 6) _ _ _ cx h2).mono ?_
          rintro e w5 ⟨hb, b, h5, h6, rfl⟩
          dsimp only
          exact ⟨rfl, (hb1.trans (hb4.mono hb1.size)).trans (hb.mono (Nat.le_trans hb1.size hb4.size)), b, Nat.le_trans (Nat.le_trans hb1.size hb4.size) h5, h6, rfl⟩
    · go_simp
      refine hK _ _ ?_
      clear hK K
      refine wpAny_ready (rs := [5]) (by kernel_rfl) (by simp) ?_
      refine AllReady.cons rfl (fun K hK => ?_) AllReady.nil
      · go_simp
        refine hK _ _ ?_
        clear hK K
        refine wpAny_ready (rs := [7]) (by kernel_rfl) (by simp) ?_
        refine AllReady.cons rfl (fun K hK => ?_) AllReady.nil
        · go_simp
          refine HC.out.mono ?_
          rintro e w4 h4
          unfold ButPost at h4
          rw [if_neg hh] at h4
          obtain ⟨rfl, hb4⟩ := h4
          obtain ⟨cx, fx, q0, q1, q2⟩ := HF.out w4 hb4
          dsimp only
          refine hK _ _ ?_
          clear hK K
          refine wpAny_take (i := 8) (v := .pointer (some ⟨g, u * 8, none⟩)) rfl (by kernel_rfl) (by kernel_rfl) (by kernel_rfl) (fun _ _ _ h => h) (Or.inl ⟨by rfl, fun w => by go_simp⟩) ?_
          refine wpAny_take (i := 9) (v := .pointer (some ⟨g, u * 8 + 6, none⟩)) rfl (by kernel_rfl) (by kernel_rfl) (by kernel_rfl) (fun _ _ _ h => h) (Or.inl ⟨by rfl, fun w => by go_simp⟩) ?_
          refine wpAny_ready (rs := [10]) (by kernel_rfl) (by simp) ?_
          refine AllReady.cons rfl (fun K hK => ?_) AllReady.nil
          go_simp
          refine (putInto_no num dep a n c g (u * 8 + 6) _ _ _ cx h2).mono ?_
          rintro e w5 ⟨hb, b, h5, h6, rfl⟩
          dsimp only
          exact ⟨rfl, (hb1.trans (hb4.mono hb1.size)).trans (hb.mono (Nat.le_trans hb1.size hb4.size)), b, Nat.le_trans (Nat.le_trans hb1.size hb4.size) h5, h6, rfl⟩
  · go_simp
    refine hK _ _ ?_
    clear hK K
    refine wpAny_ready (rs := [1, 6]) (by kernel_rfl) (by simp) ?_
    refine AllReady.cons rfl (fun K hK => ?_) (AllReady.cons rfl (fun K hK => ?_) AllReady.nil)
    · go_simp
      refine hK _ _ ?_
      clear hK K
      refine wpAny_ready (rs := [6]) (by kernel_rfl) (by simp) ?_
      refine AllReady.cons rfl (fun K hK => ?_) AllReady.nil
      · go_simp
        refine hK _ _ ?_
        clear hK K
        refine wpAny_ready (rs := [7]) (by kernel_rfl) (by simp) ?_
        refine AllReady.cons rfl (fun K hK => ?_) AllReady.nil
        · go_simp
          refine HC.out.mono ?_
          rintro e w4 h4
          unfold ButPost at h4
          rw [if_neg hh] at h4
          obtain ⟨rfl, hb4⟩ := h4
          obtain ⟨cx, fx, q0, q1, q2⟩ := HF.out w4 hb4
          dsimp only
          refine hK _ _ ?_
          clear hK K
          refine wpAny_take (i := 8) (v := .pointer (some ⟨g, u * 8, none⟩)) rfl (by kernel_rfl) (by kernel_rfl) (by kernel_rfl) (fun _ _ _ h => h) (Or.inl ⟨by rfl, fun w => by go_simp⟩) ?_
          refine wpAny_take (i := 9) (v := .pointer (some ⟨g, u * 8 + 6, none⟩)) rfl (by kernel_rfl) (by kernel_rfl) (by kernel_rfl) (fun _ _ _ h => h) (Or.inl ⟨by rfl, fun w => by go_simp⟩) ?_
          refine wpAny_ready (rs := [10]) (by kernel_rfl) (by simp) ?_
          refine AllReady.cons rfl (fun K hK => ?_) AllReady.nil
          go_simp
          refine (putInto_no num dep a n c g (u * 8 + 6) _ _ _ cx h2).mono ?_
          rintro e w5 ⟨hb, b, h5, h6, rfl⟩
          dsimp only
          exact ⟨rfl, (hb1.trans (hb4.mono hb1.size)).trans (hb.mono (Nat.le_trans hb1.size hb4.size)), b, Nat.le_trans (Nat.le_trans hb1.size hb4.size) h5, h6, rfl⟩
    · go_simp
      refine hK _ _ ?_
      clear hK K
      refine wpAny_ready (rs := [1, 7]) (by kernel_rfl) (by simp) ?_
      refine AllReady.cons rfl (fun K hK => ?_) (AllReady.cons rfl (fun K hK => ?_) AllReady.nil)
      · go_simp
        refine hK _ _ ?_
        clear hK K
        refine wpAny_ready (rs := [7]) (by kernel_rfl) (by simp) ?_
        refine AllReady.cons rfl (fun K hK => ?_) AllReady.nil
        · go_simp
          refine HC.out.mono ?_
          rintro e w4 h4
          unfold ButPost at h4
          rw [if_neg hh] at h4
          obtain ⟨rfl, hb4⟩ := h4
          obtain ⟨cx, fx, q0, q1, q2⟩ := HF.out w4 hb4
          dsimp only
          refine hK _ _ ?_
          clear hK K
          refine wpAny_take (i := 8) (v := .pointer (some ⟨g, u * 8, none⟩)) rfl (by kernel_rfl) (by kernel_rfl) (by kernel_rfl) (fun _ _ _ h => h) (Or.inl ⟨by rfl, fun w => by go_simp⟩) ?_
          refine wpAny_take (i := 9) (v := .pointer (some ⟨g, u * 8 + 6, none⟩)) rfl (by kernel_rfl) (by kernel_rfl) (by kernel_rfl) (fun _ _ _ h => h) (Or.inl ⟨by rfl, fun w => by go_simp⟩) ?_
          refine wpAny_ready (rs := [10]) (by kernel_rfl) (by simp) ?_
          refine AllReady.cons rfl (fun K hK => ?_) AllReady.nil
          go_simp
          refine (putInto_no num dep a n c g (u * 8 + 6) _ _ _ cx h2).mono ?_
          rintro e w5 ⟨hb, b, h5, h6, rfl⟩
          dsimp only
          exact ⟨rfl, (hb1.trans (hb4.mono hb1.size)).trans (hb.mono (Nat.le_trans hb1.size hb4.size)), b, Nat.le_trans (Nat.le_trans hb1.size hb4.size) h5, h6, rfl⟩
      · go_simp
        refine HC.out.mono ?_
        rintro e w4 h4
        unfold ButPost at h4
        rw [if_neg hh] at h4
        obtain ⟨rfl, hb4⟩ := h4
        obtain ⟨cx, fx, q0, q1, q2⟩ := HF.out w4 hb4
        dsimp only
        refine hK _ _ ?_
        clear hK K
        refine wpAny_take (i := 8) (v := .pointer (some ⟨g, u * 8, none⟩)) rfl (by kernel_rfl) (by kernel_rfl) (by kernel_rfl) (fun _ _ _ h => h) (Or.inl ⟨by rfl, fun w => by go_simp⟩) ?_
        refine wpAny_take (i := 9) (v := .pointer (some ⟨g, u * 8 + 6, none⟩)) rfl (by kernel_rfl) (by kernel_rfl) (by kernel_rfl) (fun _ _ _ h => h) (Or.inl ⟨by rfl, fun w => by go_simp⟩) ?_
        refine wpAny_ready (rs := [1]) (by kernel_rfl) (by simp) ?_
        refine AllReady.cons rfl (fun K hK => ?_) AllReady.nil
        go_simp
        refine hK _ _ ?_
        clear hK K
        refine wpAny_ready (rs := [10]) (by kernel_rfl) (by simp) ?_
        refine AllReady.cons rfl (fun K hK => ?_) AllReady.nil
        go_simp
        refine (putInto_no num dep a n c g (u * 8 + 6) _ _ _ cx h2).mono ?_
        rintro e w5 ⟨hb, b, h5, h6, rfl⟩
        dsimp only
        exact ⟨rfl, (hb1.trans (hb4.mono hb1.size)).trans (hb.mono (Nat.le_trans hb1.size hb4.size)), b, Nat.le_trans (Nat.le_trans hb1.size hb4.size) h5, h6, rfl⟩
  · go_simp
    refine hK _ _ ?_
    clear hK K
    refine wpAny_ready (rs := [1, 5]) (by kernel_rfl) (by simp) ?_
    refine AllReady.cons rfl (fun K hK => ?_) (AllReady.cons rfl (fun K hK => ?_) AllReady.nil)
    · go_simp
      refine hK _ _ ?_
      clear hK K
      refine wpAny_ready (rs := [5]) (by kernel_rfl) (by simp) ?_
      refine AllReady.cons rfl (fun K hK => ?_) AllReady.nil
      · go_simp
        refine hK _ _ ?_
        clear hK K
        refine wpAny_ready (rs := [7]) (by kernel_rfl) (by simp) ?_
        refine AllReady.cons rfl (fun K hK => ?_) AllReady.nil
        · go_simp
          refine HC.out.mono ?_
          rintro e w4 h4
          unfold ButPost at h4
          rw [if_neg hh] at h4
          obtain ⟨rfl, hb4⟩ := h4
          obtain ⟨cx, fx, q0, q1, q2⟩ := HF.out w4 hb4
          dsimp only
          refine hK _ _ ?_
          clear hK K
          refine wpAny_take (i := 8) (v := .pointer (some ⟨g, u * 8, none⟩)) rfl (by kernel_rfl) (by kernel_rfl) (by kernel_rfl) (fun _ _ _ h => h) (Or.inl ⟨by rfl, fun w => by go_simp⟩) ?_
          refine wpAny_take (i := 9) (v := .pointer (some ⟨g, u * 8 + 6, none⟩)) rfl (by kernel_rfl) (by kernel_rfl) (by kernel_rfl) (fun _ _ _ h => h) (Or.inl ⟨by rfl, fun w => by go_simp⟩) ?_
          refine wpAny_ready (rs := [10]) (by kernel_rfl) (by simp) ?_
          refine AllReady.cons rfl (fun K hK => ?_) AllReady.nil
          go_simp
          refine (putInto_no num dep a n c g (u * 8 + 6) _ _ _ cx h2).mono ?_
          rintro e w5 ⟨hb, b, h5, h6, rfl⟩
          dsimp only
          exact ⟨rfl, (hb1.trans (hb4.mono hb1.size)).trans (hb.mono (Nat.le_trans hb1.size hb4.size)), b, Nat.le_trans (Nat.le_trans hb1.size hb4.size) h5, h6, rfl⟩
    · go_simp
      refine hK _ _ ?_
      clear hK K
      refine wpAny_ready (rs := [1, 7]) (by kernel_rfl) (by simp) ?_
      refine AllReady.cons rfl (fun K hK => ?_) (AllReady.cons rfl (fun K hK => ?_) AllReady.nil)
      · go_simp
        refine hK _ _ ?_
        clear hK K
        refine wpAny_ready (rs := [7]) (by kernel_rfl) (by simp) ?_
        refine AllReady.cons rfl (fun K hK => ?_) AllReady.nil
        · go_simp
          refine HC.out.mono ?_
          rintro e w4 h4
          unfold ButPost at h4
          rw [if_neg hh] at h4
          obtain ⟨rfl, hb4⟩ := h4
          obtain ⟨cx, fx, q0, q1, q2⟩ := HF.out w4 hb4
          dsimp only
          refine hK _ _ ?_
          clear hK K
          refine wpAny_take (i := 8) (v := .pointer (some ⟨g, u * 8, none⟩)) rfl (by kernel_rfl) (by kernel_rfl) (by kernel_rfl) (fun _ _ _ h => h) (Or.inl ⟨by rfl, fun w => by go_simp⟩) ?_
          refine wpAny_take (i := 9) (v := .pointer (some ⟨g, u * 8 + 6, none⟩)) rfl (by kernel_rfl) (by kernel_rfl) (by kernel_rfl) (fun _ _ _ h => h) (Or.inl ⟨by rfl, fun w => by go_simp⟩) ?_
          refine wpAny_ready (rs := [10]) (by kernel_rfl) (by simp) ?_
          refine AllReady.cons rfl (fun K hK => ?_) AllReady.nil
          go_simp
          refine (putInto_no num dep a n c g (u * 8 + 6) _ _ _ cx h2).mono ?_
          rintro e w5 ⟨hb, b, h5, h6, rfl⟩
          dsimp only
          exact ⟨rfl, (hb1.trans (hb4.mono hb1.size)).trans (hb.mono (Nat.le_trans hb1.size hb4.size)), b, Nat.le_trans (Nat.le_trans hb1.size hb4.size) h5, h6, rfl⟩
      · go_simp
        refine HC.out.mono ?_
        rintro e w4 h4
        unfold ButPost at h4
        rw [if_neg hh] at h4
        obtain ⟨rfl, hb4⟩ := h4
        obtain ⟨cx, fx, q0, q1, q2⟩ := HF.out w4 hb4
        dsimp only
        refine hK _ _ ?_
        clear hK K
        refine wpAny_take (i := 8) (v := .pointer (some ⟨g, u * 8, none⟩)) rfl (by kernel_rfl) (by kernel_rfl) (by kernel_rfl) (fun _ _ _ h => h) (Or.inl ⟨by rfl, fun w => by go_simp⟩) ?_
        refine wpAny_take (i := 9) (v := .pointer (some ⟨g, u * 8 + 6, none⟩)) rfl (by kernel_rfl) (by kernel_rfl) (by kernel_rfl) (fun _ _ _ h => h) (Or.inl ⟨by rfl, fun w => by go_simp⟩) ?_
        refine wpAny_ready (rs := [1]) (by kernel_rfl) (by simp) ?_
        refine AllReady.cons rfl (fun K hK => ?_) AllReady.nil
        go_simp
        refine hK _ _ ?_
        clear hK K
        refine wpAny_ready (rs := [10]) (by kernel_rfl) (by simp) ?_
        refine AllReady.cons rfl (fun K hK => ?_) AllReady.nil
        go_simp
        refine (putInto_no num dep a n c g (u * 8 + 6) _ _ _ cx h2).mono ?_
        rintro e w5 ⟨hb, b, h5, h6, rfl⟩
        dsimp only
        exact ⟨rfl, (hb1.trans (hb4.mono hb1.size)).trans (hb.mono (Nat.le_trans hb1.size hb4.size)), b, Nat.le_trans (Nat.le_trans hb1.size hb4.size) h5, h6, rfl⟩
set_option maxRecDepth 100000 in
set_option maxHeartbeats 1600000 in
theorem leavePlace_yes (num : Int) (dep : Nat) (a : Option Addr) (n c : Nat) (k u g cap : Nat) (G : DraftG w0 w db ⟨some ⟨g, 0, none⟩, X.length, cap⟩ pv ov mb tm X SP O PT nm D) (hk : k < O.length) (hd : dep = k + 1) (hO : O.length ≤ 1073741824) (hku : O[k] = u) (hu : u < X.length) (hh : ¬ Pro.kindOf X[u].s ∈ ([3, 4] : List Int)) (h2 : X[u].vl.n = 0) (A : List Ref.Act) (hA : w0.ownsRow 0 324 1 (.slice a n c) A.length (A.map actV)) :
    Calls Tryz.prog 371 #[.agg #[.int .i64 num, .int .i64 dep, .slice a n c], .pointer (some ⟨db, 0, none⟩)] w fun e w' => e = .returned (.tuple #[]) ∧ DraftG w0 w' db ⟨some ⟨g, 0, none⟩, X.length, cap⟩ pv ov mb tm (X.set u (Pro.leaveTo X[u] num A ⟨a, n, c⟩)) SP O PT nm D := by
  have hdl := G.dlt
  have hb1 : Below w.heap.size w (((w.alloc (.cells #[.int .i64 num, .int .i64 dep, .slice a n c] 388)).drew).alloc (.cells #[.int .i64 3, .int .i64 4] 238)) := ((Below.refl _ _).alloc (Nat.le_refl _) _).drew.alloc (by simp) _
  have hkb : (((w.alloc (.cells #[.int .i64 num, .int .i64 dep, .slice a n c] 388)).drew).alloc (.cells #[.int .i64 3, .int .i64 4] 238)).heap[w.heap.size + 1]? = some (.cells (([3, 4] : List Int).map (Value.int .i64)).toArray 238 (0, 0)) := by
    have := heap_alloc_new ((w.alloc (.cells #[.int .i64 num, .int .i64 dep, .slice a n c] 388)).drew) (.cells #[.int .i64 3, .int .i64 4] 238)
    simpa using this
  have HC : Hid (Calls Tryz.prog 367 #[.pointer (some ⟨db, 0, none⟩), .agg #[.int .i64 num, .int .i64 dep], .slice (some ⟨w.heap.size + 1, 0, none⟩) 2 2] (((w.alloc (.cells #[.int .i64 num, .int .i64 dep, .slice a n c] 388)).drew).alloc (.cells #[.int .i64 3, .int .i64 4] 238)) (ButPost num (Pro.kindOf X[u].s) [3, 4] ⟨g, u * 8, none⟩ (((w.alloc (.cells #[.int .i64 num, .int .i64 dep, .slice a n c] 388)).drew).alloc (.cells #[.int .i64 3, .int .i64 4] 238)))) := ownerBut_some num dep k u [3, 4] (w.heap.size + 1) g cap (G.keep hb1) hk hd hO hku hu hkb (by decide)
  obtain ⟨hcap, hgl, hg0⟩ := G.capS
  have hrng := G.row8 hu
  have hfz : w.frozen? ⟨g, u * 8 + 6, none⟩ = false := World.ownsRow.frozenAt (own_mono G.states (Nat.zero_le _)) _
  have cv : w.cell? ⟨g, u * 8 + 6, none⟩ = some (.slice X[u].vl.a X[u].vl.n X[u].vl.c) := hrng 6 _ rfl
  have hlw : w.heap.size < (((w.alloc (.cells #[.int .i64 num, .int .i64 dep, .slice a n c] 388)).drew).alloc (.cells #[.int .i64 3, .int .i64 4] 238)).heap.size := by simp; omega
  have HF : Hid (∀ w4, Below (((w.alloc (.cells #[.int .i64 num, .int .i64 dep, .slice a n c] 388)).drew).alloc (.cells #[.int .i64 3, .int .i64 4] 238)).heap.size (((w.alloc (.cells #[.int .i64 num, .int .i64 dep, .slice a n c] 388)).drew).alloc (.cells #[.int .i64 3, .int .i64 4] 238)) w4 → w4.cell? ⟨g, u * 8 + 6, none⟩ = some (.slice X[u].vl.a X[u].vl.n X[u].vl.c) ∧ w4.frozen? ⟨g, u * 8 + 6, none⟩ = false ∧ w4.cell? ⟨w.heap.size, 0, none⟩ = some (.int .i64 num) ∧ w4.cell? ⟨w.heap.size, 1, none⟩ = some (.int .i64 dep) ∧ w4.cell? ⟨w.heap.size, 2, none⟩ = some (.slice a n c)) := by
    intro w4 hb4
    have hbg := (hb1.trans (hb4.mono hb1.size)).block g hgl
    have hbw : w4.heap[w.heap.size]? = some (.cells #[.int .i64 num, .int .i64 dep, .slice a n c] 388 (0, 0)) := by
      rw [hb4.block w.heap.size hlw, Below.heap_alloc _ _ _ (by simp)]
      exact heap_alloc_new w _
    refine ⟨(World.cell?_of_block hbg).trans cv, (World.frozen?_of_block hbg).trans hfz, ?_, ?_, ?_⟩ <;> rw [cell_of_row w4 _ _ _ _ _ hbw] <;> rfl
  have HG : Hid (∀ w4 w5, Below (((w.alloc (.cells #[.int .i64 num, .int .i64 dep, .slice a n c] 388)).drew).alloc (.cells #[.int .i64 3, .int .i64 4] 238)).heap.size (((w.alloc (.cells #[.int .i64 num, .int .i64 dep, .slice a n c] 388)).drew).alloc (.cells #[.int .i64 3, .int .i64 4] 238)) w4 → Below w4.heap.size (w4.setCell ⟨g, u * 8 + 6, none⟩ (.slice a n c)) w5 → DraftG w0 w5 db ⟨some ⟨g, 0, none⟩, X.length, cap⟩ pv ov mb tm (X.set u (Pro.leaveTo X[u] num A ⟨a, n, c⟩)) SP O PT nm D) := by
    intro w4 w5 hb4 hb5
    have hw4 := hb1.trans (hb4.mono hb1.size)
    have h := G.setActs (v' := ⟨a, n, c⟩) (x' := Pro.leaveTo X[u] num A ⟨a, n, c⟩) (j := 6) hw4 hu (by decide) rfl rfl rfl rfl (G.deep u hu).enter hA
    exact h.keep (hb5.mono (by simp))
  rw [h2] at HF
  clear cv hfz hrng h2
  clear hd hku hk hO hkb
  go_enter Tryz.func371, Tryz.ntmps371
  go_upto_region 1 with fail
  refine wp_region_any (by kernel_rfl) ?_
  change wpAny _ _ _ _ _ _ _ (World.drew _)
  refine wpAny_take (i := 0) (v := .pointer (some ⟨w.heap.size, 0, none⟩)) rfl (by kernel_rfl) (by kernel_rfl) (by kernel_rfl) (fun _ _ _ h => h) (Or.inl ⟨by rfl, fun w => by go_simp⟩) ?_
  refine wpAny_take (i := 2) (v := .pointer (some ⟨db, 0, none⟩)) rfl (by kernel_rfl) (by kernel_rfl) (by kernel_rfl) (fun _ _ _ h => h) (Or.inl ⟨by rfl, fun w => by go_simp⟩) ?_
  refine wpAny_take (i := 3) (v := .pointer (some ⟨w.heap.size, 0, none⟩)) rfl (by kernel_rfl) (by kernel_rfl) (by kernel_rfl) (fun _ _ _ h => h) (Or.inl ⟨by rfl, fun w => by go_simp⟩) ?_
  refine wpAny_take (i := 4) (v := .pointer (some ⟨w.heap.size, 0, none⟩)) rfl (by kernel_rfl) (by kernel_rfl) (by kernel_rfl) (fun _ _ _ h => h) (Or.inl ⟨by rfl, fun w => by go_simp⟩) ?_
  refine wpAny_ready (rs := [1, 5, 6]) (by kernel_rfl) (by simp) ?_
  refine AllReady.cons rfl (fun K hK => ?_) (AllReady.cons rfl (fun K hK => ?_) (AllReady.cons rfl (fun K hK => ?_) AllReady.nil))
  · go_simp
    refine hK _ _ ?_
    clear hK K
    refine wpAny_ready (rs := [5, 6]) (by kernel_rfl) (by simp) ?_
    refine AllReady.cons rfl (fun K hK => ?_) (AllReady.cons rfl (fun K hK => ?_) AllReady.nil)
    · go_simp
      refine hK _ _ ?_
      clear hK K
      refine wpAny_ready (rs := [6]) (by kernel_rfl) (by simp) ?_
      refine AllReady.cons rfl (fun K hK => ?_) AllReady.nil
      · go_simp
        refine hK _ _ ?_
        clear hK K
        refine wpAny_ready (rs := [7]) (by kernel_rfl) (by simp) ?_
        refine AllReady.cons rfl (fun K hK => ?_) AllReady.nil
        · go_simp
          refine HC.out.mono ?_
          rintro e w4 h4
          unfold ButPost at h4
          rw [if_neg hh] at h4
          obtain ⟨rfl, hb4⟩ := h4
          obtain ⟨cx, fx, q0, q1, q2⟩ := HF.out w4 hb4
          dsimp only
          refine hK _ _ ?_
          clear hK K
          refine wpAny_take (i := 8) (v := .pointer (some ⟨g, u * 8, none⟩)) rfl (by kernel_rfl) (by kernel_rfl) (by kernel_rfl) (fun _ _ _ h => h) (Or.inl ⟨by rfl, fun w => by go_simp⟩) ?_
          refine wpAny_take (i := 9) (v := .pointer (some ⟨g, u * 8 + 6, none⟩)) rfl (by kernel_rfl) (by kernel_rfl) (by kernel_rfl) (fun _ _ _ h => h) (Or.inl ⟨by rfl, fun w => by go_simp⟩) ?_
          refine wpAny_ready (rs := [10]) (by kernel_rfl) (by simp) ?_
          refine AllReady.cons rfl (fun K hK => ?_) AllReady.nil
          go_simp
          refine (putInto_yes num dep a n c g (u * 8 + 6) _ _ cx fx).mono ?_
          rintro e w5 ⟨rfl, hb5⟩
          have G5 := HG.out w4 w5 hb4 hb5
          dsimp only
          refine hK _ _ ?_
          clear hK K
          refine wpAny_done (by kernel_rfl) ?_ _
          go_wp2
          go_end0
          exact ⟨rfl, G5⟩
    · go_simp
      refine hK _ _ ?_
      clear hK K
      refine wpAny_ready (rs := [5]) (by kernel_rfl) (by simp) ?_
      refine AllReady.cons rfl (fun K hK => ?_) AllReady.nil
      · go_simp
        refine hK _ _ ?_
        clear hK K
        refine wpAny_ready (rs := [7]) (by kernel_rfl) (by simp) ?_
        refine AllReady.cons rfl (fun K hK => ?_) AllReady.nil
        · go_simp
          refine HC.out.mono ?_
          rintro e w4 h4
          unfold ButPost at h4
          rw [if_neg hh] at h4
          obtain ⟨rfl, hb4⟩ := h4
          obtain ⟨cx, fx, q0, q1, q2⟩ := HF.out w4 hb4
          dsimp only
          refine hK _ _ ?_
          clear hK K
          refine wpAny_take (i := 8) (v := .pointer (some ⟨g, u * 8, none⟩)) rfl (by kernel_rfl) (by kernel_rfl) (by kernel_rfl) (fun _ _ _ h => h) (Or.inl ⟨by rfl, fun w => by go_simp⟩) ?_
          refine wpAny_take (i := 9) (v := .pointer (some ⟨g, u * 8 + 6, none⟩)) rfl (by kernel_rfl) (by kernel_rfl) (by kernel_rfl) (fun _ _ _ h => h) (Or.inl ⟨by rfl, fun w => by go_simp⟩) ?_
          refine wpAny_ready (rs := [10]) (by kernel_rfl) (by simp) ?_
          refine AllReady.cons rfl (fun K hK => ?_) AllReady.nil
          go_simp
          refine (putInto_yes num dep a n c g (u * 8 + 6) _ _ cx fx).mono ?_
          rintro e w5 ⟨rfl, hb5⟩
          have G5 := HG.out w4 w5 hb4 hb5
          dsimp only
          refine hK _ _ ?_
          clear hK K
          refine wpAny_done (by kernel_rfl) ?_ _
          go_wp2
          go_end0
          exact ⟨rfl, G5⟩
  · go_simp
    refine hK _ _ ?_
    clear hK K
    refine wpAny_ready (rs := [1, 6]) (by kernel_rfl) (by simp) ?_
    refine AllReady.cons rfl (fun K hK => ?_) (AllReady.cons rfl (fun K hK => ?_) AllReady.nil)
    · go_simp
      refine hK _ _ ?_
      clear hK K
      refine wpAny_ready (rs := [6]) (by kernel_rfl) (by simp) ?_
      refine AllReady.cons rfl (fun K hK => ?_) AllReady.nil
      · go_simp
        refine hK _ _ ?_
        clear hK K
        refine wpAny_ready (rs := [7]) (by kernel_rfl) (by simp) ?_
        refine AllReady.cons rfl (fun K hK => ?_) AllReady.nil
        · go_simp
          refine HC.out.mono ?_
          rintro e w4 h4
          unfold ButPost at h4
          rw [if_neg hh] at h4
          obtain ⟨rfl, hb4⟩ := h4
          obtain ⟨cx, fx, q0, q1, q2⟩ := HF.out w4 hb4
          dsimp only
          refine hK _ _ ?_
          clear hK K
          refine wpAny_take (i := 8) (v := .pointer (some ⟨g, u * 8, none⟩)) rfl (by kernel_rfl) (by kernel_rfl) (by kernel_rfl) (fun _ _ _ h => h) (Or.inl ⟨by rfl, fun w => by go_simp⟩) ?_
          refine wpAny_take (i := 9) (v := .pointer (some ⟨g, u * 8 + 6, none⟩)) rfl (by kernel_rfl) (by kernel_rfl) (by kernel_rfl) (fun _ _ _ h => h) (Or.inl ⟨by rfl, fun w => by go_simp⟩) ?_
          refine wpAny_ready (rs := [10]) (by kernel_rfl) (by simp) ?_
          refine AllReady.cons rfl (fun K hK => ?_) AllReady.nil
          go_simp
          refine (putInto_yes num dep a n c g (u * 8 + 6) _ _ cx fx).mono ?_
          rintro e w5 ⟨rfl, hb5⟩
          have G5 := HG.out w4 w5 hb4 hb5
          dsimp only
          refine hK _ _ ?_
          clear hK K
          refine wpAny_done (by kernel_rfl) ?_ _
          go_wp2
          go_end0
          exact ⟨rfl, G5⟩
    · go_simp
      refine hK _ _ ?_
      clear hK K
      refine wpAny_ready (rs := [1, 7]) (by kernel_rfl) (by simp) ?_
      refine AllReady.cons rfl (fun K hK => ?_) (AllReady.cons rfl (fun K hK => ?_) AllReady.nil)
      · go_simp
        refine hK _ _ ?_
        clear hK K
        refine wpAny_ready (rs := [7]) (by kernel_rfl) (by simp) ?_
        refine AllReady.cons rfl (fun K hK => ?_) AllReady.nil
        · go_simp
          refine HC.out.mono ?_
          rintro e w4 h4
          unfold ButPost at h4
          rw [if_neg hh] at h4
          obtain ⟨rfl, hb4⟩ := h4
          obtain ⟨cx, fx, q0, q1, q2⟩ := HF.out w4 hb4
          dsimp only
          refine hK _ _ ?_
          clear hK K
          refine wpAny_take (i := 8) (v := .pointer (some ⟨g, u * 8, none⟩)) rfl (by kernel_rfl) (by kernel_rfl) (by kernel_rfl) (fun _ _ _ h => h) (Or.inl ⟨by rfl, fun w => by go_simp⟩) ?_
          refine wpAny_take (i := 9) (v := .pointer (some ⟨g, u * 8 + 6, none⟩)) rfl (by kernel_rfl) (by kernel_rfl) (by kernel_rfl) (fun _ _ _ h => h) (Or.inl ⟨by rfl, fun w => by go_simp⟩) ?_
          refine wpAny_ready (rs := [10]) (by kernel_rfl) (by simp) ?_
          refine AllReady.cons rfl (fun K hK => ?_) AllReady.nil
          go_simp
          refine (putInto_yes num dep a n c g (u * 8 + 6) _ _ cx fx).mono ?_
          rintro e w5 ⟨rfl, hb5⟩
          have G5 := HG.out w4 w5 hb4 hb5
          dsimp only
          refine hK _ _ ?_
          clear hK K
          refine wpAny_done (by kernel_rfl) ?_ _
          go_wp2
          go_end0
          exact ⟨rfl, G5⟩
      · go_simp
        refine HC.out.mono ?_
        rintro e w4 h4
        unfold ButPost at h4
        rw [if_neg hh] at h4
        obtain ⟨rfl, hb4⟩ := h4
        obtain ⟨cx, fx, q0, q1, q2⟩ := HF.out w4 hb4
        dsimp only
        refine hK _ _ ?_
        clear hK K
        refine wpAny_take (i := 8) (v := .pointer (some ⟨g, u * 8, none⟩)) rfl (by kernel_rfl) (by kernel_rfl) (by kernel_rfl) (fun _ _ _ h => h) (Or.inl ⟨by rfl, fun w => by go_simp⟩) ?_
        refine wpAny_take (i := 9) (v := .pointer (some ⟨g, u * 8 + 6, none⟩)) rfl (by kernel_rfl) (by kernel_rfl) (by kernel_rfl) (fun _ _ _ h => h) (Or.inl ⟨by rfl, fun w => by go_simp⟩) ?_
        refine wpAny_ready (rs := [1]) (by kernel_rfl) (by simp) ?_
        refine AllReady.cons rfl (fun K hK => ?_) AllReady.nil
        go_simp
        refine hK _ _ ?_
        clear hK K
        refine wpAny_ready (rs := [10]) (by kernel_rfl) (by simp) ?_
        refine AllReady.cons rfl (fun K hK => ?_) AllReady.nil
        go_simp
        refine (putInto_yes num dep a n c g (u * 8 + 6) _ _ cx fx).mono ?_
        rintro e w5 ⟨rfl, hb5⟩
        have G5 := HG.out w4 w5 hb4 hb5
        dsimp only
        refine hK _ _ ?_
        clear hK K
        refine wpAny_done (by kernel_rfl) ?_ _
        go_wp2
        go_end0
        exact ⟨rfl, G5⟩
  · go_simp
    refine hK _ _ ?_
    clear hK K
    refine wpAny_ready (rs := [1, 5]) (by kernel_rfl) (by simp) ?_
    refine AllReady.cons rfl (fun K hK => ?_) (AllReady.cons rfl (fun K hK => ?_) AllReady.nil)
    · go_simp
      refine hK _ _ ?_
      clear hK K
      refine wpAny_ready (rs := [5]) (by kernel_rfl) (by simp) ?_
      refine AllReady.cons rfl (fun K hK => ?_) AllReady.nil
      · go_simp
        refine hK _ _ ?_
        clear hK K
        refine wpAny_ready (rs := [7]) (by kernel_rfl) (by simp) ?_
        refine AllReady.cons rfl (fun K hK => ?_) AllReady.nil
        · go_simp
          refine HC.out.mono ?_
          rintro e w4 h4
          unfold ButPost at h4
          rw [if_neg hh] at h4
          obtain ⟨rfl, hb4⟩ := h4
          obtain ⟨cx, fx, q0, q1, q2⟩ := HF.out w4 hb4
          dsimp only
          refine hK _ _ ?_
          clear hK K
          refine wpAny_take (i := 8) (v := .pointer (some ⟨g, u * 8, none⟩)) rfl (by kernel_rfl) (by kernel_rfl) (by kernel_rfl) (fun _ _ _ h => h) (Or.inl ⟨by rfl, fun w => by go_simp⟩) ?_
          refine wpAny_take (i := 9) (v := .pointer (some ⟨g, u * 8 + 6, none⟩)) rfl (by kernel_rfl) (by kernel_rfl) (by kernel_rfl) (fun _ _ _ h => h) (Or.inl ⟨by rfl, fun w => by go_simp⟩) ?_
          refine wpAny_ready (rs := [10]) (by kernel_rfl) (by simp) ?_
          refine AllReady.cons rfl (fun K hK => ?_) AllReady.nil
          go_simp
          refine (putInto_yes num dep a n c g (u * 8 + 6) _ _ cx fx).mono ?_
          rintro e w5 ⟨rfl, hb5⟩
          have G5 := HG.out w4 w5 hb4 hb5
          dsimp only
          refine hK _ _ ?_
          clear hK K
          refine wpAny_done (by kernel_rfl) ?_ _
          go_wp2
          go_end0
          exact ⟨rfl, G5⟩
    · go_simp
      refine hK _ _ ?_
      clear hK K
      refine wpAny_ready (rs := [1, 7]) (by kernel_rfl) (by simp) ?_
      refine AllReady.cons rfl (fun K hK => ?_) (AllReady.cons rfl (fun K hK => ?_) AllReady.nil)
      · go_simp
        refine hK _ _ ?_
        clear hK K
        refine wpAny_ready (rs := [7]) (by kernel_rfl) (by simp) ?_
        refine AllReady.cons rfl (fun K hK => ?_) AllReady.nil
        · go_simp
          refine HC.out.mono ?_
          rintro e w4 h4
          unfold ButPost at h4
          rw [if_neg hh] at h4
          obtain ⟨rfl, hb4⟩ := h4
          obtain ⟨cx, fx, q0, q1, q2⟩ := HF.out w4 hb4
          dsimp only
          refine hK _ _ ?_
          clear hK K
          refine wpAny_take (i := 8) (v := .pointer (some ⟨g, u * 8, none⟩)) rfl (by kernel_rfl) (by kernel_rfl) (by kernel_rfl) (fun _ _ _ h => h) (Or.inl ⟨by rfl, fun w => by go_simp⟩) ?_
          refine wpAny_take (i := 9) (v := .pointer (some ⟨g, u * 8 + 6, none⟩)) rfl (by kernel_rfl) (by kernel_rfl) (by kernel_rfl) (fun _ _ _ h => h) (Or.inl ⟨by rfl, fun w => by go_simp⟩) ?_
          refine wpAny_ready (rs := [10]) (by kernel_rfl) (by simp) ?_
          refine AllReady.cons rfl (fun K hK => ?_) AllReady.nil
          go_simp
          refine (putInto_yes num dep a n c g (u * 8 + 6) _ _ cx fx).mono ?_
          rintro e w5 ⟨rfl, hb5⟩
          have G5 := HG.out w4 w5 hb4 hb5
          dsimp only
          refine hK _ _ ?_
          clear hK K
          refine wpAny_done (by kernel_rfl) ?_ _
          go_wp2
          go_end0
          exact ⟨rfl, G5⟩
      · go_simp
        refine HC.out.mono ?_
        rintro e w4 h4
        unfold ButPost at h4
        rw [if_neg hh] at h4
        obtain ⟨rfl, hb4⟩ := h4
        obtain ⟨cx, fx, q0, q1, q2⟩ := HF.out w4 hb4
        dsimp only
        refine hK _ _ ?_
        clear hK K
        refine wpAny_take (i := 8) (v := .pointer (some ⟨g, u * 8, none⟩)) rfl (by kernel_rfl) (by kernel_rfl) (by kernel_rfl) (fun _ _ _ h => h) (Or.inl ⟨by rfl, fun w => by go_simp⟩) ?_
        refine wpAny_take (i := 9) (v := .pointer (some ⟨g, u * 8 + 6, none⟩)) rfl (by kernel_rfl) (by kernel_rfl) (by kernel_rfl) (fun _ _ _ h => h) (Or.inl ⟨by rfl, fun w => by go_simp⟩) ?_
        refine wpAny_ready (rs := [1]) (by kernel_rfl) (by simp) ?_
        refine AllReady.cons rfl (fun K hK => ?_) AllReady.nil
        go_simp
        refine hK _ _ ?_
        clear hK K
        refine wpAny_ready (rs := [10]) (by kernel_rfl) (by simp) ?_
        refine AllReady.cons rfl (fun K hK => ?_) AllReady.nil
        go_simp
        refine (putInto_yes num dep a n c g (u * 8 + 6) _ _ cx fx).mono ?_
        rintro e w5 ⟨rfl, hb5⟩
        have G5 := HG.out w4 w5 hb4 hb5
        dsimp only
        refine hK _ _ ?_
        clear hK K
        refine wpAny_done (by kernel_rfl) ?_ _
        go_wp2
        go_end0
        exact ⟨rfl, G5⟩
end Go.Proofs.YtegmoddppafkfaaGreatDoor
