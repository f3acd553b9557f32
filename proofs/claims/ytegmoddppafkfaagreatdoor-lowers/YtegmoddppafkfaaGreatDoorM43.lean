/-
  MY OWN TEXT.
-/
import Derived.Test.YtegmoddppafkfaaGreatDoorM15
import Derived.Test.YtegmoddppafkfaaGreatDoorM36
import Derived.Test.YtegmoddppafkfaaGreatDoorM37
import Derived.Test.YtegmoddppafkfaaGreatDoorM42
import Derived.Test.YtegmoddppafkfaaGreatDoorRows
import Derived.LaidLaws
import Derived.LaidHandle
import Derived.Lib.LaidTab
import Derived.Shelf.Vars
namespace Go.Proofs.YtegmoddppafkfaaGreatDoor
open Go.RowKit Go.Proofs

/-- What is asked of the world. -/
structure EnvLow (w : World) : Prop where
  lib : EnvL w
  errT : w.cell? ⟨0, 0, none⟩ = some (.iface 269 (.agg #[.pointer (some ⟨9, 101, none⟩)]))
theorem EnvLow.keep {w w' : World} (h : EnvLow w) (hb : Below w.heap.size w w') : EnvLow w' :=
  ⟨h.lib.keep hb, (World.cell?_of_block (hb.block _ (World.block_lt_of_cell? _ _ h.errT))).trans h.errT⟩
/-- What charts.Lower answers. -/
def LowerP (s : ByteArray) (w : World) (e : Ending) (w' : World) : Prop := Below w.heap.size w w' ∧ match Ref.read s with
  | .fault c l => ∃ b, e = .returned (.tuple #[.string ByteArray.empty, .iface 159 (.pointer (some ⟨b, 0, none⟩))]) ∧ w'.heap[b]? = some (.cells #[.int .i64 c, .int .i64 l] 163 (0, 0))
  | .chart S => e = .returned (.tuple #[.string (Ref.lowTo S S.length), .nilIface])
set_option maxRecDepth 100000 in
set_option maxHeartbeats 1600000 in
theorem lower_any (s : ByteArray) (w : World) (hv : EnvLow w) (hs : s.size ≤ 1073741824) :
    Calls Tryz.prog 51 #[.string s] w (LowerP s w) := by
  have HR : Hid _ := read_pro s w hv.lib hs
  have HV : Hid _ := hv
  clear hv
  go_enter Tryz.func51, Tryz.ntmps51
  go_wp2_with fail
  refine Calls.mono HR.out ?_
  rintro e w1 ⟨hb1, hp⟩
  rw [Pro.read_same] at hp
  cases hR : Ref.read s with
  | fault c l =>
    rw [hR] at hp
    obtain ⟨b, rfl, hbk⟩ := hp
    have HRR : Hid _ := hR
    clear hR
    dsimp only
    go_wp2
    go_ret2
    unfold LowerP
    rw [HRR.out]
    exact ⟨hb1, b, rfl, hbk⟩
  | chart S =>
    rw [hR] at hp
    obtain ⟨cb, sv, X, rfl, hcb, hXS, hC, hSl⟩ := hp
    have hlow := Pro.read_low hR
    have hXl : X.length ≤ 24 := by rw [← hXS, List.length_map] at hSl; exact hSl
    have HT : Hid _ := text_any cb sv X w1 hcb hC hXl (fun x hx => (hlow x.s (by rw [← hXS]; exact List.mem_map_of_mem hx)).1) (HV.out.lib.keep hb1).env
    have HE : Hid (Pro.allTo ((X.map (·.s)).map Pro.lowS) X.length = Ref.lowTo S S.length) := by
      unfold Hid
      rw [hXS, show X.length = S.length by rw [← hXS, List.length_map]]
      exact (Pro.lowTo_eq (fun x hx => (hlow x hx).2) S.length).symm
    have HRR : Hid _ := hR
    clear hR hlow hXS hSl hXl hC hcb
    dsimp only
    go_wp2_with fail
    refine Calls.mono HT.out ?_
    rintro e w2 ⟨rfl, hb2⟩
    have HB : Hid _ := hb1.trans (hb2.mono hb1.size)
    clear hb2 hb1
    rw [HE.out]
    dsimp only
    go_wp2
    go_ret2
    unfold LowerP
    rw [HRR.out]
    exact ⟨HB.out, rfl⟩
set_option maxRecDepth 100000 in
set_option maxHeartbeats 1600000 in
theorem plainLower_any (s : ByteArray) (w : World) (hv : EnvLow w) (hs : s.size ≤ 1073741824) :
    Calls Tryz.prog 28 #[.string s] w (LowPost s w) := by
  have HL : Hid _ := lower_any s w hv hs
  have HV : Hid _ := hv
  clear hv
  go_enter Tryz.func28, Tryz.ntmps28
  go_wp2_with fail
  refine Calls.mono HL.out ?_
  rintro e w1 ⟨hb1, hp⟩
  cases hR : Ref.read s with
  | fault c l =>
    rw [hR] at hp
    obtain ⟨b, rfl, hbk⟩ := hp
    have HRR : Hid _ := hR
    have HT : Hid _ := tell_fault b c l w1 (HV.out.keep hb1).errT hbk
    clear hR hbk
    dsimp only
    go_wp2_with fail
    refine Calls.mono HT.out ?_
    rintro e w2 ⟨rfl, hb2⟩
    have HB : Hid _ := hb1.trans (hb2.mono hb1.size)
    clear hb2 hb1
    dsimp only
    go_wp2
    go_ret3
    unfold LowPost
    rw [HRR.out]
    exact ⟨HB.out, rfl⟩
  | chart S =>
    rw [hR] at hp
    subst hp
    have HRR : Hid _ := hR
    have HT : Hid _ := tell_nil w1
    clear hR
    dsimp only
    go_wp2_with fail
    refine Calls.mono HT.out ?_
    rintro e w2 ⟨rfl, hb2⟩
    have HB : Hid _ := hb1.trans (hb2.mono hb1.size)
    clear hb2 hb1
    dsimp only
    go_wp2
    go_ret3
    unfold LowPost
    rw [HRR.out]
    exact ⟨HB.out, rfl⟩
set_option maxRecDepth 100000 in
set_option maxHeartbeats 1600000 in
theorem loweredLaw_any (s : ByteArray) (w : World) (hv : EnvLow w) (hs : s.size ≤ 1073741824) :
    Calls Tryz.prog 15 #[.string s] w fun e w' => e = .returned (.bool true) ∧ Below w.heap.size w w' := by
  have HL : Hid _ := plainLower_any s w hv hs
  have HV : Hid _ := hv
  clear hv
  go_enter Tryz.func15, Tryz.ntmps15
  go_wp2_with fail
  refine Calls.mono HL.out ?_
  rintro e w1 ⟨hb1, hp⟩
  have HD : Hid _ := lowered_any s w1 hs
  cases hR : Ref.read s with
  | fault c l =>
    rw [hR] at hp
    subst hp
    have HRR : Hid _ := hR
    clear hR
    dsimp only
    go_wp2_with fail
    refine Calls.mono HD.out ?_
    rintro e w2 ⟨hb2, hq⟩
    rw [HRR.out] at hq
    subst hq
    have HB : Hid _ := hb1.trans (hb2.mono hb1.size)
    clear hb2 hb1
    dsimp only
    go_wp2
    go_ret
    exact ⟨rfl, HB.out⟩
  | chart S =>
    rw [hR] at hp
    subst hp
    have HRR : Hid _ := hR
    clear hR
    dsimp only
    go_wp2_with fail
    refine Calls.mono HD.out ?_
    rintro e w2 ⟨hb2, hq⟩
    rw [HRR.out] at hq
    subst hq
    have HB : Hid _ := hb1.trans (hb2.mono hb1.size)
    clear hb2 hb1
    dsimp only
    go_wp2
    go_ret
    exact ⟨rfl, HB.out⟩
set_option maxRecDepth 100000 in
set_option maxHeartbeats 1600000 in
theorem lowers_any (s : ByteArray) (w : World) (hv : EnvLow w) :
    Calls Tryz.prog 3 #[.string s] w fun e w' => e = .returned (.bool true) ∧ Below w.heap.size w w' := by
  by_cases hs : 32768 < s.size
  · have hs' : (32768 : Int) < (s.size : Int) := by omega
    go_enter Tryz.func3, Tryz.ntmps3
    go_wp2
    go_ret
    exact ⟨rfl, Below.refl _ _⟩
  · have hs' : ¬ (32768 : Int) < (s.size : Int) := by omega
    have HL : Hid _ := loweredLaw_any s w hv (by omega)
    clear hv
    go_enter Tryz.func3, Tryz.ntmps3
    go_wp2_with fail
    refine Calls.mono HL.out ?_
    rintro e w1 ⟨rfl, hb1⟩
    dsimp only
    go_wp2
    go_ret
    exact ⟨rfl, hb1⟩
end Go.Proofs.YtegmoddppafkfaaGreatDoor
namespace Go.Proofs.YtegmoddppafkfaaGreatDoor
open Go.RowKit Go.Proofs

theorem laid_get {P : Program} {w : World} : ∀ {l : List (String × DataW Unit)} {ps : List MemPlace}, DataW.LaidVars P w l ps → ∀ {n : String} {d : DataW Unit}, (n, d) ∈ l → ∃ g t cs fuel p, P.globalNamed n = some g ∧ (P.globals[g]?).map (·.type) = some t ∧ w.var? P n = some cs ∧ DataW.trod (fun _ => ()) P w 0 (fun _ => true) false fuel t cs.toList = some (d, p)
  | [], _, _, _, _, h => by cases h
  | (n', d') :: r, ps, h, n, d, hm => by
    obtain ⟨g, t, cs, fuel, p, q, h1, h2, h3, h4, h5, _⟩ := h
    rcases List.mem_cons.1 hm with e | hm
    · cases e; exact ⟨g, t, cs, fuel, p, h1, h2, h3, h4⟩
    · exact laid_get h5 hm
/-- A variable of an interface's type that reads as an interface holds one. -/
theorem iface_at {P : Program} {w : World} {l : List (String × DataW Unit)} {ps : List MemPlace} (h : DataW.LaidVars P w l ps) {n nm : String} {d : DataW Unit} (hm : (n, .iface nm d) ∈ l) {g : Nat} {t : TypeId} {ms : Array (String × TypeId)} (hg : P.globalNamed n = some g) (hty : (P.globals[g]?).map (·.type) = some t) (ht : P.underlying t = some (.interface ms)) :
    ∃ u v, w.cell? ⟨g, 0, none⟩ = some (.iface u v) := by
  obtain ⟨g', t', cs, fuel, p, h1, h2, h3, h4⟩ := laid_get h hm
  obtain rfl := Option.some.inj (hg.symm.trans h1)
  obtain rfl := Option.some.inj (hty.symm.trans h2)
  obtain ⟨_, u, v, hc, _, _⟩ := iface_of_trod ht h4
  refine ⟨u, v, ?_⟩
  rw [World.var?_cell hg h3 0, ← Array.getElem?_toList, hc]; rfl
theorem tab_at {P : Program} {w : World} {l : List (String × DataW Unit)} {ps : List MemPlace} (h : DataW.LaidVars P w l ps) {n : String} {k : IntKind} {zs : List Int} (hm : (n, Lib.tabData k zs) ∈ l) {g : Nat} {t e : TypeId} {m : Nat} (hg : P.globalNamed n = some g) (hty : (P.globals[g]?).map (·.type) = some t) (ht : P.underlying t = some (.array m e)) (he : P.underlying e = some (.int k)) (hce : P.cellsOf e = 1) (hct : P.cellsOf t = m) :
    Lib.TabIs P w n k zs := by
  obtain ⟨g', t', cs, fuel, p, h1, h2, h3, h4⟩ := laid_get h hm
  obtain rfl := Option.some.inj (hg.symm.trans h1)
  obtain rfl := Option.some.inj (hty.symm.trans h2)
  unfold Lib.TabIs
  rw [h3, ← Lib.cells_of_tab ht he hce hct h4]
theorem Tryz.gSyn : Tryz.prog.globalNamed "strconv.ErrSyntax" = some 7 := by kernel_rfl
theorem Tryz.gRng : Tryz.prog.globalNamed "strconv.ErrRange" = some 8 := by kernel_rfl
theorem Tryz.gPow : Tryz.prog.globalNamed "internal/strconv.uint64pow10" = some 6 := by kernel_rfl
theorem Tryz.gEt : Tryz.prog.globalNamed "errors.errorType" = some 0 := by kernel_rfl
theorem Tryz.gRt : (Tryz.prog.cutTypes.find? (·.1 == "internal/reflectlite.rtype")).map (·.2) = some 269 := by kernel_rfl
theorem Tryz.oneRow : ((List.range 499).filter fun t => Tryz.prog.rowNamed t [101, 114, 114, 111, 114]) = [101] := by kernel_rfl
theorem Tryz.tysize : Tryz.prog.types.size = 499 := by kernel_rfl
theorem Tryz.gSynT : (Tryz.prog.globals[7]?).map (·.type) = some 101 := by kernel_rfl
theorem Tryz.gRngT : (Tryz.prog.globals[8]?).map (·.type) = some 101 := by kernel_rfl
/-- The rows' list: all but the handle, and the handle. -/
def laidPlain : List (String × DataW Unit) := [("math/bits.deBruijn32tab", Rows.laid_math_bits_deBruijn32tab), ("math/bits.deBruijn64tab", Rows.laid_math_bits_deBruijn64tab), ("internal/strconv.uint64pow10", Rows.laid_internal_strconv_uint64pow10), ("unicode/utf8.acceptRanges", Rows.laid_unicode_utf8_acceptRanges), ("strconv.ErrRange", Rows.laid_strconv_ErrRange), ("strconv.ErrSyntax", Rows.laid_strconv_ErrSyntax), ("unicode/utf8.first", Rows.laid_unicode_utf8_first)]
theorem laid_parts {W : World} (h : laidMetH Tryz.prog Rows.lowersRow.laid W) : laidMet Tryz.prog laidPlain W ∧ handlesMet Tryz.prog [("errors.errorType", Rows.laid_errors_errorType)] W := h
theorem errT_of {W : World} (h : handlesMet Tryz.prog [("errors.errorType", Rows.laid_errors_errorType)] W) : W.cell? ⟨0, 0, none⟩ = some (.iface 269 (.agg #[.pointer (some ⟨9, 101, none⟩)])) := by
  obtain ⟨name, u, ty, e1, e2, e3, e4, e5⟩ := h _ (List.mem_singleton.2 rfl)
  have en : name = [101, 114, 114, 111, 114] := (Option.some.inj e1).symm
  subst en
  obtain rfl := Option.some.inj (Tryz.gRt.symm.trans e2)
  have hm : ty ∈ (List.range 499).filter fun t => Tryz.prog.rowNamed t [101, 114, 114, 111, 114] := List.mem_filter.2 ⟨List.mem_range.2 (by rw [← Tryz.tysize]; exact e3), e4⟩
  rw [Tryz.oneRow] at hm
  obtain rfl := List.mem_singleton.1 hm
  have hh : typeHandle Tryz.prog 101 = .pointer (some ⟨9, 101, none⟩) := by kernel_rfl
  rw [hh] at e5
  simpa using World.var?_cell Tryz.gEt e5 0
theorem Tryz.gPowT : (Tryz.prog.globals[6]?).map (fun x => Tryz.prog.underlying x.type) = some (some (.array 20 37)) := by kernel_rfl
theorem env_of {W : World} (h : laidMetH Tryz.prog Rows.lowersRow.laid W) (hsh : W.ShapedOpen Tryz.prog) : EnvL W := by
  obtain ⟨⟨ps, hl, _⟩, _⟩ := laid_parts h
  have hm : ∃ m, W.cell? ⟨3, 0, none⟩ = some (.int .i64 m) := cell_of_shapedOpen_int (zero := #[.int .i64 0]) (t := 3) hsh (of_decide_eq_true (by kernel_rfl)) (by kernel_rfl) rfl (by kernel_rfl) (by kernel_rfl) Tryz.underlying3
  obtain ⟨u1, v1, c1⟩ := iface_at hl (n := "strconv.ErrSyntax") (by unfold laidPlain Rows.laid_strconv_ErrSyntax; simp only [List.mem_cons]; exact .inr (.inr (.inr (.inr (.inr (.inl rfl)))))) Tryz.gSyn Tryz.gSynT Tryz.underlying101
  obtain ⟨u2, v2, c2⟩ := iface_at hl (n := "strconv.ErrRange") (by unfold laidPlain Rows.laid_strconv_ErrRange; simp only [List.mem_cons]; exact .inr (.inr (.inr (.inr (.inl rfl))))) Tryz.gRng Tryz.gRngT Tryz.underlying101
  have ht : Lib.TabIs Tryz.prog W "internal/strconv.uint64pow10" .u64 Lib.pow10Tab := by
    obtain ⟨gl, hgl, htt⟩ := Option.map_eq_some_iff.1 Tryz.gPowT
    exact tab_at hl (n := "internal/strconv.uint64pow10") (k := .u64) (zs := Lib.pow10Tab) (by unfold laidPlain; simp only [List.mem_cons]; exact .inr (.inr (.inl rfl))) Tryz.gPow (by rw [hgl]; rfl) htt Tryz.underlying37 (by kernel_rfl) (by
      have e : (Tryz.prog.globals[6]?).map (fun x => Tryz.prog.cellsOf x.type) = some 20 := by kernel_rfl
      rw [hgl] at e
      exact Option.some.inj e)
  exact ⟨⟨⟨⟨_, c1, .inr ⟨u1, v1, rfl⟩⟩, ⟨_, c2, .inr ⟨u2, v2, rfl⟩⟩⟩, ht⟩, hm⟩
end Go.Proofs.YtegmoddppafkfaaGreatDoor
