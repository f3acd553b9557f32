/-
  MY OWN TEXT.
-/
import Derived.Test.YtegmoddppafkfaaGreatDoorM14
import Derived.Test.YtegmoddppafkfaaGreatDoorM40
namespace Go.Proofs.YtegmoddppafkfaaGreatDoor
open Go.RowKit
open Go.PlainAid (bt get_bt bt_nonneg bt_le bt_end)

namespace Ref
theorem place_emb (X : List SV) (n : ByteArray) : place X n = place ((X.map (·.s)).map emb) n := by
  unfold place
  rw [List.map_map, List.findIdx?_map]; rfl
theorem named_emb (X : List SV) : named X = named ((X.map (·.s)).map emb) := by
  have hp : place ((X.map (·.s)).map emb) = place X := funext fun n => (place_emb X n).symm
  have ht : timed ((X.map (·.s)).map emb) = timed X := by unfold timed; rw [List.map_map, List.any_map]; rfl
  have hm : ∀ t, stepMove ((X.map (·.s)).map emb) t = stepMove X t := fun t => by funext a m; unfold stepMove moveBad; rw [hp]
  have hs : ∀ t k a x, stepState ((X.map (·.s)).map emb) t k a x = stepState X t k a x := fun t k a x => by unfold stepState; rw [hp, hm]
  have hn : ∀ t k, namedTo ((X.map (·.s)).map emb) t k = namedTo X t k := by
    intro t k
    induction k with
    | zero => rfl
    | succ k ih =>
      rw [namedTo, namedTo, ih]
      simp only [List.getElem?_map]
      cases X[k]? with
      | none => rfl
      | some x => exact hs t k _ _
  unfold named
  rw [hn, ht, List.length_map, List.length_map]
end Ref
theorem Deep.keep {w w' : World} {x : Ref.SV} (h : Deep w x) (hb : Below w.heap.size w w') : Deep w' x :=
  let ⟨M, h1, h2, h3⟩ := h.moves
  { h with moves := ⟨M, h1, Row.keep h2 hb, fun y hy => Row.keep (h3 y hy) hb⟩, enter := Row.keep h.enter hb, leave := Row.keep h.leave hb }
theorem LineOK.keep {w w' : World} {x : Ref.LV} (h : LineOK w x) (hb : Below w.heap.size w w') : LineOK w' x :=
  { h with rowM := Row.keep h.rowM hb, rowD := Row.keep h.rowD hb }
theorem LineOK.grow {w w' : World} {x : Ref.LV} {row : Option Nat} {e' : TypeId} (h : LineOK w x) (hg : w.grownBy w' row) (hk : ∀ g, row = some g → ∃ c fz, w.heap[g]? = some (.cells c e' fz)) (hne : 122 ≠ e') : LineOK w' x :=
  { h with rowM := own_grow h.rowM hg hk hne, rowD := own_grow h.rowD hg hk hne }
/-- What Read keeps while it goes. -/
structure ReadInv (w wr : World) (P : List ByteArray) (v va vd : Value) (X : List (Ref.LV × Nat)) : Prop where
  bel : Below w.heap.size w wr
  str : wr.ownsRow w.heap.size 9 1 v P.length (P.map Value.string)
  all : wr.ownsRow w.heap.size 127 19 va X.length ((X.map (·.1)).flatMap Ref.lvCells)
  deep : wr.ownsRow w.heap.size 3 1 vd X.length ((X.map (·.2)).flatMap intCell)
  ok : ∀ p ∈ X, LineOK wr p.1
  dp : ∀ p ∈ X, p.2 ≤ 1048576
theorem ReadInv.keep {w wr w' : World} {P : List ByteArray} {v va vd : Value} {X : List (Ref.LV × Nat)} (I : ReadInv w wr P v va vd X) (hb : Below wr.heap.size wr w') : ReadInv w w' P v va vd X :=
  ⟨I.bel.trans (hb.mono I.bel.size), own_keep I.str hb, own_keep I.all hb, own_keep I.deep hb, fun p hp => (I.ok p hp).keep hb, I.dp⟩
theorem cells_str {w : World} {B g cap : Nat} {P : List ByteArray} (h : w.ownsRow B 9 1 (.slice (some ⟨g, 0, none⟩) P.length cap) P.length (P.map Value.string)) {k : Nat} (hk : k < P.length) : w.cell? ⟨g, k, none⟩ = some (.string (Ref.pc P k)) := by
  have := h.cellAt k (by omega)
  rw [this, List.getElem?_map, Ref.pc, List.getD_eq_getElem?_getD, List.getElem?_eq_getElem hk]
  rfl

theorem Tryz.infoLineR : (Tryz.prog.info? 127).map (fun i => (i.zero, i.size, i.bytes)) = some (some (.agg #[.int .u8 0, .string ByteArray.empty, .string ByteArray.empty, .bool false, .int .i64 0, .int .i64 0, .int .i64 0, .slice none 0 0, .slice none 0 0, .slice none 0 0, .int .i64 0, .int .i64 0, .string ByteArray.empty, .string ByteArray.empty, .bool false, .int .u64 0, .slice none 0 0, .int .i64 0, .slice none 0 0]), 19, 264) := by kernel_rfl

set_option maxHeartbeats 3200000 in
set_option maxRecDepth 100000 in
theorem read_any (s : ByteArray) (w : World) (hs : s.size ≤ 1073741824) :
    Calls Tryz.prog 38 #[.string s] w (ReadPost s w) := by
  by_cases hbig : 1500 < s.size
  · have HR : Hid (Ref.read s = .fault 1 0) := by unfold Hid; rw [Ref.read, if_pos hbig]
    go_enter Tryz.func38, Tryz.ntmps38
    go_wp2
    go_ret3
    unfold ReadPost
    rw [HR.out]
    exact ⟨Below.refl _ _, rfl⟩
  · go_enter Tryz.func38, Tryz.ntmps38
    go_wp2_with fail
    refine (cut_any s 10 w hs).mono ?_
    rintro e w1 ⟨v, rfl, hown, hb1⟩
    have hpos := Ref.cutTo_pos s 10 s.size
    have hle := Ref.cutTo_le s 10 s.size
    have hsz : ∀ x ∈ Ref.cut s 10, x.size ≤ 1500 := fun x hx => Nat.le_trans (Ref.cutTo_sizes s 10 s.size (Nat.le_refl _) x hx) (by omega)
    change 0 < (Ref.cut s 10).length at hpos
    change (Ref.cut s 10).length ≤ _ at hle
    have HR : Hid (∀ i, Ref.syn (Ref.cut s 10) = some i → Ref.read s = .fault 2 ((i : Int) + 1)) := fun i h => by rw [Ref.read, if_neg hbig, h]
    have HR2 : Hid (Ref.syn (Ref.cut s 10) = none → Ref.read s = match Ref.treeTo (Ref.linesTo (Ref.cut s 10) ((Ref.cut s 10).length - 1)) ((Ref.cut s 10).length - 1) with
      | none => .fault 3 (Ref.failAt (Ref.linesTo (Ref.cut s 10) ((Ref.cut s 10).length - 1)) ((Ref.cut s 10).length - 1))
      | some S => if 0 < (Ref.parTo S S.length).getD 0 then .fault 3 ((Ref.parTo S S.length).getD 0)
        else if 0 < Ref.named (S.map Ref.emb) then .fault 4 (Ref.named (S.map Ref.emb))
        else .chart S) := fun h => by rw [Ref.read, if_neg hbig, h]; rfl
    generalize Ref.cut s 10 = P at *
    have HSZ : Hid _ := hsz
    clear hsz
    obtain ⟨g, cap, hv⟩ := Ref.own_form hown hpos
    subst hv
    have hP1 : P.length ≤ 1501 := by omega
    go_wp2
    go_loopg [7, 8, 9] P.length (fun q a d i wr => ∃ (k : Nat) (va vd : Ref.Sl) (X : List (Ref.LV × Nat)), q = P.length - k ∧ k ≤ P.length - 1 ∧ i = .int .i64 k ∧ a = .slice va.a va.n va.c ∧ d = .slice vd.a vd.n vd.c ∧ Ref.synF P k = none ∧ X.length = k ∧ (X.map fun p => (p.1.L, (p.2 : Int))) = Ref.linesTo P k ∧ ReadInv w wr P (.slice (some ⟨g, 0, none⟩) P.length cap) va.v vd.v X)
    case atStart => exact ⟨0, Ref.Sl.nil, Ref.Sl.nil, [], rfl, Nat.zero_le _, rfl, rfl, rfl, rfl, rfl, rfl, hb1, hown, World.ownsRow_nil _ _ _ _, World.ownsRow_nil _ _ _ _, fun p hp => absurd hp (by simp), fun p hp => absurd hp (by simp)⟩
    case round =>
      obtain ⟨k, va, vd, X, hq, hk, rfl, rfl, rfl, hsyn, hXk, hXP, I⟩ := hrel
      have HSY : Hid _ := hsyn
      have HXP : Hid _ := hXP
      have HXK : Hid _ := hXk
      clear hsyn hXP hXk
      have hkP : k < P.length := by omega
      have hc := cells_str I.str hkP
      have hgl := (World.ownsRow.lt I.str g rfl)
      have hts : (Ref.pc P k).size ≤ 1500 := Ref.at'_size HSZ.out k
      by_cases hbr : k = P.length - 1 ∧ (Ref.pc P k).toList = [] ∧ 0 < k
      · obtain ⟨hk1, he, hk0⟩ := hbr
        have HRR : Hid _ := HR2.out (Ref.syn_none (by rw [← hk1]; exact HSY.out) (by omega) (by rw [← hk1, he]; rfl))
        rw [← hk1] at HRR
        have hk1' : ((k : Int) == (P.length : Int) - 1) = true := by rw [beq_iff_eq]; omega
        have he' : ((Ref.pc P k).toList == []) = true := by rw [he]; rfl
        have hk0' : (0 : Int) < (k : Int) := by omega
        have RA : Row wr 127 19 Ref.lvCells (.slice va.a va.n va.c) (X.map (·.1)) := by unfold Row; rw [List.length_map]; exact own_mono I.all (Nat.zero_le _)
        have RD : Row wr 3 1 intCell (.slice vd.a vd.n vd.c) (X.map (·.2)) := by unfold Row; rw [List.length_map]; exact own_mono I.deep (Nat.zero_le _)
        clear HR HR2 hk1 he
        go_wp2_with fail
        refine (tree_any _ _ X _ RA RD (by rw [HXK.out]; omega) I.ok I.dp).mono ?_
        rintro e w2 ⟨hb2, cb, hpost⟩
        have hbb : Below w.heap.size w w2 := I.bel.trans (hb2.mono I.bel.size)
        rw [HXP.out, HXK.out] at hpost
        cases hT : Ref.treeTo (Ref.linesTo P k) k with
        | none =>
          rw [hT] at hpost HRR
          obtain ⟨i, hi, h1, h2, rfl⟩ := hpost
          have HF : Hid (Ref.read s = .fault 3 ((i : Int) + 1)) := by
            unfold Hid; rw [HRR.out, Ref.failAt_eq h1 h2 k (by omega)]; rfl
          clear HRR
          have hi0 : (0 : Int) < (i : Int) + 1 := by omega
          go_wp2
          go_ret3
          unfold ReadPost
          rw [HF.out]
          exact ⟨hbb, rfl⟩
        | some S =>
          rw [hT] at hpost HRR
          obtain ⟨rfl, sv, X', hX', hC, hD⟩ := hpost
          have hSl := Ref.treeTo_len hT
          have hXl : X'.length ≤ 1501 := by rw [← hX', List.length_map] at hSl; omega
          have hcbl : cb < w2.heap.size := (Array.getElem?_eq_some_iff.1 hC.at').1
          have HRS : Hid (Ref.read s = if 0 < (Ref.parTo S S.length).getD 0 then .fault 3 ((Ref.parTo S S.length).getD 0)
            else if 0 < Ref.named (S.map Ref.emb) then .fault 4 (Ref.named (S.map Ref.emb))
            else .chart S) := HRR.out
          clear HRR
          generalize (Ref.parTo S S.length).getD 0 = at1 at *
          by_cases hat : 0 < at1
          · have HF : Hid (Ref.read s = .fault 3 at1) := by unfold Hid; rw [HRS.out, if_pos hat]
            clear HRS
            go_wp2
            go_ret3
            unfold ReadPost
            rw [HF.out]
            exact ⟨hbb, rfl⟩
          · have HN : Hid (Ref.named X' = Ref.named (S.map Ref.emb)) := by unfold Hid; rw [Ref.named_emb X', hX']
            go_wp2_with fail
            refine (named_any cb sv X' _ hC hcbl (by omega) hD).mono ?_
            rintro e w3 ⟨rfl, hb3⟩
            rw [HN.out]
            clear HN
            have HR3 : Hid (Ref.read s = if 0 < Ref.named (S.map Ref.emb) then .fault 4 (Ref.named (S.map Ref.emb)) else .chart S) := by unfold Hid; rw [HRS.out, if_neg (by omega)]
            clear HRS
            generalize Ref.named (S.map Ref.emb) = at2 at *
            by_cases ha2 : 0 < at2
            · have HF : Hid (Ref.read s = .fault 4 at2) := by unfold Hid; rw [HR3.out, if_pos ha2]
              clear HR3
              go_wp2
              go_ret3
              unfold ReadPost
              rw [HF.out]
              exact ⟨hbb.trans (hb3.mono hbb.size), rfl⟩
            · have HF : Hid (Ref.read s = .chart S) := by unfold Hid; rw [HR3.out, if_neg ha2]
              clear HR3
              go_wp2
              go_ret3
              unfold ReadPost
              rw [HF.out]
              exact ⟨hbb.trans (hb3.mono hbb.size), cb, sv, X', rfl, Nat.lt_of_lt_of_le hcbl hb3.size, hX', hC.keep hb3, fun x hx => (hD x hx).keep hb3⟩
      · have hbt := get_bt (Ref.pc P k)
        go_upto_region 10 with fail
        go_cut [42] (fun c wx => c = .bool false ∧ wx = wr)
        case first =>
          by_cases h1 : k = P.length - 1
          · have h1' : ((k : Int) == (P.length : Int) - 1) = true := by rw [beq_iff_eq]; omega
            by_cases h2 : (Ref.pc P k).toList = []
            · have h2' : ((Ref.pc P k).toList == []) = true := by rw [h2]; rfl
              have h3 : ¬ (0 : Int) < (k : Int) := fun h => hbr ⟨h1, h2, by omega⟩
              have H3 : Hid (decide (0 < k) = false) := by unfold Hid; rw [decide_eq_false_iff_not]; omega
              clear h1 h2 h3
              go_wp2
              go_meet
              case rel => exact ⟨by rw [H3.out], rfl⟩
            · have h2' : ((Ref.pc P k).toList == []) = false := by simpa using h2
              clear h1 h2
              go_wp2
              go_meet
              case rel => exact ⟨rfl, rfl⟩
          · have h1' : ((k : Int) == (P.length : Int) - 1) = false := by rw [beq_eq_false_iff_ne]; omega
            clear h1
            go_wp2
            go_meet
            case rel => exact ⟨rfl, rfl⟩
        case rest =>
          obtain ⟨rfl, hwc⟩ := hcut
          rw [hwc]
          clear hwc wc
          have hbl := Ref.blanks_le (Ref.pc P k)
          go_upto_block 2 with fail
          go_cut [10] (fun d wx => d = .int .i64 (Ref.blanks (Ref.pc P k)) ∧ wx = wr)
          case first =>
            go_wp2_with fail
            go_loopg [10] (Ref.pc P k).size (fun q d wx => wx = wr ∧ ∃ j : Nat, j ≤ (Ref.pc P k).size ∧ q = (Ref.pc P k).size - j ∧ d = .int .i64 j ∧ Ref.blanks (Ref.pc P k) = Ref.blanksF (Ref.pc P k) ((Ref.pc P k).size - j) j)
            case atStart => exact ⟨rfl, 0, Nat.zero_le _, rfl, rfl, rfl⟩
            case round =>
              obtain ⟨hwx, j, hj, hqj, rfl, hbj⟩ := hrel
              have HBJ : Hid _ := hbj
              clear hbj
              subst hwx
              by_cases hjs : j < (Ref.pc P k).size
              · by_cases hb : bt (Ref.pc P k) j = 32
                · have hb' : (bt (Ref.pc P k) j == 32) = true := by rw [hb]; rfl
                  have HB : Hid _ := Ref.blanks_more hjs HBJ.out hb
                  clear hb
                  go_wp2
                  go_roundg ((Ref.pc P k).size - (j + 1))
                  case measure => omega
                  case rel => exact ⟨rfl, j + 1, by omega, rfl, by go_num, HB.out⟩
                · have hb' : (bt (Ref.pc P k) j == 32) = false := by simpa using hb
                  have HB : Hid _ := Ref.blanks_stop hjs HBJ.out hb
                  clear hb
                  go_wp2
                  go_meet
                  case rel => exact ⟨by rw [HB.out], rfl⟩
              · obtain rfl : j = (Ref.pc P k).size := by omega
                have HB : Hid _ := Ref.blanks_end HBJ.out
                go_wp2
                go_meet
                case rel => exact ⟨by rw [HB.out], rfl⟩
          case rest =>
            obtain ⟨rfl, hwc⟩ := hcut
            rw [hwc]
            clear hwc wc
            have hrest : (Ref.rest (Ref.pc P k)).size ≤ 1500 := by unfold Ref.rest; simp; omega
            have hws : ∀ x ∈ Ref.cut (Ref.rest (Ref.pc P k)) 32, x.size ≤ 1500 := fun x hx => Nat.le_trans (Ref.cutTo_sizes _ 32 _ (Nat.le_refl _) x hx) hrest
            have hwpos : 0 < (Ref.cut (Ref.rest (Ref.pc P k)) 32).length := Ref.cutTo_pos _ 32 _
            have hwlen : (Ref.cut (Ref.rest (Ref.pc P k)) 32).length ≤ 1501 := Nat.le_trans (Ref.cutTo_le _ 32 _) (by omega)
            have HLS : Hid (Ref.LineSm (Ref.lineOf (Ref.pc P k) k)) := Ref.said_ok (fun x hx => Nat.le_trans (hws x hx) (by decide)) (by omega) (by omega)
            go_wp2_with fail
            refine (cut_any (Ref.rest (Ref.pc P k)) 32 _ (by omega)).mono ?_
            rintro e w2 ⟨v2, rfl, hown2, hb2⟩
            have HLO : Hid (Ref.lineOf (Ref.pc P k) k = Ref.said (Ref.cut (Ref.rest (Ref.pc P k)) 32) (k + 1)) := rfl
            generalize Ref.cut (Ref.rest (Ref.pc P k)) 32 = l at *
            obtain ⟨g2, cap2, hv2⟩ := Ref.own_form hown2 hwpos
            subst hv2
            have hW : Words w2 g2 0 cap2 l := ⟨hwpos, (World.ownsRow.lt hown2 g2 rfl).2, fun i hi => by
              have := hown2.cellAt i (by omega)
              rw [Nat.zero_add, this, List.getElem?_map, Ref.at', List.getD_eq_getElem?_getD, List.getElem?_eq_getElem hi]; rfl, fun x hx => Nat.le_trans (hws x hx) (by decide), by omega, by
              rcases hown2.2 with ⟨hv, _⟩ | ⟨g', cap', cur', hv, _, _, r⟩
              · cases hv
              · cases hv; exact r.1⟩
            have hI2 := I.keep hb2
            clear hws hc hown2
            go_wp2_with fail
            refine (said_any g2 0 cap2 l (k + 1) _ hW (by omega)).mono ?_
            rintro e w3 ⟨hb3, vm, vd', rfl, hom, hod⟩
            rw [← HLO.out] at hom hod
            rw [← HLO.out]
            have hI3 := hI2.keep hb3
            generalize hL : Ref.lineOf (Ref.pc P k) k = L at *
            have HL : Hid _ := hL
            clear hL HLO
            obtain ⟨ma, mn, mc, rfl⟩ := Ref.own_slice hom
            obtain ⟨da, dn, dc, rfl⟩ := Ref.own_slice hod
            have OKL : LineOK w3 ⟨L, ⟨ma, mn, mc⟩, ⟨da, dn, dc⟩⟩ := ⟨own_mono hom (Nat.zero_le _), own_mono hod (Nat.zero_le _), HLS.out.m.ok, fun a ha => (HLS.out.acts a ha).ok, Nat.le_trans HLS.out.len (by decide), Nat.le_trans HLS.out.name (by decide)⟩
            clear hom hod hb2 hW hI2
            have hbb : Below w.heap.size w w3 := hI3.bel
            have hkc : (w3.alloc (.cells (Ref.lineCells L (.slice ma mn mc) (.slice da dn dc)).toArray 127)).cell? ⟨w3.heap.size, 0, none⟩ = some (.int .u8 L.kind) := (one_block rfl).2.1 0
            go_upto_region 16 with (refine wpList_store_new rfl 127 (.tmp 12) (.tmp 71) rfl 127 _ _ rfl rfl Tryz.sizeLine rfl rfl ?_)
            have hlen : (Ref.lineCells L (.slice ma mn mc) (.slice da dn dc)).length = 19 := rfl
            have HCS : Hid (Ref.lvCells ⟨L, ⟨ma, mn, mc⟩, ⟨da, dn, dc⟩⟩ = Ref.lineCells L (.slice ma mn mc) (.slice da dn dc)) := rfl
            have hone : ∀ u ∈ Ref.lineCells L (.slice ma mn mc) (.slice da dn dc), u.oneCell' = true := by
              intro u hu
              simp only [Ref.lineCells, List.mem_cons, List.not_mem_nil, or_false] at hu
              rcases hu with rfl | rfl | rfl | rfl | rfl | rfl | rfl | rfl | rfl | rfl | rfl | rfl | rfl | rfl | rfl | rfl | rfl | rfl | rfl <;> rfl
            generalize Ref.lineCells L (.slice ma mn mc) (.slice da dn dc) = cs at *
            obtain ⟨w4, hw4⟩ : ∃ x, x = w3.alloc (.cells cs.toArray 127) := ⟨_, rfl⟩
            rw [← hw4] at hkc ⊢
            obtain ⟨z0, z1, z2⟩ := one_block hw4
            have zrow : w4.heap[w3.heap.size]? = some (.cells cs.toArray 127 (0, 0)) := by rw [hw4]; exact heap_alloc_new _ _
            have Z0 : Hid _ := z0
            have hI4 := hI3.keep z2
            have OK4 := OKL.keep z2
            have hbb4 : Below w.heap.size w w4 := hI4.bel
            have hw34 : w3.heap.size < w4.heap.size := by omega
            clear hw4 z0 z1 hI3 OKL hbb hb3 I
            by_cases hk0 : L.kind = 0
            · have hk0' : (L.kind == 0) = true := by rw [hk0]; rfl
              have HF : Hid (Ref.read s = .fault 2 ((k : Int) + 1)) := by
                refine HR.out k ?_
                by_cases h1 : k = P.length - 1
                · rw [h1]
                  refine Ref.syn_last (by rw [← h1]; exact HSY.out) ?_
                  rw [← h1]
                  exact fun h => hbr ⟨h1, by have := h.2; rwa [List.isEmpty_iff] at this, h.1⟩
                · exact Ref.syn_bad (by omega) HSY.out (by rw [HL.out]; exact hk0)
              clear hk0
              go_wp2
              go_ret3
              unfold ReadPost
              rw [HF.out]
              exact ⟨hbb4, rfl⟩
            · have hk0' : (L.kind == 0) = false := by simpa using hk0
              by_cases h1 : k = P.length - 1
              · have h1' : ((k : Int) == (P.length : Int) - 1) = true := by rw [beq_iff_eq]; omega
                have HF : Hid (Ref.read s = .fault 2 ((k : Int) + 1)) := by
                  refine HR.out k ?_
                  rw [h1]
                  refine Ref.syn_last (by rw [← h1]; exact HSY.out) ?_
                  rw [← h1]
                  exact fun h => hbr ⟨h1, by have := h.2; rwa [List.isEmpty_iff] at this, h.1⟩
                clear hk0 h1
                go_wp2
                go_ret3
                unfold ReadPost
                rw [HF.out]
                exact ⟨hbb4, rfl⟩
              · have h1' : ((k : Int) == (P.length : Int) - 1) = false := by rw [beq_eq_false_iff_ne]; omega
                have HN1 : Hid (Ref.synF P (k + 1) = none) := Ref.synF_succ HSY.out (by rw [HL.out]; exact hk0)
                have hk1 : k + 1 ≤ P.length - 1 := by omega
                have HXK1 : X.length ≤ 1501 := by rw [HXK.out]; omega
                obtain ⟨iL, hiL, hzL0, hzL1, hzL2⟩ := info_parts Tryz.infoLineR
                obtain ⟨i0, hi0, hz0, hz1, hz2⟩ := info_parts Tryz.infoInt
                clear hk0 h1 HR HR2 hbr
                have hs4 := hbb4.size
                go_upto_region 18 with fail
                go_upto_region 19 with (first
                  | (refine wpList_load_all rfl 127 (.tmp 12) rfl _ 127 _ (0, 0) _ rfl zrow Tryz.underlying127 rfl (by rw [List.size_toArray, hlen]; exact Tryz.sizeLine) ?_)
                  | (refine wpList_buildSlice_one rfl _ 127 (.tmp 83) rfl iL _ 19 Tryz.underlying125 hiL hzL0 hzL1 rfl (by decide) (by decide) cs hlen rfl ?_)
                  | (at_builtin; refine wpList_append_lies _ (by rfl) (.tmp 82) (.tmp 84) _ (by rfl) w.heap.size 127 iL _ 19 264 Tryz.underlying125 hiL hzL0 hzL1 hzL2 rfl (by decide) (.slice va.a va.n va.c) X.length ((X.map (·.1)).flatMap Ref.lvCells) (by rfl) (hI4.all.alloc _) ⟨w4.heap.size, 0, none⟩ 1 1 cs (by rfl) (by rw [hlen]) (World.news_of_block (cs := cs.toArray) (t := 127) (fr := (0, 0)) (heap_alloc_new w4 _)) hone (by omega) (by unfold maxLen; omega) (by omega) (by simp; omega) (w4.heap.size + 1) (by simp) ?_; intro g5 cap5 w5 hown5 hgrow hat hlt5))
                have hs5 : w4.heap.size + 1 ≤ w5.heap.size := by have := hgrow.size; simpa using this
                have b4 : Below w4.heap.size w4 (w4.alloc (.cells cs.toArray 127)) := (Below.refl _ _).alloc (Nat.le_refl _) _
                have kA := kind_keep (ownsRow_kind' hI4.all) b4
                have str5 := own_grow (own_keep hI4.str b4) hgrow kA (by decide)
                have deep5 := own_grow (own_keep hI4.deep b4) hgrow kA (by decide)
                have OK5 := (OK4.keep b4).grow hgrow kA (by decide)
                have ok5 : ∀ p ∈ X, LineOK w5 p.1 := fun p hp => ((hI4.ok p hp).keep b4).grow hgrow kA (by decide)
                have bel5 : Below w.heap.size w w5 := (hI4.bel.alloc hs4 _).grown hgrow (by simp; omega) (fun q e => (World.ownsRow.lt hI4.all q e).1)
                have dp5 := hI4.dp
                clear hgrow kA b4 OK4 hI4 hbb4 hat zrow hkc z2
                go_wp2_with (at_builtin; refine wpList_append_lies _ (by rfl) (.tmp 86) (.tmp 88) _ (by rfl) w.heap.size 3 i0 _ 1 8 Tryz.underlying35 hi0 hz0 hz1 hz2 rfl (by decide) (.slice vd.a vd.n vd.c) X.length ((X.map (·.2)).flatMap intCell) (by rfl) (deep5.alloc _) ⟨w5.heap.size, 0, none⟩ 1 1 (intCell (Ref.blanks (Ref.pc P k))) (by rfl) (by rfl) (World.news_of_block (cs := (intCell (Ref.blanks (Ref.pc P k))).toArray) (t := 3) (fr := (0, 0)) (heap_alloc_new w5 _)) (by simp [intCell, Value.oneCell']) (by omega) (by unfold maxLen; omega) (by omega) (by simp; omega) (w5.heap.size + 1) (by simp) ?_; intro g6 cap6 w6 hown6 hgrow6 hat6 hlt6)
                go_roundg (P.length - (k + 1))
                case measure => omega
                case rel =>
                  have b5 : Below w5.heap.size w5 (w5.alloc (.cells (intCell (Ref.blanks (Ref.pc P k))).toArray 3)) := (Below.refl _ _).alloc (Nat.le_refl _) _
                  have kD := kind_keep (ownsRow_kind' deep5) b5
                  have all6 := own_grow (own_keep hown5 b5) hgrow6 kD (by decide)
                  have OK6 := (OK5.keep b5).grow hgrow6 kD (by decide)
                  refine ⟨k + 1, ⟨some ⟨g5, 0, none⟩, X.length + 1, cap5⟩, ⟨some ⟨g6, 0, none⟩, X.length + 1, cap6⟩, X ++ [(⟨L, ⟨ma, mn, mc⟩, ⟨da, dn, dc⟩⟩, Ref.blanks (Ref.pc P k))], rfl, hk1, by go_num, rfl, rfl, HN1.out, ?_, ?_, ?_⟩
                  · rw [List.length_append, HXK.out]; rfl
                  · rw [List.map_append, HXP.out, Ref.linesTo, Ref.linesTo, List.range_succ, List.map_append]
                    simp only [List.map_cons, List.map_nil]
                    rw [HL.out]
                  · refine ⟨(bel5.alloc bel5.size _).grown hgrow6 (by simp; omega) (fun q e => (World.ownsRow.lt deep5 q e).1), own_grow (own_keep str5 b5) hgrow6 kD (by decide), ?_, ?_, ?_, ?_⟩
                    · rw [List.length_append, List.map_append, List.flatMap_append]
                      have : [(⟨L, ⟨ma, mn, mc⟩, ⟨da, dn, dc⟩⟩, Ref.blanks (Ref.pc P k))].map (fun p : Ref.LV × Nat => p.1) = [⟨L, ⟨ma, mn, mc⟩, ⟨da, dn, dc⟩⟩] := rfl
                      rw [this]
                      have e2 : [(⟨L, ⟨ma, mn, mc⟩, ⟨da, dn, dc⟩⟩ : Ref.LV)].flatMap Ref.lvCells = cs := by rw [← HCS.out]; simp
                      rw [e2]
                      exact all6
                    · rw [List.length_append, List.map_append, List.flatMap_append]
                      exact hown6
                    · intro p hp
                      rcases List.mem_append.1 hp with h | h
                      · exact ((ok5 p h).keep b5).grow hgrow6 kD (by decide)
                      · rw [List.mem_singleton.1 h]; exact OK6
                    · intro p hp
                      rcases List.mem_append.1 hp with h | h
                      · exact dp5 p h
                      · rw [List.mem_singleton.1 h]
                        show Ref.blanks (Ref.pc P k) ≤ _
                        omega
end Go.Proofs.YtegmoddppafkfaaGreatDoor
