import Derived.Test.YtkgklodamkkpgaaGreatDoorProg
import Derived.WalkLawsBesides
import Derived.WalkSpells
import Derived.Deep.WholeRow
import Derived.StillTailTactics
import Derived.Deep.RegionHeld
import Derived.PlainAid
import Derived.Deep.Light
import Derived.Lib.ItoaNum
import Derived.Lib.ParseIntB
import Derived.Shelf.Small.Bits
import Derived.Shelf.Spec.TrailingZeros
import Derived.RangeFuncNested
import Derived.RangeFuncBound
import Derived.Shelf.RegionOpen
import Derived.OwnWalkIn
import Derived.LoopNIn
import Derived.LoopIn
set_option maxRecDepth 100000
set_option maxHeartbeats 8000000
namespace Go.Proofs.YtkgklodamkkpgaaGreatDoor
variable {zp:Prop}
theorem zcR (h:zp:=by
 have hp:=OF k;have e1:s=2 ^ k*(2*m+1)+0:=zaa;have e2:s-1=2 ^ k*(2*m)+(2 ^ k-1):=by
  have:2 ^ k*(2*m+1)=2 ^ k*(2*m)+2 ^ k:=by rw [Nat.mul_add,P9]
  omega
 have t1:∀ j,s.testBit j=if j<k then false else (2*m+1).testBit (j-k):=by
  intro j;rw [e1,PR _ hp,Q2]
 have t2:∀ j,(s-1).testBit j=if j<k then (2 ^ k-1).testBit j else (2*m).testBit (j-k):=by
  intro j;rw [e2,PR _ zaa]
 refine ⟨hk,?_,?_,?_⟩
 ·rw [t1,M4 zaa,Qk,Qe];simp
 ·intro j hj;rw [t1,M6 hj]
 ·intro j;rw [Qr,t1,t2];by_cases hj:j<k
  ·rw [M6 hj,M6 hj];rfl
  ·rw [M4 hj,M4 hj];by_cases hjk:j=k
   ·subst hjk;rw [Qk,Qe,Qe];simp
   ·obtain ⟨i,hi⟩:∃ i,j-k=i+1:=⟨j-k-1,zaa⟩;rw [hi,Q3,Q3,show (2*m+1) / 2=m by omega,show 2*m / 2=m by omega];simp [hjk]):zp:=h
theorem zdB (h:zp:=by
 have hc:=hc.cell;rw [Pg.cy,hys] at hc;gi_wp2;refine ⟨zad,.inl ⟨_,_,rfl,NP hK,?_⟩⟩;exact ⟨_,Ra rfl _ _ _,rfl,hB.trans (Po (w:=w) (MR _) W D _ _ zbn hK rfl rfl)⟩):zp:=h
theorem zed (h:zp:=by
 gi_wp2;refine OI (N5 rfl _ _ _) rfl ?_;exact ⟨⟨_,rfl⟩,.inr ⟨_,⟨_,hE.symm⟩,hJx3⟩⟩):zp:=h
theorem zeI (h:zp:=by
 rw [hsn];exact RA (W:=W.drew) _ (show Boxed W.drew _ _ _ from hc)):zp:=h
theorem zeM (h:zp:=by
 have:=Ob s.testBit (List.range 32);rw [Pn] at this;exact this):zp:=h
theorem ze4 (h:zp:=by
 exact ⟨⟨_,rfl⟩,.inl ⟨pre,he.symm,hJs⟩⟩):zp:=h
theorem zfk (h:zp:=by
 rintro D c pre W _ _ h _;exact h.elim):zp:=h
theorem zfp (h:zp:=by
 go_wp2;go_ret;exact ⟨rfl,rfl⟩):zp:=h
theorem zfr (h:zp:=by
 rw [he,hf] at h1;simp at h1;omega):zp:=h
theorem zfs (h:zp:=by
 intro l x W K hK;gi_wp2;exact hK):zp:=h
theorem zfw (h:zp:=by
 go_ret;exact ⟨rfl,rfl⟩):zp:=h
theorem zaa (h:zp:=by omega):zp:=h
theorem zab (h:zp:=by kernel_rfl):zp:=h
theorem zac (h:zp:=by decide):zp:=h
theorem zad (h:zp:=by simp):zp:=h
theorem zae (h:zp:=by simp;omega):zp:=h
theorem zaf (h:zp:=by rfl):zp:=h
theorem zag (h:zp:=by unfold maxLen;omega):zp:=h
theorem zah (h:zp:=by go_num):zp:=h
theorem zai (h:zp:=by (try dsimp only at hSw);go_simp;(try with_reducible rfl)):zp:=h
theorem zal (h:zp:=by assumption):zp:=h
theorem zao (h:zp:=by simp [Value.oneCell']):zp:=h
theorem zat (h:zp:=by cases h):zp:=h
theorem zaC (h:zp:=by simpa using h):zp:=h
theorem zaP (h:zp:=by simp at hi;omega):zp:=h
theorem zaS (h:zp:=by decide +kernel):zp:=h
theorem za5 (h:zp:=by rw [N8];omega):zp:=h
theorem zbi (h:zp:=by rw [h.size];exact MR _):zp:=h
theorem zbj (h:zp:=by rintro ⟨_,_,h⟩;exact h):zp:=h
theorem zbn (h:zp:=by simp at hD;omega):zp:=h
theorem zbr (h:zp:=by simpa using hi):zp:=h
theorem zbt (h:zp:=by simpa using hx):zp:=h
theorem zbV (h:zp:=by simpa [isD] using hd.1):zp:=h
instance:Coe Int Value:=⟨.int .i64⟩
instance:CoeFun Unit fun _=>Nat->Array Value->World->(Ending->World->Prop)->Prop:=⟨fun _=>Calls Tryz.prog⟩
instance:Coe Nat Value:=⟨fun b=>.pointer (some ⟨b,0,none⟩)⟩
instance:Coe World Nat:=⟨fun w=>w.heap.size⟩
instance:Coe Nat Addr:=⟨fun b=>⟨b,0,none⟩⟩
instance:Coe ByteArray Value:=⟨.string⟩
instance:Coe Bool Value:=⟨.bool⟩
abbrev MQ:=@Array.getElem?_eq_some_iff
abbrev MR:=@Nat.le_refl
abbrev MU:=@List.getElem?_eq_getElem
abbrev MX:=@Nat.le_trans
abbrev MY:=@Go.RowKit.Below.refl
abbrev MZ:=@List.getElem?_eq_some_iff
abbrev M0:=@Go.cell_of_row
abbrev M4:=@if_neg
abbrev M5:=@Go.AllReady.cons
abbrev M6:=@if_pos
abbrev M7:=@Go.Calls.mono
abbrev M8:=@List.mem_singleton
abbrev Na:=@Go.heap_alloc_new
abbrev Nc:=@List.mem_of_getElem?
abbrev Nf:=@List.getElem?_map
abbrev Ng:=@List.length_map
abbrev Nh:=@List.getD_eq_getElem?_getD
abbrev Ni:=@Nat.zero_le
abbrev Nj:=@List.length_append
abbrev Nk:=@Go.World.cell?_of_block
abbrev Nl:=@List.length_set
abbrev Nn:=@Go.heap_setCell_same
abbrev No:=@Go.wp_region_held_drew
abbrev Np:=@Go.World.block_lt_of_cell?
abbrev Nq:=@Nat.lt_of_lt_of_le
abbrev Nr:=@List.mem_append
abbrev Ns:=@Go.AllReady.nil
abbrev Nt:=@Go.wpAnyH_done
abbrev Nu:=@List.mem_iff_getElem?
abbrev Nv:=@Option.map_eq_some_iff
abbrev Nw:=@List.getElem?_set_self
abbrev Ny:=@List.getElem?_eq_none
abbrev Nz:=@Go.callsIn_wide
abbrev NA:=@Go.Boxed.new
abbrev NB:=@List.mem_or_eq_of_mem_set
abbrev NC:=@Bool.and_eq_true
abbrev ND:=@Go.World.ownsRow.lt
abbrev NF:=@Go.RowKit.Below.heap_setCell
abbrev NG:=@List.getElem?_set_ne
abbrev NH:=@Go.OwnFrom.and
abbrev NI:=@List.mem_map
abbrev NJ:=@Go.AllReadyH.cons
abbrev NK:=@List.mem_cons_self
abbrev NL:=@List.mem_cons_of_mem
abbrev NM:=@decide_eq_false
abbrev NN:=@Go.World.cell?_alloc_lt
abbrev NO:=@Option.some.inj
abbrev NP:=@Go.run_takeDeferred
abbrev NQ:=@List.flatMap_append
abbrev NR:=@Go.Oper.semAt_some
abbrev NS:=@List.getElem_mem
abbrev NT:=@Nat.lt_of_le_of_lt
abbrev NU:=@Go.World.putObj_heap_other
abbrev NV:=@Nat.or_lt_two_pow
abbrev NW:=@List.map_append
abbrev NX:=@Go.callsIn_of_wp_marks
abbrev NY:=@Go.ByteArray.toList_eq
abbrev NZ:=@decide_eq_true
abbrev N0:=@Go.KeepsOthers.setCell
abbrev N4:=@Go.World.ownsRow_nil
abbrev N5:=@Go.results_none
abbrev N6:=@List.take_length
abbrev N7:=@List.getElem?_append_left
abbrev N8:=@List.length_take
abbrev N9:=@Go.RowKit.Below.heap_alloc
abbrev Oa:=@List.length_cons
abbrev Ob:=@List.length_filter_le
abbrev Oc:=@List.getElem?_take_of_lt
abbrev Od:=@List.mem_range
abbrev Oe:=@List.getElem?_append_right
abbrev Of:=@Go.World.size_alloc
abbrev Og:=@Go.boxed_own
abbrev Oh:=@List.getElem_set
abbrev Oi:=@Classical.byContradiction
abbrev Oj:=@Go.KeepsFrom.refl
abbrev Ok:=@Array.getElem?_toList
abbrev Ol:=@List.flatMap_cons
abbrev Om:=@Go.wpList_load_mid
abbrev On:=@Nat.add_assoc
abbrev Oo:=@Go.Own.from
abbrev Oq:=@Go.wpAny_done
abbrev Ot:=@List.foldl_append
abbrev Ou:=@Go.AllReadyH.nil
abbrev Ov:=@Go.wpStill_nil
abbrev Ow:=@List.getElem_append_right
abbrev OA:=@Array.getElem?_setIfInBounds_ne
abbrev OB:=@Go.info_parts
abbrev OC:=@Go.World.ownsRow.frozenAt
abbrev OD:=@List.getElem_append_left
abbrev OE:=@List.mem_filter
abbrev OF:=@Nat.two_pow_pos
abbrev OG:=@Go.grownBy_putObj'
abbrev OH:=@List.take_add_one
abbrev OI:=@Go.bodyPost_ret
abbrev OJ:=@List.length_pos_iff
abbrev OK:=@Array.getElem?_setIfInBounds_self_of_lt
abbrev OL:=@List.getLast?_eq_getElem?
abbrev OM:=@Nat.pow_le_pow_right
abbrev ON:=@List.filter_append
abbrev OO:=@Go.wp_region_any
abbrev OP:=@List.append_nil
abbrev OQ:=@Nat.and_le_left
abbrev OR:=@Bool.and_false
abbrev OS:=@List.filter_cons_of_neg
abbrev OT:=@List.filter_cons_of_pos
abbrev OU:=@Go.World.frozen?_alloc_old
abbrev OV:=@List.append_assoc
abbrev OW:=@Go.World.putObj_heap_same
abbrev OX:=@Go.ownFrom_below
abbrev OY:=@beq_eq_false_iff_ne
abbrev OZ:=@List.length_singleton
abbrev O0:=@List.map_set
abbrev O1:=@List.length_eq_zero_iff
abbrev O2:=@List.mem_of_getLast?
abbrev O3:=@Go.RowKit.Below.block
abbrev O4:=@List.pairwise_cons
abbrev O5:=@List.mem_cons
abbrev O6:=@Nat.lt_or_ge
abbrev O7:=@Go.World.ownsRow.alloc
abbrev O8:=@List.mem_map_of_mem
abbrev O9:=@List.eq_nil_of_length_eq_zero
abbrev Pa:=@Go.below_drewN
abbrev Pb:=@List.getElem?_set
abbrev Pc:=@List.ext_getElem?
abbrev Pd:=@Nat.zero_add
abbrev Pe:=@Go.Proofs.enters_of
abbrev Pf:=@List.getElem_map
abbrev Ph:=@List.getElem?_cons_succ
abbrev Pj:=@List.map_cons
abbrev Pk:=@Bool.false_and
abbrev Pl:=@List.filter_eq_nil_iff
abbrev Pm:=@List.filter_congr
abbrev Pn:=@List.length_range
abbrev Po:=@Go.belowK_b
abbrev Pp:=@List.getElem_of_mem
abbrev Pq:=@List.getLast?_eq_none_iff
abbrev Pr:=@Go.World.frozen?_setCell
abbrev Ps:=@List.getElem?_toArray
abbrev Pt:=@List.getElem_set_self
abbrev Pu:=@Go.u32_or_nat
abbrev Pv:=@List.mem_flatMap
abbrev Pw:=@List.any_eq_true
abbrev PB:=@Go.World.cell?_setCell_same
abbrev PC:=@List.eq_of_mem_replicate
abbrev PD:=@List.map_map
abbrev PE:=@Nat.mul_le_mul_right
abbrev PG:=@List.mem_of_mem_take
abbrev PH:=@Int.toNat_natCast
abbrev PI:=@of_decide_eq_true
abbrev PJ:=@List.foldl_cons
abbrev PK:=@Go.Proofs.Tryz.zeroValue4
abbrev PN:=@Go.setRow_other
abbrev PO:=@Go.ByteArray.size_append'
abbrev PQ:=@Bool.true_or
abbrev PR:=@Nat.testBit_two_pow_mul_add
abbrev PU:=@Go.WideMaps.keyOf_string_mk
abbrev PW:=@Go.World.frozen?_of_block
abbrev PX:=@List.all_eq_true
abbrev PY:=@List.isEmpty_iff
abbrev PZ:=@Go.KeepsOthers.drew
abbrev P0:=@Array.toList_setIfInBounds
abbrev P1:=@List.getElem?_take
abbrev P2:=@Go.Maps.has_put_other
abbrev P3:=@Array.getElem?_eq_getElem
abbrev P4:=@List.drop_eq_getElem_cons
abbrev P5:=@List.getElem?_eq_none_iff
abbrev P6:=@Array.all_eq_true_iff_forall_mem
abbrev P7:=@decide_eq_true_eq
abbrev P8:=@Nat.pow_lt_pow_right
abbrev P9:=@Nat.mul_one
abbrev Qa:=@Nat.testBit_two_pow
abbrev Qb:=@Go.wpIn_rangeFunc_ownH
abbrev Qc:=@Nat.le_add_right
abbrev Qd:=@Go.IntKind.wrap_u64
abbrev Qe:=@Nat.testBit_zero
abbrev Qf:=@Nat.and_le_right
abbrev Qg:=@Go.u32_and_nat
abbrev Qh:=@Go.Lib.size_eq
abbrev Qi:=@Go.leaves_cons
abbrev Qj:=@Go.Proofs.Tryz.sizeOf4
abbrev Qk:=@Nat.sub_self
abbrev Ql:=@List.set_set
abbrev Qm:=@List.length_take_of_le
abbrev Qn:=@List.filter_filter
abbrev Qo:=@Nat.testBit_shiftRight
abbrev Qp:=@Nat.div_div_eq_div_mul
abbrev Qq:=@List.mem_of_mem_eraseP
abbrev Qr:=@Nat.testBit_and
abbrev Qs:=@Nat.not_lt_zero
abbrev Qt:=@List.nodup_cons
abbrev Qu:=@List.any_append
abbrev Qv:=@Bool.true_and
abbrev Qw:=@List.contains_iff_mem
abbrev Qx:=@List.set_append_right
abbrev Qy:=@Nat.lt_trichotomy
abbrev Qz:=@Go.Proofs.Tryz.isAgg4
abbrev QA:=@Go.Maps.string_keyed
abbrev QB:=@List.mem_of_mem_drop
abbrev QC:=@List.exists_cons_of_ne_nil
abbrev QD:=@Go.wp_loop_rounds
abbrev QE:=@Go.Proofs.bits_and_u32_nat
abbrev QF:=@getElem!_pos
abbrev QG:=@List.length_drop
abbrev QH:=@List.filter_cons
abbrev QI:=@Go.wpIn_rangeFunc_ownF
abbrev QJ:=@Go.World.cell?_setCells_out
abbrev QK:=@Bool.or_false
abbrev QL:=@List.set_eq_of_length_le
abbrev QM:=@Bool.eq_iff_iff
abbrev QN:=@Go.Proofs.Tryz.zeroValue3
abbrev QO:=@List.range_succ
abbrev QP:=@List.filter_map
abbrev QQ:=@Go.Maps.atKey_put_other
abbrev QR:=@Go.getD_set_ne
abbrev QS:=@List.findIdx?_eq_some_iff_getElem
abbrev QT:=@List.all_eq_false
abbrev QU:=@Nat.zero_mul
abbrev QV:=@Nat.testBit_lt_two_pow
abbrev QW:=@List.getElem?_inj
abbrev QX:=@Go.Maps.atKey_put_same
abbrev QY:=@List.flatMap_singleton
abbrev QZ:=@Nat.le_succ_of_le
abbrev Q0:=@List.any_eq_false
abbrev Q1:=@List.mem_set
abbrev Q2:=@Nat.zero_testBit
abbrev Q3:=@Nat.testBit_succ
abbrev Q4:=@List.all_cons
abbrev Q5:=@Bool.false_or
abbrev Q6:=@Go.callsIn_of_wp
abbrev Q7:=@List.sum_cons
abbrev Q8:=@Go.setRow_size
abbrev Q9:=@Go.Lib.bitLenAux_bounds
abbrev Ra:=@Go.results_tmp
abbrev Rb:=@List.getElem?_of_mem
abbrev Rc:=@List.mem_append_left
abbrev Re:=@Go.rounds_succ
abbrev Rg:=@Nat.div_le_div_right
abbrev Rh:=@UInt8.toNat_inj
abbrev Ri:=@Go.Proofs.Tryz.zeroValue5
abbrev Rj:=@Nat.testBit_two_pow_sub_succ
abbrev Rl:=@List.prefix_append_right_inj
abbrev Rn:=@Nat.min_eq_left
abbrev Ro:=@List.zip_append
abbrev Rp:=@List.length_reverse
abbrev Rr:=@Go.run_enterLoop_outer
abbrev Rs:=@List.map_congr_left
abbrev Rt:=@List.getElem?_range
abbrev Ru:=@Nat.pow_succ
abbrev Rv:=@Go.Proofs.Tryz.sizeOf3
abbrev Rx:=@Nat.succ_mul
abbrev Ry:=@Bool.or_true
abbrev Rz:=@Nat.add_zero
abbrev RA:=@Go.Boxed.set
abbrev RB:=@Nat.add_sub_cancel
abbrev RC:=@Go.u32_andNot_nat
abbrev RD:=@Go.World.ownsMap_made
abbrev RE:=@Array.getElem?_append_left
abbrev RF:=@List.prefix_append
abbrev RG:=@beq_iff_eq
abbrev RH:=@Go.ready_mono
abbrev RI:=@Go.wpAnyH_take
abbrev RJ:=@Bool.not_eq_true'
abbrev RK:=@Go.Proofs.Tryz.isAgg3
abbrev RL:=@Go.ownFrom_keepsFrom
abbrev RM:=@Go.KeepsOthers.alloc
abbrev RN:=@Go.run_endLoop
abbrev RO:=@Go.setRow_heap
abbrev RP:=@Nat.lt_succ_of_lt
abbrev RQ:=@Go.plainElem_int
abbrev RR:=@List.cons_append
abbrev RS:=@List.mem_reverse
abbrev RT:=@Go.grownBy_setCell'
abbrev RU:=@Go.wpIn_wide
abbrev RV:=@Go.run_store
abbrev RW:=@Nat.lt_succ_self
abbrev RX:=@Go.wpAny_take
abbrev RY:=@Nat.ne_of_lt
abbrev RZ:=@Nat.le_of_lt
abbrev R1:=@List.prefix_rfl
abbrev R3:=@List.sum_append
abbrev R4:=@List.nil_append
abbrev R5:=@Nat.testBit_or
abbrev R6:=@List.nodup_nil
abbrev R7:=@Nat.le_zero
abbrev R8:=@Go.Lib.mk_data
abbrev R9:=@Go.wpOp_mono
abbrev Sc:=@Go.mem_ready
open Tryz
variable {g B t id base size n i k s b off cap:Nat} {w' W W':World} {p:Tmp} {c:Int} {op o:Oper} {rest:List Oper} {fn:Func} {ty e:TypeId} {R:Ending->World->Prop} {l:List ByteArray} {xs:List Value} {args:Array Value}
section
open Go.RowKit
variable {P:Program}
structure gY (g:Nat) (w w':World):Prop where
 os:w'.os=w.os
 tape:w'.tape=w.tape
 output:w'.output=w.output
 size:w'.heap.size=w.heap.size
 block:∀ k,k≠g->w'.heap[k]?=w.heap[k]?
theorem gY.below {a w:World} (h:gY g w w') (hb:Below B a w) (hB:B<=g):Below B a w' :=
 hb.trans ⟨h.os,h.tape,h.output,zbi,fun k hk=>h.block k zaa⟩
theorem gY.cell {w:World} (h:gY g w w') {p:Addr} (hp:p.block≠g):w'.cell? p=w.cell? p:=Nk (w:=w) (h.block p.block hp)
theorem gS (w:World) (g:Nat) (cs:Array Value):gY g w (w.setRow g cs):=⟨rfl,rfl,rfl,Q8 w g cs,fun k hk=>PN w g k cs hk⟩
theorem aa (w:World) (g o:Nat) (v:Value):gY g w (w.setCell ⟨g,o,none⟩ v):=⟨rfl,rfl,rfl,by simp [World.setCell],fun k hk=>NF _ _ _ _ hk⟩
theorem gY.J5 {w:World} (h:gY g w.drew w'):gY g w w':=⟨h.os,h.tape,h.output,h.size,h.block⟩
theorem kC {w:World} {c:Array Value} {t:TypeId} {fz:Nat×Nat} (hg:w.heap[g]?=some (.cells c t fz)):w.rangeAt g 0 c.toList:=by
 intro j v hj;rw [Pd,M0 w g j c t fz hg];simpa using hj
theorem yt {cells:Array Value} (h:cells.toList.all (·.oneCell')=true):cells.all (·.oneCell')=true:=by
 rw [P6];intro v hv;exact PX.1 h v (by simpa using hv)
theorem kJ {a:Act} {w:World} {K:Act->World->Prop} {Q:Exit->Act->World->Prop} (ty:TypeId) (x y:Operand) (ho:op.op = .store ty x y)
  (g:Nat) (t:TypeId) (c cells:Array Value) (hx:a.eval x = .pointer (some ⟨g,0,none⟩)) (hy:a.eval y = .agg cells)
  (hg:w.heap[g]?=some (.cells c t (0,0))) (hi:(P.info? ty).map (·.size)=some cells.size) (hs:c.size=cells.size) (h1:cells.toList.all (·.oneCell')=true)
  (h:K (a.put op.dst undef) (w.setRow g cells)):op.wp P a w K Q:=by
 unfold Oper.wp execOp;simp only [ho,hx,hy,Instr.storeAt,Instr.sureAddr,Sem.run_bind,Sem.run_pure,Result.andThen_ok,run_storeVar_row w g t ty c cells hg hi hs (yt h1)];exact h
theorem eP {ops:Array Oper} {a:Act} {w:World} {Q:Exit->Act->World->Prop} (hgd:op.guard=none) (ty:TypeId) (x y:Operand) (ho:op.op = .store ty x y)
  (g:Nat) (t:TypeId) (c cells:Array Value) (hx:a.eval x = .pointer (some ⟨g,0,none⟩)) (hy:a.eval y = .agg cells)
  (hg:w.heap[g]?=some (.cells c t (0,0))) (hi:(P.info? ty).map (·.size)=some cells.size) (hs:c.size=cells.size) (h1:cells.toList.all (·.oneCell')=true)
  (h:wpList P ops Q rest (a.put op.dst undef) (w.setRow g cells)):wpList P ops Q (op::rest) a w :=
 wpList_plain hgd fun _ hK=>kJ ty x y ho g t c cells hx hy hg hi hs h1 (hK _ _ h)
theorem aI {ops:Array Oper} {a:Act} {w:World} {Q:Exit->Act->World->Prop} (hgd:op.guard=none) (ty:TypeId) (x y:Operand) (ho:op.op = .store ty x y)
  (t:TypeId) (c cells:Array Value) (hx:a.eval x = .pointer (some ⟨w,0,none⟩)) (hy:a.eval y = .agg cells)
  (hi:(P.info? ty).map (·.size)=some cells.size) (hs:c.size=cells.size) (h1:cells.toList.all (·.oneCell')=true)
  (h:wpList P ops Q rest (a.put op.dst undef) (w.alloc (.cells cells t))):wpList P ops Q (op::rest) a (w.alloc (.cells c t)) :=
 eP hgd ty x y ho w t c cells hx hy (Na w _) hi hs h1 (by rw [World.setRow_alloc_new];exact h)
theorem iB (h:fn.results=#[.cell p ty]) (tmps:Array Value) (P:Program) (w:World) :
  (results fn tmps).run P w=((asAddr (tmps.getD p undef)).run P w).andThen fun a w₁=>(loadVar ty a).run P w₁:=by
 simp only [results,h];simp [Sem.run_bind,Result.andThen]
theorem dP {a:Act} {w:World} (h:fn.results=#[.cell p ty]) (g:Nat) (t:TypeId) (c:Array Value) (fz:Nat×Nat) (d:TypeDesc)
  (hp:a.tmps.getD p undef = .pointer (some ⟨g,0,none⟩)) (hg:w.heap[g]?=some (.cells c t fz)) (hu:P.underlying ty=some d) (hd:d.isRow=true) (hi:(P.info? ty).map (·.size)=some c.size)
  (hdf:a.defers=[]) (hR:R (.returned (.agg c)) w):bodyPost P fn R .ret a w:=by
 refine OI (v := .agg c) ?_ hdf hR;rw [iB h,hp];have:=run_loadVar_mid (P:=P) w g 0 ty c.toList d (kC hg) hu hd zbr;simpa [asAddr] using this
theorem dU {Q:Exit->Act->World->Prop} {a:Act} {w:World} {l:List Oper} (n:Nat) (hm:P.follows .mixedOrders=true) (hB:Region.lexTailB .any l.toArray n=true)
  (h:wpStill P l.toArray w.drew (fun a'=>wpList P l.toArray Q (l.drop n) a' w.drew) (l.take n) a):(Code.region id l.toArray true).wp P Q a w :=
 wp_region_still_tail n hm hB h
theorem aD {base':Nat} {v:Value} {w:World} (h:w.ownsRow base e size v n xs) (hb:base'<=base):w.ownsRow base' e size v n xs:=by
 refine ⟨h.1,?_⟩
 rcases h.2 with h' | ⟨k,cap,cur,hv,hb',r⟩
 ·exact .inl h'
 ·exact .inr ⟨k,cap,cur,hv,zaa,r⟩
theorem bR (w:World) (o p:Obj):((w.alloc o).alloc p).heap[w.heap.size+1]?=some p:=by
 have:=Na (w.alloc o) p
 rwa [Of] at this
theorem eN (w:World) (o p:Obj):((w.alloc o).alloc p).heap[w.heap.size]?=some o:=by
 rw [N9 _ _ _ zad];exact Na w o
theorem dR {P:Program} {md:Region.Mode} {ops:Array Oper} {Q:Exit->Act->World->Prop} {S:World->Prop} {oi:Oper} {v:Value} {d:Option Tmp} {fuel:Nat} {listed:Array Bool} {a:Act} {w:World} (hi:ops[i]?=some oi) (hd:oi.dst=d)
  (hs:Region.noSelect ops=true) (hf:Region.free md ops listed i=true) (hr:(Region.ready md ops listed).contains i=true)
  (hQ:∀ c a w,Q (.panic c) (a.put d v) w->Q (.panic c) a w) (hy:YieldsIf P ops S oi v a) (hS:S w)
  (h:wpAnyH P md ops Q S fuel (listed.setIfInBounds i true) (a.put d v) w):wpAnyH P md ops Q S (fuel+1) listed a w:=by
 subst hd;exact RI hi hs hf hr hQ hy hS h
section
variable {P:Program} {md:Region.Mode} {ops:Array Oper} {Q:Exit->Act->World->Prop} {S:World->Prop} {oi:Oper} {fuel:Nat} {listed:Array Bool} {a:Act} {w:World}
theorem tH (i:Nat) (v:Value) (hi:ops[i]?=some oi) (hS:S w) (h:wpAnyH P md ops Q S fuel (listed.setIfInBounds i true) (a.put oi.dst v) w) (hs:Region.noSelect ops=true:=by kernel_rfl) (hf:Region.free md ops listed i=true:=by kernel_rfl) (hr:(Region.ready md ops listed).contains i=true:=by kernel_rfl) (hQ:∀ c a w,Q (.panic c) (a.put oi.dst v) w->Q (.panic c) a w:=by exact fun _ _ _ h=>h) (hy:YieldsIf P ops S oi v a:=by exact Or.inl ⟨zaf,fun w hSw=>zai⟩):wpAnyH P md ops Q S (fuel+1) listed a w:=RI hi hs hf hr hQ hy hS h
theorem tG (i:Nat) (v:Value) (hi:ops[i]?=some oi) (hS:S w) (h:wpAnyH P md ops Q S fuel (listed.setIfInBounds i true) (a.put oi.dst v) w) (hs:Region.noSelect ops=true:=by kernel_rfl) (hf:Region.free md ops listed i=true:=by kernel_rfl) (hr:(Region.ready md ops listed).contains i=true:=by kernel_rfl) (hQ:∀ c a w,Q (.panic c) (a.put oi.dst v) w->Q (.panic c) a w:=by exact fun _ _ _ h=>h) (hy:YieldsIf P ops S oi v a:=by exact Or.inl ⟨zab,fun w hSw=>zai⟩):wpAnyH P md ops Q S (fuel+1) listed a w:=RI hi hs hf hr hQ hy hS h
theorem tD (d:Option Tmp) (i:Nat) (v:Value) (hi:ops[i]?=some oi) (hS:S w) (h:wpAnyH P md ops Q S fuel (listed.setIfInBounds i true) (a.put d v) w) (hd:oi.dst=d:=by rfl) (hs:Region.noSelect ops=true:=by kernel_rfl) (hf:Region.free md ops listed i=true:=by kernel_rfl) (hr:(Region.ready md ops listed).contains i=true:=by kernel_rfl) (hQ:∀ c a w,Q (.panic c) (a.put d v) w->Q (.panic c) a w:=by exact fun _ _ _ h=>h) (hy:YieldsIf P ops S oi v a:=by exact Or.inl ⟨zaf,fun w hSw=>zai⟩):wpAnyH P md ops Q S (fuel+1) listed a w:=dR hi hd hs hf hr hQ hy hS h
theorem tU (d:Option Tmp) (i:Nat) (hi:ops[i]?=some oi) (hS:S w) (h:wpAnyH P md ops Q S fuel (listed.setIfInBounds i true) (a.put d undef) w) (hd:oi.dst=d:=by rfl) (hs:Region.noSelect ops=true:=by kernel_rfl) (hf:Region.free md ops listed i=true:=by kernel_rfl) (hr:(Region.ready md ops listed).contains i=true:=by kernel_rfl) (hQ:∀ c a w,Q (.panic c) (a.put d undef) w->Q (.panic c) a w:=by exact fun _ _ _ h=>h) (hy:YieldsIf P ops S oi undef a:=by exact Or.inr ⟨zab,rfl⟩):wpAnyH P md ops Q S (fuel+1) listed a w:=dR hi hd hs hf hr hQ hy hS h
theorem tA (i:Nat) (v:Value) (hi:ops[i]?=some oi) (h:wpAny P md ops Q fuel (listed.setIfInBounds i true) (a.put oi.dst v) w) (hs:Region.noSelect ops=true:=by kernel_rfl) (hf:Region.free md ops listed i=true:=by kernel_rfl) (hr:(Region.ready md ops listed).contains i=true:=by kernel_rfl) (hQ:∀ c a w,Q (.panic c) (a.put oi.dst v) w->Q (.panic c) a w:=by exact fun _ _ _ h=>h) (hy:Yields P ops oi v a:=by exact Or.inl ⟨zaf,fun w=>by go_simp⟩):wpAny P md ops Q (fuel+1) listed a w:=RX hi hs hf hr hQ hy h
theorem yH (rs:List Nat) (h:AllReadyH P md ops Q S fuel listed a w rs) (hr:Region.ready md ops listed=rs:=by kernel_rfl) (hne:rs≠[]:=by simp):wpAnyH P md ops Q S (fuel+1) listed a w:=wpAnyH_ready hr hne h
theorem zH (i:Nat) (ho:ops[i]?=some oi) (h:∀ K':Act->World->Prop,Shut (∀ a w,S w->(S w->wpAnyH P md ops Q S fuel (listed.setIfInBounds i true) a w)->K' a w)->if Region.wanted oi (yielded ops a.tmps)=true then Oper.wp P oi a w K' Q else K' (a.put oi.dst undef) w) (hr:Region.ready md ops listed=[i]:=by kernel_rfl):wpAnyH P md ops Q S (fuel+1) listed a w:=wpAnyH_ready hr zad (NJ ho h Ou)
theorem yA (rs:List Nat) (h:AllReady P md ops Q fuel listed a w rs) (hr:Region.ready md ops listed=rs:=by kernel_rfl) (hne:rs≠[]:=by simp):wpAny P md ops Q (fuel+1) listed a w:=wpAny_ready hr hne h
theorem zA (i:Nat) (ho:ops[i]?=some oi) (h:∀ K':Act->World->Prop,(∀ a w,wpAny P md ops Q fuel (listed.setIfInBounds i true) a w->K' a w)->if Region.wanted oi (yielded ops a.tmps)=true then Oper.wp P oi a w K' Q else K' (a.put oi.dst undef) w) (hr:Region.ready md ops listed=[i]:=by kernel_rfl):wpAny P md ops Q (fuel+1) listed a w:=wpAny_ready hr zad (M5 ho h Ns)
end
end
section
open Go.RowKit
open Go.PlainAid (bt get_bt bt_nonneg bt_le bt_end)
namespace Ref
theorem CY (a b:ByteArray):(a.toList == b.toList)=decide (a=b):=by
 rw [QM];simp only [beq_iff_eq,decide_eq_true_eq,Lib.toList_data];constructor
 ·intro h;cases a;cases b
  simp only at h
  congr 1
  exact Array.ext' h
 ·intro h;rw [h]
def cB (s t:ByteArray):Bool:=decide (t.size<=s.size)&&decide (s.extract 0 t.size=t)
def fj (a b:Int):Int:=if a=0\/b<a then b else a
def small (x:Int):Bool:=decide (97<=x)&&decide (x<=122)
def more (x:Int):Bool:=decide (x=95)||(decide (48<=x)&&decide (x<=57))
def iX (s:ByteArray) (i:Nat):Bool:=small (bt s i)||(decide (i≠0)&&more (bt s i))
def plain (s:ByteArray):Bool:=(List.range s.size).all (iX s)&&(decide (0<s.size)&&decide (s.size<=8))
theorem DI {p:Nat->Bool} (h:∀ j,j<n->p j=true):(List.range n).all p=true:=by
 rw [PX];intro x hx;exact h x (Od.1 hx)
theorem ub {p:Nat->Bool} (hk:k<n) (h:p k=false):(List.range n).all p=false:=by
 rw [QT];exact ⟨k,Od.2 hk,by simp [h]⟩
theorem vA (s:ByteArray):iX s 0=small (bt s 0):=by simp [iX]
theorem xC {s:ByteArray} (h:Hid (∀ j,j<k->iX s j=true)) (hk:iX s k=true):∀ j,j<k+1->iX s j=true:=by
 intro j hj;by_cases e:j=k
 ·rw [e];exact hk
 ·exact h.out j zaa
def dec (n:Nat):ByteArray:=⟨(Lib.decDigits n).toArray⟩
theorem uG (h:n<10):dec n=⟨#[UInt8.ofNat (48+n)]⟩:=by
 unfold dec;rw [Lib.decDigits_one h]
theorem Jf (h:¬ n<10):dec n=dec (n / 10)++⟨#[UInt8.ofNat (48+n % 10)]⟩:=by
 unfold dec
 conv=>lhs;rw [Lib.decDigits,dif_neg h]
 apply ByteArray.ext
 simp
theorem yJ:∀ (k n:Nat),n<10 ^ (k+1)->(dec n).size<=k+1
 | 0,n,h=>by rw [uG zaC];exact MR 1
 | k+1,n,h=>by
  by_cases h9:n<10
  ·rw [uG h9];exact Nat.le_add_left 1 (k+1)
  ·rw [Jf h9,PO];have:=yJ k (n / 10) (by rw [Ru] at h;omega);have e:(ByteArray.mk #[UInt8.ofNat (48+n % 10)]).size=1:=rfl;omega
theorem rE (h:n<=18446744073709551615):(dec n).size<=20:=yJ 19 n zaa
def jN (x:Int):Bool:=decide (48<=x)&&decide (x<=57)
def val (s:ByteArray):Nat->Nat
 | 0=>0
 | k+1=>val s k*10+((bt s k).toNat-48)
def m64 (n:Nat):Int:=IntKind.u64.wrap n
def ED:ByteArray:=⟨#[49,56,52,52,54,55,52,52,48,55,51,55,48,57,53,53,49,54,49,53]⟩
def rj (s:ByteArray):Bool:=s.toList.isEmpty||(decide (1<s.size)&&decide (bt s 0=48))||decide (20<s.size)||(decide (s.size=20)&&(!Op.bytesLess s.toList ED.toList && !(s.toList == ED.toList)))
def cC (s:ByteArray):Bool:=(List.range s.size).all (fun i=>jN (bt s i)) && !rj s
theorem isEmpty_eq (s:ByteArray):s.toList.isEmpty=decide (s.size=0):=by
 rw [Lib.toList_data,QM,PY,P7];exact ⟨fun h=>by show s.data.size=0;rw [<- Array.length_toList,h];rfl,fun h=>O9 (by rw [Array.length_toList];exact h)⟩
def dV (s:ByteArray):Int:=if cC s then m64 (val s s.size) else 0
end Ref
namespace Num
def isD (c:UInt8):Bool:=decide (48<=c.toNat)&&decide (c.toNat<=57)
def num (acc:Nat) (l:List UInt8):Nat:=l.foldl (fun a c=>a*10+(c.toNat-48)) acc
theorem lI (acc:Nat) (c:UInt8) (r:List UInt8):num acc (c::r)=num (acc*10+(c.toNat-48)) r:=by unfold num;rw [PJ]
theorem LA (l:List UInt8):∀ acc:Nat,acc<=num acc l:=by
 induction l with
 | nil=>exact fun acc=>MR _
 | cons c r ih =>
  intro acc;have h1:=ih (acc*10+(c.toNat-48));rw [lI];exact MX (MX (Nat.le_mul_of_pos_right acc zac) (Qc _ _)) h1
theorem oz:∀ (l:List UInt8) (acc:Nat),l.all isD=true->acc<=18446744073709551615->Lib.parseUintM 18446744073709551615 acc l=if num acc l<=18446744073709551615 then .ok (num acc l) else .range
 | [],acc,_,h=>by rw [Lib.parseUintM,M6 (show num acc []<=_ from h)];rfl
 | c::r,acc,hd,h=>by
  rw [Q4,NC] at hd;have hc:48<=c.toNat/\c.toNat<=57:=zbV;have hg:=LA r (acc*10+(c.toNat-48));rw [Lib.parseUintM,M6 hc,lI];by_cases h1:1844674407370955162<=acc
  ·rw [M6 h1,M4 zaa]
  ·rw [M4 h1];by_cases h2:18446744073709551615<acc*10+(c.toNat-48)
   ·rw [M6 h2,M4 zaa]
   ·rw [M4 h2,oz r _ hd.2 zaa]
theorem zS {M u:Nat}:∀ (l:List UInt8) (acc:Nat),Lib.parseUintM M acc l = .ok u->l.all isD=true
 | [],_,_=>rfl
 | c::r,acc,h=>by
  rw [Lib.parseUintM] at h;by_cases hc:48<=c.toNat/\c.toNat<=57
  ·rw [M6 hc] at h;split at h
   ·cases h
   ·split at h
    ·cases h
    ·rw [Q4,zS r _ h,Bool.and_true];simp [isD,hc]
  ·rw [M4 hc] at h;cases h
theorem xy:∀ (l:List UInt8) (acc:Nat),num acc l=acc*10 ^ l.length+num 0 l
 | [],acc=>by simp [num]
 | c::r,acc=>by
  rw [lI,lI,xy r (acc*10+(c.toNat-48)),xy r (0*10+(c.toNat-48)),Oa,Ru,Nat.add_mul,QU,Pd,Nat.mul_assoc,Nat.mul_comm 10 (10 ^ r.length),On]
theorem om (c:UInt8) (r:List UInt8):num 0 (c::r)=(c.toNat-48)*10 ^ r.length+num 0 r:=by
 rw [lI,xy,QU,Pd]
theorem xz:∀ l:List UInt8,l.all isD=true->num 0 l<10 ^ l.length
 | [],_=>by decide
 | c::r,hd=>by
  rw [Q4,NC] at hd;have hc:48<=c.toNat/\c.toNat<=57:=zbV;have ih:=xz r hd.2;rw [om,Oa,Ru];have h9:(c.toNat-48)*10 ^ r.length<=9*10 ^ r.length:=PE _ zaa;omega
theorem Df:∀ a b:List UInt8,a.all isD=true->b.all isD=true->a.length=b.length->(num 0 a<num 0 b↔Op.bytesLess a b=true)/\(num 0 a=num 0 b↔a=b)
 | [],[],_,_,_=>⟨by simp [num,Op.bytesLess],zad⟩
 | [],_::_,_,_,h=>by simp at h
 | _::_,[],_,_,h=>by simp at h
 | x::p,y::q,ha,hb,h=>by
  rw [Q4,NC] at ha hb;have hx:48<=x.toNat/\x.toNat<=57:=by simpa [isD] using ha.1
  have hy:48<=y.toNat/\y.toNat<=57:=by simpa [isD] using hb.1
  have hl:p.length=q.length:=zaC;have ih:=Df p q ha.2 hb.2 hl;have lp:=xz p ha.2;have lq:=xz q hb.2;rw [om,om,<- hl];rw [<- hl] at lq
  rcases Qy x.toNat y.toNat with h1 | h1 | h1
  ·have hm:(x.toNat-48+1)*10 ^ p.length<=(y.toNat-48)*10 ^ p.length:=PE _ zaa;rw [Nat.add_mul,Nat.one_mul] at hm;have hlt:x<y:=UInt8.lt_iff_toNat_lt.2 h1;refine ⟨⟨fun _=>by simp [Op.bytesLess,hlt],fun _=>zaa⟩,⟨fun e=>zaa,fun e => ?_⟩⟩;cases e;omega
  ·have hxy:x=y:=Rh.1 h1;subst hxy;refine ⟨⟨fun e => ?_,fun e => ?_⟩,⟨fun e => ?_,fun e => ?_⟩⟩
   ·have:=ih.1.1 zaa;simp [Op.bytesLess,this]
   ·have:Op.bytesLess p q=true:=by simpa [Op.bytesLess] using e
    have:=ih.1.2 this;omega
   ·rw [ih.2.1 zaa]
   ·cases e;rfl
  ·have hm:(y.toNat-48+1)*10 ^ p.length<=(x.toNat-48)*10 ^ p.length:=PE _ zaa;rw [Nat.add_mul,Nat.one_mul] at hm;have hlt:¬ x<y:=fun h=>by have:=UInt8.lt_iff_toNat_lt.1 h;omega
   have hne:¬ x=y:=fun e=>by rw [e] at h1;omega
   refine ⟨⟨fun e=>zaa,fun e => ?_⟩,⟨fun e=>zaa,fun e => ?_⟩⟩
   ·simp [Op.bytesLess,hlt,hne] at e
   ·cases e;omega
theorem wH {s:ByteArray} (h:k<s.data.toList.length):bt s k=((s.data.toList[k]).toNat:Int):=by
 have h':k<s.size:=zaC;rw [<- get_bt s k h'];rfl
theorem uJ (s:ByteArray):(List.range s.size).all (fun i=>Ref.jN (bt s i))=s.data.toList.all isD:=by
 rw [QM,PX,PX];have hsz:s.size=s.data.toList.length:=zad;constructor
 ·intro h c hc;obtain ⟨k,hk,rfl⟩:=List.mem_iff_getElem.1 hc;have:=h k (Od.2 zaa);rw [wH hk] at this;simp only [Ref.jN,Bool.and_eq_true,decide_eq_true_eq] at this;simp only [isD,Bool.and_eq_true,decide_eq_true_eq];omega
 ·intro h i hi;rw [Od] at hi;have hk:i<s.data.toList.length:=zaa;have:=h _ (NS hk);rw [wH hk];simp only [isD,Bool.and_eq_true,decide_eq_true_eq] at this;simp only [Ref.jN,Bool.and_eq_true,decide_eq_true_eq];omega
theorem ID (s:ByteArray):∀ k,k<=s.size->Ref.val s k=num 0 (s.data.toList.take k)
 | 0,_=>rfl
 | k+1,h=>by
  have hsz:s.size=s.data.toList.length:=zad;have hk:k<s.data.toList.length:=zaa;rw [Ref.val,ID s k zaa,List.take_succ_eq_append_getElem hk,wH hk];unfold num;rw [Ot];simp
theorem Kx (s:ByteArray):Ref.val s s.size=num 0 s.data.toList:=by
 rw [ID s s.size (MR _)]
 congr 1
 exact List.take_of_length_le zad
theorem BZ {l:List UInt8} (hd:l.all isD=true) (hl:1<l.length) (h0:∀ c,l.head?=some c->¬ c.toNat=48):10 ^ (l.length-1)<=num 0 l:=by
 cases l with
 | nil=>simp at hl
 | cons c r =>
  rw [Q4,NC] at hd;have hc:48<=c.toNat/\c.toNat<=57:=zbV;have:=h0 c rfl;rw [om,Oa,RB];have hm:1*10 ^ r.length<=(c.toNat-48)*10 ^ r.length:=PE _ zaa;omega
theorem GZ:num 0 Ref.ED.data.toList=18446744073709551615:=zac
theorem Hd (s:ByteArray) (h:¬ (1<s.size/\bt s 0=48)):(∀ u,Lib.parseUintB 64 s.data.toList = .ok u->Ref.cC s=true/\Ref.dV s=(u:Nat))/\((∀ u,Lib.parseUintB 64 s.data.toList ≠ .ok u)->Ref.cC s=false):=by
 have hsz:s.size=s.data.toList.length:=zad;have hlist:s.toList=s.data.toList:=Lib.toList_data s;by_cases hd:s.data.toList.all isD=true
 ·by_cases he:s.size=0
  ·have hnil:s.data.toList=[]:=O9 zaa;refine ⟨fun u hu => ?_,fun _ => ?_⟩
   ·rw [Lib.parseUintB,M6 hnil] at hu;cases hu
   ·rw [Ref.cC,Ref.rj,Ref.isEmpty_eq,NZ he,PQ,PQ,PQ,Bool.not_true,OR]
  ·have hne:¬ s.data.toList=[]:=fun e=>he (by rw [hsz,e];rfl);have hp:Lib.parseUintB 64 s.data.toList=if num 0 s.data.toList<=18446744073709551615 then .ok (num 0 s.data.toList) else .range:=by
    rw [Lib.parseUintB,M4 hne];exact oz _ 0 hd zac
   have hbad:Ref.rj s=decide (18446744073709551615<num 0 s.data.toList):=by
    rw [Ref.rj,Ref.isEmpty_eq,NM he,Q5];have h1:(decide (1<s.size)&&decide (bt s 0=48))=false:=by
     rw [Bool.and_eq_false_iff];by_cases h1:1<s.size
     ·exact .inr (NM fun h2=>h ⟨h1,h2⟩)
     ·exact .inl (NM h1)
    rw [h1,Q5]
    rcases Qy s.size 20 with h2 | h2 | h2
    ·rw [NM (show ¬ 20<s.size by omega),NM (show ¬ s.size=20 by omega),Pk,Q5]
     symm
     apply NM
     have:=xz _ hd;have hpw:(10:Nat) ^ s.data.toList.length<=10 ^ 19:=OM zac zaa;have:(10:Nat) ^ 19=10000000000000000000:=zac;omega
    ·rw [NM (show ¬ 20<s.size by omega),NZ h2,Qv,Q5,hlist,Lib.toList_data Ref.ED];have hx:=Df s.data.toList Ref.ED.data.toList hd zac (by rw [<- hsz,h2];rfl);rw [GZ] at hx;rw [QM,NC,P7,RJ,RJ];constructor
     ·rintro ⟨ha,hb⟩;have h3:¬ num 0 s.data.toList<18446744073709551615:=fun e=>by rw [hx.1.1 e] at ha;cases ha
      have h4:¬ num 0 s.data.toList=18446744073709551615:=fun e=>by rw [hx.2.1 e] at hb;simp at hb
      omega
     ·intro hlt;constructor
      ·cases hb:Op.bytesLess s.data.toList Ref.ED.data.toList with
       | false=>rfl
       | true=>have:=hx.1.2 hb;omega
      ·rw [OY];intro e;have:=hx.2.2 e;omega
    ·rw [NZ h2,PQ]
     symm
     apply NZ
     have hh:∀ c,s.data.toList.head?=some c->¬ c.toNat=48:=by
      intro c hc e;refine h ⟨zaa,?_⟩;have hk:0<s.data.toList.length:=zaa;rw [wH hk];rw [List.head?_eq_getElem?,MU hk] at hc;cases hc
      omega
     have h3:=BZ hd zaa hh;have hpw:(10:Nat) ^ 20<=10 ^ (s.data.toList.length-1):=OM zac zaa;have:(10:Nat) ^ 20=100000000000000000000:=zac;omega
   have hok:Ref.cC s = !decide (18446744073709551615<num 0 s.data.toList):=by rw [Ref.cC,uJ,hd,hbad,Qv]
   refine ⟨fun u hu => ?_,fun hu => ?_⟩
   ·rw [hp] at hu;by_cases hle:num 0 s.data.toList<=18446744073709551615
    ·rw [M6 hle] at hu;cases hu
     have h1:Ref.cC s=true:=by rw [hok,NM zaa];rfl
     refine ⟨h1,?_⟩;rw [Ref.dV,h1,M6 rfl,Kx,Ref.m64,Qd];omega
    ·rw [M4 hle] at hu;cases hu
   ·rw [hok];by_cases hle:num 0 s.data.toList<=18446744073709551615
    ·exact absurd (by rw [hp,M6 hle]) (hu (num 0 s.data.toList))
    ·rw [NZ zaa];rfl
 ·have hf:Ref.cC s=false:=by rw [Ref.cC,uJ,Bool.eq_false_iff.2 hd,Pk]
  refine ⟨fun u hu => ?_,fun _=>hf⟩;exfalso;rw [Lib.parseUintB] at hu;split at hu
  ·cases hu
  ·exact hd (zS _ _ hu)
end Num
end
section
open Go.RowKit Go.Proofs Go.Shelf
def zC:Go.Shelf.Ren:=⟨fun | 128=>256 | n=>n,fun | 51=>74 | 3=>3 | 4=>4 | 46=>365 | 5=>5 | 9=>9 | n=>n,fun | n=>n⟩
theorem JJ:Go.Proofs.Lays.n128 prog zC:={
 mixed:=zab
 f128:=Tryz.func256.trans (congrArg some zab)
 t3:=underlying3
 a3:=RK
 z3:=Rv
 v3:=QN
 t4:=underlying4
 a4:=Qz
 z4:=Qj
 v4:=PK
 t5:=underlying5
 a5:=Tryz.isAgg5
 z5:=Tryz.sizeOf5
 v5:=Ri
 t9:=underlying9
 a9:=Tryz.isAgg9
 z9:=Tryz.sizeOf9
 v9:=Tryz.zeroValue9
 t46:=underlying365
 a46:=isAgg365
 z46:=sizeOf365
 v46:=zeroValue365
 t51:=underlying74
 a51:=Tryz.isAgg74
 z51:=Tryz.sizeOf74
 v51:=Tryz.zeroValue74 }
def xh:Go.Shelf.Ren:=⟨fun | 28=>145 | n=>n,fun | 27=>74 | 3=>3 | 4=>4 | 25=>365 | 53=>364 | 0=>0 | 5=>5 | n=>n,fun | 0=>1 | n=>n⟩
theorem GH:Go.Proofs.Lays7.n28 prog xh:={
 mixed:=zab
 f28:=Tryz.func145.trans (congrArg some zab)
 t0:=underlying0
 a0:=Tryz.isAgg0
 z0:=Tryz.sizeOf0
 v0:=Tryz.zeroValue0
 i0:=zab
 t3:=underlying3
 a3:=RK
 z3:=Rv
 v3:=QN
 i3:=zab
 t4:=underlying4
 a4:=Qz
 z4:=Qj
 v4:=PK
 i4:=zab
 t5:=underlying5
 a5:=Tryz.isAgg5
 z5:=Tryz.sizeOf5
 v5:=Ri
 i5:=zab
 t25:=underlying365
 a25:=isAgg365
 z25:=sizeOf365
 v25:=zeroValue365
 i25:=zab
 t27:=underlying74
 a27:=Tryz.isAgg74
 z27:=Tryz.sizeOf74
 v27:=Tryz.zeroValue74
 i27:=zab
 t53:=underlying364
 a53:=isAgg364
 z53:=sizeOf364
 v53:=zeroValue364
 i53:=zab
 g0:=by kernel_rfl }
theorem gb (hi:i<32):(2:Nat) ^ i<4294967296:=by
 have:=P8 (a:=2) zac hi;omega
theorem jg (i:Nat):(2:Int) ^ i=((2 ^ i:Nat):Int):=(Int.natCast_pow 2 i).symm
theorem Kv (hi:i<32):(2:Int) ^ i % 4294967296=((2 ^ i:Nat):Int):=by
 rw [jg];exact Int.emod_eq_of_lt (Int.natCast_nonneg _) (by have:=gb hi;exact Int.ofNat_lt.2 this)
theorem iz (i:Nat) (w:World) (hi:i<32):() 93 #[(i:Int)] w fun e w'=>e = .returned (.int .u32 ((2 ^ i:Nat):Int))/\w'=w:=by
 have e:=Kv hi;go_enter func93,ntmps93;go_wp2;rw [e];exact zfw
theorem IW (s i:Nat):((s&&&2 ^ i:Nat) != 0)=s.testBit i:=by
 cases h:s.testBit i
 ·have:s&&&2 ^ i=0:=by
   apply Nat.eq_of_testBit_eq
   intro j;rw [Qr,Qa,Q2];by_cases hj:i=j
   ·subst hj;rw [h];rfl
   ·simp [hj]
  rw [this];rfl
 ·have h1:(s&&&2 ^ i).testBit i=true:=by rw [Qr,Qa,h];simp
  rw [bne_iff_ne];intro h0;rw [h0,Q2] at h1;exact absurd h1 zac
theorem FI (hi:i<32) (hs:s<4294967296):(bits BinOp.and IntKind.u32 (s:Int) ((2:Int) ^ i) != 0)=s.testBit i:=by
 rw [jg,QE s _ hs (gb hi),<- IW];cases h:(s&&&2 ^ i)
 ·rfl
 ·simp;omega
theorem wU (s:Nat) (i:Nat) (w:World) (hi:i<32) (hs:s<4294967296):() 194 #[.int .u32 s,(i:Int)] w fun e w'=>e = .returned (.bool (s.testBit i))/\w'=w:=by
 have e:=FI hi hs;go_enter func194,ntmps194;go_wp2_with (go_at_call 93;refine (iz i _ hi).mono ?_;rintro e w9 ⟨rfl,hw9⟩;rw [hw9];clear hw9 w9);exact zfw
theorem GF (s:Nat) (w:World) (hs:s<4294967296):() 232 #[.int .u32 s] w fun e w'=>e = .returned (.int .i64 ((Lib.bitLen s:Int)-1))/\w'=w:=by
 have hb:=Lib.bitLen_le s 32 zac zaa;go_enter func232,ntmps232;go_wp2_with (go_at_call 256;refine (Any.bits_Len32 JJ s _ zaa zaa).mono ?_;rintro e w9 ⟨rfl,hw9⟩;rw [hw9];clear hw9 w9);exact zfw
theorem LP (s:Nat) (w:World) (hs:s<4294967296) (hT:TabAt 1 Lib.deBruijn32tab w):() 145 #[.int .u32 s] w fun e w'=>e = .returned (.int .i64 (Lib.ctz 32 s))/\w'=w :=
 Any7.bits_TrailingZeros32 GH s hs w fun _=>hT
namespace Pg
def els (s:Nat):List Nat:=(List.range 32).filter s.testBit
theorem n8:i∈els s↔i<32/\s.testBit i=true:=by
 unfold els;rw [OE,Od]
theorem kc {p q:Nat->Bool} {k:Nat} (hp:p k=true) (hlt:∀ j,j<k->p j=false) (hq:∀ j,q j=(p j&&decide (j≠k))):∀ n,k<n->(List.range n).filter p=k::(List.range n).filter q
 | 0,h=>absurd h (Qs _)
 | n+1,h=>by
  rw [QO,ON,ON];by_cases hk:k<n
  ·rw [kc hp hlt hq n hk,RR];have:q n=p n:=by rw [hq];simp;omega
   simp only [List.filter_cons,List.filter_nil,this]
  ·have hkn:k=n:=zaa;subst hkn;have e1:(List.range k).filter p=[]:=by
    rw [Pl];intro a ha;rw [hlt a (Od.1 ha)];decide
   have e2:(List.range k).filter q=[]:=by
    rw [Pl];intro a ha;rw [hq,hlt a (Od.1 ha)];simp
   have e3:q k=false:=by rw [hq];simp
   rw [e1,e2];simp [hp,e3]
theorem pY {p q:Nat->Bool} {k:Nat} (hp:p k=true) (hgt:∀ j,k<j->p j=false) (hq:∀ j,q j=(p j&&decide (j≠k))):∀ n,k<n->(List.range n).filter p=(List.range n).filter q++[k]
 | 0,h=>absurd h (Qs _)
 | n+1,h=>by
  rw [QO,ON,ON];by_cases hk:k<n
  ·rw [pY hp hgt hq n hk];have e1:p n=false:=hgt n hk;have e2:q n=false:=by rw [hq,e1];rfl
   simp [e1,e2]
  ·have hkn:k=n:=zaa;subst hkn;have e3:q k=false:=by rw [hq];simp
   have e4:(List.range k).filter p=(List.range k).filter q:=by
    apply Pm
    intro a ha;have:=Od.1 ha;rw [hq];simp;omega
   rw [e4];simp [hp,e3]
theorem k9:els 0=[]:=zaS
theorem GS (h0:s≠0) (hs:s<4294967296):Lib.ctz 32 s<32/\s.testBit (Lib.ctz 32 s)=true/\(∀ j,j<Lib.ctz 32 s->s.testBit j=false)/\∀ j,(s&&&(s-1)).testBit j=(s.testBit j&&decide (j≠Lib.ctz 32 s)):=by
 obtain ⟨m,hm,hk⟩:=Lib.ctzFrom_spec 32 s (Nat.pos_of_ne_zero h0) hs;have he:Lib.ctz 32 s=Lib.ctzFrom 32 s:=by unfold Lib.ctz;rw [M4 h0]
 rw [he];generalize Lib.ctzFrom 32 s=k at hm hk;exact zcR
theorem D7 (h0:s≠0) (hs:s<4294967296):els s=Lib.ctz 32 s::els (s&&&(s-1)):=by
 obtain ⟨a,b,c,d⟩:=GS h0 hs;exact kc b c d 32 a
theorem l6 (h0:s≠0) (hs:s<4294967296):1<=Lib.bitLen s/\Lib.bitLen s-1<32/\s.testBit (Lib.bitLen s-1)=true/\(∀ j,Lib.bitLen s-1<j->s.testBit j=false)/\∀ j,(s&&&(4294967295-2 ^ (Lib.bitLen s-1))).testBit j=(s.testBit j&&decide (j≠Lib.bitLen s-1)):=by
 have hb:=Lib.bitLen_le s 32 zac zaa;obtain ⟨a,b,c⟩:=Q9 64 s zaa h0;have he:Lib.bitLenAux 64 s=Lib.bitLen s:=rfl;rw [he] at a b c;generalize Lib.bitLen s=L at *;obtain ⟨k,rfl⟩:∃ k,L=k+1:=⟨L-1,zaa⟩;simp only [Nat.add_sub_cancel] at b ⊢;have hgt:∀ j,k<j->s.testBit j=false:=fun j hj=>QV (Nq c (OM zac hj));refine ⟨zaa,zaa,Nat.testBit_of_two_pow_le_and_two_pow_add_one_gt b c,hgt,?_⟩;intro j;rw [Qr];by_cases hj:j<32
 ·have:(4294967295-2 ^ k).testBit j=decide (j≠k):=by
   have h2:=gb (i:=k) zaa;rw [show 4294967295-2 ^ k=2 ^ 32-(2 ^ k+1) by omega,Rj zaa,Qa];simp [hj,eq_comm]
  rw [this]
 ·rw [hgt j zaa];rfl
theorem Gi (h0:s≠0) (hs:s<4294967296):els s=els (s&&&(4294967295-2 ^ (Lib.bitLen s-1)))++[Lib.bitLen s-1]:=by
 obtain ⟨_,a,b,c,d⟩:=l6 h0 hs;exact pY b c d 32 a
end Pg
attribute [local go_sem] NR
namespace Pg
abbrev In (s:Nat):Type:={ i:Nat // i∈els s }
def KpT (W W':World):Prop:=TabAt 1 Lib.deBruijn32tab W->TabAt 1 Lib.deBruijn32tab W'
theorem vQ (h0:t≠0):t&&&(t-1)<t:=NT Qf zaa
theorem Mv (h0:t≠0) (ht:t<4294967296):bits BinOp.and IntKind.u32 (t:Int) ((t:Int)-1)=((t&&&(t-1):Nat):Int):=by
 rw [show (t:Int)-1=((t-1:Nat):Int) by omega,QE t _ ht zaa]
end Pg
theorem zg (n:Nat) (hn:1<=n) (l Bs s:Nat) (hs:s<4294967296) (J Jx:List (Pg.In s)->World->Prop)
  (hY:∀ pre x W,J pre W->pre.length<32->YieldAt Fence.wide (n-1) prog l #[.int .i64 (x.1:Int)] W fun e W' =>
   (e = .returned true/\J (pre++[x]) W'/\Pg.KpT W W')\/(e = .returned false/\Jx (pre++[x]) W'))
  (W:World) (hBs:W.cell? Bs=some (.int .u32 s)) (hT:TabAt 1 Lib.deBruijn32tab W) (h0:J [] W) :
  CallsIn Fence.wide n prog 144 #[.func (.yield l) #[] #[],Bs] W fun e W'=>(∃ v,e = .returned v) /\
   ((∃ ys,ys.map (·.1)=Pg.els s/\J ys W')\/(∃ pre,pre.map (·.1) <+: Pg.els s/\Jx pre W')):=by
 refine Q6 func144 rfl trivial ?_ rfl;simp only [ntmps144,List.size_toArray,List.length_cons,List.length_nil,Nat.reduceAdd,Nat.reduceSub,Array.replicate_succ,Array.replicate_zero,List.push_toArray,List.append_toArray,List.nil_append,List.cons_append];gi_wp2
 gi_loopw [3] (fun i wr=>∃ (t:Nat) (pre:List (Pg.In s)),i = .int .u32 t/\t<4294967296/\Pg.els s=pre.map (·.1)++Pg.els t/\J pre wr/\TabAt 1 Lib.deBruijn32tab wr)
  (fun i _=>(intOf i).toNat)
 case atStart=>exact ⟨s,[],rfl,hs,rfl,h0,hT⟩
 case round =>
  obtain ⟨t,pre,rfl,ht,he,hJs,hTr⟩:=hrel;by_cases hz:t=0
  ·subst hz;gi_wp2;go_end0;rw [Pg.k9,OP] at he;exact ze4
  ·have hf:=Pg.D7 hz ht;have hm:Lib.ctz 32 t∈Pg.els s:=by rw [he,hf];simp
   have hle:pre.length<32:=by
    have h1:(Pg.els s).length<=32:=by
     exact zeM
    exact zfr
   obtain ⟨fn,tmps,assign,body,hy,hR⟩:=hY pre ⟨Lib.ctz 32 t,hm⟩ wr hJs hle;dsimp only at hy;have ha:=Pg.Mv hz ht;have hz':((t:Int) == 0)=false:=zae;have hlt:=Pg.vQ hz;have htz:=LP t wr ht hTr;gi_wp2_with (refine ⟨trivial,?_⟩;gi_at_call 145;refine (Nz.2 htz).mono ?_;clear htz;rintro e w9 ⟨rfl,hw9⟩;rw [hw9];clear hw9 w9);have hE:Pg.els s=(pre++[(⟨Lib.ctz 32 t,hm⟩:Pg.In s)]).map (·.1)++Pg.els (t&&&(t-1)):=he.trans (by rw [hf,NW,OV];rfl);refine hR.mono ?_;rintro e W3 (⟨rfl,hJ3,hk3⟩ | ⟨rfl,hJx3⟩)
   ·gi_wp2
    go_roundw
    case rel=>exact ⟨t&&&(t-1),pre++[⟨Lib.ctz 32 t,hm⟩],rfl,zaa,hE,hJ3,hk3 hTr⟩
    case measure=>simp only [intOf];omega
   ·exact zed
theorem eY (n:Nat) (hn:1<=n) (Bs s:Nat) (hs:s<4294967296) (w:World) (hBs:Bs<w.heap.size) (hg:1<w.heap.size) (hc:w.cell? Bs=some (.int .u32 s)) (hT:TabAt 1 Lib.deBruijn32tab w) :
  SeqStopsK Fence.wide n prog 144 #[Bs] (fun x:Pg.In s=>#[Value.int .i64 (x.1:Int)]) Pg.KpT (fun ys=>ys.map (·.1)=Pg.els s) (fun pre=>pre.map (·.1) <+: Pg.els s) 32 w:=fun l J Jx W hW _ _ hY h0=>by
 have hc':=(hW.cell (p:=⟨Bs,0,none⟩) hBs).trans hc;exact zg n hn l Bs s hs J Jx hY W hc' (fun j hj=>(hW.cell (p:=⟨1,j,none⟩) hg).trans (hT j hj)) h0
theorem dy (s:Nat) (w:World):() 92 #[.int .u32 s] w fun e w'=>e = .returned (.func (.func 144) #[] #[w])/\w'=w.alloc (.cells #[.int .u32 s] 75):=by
 go_enter func92,ntmps92;exact zfp
theorem nJ (s:Nat) (w:World):() 195 #[.int .u32 s] w fun e w'=>e = .returned (.func (.func 231) #[] #[w])/\w'=w.alloc (.cells #[.int .u32 s] 75):=by
 go_enter func195,ntmps195;exact zfp
namespace Pg
theorem uj (h0:t≠0) (ht:t<4294967296):t&&&(4294967295-2 ^ (Lib.bitLen t-1))<t:=by
 obtain ⟨_,_,b,_,d⟩:=l6 h0 ht;refine Nat.lt_of_le_of_ne OQ fun he => ?_;have:=d (Lib.bitLen t-1);rw [he,b] at this;simp at this
theorem IV (h0:t≠0) (ht:t<4294967296):bits BinOp.andNot IntKind.u32 (t:Int) ((2:Int) ^ (Lib.bitLen t-1))=((t&&&(4294967295-2 ^ (Lib.bitLen t-1)):Nat):Int):=by
 obtain ⟨_,a,_⟩:=l6 h0 ht;rw [jg,RC t _ ht (gb a)]
end Pg
theorem wG (n:Nat) (hn:1<=n) (l Bs s:Nat) (hs:s<4294967296) (J Jx:List (Pg.In s)->World->Prop)
  (hY:∀ pre x W,J pre W->pre.length<32->YieldAt Fence.wide (n-1) prog l #[.int .i64 (x.1:Int)] W fun e W' =>
   (e = .returned true/\J (pre++[x]) W'/\True)\/(e = .returned false/\Jx (pre++[x]) W'))
  (W:World) (hBs:W.cell? Bs=some (.int .u32 s)) (h0:J [] W) :
  CallsIn Fence.wide n prog 231 #[.func (.yield l) #[] #[],Bs] W fun e W'=>(∃ v,e = .returned v) /\
   ((∃ ys,ys.map (·.1)=(Pg.els s).reverse/\J ys W')\/(∃ pre,pre.map (·.1) <+: (Pg.els s).reverse/\Jx pre W')):=by
 refine Q6 func231 rfl trivial ?_ rfl;simp only [ntmps231,List.size_toArray,List.length_cons,List.length_nil,Nat.reduceAdd,Nat.reduceSub,Array.replicate_succ,Array.replicate_zero,List.push_toArray,List.append_toArray,List.nil_append,List.cons_append];gi_wp2
 gi_loopw [3] (fun i wr=>∃ (t:Nat) (pre:List (Pg.In s)),i = .int .u32 t/\t<4294967296/\(Pg.els s).reverse=pre.map (·.1)++(Pg.els t).reverse/\J pre wr)
  (fun i _=>(intOf i).toNat)
 case atStart=>exact ⟨s,[],rfl,hs,rfl,h0⟩
 case round =>
  obtain ⟨t,pre,rfl,ht,he,hJs⟩:=hrel;by_cases hz:t=0
  ·subst hz;gi_wp2;go_end0;rw [Pg.k9,List.reverse_nil,OP] at he;exact ze4
  ·obtain ⟨hb1,hb2,_⟩:=Pg.l6 hz ht;have hf:=congrArg List.reverse (Pg.Gi hz ht);rw [List.reverse_append] at hf;have ha:=Pg.IV hz ht;have hlt:=Pg.uj hz ht;have hla:=fun w=>GF t w ht;generalize Lib.bitLen t=L at *;obtain ⟨k,rfl⟩:∃ k,L=k+1:=⟨L-1,zaa⟩;have hk:((k+1:Nat):Int)-1=(k:Int):=zaa;simp only [hk] at hla;simp only [Nat.add_sub_cancel] at hf ha hlt hb2;have hm:k∈Pg.els s:=by rw [<- RS,he,hf];simp
   have hle:pre.length<32:=by
    have h1:(Pg.els s).reverse.length<=32:=by
     have:=Ob s.testBit (List.range 32);rw [Pn] at this;rw [Rp];exact this
    exact zfr
   have hE:(Pg.els s).reverse=(pre++[(⟨k,hm⟩:Pg.In s)]).map (·.1)++(Pg.els (t&&&(4294967295-2 ^ k))).reverse:=he.trans (by rw [hf,NW,OV];rfl);obtain ⟨fn,tmps,assign,body,hy,hR⟩:=hY pre ⟨k,hm⟩ wr hJs hle;dsimp only at hy;have hz':((t:Int) == 0)=false:=zae;generalize t&&&(4294967295-2 ^ k)=t' at *;gi_wp2_with (refine ⟨trivial,?_⟩;gi_at_call 232;refine (Nz.2 (hla _)).mono ?_;rintro e w9 ⟨rfl,hw9⟩;rw [hw9];clear hw9 w9);refine hR.mono ?_;rintro e W3 (⟨rfl,hJ3,hk3⟩ | ⟨rfl,hJx3⟩)
   ·gi_wp2_with (first
     | (refine ⟨trivial,?_⟩;gi_at_call 232;refine (Nz.2 (hla _)).mono ?_;rintro e w9 ⟨rfl,hw9⟩;rw [hw9];clear hw9 w9)
     | (refine ⟨trivial,?_⟩;gi_at_call 93;refine (Nz.2 (iz k _ hb2)).mono ?_;rintro e w9 ⟨rfl,hw9⟩;rw [hw9];clear hw9 w9))
    go_roundw
    case rel=>exact ⟨t',pre++[⟨k,hm⟩],rfl,zaa,hE,hJ3⟩
    case measure=>simp only [intOf];omega
   ·exact zed
theorem kY (n:Nat) (hn:1<=n) (Bs s:Nat) (hs:s<4294967296) (w:World) (hBs:Bs<w.heap.size) (hc:w.cell? Bs=some (.int .u32 s)) :
  SeqStopsK Fence.wide n prog 231 #[Bs] (fun x:Pg.In s=>#[Value.int .i64 (x.1:Int)]) (fun _ _=>True) (fun ys=>ys.map (·.1)=(Pg.els s).reverse) (fun pre=>pre.map (·.1) <+: (Pg.els s).reverse) 32 w:=fun l J Jx W hW _ _ hY h0 =>
 wG n hn l Bs s hs J Jx hY W ((hW.cell (p:=⟨Bs,0,none⟩) hBs).trans hc) h0
end
section
open Go.RowKit
open Go.PlainAid (bt get_bt bt_nonneg bt_le bt_end)
namespace Ref
theorem eZ {w:World} {v:Value} (h:w.ownsRow base e size v n xs) (hn:0<n):∃ g cap,v = .slice (some ⟨g,0,none⟩) n cap:=by
 rcases h.2 with ⟨_,h0⟩ | ⟨g,cap,cur,hv,_⟩
 ·omega
 ·exact ⟨g,cap,hv⟩
def dq (s:ByteArray) (c:Int):Nat->List ByteArray
 | 0=>[ByteArray.empty]
 | k+1=>if bt s k=c then dq s c k++[ByteArray.empty] else (dq s c k).set ((dq s c k).length-1) ((dq s c k)[(dq s c k).length-1]?.getD ByteArray.empty++s.extract k (k+1))
def cut (s:ByteArray) (c:Int):List ByteArray:=dq s c s.size
theorem lW (s:ByteArray) (c:Int):∀ k,0<(dq s c k).length
 | 0=>by simp [dq]
 | k+1=>by
  have:=lW s c k;unfold dq;split <;> simp
  exact this
theorem nO (s:ByteArray) (c:Int):∀ k,(dq s c k).length<=k+1
 | 0=>by simp [dq]
 | k+1=>by
  have:=nO s c k;unfold dq;split <;> simp <;> omega
theorem xr {y:ByteArray} (h:∀ x∈l,x.size<=B) (hy:y.size<=B):∀ x∈l.set i y,x.size<=B:=by
 intro x hx
 rcases NB hx with h' | h'
 ·exact h x h'
 ·rw [h'];exact hy
theorem pL {s:ByteArray} (h:k<s.size):(s.extract k (k+1)).size=1:=zae
theorem i6 (s:ByteArray) (c:Int):∀ k,k<=s.size->∀ x∈dq s c k,x.size<=k
 | 0,_=>by simp [dq]
 | k+1,hk=>by
  have ih:=i6 s c k zaa;unfold dq;split
  ·intro x hx
   rcases Nr.1 hx with h | h
   ·have:=ih x h;omega
   ·rw [M8.1 h];exact Ni _
  ·refine xr (fun x hx=>by have:=ih x hx;omega) ?_;rw [PO,pL zaa];have hp:=lW s c k;rw [MU zaa];have:=ih _ (NS (show (dq s c k).length-1<(dq s c k).length by omega));simp only [Option.getD_some];omega
theorem Jd {s:ByteArray} (h:bt s k=c):dq s c (k+1)=dq s c k++[ByteArray.empty]:=by rw [dq,M6 h]
theorem K8 {s:ByteArray} (h:¬ bt s k=c):dq s c (k+1)=(dq s c k).set ((dq s c k).length-1) ((dq s c k)[(dq s c k).length-1]?.getD ByteArray.empty++s.extract k (k+1)):=by rw [dq,M4 h]
def bM:ByteArray:=⟨#[97,102,116,101,114,46]⟩
def jO:ByteArray:=⟨#[100,111,110,101,46]⟩
def lz (s:ByteArray):Bool:=cB s bM&&(cC (s.extract 6 s.size)&&(decide (0<dV (s.extract 6 s.size))&&decide (dV (s.extract 6 s.size)<=1500)))
def called (s:ByteArray):Bool:=plain s||lz s
def b8 (s:ByteArray):Bool:=called s||(cB s jO&&plain (s.extract 5 s.size))
theorem pU {s t:ByteArray} (h:cB s t=true):t.size<=s.size:=by
 simp [cB] at h;exact h.1
end Ref
end
section
open Go.RowKit
namespace Ref
structure Act where
 how:ByteArray
 event:ByteArray
 id:ByteArray
 delay:Int
def FA (a:Act):List Value:=[a.how,a.event,a.id,.int .u64 a.delay]
def cDo:List UInt8:=[100,111]
def eT:List UInt8:=[114,97,105,115,101]
def eK:List UInt8:=[99,97,110,99,101,108]
def k8:List UInt8:=[115,101,110,100]
def cAs:List UInt8:=[97,115]
def at' (l:List ByteArray) (i:Nat):ByteArray:=l.getD i ByteArray.empty
theorem nH (h:∀ x∈l,x.size<=B) (i:Nat):(at' l i).size<=B:=by
 unfold at';by_cases hi:i<l.length
 ·rw [Nh,MU hi];exact h _ (NS hi)
 ·rw [Nh,Ny zaa];exact Ni _
def oY (l:List ByteArray):Option (Act×Nat) :=
 if l.length<3 then none
 else if (at' l 0).toList == cDo then
  if (at' l 1).toList == eT then if called (at' l 2) then some (⟨at' l 1,at' l 2,ByteArray.empty,0⟩,3) else none
  else if (at' l 1).toList == eK then if called (at' l 2) then some (⟨at' l 1,ByteArray.empty,at' l 2,0⟩,3) else none
  else if (at' l 1).toList == k8 then
   if l.length<4 then none
   else if decide (4<l.length)&&((at' l 4).toList == cAs) then
    if l.length<6 then none
    else if called (at' l 2)&&cC (at' l 3)&&called (at' l 5) then some (⟨at' l 1,at' l 2,at' l 5,dV (at' l 3)⟩,6) else none
   else if called (at' l 2)&&cC (at' l 3) then some (⟨at' l 1,at' l 2,ByteArray.empty,dV (at' l 3)⟩,4) else none
  else none
 else none
def jA:Nat->List ByteArray->Option (List Act)
 | _,[]=>some []
 | 0,_::_=>none
 | f+1,x::r =>
  match oY (x::r) with
  | none=>none
  | some (a,n)=>match jA f ((x::r).drop n) with
   | none=>none
   | some r'=>some (a::r')
def aw (l:List ByteArray):Option (List Act):=jA l.length l
theorem kV {a:Act} (h:oY l=some (a,n)):3<=n/\n<=l.length:=by
 unfold oY at h
 repeat' split at h
 all_goals cases h
 all_goals omega
theorem qW:∀ (f g:Nat) (l:List ByteArray),l.length<=f->l.length<=g->jA f l=jA g l
 | f,g,[],_,_=>by cases f <;> cases g <;> rfl
 | 0,_,x::r,h,_=>by simp at h
 | _+1,0,x::r,_,h=>by simp at h
 | f+1,g+1,x::r,hf,hg=>by
  simp only [jA];cases h:oY (x::r) with
  | none=>rfl
  | some p =>
   obtain ⟨a,n⟩:=p;have hb:=kV h;simp only;rw [qW f g ((x::r).drop n) (by simp at hf ⊢;omega) (by simp at hg ⊢;omega)]
end Ref
def lenOf:Value->Nat | .slice _ n _=>n | _=>0
def qT (w:World) (b off:Nat) (l:List ByteArray):Prop:=∀ i,i<l.length->w.cell? ⟨b,off+i,none⟩=some (.string (Ref.at' l i))
theorem qT.drop {w:World} (h:qT w b off l) (n:Nat):qT w b (off+n) (l.drop n):=by
 intro i hi;have:=h (n+i) zaP;rw [On,this];simp [Ref.at',List.getElem?_drop]
theorem qT.below {w:World} (h:qT w b off l) (hb:Below B w w') (hB:b<B):qT w' b off l :=
 fun i hi=>by rw [hb.cell (p:=⟨b,off+i,none⟩) hB];exact h i hi
namespace Ref
structure Move where
 event:ByteArray
 to:ByteArray
 after:Bool
 delay:Int
 aw:List Act
 line:Int
structure State where
 word:ByteArray
 name:ByteArray
 deep:Bool
 up:Int
 depth:Int
 line:Int
 aj:List Move
 enter:List Act
 leave:List Act
 has0:Int
 has1:Int
structure jZ where
 kind:Int
 word:ByteArray
 name:ByteArray
 deep:Bool
 sline:Int
 m:Move
 aw:List Act
theorem jS {w:World} {v:Value} (h:w.ownsRow base e size v n xs):∃ a k c,v = .slice a k c:=by
 rcases h.2 with ⟨h0,_⟩ | ⟨g,cap,cur,hv,_⟩
 ·exact ⟨_,_,_,h0⟩
 ·exact ⟨_,_,_,hv⟩
def cTo:List UInt8:=[116,111]
def vh (l:List ByteArray):Option (ByteArray×List Act) :=
 if decide (0<l.length)&&((at' l 0).toList == cTo) then
  if l.length<2 then none
  else if plain (at' l 1) then (aw (l.drop 2)).map (at' l 1,·) else none
 else (aw l).map (ByteArray.empty,·)
end Ref
end
section
open Go.RowKit
open Go.PlainAid (bt get_bt bt_nonneg bt_le bt_end)
namespace Ref
def kB:Move:=⟨ByteArray.empty,ByteArray.empty,false,0,[],0⟩
def gC:jZ:=⟨0,ByteArray.empty,ByteArray.empty,false,0,kB,[]⟩
def cU:List UInt8:=[115,116,97,116,101]
def aM:List UInt8:=[112,97,114,97,108,108,101,108]
def b7:List UInt8:=[102,105,110,97,108]
def bh:List UInt8:=[104,105,115,116,111,114,121]
def CZ:List UInt8:=[100,101,101,112]
def cOn:List UInt8:=[111,110]
def iK:List UInt8:=[97,102,116,101,114]
def kZ:List UInt8:=[101,110,116,101,114]
def o9:List UInt8:=[108,101,97,118,101]
def is (l:List ByteArray) (i:Nat) (c:List UInt8):Bool:=(at' l i).toList == c
def uH (l:List ByteArray):Bool:=decide (l.length=3)&&is l 2 CZ
def said (l:List ByteArray) (ln:Nat):jZ :=
 if l.length<2 then gC
 else if is l 0 cU||(is l 0 aM||is l 0 b7) then
  if decide (l.length=2)&&plain (at' l 1) then ⟨115,at' l 0,at' l 1,false,ln,kB,[]⟩ else gC
 else if is l 0 bh then
  if plain (at' l 1)&&(decide (l.length=2)||uH l) then ⟨115,at' l 0,at' l 1,uH l,ln,kB,[]⟩ else gC
 else if is l 0 cOn then
  match vh (l.drop 2) with
  | none=>gC
  | some (to,A)=>if b8 (at' l 1) then ⟨109,ByteArray.empty,ByteArray.empty,false,0,⟨at' l 1,to,false,0,A,ln⟩,[]⟩ else gC
 else if is l 0 iK then
  match vh (l.drop 2) with
  | none=>gC
  | some (to,A)=>if cC (at' l 1) then ⟨109,ByteArray.empty,ByteArray.empty,false,0,⟨bM++dec ln,to,true,dV (at' l 1),A,ln⟩,[]⟩ else gC
 else if is l 0 kZ||is l 0 o9 then
  match aw (l.drop 1) with
  | none=>gC
  | some A=>⟨bt (at' l 0) 0,ByteArray.empty,ByteArray.empty,false,0,kB,A⟩
 else gC
end Ref
end
section
open Go.RowKit
namespace Ref
structure Sl where
 a:Option Addr
 n:Nat
 c:Nat
def Sl.v (s:Sl):Value := .slice s.a s.n s.c
def Sl.nil:Sl:=⟨none,0,0⟩
structure SV where
 s:State
 vm:Sl
 ve:Sl
 vl:Sl
structure MV where
 m:Move
 v:Sl
def J1 (x:MV):List Value:=[x.m.event,x.m.to,x.m.after,.int .u64 x.m.delay,.slice x.v.a x.v.n x.v.c,(x.m.line:Int)]
theorem jI {α:Type} {f:α->List Value} {n:Nat} (hf:∀ x,(f x).length=n):∀ (X:List α) (i j:Nat),j<n->∀ (h:i<X.length),(X.flatMap f)[i*n+j]?=(f X[i])[j]?
 | [],i,j,_,h=>by simp at h
 | x::X,0,j,hj,_=>by
  rw [Ol,QU,Pd,N7 (by rw [hf];exact hj)];rfl
 | x::X,i+1,j,hj,h=>by
  rw [Ol,Rx,Oe (by rw [hf];omega),hf];rw [show i*n+n+j-n=i*n+j from by omega,jI hf X i j hj zaC];rfl
theorem jJ {α:Type} {f:α->List Value} {n:Nat} (hf:∀ x,(f x).length=n):∀ (X:List α),(X.flatMap f).length=X.length*n
 | []=>by simp
 | x::X=>by rw [Ol,Nj,hf,jJ hf X,Oa,Rx,Nat.add_comm]
def Gz (n:ByteArray) (x:SV):Bool:=x.s.name.toList == n.toList
def place (X:List SV) (n:ByteArray):Int:=match X.findIdx? (Gz n) with | some i=>(i:Int) | none => -1
def xt (a:Act):Bool:=cB a.event bM||cB a.id bM
def cd (A:List Act):Bool:=A.any xt
end Ref
def Row {α:Type} (w:World) (e:TypeId) (size:Nat) (f:α->List Value) (v:Value) (X:List α):Prop:=w.ownsRow 0 e size v X.length (X.flatMap f)
theorem Row.cell {α:Type} {w:World} {f:α->List Value} {X:List α} (hf:∀ x,(f x).length=n) (h:Row w e n f (.slice g X.length cap) X) {j:Nat} (hj:j<n) (hi:i<X.length) :
  w.cell? ⟨g,i*n+j,none⟩=(f X[i])[j]?:=by
 have hlt:i*n+j<X.length*n:=by
  have:(i+1)*n<=X.length*n:=PE n hi;rw [Rx] at this;omega
 rw [h.cellAt (i*n+j) hlt,Ref.jI hf X i j hj hi]
end
section
open Go.RowKit Go.Proofs Go.Shelf
attribute [local go_sem] NR
namespace Pg
structure PS where
 kind:Int
 name:ByteArray
 done:ByteArray
 owner:Int
 parts:Nat
 inside:Nat
 around:Nat
 wth:Nat
 enter:Ref.Sl
 leave:Ref.Sl
structure PS.Sm (p:PS):Prop where
 hp:p.parts<4294967296
 hi:p.inside<4294967296
 ha:p.around<4294967296
 hw:p.wth<4294967296
structure tK (W:World) (b i:Nat) (p:PS):Prop where
 c0:W.cell? ⟨b,i*10,none⟩=some ↑(p.kind:Int)
 c1:W.cell? ⟨b,i*10+1,none⟩=some ↑p.name
 c2:W.cell? ⟨b,i*10+2,none⟩=some ↑p.done
 c3:W.cell? ⟨b,i*10+3,none⟩=some ↑(p.owner:Int)
 c4:W.cell? ⟨b,i*10+4,none⟩=some (.int .u32 p.parts)
 c5:W.cell? ⟨b,i*10+5,none⟩=some (.int .u32 p.inside)
 c6:W.cell? ⟨b,i*10+6,none⟩=some (.int .u32 p.around)
 c7:W.cell? ⟨b,i*10+7,none⟩=some (.int .u32 p.wth)
 c8:W.cell? ⟨b,i*10+8,none⟩=some p.enter.v
 c9:W.cell? ⟨b,i*10+9,none⟩=some p.leave.v
theorem tK.below {p:PS} (h:tK W b i p) (hB:Below B W W') (hb:b<B):tK W' b i p where
 c0:=(hB.cell (p:=⟨b,_,none⟩) hb).trans h.c0
 c1:=(hB.cell (p:=⟨b,_,none⟩) hb).trans h.c1
 c2:=(hB.cell (p:=⟨b,_,none⟩) hb).trans h.c2
 c3:=(hB.cell (p:=⟨b,_,none⟩) hb).trans h.c3
 c4:=(hB.cell (p:=⟨b,_,none⟩) hb).trans h.c4
 c5:=(hB.cell (p:=⟨b,_,none⟩) hb).trans h.c5
 c6:=(hB.cell (p:=⟨b,_,none⟩) hb).trans h.c6
 c7:=(hB.cell (p:=⟨b,_,none⟩) hb).trans h.c7
 c8:=(hB.cell (p:=⟨b,_,none⟩) hb).trans h.c8
 c9:=(hB.cell (p:=⟨b,_,none⟩) hb).trans h.c9
structure bZ (W:World) (pb b cap:Nat) (ps:List PS):Prop where
 row:W.cell? pb=some (.slice b ps.length cap)
 at':∀ (i:Nat) (p:PS),ps[i]?=some p->tK W b i p
 sm:∀ (i:Nat) (p:PS),ps[i]?=some p->p.Sm
 len:ps.length<=24
theorem bZ.below {pb:Nat} {ps:List PS} (h:bZ W pb b cap ps) (hB:Below B W W') (hp:pb<B) (hb:b<B):bZ W' pb b cap ps where
 row:=(hB.cell (p:=⟨pb,_,none⟩) hp).trans h.row
 at':=fun i p hi=>(h.at' i p hi).below hB hb
 sm:=h.sm
 len:=h.len
end Pg
theorem Gy (w:World) (pb b cap:Nat) (ps:List Pg.PS) (i j:Nat) (p:Pg.PS) (hP:Pg.bZ w pb b cap ps) (hi:ps[i]?=some p) (hj:j<32):() 228 #[pb,(i:Int),(j:Int)] w fun e w'=>e = .returned (.bool (p.around.testBit j))/\w'=w:=by
 have hil:i<ps.length:=(MZ.1 hi).1;have hlen:=hP.len;have h0:=hP.row;have h6:=(hP.at' i p hi).c6;have hsm:=(hP.sm i p hi).ha;go_enter func228,ntmps228;go_wp2_with (go_at_call 194;refine (wU p.around j _ hj hsm).mono ?_;rintro e w9 ⟨rfl,hw9⟩;rw [hw9];clear hw9 w9);exact zfw
namespace Pg
def ji (ps:List PS) (i:Nat):Nat:=match ps[i]? with | some p=>p.around | none=>0
def tR (ps:List PS) (o:Nat) (l:List Nat):Nat:=l.foldl (fun o i=>o&&&(4294967295-ji ps i)) o
theorem El (ps:List PS) (o:Nat) (l:List Nat) (i:Nat):tR ps o (l++[i])=tR ps o l&&&(4294967295-ji ps i):=by
 unfold tR;rw [Ot];rfl
theorem wW (ps:List PS):∀ (l:List Nat) (o:Nat),o<4294967296->tR ps o l<4294967296
 | [],_,h=>h
 | _::l,_,h=>wW ps l _ (NT OQ h)
def aX {s:Nat}:List (In s)->List Nat
 | []=>[]
 | x::l=>x.1::aX l
theorem cy {s:Nat}:∀ l:List (In s),aX l=l.map (·.1)
 | []=>rfl
 | x::l=>by rw [aX,cy l];rfl
theorem dS (l:List (In s)) (x:In s):aX (l++[x])=aX l++[x.1]:=by
 rw [cy,cy,NW];rfl
def inn (ps:List PS) (s:Nat):Nat:=tR ps s (els s)
theorem KpT.tr {A B C:World} (h:KpT A B) (k:KpT B C):KpT A C:=fun x=>k (h x)
theorem KpT.of {A B:World} (h:Below n A B) (hn:1<n):KpT A B:=fun x j hj=>(h.cell (p:=⟨1,j,none⟩) hn).trans (x j hj)
end Pg
theorem wX (n:Nat) (hn:3<=n) (w:World) (pb b cap:Nat) (ps:List Pg.PS) (s:Nat) (hs:s<4294967296) (hin:∀ i,i∈Pg.els s->i<ps.length) (hP:Pg.bZ w pb b cap ps) (hpb:pb<w.heap.size) (hb:b<w.heap.size)
  (hg:1<w.heap.size) (hT:TabAt 1 Lib.deBruijn32tab w) :
  CallsIn Fence.wide n prog 101 #[pb,.int .u32 s] w fun e w'=>e = .returned (.int .u32 (Pg.inn ps s))/\Below w w w':=by
 have h1:1<=n:=zaa;refine NX func101 rfl trivial ?_ rfl;simp only [ntmps101,List.size_toArray,List.length_cons,List.length_nil,Nat.reduceAdd,Nat.reduceSub,Array.replicate_succ,Array.replicate_zero,List.push_toArray,List.append_toArray,List.nil_append,List.cons_append];gi_wp2_with (refine ⟨trivial,?_⟩;gi_at_call 92;refine (Nz.2 (dy s _)).mono ?_;rintro e w9 ⟨rfl,hw9⟩;rw [hw9];clear hw9 w9);have c0:=NA w 73 pb;have c1:=NA (w.alloc (.cells #[pb] 73)) 75 (.int .u32 s);have c2:=NA ((w.alloc (.cells #[pb] 73)).alloc (.cells #[.int .u32 s] 75)) 75 (.int .u32 s);simp only [World.size_alloc] at c1 c2;have hB0:Below w w (((w.alloc (.cells #[pb] 73)).alloc (.cells #[.int .u32 s] 75)).alloc (.cells #[.int .u32 s] 75)):=(((MY _ w).alloc (MR _) _).alloc zad _).alloc zae _;refine QI rfl h1 (gf:=144) (lb:=#[↑(w.heap.size+1+1)]) rfl trivial (Pe func144 zab rfl)
  (eY (n-1) zaa (w.heap.size+1+1) s hs _ zad zad c2.cell (Pg.KpT.of hB0 hg hT)) Pg.KpT.tr (fun W l o o' hl h hc hw=>Pg.KpT.of (Po (n₀:=w.heap.size) (MX (Qc _ 3) zad) W l o o' hl h hc hw) hg) (MY _ _) (fun _=>rfl)
  (fun pre W=>(Boxed W w 73 pb/\Boxed W (w.heap.size+1) 75 (.int .u32 (Pg.tR ps s (Pg.aX pre))))/\Below w w W)
  (fun _ _ _=>False)
  (NH (NH (Oo (Og _ _ _) _) (Oo (Og _ _ _) _)) (OX (MR _) zae))
  (fun _ _ _ _ _ hs _ _=>hs)
  ⟨⟨(c0.alloc _).alloc _,c1.alloc _⟩,hB0⟩
  (fun x=>{ tmps:=#[.pointer (some ⟨pb,0,none⟩),.int .u32 s,.pointer (some ⟨w.heap.size,0,none⟩),undef,.int .u32 0,.pointer (some ⟨w.heap.size+1,0,none⟩),.int .i64 x.1,.int .u32 s,.int .u32 s,.func (.func 144) #[] #[.pointer (some ⟨w.heap.size+1+1,0,none⟩)],.int .i64 x.1,undef,undef,undef,undef,undef,undef,undef,undef,undef,undef,undef],defers:=[] }) ?assign ?body ?done ?stop
 case assign =>
  exact zfs
 case body =>
  rintro l pre x W ⟨⟨hp,hc⟩,hB⟩ _;have hpc:=hp.cell;have hcc:=hc.cell;have hcf:=hc.frozen;have hxl:=hin x.1 x.2;obtain ⟨p,hpx⟩:∃ p,ps[x.1]?=some p:=⟨_,MU hxl⟩;have hP':=hP.below hB hpb hb;have h0:=hP'.row;have h6:=(hP'.at' x.1 p hpx).c6;have hlen:=hP.len;have hsm:=(hP.sm x.1 p hpx).ha;have hlt:=Pg.wW ps (Pg.aX pre) s hs;have har:Pg.ji ps x.1=p.around:=by unfold Pg.ji;rw [hpx]
  have ha:=RC _ _ hlt hsm;have hsn:=Pg.El ps s (Pg.aX pre) x.1;rw [har,<- Pg.dS] at hsn;have hB':∀ v,Below w w ((W.drew).setCell ⟨w.heap.size+1,0,none⟩ v):=fun v=>(hB.trans ((MY _ W).drew)).setCell (p:=⟨w.heap.size+1,0,none⟩) zad _;have hko:∀ v,KeepsOthers W ((W.drew).setCell ⟨w.heap.size+1,0,none⟩ v):=fun v=>(PZ W).trans (N0 _ _ _);have hkp:∀ v,Pg.KpT W ((W.drew).setCell ⟨w.heap.size+1,0,none⟩ v):=fun v=>Pg.KpT.of (((MY w W).drew).setCell (p:=⟨w.heap.size+1,0,none⟩) zad _) hg;have hbp:∀ v,Boxed ((W.drew).setCell ⟨w.heap.size+1,0,none⟩ v) w.heap.size 73 pb:=fun v=>Boxed.kept (W:=W.drew) (show Boxed W.drew _ _ _ from hp) (RT _ _ _) zad;have hbc:Boxed ((W.drew).setCell ⟨w.heap.size+1,0,none⟩ (.int .u32 ((Pg.tR ps s (Pg.aX pre)&&&(4294967295-p.around):Nat):Int))) (w.heap.size+1) 75 (.int .u32 (Pg.tR ps s (Pg.aX (pre++[x])))):=by
   exact zeI
  clear hsn har hp hc hP hP';gi_wp2;gi_region
  all_goals gi_wp2
  all_goals exact ⟨hko _,hkp _,⟨hbp _,hbc⟩,hB' _⟩
 case done =>
  rintro D ys W hD hys ⟨⟨_,hc⟩,hB⟩ hK;exact zdB
 case stop =>
  exact zfk
end
section
open Go
theorem oH {P:Program} {row:String} {w:World} {R:Value->World->Prop} (h:Rows P row args w R):RowsIn (Fence.wide.inRound k) n P row args w R :=
 fun c cs _=>let ⟨v,w',r,s⟩:=h c cs;⟨v,w',r,stepsIn_wide.2 s⟩
theorem aH {P:Program} {f:FuncId} {w:World} (h:Calls P f args w R):CallsIn (Fence.wide.inRound k) n P f args w R :=
 CallsIn.inRound k (Nz.2 h)
theorem CD {k n:Nat} {P:Program} {o:Oper} {a:Act} {N N':Act->World->Prop} {Q:Exit->Act->World->Prop} (hN:∀ a w,N a w->N' a w):∀ r:Result Next,o.upon P a N Q r->o.uponIn (Fence.wide.inRound k) n P a N' Q r:=by
 have hd:∀ x:Prop,((Fence.wide.inRound k).depth.isSome=true->x):=fun x h=>zat;intro r h;cases r with
 | ok v w' =>
  cases v <;> first
   | exact hN _ _ h
   | exact ⟨hd _,oH (Rows.mono h fun _ _ hx=>hN _ _ hx)⟩
   | exact h.elim
   | skip
  exact ⟨hd _,aH (M7 h fun e w'' hx=>by
   cases e
   ·exact hN _ _ hx
   ·exact hx
   ·exact hx)⟩
 | halt x w'=>cases x <;> first | exact h | exact h.elim
def kA (ops:Array Oper):Bool:=ops.all fun o=>match o.op with | .defer _=>false | _=>true
theorem oh {ops:Array Oper} (h:kA ops=true) (ho:ops[i]?=some o) (c:_):o.op≠Op.defer c:=by
 intro he;have hm:o∈ops:=Array.mem_of_getElem? ho;have:=P6.1 h o hm;rw [he] at this;exact Bool.noConfusion this
theorem mh {k n:Nat} {P:Program} {ops:Array Oper} {Q:Exit->Act->World->Prop} (hnd:kA ops=true) (hL:¬ LetsOut Q):∀ (l:List Nat) (a:Act) (w:World),wpOps P ops Q l a w->wpOpsIn (Fence.wide.inRound k) n P ops Q l a w
 | [],_,_,h=>h
 | i::l,a,w,h=>by
  unfold wpOps at h;unfold wpOpsIn;cases ho:ops[i]? with
  | none =>
   simp only [ho] at h;exact mh hnd hL l a w h
  | some o =>
   simp only [ho] at h;simp only;split
   ·rename_i hw;rw [M6 hw] at h
    rcases h with h | ⟨_,h⟩
    ·refine ⟨fun _ _=>trivial,?_⟩;rw [Oper.semAt_eq _ _ _ (fun c=>oh hnd ho c)];exact CD (fun a w hx=>mh hnd hL l a w hx) _ h
    ·exact absurd h hL
   ·rename_i hw;rw [M4 hw] at h;exact ⟨fun _ _=>trivial,mh hnd hL l _ w h⟩
theorem kR {P:Program} {ops:Array Oper} {Q:Exit->Act->World->Prop} {a:Act} {w:World} (hm:P.follows .mixedOrders=true) (hnd:kA ops=true) (hL:¬ LetsOut Q)
  (h:wpAny P .any ops Q ops.size (Array.replicate ops.size false) a { w with drawn:=w.drawn+1 }):(Code.region id ops true).wpIn (Fence.wide.inRound k) n P Q a w :=
 wpIn_region_draw fun t=>by
  simp only [Region.schedule,hm,Bool.true_or,if_true];exact mh hnd hL _ _ _ (wpAny_sound ops.size t _ a _ h)
theorem cV {P:Program} {ops:Array Oper} {Q:Exit->Act->World->Prop} {S:World->Prop} {a:Act} {w:World} (hm:P.follows .mixedOrders=true) (hnd:kA ops=true) (hL:¬ LetsOut Q) (hS:S w.drew)
  (h:S w.drew->wpAnyH P .any ops Q S ops.size (Array.replicate ops.size false) a w.drew):(Code.region id ops true).wpIn (Fence.wide.inRound k) n P Q a w :=
 kR hm hnd hL (wpAny_of_held _ _ _ _ (h hS))
theorem oC {P:Program} {md:Region.Mode} {ops:Array Oper} {Q:Exit->Act->World->Prop} {S:World->Prop} {fuel:Nat} {listed:Array Bool} {a:Act} {w:World} {rs:List Nat} (ho:ops[i]?=some o) (hw:Region.wanted o (yielded ops a.tmps)=true)
  (h:∀ K':Act->World->Prop,Shut (∀ a w,S w->(S w->wpAnyH P md ops Q S fuel (listed.setIfInBounds i true) a w)->K' a w)->Oper.wp P o a w K' Q)
  (hs:AllReadyH P md ops Q S fuel listed a w rs):AllReadyH P md ops Q S fuel listed a w (i::rs) :=
 NJ ho (fun K hK=>by rw [M6 hw];exact h K hK) hs
end
section
open Go.RowKit Go.Proofs Go.Shelf
attribute [local go_sem] NR
namespace Pg
def fy (ps:List PS) (i:Nat):Nat:=match ps[i]? with | some p=>p.wth | none=>0
def jn (ps:List PS) (i:Nat):Nat:=match ps[i]? with | some p=>p.inside | none=>0
def qx (ps:List PS) (ow:Nat) (l:List Nat):Nat:=l.foldl (fun o i=>o|||(fy ps i|||(ji ps i&&&jn ps ow))) 0
theorem EW (ps:List PS) (ow:Nat) (l:List Nat) (i:Nat):qx ps ow (l++[i])=qx ps ow l|||(fy ps i|||(ji ps i&&&jn ps ow)):=by
 unfold qx;rw [Ot];rfl
theorem qb {a:Nat} (ha:a<4294967296) (hb:b<4294967296):a|||b<4294967296:=NV (n:=32) ha hb
theorem j6 {a:Nat} (ha:a<4294967296):a&&&b<4294967296:=NT OQ ha
end Pg
theorem zX (n:Nat) (hn:3<=n) (w:World) (pb b cap:Nat) (ps:List Pg.PS) (ow:Nat) (po:Pg.PS) (hpo:ps[ow]?=some po) (s:Nat) (hs:s<4294967296) (h0s:s≠0) (hin:∀ i,i∈Pg.els s->i<ps.length) (hbd:∀ l,Pg.qx ps ow l<4294967296) (hP:Pg.bZ w pb b cap ps) (hpb:pb<w.heap.size) (hb:b<w.heap.size)
  (hg:1<w.heap.size) (hT:TabAt 1 Lib.deBruijn32tab w) :
  CallsIn Fence.wide n prog 155 #[pb,(ow:Int),.int .u32 s] w fun e w'=>e = .returned (.int .u32 (Pg.qx ps ow (Pg.els s)))/\Below w w w':=by
 have h1:1<=n:=zaa;have hol:ow<ps.length:=(MZ.1 hpo).1;have hlen:=hP.len;have hrow:=hP.row;have hz:((s:Int) == 0)=false:=zae;refine NX func155 rfl trivial ?_ rfl;simp only [ntmps155,List.size_toArray,List.length_cons,List.length_nil,Nat.reduceAdd,Nat.reduceSub,Array.replicate_succ,Array.replicate_zero,List.push_toArray,List.append_toArray,List.nil_append,List.cons_append];have hrow1:(w.alloc (.cells #[pb] 73)).cell? pb=some (.slice b ps.length cap):=(((MY _ w).alloc (MR _) _).cell (p:=⟨pb,0,none⟩) hpb).trans hrow;gi_wp2_with (refine ⟨trivial,?_⟩;gi_at_call 92;refine (Nz.2 (dy s _)).mono ?_;rintro e w9 ⟨rfl,hw9⟩;rw [hw9];clear hw9 w9);have c0:=NA w 73 pb;have c1:=NA (w.alloc (.cells #[pb] 73)) 231 (.pointer (some ⟨b,ow*10,none⟩));have c2:=NA ((w.alloc (.cells #[pb] 73)).alloc (.cells #[.pointer (some ⟨b,ow*10,none⟩)] 231)) 75 (.int .u32 0);have c3:=NA (((w.alloc (.cells #[pb] 73)).alloc (.cells #[.pointer (some ⟨b,ow*10,none⟩)] 231)).alloc (.cells #[.int .u32 0] 75)) 75 (.int .u32 s);simp only [World.size_alloc] at c1 c2 c3;have hB0:Below w w ((((w.alloc (.cells #[pb] 73)).alloc (.cells #[.pointer (some ⟨b,ow*10,none⟩)] 231)).alloc (.cells #[.int .u32 0] 75)).alloc (.cells #[.int .u32 s] 75)):=((((MY _ w).alloc (MR _) _).alloc zad _).alloc zae _).alloc zae _;refine QI rfl h1 (gf:=144) (lb:=#[↑(w.heap.size+1+1+1)]) rfl trivial (Pe func144 zab rfl)
  (eY (n-1) zaa (w.heap.size+1+1+1) s hs _ zad zad c3.cell (Pg.KpT.of hB0 hg hT)) Pg.KpT.tr (fun W l o o' hl h hc hw=>Pg.KpT.of (Po (n₀:=w.heap.size) (MX (Qc _ 4) zad) W l o o' hl h hc hw) hg) (MY _ _) (fun _=>rfl)
  (fun pre W=>(Boxed W w 73 pb/\Boxed W (w.heap.size+1) 231 (.pointer (some ⟨b,ow*10,none⟩))/\Boxed W (w.heap.size+1+1) 75 (.int .u32 (Pg.qx ps ow (Pg.aX pre))))/\Below w w W)
  (fun _ _ _=>False)
  (NH (NH (Oo (Og _ _ _) _) (NH (Oo (Og _ _ _) _) (Oo (Og _ _ _) _))) (OX (MR _) zae))
  (fun _ _ _ _ _ hs _ _=>hs)
  ⟨⟨((c0.alloc _).alloc _).alloc _,(c1.alloc _).alloc _,c2.alloc _⟩,hB0⟩
  (fun x=>{ tmps:=#[.pointer (some ⟨pb,0,none⟩),.int .i64 ow,.int .u32 s,.pointer (some ⟨w.heap.size,0,none⟩),undef,undef,.int .u32 0,.pointer (some ⟨w.heap.size+1,0,none⟩),.pointer (some ⟨w.heap.size+1+1,0,none⟩),.int .i64 x.1,.pointer (some ⟨pb,0,none⟩),.pointer (some ⟨pb,0,none⟩),.pointer (some ⟨pb,0,none⟩),.slice (some ⟨b,0,none⟩) ps.length cap,.int .i64 ow,.pointer (some ⟨b,ow*10,none⟩),.int .u32 s,.bool false,undef,undef,undef,undef,undef,undef,undef,.int .u32 s,.func (.func 144) #[] #[.pointer (some ⟨w.heap.size+1+1+1,0,none⟩)],.int .i64 x.1,undef,undef,undef,undef,undef,undef,undef,undef,undef,undef,undef,undef,undef,undef,undef,undef,undef,undef,undef,undef,undef,undef,undef,undef,undef],defers:=[] }) ?assign ?body ?done ?stop
 case assign =>
  exact zfs
 case body =>
  rintro l pre x W ⟨⟨hp,ho,hc⟩,hB⟩ _;have hxl:=hin x.1 x.2;obtain ⟨p,hpx⟩:∃ p,ps[x.1]?=some p:=⟨_,MU hxl⟩;have hP':=hP.below hB hpb hb;have sa:=(hP.sm x.1 p hpx).ha;have sw:=(hP.sm x.1 p hpx).hw;have si:=(hP.sm ow po hpo).hi;have hlt:=hbd (Pg.aX pre);have har:Pg.ji ps x.1=p.around:=by unfold Pg.ji;rw [hpx]
  have hwt:Pg.fy ps x.1=p.wth:=by unfold Pg.fy;rw [hpx]
  have hid:Pg.jn ps ow=po.inside:=by unfold Pg.jn;rw [hpo]
  have ha1:=Qg _ _ sa si;have ha2:=Pu _ _ sw (Pg.j6 (b:=po.inside) sa);have ha3:=Pu _ _ hlt (Pg.qb sw (Pg.j6 (b:=po.inside) sa));have hsn:=Pg.EW ps ow (Pg.aX pre) x.1;rw [har,hwt,hid,<- Pg.dS] at hsn;have hB':∀ v,Below w w ((W.drew).setCell ⟨w.heap.size+1+1,0,none⟩ v):=fun v=>(hB.trans ((MY _ W).drew)).setCell (p:=⟨w.heap.size+1+1,0,none⟩) zae _;have hko:∀ v,KeepsOthers W ((W.drew).setCell ⟨w.heap.size+1+1,0,none⟩ v):=fun v=>(PZ W).trans (N0 _ _ _);have hkp:∀ v,Pg.KpT W ((W.drew).setCell ⟨w.heap.size+1+1,0,none⟩ v):=fun v=>Pg.KpT.of (((MY w W).drew).setCell (p:=⟨w.heap.size+1+1,0,none⟩) zae _) hg;have hbp:∀ v,Boxed ((W.drew).setCell ⟨w.heap.size+1+1,0,none⟩ v) w.heap.size 73 pb:=fun v=>Boxed.kept (W:=W.drew) (show Boxed W.drew _ _ _ from hp) (RT _ _ _) zae;have hbo:∀ v,Boxed ((W.drew).setCell ⟨w.heap.size+1+1,0,none⟩ v) (w.heap.size+1) 231 (.pointer (some ⟨b,ow*10,none⟩)):=fun v=>Boxed.kept (W:=W.drew) (show Boxed W.drew _ _ _ from ho) (RT _ _ _) zad;have hbc:Boxed ((W.drew).setCell ⟨w.heap.size+1+1,0,none⟩ (.int .u32 ((Pg.qx ps ow (Pg.aX pre)|||(p.wth|||(p.around&&&po.inside)):Nat):Int))) (w.heap.size+1+1) 75 (.int .u32 (Pg.qx ps ow (Pg.aX (pre++[x])))):=by
   exact zeI
  have hcc:=hc.cell;have hcf:=hc.frozen;gi_wp2;refine cV (S:=(fun V=>V.cell? w=some ↑pb/\V.cell? ⟨w.heap.size+1,0,none⟩=some (.pointer (some ⟨b,ow*10,none⟩))/\V.cell? pb=some (.slice b ps.length cap)/\V.cell? ⟨b,x.1*10+7,none⟩=some (.int .u32 p.wth)/\V.cell? ⟨b,x.1*10+6,none⟩=some (.int .u32 p.around)/\V.cell? ⟨b,ow*10+5,none⟩=some (.int .u32 po.inside))) zab zab zbj ⟨hp.cell,ho.cell,hP'.row,(hP'.at' x.1 p hpx).c7,(hP'.at' x.1 p hpx).c6,(hP'.at' ow po hpo).c5⟩ (fun u0 => ?_);clear hsn har hwt hid hp hc ho hP hP' hrow hrow1;refine tH 1 pb rfl u0 ?_;refine tH 2 pb rfl u0 ?_;refine tH 3 pb rfl u0 ?_;refine tH 4 (.slice b ps.length cap) rfl u0 ?_;refine tH 5 (.int .i64 x.1) rfl u0 ?_;refine tH 6 (.pointer (some ⟨b,x.1*10,none⟩)) rfl u0 ?_;refine tH 7 (.pointer (some ⟨b,x.1*10+7,none⟩)) rfl u0 ?_;refine tH 8 (.int .u32 p.wth) rfl u0 ?_;refine tH 9 pb rfl u0 ?_;refine tH 10 pb rfl u0 ?_;refine tH 11 pb rfl u0 ?_;refine tH 12 (.slice b ps.length cap) rfl u0 ?_;refine tH 13 (.int .i64 x.1) rfl u0 ?_;refine tH 14 (.pointer (some ⟨b,x.1*10,none⟩)) rfl u0 ?_;refine tH 15 (.pointer (some ⟨b,x.1*10+6,none⟩)) rfl u0 ?_;refine tH 16 (.int .u32 p.around) rfl u0 ?_;refine tH 17 (.pointer (some ⟨b,ow*10,none⟩)) rfl u0 ?_;refine tH 18 (.pointer (some ⟨b,ow*10,none⟩)) rfl u0 ?_;refine tH 19 (.pointer (some ⟨b,ow*10+5,none⟩)) rfl u0 ?_;refine tH 20 (.int .u32 po.inside) rfl u0 ?_;refine tH 21 (.int .u32 ((p.around&&&po.inside:Nat):Int)) rfl u0 ?_;refine tH 22 (.int .u32 ((p.wth|||(p.around&&&po.inside):Nat):Int)) rfl u0 ?_;refine zH 0 rfl fun K hK => ?_;go_simp;refine hK.out _ _ u0 (fun u0 => ?_);clear hK K;refine tH 23 (.int .u32 ((Pg.qx ps ow (Pg.aX pre)|||(p.wth|||(p.around&&&po.inside)):Nat):Int)) rfl u0 ?_;refine zH 24 rfl fun K hK => ?_;go_simp;refine hK.out _ _ (by
   have e:∀ (a:Addr),a.block≠w.heap.size+1+1->∀ v,(W.setCell ⟨w.heap.size+1+1,0,none⟩ v).drew.cell? a=W.drew.cell? a:=fun a ha v=>World.cell?_setCell_far W _ _ _ (fun h=>ha h.symm)
   (try dsimp only at u0);(try dsimp only)
   rw [e _ zae,e _ zad,e _ zae,e _ zae,e _ zae,e _ zae];exact u0) (fun _ => ?_)
  clear hK K;refine Nt zab ?_ _;gi_wp2;exact ⟨hko _,hkp _,⟨hbp _,hbo _,hbc⟩,hB' _⟩
 case done =>
  rintro D ys W hD hys ⟨⟨_,_,hc⟩,hB⟩ hK;exact zdB
 case stop =>
  exact zfk
namespace Pg
theorem qO {ps:List PS} (h:∀ (i:Nat) (p:PS),ps[i]?=some p->p.Sm) (i:Nat):fy ps i<4294967296:=by
 unfold fy;split
 ·rename_i p hp;exact (h i p hp).hw
 ·omega
theorem I3 {ps:List PS} (h:∀ (i:Nat) (p:PS),ps[i]?=some p->p.Sm) (i:Nat):ji ps i<4294967296:=by
 unfold ji;split
 ·rename_i p hp;exact (h i p hp).ha
 ·omega
theorem Dj {ps:List PS} (h:∀ (i:Nat) (p:PS),ps[i]?=some p->p.Sm) (ow:Nat):∀ (l:List Nat) (o:Nat),o<4294967296->l.foldl (fun o i=>o|||(fy ps i|||(ji ps i&&&jn ps ow))) o<4294967296
 | [],_,ho=>ho
 | i::l,_,ho=>Dj h ow l _ (qb ho (qb (qO h i) (j6 (I3 h i))))
theorem Di {ps:List PS} (h:∀ (i:Nat) (p:PS),ps[i]?=some p->p.Sm) (ow:Nat) (l:List Nat):qx ps ow l<4294967296:=Dj h ow l 0 zaa
def dO (ps:List PS) (ow s:Nat):Nat:=if s=0 then fy ps ow&&&(4294967295-2 ^ ow) else qx ps ow (els s)
theorem EX {ps:List PS} (h:∀ (i:Nat) (p:PS),ps[i]?=some p->p.Sm) (ow s:Nat):dO ps ow s<4294967296:=by
 unfold dO;split
 ·exact j6 (qO h ow)
 ·exact Di h ow _
end Pg
theorem zY (w:World) (pb b cap:Nat) (ps:List Pg.PS) (ow:Nat) (po:Pg.PS) (hpo:ps[ow]?=some po) (hP:Pg.bZ w pb b cap ps) (hpb:pb<w.heap.size) (hb:b<w.heap.size) :
  () 155 #[pb,(ow:Int),.int .u32 0] w fun e w'=>e = .returned (.int .u32 (Pg.fy ps ow&&&(4294967295-2 ^ ow):Nat))/\Below w w w':=by
 have hol:ow<ps.length:=(MZ.1 hpo).1;have hlen:=hP.len;have hB1:Below w w (w.alloc (.cells #[pb] 73)):=(MY _ w).alloc (MR _) _;have hB2:Below w w ((w.alloc (.cells #[pb] 73)).alloc (.cells #[.pointer (some ⟨b,ow*10,none⟩)] 231)):=hB1.alloc zad _;have hrow1:=(hP.below hB1 hpb hb).row;have h7:=((hP.below hB2 hpb hb).at' ow po hpo).c7;have hc1:=(NA (w.alloc (.cells #[pb] 73)) 231 (.pointer (some ⟨b,ow*10,none⟩))).cell;simp only [World.size_alloc] at hc1;have hwt:Pg.fy ps ow=po.wth:=by unfold Pg.fy;rw [hpo]
 have hsm:=(hP.sm ow po hpo).hw;have ha:bits BinOp.andNot IntKind.u32 (po.wth:Int) ((2:Int) ^ ow)=((po.wth&&&(4294967295-2 ^ ow):Nat):Int):=by
  rw [jg,RC _ _ hsm (gb zaa)]
 rw [hwt];generalize hr:po.wth&&&(4294967295-2 ^ ow)=r at *;go_enter func155,ntmps155;go_wp2;generalize (w.alloc (.cells #[pb] 73)).alloc (.cells #[.pointer (some ⟨b,ow*10,none⟩)] 231)=W at *;go_region_with (go_at_call 93;refine (iz ow _ zaa).mono ?_;rintro e w9 ⟨rfl,hw9⟩;rw [hw9];clear hw9 w9)
 all_goals go_wp2
 all_goals go_ret
 all_goals exact ⟨rfl,hB2.trans (MY _ W).drew⟩
theorem Cj (w:World) (pb b cap:Nat) (ps:List Pg.PS) (ow:Nat) (po:Pg.PS) (hpo:ps[ow]?=some po) (s:Nat) (hs:s<4294967296) (hin:∀ i,i∈Pg.els s->i<ps.length) (hP:Pg.bZ w pb b cap ps) (hpb:pb<w.heap.size) (hb:b<w.heap.size)
  (hg:1<w.heap.size) (hT:TabAt 1 Lib.deBruijn32tab w) :
  () 155 #[pb,(ow:Int),.int .u32 s] w fun e w'=>e = .returned (.int .u32 (Pg.dO ps ow s))/\Below w w w':=by
 unfold Pg.dO;by_cases h0:s=0
 ·subst h0;rw [M6 rfl];exact zY w pb b cap ps ow po hpo hP hpb hb
 ·rw [M4 h0];exact Nz.1 (zX 3 zaa w pb b cap ps ow po hpo s hs h0 hin (Pg.Di hP.sm ow) hP hpb hb hg hT)
theorem mK (w:World) (pb b cap:Nat) (ps:List Pg.PS) (s:Nat) (hs:s<4294967296) (hin:∀ i,i∈Pg.els s->i<ps.length) (hP:Pg.bZ w pb b cap ps) (hpb:pb<w.heap.size) (hb:b<w.heap.size)
  (hg:1<w.heap.size) (hT:TabAt 1 Lib.deBruijn32tab w) :
  () 101 #[pb,.int .u32 s] w fun e w'=>e = .returned (.int .u32 (Pg.inn ps s))/\Below w w w' :=
 Nz.1 (wX 3 zaa w pb b cap ps s hs hin hP hpb hb hg hT)
