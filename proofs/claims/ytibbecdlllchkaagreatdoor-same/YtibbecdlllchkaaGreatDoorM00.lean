import Derived.Test.YtibbecdlllchkaaGreatDoorProg
import Derived.WalkLawsBesides
import Derived.WalkSpells
import Derived.Deep.WholeRow
import Derived.StillTailTactics
import Derived.Deep.RegionHeld
import Derived.PlainAid
import Derived.Deep.Light
import Derived.Lib.ItoaNum
import Derived.Lib.ParseIntB
import Derived.Shelf.Small.Bits
import Derived.Shelf.Spec.TrailingZeros
import Derived.RangeFuncNested
import Derived.RangeFuncBound
import Derived.Shelf.RegionOpen
import Derived.OwnWalkIn
import Derived.LoopNIn
import Derived.LoopIn
set_option maxRecDepth 100000
set_option maxHeartbeats 8000000
namespace Go.Proofs.YtibbecdlllchkaaGreatDoor
variable {zp:Prop}
theorem zcI(h:zp:=by
 have hp:=Q3 k;have e1:s=2 ^ k*(2*m+1)+0:=zaa;have e2:s-1=2 ^ k*(2*m)+(2 ^ k-1):=by
  have:2 ^ k*(2*m+1)=2 ^ k*(2*m)+2 ^ k:=by rw[Nat.mul_add,SK]
  omega
 have t1:∀j,s.testBit j=if j<k then false else(2*m+1).testBit (j-k):=by
  intro j;rw[e1,Sq _ hp,TO]
 have t2:∀j,(s-1).testBit j=if j<k then(2 ^ k-1).testBit j else(2*m).testBit (j-k):=by
  intro j;rw[e2,Sq _ zaa]
 refine⟨hk,?_,?_,?_⟩
 ·rw[t1,Pu zaa,RR,SR];simp
 ·intro j hj;rw[t1,PC hj]
 ·intro j;rw[S8,t1,t2];by_cases hj:j<k
  ·rw[PC hj,PC hj];rfl
  ·rw[Pu hj,Pu hj];by_cases hjk:j=k
   ·subst hjk;rw[RR,SR,SR];simp
   ·obtain⟨i,hi⟩:∃i,j-k=i+1:=⟨j-k-1,zaa⟩;rw[hi,TP,TP,show(2*m+1) / 2=m by omega,show 2*m / 2=m by omega];simp[hjk]):zp:=h
theorem zdl(h:zp:=by
 have hc:=hc.cell;rw[Y.cU,WT]at hc;gi_wp2;refine⟨zad,.inl ⟨_,_,rfl,Qn hK,?_⟩⟩;exact⟨_,TX rfl _ _ _,rfl,hB.trans (R3 (w:=w) (Po _) W D _ _ zbq hK rfl rfl)⟩):zp:=h
theorem zdY(h:zp:=by
 gi_wp2;refine Q5 (QD rfl _ _ _) rfl ?_;exact⟨⟨_,rfl⟩,.inr ⟨_,⟨_,hE.symm⟩,hJx3⟩⟩):zp:=h
theorem zeF(h:zp:=by
 rw[Wh];exact Um (W:=W.drew) _ (show Boxed W.drew _ _ _ from hc)):zp:=h
theorem zeJ(h:zp:=by
 have:=QI s.testBit (List.range 32);rw[RZ]at this;exact this):zp:=h
theorem ze5(h:zp:=by
 exact⟨⟨_,rfl⟩,.inl ⟨pre,he.symm,hJs⟩⟩):zp:=h
theorem zfm(h:zp:=by
 rintro D c pre W _ _ h _;exact h.elim):zp:=h
theorem zfr(h:zp:=by
 go_wp2;go_ret;exact⟨rfl,rfl⟩):zp:=h
theorem zfs(h:zp:=by
 rw[he,hf]at h1;simp at h1;omega):zp:=h
theorem zft(h:zp:=by
 intro l x W K hK;gi_wp2;exact hK):zp:=h
theorem zfx(h:zp:=by
 go_ret;exact⟨rfl,rfl⟩):zp:=h
theorem zaa(h:zp:=by omega):zp:=h
theorem zab(h:zp:=by kernel_rfl):zp:=h
theorem zac(h:zp:=by decide):zp:=h
theorem zad(h:zp:=by simp):zp:=h
theorem zae(h:zp:=by rfl):zp:=h
theorem zaf(h:zp:=by simp;omega):zp:=h
theorem zag(h:zp:=by unfold maxLen;omega):zp:=h
theorem zah(h:zp:=by go_num):zp:=h
theorem zai(h:zp:=by(try dsimp only at VF);go_simp;(try with_reducible rfl)):zp:=h
theorem zal(h:zp:=by assumption):zp:=h
theorem zap(h:zp:=by simp[Value.oneCell']):zp:=h
theorem zaD(h:zp:=by simpa using h):zp:=h
theorem zaE(h:zp:=by cases h):zp:=h
theorem zaQ(h:zp:=by simp at hi;omega):zp:=h
theorem zbk(h:zp:=by rw[h.size];exact Po _):zp:=h
theorem zbl(h:zp:=by rintro⟨_,_,h⟩;exact h):zp:=h
theorem zbq(h:zp:=by simp at hD;omega):zp:=h
theorem zbw(h:zp:=by simpa using hi):zp:=h
theorem zbx(h:zp:=by decide +kernel):zp:=h
theorem zb0(h:zp:=by simpa[isD] using hd.1):zp:=h
instance:Coe Int Value:=⟨.int .i64⟩
instance:CoeFun Unit fun _=>Nat->Array Value->World->(Ending->World->Prop)->Prop:=⟨fun _=>Calls Tryz.prog⟩
instance:Coe Nat Value:=⟨fun b=>.pointer (some ⟨b,0,none⟩)⟩
instance:Coe World Nat:=⟨fun w=>w.heap.size⟩
instance:Coe Nat Addr:=⟨fun b=>⟨b,0,none⟩⟩
instance:CoeSort Unit Type:=⟨fun _=>ByteArray⟩
instance:CoeDep Unit () Type:=⟨ByteArray⟩
instance:Coe ByteArray Value:=⟨.string⟩
instance:Coe Bool Value:=⟨.bool⟩
instance(b i:Nat):CoeDep (Nat×Nat) (b,i) Addr:=⟨⟨b,i,none⟩⟩
instance(b i:Nat):CoeDep (Nat×Nat) (b,i) Value:=⟨.pointer (some ⟨b,i,none⟩)⟩
instance(w:World)(i:Nat):CoeDep (World×Nat) (w,i) Addr:=⟨⟨w.heap.size,i,none⟩⟩
instance(w:World)(i:Nat):CoeDep (World×Nat) (w,i) Value:=⟨.pointer (some ⟨w.heap.size,i,none⟩)⟩
abbrev Pn:=@Array.getElem?_eq_some_iff
abbrev Po:=@Nat.le_refl
abbrev Pp:=@List.getElem?_eq_getElem
abbrev Pq:=@Go.RowKit.Below.refl
abbrev Pr:=@Nat.le_trans
abbrev Ps:=@List.getElem?_eq_some_iff
abbrev Pt:=@Go.cell_of_row
abbrev Pu:=@if_neg
abbrev Pv:=@List.getElem?_map
abbrev Pw:=@Go.Calls.mono
abbrev PB:=@List.mem_singleton
abbrev PC:=@if_pos
abbrev PD:=@List.mem_of_getElem?
abbrev PE:=@List.length_map
abbrev PG:=@Go.heap_alloc_new
abbrev PH:=@List.getD_eq_getElem?_getD
abbrev PI:=@List.length_append
abbrev PJ:=@Go.wp_region_held_drew
abbrev PK:=@Nat.zero_le
abbrev PN:=@Go.World.cell?_of_block
abbrev PO:=@List.length_set
abbrev PQ:=@List.mem_append
abbrev PR:=@Go.heap_setCell_same
abbrev PU:=@Option.map_eq_some_iff
abbrev PW:=@Go.World.block_lt_of_cell?
abbrev PX:=@Go.wpAnyH_done
abbrev PY:=@Nat.lt_of_lt_of_le
abbrev PZ:=@List.mem_cons_self
abbrev P0:=@List.mem_map
abbrev P1:=@Go.ByteArray.toList_eq
abbrev P2:=@Go.ByteArray.size_append'
abbrev P3:=@List.mem_cons_of_mem
abbrev P4:=@List.getElem?_set_self
abbrev P5:=@List.mem_iff_getElem?
abbrev P6:=@List.getElem?_eq_none
abbrev P7:=@List.getElem_mem
abbrev P8:=@Go.callsIn_wide
abbrev P9:=@Go.Boxed.new
abbrev Qa:=@List.mem_or_eq_of_mem_set
abbrev Qb:=@List.getElem?_set_ne
abbrev Qc:=@List.flatMap_append
abbrev Qd:=@List.append_assoc
abbrev Qe:=@Bool.and_eq_true
abbrev Qf:=@Go.World.ownsRow.lt
abbrev Qg:=@Go.RowKit.Below.heap_setCell
abbrev Qh:=@Option.some.inj
abbrev Qi:=@Go.OwnFrom.and
abbrev Qj:=@List.map_append
abbrev Qk:=@Go.AllReadyH.cons
abbrev Ql:=@decide_eq_false
abbrev Qm:=@Go.World.cell?_alloc_lt
abbrev Qn:=@Go.run_takeDeferred
abbrev Qo:=@List.getElem?_append_left
abbrev Qp:=@decide_eq_true
abbrev Qq:=@Nat.lt_of_le_of_lt
abbrev Qr:=@List.getElem?_append_right
abbrev Qs:=@Go.World.putObj_heap_other
abbrev Qt:=@Nat.or_lt_two_pow
abbrev Qu:=@Go.Oper.semAt_some
abbrev Qv:=@Go.callsIn_of_wp_marks
abbrev Qw:=@List.length_cons
abbrev Qx:=@Nat.mul_le_mul_right
abbrev Qy:=@List.take_length
abbrev Qz:=@Go.KeepsOthers.setCell
abbrev QA:=@Go.wpList_load_mid
abbrev QB:=@List.flatMap_cons
abbrev QC:=@Go.World.ownsRow_nil
abbrev QD:=@Go.results_none
abbrev QE:=@List.take_add_one
abbrev QF:=@List.mem_range
abbrev QG:=@Nat.add_assoc
abbrev QH:=@List.mem_cons
abbrev QI:=@List.length_filter_le
abbrev QJ:=@Array.getElem?_toList
abbrev QK:=@List.getElem?_take_of_lt
abbrev QL:=@Go.World.size_alloc
abbrev QM:=@Go.boxed_own
abbrev QN:=@List.length_take
abbrev QO:=@List.getElem_set
abbrev QP:=@Go.KeepsFrom.refl
abbrev QQ:=@List.foldl_append
abbrev QR:=@Int.toNat_natCast
abbrev QS:=@Go.RowKit.Below.heap_alloc
abbrev QT:=@List.mem_map_of_mem
abbrev QU:=@Go.Own.from
abbrev QV:=@Go.info_parts
abbrev QW:=@List.map_map
abbrev QX:=@Go.AllReadyH.nil
abbrev QY:=@Go.wpStill_nil
abbrev QZ:=@List.getElem_append_right
abbrev Q0:=@Array.getElem?_setIfInBounds_ne
abbrev Q1:=@List.getElem_append_left
abbrev Q2:=@List.mem_filter
abbrev Q3:=@Nat.two_pow_pos
abbrev Q4:=@Go.grownBy_putObj'
abbrev Q5:=@Go.bodyPost_ret
abbrev Q6:=@List.length_singleton
abbrev Q7:=@List.map_cons
abbrev Q8:=@Array.getElem?_setIfInBounds_self_of_lt
abbrev Q9:=@List.getLast?_eq_getElem?
abbrev Ra:=@Classical.byContradiction
abbrev Rb:=@List.append_nil
abbrev Rc:=@Nat.pow_le_pow_right
abbrev Re:=@List.filter_append
abbrev Rg:=@List.isEmpty_iff_length_eq_zero
abbrev Rh:=@Nat.and_le_left
abbrev Ri:=@List.isEmpty_iff
abbrev Rj:=@Bool.and_false
abbrev Rl:=@List.filter_cons_of_neg
abbrev Rn:=@List.filter_cons_of_pos
abbrev Ro:=@Go.World.frozen?_alloc_old
abbrev Rp:=@List.eq_nil_of_length_eq_zero
abbrev Rr:=@Nat.lt_or_ge
abbrev Rs:=@Go.World.putObj_heap_same
abbrev Rt:=@ByteArray.append_empty
abbrev Ru:=@Go.ownFrom_below
abbrev Rv:=@List.mem_flatMap
abbrev Rx:=@beq_eq_false_iff_ne
abbrev Ry:=@List.length_pos_iff
abbrev Rz:=@Nat.zero_add
abbrev RA:=@List.ext_getElem?
abbrev RB:=@List.map_set
abbrev RC:=@List.length_eq_zero_iff
abbrev RD:=@List.mem_of_getLast?
abbrev RE:=@Go.RowKit.Below.block
abbrev RF:=@List.pairwise_cons
abbrev RG:=@List.all_eq_true
abbrev RH:=@List.flatMap_singleton
abbrev RI:=@Go.World.ownsRow.frozenAt
abbrev RJ:=@Go.Lib.cell_of_heap
abbrev RK:=@Go.World.ownsRow.alloc
abbrev RL:=@List.getElem_of_mem
abbrev RM:=@Go.below_drewN
abbrev RN:=@List.getElem?_set
abbrev RO:=@of_decide_eq_true
abbrev RP:=@List.length_replicate
abbrev RQ:=@Bool.false_and
abbrev RR:=@Nat.sub_self
abbrev RS:=@Go.wpAnyH_take
abbrev RT:=@Go.Proofs.enters_of
abbrev RU:=@List.getElem_map
abbrev RV:=@List.any_eq_true
abbrev RW:=@List.getElem?_cons_succ
abbrev RX:=@List.filter_eq_nil_iff
abbrev RY:=@List.filter_congr
abbrev RZ:=@List.length_range
abbrev R1:=@Nat.succ_mul
abbrev R3:=@Go.belowK_b
abbrev R4:=@List.foldl_cons
abbrev R5:=@Go.Proofs.Tryz.zeroValue4
abbrev R6:=@List.nil_append
abbrev R7:=@List.getLast?_eq_none_iff
abbrev R8:=@Go.World.frozen?_setCell
abbrev R9:=@List.getElem?_toArray
abbrev Sb:=@List.getElem_set_self
abbrev Sc:=@Nat.le_add_right
abbrev Sd:=@List.cons_append
abbrev Se:=@Go.u32_or_nat
abbrev Sf:=@Option.toList_some
abbrev Sg:=@Go.World.cell?_setCell_same
abbrev Sh:=@List.eq_of_mem_replicate
abbrev Si:=@List.mem_of_mem_take
abbrev Sj:=@Go.setRow_other
abbrev Sk:=@Bool.true_or
abbrev Sq:=@Nat.testBit_two_pow_mul_add
abbrev Sr:=@Go.WideMaps.keyOf_string_mk
abbrev Ss:=@ByteArray.append_assoc
abbrev Su:=@Go.KeepsOthers.drew
abbrev Sv:=@List.length_drop
abbrev Sw:=@Option.bind_some
abbrev Sy:=@Array.toList_setIfInBounds
abbrev Sz:=@List.getElem?_take
abbrev SA:=@Go.Maps.has_put_other
abbrev SB:=@List.set_append_right
abbrev SC:=@Array.getElem?_eq_getElem
abbrev SD:=@List.drop_eq_getElem_cons
abbrev SE:=@List.getElem?_eq_none_iff
abbrev SF:=@Array.all_eq_true_iff_forall_mem
abbrev SG:=@decide_eq_true_eq
abbrev SH:=@Bool.eq_false_iff
abbrev SI:=@Go.Proofs.Tryz.sizeOf4
abbrev SJ:=@Nat.pow_lt_pow_right
abbrev SK:=@Nat.mul_one
abbrev SL:=@List.set_eq_of_length_le
abbrev SM:=@Nat.testBit_two_pow
abbrev SN:=@Go.wpIn_rangeFunc_ownH
abbrev SO:=@List.map_congr_left
abbrev SQ:=@Go.IntKind.wrap_u64
abbrev SR:=@Nat.testBit_zero
abbrev SS:=@Nat.and_le_right
abbrev SU:=@Go.Proofs.Tryz.isAgg4
abbrev SW:=@Go.u32_and_nat
abbrev SX:=@Go.Lib.size_eq
abbrev SY:=@Go.leaves_cons
abbrev SZ:=@List.take_of_length_le
abbrev S1:=@List.set_set
abbrev S2:=@List.length_take_of_le
abbrev S3:=@List.filter_filter
abbrev S4:=@Nat.testBit_shiftRight
abbrev S5:=@Nat.div_div_eq_div_mul
abbrev S6:=@List.mem_of_mem_eraseP
abbrev S7:=@Go.Proofs.Tryz.zeroValue5
abbrev S8:=@Nat.testBit_and
abbrev S9:=@Nat.not_lt_zero
abbrev Ta:=@List.nodup_cons
abbrev Tb:=@List.any_append
abbrev Tc:=@Go.AllReady.cons
abbrev Td:=@List.all_cons
abbrev Te:=@Bool.true_and
abbrev Tf:=@Bool.or_false
abbrev Tg:=@List.contains_iff_mem
abbrev Th:=@Nat.lt_trichotomy
abbrev Ti:=@List.any_eq_false
abbrev Tj:=@Go.Maps.string_keyed
abbrev Tl:=@List.mem_of_mem_drop
abbrev Tm:=@List.exists_cons_of_ne_nil
abbrev To:=@Array.size_replicate
abbrev Tp:=@Go.wp_loop_rounds
abbrev Tq:=@Go.Proofs.bits_and_u32_nat
abbrev Tr:=@getElem!_pos
abbrev Ts:=@List.filter_cons
abbrev Tt:=@Go.wpIn_rangeFunc_ownF
abbrev Tu:=@List.getElem?_range
abbrev Tv:=@Go.World.cell?_setCells_out
abbrev Tw:=@Bool.eq_iff_iff
abbrev Tx:=@Go.Proofs.Tryz.zeroValue3
abbrev Ty:=@List.range_succ
abbrev Tz:=@List.filter_map
abbrev TA:=@List.map_singleton
abbrev TB:=@Go.Maps.atKey_put_other
abbrev TC:=@Go.getD_set_ne
abbrev TD:=@List.findIdx?_eq_some_iff_getElem
abbrev TE:=@List.all_eq_false
abbrev TF:=@Nat.zero_mul
abbrev TG:=@Go.Proofs.Tryz.sizeOf5
abbrev TH:=@Nat.testBit_lt_two_pow
abbrev TI:=@List.getElem?_inj
abbrev TJ:=@Go.Maps.atKey_put_same
abbrev TK:=@Nat.le_succ_of_le
abbrev TL:=@List.mem_set
abbrev TM:=@List.take_append_drop
abbrev TN:=@ByteArray.data_append
abbrev TO:=@Nat.zero_testBit
abbrev TP:=@Nat.testBit_succ
abbrev TQ:=@Bool.false_or
abbrev TR:=@Go.callsIn_of_wp
abbrev TS:=@List.sum_cons
abbrev TT:=@Go.wp_region_any
abbrev TU:=@Go.setRow_size
abbrev TV:=@Go.Proofs.Tryz.isAgg5
abbrev TW:=@Go.Lib.bitLenAux_bounds
abbrev TX:=@Go.results_tmp
abbrev TY:=@List.getElem?_of_mem
abbrev TZ:=@List.mem_append_left
abbrev T4:=@Go.rounds_succ
abbrev T5:=@Nat.div_le_div_right
abbrev T6:=@UInt8.toNat_inj
abbrev T7:=@Go.Proofs.Tryz.zeroValue0
abbrev T8:=@Nat.testBit_two_pow_sub_succ
abbrev Ua:=@List.prefix_append_right_inj
abbrev Ub:=@Bool.or_eq_true
abbrev Uc:=@Nat.min_eq_left
abbrev Ud:=@Option.map_some
abbrev Ue:=@List.zip_append
abbrev Uf:=@Array.length_toList
abbrev Ug:=@List.length_reverse
abbrev Uh:=@Go.run_enterLoop_outer
abbrev Ui:=@Array.toList_append
abbrev Uj:=@Nat.pow_succ
abbrev Uk:=@Go.Proofs.Tryz.sizeOf3
abbrev Ul:=@Bool.or_true
abbrev Um:=@Go.Boxed.set
abbrev Un:=@Nat.add_sub_cancel
abbrev Uo:=@Go.u32_andNot_nat
abbrev Up:=@Go.World.ownsMap_made
abbrev Uq:=@Array.getElem?_append_left
abbrev Ur:=@List.prefix_append
abbrev Us:=@beq_iff_eq
abbrev Ut:=@Go.IntWalk.i64_in
abbrev Uu:=@Go.ready_mono
abbrev Uv:=@Go.Lib.decDigits_one
abbrev Uw:=@Bool.not_eq_true'
abbrev Ux:=@Go.Proofs.Tryz.isAgg3
abbrev Uy:=@Go.ownFrom_keepsFrom
abbrev Uz:=@Go.KeepsOthers.alloc
abbrev UA:=@Go.run_endLoop
abbrev UB:=@Go.setRow_heap
abbrev UC:=@Nat.lt_succ_of_lt
abbrev UD:=@Go.plainElem_int
abbrev UE:=@List.mem_reverse
abbrev UF:=@Go.grownBy_setCell'
abbrev UG:=@Go.wpIn_wide
abbrev UH:=@Go.run_store
abbrev UI:=@Nat.lt_succ_self
abbrev UJ:=@Go.wpAny_take
abbrev UK:=@Go.AllReady.nil
abbrev UL:=@Nat.ne_of_lt
abbrev UM:=@Nat.add_zero
abbrev UN:=@List.any_map
abbrev UO:=@Nat.le_of_lt
abbrev UP:=@Go.wpAny_done
abbrev UQ:=@List.prefix_rfl
abbrev UR:=@List.sum_append
abbrev US:=@Nat.testBit_or
abbrev UT:=@List.nodup_nil
abbrev UU:=@Nat.le_zero
abbrev UW:=@Go.Lib.mk_data
abbrev UX:=@Nat.le_succ
abbrev UY:=@Go.wpOp_mono
abbrev UZ:=@Go.mem_ready
abbrev U0:=@Nat.mod_lt
open Tryz
variable {g B t id base size n i k s b off cap:Nat}{w' W W':World}{p:Tmp}{c:Int}{op o:Oper}{rest:List Oper}{fn:Func}{ty e:TypeId}{R:Ending->World->Prop}{l:List ()}{xs:List Value}{args:Array Value}
section
open Go.RowKit
variable {P:Program}
structure iT(g:Nat)(w w':World):Prop where
 os:w'.os=w.os
 tape:w'.tape=w.tape
 output:w'.output=w.output
 size:w'.heap.size=w.heap.size
 block:∀k,k≠g->w'.heap[k]?=w.heap[k]?
theorem iT.below{a w:World}(h:iT g w w')(hb:Below B a w)(hB:B<=g):Below B a w':=
 hb.trans ⟨h.os,h.tape,h.output,zbk,fun k hk=>h.block k zaa⟩
theorem iT.cell{w:World}(h:iT g w w'){p:Addr}(hp:p.block≠g):w'.cell? p=w.cell? p:=PN (w:=w) (h.block p.block hp)
theorem iM(w:World)(g:Nat)(cs:Array Value):iT g w (w.setRow g cs):=⟨rfl,rfl,rfl,TU w g cs,fun k hk=>Sj w g k cs hk⟩
theorem ag(w:World)(g o:Nat)(v:Value):iT g w (w.setCell (g,o) v):=⟨rfl,rfl,rfl,by simp[World.setCell],fun k hk=>Qg _ _ _ _ hk⟩
theorem iT.Mj{w:World}(h:iT g w.drew w'):iT g w w':=⟨h.os,h.tape,h.output,h.size,h.block⟩
theorem lQ{w:World}{c:Array Value}{t:TypeId}{fz:Nat×Nat}(hg:w.heap[g]?=some (.cells c t fz)):w.rangeAt g 0 c.toList:=by
 intro j v hj;rw[Rz,Pt w g j c t fz hg];simpa using hj
theorem zW{cells:Array Value}(h:cells.toList.all (·.oneCell')=true):cells.all (·.oneCell')=true:=by
 rw[SF];intro v hv;exact RG.1 h v (by simpa using hv)
theorem lY{a:Act}{w:World}{K:Act->World->Prop}{Q:Exit->Act->World->Prop}(ty:TypeId)(x y:Operand)(ho:op.op=.store ty x y)
  (g:Nat) (t:TypeId) (c cells:Array Value) (hx:a.eval x=.pointer (some ⟨g,0,none⟩)) (hy:a.eval y=.agg cells)
  (hg:w.heap[g]?=some (.cells c t (0,0))) (hi:(P.info? ty).map (·.size)=some cells.size) (hs:c.size=cells.size) (h1:cells.toList.all (·.oneCell')=true)
  (h:K (a.put op.dst undef) (w.setRow g cells)):op.wp P a w K Q:=by
 unfold Oper.wp execOp;simp only[ho,hx,hy,Instr.storeAt,Instr.sureAddr,Sem.run_bind,Sem.run_pure,Result.andThen_ok,run_storeVar_row w g t ty c cells hg hi hs (zW h1)];exact h
theorem fC{ops:Array Oper}{a:Act}{w:World}{Q:Exit->Act->World->Prop}(hgd:op.guard=none)(ty:TypeId)(x y:Operand)(ho:op.op=.store ty x y)
  (g:Nat) (t:TypeId) (c cells:Array Value) (hx:a.eval x=.pointer (some ⟨g,0,none⟩)) (hy:a.eval y=.agg cells)
  (hg:w.heap[g]?=some (.cells c t (0,0))) (hi:(P.info? ty).map (·.size)=some cells.size) (hs:c.size=cells.size) (h1:cells.toList.all (·.oneCell')=true)
  (h:wpList P ops Q rest (a.put op.dst undef) (w.setRow g cells)):wpList P ops Q (op::rest) a w:=
 wpList_plain hgd fun _ hK=>lY ty x y ho g t c cells hx hy hg hi hs h1 (hK _ _ h)
theorem aB{ops:Array Oper}{a:Act}{w:World}{Q:Exit->Act->World->Prop}(hgd:op.guard=none)(ty:TypeId)(x y:Operand)(ho:op.op=.store ty x y)
  (t:TypeId) (c cells:Array Value) (hx:a.eval x=.pointer (some ⟨w,0,none⟩)) (hy:a.eval y=.agg cells)
  (hi:(P.info? ty).map (·.size)=some cells.size) (hs:c.size=cells.size) (h1:cells.toList.all (·.oneCell')=true)
  (h:wpList P ops Q rest (a.put op.dst undef) (w.alloc (.cells cells t))):wpList P ops Q (op::rest) a (w.alloc (.cells c t)):=
 fC hgd ty x y ho w t c cells hx hy (PG w _) hi hs h1 (by rw[World.setRow_alloc_new];exact h)
theorem jh(h:fn.results=#[.cell p ty])(tmps:Array Value)(P:Program)(w:World):
  (results fn tmps).run P w=((asAddr (tmps.getD p undef)).run P w).andThen fun a w₁=>(loadVar ty a).run P w₁:=by
 simp only[results,h];simp[Sem.run_bind,Result.andThen]
theorem eh{a:Act}{w:World}(h:fn.results=#[.cell p ty])(g:Nat)(t:TypeId)(c:Array Value)(fz:Nat×Nat)(d:TypeDesc)
  (hp:a.tmps.getD p undef=.pointer (some ⟨g,0,none⟩)) (hg:w.heap[g]?=some (.cells c t fz)) (hu:P.underlying ty=some d) (hd:d.isRow=true) (hi:(P.info? ty).map (·.size)=some c.size)
  (hdf:a.defers=[]) (hR:R (.returned (.agg c)) w):bodyPost P fn R .ret a w:=by
 refine Q5 (v:=.agg c) ?_ hdf hR;rw[jh h,hp];have:=run_loadVar_mid (P:=P) w g 0 ty c.toList d (lQ hg) hu hd zbw;simpa[asAddr] using this
theorem eD{Q:Exit->Act->World->Prop}{a:Act}{w:World}{l:List Oper}(n:Nat)(hm:P.follows .mixedOrders=true)(hB:Region.lexTailB .any l.toArray n=true)
  (h:wpStill P l.toArray w.drew (fun a'=>wpList P l.toArray Q (l.drop n) a' w.drew) (l.take n) a):(Code.region id l.toArray true).wp P Q a w:=
 wp_region_still_tail n hm hB h
theorem aJ{base':Nat}{v:Value}{w:World}(h:w.ownsRow base e size v n xs)(hb:base'<=base):w.ownsRow base' e size v n xs:=by
 refine⟨h.1,?_⟩
 rcases h.2 with h'|⟨k,cap,cur,hv,hb',r⟩
 ·exact .inl h'
 ·exact .inr ⟨k,cap,cur,hv,zaa,r⟩
theorem cA(w:World)(o p:Obj):((w.alloc o).alloc p).heap[w.heap.size+1]?=some p:=by
 have:=PG (w.alloc o) p
 rwa [QL]at this
theorem fx(w:World)(o p:Obj):((w.alloc o).alloc p).heap[w.heap.size]?=some o:=by
 rw[QS _ _ _ zad];exact PG w o
theorem et{P:Program}{md:Region.Mode}{ops:Array Oper}{Q:Exit->Act->World->Prop}{S:World->Prop}{oi:Oper}{v:Value}{d:Option Tmp}{fuel:Nat}{listed:Array Bool}{a:Act}{w:World}(hi:ops[i]?=some oi)(hd:oi.dst=d)
  (hs:Region.noSelect ops=true) (hf:Region.free md ops listed i=true) (hr:(Region.ready md ops listed).contains i=true)
  (hQ:∀c a w,Q (.panic c) (a.put d v) w->Q (.panic c) a w) (hy:YieldsIf P ops S oi v a) (hS:S w)
  (h:wpAnyH P md ops Q S fuel (listed.setIfInBounds i true) (a.put d v) w):wpAnyH P md ops Q S (fuel+1) listed a w:=by
 subst hd;exact RS hi hs hf hr hQ hy hS h
section
variable {P:Program}{md:Region.Mode}{ops:Array Oper}{Q:Exit->Act->World->Prop}{S:World->Prop}{oi:Oper}{fuel:Nat}{listed:Array Bool}{a:Act}{w:World}
theorem tH(i:Nat)(v:Value)(hi:ops[i]?=some oi)(hS:S w)(h:wpAnyH P md ops Q S fuel (listed.setIfInBounds i true) (a.put oi.dst v) w)(hs:Region.noSelect ops=true:=by kernel_rfl)(hf:Region.free md ops listed i=true:=by kernel_rfl)(hr:(Region.ready md ops listed).contains i=true:=by kernel_rfl)(hQ:∀c a w,Q (.panic c) (a.put oi.dst v) w->Q (.panic c) a w:=by exact fun _ _ _ h=>h)(hy:YieldsIf P ops S oi v a:=by exact Or.inl ⟨zae,fun w VF=>zai⟩):wpAnyH P md ops Q S (fuel+1) listed a w:=RS hi hs hf hr hQ hy hS h
theorem tG(i:Nat)(v:Value)(hi:ops[i]?=some oi)(hS:S w)(h:wpAnyH P md ops Q S fuel (listed.setIfInBounds i true) (a.put oi.dst v) w)(hs:Region.noSelect ops=true:=by kernel_rfl)(hf:Region.free md ops listed i=true:=by kernel_rfl)(hr:(Region.ready md ops listed).contains i=true:=by kernel_rfl)(hQ:∀c a w,Q (.panic c) (a.put oi.dst v) w->Q (.panic c) a w:=by exact fun _ _ _ h=>h)(hy:YieldsIf P ops S oi v a:=by exact Or.inl ⟨zab,fun w VF=>zai⟩):wpAnyH P md ops Q S (fuel+1) listed a w:=RS hi hs hf hr hQ hy hS h
theorem tD(d:Option Tmp)(i:Nat)(v:Value)(hi:ops[i]?=some oi)(hS:S w)(h:wpAnyH P md ops Q S fuel (listed.setIfInBounds i true) (a.put d v) w)(hd:oi.dst=d:=by rfl)(hs:Region.noSelect ops=true:=by kernel_rfl)(hf:Region.free md ops listed i=true:=by kernel_rfl)(hr:(Region.ready md ops listed).contains i=true:=by kernel_rfl)(hQ:∀c a w,Q (.panic c) (a.put d v) w->Q (.panic c) a w:=by exact fun _ _ _ h=>h)(hy:YieldsIf P ops S oi v a:=by exact Or.inl ⟨zae,fun w VF=>zai⟩):wpAnyH P md ops Q S (fuel+1) listed a w:=et hi hd hs hf hr hQ hy hS h
theorem tU(d:Option Tmp)(i:Nat)(hi:ops[i]?=some oi)(hS:S w)(h:wpAnyH P md ops Q S fuel (listed.setIfInBounds i true) (a.put d undef) w)(hd:oi.dst=d:=by rfl)(hs:Region.noSelect ops=true:=by kernel_rfl)(hf:Region.free md ops listed i=true:=by kernel_rfl)(hr:(Region.ready md ops listed).contains i=true:=by kernel_rfl)(hQ:∀c a w,Q (.panic c) (a.put d undef) w->Q (.panic c) a w:=by exact fun _ _ _ h=>h)(hy:YieldsIf P ops S oi undef a:=by exact Or.inr ⟨zab,rfl⟩):wpAnyH P md ops Q S (fuel+1) listed a w:=et hi hd hs hf hr hQ hy hS h
theorem tA(i:Nat)(v:Value)(hi:ops[i]?=some oi)(h:wpAny P md ops Q fuel (listed.setIfInBounds i true) (a.put oi.dst v) w)(hs:Region.noSelect ops=true:=by kernel_rfl)(hf:Region.free md ops listed i=true:=by kernel_rfl)(hr:(Region.ready md ops listed).contains i=true:=by kernel_rfl)(hQ:∀c a w,Q (.panic c) (a.put oi.dst v) w->Q (.panic c) a w:=by exact fun _ _ _ h=>h)(hy:Yields P ops oi v a:=by exact Or.inl ⟨zae,fun w=>by go_simp⟩):wpAny P md ops Q (fuel+1) listed a w:=UJ hi hs hf hr hQ hy h
theorem yH(rs:List Nat)(h:AllReadyH P md ops Q S fuel listed a w rs)(hr:Region.ready md ops listed=rs:=by kernel_rfl)(U9:rs≠[]:=by simp):wpAnyH P md ops Q S (fuel+1) listed a w:=wpAnyH_ready hr U9 h
theorem zH(i:Nat)(ho:ops[i]?=some oi)(h:∀K':Act->World->Prop,Shut (∀a w,S w->(S w->wpAnyH P md ops Q S fuel (listed.setIfInBounds i true) a w)->K' a w)->if Region.wanted oi (yielded ops a.tmps)=true then Oper.wp P oi a w K' Q else K' (a.put oi.dst undef) w)(hr:Region.ready md ops listed=[i]:=by kernel_rfl):wpAnyH P md ops Q S (fuel+1) listed a w:=wpAnyH_ready hr zad (Qk ho h QX)
theorem yA(rs:List Nat)(h:AllReady P md ops Q fuel listed a w rs)(hr:Region.ready md ops listed=rs:=by kernel_rfl)(U9:rs≠[]:=by simp):wpAny P md ops Q (fuel+1) listed a w:=wpAny_ready hr U9 h
theorem zA(i:Nat)(ho:ops[i]?=some oi)(h:∀K':Act->World->Prop,(∀a w,wpAny P md ops Q fuel (listed.setIfInBounds i true) a w->K' a w)->if Region.wanted oi (yielded ops a.tmps)=true then Oper.wp P oi a w K' Q else K' (a.put oi.dst undef) w)(hr:Region.ready md ops listed=[i]:=by kernel_rfl):wpAny P md ops Q (fuel+1) listed a w:=wpAny_ready hr zad (Tc ho h UK)
end
end
section
open Go.RowKit
open Go.PlainAid (bt get_bt bt_nonneg bt_le bt_end)
namespace U
theorem EG(a b:()):(a.toList == b.toList)=decide (a=b):=by
 rw[Tw];simp only[beq_iff_eq,decide_eq_true_eq,Lib.toList_data];constructor
 ·intro h;cases a;cases b
  simp only at h
  congr 1
  exact Array.ext' h
 ·intro h;rw[h]
def cy(s t:()):Bool:=decide (t.size<=s.size)&&decide (s.extract 0 t.size=t)
def fW(a b:Int):Int:=if a=0\/b<a then b else a
def small(x:Int):Bool:=decide (97<=x)&&decide (x<=122)
def more(x:Int):Bool:=decide (x=95)||(decide (48<=x)&&decide (x<=57))
def jH(s:())(i:Nat):Bool:=small (bt s i)||(decide (i≠0)&&more (bt s i))
def plain(s:()):Bool:=(List.range s.size).all (jH s)&&(decide (0<s.size)&&decide (s.size<=8))
theorem Fv{p:Nat->Bool}(h:∀j,j<n->p j=true):(List.range n).all p=true:=by
 rw[RG];intro x hx;exact h x (QF.1 hx)
theorem vC{p:Nat->Bool}(hk:k<n)(h:p k=false):(List.range n).all p=false:=by
 rw[TE];exact⟨k,QF.2 hk,by simp[h]⟩
theorem wR(s:()):jH s 0=small (bt s 0):=by simp[jH]
theorem ze{s:()}(h:Hid (∀j,j<k->jH s j=true))(hk:jH s k=true):∀j,j<k+1->jH s j=true:=by
 intro j hj;by_cases e:j=k
 ·rw[e];exact hk
 ·exact h.out j zaa
def dec(n:Nat):():=⟨(Lib.decDigits n).toArray⟩
theorem wg(h:n<10):dec n=⟨#[UInt8.ofNat (48+n)]⟩:=by
 unfold dec;rw[Uv h]
theorem Li(h:¬n<10):dec n=dec (n / 10)++⟨#[UInt8.ofNat (48+n % 10)]⟩:=by
 unfold dec
 conv=>lhs;rw[Lib.decDigits,dif_neg h]
 apply ByteArray.ext
 simp
theorem Ak:∀(k n:Nat),n<10 ^ (k+1)->(dec n).size<=k+1
 |0,n,h=>by rw[wg zaD];exact Po 1
 |k+1,n,h=>by
  by_cases h9:n<10
  ·rw[wg h9];exact Nat.le_add_left 1 (k+1)
  ·rw[Li h9,P2];have:=Ak k (n / 10) (by rw[Uj]at h;omega);have e:(ByteArray.mk #[UInt8.ofNat (48+n % 10)]).size=1:=rfl;omega
theorem im(h:n<=18446744073709551615):(dec n).size<=20:=Ak 19 n zaa
def jW(x:Int):Bool:=decide (48<=x)&&decide (x<=57)
def val(s:()):Nat->Nat
 |0=>0
 |k+1=>val s k*10+((bt s k).toNat-48)
def m64(n:Nat):Int:=IntKind.u64.wrap n
def Gu:():=⟨#[49,56,52,52,54,55,52,52,48,55,51,55,48,57,53,53,49,54,49,53]⟩
def sG(s:()):Bool:=s.toList.isEmpty||(decide (1<s.size)&&decide (bt s 0=48))||decide (20<s.size)||(decide (s.size=20)&&(!Op.bytesLess s.toList Gu.toList&&!(s.toList == Gu.toList)))
def cE(s:()):Bool:=(List.range s.size).all (fun i=>jW (bt s i))&&!sG s
theorem isEmpty_eq(s:()):s.toList.isEmpty=decide (s.size=0):=by
 rw[Lib.toList_data,Tw,Ri,SG];exact⟨fun h=>by show s.data.size=0;rw[<- Uf,h];rfl,fun h=>Rp (by rw[Uf];exact h)⟩
def dV(s:()):Int:=if cE s then m64 (val s s.size) else 0
end U
namespace Num
def isD(c:UInt8):Bool:=decide (48<=c.toNat)&&decide (c.toNat<=57)
def num(acc:Nat)(l:List UInt8):Nat:=l.foldl (fun a c=>a*10+(c.toNat-48)) acc
theorem mT(acc:Nat)(c:UInt8)(r:List UInt8):num acc (c::r)=num (acc*10+(c.toNat-48)) r:=by unfold num;rw[R4]
theorem N4(l:List UInt8):∀acc:Nat,acc<=num acc l:=by
 induction l with
 |nil=>exact fun acc=>Po _
 |cons c r ih=>
  intro acc;have h1:=ih (acc*10+(c.toNat-48));rw[mT];exact Pr (Pr (Nat.le_mul_of_pos_right acc zac) (Sc _ _)) h1
theorem lN:∀(l:List UInt8) (acc:Nat),l.all isD=true->acc<=18446744073709551615->Lib.parseUintM 18446744073709551615 acc l=if num acc l<=18446744073709551615 then .ok (num acc l) else .range
 |[],acc,_,h=>by rw[Lib.parseUintM,PC (show num acc []<=_ from h)];rfl
 |c::r,acc,hd,h=>by
  rw[Td,Qe]at hd;have hc:48<=c.toNat/\c.toNat<=57:=zb0;have hg:=N4 r (acc*10+(c.toNat-48));rw[Lib.parseUintM,PC hc,mT];by_cases h1:1844674407370955162<=acc
  ·rw[PC h1,Pu zaa]
  ·rw[Pu h1];by_cases h2:18446744073709551615<acc*10+(c.toNat-48)
   ·rw[PC h2,Pu zaa]
   ·rw[Pu h2,lN r _ hd.2 zaa]
theorem Bm{M u:Nat}:∀(l:List UInt8) (acc:Nat),Lib.parseUintM M acc l=.ok u->l.all isD=true
 |[],_,_=>rfl
 |c::r,acc,h=>by
  rw[Lib.parseUintM]at h;by_cases hc:48<=c.toNat/\c.toNat<=57
  ·rw[PC hc]at h;split at h
   ·cases h
   ·split at h
    ·cases h
    ·rw[Td,Bm r _ h,Bool.and_true];simp[isD,hc]
  ·rw[Pu hc]at h;cases h
theorem yY:∀(l:List UInt8) (acc:Nat),num acc l=acc*10 ^ l.length+num 0 l
 |[],acc=>by simp[num]
 |c::r,acc=>by
  rw[mT,mT,yY r (acc*10+(c.toNat-48)),yY r (0*10+(c.toNat-48)),Qw,Uj,Nat.add_mul,TF,Rz,Nat.mul_assoc,Nat.mul_comm 10 (10 ^ r.length),QG]
theorem pP(c:UInt8)(r:List UInt8):num 0 (c::r)=(c.toNat-48)*10 ^ r.length+num 0 r:=by
 rw[mT,yY,TF,Rz]
theorem yZ:∀l:List UInt8,l.all isD=true->num 0 l<10 ^ l.length
 |[],_=>by decide
 |c::r,hd=>by
  rw[Td,Qe]at hd;have hc:48<=c.toNat/\c.toNat<=57:=zb0;have ih:=yZ r hd.2;rw[pP,Qw,Uj];have h9:(c.toNat-48)*10 ^ r.length<=9*10 ^ r.length:=Qx _ zaa;omega
theorem EY:∀a b:List UInt8,a.all isD=true->b.all isD=true->a.length=b.length->(num 0 a<num 0 b↔Op.bytesLess a b=true)/\(num 0 a=num 0 b↔a=b)
 |[],[],_,_,_=>⟨by simp[num,Op.bytesLess],zad⟩
 |[],_::_,_,_,h=>by simp at h
 |_::_,[],_,_,h=>by simp at h
 |x::p,y::q,ha,hb,h=>by
  rw[Td,Qe]at ha hb;have hx:48<=x.toNat/\x.toNat<=57:=by simpa[isD] using ha.1
  have hy:48<=y.toNat/\y.toNat<=57:=by simpa[isD] using hb.1
  have hl:p.length=q.length:=zaD;have ih:=EY p q ha.2 hb.2 hl;have lp:=yZ p ha.2;have lq:=yZ q hb.2;rw[pP,pP,<- hl];rw[<- hl]at lq
  rcases Th x.toNat y.toNat with h1|h1|h1
  ·have hm:(x.toNat-48+1)*10 ^ p.length<=(y.toNat-48)*10 ^ p.length:=Qx _ zaa;rw[Nat.add_mul,Nat.one_mul]at hm;have Vd:x<y:=UInt8.lt_iff_toNat_lt.2 h1;refine⟨⟨fun _=>by simp[Op.bytesLess,Vd],fun _=>zaa⟩,⟨fun e=>zaa,fun e=>?_⟩⟩;cases e;omega
  ·have hxy:x=y:=T6.1 h1;subst hxy;refine⟨⟨fun e=>?_,fun e=>?_⟩,⟨fun e=>?_,fun e=>?_⟩⟩
   ·have:=ih.1.1 zaa;simp[Op.bytesLess,this]
   ·have:Op.bytesLess p q=true:=by simpa[Op.bytesLess] using e
    have:=ih.1.2 this;omega
   ·rw[ih.2.1 zaa]
   ·cases e;rfl
  ·have hm:(y.toNat-48+1)*10 ^ p.length<=(x.toNat-48)*10 ^ p.length:=Qx _ zaa;rw[Nat.add_mul,Nat.one_mul]at hm;have Vd:¬x<y:=fun h=>by have:=UInt8.lt_iff_toNat_lt.1 h;omega
   have U9:¬x=y:=fun e=>by rw[e]at h1;omega
   refine⟨⟨fun e=>zaa,fun e=>?_⟩,⟨fun e=>zaa,fun e=>?_⟩⟩
   ·simp[Op.bytesLess,Vd,U9]at e
   ·cases e;omega
theorem yd{s:()}(h:k<s.data.toList.length):bt s k=((s.data.toList[k]).toNat:Int):=by
 have h':k<s.size:=zaD;rw[<- get_bt s k h'];rfl
theorem wk(s:()):(List.range s.size).all (fun i=>U.jW (bt s i))=s.data.toList.all isD:=by
 rw[Tw,RG,RG];have Vf:s.size=s.data.toList.length:=zad;constructor
 ·intro h c hc;obtain⟨k,hk,rfl⟩:=List.mem_iff_getElem.1 hc;have:=h k (QF.2 zaa);rw[yd hk]at this;simp only[U.jW,Bool.and_eq_true,decide_eq_true_eq]at this;simp only[isD,Bool.and_eq_true,decide_eq_true_eq];omega
 ·intro h i hi;rw[QF]at hi;have hk:i<s.data.toList.length:=zaa;have:=h _ (P7 hk);rw[yd hk];simp only[isD,Bool.and_eq_true,decide_eq_true_eq]at this;simp only[U.jW,Bool.and_eq_true,decide_eq_true_eq];omega
theorem KG(s:()):∀k,k<=s.size->U.val s k=num 0 (s.data.toList.take k)
 |0,_=>rfl
 |k+1,h=>by
  have Vf:s.size=s.data.toList.length:=zad;have hk:k<s.data.toList.length:=zaa;rw[U.val,KG s k zaa,List.take_succ_eq_append_getElem hk,yd hk];unfold num;rw[QQ];simp
theorem ML(s:()):U.val s s.size=num 0 s.data.toList:=by
 rw[KG s s.size (Po _)]
 congr 1
 exact SZ zad
theorem DD{l:List UInt8}(hd:l.all isD=true)(hl:1<l.length)(h0:∀c,l.head?=some c->¬c.toNat=48):10 ^ (l.length-1)<=num 0 l:=by
 cases l with
 |nil=>simp at hl
 |cons c r=>
  rw[Td,Qe]at hd;have hc:48<=c.toNat/\c.toNat<=57:=zb0;have:=h0 c rfl;rw[pP,Qw,Un];have hm:1*10 ^ r.length<=(c.toNat-48)*10 ^ r.length:=Qx _ zaa;omega
theorem JL:num 0 U.Gu.data.toList=18446744073709551615:=zac
theorem Bh(s:())(h:¬(1<s.size/\bt s 0=48)):(∀u,Lib.parseUintB 64 s.data.toList=.ok u->U.cE s=true/\U.dV s=(u:Nat))/\((∀u,Lib.parseUintB 64 s.data.toList≠.ok u)->U.cE s=false):=by
 have Vf:s.size=s.data.toList.length:=zad;have hlist:s.toList=s.data.toList:=Lib.toList_data s;by_cases hd:s.data.toList.all isD=true
 ·by_cases he:s.size=0
  ·have hnil:s.data.toList=[]:=Rp zaa;refine⟨fun u hu=>?_,fun _=>?_⟩
   ·rw[Lib.parseUintB,PC hnil]at hu;cases hu
   ·rw[U.cE,U.sG,U.isEmpty_eq,Qp he,Sk,Sk,Sk,Bool.not_true,Rj]
  ·have U9:¬s.data.toList=[]:=fun e=>he (by rw[Vf,e];rfl);have hp:Lib.parseUintB 64 s.data.toList=if num 0 s.data.toList<=18446744073709551615 then .ok (num 0 s.data.toList) else .range:=by
    rw[Lib.parseUintB,Pu U9];exact lN _ 0 hd zac
   have Wo:U.sG s=decide (18446744073709551615<num 0 s.data.toList):=by
    rw[U.sG,U.isEmpty_eq,Ql he,TQ];have h1:(decide (1<s.size)&&decide (bt s 0=48))=false:=by
     rw[Bool.and_eq_false_iff];by_cases h1:1<s.size
     ·exact .inr (Ql fun h2=>h ⟨h1,h2⟩)
     ·exact .inl (Ql h1)
    rw[h1,TQ]
    rcases Th s.size 20 with h2|h2|h2
    ·rw[Ql (show ¬20<s.size by omega),Ql (show ¬s.size=20 by omega),RQ,TQ]
     symm
     apply Ql
     have:=yZ _ hd;have hpw:(10:Nat) ^ s.data.toList.length<=10 ^ 19:=Rc zac zaa;have:(10:Nat) ^ 19=10000000000000000000:=zac;omega
    ·rw[Ql (show ¬20<s.size by omega),Qp h2,Te,TQ,hlist,Lib.toList_data U.Gu];have hx:=EY s.data.toList U.Gu.data.toList hd zac (by rw[<- Vf,h2];rfl);rw[JL]at hx;rw[Tw,Qe,SG,Uw,Uw];constructor
     ·rintro⟨ha,hb⟩;have h3:¬num 0 s.data.toList<18446744073709551615:=fun e=>by rw[hx.1.1 e]at ha;cases ha
      have h4:¬num 0 s.data.toList=18446744073709551615:=fun e=>by rw[hx.2.1 e]at hb;simp at hb
      omega
     ·intro Vd;constructor
      ·cases hb:Op.bytesLess s.data.toList U.Gu.data.toList with
       |false=>rfl
       |true=>have:=hx.1.2 hb;omega
      ·rw[Rx];intro e;have:=hx.2.2 e;omega
    ·rw[Qp h2,Sk]
     symm
     apply Qp
     have hh:∀c,s.data.toList.head?=some c->¬c.toNat=48:=by
      intro c hc e;refine h ⟨zaa,?_⟩;have hk:0<s.data.toList.length:=zaa;rw[yd hk];rw[List.head?_eq_getElem?,Pp hk]at hc;cases hc
      omega
     have h3:=DD hd zaa hh;have hpw:(10:Nat) ^ 20<=10 ^ (s.data.toList.length-1):=Rc zac zaa;have:(10:Nat) ^ 20=100000000000000000000:=zac;omega
   have Vw:U.cE s=!decide (18446744073709551615<num 0 s.data.toList):=by rw[U.cE,wk,hd,Wo,Te]
   refine⟨fun u hu=>?_,fun hu=>?_⟩
   ·rw[hp]at hu;by_cases hle:num 0 s.data.toList<=18446744073709551615
    ·rw[PC hle]at hu;cases hu
     have h1:U.cE s=true:=by rw[Vw,Ql zaa];rfl
     refine⟨h1,?_⟩;rw[U.dV,h1,PC rfl,ML,U.m64,SQ];omega
    ·rw[Pu hle]at hu;cases hu
   ·rw[Vw];by_cases hle:num 0 s.data.toList<=18446744073709551615
    ·exact absurd (by rw[hp,PC hle]) (hu (num 0 s.data.toList))
    ·rw[Qp zaa];rfl
 ·have hf:U.cE s=false:=by rw[U.cE,wk,SH.2 hd,RQ]
  refine⟨fun u hu=>?_,fun _=>hf⟩;exfalso;rw[Lib.parseUintB]at hu;split at hu
  ·cases hu
  ·exact hd (Bm _ _ hu)
end Num
end
section
open Go.RowKit Go.Proofs Go.Shelf
def A0:Go.Shelf.Ren:=⟨fun|128=>266|n=>n,fun|51=>166|3=>3|4=>4|46=>358|5=>5|9=>9|n=>n,fun|n=>n⟩
theorem LP:Go.Proofs.Lays.n128 prog A0:={
 mixed:=zab
 f128:=Tryz.func266.trans (congrArg some zab)
 t3:=underlying3
 a3:=Ux
 z3:=Uk
 v3:=Tx
 t4:=underlying4
 a4:=SU
 z4:=SI
 v4:=R5
 t5:=underlying5
 a5:=TV
 z5:=TG
 v5:=S7
 t9:=underlying9
 a9:=Tryz.isAgg9
 z9:=Tryz.sizeOf9
 v9:=Tryz.zeroValue9
 t46:=underlying358
 a46:=isAgg358
 z46:=sizeOf358
 v46:=zeroValue358
 t51:=underlying166
 a51:=Tryz.isAgg166
 z51:=Tryz.sizeOf166
 v51:=Tryz.zeroValue166 }
def yI:Go.Shelf.Ren:=⟨fun|28=>152|n=>n,fun|27=>166|3=>3|4=>4|25=>358|53=>375|0=>0|5=>5|n=>n,fun|0=>1|n=>n⟩
theorem Ju:Go.Proofs.Lays7.n28 prog yI:={
 mixed:=zab
 f28:=Tryz.func152.trans (congrArg some zab)
 t0:=underlying0
 a0:=Tryz.isAgg0
 z0:=Tryz.sizeOf0
 v0:=T7
 i0:=zab
 t3:=underlying3
 a3:=Ux
 z3:=Uk
 v3:=Tx
 i3:=zab
 t4:=underlying4
 a4:=SU
 z4:=SI
 v4:=R5
 i4:=zab
 t5:=underlying5
 a5:=TV
 z5:=TG
 v5:=S7
 i5:=zab
 t25:=underlying358
 a25:=isAgg358
 z25:=sizeOf358
 v25:=zeroValue358
 i25:=zab
 t27:=underlying166
 a27:=Tryz.isAgg166
 z27:=Tryz.sizeOf166
 v27:=Tryz.zeroValue166
 i27:=zab
 t53:=underlying375
 a53:=isAgg375
 z53:=sizeOf375
 v53:=zeroValue375
 i53:=zab
 g0:=by kernel_rfl }
theorem gZ(hi:i<32):(2:Nat) ^ i<4294967296:=by
 have:=SJ (a:=2) zac hi;omega
theorem j8(i:Nat):(2:Int) ^ i=((2 ^ i:Nat):Int):=(Int.natCast_pow 2 i).symm
theorem MJ(hi:i<32):(2:Int) ^ i % 4294967296=((2 ^ i:Nat):Int):=by
 rw[j8];exact Int.emod_eq_of_lt (Int.natCast_nonneg _) (by have:=gZ hi;exact Int.ofNat_lt.2 this)
theorem jf(i:Nat)(w:World)(hi:i<32):() 101 #[(i:Int)] w fun e w'=>e=.returned (.int .u32 ((2 ^ i:Nat):Int))/\w'=w:=by
 have e:=MJ hi;go_enter func101,ntmps101;go_wp2;rw[e];exact zfx
theorem K0(s i:Nat):((s&&&2 ^ i:Nat) != 0)=s.testBit i:=by
 cases h:s.testBit i
 ·have:s&&&2 ^ i=0:=by
   apply Nat.eq_of_testBit_eq
   intro j;rw[S8,SM,TO];by_cases hj:i=j
   ·subst hj;rw[h];rfl
   ·simp[hj]
  rw[this];rfl
 ·have h1:(s&&&2 ^ i).testBit i=true:=by rw[S8,SM,h];simp
  rw[bne_iff_ne];intro h0;rw[h0,TO]at h1;exact absurd h1 zac
theorem Ir(hi:i<32)(hs:s<4294967296):(bits BinOp.and IntKind.u32 (s:Int) ((2:Int) ^ i) != 0)=s.testBit i:=by
 rw[j8,Tq s _ hs (gZ hi),<- K0];cases h:(s&&&2 ^ i)
 ·rfl
 ·simp;omega
theorem yy(s:Nat)(i:Nat)(w:World)(hi:i<32)(hs:s<4294967296):() 204 #[.int .u32 s,(i:Int)] w fun e w'=>e=.returned (.bool (s.testBit i))/\w'=w:=by
 have e:=Ir hi hs;go_enter func204,ntmps204;go_wp2_with(go_at_call 101;refine(jf i _ hi).mono ?_;rintro e w9 ⟨rfl,U1⟩;rw[U1];clear U1 w9);exact zfx
theorem Js(s:Nat)(w:World)(hs:s<4294967296):() 244 #[.int .u32 s] w fun e w'=>e=.returned (.int .i64 ((Lib.bitLen s:Int)-1))/\w'=w:=by
 have hb:=Lib.bitLen_le s 32 zac zaa;go_enter func244,ntmps244;go_wp2_with(go_at_call 266;refine(Any.bits_Len32 LP s _ zaa zaa).mono ?_;rintro e w9 ⟨rfl,U1⟩;rw[U1];clear U1 w9);exact zfx
theorem Om(s:Nat)(w:World)(hs:s<4294967296)(hT:TabAt 1 Lib.deBruijn32tab w):() 152 #[.int .u32 s] w fun e w'=>e=.returned (.int .i64 (Lib.ctz 32 s))/\w'=w:=
 Any7.bits_TrailingZeros32 Ju s hs w fun _=>hT
namespace Y
def els(s:Nat):List Nat:=(List.range 32).filter s.testBit
theorem pK:i∈els s↔i<32/\s.testBit i=true:=by
 unfold els;rw[Q2,QF]
theorem ly{p q:Nat->Bool}{k:Nat}(hp:p k=true)(Vd:∀j,j<k->p j=false)(hq:∀j,q j=(p j&&decide (j≠k))):∀n,k<n->(List.range n).filter p=k::(List.range n).filter q
 |0,h=>absurd h (S9 _)
 |n+1,h=>by
  rw[Ty,Re,Re];by_cases hk:k<n
  ·rw[ly hp Vd hq n hk,Sd];have:q n=p n:=by rw[hq];simp;omega
   simp only[List.filter_cons,List.filter_nil,this]
  ·have Vx:k=n:=zaa;subst Vx;have e1:(List.range k).filter p=[]:=by
    rw[RX];intro a ha;rw[Vd a (QF.1 ha)];decide
   have e2:(List.range k).filter q=[]:=by
    rw[RX];intro a ha;rw[hq,Vd a (QF.1 ha)];simp
   have e3:q k=false:=by rw[hq];simp
   rw[e1,e2];simp[hp,e3]
theorem qV{p q:Nat->Bool}{k:Nat}(hp:p k=true)(hgt:∀j,k<j->p j=false)(hq:∀j,q j=(p j&&decide (j≠k))):∀n,k<n->(List.range n).filter p=(List.range n).filter q++[k]
 |0,h=>absurd h (S9 _)
 |n+1,h=>by
  rw[Ty,Re,Re];by_cases hk:k<n
  ·rw[qV hp hgt hq n hk];have e1:p n=false:=hgt n hk;have e2:q n=false:=by rw[hq,e1];rfl
   simp[e1,e2]
  ·have Vx:k=n:=zaa;subst Vx;have e3:q k=false:=by rw[hq];simp
   have e4:(List.range k).filter p=(List.range k).filter q:=by
    apply RY
    intro a ha;have:=QF.1 ha;rw[hq];simp;omega
   rw[e4];simp[hp,e3]
theorem my:els 0=[]:=zbx
theorem JE(h0:s≠0)(hs:s<4294967296):Lib.ctz 32 s<32/\s.testBit (Lib.ctz 32 s)=true/\(∀j,j<Lib.ctz 32 s->s.testBit j=false)/\∀j,(s&&&(s-1)).testBit j=(s.testBit j&&decide (j≠Lib.ctz 32 s)):=by
 obtain⟨m,hm,hk⟩:=Lib.ctzFrom_spec 32 s (Nat.pos_of_ne_zero h0) hs;have he:Lib.ctz 32 s=Lib.ctzFrom 32 s:=by unfold Lib.ctz;rw[Pu h0]
 rw[he];generalize Lib.ctzFrom 32 s=k at hm hk;exact zcI
theorem FT(h0:s≠0)(hs:s<4294967296):els s=Lib.ctz 32 s::els (s&&&(s-1)):=by
 obtain⟨a,b,c,d⟩:=JE h0 hs;exact ly b c d 32 a
theorem nB(h0:s≠0)(hs:s<4294967296):1<=Lib.bitLen s/\Lib.bitLen s-1<32/\s.testBit (Lib.bitLen s-1)=true/\(∀j,Lib.bitLen s-1<j->s.testBit j=false)/\∀j,(s&&&(4294967295-2 ^ (Lib.bitLen s-1))).testBit j=(s.testBit j&&decide (j≠Lib.bitLen s-1)):=by
 have hb:=Lib.bitLen_le s 32 zac zaa;obtain⟨a,b,c⟩:=TW 64 s zaa h0;have he:Lib.bitLenAux 64 s=Lib.bitLen s:=rfl;rw[he]at a b c;generalize Lib.bitLen s=L at *;obtain⟨k,rfl⟩:∃k,L=k+1:=⟨L-1,zaa⟩;simp only[Nat.add_sub_cancel]at b⊢;have hgt:∀j,k<j->s.testBit j=false:=fun j hj=>TH (PY c (Rc zac hj));refine⟨zaa,zaa,Nat.testBit_of_two_pow_le_and_two_pow_add_one_gt b c,hgt,?_⟩;intro j;rw[S8];by_cases hj:j<32
 ·have:(4294967295-2 ^ k).testBit j=decide (j≠k):=by
   have h2:=gZ (i:=k) zaa;rw[show 4294967295-2 ^ k=2 ^ 32-(2 ^ k+1) by omega,T8 zaa,SM];simp[hj,eq_comm]
  rw[this]
 ·rw[hgt j zaa];rfl
theorem I5(h0:s≠0)(hs:s<4294967296):els s=els (s&&&(4294967295-2 ^ (Lib.bitLen s-1)))++[Lib.bitLen s-1]:=by
 obtain⟨_,a,b,c,d⟩:=nB h0 hs;exact qV b c d 32 a
end Y
attribute [local go_sem] Qu
namespace Y
abbrev In(s:Nat):Type:={ i:Nat // i∈els s }
def KpT(W W':World):Prop:=TabAt 1 Lib.deBruijn32tab W->TabAt 1 Lib.deBruijn32tab W'
theorem xt(h0:t≠0):t&&&(t-1)<t:=Qq SS zaa
theorem O1(h0:t≠0)(ht:t<4294967296):bits BinOp.and IntKind.u32 (t:Int) ((t:Int)-1)=((t&&&(t-1):Nat):Int):=by
 rw[show(t:Int)-1=((t-1:Nat):Int) by omega,Tq t _ ht zaa]
end Y
theorem AG(n:Nat)(hn:1<=n)(l Bs s:Nat)(hs:s<4294967296)(J Jx:List (Y.In s)->World->Prop)
  (hY:∀pre x W,J pre W->pre.length<32->YieldAt Fence.wide (n-1) prog l #[.int .i64 (x.1:Int)] W fun e W'=>
   (e=.returned true/\J (pre++[x]) W'/\Y.KpT W W')\/(e=.returned false/\Jx (pre++[x]) W'))
  (W:World) (Xy:W.cell? Bs=some (.int .u32 s)) (hT:TabAt 1 Lib.deBruijn32tab W) (h0:J [] W):
  CallsIn Fence.wide n prog 151 #[.func (.yield l) #[] #[],Bs] W fun e W'=>(∃v,e=.returned v) /\
   ((∃ys,ys.map (·.1)=Y.els s/\J ys W')\/(∃pre,pre.map (·.1) <+: Y.els s/\Jx pre W')):=by
 refine TR func151 rfl trivial ?_ rfl;simp only[ntmps151,List.size_toArray,List.length_cons,List.length_nil,Nat.reduceAdd,Nat.reduceSub,Array.replicate_succ,Array.replicate_zero,List.push_toArray,List.append_toArray,List.nil_append,List.cons_append];gi_wp2
 gi_loopw[3] (fun i wr=>∃(t:Nat) (pre:List (Y.In s)),i=.int .u32 t/\t<4294967296/\Y.els s=pre.map (·.1)++Y.els t/\J pre wr/\TabAt 1 Lib.deBruijn32tab wr)
  (fun i _=>(intOf i).toNat)
 case atStart=>exact⟨s,[],rfl,hs,rfl,h0,hT⟩
 case round=>
  obtain⟨t,pre,rfl,ht,he,hJs,hTr⟩:=hrel;by_cases hz:t=0
  ·subst hz;gi_wp2;go_end0;rw[Y.my,Rb]at he;exact ze5
  ·have hf:=Y.FT hz ht;have hm:Lib.ctz 32 t∈Y.els s:=by rw[he,hf];simp
   have hle:pre.length<32:=by
    have h1:(Y.els s).length<=32:=by
     exact zeJ
    exact zfs
   obtain⟨fn,tmps,assign,body,hy,hR⟩:=hY pre ⟨Lib.ctz 32 t,hm⟩ wr hJs hle;dsimp only at hy;have ha:=Y.O1 hz ht;have hz':((t:Int) == 0)=false:=zaf;have Vd:=Y.xt hz;have htz:=Om t wr ht hTr;gi_wp2_with(refine⟨trivial,?_⟩;gi_at_call 152;refine(P8.2 htz).mono ?_;clear htz;rintro e w9 ⟨rfl,U1⟩;rw[U1];clear U1 w9);have hE:Y.els s=(pre++[(⟨Lib.ctz 32 t,hm⟩:Y.In s)]).map (·.1)++Y.els (t&&&(t-1)):=he.trans (by rw[hf,Qj,Qd];rfl);refine hR.mono ?_;rintro e W3 (⟨rfl,ZW,ZX⟩|⟨rfl,hJx3⟩)
   ·gi_wp2
    go_roundw
    case rel=>exact⟨t&&&(t-1),pre++[⟨Lib.ctz 32 t,hm⟩],rfl,zaa,hE,ZW,ZX hTr⟩
    case measure=>simp only[intOf];omega
   ·exact zdY
theorem fO(n:Nat)(hn:1<=n)(Bs s:Nat)(hs:s<4294967296)(w:World)(Xy:Bs<w.heap.size)(hg:1<w.heap.size)(hc:w.cell? Bs=some (.int .u32 s))(hT:TabAt 1 Lib.deBruijn32tab w):
  SeqStopsK Fence.wide n prog 151 #[Bs] (fun x:Y.In s=>#[Value.int .i64 (x.1:Int)]) Y.KpT (fun ys=>ys.map (·.1)=Y.els s) (fun pre=>pre.map (·.1) <+: Y.els s) 32 w:=fun l J Jx W hW _ _ hY h0=>by
 have Ve:=(hW.cell (p:=Bs) Xy).trans hc;exact AG n hn l Bs s hs J Jx hY W Ve (fun j hj=>(hW.cell (p:=⟨1,j,none⟩) hg).trans (hT j hj)) h0
theorem dI(s:Nat)(w:World):() 100 #[.int .u32 s] w fun e w'=>e=.returned (.func (.func 151) #[] #[w])/\w'=w.alloc (.cells #[.int .u32 s] 167):=by
 go_enter func100,ntmps100;exact zfr
theorem o6(s:Nat)(w:World):() 205 #[.int .u32 s] w fun e w'=>e=.returned (.func (.func 243) #[] #[w])/\w'=w.alloc (.cells #[.int .u32 s] 167):=by
 go_enter func205,ntmps205;exact zfr
namespace Y
theorem vK(h0:t≠0)(ht:t<4294967296):t&&&(4294967295-2 ^ (Lib.bitLen t-1))<t:=by
 obtain⟨_,_,b,_,d⟩:=nB h0 ht;refine Nat.lt_of_le_of_ne Rh fun he=>?_;have:=d (Lib.bitLen t-1);rw[he,b]at this;simp at this
theorem KZ(h0:t≠0)(ht:t<4294967296):bits BinOp.andNot IntKind.u32 (t:Int) ((2:Int) ^ (Lib.bitLen t-1))=((t&&&(4294967295-2 ^ (Lib.bitLen t-1)):Nat):Int):=by
 obtain⟨_,a,_⟩:=nB h0 ht;rw[j8,Uo t _ ht (gZ a)]
end Y
theorem xZ(n:Nat)(hn:1<=n)(l Bs s:Nat)(hs:s<4294967296)(J Jx:List (Y.In s)->World->Prop)
  (hY:∀pre x W,J pre W->pre.length<32->YieldAt Fence.wide (n-1) prog l #[.int .i64 (x.1:Int)] W fun e W'=>
   (e=.returned true/\J (pre++[x]) W'/\True)\/(e=.returned false/\Jx (pre++[x]) W'))
  (W:World) (Xy:W.cell? Bs=some (.int .u32 s)) (h0:J [] W):
  CallsIn Fence.wide n prog 243 #[.func (.yield l) #[] #[],Bs] W fun e W'=>(∃v,e=.returned v) /\
   ((∃ys,ys.map (·.1)=(Y.els s).reverse/\J ys W')\/(∃pre,pre.map (·.1) <+: (Y.els s).reverse/\Jx pre W')):=by
 refine TR func243 rfl trivial ?_ rfl;simp only[ntmps243,List.size_toArray,List.length_cons,List.length_nil,Nat.reduceAdd,Nat.reduceSub,Array.replicate_succ,Array.replicate_zero,List.push_toArray,List.append_toArray,List.nil_append,List.cons_append];gi_wp2
 gi_loopw[3] (fun i wr=>∃(t:Nat) (pre:List (Y.In s)),i=.int .u32 t/\t<4294967296/\(Y.els s).reverse=pre.map (·.1)++(Y.els t).reverse/\J pre wr)
  (fun i _=>(intOf i).toNat)
 case atStart=>exact⟨s,[],rfl,hs,rfl,h0⟩
 case round=>
  obtain⟨t,pre,rfl,ht,he,hJs⟩:=hrel;by_cases hz:t=0
  ·subst hz;gi_wp2;go_end0;rw[Y.my,List.reverse_nil,Rb]at he;exact ze5
  ·obtain⟨U3,U4,_⟩:=Y.nB hz ht;have hf:=congrArg List.reverse (Y.I5 hz ht);rw[List.reverse_append]at hf;have ha:=Y.KZ hz ht;have Vd:=Y.vK hz ht;have hla:=fun w=>Js t w ht;generalize Lib.bitLen t=L at *;obtain⟨k,rfl⟩:∃k,L=k+1:=⟨L-1,zaa⟩;have hk:((k+1:Nat):Int)-1=(k:Int):=zaa;simp only[hk]at hla;simp only[Nat.add_sub_cancel]at hf ha Vd U4;have hm:k∈Y.els s:=by rw[<- UE,he,hf];simp
   have hle:pre.length<32:=by
    have h1:(Y.els s).reverse.length<=32:=by
     have:=QI s.testBit (List.range 32);rw[RZ]at this;rw[Ug];exact this
    exact zfs
   have hE:(Y.els s).reverse=(pre++[(⟨k,hm⟩:Y.In s)]).map (·.1)++(Y.els (t&&&(4294967295-2 ^ k))).reverse:=he.trans (by rw[hf,Qj,Qd];rfl);obtain⟨fn,tmps,assign,body,hy,hR⟩:=hY pre ⟨k,hm⟩ wr hJs hle;dsimp only at hy;have hz':((t:Int) == 0)=false:=zaf;generalize t&&&(4294967295-2 ^ k)=t' at *;gi_wp2_with(refine⟨trivial,?_⟩;gi_at_call 244;refine(P8.2 (hla _)).mono ?_;rintro e w9 ⟨rfl,U1⟩;rw[U1];clear U1 w9);refine hR.mono ?_;rintro e W3 (⟨rfl,ZW,ZX⟩|⟨rfl,hJx3⟩)
   ·gi_wp2_with(first
     |(refine⟨trivial,?_⟩;gi_at_call 244;refine(P8.2 (hla _)).mono ?_;rintro e w9 ⟨rfl,U1⟩;rw[U1];clear U1 w9)
     |(refine⟨trivial,?_⟩;gi_at_call 101;refine(P8.2 (jf k _ U4)).mono ?_;rintro e w9 ⟨rfl,U1⟩;rw[U1];clear U1 w9))
    go_roundw
    case rel=>exact⟨t',pre++[⟨k,hm⟩],rfl,zaa,hE,ZW⟩
    case measure=>simp only[intOf];omega
   ·exact zdY
theorem mx(n:Nat)(hn:1<=n)(Bs s:Nat)(hs:s<4294967296)(w:World)(Xy:Bs<w.heap.size)(hc:w.cell? Bs=some (.int .u32 s)):
  SeqStopsK Fence.wide n prog 243 #[Bs] (fun x:Y.In s=>#[Value.int .i64 (x.1:Int)]) (fun _ _=>True) (fun ys=>ys.map (·.1)=(Y.els s).reverse) (fun pre=>pre.map (·.1) <+: (Y.els s).reverse) 32 w:=fun l J Jx W hW _ _ hY h0=>
 xZ n hn l Bs s hs J Jx hY W ((hW.cell (p:=Bs) Xy).trans hc) h0
end
section
open Go.RowKit
open Go.PlainAid (bt get_bt bt_nonneg bt_le bt_end)
namespace U
theorem dy{w:World}{v:Value}(h:w.ownsRow base e size v n xs)(hn:0<n):∃g cap,v=.slice (some ⟨g,0,none⟩) n cap:=by
 rcases h.2 with⟨_,h0⟩|⟨g,cap,cur,hv,_⟩
 ·omega
 ·exact⟨g,cap,hv⟩
def dD(s:())(c:Int):Nat->List ()
 |0=>[ByteArray.empty]
 |k+1=>if bt s k=c then dD s c k++[ByteArray.empty] else(dD s c k).set ((dD s c k).length-1) ((dD s c k)[(dD s c k).length-1]?.getD ByteArray.empty++s.extract k (k+1))
def cut(s:())(c:Int):List ():=dD s c s.size
theorem nx(s:())(c:Int):∀k,0<(dD s c k).length
 |0=>by simp[dD]
 |k+1=>by
  have:=nx s c k;unfold dD;split<;>simp
  exact this
theorem pg(s:())(c:Int):∀k,(dD s c k).length<=k+1
 |0=>by simp[dD]
 |k+1=>by
  have:=pg s c k;unfold dD;split<;>simp<;>omega
theorem yR{y:()}(h:∀x∈l,x.size<=B)(hy:y.size<=B):∀x∈l.set i y,x.size<=B:=by
 intro x hx
 rcases Qa hx with h'|h'
 ·exact h x h'
 ·rw[h'];exact hy
theorem qL{s:()}(h:k<s.size):(s.extract k (k+1)).size=1:=zaf
theorem jU(s:())(c:Int):∀k,k<=s.size->∀x∈dD s c k,x.size<=k
 |0,_=>by simp[dD]
 |k+1,hk=>by
  have ih:=jU s c k zaa;unfold dD;split
  ·intro x hx
   rcases PQ.1 hx with h|h
   ·have:=ih x h;omega
   ·rw[PB.1 h];exact PK _
  ·refine yR (fun x hx=>by have:=ih x hx;omega) ?_;rw[P2,qL zaa];have hp:=nx s c k;rw[Pp zaa];have:=ih _ (P7 (show(dD s c k).length-1<(dD s c k).length by omega));simp only[Option.getD_some];omega
theorem Lh{s:()}(h:bt s k=c):dD s c (k+1)=dD s c k++[ByteArray.empty]:=by rw[dD,PC h]
theorem NA{s:()}(h:¬bt s k=c):dD s c (k+1)=(dD s c k).set ((dD s c k).length-1) ((dD s c k)[(dD s c k).length-1]?.getD ByteArray.empty++s.extract k (k+1)):=by rw[dD,Pu h]
def bA:():=⟨#[97,102,116,101,114,46]⟩
def kN:():=⟨#[100,111,110,101,46]⟩
def kP(s:()):Bool:=cy s bA&&(cE (s.extract 6 s.size)&&(decide (0<dV (s.extract 6 s.size))&&decide (dV (s.extract 6 s.size)<=1500)))
def called(s:()):Bool:=plain s||kP s
def bM(s:()):Bool:=called s||(cy s kN&&plain (s.extract 5 s.size))
theorem qR{s t:()}(h:cy s t=true):t.size<=s.size:=by
 simp[cy]at h;exact h.1
end U
end
section
open Go.RowKit
namespace U
structure Act where
 how:()
 event:()
 id:()
 delay:Int
def Ig(a:Act):List Value:=[a.how,a.event,a.id,.int .u64 a.delay]
def cDo:List UInt8:=[100,111]
def cd:List UInt8:=[114,97,105,115,101]
def bO:List UInt8:=[99,97,110,99,101,108]
def fD:List UInt8:=[115,101,110,100]
def cAs:List UInt8:=[97,115]
def at'(l:List ())(i:Nat):():=l.getD i ByteArray.empty
theorem oZ(h:∀x∈l,x.size<=B)(i:Nat):(at' l i).size<=B:=by
 unfold at';by_cases hi:i<l.length
 ·rw[PH,Pp hi];exact h _ (P7 hi)
 ·rw[PH,P6 zaa];exact PK _
def qt(l:List ()):Option (Act×Nat):=
 if l.length<3 then none
 else if(at' l 0).toList == cDo then
  if(at' l 1).toList == cd then if called (at' l 2) then some (⟨at' l 1,at' l 2,ByteArray.empty,0⟩,3) else none
  else if(at' l 1).toList == bO then if called (at' l 2) then some (⟨at' l 1,ByteArray.empty,at' l 2,0⟩,3) else none
  else if(at' l 1).toList == fD then
   if l.length<4 then none
   else if decide (4<l.length)&&((at' l 4).toList == cAs) then
    if l.length<6 then none
    else if called (at' l 2)&&cE (at' l 3)&&called (at' l 5) then some (⟨at' l 1,at' l 2,at' l 5,dV (at' l 3)⟩,6) else none
   else if called (at' l 2)&&cE (at' l 3) then some (⟨at' l 1,at' l 2,ByteArray.empty,dV (at' l 3)⟩,4) else none
  else none
 else none
def kC:Nat->List ()->Option (List Act)
 |_,[]=>some []
 |0,_::_=>none
 |f+1,x::r=>
  match qt (x::r) with
  |none=>none
  |some (a,n)=>match kC f ((x::r).drop n) with
   |none=>none
   |some r'=>some (a::r')
def ai(l:List ()):Option (List Act):=kC l.length l
theorem mq{a:Act}(h:qt l=some (a,n)):3<=n/\n<=l.length:=by
 unfold qt at h
 repeat' split at h
 all_goals cases h
 all_goals omega
theorem sr:∀(f g:Nat) (l:List ()),l.length<=f->l.length<=g->kC f l=kC g l
 |f,g,[],_,_=>by cases f<;>cases g<;>rfl
 |0,_,x::r,h,_=>by simp at h
 |_+1,0,x::r,_,h=>by simp at h
 |f+1,g+1,x::r,hf,hg=>by
  simp only[kC];cases h:qt (x::r) with
  |none=>rfl
  |some p=>
   obtain⟨a,n⟩:=p;have hb:=mq h;simp only;rw[sr f g ((x::r).drop n) (by simp at hf⊢;omega) (by simp at hg⊢;omega)]
end U
def lenOf:Value->Nat|.slice _ n _=>n|_=>0
def rD(w:World)(b off:Nat)(l:List ()):Prop:=∀i,i<l.length->w.cell? ⟨b,off+i,none⟩=some (.string (U.at' l i))
theorem rD.drop{w:World}(h:rD w b off l)(n:Nat):rD w b (off+n) (l.drop n):=by
 intro i hi;have:=h (n+i) zaQ;rw[QG,this];simp[U.at',List.getElem?_drop]
theorem rD.below{w:World}(h:rD w b off l)(hb:Below B w w')(hB:b<B):rD w' b off l:=
 fun i hi=>by rw[hb.cell (p:=⟨b,off+i,none⟩) hB];exact h i hi
namespace U
structure Move where
 event:()
 to:()
 after:Bool
 delay:Int
 ai:List Act
 line:Int
structure State where
 word:()
 name:()
 deep:Bool
 up:Int
 depth:Int
 line:Int
 aa:List Move
 enter:List Act
 leave:List Act
 has0:Int
 has1:Int
structure j9 where
 kind:Int
 word:()
 name:()
 deep:Bool
 sline:Int
 m:Move
 ai:List Act
theorem kS{w:World}{v:Value}(h:w.ownsRow base e size v n xs):∃a k c,v=.slice a k c:=by
 rcases h.2 with⟨h0,_⟩|⟨g,cap,cur,hv,_⟩
 ·exact⟨_,_,_,h0⟩
 ·exact⟨_,_,_,hv⟩
def cTo:List UInt8:=[116,111]
def wL(l:List ()):Option (()×List Act):=
 if decide (0<l.length)&&((at' l 0).toList == cTo) then
  if l.length<2 then none
  else if plain (at' l 1) then(ai (l.drop 2)).map (at' l 1,·) else none
 else(ai l).map (ByteArray.empty,·)
end U
end
section
open Go.RowKit
open Go.PlainAid (bt get_bt bt_nonneg bt_le bt_end)
namespace U
def lM:Move:=⟨ByteArray.empty,ByteArray.empty,false,0,[],0⟩
def iy:j9:=⟨0,ByteArray.empty,ByteArray.empty,false,0,lM,[]⟩
def cM:List UInt8:=[115,116,97,116,101]
def aK:List UInt8:=[112,97,114,97,108,108,101,108]
def bK:List UInt8:=[102,105,110,97,108]
def aO:List UInt8:=[104,105,115,116,111,114,121]
def EH:List UInt8:=[100,101,101,112]
def cOn:List UInt8:=[111,110]
def jA:List UInt8:=[97,102,116,101,114]
def lr:List UInt8:=[101,110,116,101,114]
def oz:List UInt8:=[108,101,97,118,101]
def is(l:List ())(i:Nat)(c:List UInt8):Bool:=(at' l i).toList == c
def wi(l:List ()):Bool:=decide (l.length=3)&&is l 2 EH
def said(l:List ())(ln:Nat):j9:=
 if l.length<2 then iy
 else if is l 0 cM||(is l 0 aK||is l 0 bK) then
  if decide (l.length=2)&&plain (at' l 1) then⟨115,at' l 0,at' l 1,false,ln,lM,[]⟩ else iy
 else if is l 0 aO then
  if plain (at' l 1)&&(decide (l.length=2)||wi l) then⟨115,at' l 0,at' l 1,wi l,ln,lM,[]⟩ else iy
 else if is l 0 cOn then
  match wL (l.drop 2) with
  |none=>iy
  |some (to,A)=>if bM (at' l 1) then⟨109,ByteArray.empty,ByteArray.empty,false,0,⟨at' l 1,to,false,0,A,ln⟩,[]⟩ else iy
 else if is l 0 jA then
  match wL (l.drop 2) with
  |none=>iy
  |some (to,A)=>if cE (at' l 1) then⟨109,ByteArray.empty,ByteArray.empty,false,0,⟨bA++dec ln,to,true,dV (at' l 1),A,ln⟩,[]⟩ else iy
 else if is l 0 lr||is l 0 oz then
  match ai (l.drop 1) with
  |none=>iy
  |some A=>⟨bt (at' l 0) 0,ByteArray.empty,ByteArray.empty,false,0,lM,A⟩
 else iy
end U
structure Words(w:World)(b off cap:Nat)(l:List ()):Prop where
 pos:0<l.length
 lt:b<w.heap.size
 strs:rD w b off l
 sizes:∀x∈l,x.size<=1073741824
 len:l.length<=1073741824
 cap:l.length<=cap
end
section
open Go.RowKit
namespace U
structure Sl where
 a:Option Addr
 n:Nat
 c:Nat
def Sl.v(s:Sl):Value:=.slice s.a s.n s.c
def Sl.nil:Sl:=⟨none,0,0⟩
structure SV where
 s:State
 vm:Sl
 ve:Sl
 vl:Sl
structure MV where
 m:Move
 v:Sl
def Me(x:MV):List Value:=[x.m.event,x.m.to,x.m.after,.int .u64 x.m.delay,.slice x.v.a x.v.n x.v.c,(x.m.line:Int)]
theorem kJ{α:Type}{f:α->List Value}{n:Nat}(hf:∀x,(f x).length=n):∀(X:List α) (i j:Nat),j<n->∀(h:i<X.length),(X.flatMap f)[i*n+j]?=(f X[i])[j]?
 |[],i,j,_,h=>by simp at h
 |x::X,0,j,hj,_=>by
  rw[QB,TF,Rz,Qo (by rw[hf];exact hj)];rfl
 |x::X,i+1,j,hj,h=>by
  rw[QB,R1,Qr (by rw[hf];omega),hf];rw[show i*n+n+j-n=i*n+j from by omega,kJ hf X i j hj zaD];rfl
theorem kK{α:Type}{f:α->List Value}{n:Nat}(hf:∀x,(f x).length=n):∀(X:List α),(X.flatMap f).length=X.length*n
 |[]=>by simp
 |x::X=>by rw[QB,PI,hf,kK hf X,Qw,R1,Nat.add_comm]
def C4(n:())(x:SV):Bool:=x.s.name.toList == n.toList
def place(X:List SV)(n:()):Int:=match X.findIdx? (C4 n) with|some i=>(i:Int)|none=>-1
def yS(a:Act):Bool:=cy a.event bA||cy a.id bA
def eA(A:List Act):Bool:=A.any yS
end U
def Row{α:Type}(w:World)(e:TypeId)(size:Nat)(f:α->List Value)(v:Value)(X:List α):Prop:=w.ownsRow 0 e size v X.length (X.flatMap f)
theorem Row.cell{α:Type}{w:World}{f:α->List Value}{X:List α}(hf:∀x,(f x).length=n)(h:Row w e n f (.slice g X.length cap) X){j:Nat}(hj:j<n)(hi:i<X.length):
  w.cell? (g,i*n+j)=(f X[i])[j]?:=by
 have Vd:i*n+j<X.length*n:=by
  have:(i+1)*n<=X.length*n:=Qx n hi;rw[R1]at this;omega
 rw[h.cellAt (i*n+j) Vd,U.kJ hf X i j hj hi]
end
section
open Go.RowKit Go.Proofs Go.Shelf
attribute [local go_sem] Qu
namespace Y
structure PS where
 kind:Int
 name:()
 done:()
 owner:Int
 parts:Nat
 inside:Nat
 around:Nat
 wth:Nat
 enter:U.Sl
 leave:U.Sl
structure PS.Sm(p:PS):Prop where
 hp:p.parts<4294967296
 hi:p.inside<4294967296
 ha:p.around<4294967296
 hw:p.wth<4294967296
structure uY(W:World)(b i:Nat)(p:PS):Prop where
 c0:W.cell? (b,i*10)=some ↑(p.kind:Int)
 c1:W.cell? (b,i*10+1)=some ↑p.name
 c2:W.cell? (b,i*10+2)=some ↑p.done
 c3:W.cell? (b,i*10+3)=some ↑(p.owner:Int)
 c4:W.cell? (b,i*10+4)=some (.int .u32 p.parts)
 c5:W.cell? (b,i*10+5)=some (.int .u32 p.inside)
 c6:W.cell? (b,i*10+6)=some (.int .u32 p.around)
 c7:W.cell? (b,i*10+7)=some (.int .u32 p.wth)
 c8:W.cell? (b,i*10+8)=some p.enter.v
 c9:W.cell? (b,i*10+9)=some p.leave.v
theorem uY.below{p:PS}(h:uY W b i p)(hB:Below B W W')(hb:b<B):uY W' b i p where
 c0:=(hB.cell (p:=⟨b,_,none⟩) hb).trans h.c0
 c1:=(hB.cell (p:=⟨b,_,none⟩) hb).trans h.c1
 c2:=(hB.cell (p:=⟨b,_,none⟩) hb).trans h.c2
 c3:=(hB.cell (p:=⟨b,_,none⟩) hb).trans h.c3
 c4:=(hB.cell (p:=⟨b,_,none⟩) hb).trans h.c4
 c5:=(hB.cell (p:=⟨b,_,none⟩) hb).trans h.c5
 c6:=(hB.cell (p:=⟨b,_,none⟩) hb).trans h.c6
 c7:=(hB.cell (p:=⟨b,_,none⟩) hb).trans h.c7
 c8:=(hB.cell (p:=⟨b,_,none⟩) hb).trans h.c8
 c9:=(hB.cell (p:=⟨b,_,none⟩) hb).trans h.c9
structure cJ(W:World)(pb b cap:Nat)(ps:List PS):Prop where
 row:W.cell? pb=some (.slice b ps.length cap)
 at':∀(i:Nat) (p:PS),ps[i]?=some p->uY W b i p
 sm:∀(i:Nat) (p:PS),ps[i]?=some p->p.Sm
 len:ps.length<=24
theorem cJ.below{pb:Nat}{ps:List PS}(h:cJ W pb b cap ps)(hB:Below B W W')(hp:pb<B)(hb:b<B):cJ W' pb b cap ps where
 row:=(hB.cell (p:=⟨pb,_,none⟩) hp).trans h.row
 at':=fun i p hi=>(h.at' i p hi).below hB hb
 sm:=h.sm
 len:=h.len
end Y
theorem Jn(w:World)(pb b cap:Nat)(ps:List Y.PS)(i j:Nat)(p:Y.PS)(hP:Y.cJ w pb b cap ps)(hi:ps[i]?=some p)(hj:j<32):() 240 #[pb,(i:Int),(j:Int)] w fun e w'=>e=.returned (.bool (p.around.testBit j))/\w'=w:=by
 have WU:i<ps.length:=(Ps.1 hi).1;have hlen:=hP.len;have h0:=hP.row;have h6:=(hP.at' i p hi).c6;have Xz:=(hP.sm i p hi).ha;go_enter func240,ntmps240;go_wp2_with(go_at_call 204;refine(yy p.around j _ hj Xz).mono ?_;rintro e w9 ⟨rfl,U1⟩;rw[U1];clear U1 w9);exact zfx
namespace Y
def kc(ps:List PS)(i:Nat):Nat:=match ps[i]? with|some p=>p.around|none=>0
def vi(ps:List PS)(o:Nat)(l:List Nat):Nat:=l.foldl (fun o i=>o&&&(4294967295-kc ps i)) o
theorem F9(ps:List PS)(o:Nat)(l:List Nat)(i:Nat):vi ps o (l++[i])=vi ps o l&&&(4294967295-kc ps i):=by
 unfold vi;rw[QQ];rfl
theorem yB(ps:List PS):∀(l:List Nat) (o:Nat),o<4294967296->vi ps o l<4294967296
 |[],_,h=>h
 |_::l,_,h=>yB ps l _ (Qq Rh h)
def bn{s:Nat}:List (In s)->List Nat
 |[]=>[]
 |x::l=>x.1::bn l
theorem cU{s:Nat}:∀l:List (In s),bn l=l.map (·.1)
 |[]=>rfl
 |x::l=>by rw[bn,cU l];rfl
theorem eu(l:List (In s))(x:In s):bn (l++[x])=bn l++[x.1]:=by
 rw[cU,cU,Qj];rfl
def inn(ps:List PS)(s:Nat):Nat:=vi ps s (els s)
theorem KpT.tr{A B C:World}(h:KpT A B)(k:KpT B C):KpT A C:=fun x=>k (h x)
theorem KpT.of{A B:World}(h:Below n A B)(hn:1<n):KpT A B:=fun x j hj=>(h.cell (p:=⟨1,j,none⟩) hn).trans (x j hj)
end Y
theorem yC(n:Nat)(hn:3<=n)(w:World)(pb b cap:Nat)(ps:List Y.PS)(s:Nat)(hs:s<4294967296)(V9:∀i,i∈Y.els s->i<ps.length)(hP:Y.cJ w pb b cap ps)(Vo:pb<w.heap.size)(hb:b<w.heap.size)
  (hg:1<w.heap.size) (hT:TabAt 1 Lib.deBruijn32tab w):
  CallsIn Fence.wide n prog 109 #[pb,.int .u32 s] w fun e w'=>e=.returned (.int .u32 (Y.inn ps s))/\Below w w w':=by
 have h1:1<=n:=zaa;refine Qv func109 rfl trivial ?_ rfl;simp only[ntmps109,List.size_toArray,List.length_cons,List.length_nil,Nat.reduceAdd,Nat.reduceSub,Array.replicate_succ,Array.replicate_zero,List.push_toArray,List.append_toArray,List.nil_append,List.cons_append];gi_wp2_with(refine⟨trivial,?_⟩;gi_at_call 100;refine(P8.2 (dI s _)).mono ?_;rintro e w9 ⟨rfl,U1⟩;rw[U1];clear U1 w9);have c0:=P9 w 103 pb;have c1:=P9 (w.alloc (.cells #[pb] 103)) 167 (.int .u32 s);have c2:=P9 ((w.alloc (.cells #[pb] 103)).alloc (.cells #[.int .u32 s] 167)) 167 (.int .u32 s);simp only[World.size_alloc]at c1 c2;have VG:Below w w (((w.alloc (.cells #[pb] 103)).alloc (.cells #[.int .u32 s] 167)).alloc (.cells #[.int .u32 s] 167)):=(((Pq _ w).alloc (Po _) _).alloc zad _).alloc zaf _;refine Tt rfl h1 (gf:=151) (lb:=#[↑(w.heap.size+1+1)]) rfl trivial (RT func151 zab rfl)
  (fO (n-1) zaa (w.heap.size+1+1) s hs _ zad zad c2.cell (Y.KpT.of VG hg hT)) Y.KpT.tr (fun W l o o' hl h hc hw=>Y.KpT.of (R3 (n₀:=w.heap.size) (Pr (Sc _ 3) zad) W l o o' hl h hc hw) hg) (Pq _ _) (fun _=>rfl)
  (fun pre W=>(Boxed W w 103 pb/\Boxed W (w.heap.size+1) 167 (.int .u32 (Y.vi ps s (Y.bn pre))))/\Below w w W)
  (fun _ _ _=>False)
  (Qi (Qi (QU (QM _ _ _) _) (QU (QM _ _ _) _)) (Ru (Po _) zaf))
  (fun _ _ _ _ _ hs _ _=>hs)
  ⟨⟨(c0.alloc _).alloc _,c1.alloc _⟩,VG⟩
  (fun x=>{ tmps:=#[.pointer (some ⟨pb,0,none⟩),.int .u32 s,.pointer (some ⟨w.heap.size,0,none⟩),undef,.int .u32 0,.pointer (some ⟨w.heap.size+1,0,none⟩),.int .i64 x.1,.int .u32 s,.int .u32 s,.func (.func 151) #[] #[.pointer (some ⟨w.heap.size+1+1,0,none⟩)],.int .i64 x.1,undef,undef,undef,undef,undef,undef,undef,undef,undef,undef,undef],defers:=[] }) ?assign ?body ?done ?stop
 case assign=>
  exact zft
 case body=>
  rintro l pre x W ⟨⟨hp,hc⟩,hB⟩ _;have hpc:=hp.cell;have hcc:=hc.cell;have hcf:=hc.frozen;have Xo:=V9 x.1 x.2;obtain⟨p,XA⟩:∃p,ps[x.1]?=some p:=⟨_,Pp Xo⟩;have Yx:=hP.below hB Vo hb;have h0:=Yx.row;have h6:=(Yx.at' x.1 p XA).c6;have hlen:=hP.len;have Xz:=(hP.sm x.1 p XA).ha;have Vd:=Y.yB ps (Y.bn pre) s hs;have har:Y.kc ps x.1=p.around:=by unfold Y.kc;rw[XA]
  have ha:=Uo _ _ Vd Xz;have Wh:=Y.F9 ps s (Y.bn pre) x.1;rw[har,<- Y.eu]at Wh;have hB':∀v,Below w w ((W.drew).setCell ↑(w.heap.size+1) v):=fun v=>(hB.trans ((Pq _ W).drew)).setCell (p:=↑(w.heap.size+1)) zad _;have hko:∀v,KeepsOthers W ((W.drew).setCell ↑(w.heap.size+1) v):=fun v=>(Su W).trans (Qz _ _ _);have hkp:∀v,Y.KpT W ((W.drew).setCell ↑(w.heap.size+1) v):=fun v=>Y.KpT.of (((Pq w W).drew).setCell (p:=↑(w.heap.size+1)) zad _) hg;have hbp:∀v,Boxed ((W.drew).setCell ↑(w.heap.size+1) v) w.heap.size 103 pb:=fun v=>Boxed.kept (W:=W.drew) (show Boxed W.drew _ _ _ from hp) (UF _ _ _) zad;have VX:Boxed ((W.drew).setCell ↑(w.heap.size+1) (.int .u32 ((Y.vi ps s (Y.bn pre)&&&(4294967295-p.around):Nat):Int))) (w.heap.size+1) 167 (.int .u32 (Y.vi ps s (Y.bn (pre++[x])))):=by
   exact zeF
  clear Wh har hp hc hP Yx;gi_wp2;gi_region
  all_goals gi_wp2
  all_goals exact⟨hko _,hkp _,⟨hbp _,VX⟩,hB' _⟩
 case done=>
  rintro D ys W hD WT ⟨⟨_,hc⟩,hB⟩ hK;exact zdl
 case stop=>
  exact zfm
end
section
open Go
theorem pY{P:Program}{row:String}{w:World}{R:Value->World->Prop}(h:Rows P row args w R):RowsIn (Fence.wide.inRound k) n P row args w R:=
 fun c cs _=>let⟨v,w',r,s⟩:=h c cs;⟨v,w',r,stepsIn_wide.2 s⟩
theorem aI{P:Program}{f:FuncId}{w:World}(h:Calls P f args w R):CallsIn (Fence.wide.inRound k) n P f args w R:=
 CallsIn.inRound k (P8.2 h)
theorem Ee{k n:Nat}{P:Program}{o:Oper}{a:Act}{N N':Act->World->Prop}{Q:Exit->Act->World->Prop}(hN:∀a w,N a w->N' a w):∀r:Result Next,o.upon P a N Q r->o.uponIn (Fence.wide.inRound k) n P a N' Q r:=by
 have hd:∀x:Prop,((Fence.wide.inRound k).depth.isSome=true->x):=fun x h=>zaE;intro r h;cases r with
 |ok v w'=>
  cases v<;>first
   |exact hN _ _ h
   |exact⟨hd _,pY (Rows.mono h fun _ _ hx=>hN _ _ hx)⟩
   |exact h.elim
   |skip
  exact⟨hd _,aI (Pw h fun e w'' hx=>by
   cases e
   ·exact hN _ _ hx
   ·exact hx
   ·exact hx)⟩
 |halt x w'=>cases x<;>first|exact h|exact h.elim
def lK(ops:Array Oper):Bool:=ops.all fun o=>match o.op with|.defer _=>false|_=>true
theorem pO{ops:Array Oper}(h:lK ops=true)(ho:ops[i]?=some o)(c:_):o.op≠Op.defer c:=by
 intro he;have hm:o∈ops:=Array.mem_of_getElem? ho;have:=SF.1 h o hm;rw[he]at this;exact Bool.noConfusion this
theorem nI{k n:Nat}{P:Program}{ops:Array Oper}{Q:Exit->Act->World->Prop}(Vi:lK ops=true)(hL:¬LetsOut Q):∀(l:List Nat) (a:Act) (w:World),wpOps P ops Q l a w->wpOpsIn (Fence.wide.inRound k) n P ops Q l a w
 |[],_,_,h=>h
 |i::l,a,w,h=>by
  unfold wpOps at h;unfold wpOpsIn;cases ho:ops[i]? with
  |none=>
   simp only[ho]at h;exact nI Vi hL l a w h
  |some o=>
   simp only[ho]at h;simp only;split
   ·rename_i hw;rw[PC hw]at h
    rcases h with h|⟨_,h⟩
    ·refine⟨fun _ _=>trivial,?_⟩;rw[Oper.semAt_eq _ _ _ (fun c=>pO Vi ho c)];exact Ee (fun a w hx=>nI Vi hL l a w hx) _ h
    ·exact absurd h hL
   ·rename_i hw;rw[Pu hw]at h;exact⟨fun _ _=>trivial,nI Vi hL l _ w h⟩
theorem mh{P:Program}{ops:Array Oper}{Q:Exit->Act->World->Prop}{a:Act}{w:World}(hm:P.follows .mixedOrders=true)(Vi:lK ops=true)(hL:¬LetsOut Q)
  (h:wpAny P .any ops Q ops.size (Array.replicate ops.size false) a { w with drawn:=w.drawn+1 }):(Code.region id ops true).wpIn (Fence.wide.inRound k) n P Q a w:=
 wpIn_region_draw fun t=>by
  simp only[Region.schedule,hm,Bool.true_or,if_true];exact nI Vi hL _ _ _ (wpAny_sound ops.size t _ a _ h)
theorem dr{P:Program}{ops:Array Oper}{Q:Exit->Act->World->Prop}{S:World->Prop}{a:Act}{w:World}(hm:P.follows .mixedOrders=true)(Vi:lK ops=true)(hL:¬LetsOut Q)(hS:S w.drew)
  (h:S w.drew->wpAnyH P .any ops Q S ops.size (Array.replicate ops.size false) a w.drew):(Code.region id ops true).wpIn (Fence.wide.inRound k) n P Q a w:=
 mh hm Vi hL (wpAny_of_held _ _ _ _ (h hS))
theorem pU{P:Program}{md:Region.Mode}{ops:Array Oper}{Q:Exit->Act->World->Prop}{S:World->Prop}{fuel:Nat}{listed:Array Bool}{a:Act}{w:World}{rs:List Nat}(ho:ops[i]?=some o)(hw:Region.wanted o (yielded ops a.tmps)=true)
  (h:∀K':Act->World->Prop,Shut (∀a w,S w->(S w->wpAnyH P md ops Q S fuel (listed.setIfInBounds i true) a w)->K' a w)->Oper.wp P o a w K' Q)
  (hs:AllReadyH P md ops Q S fuel listed a w rs):AllReadyH P md ops Q S fuel listed a w (i::rs):=
 Qk ho (fun K hK=>by rw[PC hw];exact h K hK) hs
end
section
open Go.RowKit Go.Proofs Go.Shelf
attribute [local go_sem] Qu
namespace Y
def gn(ps:List PS)(i:Nat):Nat:=match ps[i]? with|some p=>p.wth|none=>0
def kg(ps:List PS)(i:Nat):Nat:=match ps[i]? with|some p=>p.inside|none=>0
def rI(ps:List PS)(ow:Nat)(l:List Nat):Nat:=l.foldl (fun o i=>o|||(gn ps i|||(kc ps i&&&kg ps ow))) 0
theorem GQ(ps:List PS)(ow:Nat)(l:List Nat)(i:Nat):rI ps ow (l++[i])=rI ps ow l|||(gn ps i|||(kc ps i&&&kg ps ow)):=by
 unfold rI;rw[QQ];rfl
theorem rh{a:Nat}(ha:a<4294967296)(hb:b<4294967296):a|||b<4294967296:=Qt (n:=32) ha hb
theorem lg{a:Nat}(ha:a<4294967296):a&&&b<4294967296:=Qq Rh ha
end Y
theorem BA(n:Nat)(hn:3<=n)(w:World)(pb b cap:Nat)(ps:List Y.PS)(ow:Nat)(po:Y.PS)(WZ:ps[ow]?=some po)(s:Nat)(hs:s<4294967296)(h0s:s≠0)(V9:∀i,i∈Y.els s->i<ps.length)(WM:∀l,Y.rI ps ow l<4294967296)(hP:Y.cJ w pb b cap ps)(Vo:pb<w.heap.size)(hb:b<w.heap.size)
  (hg:1<w.heap.size) (hT:TabAt 1 Lib.deBruijn32tab w):
  CallsIn Fence.wide n prog 162 #[pb,(ow:Int),.int .u32 s] w fun e w'=>e=.returned (.int .u32 (Y.rI ps ow (Y.els s)))/\Below w w w':=by
 have h1:1<=n:=zaa;have YR:ow<ps.length:=(Ps.1 WZ).1;have hlen:=hP.len;have U5:=hP.row;have hz:((s:Int) == 0)=false:=zaf;refine Qv func162 rfl trivial ?_ rfl;simp only[ntmps162,List.size_toArray,List.length_cons,List.length_nil,Nat.reduceAdd,Nat.reduceSub,Array.replicate_succ,Array.replicate_zero,List.push_toArray,List.append_toArray,List.nil_append,List.cons_append];have hrow1:(w.alloc (.cells #[pb] 103)).cell? pb=some (.slice b ps.length cap):=(((Pq _ w).alloc (Po _) _).cell (p:=pb) Vo).trans U5;gi_wp2_with(refine⟨trivial,?_⟩;gi_at_call 100;refine(P8.2 (dI s _)).mono ?_;rintro e w9 ⟨rfl,U1⟩;rw[U1];clear U1 w9);have c0:=P9 w 103 pb;have c1:=P9 (w.alloc (.cells #[pb] 103)) 258 (b,ow*10);have c2:=P9 ((w.alloc (.cells #[pb] 103)).alloc (.cells #[(b,ow*10)] 258)) 167 (.int .u32 0);have c3:=P9 (((w.alloc (.cells #[pb] 103)).alloc (.cells #[(b,ow*10)] 258)).alloc (.cells #[.int .u32 0] 167)) 167 (.int .u32 s);simp only[World.size_alloc]at c1 c2 c3;have VG:Below w w ((((w.alloc (.cells #[pb] 103)).alloc (.cells #[(b,ow*10)] 258)).alloc (.cells #[.int .u32 0] 167)).alloc (.cells #[.int .u32 s] 167)):=((((Pq _ w).alloc (Po _) _).alloc zad _).alloc zaf _).alloc zaf _;refine Tt rfl h1 (gf:=151) (lb:=#[↑(w.heap.size+1+1+1)]) rfl trivial (RT func151 zab rfl)
  (fO (n-1) zaa (w.heap.size+1+1+1) s hs _ zad zad c3.cell (Y.KpT.of VG hg hT)) Y.KpT.tr (fun W l o o' hl h hc hw=>Y.KpT.of (R3 (n₀:=w.heap.size) (Pr (Sc _ 4) zad) W l o o' hl h hc hw) hg) (Pq _ _) (fun _=>rfl)
  (fun pre W=>(Boxed W w 103 pb/\Boxed W (w.heap.size+1) 258 (b,ow*10)/\Boxed W (w.heap.size+1+1) 167 (.int .u32 (Y.rI ps ow (Y.bn pre))))/\Below w w W)
  (fun _ _ _=>False)
  (Qi (Qi (QU (QM _ _ _) _) (Qi (QU (QM _ _ _) _) (QU (QM _ _ _) _))) (Ru (Po _) zaf))
  (fun _ _ _ _ _ hs _ _=>hs)
  ⟨⟨((c0.alloc _).alloc _).alloc _,(c1.alloc _).alloc _,c2.alloc _⟩,VG⟩
  (fun x=>{ tmps:=#[.pointer (some ⟨pb,0,none⟩),.int .i64 ow,.int .u32 s,.pointer (some ⟨w.heap.size,0,none⟩),undef,undef,.int .u32 0,.pointer (some ⟨w.heap.size+1,0,none⟩),.pointer (some ⟨w.heap.size+1+1,0,none⟩),.int .i64 x.1,.pointer (some ⟨pb,0,none⟩),.pointer (some ⟨pb,0,none⟩),.pointer (some ⟨pb,0,none⟩),.slice (some ⟨b,0,none⟩) ps.length cap,.int .i64 ow,.pointer (some ⟨b,ow*10,none⟩),.int .u32 s,.bool false,undef,undef,undef,undef,undef,undef,undef,.int .u32 s,.func (.func 151) #[] #[.pointer (some ⟨w.heap.size+1+1+1,0,none⟩)],.int .i64 x.1,undef,undef,undef,undef,undef,undef,undef,undef,undef,undef,undef,undef,undef,undef,undef,undef,undef,undef,undef,undef,undef,undef,undef,undef,undef],defers:=[] }) ?assign ?body ?done ?stop
 case assign=>
  exact zft
 case body=>
  rintro l pre x W ⟨⟨hp,ho,hc⟩,hB⟩ _;have Xo:=V9 x.1 x.2;obtain⟨p,XA⟩:∃p,ps[x.1]?=some p:=⟨_,Pp Xo⟩;have Yx:=hP.below hB Vo hb;have sa:=(hP.sm x.1 p XA).ha;have sw:=(hP.sm x.1 p XA).hw;have si:=(hP.sm ow po WZ).hi;have Vd:=WM (Y.bn pre);have har:Y.kc ps x.1=p.around:=by unfold Y.kc;rw[XA]
  have ZY:Y.gn ps x.1=p.wth:=by unfold Y.gn;rw[XA]
  have hid:Y.kg ps ow=po.inside:=by unfold Y.kg;rw[WZ]
  have ha1:=SW _ _ sa si;have ha2:=Se _ _ sw (Y.lg (b:=po.inside) sa);have ha3:=Se _ _ Vd (Y.rh sw (Y.lg (b:=po.inside) sa));have Wh:=Y.GQ ps ow (Y.bn pre) x.1;rw[har,ZY,hid,<- Y.eu]at Wh;have hB':∀v,Below w w ((W.drew).setCell ↑(w.heap.size+1+1) v):=fun v=>(hB.trans ((Pq _ W).drew)).setCell (p:=↑(w.heap.size+1+1)) zaf _;have hko:∀v,KeepsOthers W ((W.drew).setCell ↑(w.heap.size+1+1) v):=fun v=>(Su W).trans (Qz _ _ _);have hkp:∀v,Y.KpT W ((W.drew).setCell ↑(w.heap.size+1+1) v):=fun v=>Y.KpT.of (((Pq w W).drew).setCell (p:=↑(w.heap.size+1+1)) zaf _) hg;have hbp:∀v,Boxed ((W.drew).setCell ↑(w.heap.size+1+1) v) w.heap.size 103 pb:=fun v=>Boxed.kept (W:=W.drew) (show Boxed W.drew _ _ _ from hp) (UF _ _ _) zaf;have hbo:∀v,Boxed ((W.drew).setCell ↑(w.heap.size+1+1) v) (w.heap.size+1) 258 (b,ow*10):=fun v=>Boxed.kept (W:=W.drew) (show Boxed W.drew _ _ _ from ho) (UF _ _ _) zad;have VX:Boxed ((W.drew).setCell ↑(w.heap.size+1+1) (.int .u32 ((Y.rI ps ow (Y.bn pre)|||(p.wth|||(p.around&&&po.inside)):Nat):Int))) (w.heap.size+1+1) 167 (.int .u32 (Y.rI ps ow (Y.bn (pre++[x])))):=by
   exact zeF
  have hcc:=hc.cell;have hcf:=hc.frozen;gi_wp2;refine dr (S:=(fun V=>V.cell? w=some ↑pb/\V.cell? ↑(w.heap.size+1)=some ↑(b,ow*10)/\V.cell? pb=some (.slice b ps.length cap)/\V.cell? (b,x.1*10+7)=some (.int .u32 p.wth)/\V.cell? (b,x.1*10+6)=some (.int .u32 p.around)/\V.cell? (b,ow*10+5)=some (.int .u32 po.inside))) zab zab zbl ⟨hp.cell,ho.cell,Yx.row,(Yx.at' x.1 p XA).c7,(Yx.at' x.1 p XA).c6,(Yx.at' ow po WZ).c5⟩ (fun Pm=>?_);clear Wh har ZY hid hp hc ho hP Yx U5 hrow1;refine tH 1 pb rfl Pm ?_;refine tH 2 pb rfl Pm ?_;refine tH 3 pb rfl Pm ?_;refine tH 4 (.slice b ps.length cap) rfl Pm ?_;refine tH 5 (.int .i64 x.1) rfl Pm ?_;refine tH 6 (b,x.1*10) rfl Pm ?_;refine tH 7 (b,x.1*10+7) rfl Pm ?_;refine tH 8 (.int .u32 p.wth) rfl Pm ?_;refine tH 9 pb rfl Pm ?_;refine tH 10 pb rfl Pm ?_;refine tH 11 pb rfl Pm ?_;refine tH 12 (.slice b ps.length cap) rfl Pm ?_;refine tH 13 (.int .i64 x.1) rfl Pm ?_;refine tH 14 (b,x.1*10) rfl Pm ?_;refine tH 15 (b,x.1*10+6) rfl Pm ?_;refine tH 16 (.int .u32 p.around) rfl Pm ?_;refine tH 17 (b,ow*10) rfl Pm ?_;refine tH 18 (b,ow*10) rfl Pm ?_;refine tH 19 (b,ow*10+5) rfl Pm ?_;refine tH 20 (.int .u32 po.inside) rfl Pm ?_;refine tH 21 (.int .u32 ((p.around&&&po.inside:Nat):Int)) rfl Pm ?_;refine tH 22 (.int .u32 ((p.wth|||(p.around&&&po.inside):Nat):Int)) rfl Pm ?_;refine zH 0 rfl fun K hK=>?_;go_simp;refine hK.out _ _ Pm (fun Pm=>?_);clear hK K;refine tH 23 (.int .u32 ((Y.rI ps ow (Y.bn pre)|||(p.wth|||(p.around&&&po.inside)):Nat):Int)) rfl Pm ?_;refine zH 24 rfl fun K hK=>?_;go_simp;refine hK.out _ _ (by
   have e:∀(a:Addr),a.block≠w.heap.size+1+1->∀v,(W.setCell ↑(w.heap.size+1+1) v).drew.cell? a=W.drew.cell? a:=fun a ha v=>World.cell?_setCell_far W _ _ _ (fun h=>ha h.symm)
   (try dsimp only at Pm);(try dsimp only)
   rw[e _ zaf,e _ zad,e _ zaf,e _ zaf,e _ zaf,e _ zaf];exact Pm) (fun _=>?_)
  clear hK K;refine PX zab ?_ _;gi_wp2;exact⟨hko _,hkp _,⟨hbp _,hbo _,VX⟩,hB' _⟩
 case done=>
  rintro D ys W hD WT ⟨⟨_,_,hc⟩,hB⟩ hK;exact zdl
 case stop=>
  exact zfm
namespace Y
theorem r9{ps:List PS}(h:∀(i:Nat) (p:PS),ps[i]?=some p->p.Sm)(i:Nat):gn ps i<4294967296:=by
 unfold gn;split
 ·rename_i p hp;exact(h i p hp).hw
 ·omega
theorem K8{ps:List PS}(h:∀(i:Nat) (p:PS),ps[i]?=some p->p.Sm)(i:Nat):kc ps i<4294967296:=by
 unfold kc;split
 ·rename_i p hp;exact(h i p hp).ha
 ·omega
theorem E2{ps:List PS}(h:∀(i:Nat) (p:PS),ps[i]?=some p->p.Sm)(ow:Nat):∀(l:List Nat) (o:Nat),o<4294967296->l.foldl (fun o i=>o|||(gn ps i|||(kc ps i&&&kg ps ow))) o<4294967296
 |[],_,ho=>ho
 |i::l,_,ho=>E2 h ow l _ (rh ho (rh (r9 h i) (lg (K8 h i))))
theorem E0{ps:List PS}(h:∀(i:Nat) (p:PS),ps[i]?=some p->p.Sm)(ow:Nat)(l:List Nat):rI ps ow l<4294967296:=E2 h ow l 0 zaa
def ef(ps:List PS)(ow s:Nat):Nat:=if s=0 then gn ps ow&&&(4294967295-2 ^ ow) else rI ps ow (els s)
theorem GR{ps:List PS}(h:∀(i:Nat) (p:PS),ps[i]?=some p->p.Sm)(ow s:Nat):ef ps ow s<4294967296:=by
 unfold ef;split
 ·exact lg (r9 h ow)
 ·exact E0 h ow _
end Y
theorem BB(w:World)(pb b cap:Nat)(ps:List Y.PS)(ow:Nat)(po:Y.PS)(WZ:ps[ow]?=some po)(hP:Y.cJ w pb b cap ps)(Vo:pb<w.heap.size)(hb:b<w.heap.size):
  () 162 #[pb,(ow:Int),.int .u32 0] w fun e w'=>e=.returned (.int .u32 (Y.gn ps ow&&&(4294967295-2 ^ ow):Nat))/\Below w w w':=by
 have YR:ow<ps.length:=(Ps.1 WZ).1;have hlen:=hP.len;have Vh:Below w w (w.alloc (.cells #[pb] 103)):=(Pq _ w).alloc (Po _) _;have V6:Below w w ((w.alloc (.cells #[pb] 103)).alloc (.cells #[(b,ow*10)] 258)):=Vh.alloc zad _;have hrow1:=(hP.below Vh Vo hb).row;have h7:=((hP.below V6 Vo hb).at' ow po WZ).c7;have Yy:=(P9 (w.alloc (.cells #[pb] 103)) 258 (b,ow*10)).cell;simp only[World.size_alloc]at Yy;have ZY:Y.gn ps ow=po.wth:=by unfold Y.gn;rw[WZ]
 have Xz:=(hP.sm ow po WZ).hw;have ha:bits BinOp.andNot IntKind.u32 (po.wth:Int) ((2:Int) ^ ow)=((po.wth&&&(4294967295-2 ^ ow):Nat):Int):=by
  rw[j8,Uo _ _ Xz (gZ zaa)]
 rw[ZY];generalize hr:po.wth&&&(4294967295-2 ^ ow)=r at *;go_enter func162,ntmps162;go_wp2;generalize(w.alloc (.cells #[pb] 103)).alloc (.cells #[(b,ow*10)] 258)=W at *;go_region_with (go_at_call 101;refine(jf ow _ zaa).mono ?_;rintro e w9 ⟨rfl,U1⟩;rw[U1];clear U1 w9)
 all_goals go_wp2
 all_goals go_ret
 all_goals exact⟨rfl,V6.trans (Pq _ W).drew⟩
theorem DR(w:World)(pb b cap:Nat)(ps:List Y.PS)(ow:Nat)(po:Y.PS)(WZ:ps[ow]?=some po)(s:Nat)(hs:s<4294967296)(V9:∀i,i∈Y.els s->i<ps.length)(hP:Y.cJ w pb b cap ps)(Vo:pb<w.heap.size)(hb:b<w.heap.size)
  (hg:1<w.heap.size) (hT:TabAt 1 Lib.deBruijn32tab w):
  () 162 #[pb,(ow:Int),.int .u32 s] w fun e w'=>e=.returned (.int .u32 (Y.ef ps ow s))/\Below w w w':=by
 unfold Y.ef;by_cases h0:s=0
 ·subst h0;rw[PC rfl];exact BB w pb b cap ps ow po WZ hP Vo hb
 ·rw[Pu h0];exact P8.1 (BA 3 zaa w pb b cap ps ow po WZ s hs h0 V9 (Y.E0 hP.sm ow) hP Vo hb hg hT)
theorem od(w:World)(pb b cap:Nat)(ps:List Y.PS)(s:Nat)(hs:s<4294967296)(V9:∀i,i∈Y.els s->i<ps.length)(hP:Y.cJ w pb b cap ps)(Vo:pb<w.heap.size)(hb:b<w.heap.size)
  (hg:1<w.heap.size) (hT:TabAt 1 Lib.deBruijn32tab w):
  () 109 #[pb,.int .u32 s] w fun e w'=>e=.returned (.int .u32 (Y.inn ps s))/\Below w w w':=
 P8.1 (yC 3 zaa w pb b cap ps s hs V9 hP Vo hb hg hT)
