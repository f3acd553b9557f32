import Derived.Test.YtpkhcncoildcnaaGreatDoorProg
import Derived.WalkLawsBesides
import Derived.WalkSpells
import Derived.Deep.WholeRow
import Derived.StillTailTactics
import Derived.Deep.RegionHeld
import Derived.PlainAid
import Derived.Deep.Light
import Derived.Lib.ItoaNum
import Derived.Lib.ParseIntB
import Derived.Shelf.Small.Bits
import Derived.Shelf.Spec.TrailingZeros
import Derived.RangeFuncNested
import Derived.RangeFuncBound
import Derived.Shelf.RegionOpen
import Derived.OwnWalkIn
import Derived.LoopNIn
import Derived.LoopIn
set_option maxRecDepth 100000
set_option maxHeartbeats 8000000
namespace Go.Proofs.YtpkhcncoildcnaaGreatDoor
variable {zp:Prop}
theorem zcT(h:zp:=by
 have hp:=PU k;have e1:s=2 ^ k*(2*m+1)+0:=zaa;have e2:s-1=2 ^ k*(2*m)+(2 ^ k-1):=by
  have:2 ^ k*(2*m+1)=2 ^ k*(2*m)+2 ^ k:=by rw[Nat.mul_add,RC]
  omega
 have t1:∀j,s.testBit j=if j<k then false else(2*m+1).testBit (j-k):=by
  intro j;rw[e1,Rh _ hp,SH]
 have t2:∀j,(s-1).testBit j=if j<k then(2 ^ k-1).testBit j else(2*m).testBit (j-k):=by
  intro j;rw[e2,Rh _ zaa]
 refine⟨hk,?_,?_,?_⟩
 ·rw[t1,OB zaa,Ri,RI];simp
 ·intro j hj;rw[t1,OD hj]
 ·intro j;rw[Ry,t1,t2];by_cases hj:j<k
  ·rw[OD hj,OD hj];rfl
  ·rw[OB hj,OB hj];by_cases YM:j=k
   ·subst YM;rw[Ri,RI,RI];simp
   ·obtain⟨i,hi⟩:∃i,j-k=i+1:=⟨j-k-1,zaa⟩;rw[hi,SI,SI,show(2*m+1) / 2=m by omega,show 2*m / 2=m by omega];simp[YM]):zp:=h
theorem zdG(h:zp:=by
 have hc:=hc.cell;rw[Y.cG,VA]at hc;gi_wp2;refine⟨zad,.inl ⟨_,_,rfl,Pj hK,?_⟩⟩;exact⟨_,SQ rfl _ _ _,rfl,hB.trans (QW (w:=w) (Ow _) W D _ _ zbr hK rfl rfl)⟩):zp:=h
theorem zen(h:zp:=by
 gi_wp2;refine Qb (Pu rfl _ _ _) rfl ?_;exact⟨⟨_,rfl⟩,.inr ⟨_,⟨_,hE.symm⟩,YN⟩⟩):zp:=h
theorem zeS(h:zp:=by
 rw[U6];exact Ta (W:=W.drew) _ (show Boxed W.drew _ _ _ from hc)):zp:=h
theorem zeX(h:zp:=by
 have:=PB s.testBit (List.range 32);rw[QV]at this;exact this):zp:=h
theorem zfg(h:zp:=by
 exact⟨⟨_,rfl⟩,.inl ⟨pre,he.symm,hJs⟩⟩):zp:=h
theorem zfA(h:zp:=by
 rintro D c pre W _ _ h _;exact h.elim):zp:=h
theorem zfG(h:zp:=by
 go_wp2;go_ret;exact⟨rfl,rfl⟩):zp:=h
theorem zfH(h:zp:=by
 rw[he,hf]at h1;simp at h1;omega):zp:=h
theorem zfI(h:zp:=by
 intro l x W K hK;gi_wp2;exact hK):zp:=h
theorem zfM(h:zp:=by
 go_ret;exact⟨rfl,rfl⟩):zp:=h
theorem zaa(h:zp:=by omega):zp:=h
theorem zab(h:zp:=by kernel_rfl):zp:=h
theorem zac(h:zp:=by decide):zp:=h
theorem zad(h:zp:=by simp):zp:=h
theorem zae(h:zp:=by simp;omega):zp:=h
theorem zaf(h:zp:=by rfl):zp:=h
theorem zag(h:zp:=by go_num):zp:=h
theorem zah(h:zp:=by unfold maxLen;omega):zp:=h
theorem zai(h:zp:=by(try dsimp only at UL);go_simp;(try with_reducible rfl)):zp:=h
theorem zam(h:zp:=by assumption):zp:=h
theorem zao(h:zp:=by simp[Value.oneCell']):zp:=h
theorem zav(h:zp:=by cases h):zp:=h
theorem zaC(h:zp:=by simpa using h):zp:=h
theorem zaR(h:zp:=by simp at hi;omega):zp:=h
theorem zaU(h:zp:=by decide +kernel):zp:=h
theorem za4(h:zp:=by simpa using hi):zp:=h
theorem za6(h:zp:=by simpa using hh):zp:=h
theorem zbl(h:zp:=by rw[h.size];exact Ow _):zp:=h
theorem zbm(h:zp:=by rintro⟨_,_,h⟩;exact h):zp:=h
theorem zbr(h:zp:=by simp at hD;omega):zp:=h
theorem zby(h:zp:=by simpa using hx):zp:=h
theorem zb1(h:zp:=by simpa[isD] using hd.1):zp:=h
instance:Coe Int Value:=⟨.int .i64⟩
instance:CoeFun Unit fun _=>Nat->Array Value->World->(Ending->World->Prop)->Prop:=⟨fun _=>Calls Tryz.prog⟩
instance:Coe Nat Value:=⟨fun b=>.pointer (some ⟨b,0,none⟩)⟩
instance:Coe World Nat:=⟨fun w=>w.heap.size⟩
instance:Coe Nat Addr:=⟨fun b=>⟨b,0,none⟩⟩
instance:CoeSort Unit Type:=⟨fun _=>ByteArray⟩
instance:CoeDep Unit () Type:=⟨ByteArray⟩
instance:Coe ByteArray Value:=⟨.string⟩
instance:Coe Bool Value:=⟨.bool⟩
instance(b i:Nat):CoeDep (Nat×Nat) (b,i) Addr:=⟨⟨b,i,none⟩⟩
instance(b i:Nat):CoeDep (Nat×Nat) (b,i) Value:=⟨.pointer (some ⟨b,i,none⟩)⟩
instance(w:World)(i:Nat):CoeDep (World×Nat) (w,i) Addr:=⟨⟨w.heap.size,i,none⟩⟩
instance(w:World)(i:Nat):CoeDep (World×Nat) (w,i) Value:=⟨.pointer (some ⟨w.heap.size,i,none⟩)⟩
abbrev Ou:=@List.getElem?_eq_getElem
abbrev Ov:=@Array.getElem?_eq_some_iff
abbrev Ow:=@Nat.le_refl
abbrev Ox:=@Nat.le_trans
abbrev Oy:=@Go.RowKit.Below.refl
abbrev Oz:=@List.getElem?_eq_some_iff
abbrev OA:=@Go.cell_of_row
abbrev OB:=@if_neg
abbrev OC:=@Go.AllReady.cons
abbrev OD:=@if_pos
abbrev OE:=@List.mem_singleton
abbrev OF:=@List.getElem?_map
abbrev OG:=@List.mem_of_getElem?
abbrev OH:=@Go.heap_alloc_new
abbrev OI:=@Go.Calls.mono
abbrev OJ:=@List.getD_eq_getElem?_getD
abbrev OK:=@List.length_map
abbrev OL:=@Nat.zero_le
abbrev OM:=@List.length_append
abbrev ON:=@List.length_set
abbrev OO:=@Go.World.cell?_of_block
abbrev OP:=@Go.heap_setCell_same
abbrev OQ:=@Go.wp_region_held_drew
abbrev OR:=@List.getElem?_set_self
abbrev OS:=@Nat.lt_of_lt_of_le
abbrev OT:=@List.mem_append
abbrev OU:=@List.getElem?_set_ne
abbrev OV:=@List.getElem?_eq_none
abbrev OW:=@Go.World.block_lt_of_cell?
abbrev OX:=@Go.AllReady.nil
abbrev OY:=@Go.wpAnyH_done
abbrev OZ:=@List.mem_cons_of_mem
abbrev O0:=@Option.map_eq_some_iff
abbrev O1:=@List.mem_cons_self
abbrev O2:=@Bool.and_eq_true
abbrev O3:=@Go.callsIn_wide
abbrev O4:=@Go.Boxed.new
abbrev O5:=@List.mem_iff_getElem?
abbrev O6:=@List.mem_or_eq_of_mem_set
abbrev O7:=@List.mem_map
abbrev O8:=@Go.World.ownsRow.lt
abbrev O9:=@Go.RowKit.Below.heap_setCell
abbrev Pa:=@Go.OwnFrom.and
abbrev Pb:=@Go.AllReadyH.cons
abbrev Pc:=@decide_eq_false
abbrev Pd:=@Option.some.inj
abbrev Pe:=@decide_eq_true
abbrev Pf:=@Go.World.cell?_alloc_lt
abbrev Ph:=@List.flatMap_append
abbrev Pj:=@Go.run_takeDeferred
abbrev Pk:=@List.map_append
abbrev Pl:=@List.getElem_mem
abbrev Pm:=@Nat.lt_of_le_of_lt
abbrev Pn:=@Go.World.putObj_heap_other
abbrev Po:=@Nat.or_lt_two_pow
abbrev Pp:=@Go.Oper.semAt_some
abbrev Pq:=@Go.callsIn_of_wp_marks
abbrev Pr:=@Go.ByteArray.toList_eq
abbrev Ps:=@Go.KeepsOthers.setCell
abbrev Pt:=@Go.World.ownsRow_nil
abbrev Pu:=@Go.results_none
abbrev Pv:=@List.getElem?_append_left
abbrev Pw:=@List.take_length
abbrev Px:=@List.foldl_append
abbrev Py:=@Go.World.size_alloc
abbrev Pz:=@Go.RowKit.Below.heap_alloc
abbrev PB:=@List.length_filter_le
abbrev PC:=@List.getElem?_take_of_lt
abbrev PD:=@List.mem_range
abbrev PE:=@List.getElem?_append_right
abbrev PG:=@Go.boxed_own
abbrev PH:=@List.length_take
abbrev PI:=@List.getElem_set
abbrev PJ:=@Nat.add_assoc
abbrev PK:=@Go.KeepsFrom.refl
abbrev PN:=@Array.getElem?_toList
abbrev PO:=@List.flatMap_cons
abbrev PQ:=@List.take_add_one
abbrev PR:=@List.length_cons
abbrev PU:=@Nat.two_pow_pos
abbrev PW:=@Go.wpList_load_mid
abbrev PX:=@Nat.pow_le_pow_right
abbrev PY:=@Go.Own.from
abbrev PZ:=@Go.info_parts
abbrev P0:=@Go.wpAny_done
abbrev P1:=@Go.AllReadyH.nil
abbrev P2:=@List.mem_cons
abbrev P3:=@List.mem_filter
abbrev P4:=@List.getElem_append_right
abbrev P5:=@beq_eq_false_iff_ne
abbrev P6:=@Array.getElem?_setIfInBounds_ne
abbrev P7:=@Go.World.ownsRow.frozenAt
abbrev P8:=@Go.wpStill_nil
abbrev P9:=@List.getElem_append_left
abbrev Qa:=@Go.grownBy_putObj'
abbrev Qb:=@Go.bodyPost_ret
abbrev Qc:=@List.length_pos_iff
abbrev Qd:=@Array.getElem?_setIfInBounds_self_of_lt
abbrev Qe:=@List.getLast?_eq_getElem?
abbrev Qf:=@Classical.byContradiction
abbrev Qg:=@List.filter_append
abbrev Qh:=@Go.wp_region_any
abbrev Qi:=@Nat.and_le_left
abbrev Qj:=@Bool.and_false
abbrev Qk:=@List.filter_cons_of_neg
abbrev Ql:=@List.filter_cons_of_pos
abbrev Qm:=@Go.World.frozen?_alloc_old
abbrev Qn:=@List.append_assoc
abbrev Qo:=@List.ext_getElem?
abbrev Qp:=@Go.World.putObj_heap_same
abbrev Qq:=@List.pairwise_cons
abbrev Qr:=@Go.ownFrom_below
abbrev Qs:=@List.eq_of_mem_replicate
abbrev Qt:=@List.mem_map_of_mem
abbrev Qu:=@List.length_singleton
abbrev Qv:=@List.getElem?_set
abbrev Qw:=@List.map_set
abbrev Qx:=@List.length_eq_zero_iff
abbrev Qy:=@List.mem_of_getLast?
abbrev Qz:=@List.mem_of_mem_take
abbrev QA:=@Go.RowKit.Below.block
abbrev QB:=@List.foldl_cons
abbrev QC:=@Nat.zero_add
abbrev QD:=@Nat.lt_or_ge
abbrev QE:=@ByteArray.data_extract
abbrev QF:=@List.getElem?_eq_none_iff
abbrev QG:=@Nat.testBit_two_pow
abbrev QH:=@Go.World.ownsRow.alloc
abbrev QI:=@List.eq_nil_of_length_eq_zero
abbrev QJ:=@Int.toNat_natCast
abbrev QK:=@Go.below_drewN
abbrev QL:=@of_decide_eq_true
abbrev QM:=@Nat.pow_lt_pow_right
abbrev QN:=@Go.Proofs.enters_of
abbrev QO:=@List.getElem_map
abbrev QP:=@List.getElem?_cons_succ
abbrev QQ:=@List.map_cons
abbrev QR:=@Bool.false_and
abbrev QS:=@Bool.not_eq_true'
abbrev QT:=@List.filter_eq_nil_iff
abbrev QU:=@List.filter_congr
abbrev QV:=@List.length_range
abbrev QW:=@Go.belowK_b
abbrev QX:=@List.getElem_of_mem
abbrev QY:=@List.getLast?_eq_none_iff
abbrev QZ:=@Go.World.frozen?_setCell
abbrev Q0:=@List.getElem?_toArray
abbrev Q1:=@List.getElem_set_self
abbrev Q2:=@Go.u32_or_nat
abbrev Q3:=@List.mem_flatMap
abbrev Q4:=@List.any_eq_true
abbrev Q5:=@Go.World.cell?_setCell_same
abbrev Q6:=@List.map_map
abbrev Q7:=@Nat.mul_le_mul_right
abbrev Q8:=@Bool.eq_false_iff
abbrev Q9:=@Go.Proofs.Tryz.zeroValue4
abbrev Ra:=@List.append_nil
abbrev Rb:=@Bool.or_eq_true
abbrev Rc:=@Go.setRow_other
abbrev Re:=@Go.ByteArray.size_append'
abbrev Rg:=@Bool.true_or
abbrev Rh:=@Nat.testBit_two_pow_mul_add
abbrev Ri:=@Nat.sub_self
abbrev Rj:=@Go.WideMaps.keyOf_string_mk
abbrev Rl:=@Go.World.frozen?_of_block
abbrev Rn:=@Bool.true_and
abbrev Ro:=@List.all_eq_true
abbrev Rp:=@List.isEmpty_iff
abbrev Rr:=@Go.KeepsOthers.drew
abbrev Rs:=@Nat.testBit_or
abbrev Rt:=@Array.toList_setIfInBounds
abbrev Ru:=@Go.Maps.has_put_other
abbrev Rv:=@List.set_append_right
abbrev Rx:=@List.drop_eq_getElem_cons
abbrev Ry:=@Nat.testBit_and
abbrev Rz:=@Array.all_eq_true_iff_forall_mem
abbrev RA:=@decide_eq_true_eq
abbrev RB:=@Nat.lt_trichotomy
abbrev RC:=@Nat.mul_one
abbrev RD:=@List.set_eq_of_length_le
abbrev RE:=@Go.wpIn_rangeFunc_ownH
abbrev RF:=@List.getElem?_range
abbrev RG:=@Nat.le_add_right
abbrev RH:=@Go.IntKind.wrap_u64
abbrev RI:=@Nat.testBit_zero
abbrev RJ:=@Nat.and_le_right
abbrev RK:=@List.mem_reverse
abbrev RL:=@Nat.lt_succ_self
abbrev RM:=@Go.u32_and_nat
abbrev RN:=@Go.Lib.size_eq
abbrev RO:=@Go.leaves_cons
abbrev RP:=@Go.Proofs.Tryz.sizeOf4
abbrev RQ:=@Nat.testBit_lt_two_pow
abbrev RR:=@List.set_set
abbrev RS:=@List.length_take_of_le
abbrev RT:=@List.filter_filter
abbrev RU:=@decide_eq_true_iff
abbrev RV:=@List.getElem?_take
abbrev RW:=@Nat.testBit_shiftRight
abbrev RX:=@Nat.div_div_eq_div_mul
abbrev RY:=@List.mem_of_mem_eraseP
abbrev RZ:=@Bool.eq_iff_iff
abbrev R1:=@Go.Lib.toList_data
abbrev R3:=@Nat.not_lt_zero
abbrev R4:=@List.range_succ
abbrev R5:=@Nat.testBit_two_pow_sub_succ
abbrev R6:=@List.nodup_cons
abbrev R7:=@Nat.min_eq_left
abbrev R8:=@List.any_append
abbrev R9:=@List.contains_iff_mem
abbrev Sa:=@Go.Proofs.Tryz.isAgg4
abbrev Sb:=@Go.Maps.string_keyed
abbrev Sc:=@beq_iff_eq
abbrev Sd:=@List.mem_of_mem_drop
abbrev Se:=@List.exists_cons_of_ne_nil
abbrev Sf:=@Go.wp_loop_rounds
abbrev Sg:=@Go.Proofs.bits_and_u32_nat
abbrev Sh:=@getElem!_pos
abbrev Si:=@List.length_drop
abbrev Sj:=@List.filter_cons
abbrev Sk:=@Array.getElem?_eq_getElem
abbrev So:=@Go.wpIn_rangeFunc_ownF
abbrev Sq:=@Go.World.cell?_setCells_out
abbrev Sr:=@Bool.or_false
abbrev Ss:=@Go.Proofs.Tryz.zeroValue3
abbrev Su:=@List.filter_map
abbrev Sv:=@Go.Maps.atKey_put_other
abbrev Sw:=@Go.getD_set_ne
abbrev Sy:=@List.findIdx?_eq_some_iff_getElem
abbrev Sz:=@List.all_eq_false
abbrev SA:=@Nat.zero_mul
abbrev SB:=@List.getElem?_inj
abbrev SC:=@Go.Maps.atKey_put_same
abbrev SD:=@List.flatMap_singleton
abbrev SE:=@Nat.le_succ_of_le
abbrev SF:=@List.any_eq_false
abbrev SG:=@List.mem_set
abbrev SH:=@Nat.zero_testBit
abbrev SI:=@Nat.testBit_succ
abbrev SJ:=@List.all_cons
abbrev SK:=@Bool.false_or
abbrev SL:=@Go.callsIn_of_wp
abbrev SM:=@List.sum_cons
abbrev SN:=@Go.setRow_size
abbrev SO:=@Go.Lib.bitLenAux_bounds
abbrev SQ:=@Go.results_tmp
abbrev SR:=@List.getElem?_of_mem
abbrev SS:=@List.mem_append_left
abbrev SU:=@Go.rounds_succ
abbrev SW:=@Nat.div_le_div_right
abbrev SX:=@UInt8.toNat_inj
abbrev SY:=@Go.Proofs.Tryz.zeroValue5
abbrev SZ:=@List.prefix_append_right_inj
abbrev S1:=@List.zip_append
abbrev S2:=@List.length_reverse
abbrev S3:=@Go.run_enterLoop_outer
abbrev S4:=@List.map_congr_left
abbrev S5:=@Nat.pow_succ
abbrev S6:=@Go.Proofs.Tryz.sizeOf3
abbrev S7:=@Nat.succ_mul
abbrev S8:=@Bool.or_true
abbrev S9:=@Nat.add_zero
abbrev Ta:=@Go.Boxed.set
abbrev Tb:=@Nat.add_sub_cancel
abbrev Tc:=@Int.natCast_nonneg
abbrev Td:=@Go.u32_andNot_nat
abbrev Te:=@Go.World.ownsMap_made
abbrev Tf:=@Array.getElem?_append_left
abbrev Tg:=@List.prefix_append
abbrev Th:=@Option.toList_some
abbrev Ti:=@Go.ready_mono
abbrev Tj:=@Go.wpAnyH_take
abbrev Tl:=@Go.Proofs.Tryz.isAgg3
abbrev Tm:=@Go.ownFrom_keepsFrom
abbrev To:=@Go.KeepsOthers.alloc
abbrev Tp:=@Go.run_endLoop
abbrev Tq:=@Go.setRow_heap
abbrev Ts:=@Option.some.injEq
abbrev Tt:=@Nat.lt_succ_of_lt
abbrev Tu:=@Go.run_makeSlice
abbrev Tv:=@Go.plainElem_int
abbrev Tw:=@List.cons_append
abbrev Tx:=@Go.grownBy_setCell'
abbrev Ty:=@Go.wpIn_wide
abbrev Tz:=@Go.run_store
abbrev TA:=@Go.wpAny_take
abbrev TB:=@Nat.ne_of_lt
abbrev TC:=@Nat.le_of_lt
abbrev TD:=@List.prefix_rfl
abbrev TE:=@List.sum_append
abbrev TF:=@Option.map_some
abbrev TG:=@List.nil_append
abbrev TH:=@List.nodup_nil
abbrev TI:=@Nat.le_zero
abbrev TJ:=@Go.Lib.mk_data
abbrev TK:=@Go.wpOp_mono
abbrev TL:=@Go.mem_ready
open Tryz
variable {g B t id base size n i k s b off cap:Nat}{w' W W':World}{p:Tmp}{c:Int}{op o:Oper}{rest:List Oper}{fn:Func}{ty e:TypeId}{R:Ending->World->Prop}{l:List ()}{xs:List Value}{args:Array Value}
section
open Go.RowKit
variable {P:Program}
structure iF(g:Nat)(w w':World):Prop where
 os:w'.os=w.os
 tape:w'.tape=w.tape
 output:w'.output=w.output
 size:w'.heap.size=w.heap.size
 block:∀k,k≠g->w'.heap[k]?=w.heap[k]?
theorem iF.below{a w:World}(h:iF g w w')(hb:Below B a w)(hB:B<=g):Below B a w':=
 hb.trans ⟨h.os,h.tape,h.output,zbl,fun k hk=>h.block k zaa⟩
theorem iF.cell{w:World}(h:iF g w w'){p:Addr}(hp:p.block≠g):w'.cell? p=w.cell? p:=OO (w:=w) (h.block p.block hp)
theorem iA(w:World)(g:Nat)(cs:Array Value):iF g w (w.setRow g cs):=⟨rfl,rfl,rfl,SN w g cs,fun k hk=>Rc w g k cs hk⟩
theorem aa(w:World)(g o:Nat)(v:Value):iF g w (w.setCell (g,o) v):=⟨rfl,rfl,rfl,by simp[World.setCell],fun k hk=>O9 _ _ _ _ hk⟩
theorem iF.Lh{w:World}(h:iF g w.drew w'):iF g w w':=⟨h.os,h.tape,h.output,h.size,h.block⟩
theorem kZ{w:World}{c:Array Value}{t:TypeId}{fz:Nat×Nat}(hg:w.heap[g]?=some (.cells c t fz)):w.rangeAt g 0 c.toList:=by
 intro j v hj;rw[QC,OA w g j c t fz hg];simpa using hj
theorem zm{cells:Array Value}(h:cells.toList.all (·.oneCell')=true):cells.all (·.oneCell')=true:=by
 rw[Rz];intro v hv;exact Ro.1 h v (by simpa using hv)
theorem lx{a:Act}{w:World}{K:Act->World->Prop}{Q:Exit->Act->World->Prop}(ty:TypeId)(x y:Operand)(ho:op.op=.store ty x y)
  (g:Nat) (t:TypeId) (c cells:Array Value) (hx:a.eval x=.pointer (some ⟨g,0,none⟩)) (hy:a.eval y=.agg cells)
  (hg:w.heap[g]?=some (.cells c t (0,0))) (hi:(P.info? ty).map (·.size)=some cells.size) (hs:c.size=cells.size) (h1:cells.toList.all (·.oneCell')=true)
  (h:K (a.put op.dst undef) (w.setRow g cells)):op.wp P a w K Q:=by
 unfold Oper.wp execOp;simp only[ho,hx,hy,Instr.storeAt,Instr.sureAddr,Sem.run_bind,Sem.run_pure,Result.andThen_ok,run_storeVar_row w g t ty c cells hg hi hs (zm h1)];exact h
theorem fs{ops:Array Oper}{a:Act}{w:World}{Q:Exit->Act->World->Prop}(hgd:op.guard=none)(ty:TypeId)(x y:Operand)(ho:op.op=.store ty x y)
  (g:Nat) (t:TypeId) (c cells:Array Value) (hx:a.eval x=.pointer (some ⟨g,0,none⟩)) (hy:a.eval y=.agg cells)
  (hg:w.heap[g]?=some (.cells c t (0,0))) (hi:(P.info? ty).map (·.size)=some cells.size) (hs:c.size=cells.size) (h1:cells.toList.all (·.oneCell')=true)
  (h:wpList P ops Q rest (a.put op.dst undef) (w.setRow g cells)):wpList P ops Q (op::rest) a w:=
 wpList_plain hgd fun _ hK=>lx ty x y ho g t c cells hx hy hg hi hs h1 (hK _ _ h)
theorem aJ{ops:Array Oper}{a:Act}{w:World}{Q:Exit->Act->World->Prop}(hgd:op.guard=none)(ty:TypeId)(x y:Operand)(ho:op.op=.store ty x y)
  (t:TypeId) (c cells:Array Value) (hx:a.eval x=.pointer (some ⟨w,0,none⟩)) (hy:a.eval y=.agg cells)
  (hi:(P.info? ty).map (·.size)=some cells.size) (hs:c.size=cells.size) (h1:cells.toList.all (·.oneCell')=true)
  (h:wpList P ops Q rest (a.put op.dst undef) (w.alloc (.cells cells t))):wpList P ops Q (op::rest) a (w.alloc (.cells c t)):=
 fs hgd ty x y ho w t c cells hx hy (OH w _) hi hs h1 (by rw[World.setRow_alloc_new];exact h)
theorem iT(h:fn.results=#[.cell p ty])(tmps:Array Value)(P:Program)(w:World):
  (results fn tmps).run P w=((asAddr (tmps.getD p undef)).run P w).andThen fun a w₁=>(loadVar ty a).run P w₁:=by
 simp only[results,h];simp[Sem.run_bind,Result.andThen]
theorem ee{a:Act}{w:World}(h:fn.results=#[.cell p ty])(g:Nat)(t:TypeId)(c:Array Value)(fz:Nat×Nat)(d:TypeDesc)
  (hp:a.tmps.getD p undef=.pointer (some ⟨g,0,none⟩)) (hg:w.heap[g]?=some (.cells c t fz)) (hu:P.underlying ty=some d) (hd:d.isRow=true) (hi:(P.info? ty).map (·.size)=some c.size)
  (hdf:a.defers=[]) (hR:R (.returned (.agg c)) w):bodyPost P fn R .ret a w:=by
 refine Qb (v:=.agg c) ?_ hdf hR;rw[iT h,hp];have:=run_loadVar_mid (P:=P) w g 0 ty c.toList d (kZ hg) hu hd za4;simpa[asAddr] using this
theorem fa{Q:Exit->Act->World->Prop}{a:Act}{w:World}{l:List Oper}(n:Nat)(hm:P.follows .mixedOrders=true)(hB:Region.lexTailB .any l.toArray n=true)
  (h:wpStill P l.toArray w.drew (fun a'=>wpList P l.toArray Q (l.drop n) a' w.drew) (l.take n) a):(Code.region id l.toArray true).wp P Q a w:=
 wp_region_still_tail n hm hB h
theorem aC{base':Nat}{v:Value}{w:World}(h:w.ownsRow base e size v n xs)(hb:base'<=base):w.ownsRow base' e size v n xs:=by
 refine⟨h.1,?_⟩
 rcases h.2 with h'|⟨k,cap,cur,hv,hb',r⟩
 ·exact .inl h'
 ·exact .inr ⟨k,cap,cur,hv,zaa,r⟩
theorem bU(w:World)(o p:Obj):((w.alloc o).alloc p).heap[w.heap.size+1]?=some p:=by
 have:=OH (w.alloc o) p
 rwa [Py]at this
theorem fk(w:World)(o p:Obj):((w.alloc o).alloc p).heap[w.heap.size]?=some o:=by
 rw[Pz _ _ _ zad];exact OH w o
theorem eh{P:Program}{md:Region.Mode}{ops:Array Oper}{Q:Exit->Act->World->Prop}{S:World->Prop}{oi:Oper}{v:Value}{d:Option Tmp}{fuel:Nat}{listed:Array Bool}{a:Act}{w:World}(hi:ops[i]?=some oi)(hd:oi.dst=d)
  (hs:Region.noSelect ops=true) (hf:Region.free md ops listed i=true) (hr:(Region.ready md ops listed).contains i=true)
  (hQ:∀c a w,Q (.panic c) (a.put d v) w->Q (.panic c) a w) (hy:YieldsIf P ops S oi v a) (hS:S w)
  (h:wpAnyH P md ops Q S fuel (listed.setIfInBounds i true) (a.put d v) w):wpAnyH P md ops Q S (fuel+1) listed a w:=by
 subst hd;exact Tj hi hs hf hr hQ hy hS h
section
variable {P:Program}{md:Region.Mode}{ops:Array Oper}{Q:Exit->Act->World->Prop}{S:World->Prop}{oi:Oper}{fuel:Nat}{listed:Array Bool}{a:Act}{w:World}
theorem tH(i:Nat)(v:Value)(hi:ops[i]?=some oi)(hS:S w)(h:wpAnyH P md ops Q S fuel (listed.setIfInBounds i true) (a.put oi.dst v) w)(hs:Region.noSelect ops=true:=by kernel_rfl)(hf:Region.free md ops listed i=true:=by kernel_rfl)(hr:(Region.ready md ops listed).contains i=true:=by kernel_rfl)(hQ:∀c a w,Q (.panic c) (a.put oi.dst v) w->Q (.panic c) a w:=by exact fun _ _ _ h=>h)(hy:YieldsIf P ops S oi v a:=by exact Or.inl ⟨zaf,fun w UL=>zai⟩):wpAnyH P md ops Q S (fuel+1) listed a w:=Tj hi hs hf hr hQ hy hS h
theorem tG(i:Nat)(v:Value)(hi:ops[i]?=some oi)(hS:S w)(h:wpAnyH P md ops Q S fuel (listed.setIfInBounds i true) (a.put oi.dst v) w)(hs:Region.noSelect ops=true:=by kernel_rfl)(hf:Region.free md ops listed i=true:=by kernel_rfl)(hr:(Region.ready md ops listed).contains i=true:=by kernel_rfl)(hQ:∀c a w,Q (.panic c) (a.put oi.dst v) w->Q (.panic c) a w:=by exact fun _ _ _ h=>h)(hy:YieldsIf P ops S oi v a:=by exact Or.inl ⟨zab,fun w UL=>zai⟩):wpAnyH P md ops Q S (fuel+1) listed a w:=Tj hi hs hf hr hQ hy hS h
theorem tD(d:Option Tmp)(i:Nat)(v:Value)(hi:ops[i]?=some oi)(hS:S w)(h:wpAnyH P md ops Q S fuel (listed.setIfInBounds i true) (a.put d v) w)(hd:oi.dst=d:=by rfl)(hs:Region.noSelect ops=true:=by kernel_rfl)(hf:Region.free md ops listed i=true:=by kernel_rfl)(hr:(Region.ready md ops listed).contains i=true:=by kernel_rfl)(hQ:∀c a w,Q (.panic c) (a.put d v) w->Q (.panic c) a w:=by exact fun _ _ _ h=>h)(hy:YieldsIf P ops S oi v a:=by exact Or.inl ⟨zaf,fun w UL=>zai⟩):wpAnyH P md ops Q S (fuel+1) listed a w:=eh hi hd hs hf hr hQ hy hS h
theorem tU(d:Option Tmp)(i:Nat)(hi:ops[i]?=some oi)(hS:S w)(h:wpAnyH P md ops Q S fuel (listed.setIfInBounds i true) (a.put d undef) w)(hd:oi.dst=d:=by rfl)(hs:Region.noSelect ops=true:=by kernel_rfl)(hf:Region.free md ops listed i=true:=by kernel_rfl)(hr:(Region.ready md ops listed).contains i=true:=by kernel_rfl)(hQ:∀c a w,Q (.panic c) (a.put d undef) w->Q (.panic c) a w:=by exact fun _ _ _ h=>h)(hy:YieldsIf P ops S oi undef a:=by exact Or.inr ⟨zab,rfl⟩):wpAnyH P md ops Q S (fuel+1) listed a w:=eh hi hd hs hf hr hQ hy hS h
theorem tA(i:Nat)(v:Value)(hi:ops[i]?=some oi)(h:wpAny P md ops Q fuel (listed.setIfInBounds i true) (a.put oi.dst v) w)(hs:Region.noSelect ops=true:=by kernel_rfl)(hf:Region.free md ops listed i=true:=by kernel_rfl)(hr:(Region.ready md ops listed).contains i=true:=by kernel_rfl)(hQ:∀c a w,Q (.panic c) (a.put oi.dst v) w->Q (.panic c) a w:=by exact fun _ _ _ h=>h)(hy:Yields P ops oi v a:=by exact Or.inl ⟨zaf,fun w=>by go_simp⟩):wpAny P md ops Q (fuel+1) listed a w:=TA hi hs hf hr hQ hy h
theorem yH(rs:List Nat)(h:AllReadyH P md ops Q S fuel listed a w rs)(hr:Region.ready md ops listed=rs:=by kernel_rfl)(TU:rs≠[]:=by simp):wpAnyH P md ops Q S (fuel+1) listed a w:=wpAnyH_ready hr TU h
theorem zH(i:Nat)(ho:ops[i]?=some oi)(h:∀K':Act->World->Prop,Shut (∀a w,S w->(S w->wpAnyH P md ops Q S fuel (listed.setIfInBounds i true) a w)->K' a w)->if Region.wanted oi (yielded ops a.tmps)=true then Oper.wp P oi a w K' Q else K' (a.put oi.dst undef) w)(hr:Region.ready md ops listed=[i]:=by kernel_rfl):wpAnyH P md ops Q S (fuel+1) listed a w:=wpAnyH_ready hr zad (Pb ho h P1)
theorem yA(rs:List Nat)(h:AllReady P md ops Q fuel listed a w rs)(hr:Region.ready md ops listed=rs:=by kernel_rfl)(TU:rs≠[]:=by simp):wpAny P md ops Q (fuel+1) listed a w:=wpAny_ready hr TU h
theorem zA(i:Nat)(ho:ops[i]?=some oi)(h:∀K':Act->World->Prop,(∀a w,wpAny P md ops Q fuel (listed.setIfInBounds i true) a w->K' a w)->if Region.wanted oi (yielded ops a.tmps)=true then Oper.wp P oi a w K' Q else K' (a.put oi.dst undef) w)(hr:Region.ready md ops listed=[i]:=by kernel_rfl):wpAny P md ops Q (fuel+1) listed a w:=wpAny_ready hr zad (OC ho h OX)
end
end
section
open Go.RowKit
open Go.PlainAid (bt get_bt bt_nonneg bt_le bt_end)
namespace U
theorem DR(a b:()):(a.toList == b.toList)=decide (a=b):=by
 rw[RZ];simp only[beq_iff_eq,decide_eq_true_eq,Lib.toList_data];constructor
 ·intro h;cases a;cases b
  simp only at h
  congr 1
  exact Array.ext' h
 ·intro h;rw[h]
def cI(s t:()):Bool:=decide (t.size<=s.size)&&decide (s.extract 0 t.size=t)
def fQ(a b:Int):Int:=if a=0\/b<a then b else a
def small(x:Int):Bool:=decide (97<=x)&&decide (x<=122)
def more(x:Int):Bool:=decide (x=95)||(decide (48<=x)&&decide (x<=57))
def jr(s:())(i:Nat):Bool:=small (bt s i)||(decide (i≠0)&&more (bt s i))
def plain(s:()):Bool:=(List.range s.size).all (jr s)&&(decide (0<s.size)&&decide (s.size<=8))
theorem EF{p:Nat->Bool}(h:∀j,j<n->p j=true):(List.range n).all p=true:=by
 rw[Ro];intro x hx;exact h x (PD.1 hx)
theorem uS{p:Nat->Bool}(hk:k<n)(h:p k=false):(List.range n).all p=false:=by
 rw[Sz];exact⟨k,PD.2 hk,by simp[h]⟩
theorem wk(s:()):jr s 0=small (bt s 0):=by simp[jr]
theorem yz{s:()}(h:Hid (∀j,j<k->jr s j=true))(hk:jr s k=true):∀j,j<k+1->jr s j=true:=by
 intro j hj;by_cases e:j=k
 ·rw[e];exact hk
 ·exact h.out j zaa
def dec(n:Nat):():=⟨(Lib.decDigits n).toArray⟩
theorem vF(h:n<10):dec n=⟨#[UInt8.ofNat (48+n)]⟩:=by
 unfold dec;rw[Lib.decDigits_one h]
theorem Kl(h:¬n<10):dec n=dec (n / 10)++⟨#[UInt8.ofNat (48+n % 10)]⟩:=by
 unfold dec
 conv=>lhs;rw[Lib.decDigits,dif_neg h]
 apply ByteArray.ext
 simp
theorem zK:∀(k n:Nat),n<10 ^ (k+1)->(dec n).size<=k+1
 |0,n,h=>by rw[vF zaC];exact Ow 1
 |k+1,n,h=>by
  by_cases h9:n<10
  ·rw[vF h9];exact Nat.le_add_left 1 (k+1)
  ·rw[Kl h9,Re];have:=zK k (n / 10) (by rw[S5]at h;omega);have e:(ByteArray.mk #[UInt8.ofNat (48+n % 10)]).size=1:=rfl;omega
theorem sA(h:n<=18446744073709551615):(dec n).size<=20:=zK 19 n zaa
def kf(x:Int):Bool:=decide (48<=x)&&decide (x<=57)
def val(s:()):Nat->Nat
 |0=>0
 |k+1=>val s k*10+((bt s k).toNat-48)
def m64(n:Nat):Int:=IntKind.u64.wrap n
def FG:():=⟨#[49,56,52,52,54,55,52,52,48,55,51,55,48,57,53,53,49,54,49,53]⟩
def sg(s:()):Bool:=s.toList.isEmpty||(decide (1<s.size)&&decide (bt s 0=48))||decide (20<s.size)||(decide (s.size=20)&&(!Op.bytesLess s.toList FG.toList&&!(s.toList == FG.toList)))
def cJ(s:()):Bool:=(List.range s.size).all (fun i=>kf (bt s i))&&!sg s
theorem isEmpty_eq(s:()):s.toList.isEmpty=decide (s.size=0):=by
 rw[R1,RZ,Rp,RA];exact⟨fun h=>by show s.data.size=0;rw[<- Array.length_toList,h];rfl,fun h=>QI (by rw[Array.length_toList];exact h)⟩
def et(s:()):Int:=if cJ s then m64 (val s s.size) else 0
end U
namespace Num
def isD(c:UInt8):Bool:=decide (48<=c.toNat)&&decide (c.toNat<=57)
def num(acc:Nat)(l:List UInt8):Nat:=l.foldl (fun a c=>a*10+(c.toNat-48)) acc
theorem ml(acc:Nat)(c:UInt8)(r:List UInt8):num acc (c::r)=num (acc*10+(c.toNat-48)) r:=by unfold num;rw[QB]
theorem Na(l:List UInt8):∀acc:Nat,acc<=num acc l:=by
 induction l with
 |nil=>exact fun acc=>Ow _
 |cons c r ih=>
  intro acc;have h1:=ih (acc*10+(c.toNat-48));rw[ml];exact Ox (Ox (Nat.le_mul_of_pos_right acc zac) (RG _ _)) h1
theorem o6:∀(l:List UInt8) (acc:Nat),l.all isD=true->acc<=18446744073709551615->Lib.parseUintM 18446744073709551615 acc l=if num acc l<=18446744073709551615 then .ok (num acc l) else .range
 |[],acc,_,h=>by rw[Lib.parseUintM,OD (show num acc []<=_ from h)];rfl
 |c::r,acc,hd,h=>by
  rw[SJ,O2]at hd;have hc:48<=c.toNat/\c.toNat<=57:=zb1;have hg:=Na r (acc*10+(c.toNat-48));rw[Lib.parseUintM,OD hc,ml];by_cases h1:1844674407370955162<=acc
  ·rw[OD h1,OB zaa]
  ·rw[OB h1];by_cases h2:18446744073709551615<acc*10+(c.toNat-48)
   ·rw[OD h2,OB zaa]
   ·rw[OB h2,o6 r _ hd.2 zaa]
theorem AI{M u:Nat}:∀(l:List UInt8) (acc:Nat),Lib.parseUintM M acc l=.ok u->l.all isD=true
 |[],_,_=>rfl
 |c::r,acc,h=>by
  rw[Lib.parseUintM]at h;by_cases hc:48<=c.toNat/\c.toNat<=57
  ·rw[OD hc]at h;split at h
   ·cases h
   ·split at h
    ·cases h
    ·rw[SJ,AI r _ h,Bool.and_true];simp[isD,hc]
  ·rw[OB hc]at h;cases h
theorem yv:∀(l:List UInt8) (acc:Nat),num acc l=acc*10 ^ l.length+num 0 l
 |[],acc=>by simp[num]
 |c::r,acc=>by
  rw[ml,ml,yv r (acc*10+(c.toNat-48)),yv r (0*10+(c.toNat-48)),PR,S5,Nat.add_mul,SA,QC,Nat.mul_assoc,Nat.mul_comm 10 (10 ^ r.length),PJ]
theorem oW(c:UInt8)(r:List UInt8):num 0 (c::r)=(c.toNat-48)*10 ^ r.length+num 0 r:=by
 rw[ml,yv,SA,QC]
theorem yw:∀l:List UInt8,l.all isD=true->num 0 l<10 ^ l.length
 |[],_=>by decide
 |c::r,hd=>by
  rw[SJ,O2]at hd;have hc:48<=c.toNat/\c.toNat<=57:=zb1;have ih:=yw r hd.2;rw[oW,PR,S5];have h9:(c.toNat-48)*10 ^ r.length<=9*10 ^ r.length:=Q7 _ zaa;omega
theorem Eb:∀a b:List UInt8,a.all isD=true->b.all isD=true->a.length=b.length->(num 0 a<num 0 b↔Op.bytesLess a b=true)/\(num 0 a=num 0 b↔a=b)
 |[],[],_,_,_=>⟨by simp[num,Op.bytesLess],zad⟩
 |[],_::_,_,_,h=>by simp at h
 |_::_,[],_,_,h=>by simp at h
 |x::p,y::q,ha,hb,h=>by
  rw[SJ,O2]at ha hb;have hx:48<=x.toNat/\x.toNat<=57:=by simpa[isD] using ha.1
  have hy:48<=y.toNat/\y.toNat<=57:=by simpa[isD] using hb.1
  have hl:p.length=q.length:=zaC;have ih:=Eb p q ha.2 hb.2 hl;have lp:=yw p ha.2;have lq:=yw q hb.2;rw[oW,oW,<- hl];rw[<- hl]at lq
  rcases RB x.toNat y.toNat with h1|h1|h1
  ·have hm:(x.toNat-48+1)*10 ^ p.length<=(y.toNat-48)*10 ^ p.length:=Q7 _ zaa;rw[Nat.add_mul,Nat.one_mul]at hm;have TX:x<y:=UInt8.lt_iff_toNat_lt.2 h1;refine⟨⟨fun _=>by simp[Op.bytesLess,TX],fun _=>zaa⟩,⟨fun e=>zaa,fun e=>?_⟩⟩;cases e;omega
  ·have hxy:x=y:=SX.1 h1;subst hxy;refine⟨⟨fun e=>?_,fun e=>?_⟩,⟨fun e=>?_,fun e=>?_⟩⟩
   ·have:=ih.1.1 zaa;simp[Op.bytesLess,this]
   ·have:Op.bytesLess p q=true:=by simpa[Op.bytesLess] using e
    have:=ih.1.2 this;omega
   ·rw[ih.2.1 zaa]
   ·cases e;rfl
  ·have hm:(y.toNat-48+1)*10 ^ p.length<=(x.toNat-48)*10 ^ p.length:=Q7 _ zaa;rw[Nat.add_mul,Nat.one_mul]at hm;have TX:¬x<y:=fun h=>by have:=UInt8.lt_iff_toNat_lt.1 h;omega
   have TU:¬x=y:=fun e=>by rw[e]at h1;omega
   refine⟨⟨fun e=>zaa,fun e=>?_⟩,⟨fun e=>zaa,fun e=>?_⟩⟩
   ·simp[Op.bytesLess,TX,TU]at e
   ·cases e;omega
theorem xB{s:()}(h:k<s.data.toList.length):bt s k=((s.data.toList[k]).toNat:Int):=by
 have h':k<s.size:=zaC;rw[<- get_bt s k h'];rfl
theorem vI(s:()):(List.range s.size).all (fun i=>U.kf (bt s i))=s.data.toList.all isD:=by
 rw[RZ,Ro,Ro];have T6:s.size=s.data.toList.length:=zad;constructor
 ·intro h c hc;obtain⟨k,hk,rfl⟩:=List.mem_iff_getElem.1 hc;have:=h k (PD.2 zaa);rw[xB hk]at this;simp only[U.kf,Bool.and_eq_true,decide_eq_true_eq]at this;simp only[isD,Bool.and_eq_true,decide_eq_true_eq];omega
 ·intro h i hi;rw[PD]at hi;have hk:i<s.data.toList.length:=zaa;have:=h _ (Pl hk);rw[xB hk];simp only[isD,Bool.and_eq_true,decide_eq_true_eq]at this;simp only[U.kf,Bool.and_eq_true,decide_eq_true_eq];omega
theorem JI(s:()):∀k,k<=s.size->U.val s k=num 0 (s.data.toList.take k)
 |0,_=>rfl
 |k+1,h=>by
  have T6:s.size=s.data.toList.length:=zad;have hk:k<s.data.toList.length:=zaa;rw[U.val,JI s k zaa,List.take_succ_eq_append_getElem hk,xB hk];unfold num;rw[Px];simp
theorem LW(s:()):U.val s s.size=num 0 s.data.toList:=by
 rw[JI s s.size (Ow _)]
 congr 1
 exact List.take_of_length_le zad
theorem CP{l:List UInt8}(hd:l.all isD=true)(hl:1<l.length)(h0:∀c,l.head?=some c->¬c.toNat=48):10 ^ (l.length-1)<=num 0 l:=by
 cases l with
 |nil=>simp at hl
 |cons c r=>
  rw[SJ,O2]at hd;have hc:48<=c.toNat/\c.toNat<=57:=zb1;have:=h0 c rfl;rw[oW,PR,Tb];have hm:1*10 ^ r.length<=(c.toNat-48)*10 ^ r.length:=Q7 _ zaa;omega
theorem IJ:num 0 U.FG.data.toList=18446744073709551615:=zac
theorem IQ(s:())(h:¬(1<s.size/\bt s 0=48)):(∀u,Lib.parseUintB 64 s.data.toList=.ok u->U.cJ s=true/\U.et s=(u:Nat))/\((∀u,Lib.parseUintB 64 s.data.toList≠.ok u)->U.cJ s=false):=by
 have T6:s.size=s.data.toList.length:=zad;have hlist:s.toList=s.data.toList:=R1 s;by_cases hd:s.data.toList.all isD=true
 ·by_cases he:s.size=0
  ·have YO:s.data.toList=[]:=QI zaa;refine⟨fun u hu=>?_,fun _=>?_⟩
   ·rw[Lib.parseUintB,OD YO]at hu;cases hu
   ·rw[U.cJ,U.sg,U.isEmpty_eq,Pe he,Rg,Rg,Rg,Bool.not_true,Qj]
  ·have TU:¬s.data.toList=[]:=fun e=>he (by rw[T6,e];rfl);have hp:Lib.parseUintB 64 s.data.toList=if num 0 s.data.toList<=18446744073709551615 then .ok (num 0 s.data.toList) else .range:=by
    rw[Lib.parseUintB,OB TU];exact o6 _ 0 hd zac
   have Vb:U.sg s=decide (18446744073709551615<num 0 s.data.toList):=by
    rw[U.sg,U.isEmpty_eq,Pc he,SK];have h1:(decide (1<s.size)&&decide (bt s 0=48))=false:=by
     rw[Bool.and_eq_false_iff];by_cases h1:1<s.size
     ·exact .inr (Pc fun h2=>h ⟨h1,h2⟩)
     ·exact .inl (Pc h1)
    rw[h1,SK]
    rcases RB s.size 20 with h2|h2|h2
    ·rw[Pc (show ¬20<s.size by omega),Pc (show ¬s.size=20 by omega),QR,SK]
     symm
     apply Pc
     have:=yw _ hd;have hpw:(10:Nat) ^ s.data.toList.length<=10 ^ 19:=PX zac zaa;have:(10:Nat) ^ 19=10000000000000000000:=zac;omega
    ·rw[Pc (show ¬20<s.size by omega),Pe h2,Rn,SK,hlist,R1 U.FG];have hx:=Eb s.data.toList U.FG.data.toList hd zac (by rw[<- T6,h2];rfl);rw[IJ]at hx;rw[RZ,O2,RA,QS,QS];constructor
     ·rintro⟨ha,hb⟩;have h3:¬num 0 s.data.toList<18446744073709551615:=fun e=>by rw[hx.1.1 e]at ha;cases ha
      have h4:¬num 0 s.data.toList=18446744073709551615:=fun e=>by rw[hx.2.1 e]at hb;simp at hb
      omega
     ·intro TX;constructor
      ·cases hb:Op.bytesLess s.data.toList U.FG.data.toList with
       |false=>rfl
       |true=>have:=hx.1.2 hb;omega
      ·rw[P5];intro e;have:=hx.2.2 e;omega
    ·rw[Pe h2,Rg]
     symm
     apply Pe
     have hh:∀c,s.data.toList.head?=some c->¬c.toNat=48:=by
      intro c hc e;refine h ⟨zaa,?_⟩;have hk:0<s.data.toList.length:=zaa;rw[xB hk];rw[List.head?_eq_getElem?,Ou hk]at hc;cases hc
      omega
     have h3:=CP hd zaa hh;have hpw:(10:Nat) ^ 20<=10 ^ (s.data.toList.length-1):=PX zac zaa;have:(10:Nat) ^ 20=100000000000000000000:=zac;omega
   have Uw:U.cJ s=!decide (18446744073709551615<num 0 s.data.toList):=by rw[U.cJ,vI,hd,Vb,Rn]
   refine⟨fun u hu=>?_,fun hu=>?_⟩
   ·rw[hp]at hu;by_cases hle:num 0 s.data.toList<=18446744073709551615
    ·rw[OD hle]at hu;cases hu
     have h1:U.cJ s=true:=by rw[Uw,Pc zaa];rfl
     refine⟨h1,?_⟩;rw[U.et,h1,OD rfl,LW,U.m64,RH];omega
    ·rw[OB hle]at hu;cases hu
   ·rw[Uw];by_cases hle:num 0 s.data.toList<=18446744073709551615
    ·exact absurd (by rw[hp,OD hle]) (hu (num 0 s.data.toList))
    ·rw[Pe zaa];rfl
 ·have hf:U.cJ s=false:=by rw[U.cJ,vI,Q8.2 hd,QR]
  refine⟨fun u hu=>?_,fun _=>hf⟩;exfalso;rw[Lib.parseUintB]at hu;split at hu
  ·cases hu
  ·exact hd (AI _ _ hu)
end Num
end
section
open Go.RowKit Go.Proofs Go.Shelf
def Ar:Go.Shelf.Ren:=⟨fun|128=>259|n=>n,fun|51=>106|3=>3|4=>4|46=>378|5=>5|9=>9|n=>n,fun|n=>n⟩
theorem KR:Go.Proofs.Lays.n128 prog Ar:={
 mixed:=zab
 f128:=Tryz.func259.trans (congrArg some zab)
 t3:=underlying3
 a3:=Tl
 z3:=S6
 v3:=Ss
 t4:=underlying4
 a4:=Sa
 z4:=RP
 v4:=Q9
 t5:=underlying5
 a5:=Tryz.isAgg5
 z5:=Tryz.sizeOf5
 v5:=SY
 t9:=underlying9
 a9:=Tryz.isAgg9
 z9:=Tryz.sizeOf9
 v9:=Tryz.zeroValue9
 t46:=underlying378
 a46:=isAgg378
 z46:=sizeOf378
 v46:=zeroValue378
 t51:=underlying106
 a51:=Tryz.isAgg106
 z51:=Tryz.sizeOf106
 v51:=Tryz.zeroValue106 }
def yb:Go.Shelf.Ren:=⟨fun|28=>149|n=>n,fun|27=>106|3=>3|4=>4|25=>378|53=>377|0=>0|5=>5|n=>n,fun|0=>1|n=>n⟩
theorem Is:Go.Proofs.Lays7.n28 prog yb:={
 mixed:=zab
 f28:=Tryz.func149.trans (congrArg some zab)
 t0:=underlying0
 a0:=Tryz.isAgg0
 z0:=Tryz.sizeOf0
 v0:=Tryz.zeroValue0
 i0:=zab
 t3:=underlying3
 a3:=Tl
 z3:=S6
 v3:=Ss
 i3:=zab
 t4:=underlying4
 a4:=Sa
 z4:=RP
 v4:=Q9
 i4:=zab
 t5:=underlying5
 a5:=Tryz.isAgg5
 z5:=Tryz.sizeOf5
 v5:=SY
 i5:=zab
 t25:=underlying378
 a25:=isAgg378
 z25:=sizeOf378
 v25:=zeroValue378
 i25:=zab
 t27:=underlying106
 a27:=Tryz.isAgg106
 z27:=Tryz.sizeOf106
 v27:=Tryz.zeroValue106
 i27:=zab
 t53:=underlying377
 a53:=isAgg377
 z53:=sizeOf377
 v53:=zeroValue377
 i53:=zab
 g0:=by kernel_rfl }
theorem gI(hi:i<32):(2:Nat) ^ i<4294967296:=by
 have:=QM (a:=2) zac hi;omega
theorem jH(i:Nat):(2:Int) ^ i=((2 ^ i:Nat):Int):=(Int.natCast_pow 2 i).symm
theorem LQ(hi:i<32):(2:Int) ^ i % 4294967296=((2 ^ i:Nat):Int):=by
 rw[jH];exact Int.emod_eq_of_lt (Tc _) (by have:=gI hi;exact Int.ofNat_lt.2 this)
theorem iR(i:Nat)(w:World)(hi:i<32):() 99 #[(i:Int)] w fun e w'=>e=.returned (.int .u32 ((2 ^ i:Nat):Int))/\w'=w:=by
 have e:=LQ hi;go_enter func99,ntmps99;go_wp2;rw[e];exact zfM
theorem J0(s i:Nat):((s&&&2 ^ i:Nat) != 0)=s.testBit i:=by
 cases h:s.testBit i
 ·have:s&&&2 ^ i=0:=by
   apply Nat.eq_of_testBit_eq
   intro j;rw[Ry,QG,SH];by_cases hj:i=j
   ·subst hj;rw[h];rfl
   ·simp[hj]
  rw[this];rfl
 ·have h1:(s&&&2 ^ i).testBit i=true:=by rw[Ry,QG,h];simp
  rw[bne_iff_ne];intro h0;rw[h0,SH]at h1;exact absurd h1 zac
theorem GM(hi:i<32)(hs:s<4294967296):(bits BinOp.and IntKind.u32 (s:Int) ((2:Int) ^ i) != 0)=s.testBit i:=by
 rw[jH,Sg s _ hs (gI hi),<- J0];cases h:(s&&&2 ^ i)
 ·rfl
 ·simp;omega
theorem xP(s:Nat)(i:Nat)(w:World)(hi:i<32)(hs:s<4294967296):() 203 #[.int .u32 s,(i:Int)] w fun e w'=>e=.returned (.bool (s.testBit i))/\w'=w:=by
 have e:=GM hi hs;go_enter func203,ntmps203;go_wp2_with(go_at_call 99;refine(iR i _ hi).mono ?_;rintro e w9 ⟨rfl,Pg⟩;rw[Pg];clear Pg w9);exact zfM
theorem Ir(s:Nat)(w:World)(hs:s<4294967296):() 235 #[.int .u32 s] w fun e w'=>e=.returned (.int .i64 ((Lib.bitLen s:Int)-1))/\w'=w:=by
 have hb:=Lib.bitLen_le s 32 zac zaa;go_enter func235,ntmps235;go_wp2_with(go_at_call 259;refine(Any.bits_Len32 KR s _ zaa zaa).mono ?_;rintro e w9 ⟨rfl,Pg⟩;rw[Pg];clear Pg w9);exact zfM
theorem Ns(s:Nat)(w:World)(hs:s<4294967296)(hT:TabAt 1 Lib.deBruijn32tab w):() 149 #[.int .u32 s] w fun e w'=>e=.returned (.int .i64 (Lib.ctz 32 s))/\w'=w:=
 Any7.bits_TrailingZeros32 Is s hs w fun _=>hT
namespace Y
def els(s:Nat):List Nat:=(List.range 32).filter s.testBit
theorem cC:i∈els s↔i<32/\s.testBit i=true:=by
 unfold els;rw[P3,PD]
theorem kL{p q:Nat->Bool}{k:Nat}(hp:p k=true)(TX:∀j,j<k->p j=false)(hq:∀j,q j=(p j&&decide (j≠k))):∀n,k<n->(List.range n).filter p=k::(List.range n).filter q
 |0,h=>absurd h (R3 _)
 |n+1,h=>by
  rw[R4,Qg,Qg];by_cases hk:k<n
  ·rw[kL hp TX hq n hk,Tw];have:q n=p n:=by rw[hq];simp;omega
   simp only[List.filter_cons,List.filter_nil,this]
  ·have UC:k=n:=zaa;subst UC;have e1:(List.range k).filter p=[]:=by
    rw[QT];intro a ha;rw[TX a (PD.1 ha)];decide
   have e2:(List.range k).filter q=[]:=by
    rw[QT];intro a ha;rw[hq,TX a (PD.1 ha)];simp
   have e3:q k=false:=by rw[hq];simp
   rw[e1,e2];simp[hp,e3]
theorem qF{p q:Nat->Bool}{k:Nat}(hp:p k=true)(Zz:∀j,k<j->p j=false)(hq:∀j,q j=(p j&&decide (j≠k))):∀n,k<n->(List.range n).filter p=(List.range n).filter q++[k]
 |0,h=>absurd h (R3 _)
 |n+1,h=>by
  rw[R4,Qg,Qg];by_cases hk:k<n
  ·rw[qF hp Zz hq n hk];have e1:p n=false:=Zz n hk;have e2:q n=false:=by rw[hq,e1];rfl
   simp[e1,e2]
  ·have UC:k=n:=zaa;subst UC;have e3:q k=false:=by rw[hq];simp
   have e4:(List.range k).filter p=(List.range k).filter q:=by
    apply QU
    intro a ha;have:=PD.1 ha;rw[hq];simp;omega
   rw[e4];simp[hp,e3]
theorem lR:els 0=[]:=zaU
theorem ID(h0:s≠0)(hs:s<4294967296):Lib.ctz 32 s<32/\s.testBit (Lib.ctz 32 s)=true/\(∀j,j<Lib.ctz 32 s->s.testBit j=false)/\∀j,(s&&&(s-1)).testBit j=(s.testBit j&&decide (j≠Lib.ctz 32 s)):=by
 obtain⟨m,hm,hk⟩:=Lib.ctzFrom_spec 32 s (Nat.pos_of_ne_zero h0) hs;have he:Lib.ctz 32 s=Lib.ctzFrom 32 s:=by unfold Lib.ctz;rw[OB h0]
 rw[he];generalize Lib.ctzFrom 32 s=k at hm hk;exact zcT
theorem E8(h0:s≠0)(hs:s<4294967296):els s=Lib.ctz 32 s::els (s&&&(s-1)):=by
 obtain⟨a,b,c,d⟩:=ID h0 hs;exact kL b c d 32 a
theorem mN(h0:s≠0)(hs:s<4294967296):1<=Lib.bitLen s/\Lib.bitLen s-1<32/\s.testBit (Lib.bitLen s-1)=true/\(∀j,Lib.bitLen s-1<j->s.testBit j=false)/\∀j,(s&&&(4294967295-2 ^ (Lib.bitLen s-1))).testBit j=(s.testBit j&&decide (j≠Lib.bitLen s-1)):=by
 have hb:=Lib.bitLen_le s 32 zac zaa;obtain⟨a,b,c⟩:=SO 64 s zaa h0;have he:Lib.bitLenAux 64 s=Lib.bitLen s:=rfl;rw[he]at a b c;generalize Lib.bitLen s=L at *;obtain⟨k,rfl⟩:∃k,L=k+1:=⟨L-1,zaa⟩;simp only[Nat.add_sub_cancel]at b⊢;have Zz:∀j,k<j->s.testBit j=false:=fun j hj=>RQ (OS c (PX zac hj));refine⟨zaa,zaa,Nat.testBit_of_two_pow_le_and_two_pow_add_one_gt b c,Zz,?_⟩;intro j;rw[Ry];by_cases hj:j<32
 ·have:(4294967295-2 ^ k).testBit j=decide (j≠k):=by
   have h2:=gI (i:=k) zaa;rw[show 4294967295-2 ^ k=2 ^ 32-(2 ^ k+1) by omega,R5 zaa,QG];simp[hj,eq_comm]
  rw[this]
 ·rw[Zz j zaa];rfl
theorem Ht(h0:s≠0)(hs:s<4294967296):els s=els (s&&&(4294967295-2 ^ (Lib.bitLen s-1)))++[Lib.bitLen s-1]:=by
 obtain⟨_,a,b,c,d⟩:=mN h0 hs;exact qF b c d 32 a
end Y
attribute [local go_sem] Pp
namespace Y
abbrev In(s:Nat):Type:={ i:Nat // i∈els s }
def KpT(W W':World):Prop:=TabAt 1 Lib.deBruijn32tab W->TabAt 1 Lib.deBruijn32tab W'
theorem wL(h0:t≠0):t&&&(t-1)<t:=Pm RJ zaa
theorem N5(h0:t≠0)(ht:t<4294967296):bits BinOp.and IntKind.u32 (t:Int) ((t:Int)-1)=((t&&&(t-1):Nat):Int):=by
 rw[show(t:Int)-1=((t-1:Nat):Int) by omega,Sg t _ ht zaa]
end Y
theorem Ab(n:Nat)(hn:1<=n)(l Bs s:Nat)(hs:s<4294967296)(J Jx:List (Y.In s)->World->Prop)
  (hY:∀pre x W,J pre W->pre.length<32->YieldAt Fence.wide (n-1) prog l #[.int .i64 (x.1:Int)] W fun e W'=>
   (e=.returned true/\J (pre++[x]) W'/\Y.KpT W W')\/(e=.returned false/\Jx (pre++[x]) W'))
  (W:World) (Wb:W.cell? Bs=some (.int .u32 s)) (hT:TabAt 1 Lib.deBruijn32tab W) (h0:J [] W):
  CallsIn Fence.wide n prog 148 #[.func (.yield l) #[] #[],Bs] W fun e W'=>(∃v,e=.returned v) /\
   ((∃ys,ys.map (·.1)=Y.els s/\J ys W')\/(∃pre,pre.map (·.1) <+: Y.els s/\Jx pre W')):=by
 refine SL func148 rfl trivial ?_ rfl;simp only[ntmps148,List.size_toArray,List.length_cons,List.length_nil,Nat.reduceAdd,Nat.reduceSub,Array.replicate_succ,Array.replicate_zero,List.push_toArray,List.append_toArray,List.nil_append,List.cons_append];gi_wp2
 gi_loopw[3] (fun i wr=>∃(t:Nat) (pre:List (Y.In s)),i=.int .u32 t/\t<4294967296/\Y.els s=pre.map (·.1)++Y.els t/\J pre wr/\TabAt 1 Lib.deBruijn32tab wr)
  (fun i _=>(intOf i).toNat)
 case atStart=>exact⟨s,[],rfl,hs,rfl,h0,hT⟩
 case round=>
  obtain⟨t,pre,rfl,ht,he,hJs,hTr⟩:=hrel;by_cases hz:t=0
  ·subst hz;gi_wp2;go_end0;rw[Y.lR,Ra]at he;exact zfg
  ·have hf:=Y.E8 hz ht;have hm:Lib.ctz 32 t∈Y.els s:=by rw[he,hf];simp
   have hle:pre.length<32:=by
    have h1:(Y.els s).length<=32:=by
     exact zeX
    exact zfH
   obtain⟨fn,tmps,assign,body,hy,hR⟩:=hY pre ⟨Lib.ctz 32 t,hm⟩ wr hJs hle;dsimp only at hy;have ha:=Y.N5 hz ht;have hz':((t:Int) == 0)=false:=zae;have TX:=Y.wL hz;have htz:=Ns t wr ht hTr;gi_wp2_with(refine⟨trivial,?_⟩;gi_at_call 149;refine(O3.2 htz).mono ?_;clear htz;rintro e w9 ⟨rfl,Pg⟩;rw[Pg];clear Pg w9);have hE:Y.els s=(pre++[(⟨Lib.ctz 32 t,hm⟩:Y.In s)]).map (·.1)++Y.els (t&&&(t-1)):=he.trans (by rw[hf,Pk,Qn];rfl);refine hR.mono ?_;rintro e W3 (⟨rfl,Yl,hk3⟩|⟨rfl,YN⟩)
   ·gi_wp2
    go_roundw
    case rel=>exact⟨t&&&(t-1),pre++[⟨Lib.ctz 32 t,hm⟩],rfl,zaa,hE,Yl,hk3 hTr⟩
    case measure=>simp only[intOf];omega
   ·exact zen
theorem fH(n:Nat)(hn:1<=n)(Bs s:Nat)(hs:s<4294967296)(w:World)(Wb:Bs<w.heap.size)(hg:1<w.heap.size)(hc:w.cell? Bs=some (.int .u32 s))(hT:TabAt 1 Lib.deBruijn32tab w):
  SeqStopsK Fence.wide n prog 148 #[Bs] (fun x:Y.In s=>#[Value.int .i64 (x.1:Int)]) Y.KpT (fun ys=>ys.map (·.1)=Y.els s) (fun pre=>pre.map (·.1) <+: Y.els s) 32 w:=fun l J Jx W hW _ _ hY h0=>by
 have TZ:=(hW.cell (p:=Bs) Wb).trans hc;exact Ab n hn l Bs s hs J Jx hY W TZ (fun j hj=>(hW.cell (p:=⟨1,j,none⟩) hg).trans (hT j hj)) h0
theorem dH(s:Nat)(w:World):() 98 #[.int .u32 s] w fun e w'=>e=.returned (.func (.func 148) #[] #[w])/\w'=w.alloc (.cells #[.int .u32 s] 107):=by
 go_enter func98,ntmps98;exact zfG
theorem om(s:Nat)(w:World):() 204 #[.int .u32 s] w fun e w'=>e=.returned (.func (.func 234) #[] #[w])/\w'=w.alloc (.cells #[.int .u32 s] 107):=by
 go_enter func204,ntmps204;exact zfG
namespace Y
theorem uY(h0:t≠0)(ht:t<4294967296):t&&&(4294967295-2 ^ (Lib.bitLen t-1))<t:=by
 obtain⟨_,_,b,_,d⟩:=mN h0 ht;refine Nat.lt_of_le_of_ne Qi fun he=>?_;have:=d (Lib.bitLen t-1);rw[he,b]at this;simp at this
theorem JZ(h0:t≠0)(ht:t<4294967296):bits BinOp.andNot IntKind.u32 (t:Int) ((2:Int) ^ (Lib.bitLen t-1))=((t&&&(4294967295-2 ^ (Lib.bitLen t-1)):Nat):Int):=by
 obtain⟨_,a,_⟩:=mN h0 ht;rw[jH,Td t _ ht (gI a)]
end Y
theorem xA(n:Nat)(hn:1<=n)(l Bs s:Nat)(hs:s<4294967296)(J Jx:List (Y.In s)->World->Prop)
  (hY:∀pre x W,J pre W->pre.length<32->YieldAt Fence.wide (n-1) prog l #[.int .i64 (x.1:Int)] W fun e W'=>
   (e=.returned true/\J (pre++[x]) W'/\True)\/(e=.returned false/\Jx (pre++[x]) W'))
  (W:World) (Wb:W.cell? Bs=some (.int .u32 s)) (h0:J [] W):
  CallsIn Fence.wide n prog 234 #[.func (.yield l) #[] #[],Bs] W fun e W'=>(∃v,e=.returned v) /\
   ((∃ys,ys.map (·.1)=(Y.els s).reverse/\J ys W')\/(∃pre,pre.map (·.1) <+: (Y.els s).reverse/\Jx pre W')):=by
 refine SL func234 rfl trivial ?_ rfl;simp only[ntmps234,List.size_toArray,List.length_cons,List.length_nil,Nat.reduceAdd,Nat.reduceSub,Array.replicate_succ,Array.replicate_zero,List.push_toArray,List.append_toArray,List.nil_append,List.cons_append];gi_wp2
 gi_loopw[3] (fun i wr=>∃(t:Nat) (pre:List (Y.In s)),i=.int .u32 t/\t<4294967296/\(Y.els s).reverse=pre.map (·.1)++(Y.els t).reverse/\J pre wr)
  (fun i _=>(intOf i).toNat)
 case atStart=>exact⟨s,[],rfl,hs,rfl,h0⟩
 case round=>
  obtain⟨t,pre,rfl,ht,he,hJs⟩:=hrel;by_cases hz:t=0
  ·subst hz;gi_wp2;go_end0;rw[Y.lR,List.reverse_nil,Ra]at he;exact zfg
  ·obtain⟨TM,TP,_⟩:=Y.mN hz ht;have hf:=congrArg List.reverse (Y.Ht hz ht);rw[List.reverse_append]at hf;have ha:=Y.JZ hz ht;have TX:=Y.uY hz ht;have hla:=fun w=>Ir t w ht;generalize Lib.bitLen t=L at *;obtain⟨k,rfl⟩:∃k,L=k+1:=⟨L-1,zaa⟩;have hk:((k+1:Nat):Int)-1=(k:Int):=zaa;simp only[hk]at hla;simp only[Nat.add_sub_cancel]at hf ha TX TP;have hm:k∈Y.els s:=by rw[<- RK,he,hf];simp
   have hle:pre.length<32:=by
    have h1:(Y.els s).reverse.length<=32:=by
     have:=PB s.testBit (List.range 32);rw[QV]at this;rw[S2];exact this
    exact zfH
   have hE:(Y.els s).reverse=(pre++[(⟨k,hm⟩:Y.In s)]).map (·.1)++(Y.els (t&&&(4294967295-2 ^ k))).reverse:=he.trans (by rw[hf,Pk,Qn];rfl);obtain⟨fn,tmps,assign,body,hy,hR⟩:=hY pre ⟨k,hm⟩ wr hJs hle;dsimp only at hy;have hz':((t:Int) == 0)=false:=zae;generalize t&&&(4294967295-2 ^ k)=t' at *;gi_wp2_with(refine⟨trivial,?_⟩;gi_at_call 235;refine(O3.2 (hla _)).mono ?_;rintro e w9 ⟨rfl,Pg⟩;rw[Pg];clear Pg w9);refine hR.mono ?_;rintro e W3 (⟨rfl,Yl,hk3⟩|⟨rfl,YN⟩)
   ·gi_wp2_with(first
     |(refine⟨trivial,?_⟩;gi_at_call 235;refine(O3.2 (hla _)).mono ?_;rintro e w9 ⟨rfl,Pg⟩;rw[Pg];clear Pg w9)
     |(refine⟨trivial,?_⟩;gi_at_call 99;refine(O3.2 (iR k _ TP)).mono ?_;rintro e w9 ⟨rfl,Pg⟩;rw[Pg];clear Pg w9))
    go_roundw
    case rel=>exact⟨t',pre++[⟨k,hm⟩],rfl,zaa,hE,Yl⟩
    case measure=>simp only[intOf];omega
   ·exact zen
theorem lO(n:Nat)(hn:1<=n)(Bs s:Nat)(hs:s<4294967296)(w:World)(Wb:Bs<w.heap.size)(hc:w.cell? Bs=some (.int .u32 s)):
  SeqStopsK Fence.wide n prog 234 #[Bs] (fun x:Y.In s=>#[Value.int .i64 (x.1:Int)]) (fun _ _=>True) (fun ys=>ys.map (·.1)=(Y.els s).reverse) (fun pre=>pre.map (·.1) <+: (Y.els s).reverse) 32 w:=fun l J Jx W hW _ _ hY h0=>
 xA n hn l Bs s hs J Jx hY W ((hW.cell (p:=Bs) Wb).trans hc) h0
end
section
open Go.RowKit
open Go.PlainAid (bt get_bt bt_nonneg bt_le bt_end)
namespace U
theorem eG{w:World}{v:Value}(h:w.ownsRow base e size v n xs)(hn:0<n):∃g cap,v=.slice (some ⟨g,0,none⟩) n cap:=by
 rcases h.2 with⟨_,h0⟩|⟨g,cap,cur,hv,_⟩
 ·omega
 ·exact⟨g,cap,hv⟩
def bO(s:())(c:Int):Nat->List ()
 |0=>[ByteArray.empty]
 |k+1=>if bt s k=c then bO s c k++[ByteArray.empty] else(bO s c k).set ((bO s c k).length-1) ((bO s c k)[(bO s c k).length-1]?.getD ByteArray.empty++s.extract k (k+1))
def cut(s:())(c:Int):List ():=bO s c s.size
theorem mJ(s:())(c:Int):∀k,0<(bO s c k).length
 |0=>by simp[bO]
 |k+1=>by
  have:=mJ s c k;unfold bO;split<;>simp
  exact this
theorem oz(s:())(c:Int):∀k,(bO s c k).length<=k+1
 |0=>by simp[bO]
 |k+1=>by
  have:=oz s c k;unfold bO;split<;>simp<;>omega
theorem yk{y:()}(h:∀x∈l,x.size<=B)(hy:y.size<=B):∀x∈l.set i y,x.size<=B:=by
 intro x hx
 rcases O6 hx with h'|h'
 ·exact h x h'
 ·rw[h'];exact hy
theorem qo{s:()}(h:k<s.size):(s.extract k (k+1)).size=1:=zae
theorem jy(s:())(c:Int):∀k,k<=s.size->∀x∈bO s c k,x.size<=k
 |0,_=>by simp[bO]
 |k+1,hk=>by
  have ih:=jy s c k zaa;unfold bO;split
  ·intro x hx
   rcases OT.1 hx with h|h
   ·have:=ih x h;omega
   ·rw[OE.1 h];exact OL _
  ·refine yk (fun x hx=>by have:=ih x hx;omega) ?_;rw[Re,qo zaa];have hp:=mJ s c k;rw[Ou zaa];have:=ih _ (Pl (show(bO s c k).length-1<(bO s c k).length by omega));simp only[Option.getD_some];omega
theorem xH{s:()}(h:bt s k=c):bO s c (k+1)=bO s c k++[ByteArray.empty]:=by rw[bO,OD h]
theorem B2{s:()}(h:¬bt s k=c):bO s c (k+1)=(bO s c k).set ((bO s c k).length-1) ((bO s c k)[(bO s c k).length-1]?.getD ByteArray.empty++s.extract k (k+1)):=by rw[bO,OB h]
def bQ:():=⟨#[97,102,116,101,114,46]⟩
def kg:():=⟨#[100,111,110,101,46]⟩
def l6(s:()):Bool:=cI s bQ&&(cJ (s.extract 6 s.size)&&(decide (0<et (s.extract 6 s.size))&&decide (et (s.extract 6 s.size)<=1500)))
def called(s:()):Bool:=plain s||l6 s
def cB(s:()):Bool:=called s||(cI s kg&&plain (s.extract 5 s.size))
theorem qB{s t:()}(h:cI s t=true):t.size<=s.size:=by
 simp[cI]at h;exact h.1
end U
end
section
open Go.RowKit
namespace U
structure Act where
 how:()
 event:()
 id:()
 delay:Int
def GC(a:Act):List Value:=[a.how,a.event,a.id,.int .u64 a.delay]
def cDo:List UInt8:=[100,111]
def fC:List UInt8:=[114,97,105,115,101]
def fi:List UInt8:=[99,97,110,99,101,108]
def lQ:List UInt8:=[115,101,110,100]
def cAs:List UInt8:=[97,115]
def at'(l:List ())(i:Nat):():=l.getD i ByteArray.empty
theorem og(h:∀x∈l,x.size<=B)(i:Nat):(at' l i).size<=B:=by
 unfold at';by_cases hi:i<l.length
 ·rw[OJ,Ou hi];exact h _ (Pl hi)
 ·rw[OJ,OV zaa];exact OL _
def pP(l:List ()):Option (Act×Nat):=
 if l.length<3 then none
 else if(at' l 0).toList == cDo then
  if(at' l 1).toList == fC then if called (at' l 2) then some (⟨at' l 1,at' l 2,ByteArray.empty,0⟩,3) else none
  else if(at' l 1).toList == fi then if called (at' l 2) then some (⟨at' l 1,ByteArray.empty,at' l 2,0⟩,3) else none
  else if(at' l 1).toList == lQ then
   if l.length<4 then none
   else if decide (4<l.length)&&((at' l 4).toList == cAs) then
    if l.length<6 then none
    else if called (at' l 2)&&cJ (at' l 3)&&called (at' l 5) then some (⟨at' l 1,at' l 2,at' l 5,et (at' l 3)⟩,6) else none
   else if called (at' l 2)&&cJ (at' l 3) then some (⟨at' l 1,at' l 2,ByteArray.empty,et (at' l 3)⟩,4) else none
  else none
 else none
def jX:Nat->List ()->Option (List Act)
 |_,[]=>some []
 |0,_::_=>none
 |f+1,x::r=>
  match pP (x::r) with
  |none=>none
  |some (a,n)=>match jX f ((x::r).drop n) with
   |none=>none
   |some r'=>some (a::r')
def aw(l:List ()):Option (List Act):=jX l.length l
theorem lK{a:Act}(h:pP l=some (a,n)):3<=n/\n<=l.length:=by
 unfold pP at h
 repeat' split at h
 all_goals cases h
 all_goals omega
theorem rV:∀(f g:Nat) (l:List ()),l.length<=f->l.length<=g->jX f l=jX g l
 |f,g,[],_,_=>by cases f<;>cases g<;>rfl
 |0,_,x::r,h,_=>by simp at h
 |_+1,0,x::r,_,h=>by simp at h
 |f+1,g+1,x::r,hf,hg=>by
  simp only[jX];cases h:pP (x::r) with
  |none=>rfl
  |some p=>
   obtain⟨a,n⟩:=p;have hb:=lK h;simp only;rw[rV f g ((x::r).drop n) (by simp at hf⊢;omega) (by simp at hg⊢;omega)]
end U
def lenOf:Value->Nat|.slice _ n _=>n|_=>0
def rT(w:World)(b off:Nat)(l:List ()):Prop:=∀i,i<l.length->w.cell? ⟨b,off+i,none⟩=some (.string (U.at' l i))
theorem rT.drop{w:World}(h:rT w b off l)(n:Nat):rT w b (off+n) (l.drop n):=by
 intro i hi;have:=h (n+i) zaR;rw[PJ,this];simp[U.at',List.getElem?_drop]
theorem rT.below{w:World}(h:rT w b off l)(hb:Below B w w')(hB:b<B):rT w' b off l:=
 fun i hi=>by rw[hb.cell (p:=⟨b,off+i,none⟩) hB];exact h i hi
namespace U
structure Move where
 event:()
 to:()
 after:Bool
 delay:Int
 aw:List Act
 line:Int
structure State where
 word:()
 name:()
 deep:Bool
 up:Int
 depth:Int
 line:Int
 aj:List Move
 enter:List Act
 leave:List Act
 has0:Int
 has1:Int
structure kD where
 kind:Int
 word:()
 name:()
 deep:Bool
 sline:Int
 m:Move
 aw:List Act
theorem iZ{w:World}{v:Value}(h:w.ownsRow base e size v n xs):∃a k c,v=.slice a k c:=by
 rcases h.2 with⟨h0,_⟩|⟨g,cap,cur,hv,_⟩
 ·exact⟨_,_,_,h0⟩
 ·exact⟨_,_,_,hv⟩
def cTo:List UInt8:=[116,111]
def v7(l:List ()):Option (()×List Act):=
 if decide (0<l.length)&&((at' l 0).toList == cTo) then
  if l.length<2 then none
  else if plain (at' l 1) then(aw (l.drop 2)).map (at' l 1,·) else none
 else(aw l).map (ByteArray.empty,·)
end U
end
section
open Go.RowKit
open Go.PlainAid (bt get_bt bt_nonneg bt_le bt_end)
namespace U
def kY:Move:=⟨ByteArray.empty,ByteArray.empty,false,0,[],0⟩
def gE:kD:=⟨0,ByteArray.empty,ByteArray.empty,false,0,kY,[]⟩
def cy:List UInt8:=[115,116,97,116,101]
def aE:List UInt8:=[112,97,114,97,108,108,101,108]
def bT:List UInt8:=[102,105,110,97,108]
def aO:List UInt8:=[104,105,115,116,111,114,121]
def DT:List UInt8:=[100,101,101,112]
def cOn:List UInt8:=[111,110]
def ja:List UInt8:=[97,102,116,101,114]
def kI:List UInt8:=[101,110,116,101,114]
def nI:List UInt8:=[108,101,97,118,101]
def is(l:List ())(i:Nat)(c:List UInt8):Bool:=(at' l i).toList == c
def vG(l:List ()):Bool:=decide (l.length=3)&&is l 2 DT
def said(l:List ())(ln:Nat):kD:=
 if l.length<2 then gE
 else if is l 0 cy||(is l 0 aE||is l 0 bT) then
  if decide (l.length=2)&&plain (at' l 1) then⟨115,at' l 0,at' l 1,false,ln,kY,[]⟩ else gE
 else if is l 0 aO then
  if plain (at' l 1)&&(decide (l.length=2)||vG l) then⟨115,at' l 0,at' l 1,vG l,ln,kY,[]⟩ else gE
 else if is l 0 cOn then
  match v7 (l.drop 2) with
  |none=>gE
  |some (to,A)=>if cB (at' l 1) then⟨109,ByteArray.empty,ByteArray.empty,false,0,⟨at' l 1,to,false,0,A,ln⟩,[]⟩ else gE
 else if is l 0 ja then
  match v7 (l.drop 2) with
  |none=>gE
  |some (to,A)=>if cJ (at' l 1) then⟨109,ByteArray.empty,ByteArray.empty,false,0,⟨bQ++dec ln,to,true,et (at' l 1),A,ln⟩,[]⟩ else gE
 else if is l 0 kI||is l 0 nI then
  match aw (l.drop 1) with
  |none=>gE
  |some A=>⟨bt (at' l 0) 0,ByteArray.empty,ByteArray.empty,false,0,kY,A⟩
 else gE
end U
end
section
open Go.RowKit
namespace U
structure Sl where
 a:Option Addr
 n:Nat
 c:Nat
def Sl.v(s:Sl):Value:=.slice s.a s.n s.c
def Sl.nil:Sl:=⟨none,0,0⟩
structure SV where
 s:State
 vm:Sl
 ve:Sl
 vl:Sl
structure MV where
 m:Move
 v:Sl
def Lb(x:MV):List Value:=[x.m.event,x.m.to,x.m.after,.int .u64 x.m.delay,.slice x.v.a x.v.n x.v.c,(x.m.line:Int)]
theorem ka{α:Type}{f:α->List Value}{n:Nat}(hf:∀x,(f x).length=n):∀(X:List α) (i j:Nat),j<n->∀(h:i<X.length),(X.flatMap f)[i*n+j]?=(f X[i])[j]?
 |[],i,j,_,h=>by simp at h
 |x::X,0,j,hj,_=>by
  rw[PO,SA,QC,Pv (by rw[hf];exact hj)];rfl
 |x::X,i+1,j,hj,h=>by
  rw[PO,S7,PE (by rw[hf];omega),hf];rw[show i*n+n+j-n=i*n+j from by omega,ka hf X i j hj zaC];rfl
theorem kc{α:Type}{f:α->List Value}{n:Nat}(hf:∀x,(f x).length=n):∀(X:List α),(X.flatMap f).length=X.length*n
 |[]=>by simp
 |x::X=>by rw[PO,OM,hf,kc hf X,PR,S7,Nat.add_comm]
def Ik(n:())(x:SV):Bool:=x.s.name.toList == n.toList
def place(X:List SV)(n:()):Int:=match X.findIdx? (Ik n) with|some i=>(i:Int)|none=>-1
def ym(a:Act):Bool:=cI a.event bQ||cI a.id bQ
def cD(A:List Act):Bool:=A.any ym
end U
def Row{α:Type}(w:World)(e:TypeId)(size:Nat)(f:α->List Value)(v:Value)(X:List α):Prop:=w.ownsRow 0 e size v X.length (X.flatMap f)
theorem Row.cell{α:Type}{w:World}{f:α->List Value}{X:List α}(hf:∀x,(f x).length=n)(h:Row w e n f (.slice g X.length cap) X){j:Nat}(hj:j<n)(hi:i<X.length):
  w.cell? (g,i*n+j)=(f X[i])[j]?:=by
 have TX:i*n+j<X.length*n:=by
  have:(i+1)*n<=X.length*n:=Q7 n hi;rw[S7]at this;omega
 rw[h.cellAt (i*n+j) TX,U.ka hf X i j hj hi]
end
section
open Go.RowKit Go.Proofs Go.Shelf
attribute [local go_sem] Pp
namespace Y
structure PS where
 kind:Int
 name:()
 done:()
 owner:Int
 parts:Nat
 inside:Nat
 around:Nat
 wth:Nat
 enter:U.Sl
 leave:U.Sl
structure PS.Sm(p:PS):Prop where
 hp:p.parts<4294967296
 hi:p.inside<4294967296
 ha:p.around<4294967296
 hw:p.wth<4294967296
structure uD(W:World)(b i:Nat)(p:PS):Prop where
 c0:W.cell? (b,i*10)=some ↑(p.kind:Int)
 c1:W.cell? (b,i*10+1)=some ↑p.name
 c2:W.cell? (b,i*10+2)=some ↑p.done
 c3:W.cell? (b,i*10+3)=some ↑(p.owner:Int)
 c4:W.cell? (b,i*10+4)=some (.int .u32 p.parts)
 c5:W.cell? (b,i*10+5)=some (.int .u32 p.inside)
 c6:W.cell? (b,i*10+6)=some (.int .u32 p.around)
 c7:W.cell? (b,i*10+7)=some (.int .u32 p.wth)
 c8:W.cell? (b,i*10+8)=some p.enter.v
 c9:W.cell? (b,i*10+9)=some p.leave.v
theorem uD.below{p:PS}(h:uD W b i p)(hB:Below B W W')(hb:b<B):uD W' b i p where
 c0:=(hB.cell (p:=⟨b,_,none⟩) hb).trans h.c0
 c1:=(hB.cell (p:=⟨b,_,none⟩) hb).trans h.c1
 c2:=(hB.cell (p:=⟨b,_,none⟩) hb).trans h.c2
 c3:=(hB.cell (p:=⟨b,_,none⟩) hb).trans h.c3
 c4:=(hB.cell (p:=⟨b,_,none⟩) hb).trans h.c4
 c5:=(hB.cell (p:=⟨b,_,none⟩) hb).trans h.c5
 c6:=(hB.cell (p:=⟨b,_,none⟩) hb).trans h.c6
 c7:=(hB.cell (p:=⟨b,_,none⟩) hb).trans h.c7
 c8:=(hB.cell (p:=⟨b,_,none⟩) hb).trans h.c8
 c9:=(hB.cell (p:=⟨b,_,none⟩) hb).trans h.c9
structure cd(W:World)(pb b cap:Nat)(ps:List PS):Prop where
 row:W.cell? pb=some (.slice b ps.length cap)
 at':∀(i:Nat) (p:PS),ps[i]?=some p->uD W b i p
 sm:∀(i:Nat) (p:PS),ps[i]?=some p->p.Sm
 len:ps.length<=24
theorem cd.below{pb:Nat}{ps:List PS}(h:cd W pb b cap ps)(hB:Below B W W')(hp:pb<B)(hb:b<B):cd W' pb b cap ps where
 row:=(hB.cell (p:=⟨pb,_,none⟩) hp).trans h.row
 at':=fun i p hi=>(h.at' i p hi).below hB hb
 sm:=h.sm
 len:=h.len
end Y
theorem Ij(w:World)(pb b cap:Nat)(ps:List Y.PS)(i j:Nat)(p:Y.PS)(hP:Y.cd w pb b cap ps)(hi:ps[i]?=some p)(hj:j<32):() 231 #[pb,(i:Int),(j:Int)] w fun e w'=>e=.returned (.bool (p.around.testBit j))/\w'=w:=by
 have Vm:i<ps.length:=(Oz.1 hi).1;have hlen:=hP.len;have h0:=hP.row;have h6:=(hP.at' i p hi).c6;have WB:=(hP.sm i p hi).ha;go_enter func231,ntmps231;go_wp2_with(go_at_call 203;refine(xP p.around j _ hj WB).mono ?_;rintro e w9 ⟨rfl,Pg⟩;rw[Pg];clear Pg w9);exact zfM
namespace Y
def dc(ps:List PS)(i:Nat):Nat:=match ps[i]? with|some p=>p.around|none=>0
def qW(ps:List PS)(o:Nat)(l:List Nat):Nat:=l.foldl (fun o i=>o&&&(4294967295-dc ps i)) o
theorem Fo(ps:List PS)(o:Nat)(l:List Nat)(i:Nat):qW ps o (l++[i])=qW ps o l&&&(4294967295-dc ps i):=by
 unfold qW;rw[Px];rfl
theorem xR(ps:List PS):∀(l:List Nat) (o:Nat),o<4294967296->qW ps o l<4294967296
 |[],_,h=>h
 |_::l,_,h=>xR ps l _ (Pm Qi h)
def ba{s:Nat}:List (In s)->List Nat
 |[]=>[]
 |x::l=>x.1::ba l
theorem cG{s:Nat}:∀l:List (In s),ba l=l.map (·.1)
 |[]=>rfl
 |x::l=>by rw[ba,cG l];rfl
theorem ej(l:List (In s))(x:In s):ba (l++[x])=ba l++[x.1]:=by
 rw[cG,cG,Pk];rfl
def inn(ps:List PS)(s:Nat):Nat:=qW ps s (els s)
theorem KpT.tr{A B C:World}(h:KpT A B)(k:KpT B C):KpT A C:=fun x=>k (h x)
theorem KpT.of{A B:World}(h:Below n A B)(hn:1<n):KpT A B:=fun x j hj=>(h.cell (p:=⟨1,j,none⟩) hn).trans (x j hj)
end Y
theorem xS(n:Nat)(hn:3<=n)(w:World)(pb b cap:Nat)(ps:List Y.PS)(s:Nat)(hs:s<4294967296)(Ux:∀i,i∈Y.els s->i<ps.length)(hP:Y.cd w pb b cap ps)(T8:pb<w.heap.size)(hb:b<w.heap.size)
  (hg:1<w.heap.size) (hT:TabAt 1 Lib.deBruijn32tab w):
  CallsIn Fence.wide n prog 107 #[pb,.int .u32 s] w fun e w'=>e=.returned (.int .u32 (Y.inn ps s))/\Below w w w':=by
 have h1:1<=n:=zaa;refine Pq func107 rfl trivial ?_ rfl;simp only[ntmps107,List.size_toArray,List.length_cons,List.length_nil,Nat.reduceAdd,Nat.reduceSub,Array.replicate_succ,Array.replicate_zero,List.push_toArray,List.append_toArray,List.nil_append,List.cons_append];gi_wp2_with(refine⟨trivial,?_⟩;gi_at_call 98;refine(O3.2 (dH s _)).mono ?_;rintro e w9 ⟨rfl,Pg⟩;rw[Pg];clear Pg w9);have c0:=O4 w 103 pb;have c1:=O4 (w.alloc (.cells #[pb] 103)) 107 (.int .u32 s);have c2:=O4 ((w.alloc (.cells #[pb] 103)).alloc (.cells #[.int .u32 s] 107)) 107 (.int .u32 s);simp only[World.size_alloc]at c1 c2;have Ut:Below w w (((w.alloc (.cells #[pb] 103)).alloc (.cells #[.int .u32 s] 107)).alloc (.cells #[.int .u32 s] 107)):=(((Oy _ w).alloc (Ow _) _).alloc zad _).alloc zae _;refine So rfl h1 (gf:=148) (lb:=#[↑(w.heap.size+1+1)]) rfl trivial (QN func148 zab rfl)
  (fH (n-1) zaa (w.heap.size+1+1) s hs _ zad zad c2.cell (Y.KpT.of Ut hg hT)) Y.KpT.tr (fun W l o o' hl h hc hw=>Y.KpT.of (QW (n₀:=w.heap.size) (Ox (RG _ 3) zad) W l o o' hl h hc hw) hg) (Oy _ _) (fun _=>rfl)
  (fun pre W=>(Boxed W w 103 pb/\Boxed W (w.heap.size+1) 107 (.int .u32 (Y.qW ps s (Y.ba pre))))/\Below w w W)
  (fun _ _ _=>False)
  (Pa (Pa (PY (PG _ _ _) _) (PY (PG _ _ _) _)) (Qr (Ow _) zae))
  (fun _ _ _ _ _ hs _ _=>hs)
  ⟨⟨(c0.alloc _).alloc _,c1.alloc _⟩,Ut⟩
  (fun x=>{ tmps:=#[.pointer (some ⟨pb,0,none⟩),.int .u32 s,.pointer (some ⟨w.heap.size,0,none⟩),undef,.int .u32 0,.pointer (some ⟨w.heap.size+1,0,none⟩),.int .i64 x.1,.int .u32 s,.int .u32 s,.func (.func 148) #[] #[.pointer (some ⟨w.heap.size+1+1,0,none⟩)],.int .i64 x.1,undef,undef,undef,undef,undef,undef,undef,undef,undef,undef,undef],defers:=[] }) ?assign ?body ?done ?stop
 case assign=>
  exact zfI
 case body=>
  rintro l pre x W ⟨⟨hp,hc⟩,hB⟩ _;have hpc:=hp.cell;have hcc:=hc.cell;have hcf:=hc.frozen;have VI:=Ux x.1 x.2;obtain⟨p,Wc⟩:∃p,ps[x.1]?=some p:=⟨_,Ou VI⟩;have Xj:=hP.below hB T8 hb;have h0:=Xj.row;have h6:=(Xj.at' x.1 p Wc).c6;have hlen:=hP.len;have WB:=(hP.sm x.1 p Wc).ha;have TX:=Y.xR ps (Y.ba pre) s hs;have har:Y.dc ps x.1=p.around:=by unfold Y.dc;rw[Wc]
  have ha:=Td _ _ TX WB;have U6:=Y.Fo ps s (Y.ba pre) x.1;rw[har,<- Y.ej]at U6;have hB':∀v,Below w w ((W.drew).setCell ↑(w.heap.size+1) v):=fun v=>(hB.trans ((Oy _ W).drew)).setCell (p:=↑(w.heap.size+1)) zad _;have hko:∀v,KeepsOthers W ((W.drew).setCell ↑(w.heap.size+1) v):=fun v=>(Rr W).trans (Ps _ _ _);have hkp:∀v,Y.KpT W ((W.drew).setCell ↑(w.heap.size+1) v):=fun v=>Y.KpT.of (((Oy w W).drew).setCell (p:=↑(w.heap.size+1)) zad _) hg;have ZA:∀v,Boxed ((W.drew).setCell ↑(w.heap.size+1) v) w.heap.size 103 pb:=fun v=>Boxed.kept (W:=W.drew) (show Boxed W.drew _ _ _ from hp) (Tx _ _ _) zad;have UM:Boxed ((W.drew).setCell ↑(w.heap.size+1) (.int .u32 ((Y.qW ps s (Y.ba pre)&&&(4294967295-p.around):Nat):Int))) (w.heap.size+1) 107 (.int .u32 (Y.qW ps s (Y.ba (pre++[x])))):=by
   exact zeS
  clear U6 har hp hc hP Xj;gi_wp2;gi_region
  all_goals gi_wp2
  all_goals exact⟨hko _,hkp _,⟨ZA _,UM⟩,hB' _⟩
 case done=>
  rintro D ys W hD VA ⟨⟨_,hc⟩,hB⟩ hK;exact zdG
 case stop=>
  exact zfA
end
section
open Go
theorem pr{P:Program}{row:String}{w:World}{R:Value->World->Prop}(h:Rows P row args w R):RowsIn (Fence.wide.inRound k) n P row args w R:=
 fun c cs _=>let⟨v,w',r,s⟩:=h c cs;⟨v,w',r,stepsIn_wide.2 s⟩
theorem aI{P:Program}{f:FuncId}{w:World}(h:Calls P f args w R):CallsIn (Fence.wide.inRound k) n P f args w R:=
 CallsIn.inRound k (O3.2 h)
theorem Dr{k n:Nat}{P:Program}{o:Oper}{a:Act}{N N':Act->World->Prop}{Q:Exit->Act->World->Prop}(hN:∀a w,N a w->N' a w):∀r:Result Next,o.upon P a N Q r->o.uponIn (Fence.wide.inRound k) n P a N' Q r:=by
 have hd:∀x:Prop,((Fence.wide.inRound k).depth.isSome=true->x):=fun x h=>zav;intro r h;cases r with
 |ok v w'=>
  cases v<;>first
   |exact hN _ _ h
   |exact⟨hd _,pr (Rows.mono h fun _ _ hx=>hN _ _ hx)⟩
   |exact h.elim
   |skip
  exact⟨hd _,aI (OI h fun e w'' hx=>by
   cases e
   ·exact hN _ _ hx
   ·exact hx
   ·exact hx)⟩
 |halt x w'=>cases x<;>first|exact h|exact h.elim
def kX(ops:Array Oper):Bool:=ops.all fun o=>match o.op with|.defer _=>false|_=>true
theorem oV{ops:Array Oper}(h:kX ops=true)(ho:ops[i]?=some o)(c:_):o.op≠Op.defer c:=by
 intro he;have hm:o∈ops:=Array.mem_of_getElem? ho;have:=Rz.1 h o hm;rw[he]at this;exact Bool.noConfusion this
theorem mT{k n:Nat}{P:Program}{ops:Array Oper}{Q:Exit->Act->World->Prop}(Ua:kX ops=true)(hL:¬LetsOut Q):∀(l:List Nat) (a:Act) (w:World),wpOps P ops Q l a w->wpOpsIn (Fence.wide.inRound k) n P ops Q l a w
 |[],_,_,h=>h
 |i::l,a,w,h=>by
  unfold wpOps at h;unfold wpOpsIn;cases ho:ops[i]? with
  |none=>
   simp only[ho]at h;exact mT Ua hL l a w h
  |some o=>
   simp only[ho]at h;simp only;split
   ·rename_i hw;rw[OD hw]at h
    rcases h with h|⟨_,h⟩
    ·refine⟨fun _ _=>trivial,?_⟩;rw[Oper.semAt_eq _ _ _ (fun c=>oV Ua ho c)];exact Dr (fun a w hx=>mT Ua hL l a w hx) _ h
    ·exact absurd h hL
   ·rename_i hw;rw[OB hw]at h;exact⟨fun _ _=>trivial,mT Ua hL l _ w h⟩
theorem lG{P:Program}{ops:Array Oper}{Q:Exit->Act->World->Prop}{a:Act}{w:World}(hm:P.follows .mixedOrders=true)(Ua:kX ops=true)(hL:¬LetsOut Q)
  (h:wpAny P .any ops Q ops.size (Array.replicate ops.size false) a { w with drawn:=w.drawn+1 }):(Code.region id ops true).wpIn (Fence.wide.inRound k) n P Q a w:=
 wpIn_region_draw fun t=>by
  simp only[Region.schedule,hm,Bool.true_or,if_true];exact mT Ua hL _ _ _ (wpAny_sound ops.size t _ a _ h)
theorem dd{P:Program}{ops:Array Oper}{Q:Exit->Act->World->Prop}{S:World->Prop}{a:Act}{w:World}(hm:P.follows .mixedOrders=true)(Ua:kX ops=true)(hL:¬LetsOut Q)(hS:S w.drew)
  (h:S w.drew->wpAnyH P .any ops Q S ops.size (Array.replicate ops.size false) a w.drew):(Code.region id ops true).wpIn (Fence.wide.inRound k) n P Q a w:=
 lG hm Ua hL (wpAny_of_held _ _ _ _ (h hS))
theorem pg{P:Program}{md:Region.Mode}{ops:Array Oper}{Q:Exit->Act->World->Prop}{S:World->Prop}{fuel:Nat}{listed:Array Bool}{a:Act}{w:World}{rs:List Nat}(ho:ops[i]?=some o)(hw:Region.wanted o (yielded ops a.tmps)=true)
  (h:∀K':Act->World->Prop,Shut (∀a w,S w->(S w->wpAnyH P md ops Q S fuel (listed.setIfInBounds i true) a w)->K' a w)->Oper.wp P o a w K' Q)
  (hs:AllReadyH P md ops Q S fuel listed a w rs):AllReadyH P md ops Q S fuel listed a w (i::rs):=
 Pb ho (fun K hK=>by rw[OD hw];exact h K hK) hs
end
section
open Go.RowKit Go.Proofs Go.Shelf
attribute [local go_sem] Pp
namespace Y
def bW(ps:List PS)(i:Nat):Nat:=match ps[i]? with|some p=>p.wth|none=>0
def fm(ps:List PS)(i:Nat):Nat:=match ps[i]? with|some p=>p.inside|none=>0
def ri(ps:List PS)(ow:Nat)(l:List Nat):Nat:=l.foldl (fun o i=>o|||(bW ps i|||(dc ps i&&&fm ps ow))) 0
theorem FY(ps:List PS)(ow:Nat)(l:List Nat)(i:Nat):ri ps ow (l++[i])=ri ps ow l|||(bW ps i|||(dc ps i&&&fm ps ow)):=by
 unfold ri;rw[Px];rfl
theorem qM{a:Nat}(ha:a<4294967296)(hb:b<4294967296):a|||b<4294967296:=Po (n:=32) ha hb
theorem kF{a:Nat}(ha:a<4294967296):a&&&b<4294967296:=Pm Qi ha
end Y
theorem AO(n:Nat)(hn:3<=n)(w:World)(pb b cap:Nat)(ps:List Y.PS)(ow:Nat)(po:Y.PS)(Vr:ps[ow]?=some po)(s:Nat)(hs:s<4294967296)(h0s:s≠0)(Ux:∀i,i∈Y.els s->i<ps.length)(VV:∀l,Y.ri ps ow l<4294967296)(hP:Y.cd w pb b cap ps)(T8:pb<w.heap.size)(hb:b<w.heap.size)
  (hg:1<w.heap.size) (hT:TabAt 1 Lib.deBruijn32tab w):
  CallsIn Fence.wide n prog 159 #[pb,(ow:Int),.int .u32 s] w fun e w'=>e=.returned (.int .u32 (Y.ri ps ow (Y.els s)))/\Below w w w':=by
 have h1:1<=n:=zaa;have Xx:ow<ps.length:=(Oz.1 Vr).1;have hlen:=hP.len;have TO:=hP.row;have hz:((s:Int) == 0)=false:=zae;refine Pq func159 rfl trivial ?_ rfl;simp only[ntmps159,List.size_toArray,List.length_cons,List.length_nil,Nat.reduceAdd,Nat.reduceSub,Array.replicate_succ,Array.replicate_zero,List.push_toArray,List.append_toArray,List.nil_append,List.cons_append];have hrow1:(w.alloc (.cells #[pb] 103)).cell? pb=some (.slice b ps.length cap):=(((Oy _ w).alloc (Ow _) _).cell (p:=pb) T8).trans TO;gi_wp2_with(refine⟨trivial,?_⟩;gi_at_call 98;refine(O3.2 (dH s _)).mono ?_;rintro e w9 ⟨rfl,Pg⟩;rw[Pg];clear Pg w9);have c0:=O4 w 103 pb;have c1:=O4 (w.alloc (.cells #[pb] 103)) 252 (b,ow*10);have c2:=O4 ((w.alloc (.cells #[pb] 103)).alloc (.cells #[(b,ow*10)] 252)) 107 (.int .u32 0);have c3:=O4 (((w.alloc (.cells #[pb] 103)).alloc (.cells #[(b,ow*10)] 252)).alloc (.cells #[.int .u32 0] 107)) 107 (.int .u32 s);simp only[World.size_alloc]at c1 c2 c3;have Ut:Below w w ((((w.alloc (.cells #[pb] 103)).alloc (.cells #[(b,ow*10)] 252)).alloc (.cells #[.int .u32 0] 107)).alloc (.cells #[.int .u32 s] 107)):=((((Oy _ w).alloc (Ow _) _).alloc zad _).alloc zae _).alloc zae _;refine So rfl h1 (gf:=148) (lb:=#[↑(w.heap.size+1+1+1)]) rfl trivial (QN func148 zab rfl)
  (fH (n-1) zaa (w.heap.size+1+1+1) s hs _ zad zad c3.cell (Y.KpT.of Ut hg hT)) Y.KpT.tr (fun W l o o' hl h hc hw=>Y.KpT.of (QW (n₀:=w.heap.size) (Ox (RG _ 4) zad) W l o o' hl h hc hw) hg) (Oy _ _) (fun _=>rfl)
  (fun pre W=>(Boxed W w 103 pb/\Boxed W (w.heap.size+1) 252 (b,ow*10)/\Boxed W (w.heap.size+1+1) 107 (.int .u32 (Y.ri ps ow (Y.ba pre))))/\Below w w W)
  (fun _ _ _=>False)
  (Pa (Pa (PY (PG _ _ _) _) (Pa (PY (PG _ _ _) _) (PY (PG _ _ _) _))) (Qr (Ow _) zae))
  (fun _ _ _ _ _ hs _ _=>hs)
  ⟨⟨((c0.alloc _).alloc _).alloc _,(c1.alloc _).alloc _,c2.alloc _⟩,Ut⟩
  (fun x=>{ tmps:=#[.pointer (some ⟨pb,0,none⟩),.int .i64 ow,.int .u32 s,.pointer (some ⟨w.heap.size,0,none⟩),undef,undef,.int .u32 0,.pointer (some ⟨w.heap.size+1,0,none⟩),.pointer (some ⟨w.heap.size+1+1,0,none⟩),.int .i64 x.1,.pointer (some ⟨pb,0,none⟩),.pointer (some ⟨pb,0,none⟩),.pointer (some ⟨pb,0,none⟩),.slice (some ⟨b,0,none⟩) ps.length cap,.int .i64 ow,.pointer (some ⟨b,ow*10,none⟩),.int .u32 s,.bool false,undef,undef,undef,undef,undef,undef,undef,.int .u32 s,.func (.func 148) #[] #[.pointer (some ⟨w.heap.size+1+1+1,0,none⟩)],.int .i64 x.1,undef,undef,undef,undef,undef,undef,undef,undef,undef,undef,undef,undef,undef,undef,undef,undef,undef,undef,undef,undef,undef,undef,undef,undef,undef],defers:=[] }) ?assign ?body ?done ?stop
 case assign=>
  exact zfI
 case body=>
  rintro l pre x W ⟨⟨hp,ho,hc⟩,hB⟩ _;have VI:=Ux x.1 x.2;obtain⟨p,Wc⟩:∃p,ps[x.1]?=some p:=⟨_,Ou VI⟩;have Xj:=hP.below hB T8 hb;have sa:=(hP.sm x.1 p Wc).ha;have sw:=(hP.sm x.1 p Wc).hw;have si:=(hP.sm ow po Vr).hi;have TX:=VV (Y.ba pre);have har:Y.dc ps x.1=p.around:=by unfold Y.dc;rw[Wc]
  have Ym:Y.bW ps x.1=p.wth:=by unfold Y.bW;rw[Wc]
  have hid:Y.fm ps ow=po.inside:=by unfold Y.fm;rw[Vr]
  have ha1:=RM _ _ sa si;have ha2:=Q2 _ _ sw (Y.kF (b:=po.inside) sa);have ha3:=Q2 _ _ TX (Y.qM sw (Y.kF (b:=po.inside) sa));have U6:=Y.FY ps ow (Y.ba pre) x.1;rw[har,Ym,hid,<- Y.ej]at U6;have hB':∀v,Below w w ((W.drew).setCell ↑(w.heap.size+1+1) v):=fun v=>(hB.trans ((Oy _ W).drew)).setCell (p:=↑(w.heap.size+1+1)) zae _;have hko:∀v,KeepsOthers W ((W.drew).setCell ↑(w.heap.size+1+1) v):=fun v=>(Rr W).trans (Ps _ _ _);have hkp:∀v,Y.KpT W ((W.drew).setCell ↑(w.heap.size+1+1) v):=fun v=>Y.KpT.of (((Oy w W).drew).setCell (p:=↑(w.heap.size+1+1)) zae _) hg;have ZA:∀v,Boxed ((W.drew).setCell ↑(w.heap.size+1+1) v) w.heap.size 103 pb:=fun v=>Boxed.kept (W:=W.drew) (show Boxed W.drew _ _ _ from hp) (Tx _ _ _) zae;have hbo:∀v,Boxed ((W.drew).setCell ↑(w.heap.size+1+1) v) (w.heap.size+1) 252 (b,ow*10):=fun v=>Boxed.kept (W:=W.drew) (show Boxed W.drew _ _ _ from ho) (Tx _ _ _) zad;have UM:Boxed ((W.drew).setCell ↑(w.heap.size+1+1) (.int .u32 ((Y.ri ps ow (Y.ba pre)|||(p.wth|||(p.around&&&po.inside)):Nat):Int))) (w.heap.size+1+1) 107 (.int .u32 (Y.ri ps ow (Y.ba (pre++[x])))):=by
   exact zeS
  have hcc:=hc.cell;have hcf:=hc.frozen;gi_wp2;refine dd (S:=(fun V=>V.cell? w=some ↑pb/\V.cell? ↑(w.heap.size+1)=some ↑(b,ow*10)/\V.cell? pb=some (.slice b ps.length cap)/\V.cell? (b,x.1*10+7)=some (.int .u32 p.wth)/\V.cell? (b,x.1*10+6)=some (.int .u32 p.around)/\V.cell? (b,ow*10+5)=some (.int .u32 po.inside))) zab zab zbm ⟨hp.cell,ho.cell,Xj.row,(Xj.at' x.1 p Wc).c7,(Xj.at' x.1 p Wc).c6,(Xj.at' ow po Vr).c5⟩ (fun u0=>?_);clear U6 har Ym hid hp hc ho hP Xj TO hrow1;refine tH 1 pb rfl u0 ?_;refine tH 2 pb rfl u0 ?_;refine tH 3 pb rfl u0 ?_;refine tH 4 (.slice b ps.length cap) rfl u0 ?_;refine tH 5 (.int .i64 x.1) rfl u0 ?_;refine tH 6 (b,x.1*10) rfl u0 ?_;refine tH 7 (b,x.1*10+7) rfl u0 ?_;refine tH 8 (.int .u32 p.wth) rfl u0 ?_;refine tH 9 pb rfl u0 ?_;refine tH 10 pb rfl u0 ?_;refine tH 11 pb rfl u0 ?_;refine tH 12 (.slice b ps.length cap) rfl u0 ?_;refine tH 13 (.int .i64 x.1) rfl u0 ?_;refine tH 14 (b,x.1*10) rfl u0 ?_;refine tH 15 (b,x.1*10+6) rfl u0 ?_;refine tH 16 (.int .u32 p.around) rfl u0 ?_;refine tH 17 (b,ow*10) rfl u0 ?_;refine tH 18 (b,ow*10) rfl u0 ?_;refine tH 19 (b,ow*10+5) rfl u0 ?_;refine tH 20 (.int .u32 po.inside) rfl u0 ?_;refine tH 21 (.int .u32 ((p.around&&&po.inside:Nat):Int)) rfl u0 ?_;refine tH 22 (.int .u32 ((p.wth|||(p.around&&&po.inside):Nat):Int)) rfl u0 ?_;refine zH 0 rfl fun K hK=>?_;go_simp;refine hK.out _ _ u0 (fun u0=>?_);clear hK K;refine tH 23 (.int .u32 ((Y.ri ps ow (Y.ba pre)|||(p.wth|||(p.around&&&po.inside)):Nat):Int)) rfl u0 ?_;refine zH 24 rfl fun K hK=>?_;go_simp;refine hK.out _ _ (by
   have e:∀(a:Addr),a.block≠w.heap.size+1+1->∀v,(W.setCell ↑(w.heap.size+1+1) v).drew.cell? a=W.drew.cell? a:=fun a ha v=>World.cell?_setCell_far W _ _ _ (fun h=>ha h.symm)
   (try dsimp only at u0);(try dsimp only)
   rw[e _ zae,e _ zad,e _ zae,e _ zae,e _ zae,e _ zae];exact u0) (fun _=>?_)
  clear hK K;refine OY zab ?_ _;gi_wp2;exact⟨hko _,hkp _,⟨ZA _,hbo _,UM⟩,hB' _⟩
 case done=>
  rintro D ys W hD VA ⟨⟨_,_,hc⟩,hB⟩ hK;exact zdG
 case stop=>
  exact zfA
namespace Y
theorem rP{ps:List PS}(h:∀(i:Nat) (p:PS),ps[i]?=some p->p.Sm)(i:Nat):bW ps i<4294967296:=by
 unfold bW;split
 ·rename_i p hp;exact(h i p hp).hw
 ·omega
theorem J7{ps:List PS}(h:∀(i:Nat) (p:PS),ps[i]?=some p->p.Sm)(i:Nat):dc ps i<4294967296:=by
 unfold dc;split
 ·rename_i p hp;exact(h i p hp).ha
 ·omega
theorem Eg{ps:List PS}(h:∀(i:Nat) (p:PS),ps[i]?=some p->p.Sm)(ow:Nat):∀(l:List Nat) (o:Nat),o<4294967296->l.foldl (fun o i=>o|||(bW ps i|||(dc ps i&&&fm ps ow))) o<4294967296
 |[],_,ho=>ho
 |i::l,_,ho=>Eg h ow l _ (qM ho (qM (rP h i) (kF (J7 h i))))
theorem Ef{ps:List PS}(h:∀(i:Nat) (p:PS),ps[i]?=some p->p.Sm)(ow:Nat)(l:List Nat):ri ps ow l<4294967296:=Eg h ow l 0 zaa
def dE(ps:List PS)(ow s:Nat):Nat:=if s=0 then bW ps ow&&&(4294967295-2 ^ ow) else ri ps ow (els s)
theorem FZ{ps:List PS}(h:∀(i:Nat) (p:PS),ps[i]?=some p->p.Sm)(ow s:Nat):dE ps ow s<4294967296:=by
 unfold dE;split
 ·exact kF (rP h ow)
 ·exact Ef h ow _
end Y
theorem AP(w:World)(pb b cap:Nat)(ps:List Y.PS)(ow:Nat)(po:Y.PS)(Vr:ps[ow]?=some po)(hP:Y.cd w pb b cap ps)(T8:pb<w.heap.size)(hb:b<w.heap.size):
  () 159 #[pb,(ow:Int),.int .u32 0] w fun e w'=>e=.returned (.int .u32 (Y.bW ps ow&&&(4294967295-2 ^ ow):Nat))/\Below w w w':=by
 have Xx:ow<ps.length:=(Oz.1 Vr).1;have hlen:=hP.len;have T5:Below w w (w.alloc (.cells #[pb] 103)):=(Oy _ w).alloc (Ow _) _;have UU:Below w w ((w.alloc (.cells #[pb] 103)).alloc (.cells #[(b,ow*10)] 252)):=T5.alloc zad _;have hrow1:=(hP.below T5 T8 hb).row;have h7:=((hP.below UU T8 hb).at' ow po Vr).c7;have Xk:=(O4 (w.alloc (.cells #[pb] 103)) 252 (b,ow*10)).cell;simp only[World.size_alloc]at Xk;have Ym:Y.bW ps ow=po.wth:=by unfold Y.bW;rw[Vr]
 have WB:=(hP.sm ow po Vr).hw;have ha:bits BinOp.andNot IntKind.u32 (po.wth:Int) ((2:Int) ^ ow)=((po.wth&&&(4294967295-2 ^ ow):Nat):Int):=by
  rw[jH,Td _ _ WB (gI zaa)]
 rw[Ym];generalize hr:po.wth&&&(4294967295-2 ^ ow)=r at *;go_enter func159,ntmps159;go_wp2;generalize(w.alloc (.cells #[pb] 103)).alloc (.cells #[(b,ow*10)] 252)=W at *;go_region_with (go_at_call 99;refine(iR ow _ zaa).mono ?_;rintro e w9 ⟨rfl,Pg⟩;rw[Pg];clear Pg w9)
 all_goals go_wp2
 all_goals go_ret
 all_goals exact⟨rfl,UU.trans (Oy _ W).drew⟩
theorem C4(w:World)(pb b cap:Nat)(ps:List Y.PS)(ow:Nat)(po:Y.PS)(Vr:ps[ow]?=some po)(s:Nat)(hs:s<4294967296)(Ux:∀i,i∈Y.els s->i<ps.length)(hP:Y.cd w pb b cap ps)(T8:pb<w.heap.size)(hb:b<w.heap.size)
  (hg:1<w.heap.size) (hT:TabAt 1 Lib.deBruijn32tab w):
  () 159 #[pb,(ow:Int),.int .u32 s] w fun e w'=>e=.returned (.int .u32 (Y.dE ps ow s))/\Below w w w':=by
 unfold Y.dE;by_cases h0:s=0
 ·subst h0;rw[OD rfl];exact AP w pb b cap ps ow po Vr hP T8 hb
 ·rw[OB h0];exact O3.1 (AO 3 zaa w pb b cap ps ow po Vr s hs h0 Ux (Y.Ef hP.sm ow) hP T8 hb hg hT)
theorem ny(w:World)(pb b cap:Nat)(ps:List Y.PS)(s:Nat)(hs:s<4294967296)(Ux:∀i,i∈Y.els s->i<ps.length)(hP:Y.cd w pb b cap ps)(T8:pb<w.heap.size)(hb:b<w.heap.size)
  (hg:1<w.heap.size) (hT:TabAt 1 Lib.deBruijn32tab w):
  () 107 #[pb,.int .u32 s] w fun e w'=>e=.returned (.int .u32 (Y.inn ps s))/\Below w w w':=
 O3.1 (xS 3 zaa w pb b cap ps s hs Ux hP T8 hb hg hT)
