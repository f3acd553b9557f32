import Derived.Test.YtlmdcnflglmkeaaGreatDoorProg
import Derived.WalkLawsBesides
import Derived.WalkSpells
import Derived.Deep.WholeRow
import Derived.StillTailTactics
import Derived.Deep.RegionHeld
import Derived.PlainAid
import Derived.Deep.Light
import Derived.Lib.ItoaNum
import Derived.Lib.ParseIntB
import Derived.Shelf.Small.Bits
import Derived.Shelf.Spec.TrailingZeros
import Derived.RangeFuncNested
import Derived.RangeFuncBound
import Derived.Shelf.RegionOpen
import Derived.OwnWalkIn
import Derived.LoopNIn
import Derived.LoopIn
set_option maxRecDepth 100000
set_option maxHeartbeats 8000000
namespace Go.Proofs.YtlmdcnflglmkeaaGreatDoor
variable {zp:Prop}
theorem zcP (h:zp:=by
 have hp:=Nf k;have e1:s=2 ^ k*(2*m+1)+0:=zaa;have e2:s-1=2 ^ k*(2*m)+(2 ^ k-1):=by
  have:2 ^ k*(2*m+1)=2 ^ k*(2*m)+2 ^ k:=by rw [Nat.mul_add,Oz]
  omega
 have t1:∀ j,s.testBit j=if j<k then false else (2*m+1).testBit (j-k):=by
  intro j;rw [e1,Oj _ hp,PB]
 have t2:∀ j,(s-1).testBit j=if j<k then (2 ^ k-1).testBit j else (2*m).testBit (j-k):=by
  intro j;rw [e2,Oj _ zaa]
 refine ⟨hk,?_,?_,?_⟩
 ·rw [t1,KQ zaa,OJ,OC];simp
 ·intro j hj;rw [t1,LA hj]
 ·intro j;rw [OS,t1,t2];by_cases hj:j<k
  ·rw [LA hj,LA hj];rfl
  ·rw [KQ hj,KQ hj];by_cases hjk:j=k
   ·subst hjk;rw [OJ,OC,OC];simp
   ·obtain ⟨i,hi⟩:∃ i,j-k=i+1:=⟨j-k-1,zaa⟩;rw [hi,PC,PC,show (2*m+1) / 2=m by omega,show 2*m / 2=m by omega];simp [hjk]):zp:=h
theorem zdy (h:zp:=by
 have hc:=hc.cell;rw [Pg.b7,hys] at hc;gi_wp2;refine ⟨zad,.inl ⟨_,_,rfl,Mi hK,?_⟩⟩;exact ⟨_,PN rfl _ _ _,rfl,hB.trans (NV (w:=w) (u0 _) W D _ _ zbm hK rfl rfl)⟩):zp:=h
theorem zd8 (h:zp:=by
 gi_wp2;refine Ni (Mw rfl _ _ _) rfl ?_;exact ⟨⟨_,rfl⟩,.inr ⟨_,⟨_,hE.symm⟩,hJx3⟩⟩):zp:=h
theorem zeD (h:zp:=by
 rw [hsn];exact P8 (W:=W.drew) _ (show Boxed W.drew _ _ _ from hc)):zp:=h
theorem zeG (h:zp:=by
 have:=MK s.testBit (List.range 32);rw [Oc] at this;exact this):zp:=h
theorem zeY (h:zp:=by
 exact ⟨⟨_,rfl⟩,.inl ⟨pre,he.symm,hJs⟩⟩):zp:=h
theorem zfe (h:zp:=by
 rintro D c pre W _ _ h _;exact h.elim):zp:=h
theorem zfj (h:zp:=by
 go_wp2;go_ret;exact ⟨rfl,rfl⟩):zp:=h
theorem zfk (h:zp:=by
 rw [he,hf] at h1;simp at h1;omega):zp:=h
theorem zfl (h:zp:=by
 intro l x W K hK;gi_wp2;exact hK):zp:=h
theorem zfp (h:zp:=by
 go_ret;exact ⟨rfl,rfl⟩):zp:=h
theorem zaa (h:zp:=by omega):zp:=h
theorem zab (h:zp:=by kernel_rfl):zp:=h
theorem zac (h:zp:=by decide):zp:=h
theorem zad (h:zp:=by simp):zp:=h
theorem zae (h:zp:=by rfl):zp:=h
theorem zaf (h:zp:=by simp;omega):zp:=h
theorem zag (h:zp:=by unfold maxLen;omega):zp:=h
theorem zah (h:zp:=by go_num):zp:=h
theorem zai (h:zp:=by (try dsimp only at hSw);go_simp;(try with_reducible rfl)):zp:=h
theorem zam (h:zp:=by assumption):zp:=h
theorem zao (h:zp:=by simp [Value.oneCell']):zp:=h
theorem zau (h:zp:=by cases h):zp:=h
theorem zaB (h:zp:=by simpa using h):zp:=h
theorem zaN (h:zp:=by simp at hi;omega):zp:=h
theorem zaQ (h:zp:=by decide +kernel):zp:=h
theorem zbh (h:zp:=by rw [h.size];exact u0 _):zp:=h
theorem zbi (h:zp:=by rintro ⟨_,_,h⟩;exact h):zp:=h
theorem zbm (h:zp:=by simp at hD;omega):zp:=h
theorem zbq (h:zp:=by simpa using hi):zp:=h
theorem zbr (h:zp:=by simpa using hx):zp:=h
theorem zbT (h:zp:=by simpa [isD] using hd.1):zp:=h
instance:Coe Int Value:=⟨.int .i64⟩
instance:CoeFun Unit fun _=>Nat->Array Value->World->(Ending->World->Prop)->Prop:=⟨fun _=>Calls Tryz.prog⟩
instance:Coe Nat Value:=⟨fun b=>.pointer (some ⟨b,0,none⟩)⟩
instance:Coe World Nat:=⟨fun w=>w.heap.size⟩
instance:Coe Nat Addr:=⟨fun b=>⟨b,0,none⟩⟩
instance:Coe ByteArray Value:=⟨.string⟩
instance:Coe Bool Value:=⟨.bool⟩
abbrev ph:=@Array.getElem?_eq_some_iff
abbrev u0:=@Nat.le_refl
abbrev ym:=@List.getElem?_eq_getElem
abbrev Fq:=@Nat.le_trans
abbrev FP:=@Go.RowKit.Below.refl
abbrev JJ:=@Go.cell_of_row
abbrev Ku:=@List.getElem?_eq_some_iff
abbrev KQ:=@if_neg
abbrev Li:=@Go.AllReady.cons
abbrev LA:=@if_pos
abbrev LC:=@Go.heap_alloc_new
abbrev LD:=@List.mem_singleton
abbrev LF:=@Go.Calls.mono
abbrev LG:=@List.mem_of_getElem?
abbrev LH:=@List.getD_eq_getElem?_getD
abbrev LI:=@List.length_map
abbrev LJ:=@List.getElem?_map
abbrev LK:=@List.length_set
abbrev LL:=@Nat.zero_le
abbrev LM:=@Go.World.cell?_of_block
abbrev LO:=@List.length_append
abbrev LP:=@Go.heap_setCell_same
abbrev LQ:=@Go.wp_region_held_drew
abbrev LR:=@List.mem_append
abbrev LU:=@Nat.lt_of_lt_of_le
abbrev LW:=@Go.AllReady.nil
abbrev LX:=@Go.wpAnyH_done
abbrev LY:=@Go.World.block_lt_of_cell?
abbrev LZ:=@Option.map_eq_some_iff
abbrev L1:=@Bool.and_eq_true
abbrev L3:=@List.getElem?_set_self
abbrev L4:=@Go.callsIn_wide
abbrev L5:=@Go.Boxed.new
abbrev L6:=@List.mem_iff_getElem?
abbrev L7:=@List.mem_or_eq_of_mem_set
abbrev L8:=@List.getElem?_eq_none
abbrev L9:=@Go.World.ownsRow.lt
abbrev Ma:=@Go.RowKit.Below.heap_setCell
abbrev Mb:=@List.getElem?_set_ne
abbrev Mc:=@List.mem_map
abbrev Md:=@Go.OwnFrom.and
abbrev Me:=@Go.AllReadyH.cons
abbrev Mf:=@List.mem_cons_self
abbrev Mg:=@List.mem_cons_of_mem
abbrev Mh:=@Go.World.cell?_alloc_lt
abbrev Mi:=@Go.run_takeDeferred
abbrev Mj:=@List.flatMap_append
abbrev Mk:=@decide_eq_false
abbrev Ml:=@List.getElem_mem
abbrev Mm:=@Nat.lt_of_le_of_lt
abbrev Mn:=@Go.World.putObj_heap_other
abbrev Mp:=@Nat.or_lt_two_pow
abbrev Mq:=@Go.Oper.semAt_some
abbrev Mr:=@Option.some.inj
abbrev Ms:=@Go.callsIn_of_wp_marks
abbrev Mt:=@Go.ByteArray.toList_eq
abbrev Mu:=@List.map_append
abbrev Mv:=@Go.KeepsOthers.setCell
abbrev Mw:=@Go.results_none
abbrev Mx:=@decide_eq_true
abbrev My:=@List.getElem?_append_left
abbrev Mz:=@Go.World.ownsRow_nil
abbrev MA:=@Go.World.size_alloc
abbrev MB:=@Go.RowKit.Below.heap_alloc
abbrev MC:=@List.getElem?_take_of_lt
abbrev MD:=@List.mem_range
abbrev ME:=@List.getElem?_append_right
abbrev MF:=@List.length_cons
abbrev MG:=@Go.boxed_own
abbrev MH:=@List.take_length
abbrev MI:=@List.length_take
abbrev MJ:=@List.getElem_set
abbrev MK:=@List.length_filter_le
abbrev ML:=@Go.KeepsFrom.refl
abbrev MN:=@Array.getElem?_toList
abbrev MO:=@List.foldl_append
abbrev MP:=@List.flatMap_cons
abbrev MQ:=@Go.wpList_load_mid
abbrev MR:=@Nat.add_assoc
abbrev MU:=@Nat.pow_le_pow_right
abbrev MX:=@Go.Own.from
abbrev MY:=@Go.wpAny_done
abbrev MZ:=@List.take_add_one
abbrev M0:=@Go.AllReadyH.nil
abbrev M4:=@List.getElem_append_right
abbrev M5:=@Array.getElem?_setIfInBounds_ne
abbrev M6:=@Go.info_parts
abbrev M7:=@Go.World.ownsRow.frozenAt
abbrev M8:=@Go.wpStill_nil
abbrev Na:=@List.getElem_append_left
abbrev Nc:=@List.mem_filter
abbrev Nf:=@Nat.two_pow_pos
abbrev Ng:=@Go.grownBy_putObj'
abbrev Nh:=@of_decide_eq_true
abbrev Ni:=@Go.bodyPost_ret
abbrev Nj:=@Array.getElem?_setIfInBounds_self_of_lt
abbrev Nk:=@List.getLast?_eq_getElem?
abbrev Nl:=@List.append_assoc
abbrev Nn:=@List.filter_append
abbrev No:=@Go.wp_region_any
abbrev Np:=@Nat.and_le_left
abbrev Nq:=@Bool.and_false
abbrev Nr:=@List.filter_cons_of_neg
abbrev Ns:=@List.filter_cons_of_pos
abbrev Nt:=@Go.World.frozen?_alloc_old
abbrev Nu:=@Go.World.putObj_heap_same
abbrev Nv:=@Go.ownFrom_below
abbrev Nw:=@beq_eq_false_iff_ne
abbrev Ny:=@List.length_pos_iff
abbrev Nz:=@List.length_singleton
abbrev NA:=@Nat.lt_or_ge
abbrev NB:=@List.length_eq_zero_iff
abbrev NC:=@List.mem_of_getLast?
abbrev ND:=@Go.RowKit.Below.block
abbrev NF:=@List.pairwise_cons
abbrev NG:=@List.mem_cons
abbrev NH:=@Go.World.ownsRow.alloc
abbrev NI:=@List.mem_map_of_mem
abbrev NJ:=@List.eq_nil_of_length_eq_zero
abbrev NK:=@List.getElem?_set
abbrev NL:=@List.ext_getElem?
abbrev NM:=@Nat.zero_add
abbrev NN:=@List.all_eq_true
abbrev NO:=@Go.Proofs.enters_of
abbrev NP:=@List.getElem_map
abbrev NQ:=@List.getElem?_cons_succ
abbrev NR:=@List.map_cons
abbrev NS:=@Bool.false_and
abbrev NT:=@List.filter_eq_nil_iff
abbrev NU:=@List.filter_congr
abbrev NV:=@Go.belowK_b
abbrev NW:=@List.getElem_of_mem
abbrev NX:=@List.append_nil
abbrev NY:=@Go.below_drewN
abbrev NZ:=@List.getLast?_eq_none_iff
abbrev N0:=@List.drop_eq_getElem_cons
abbrev N1:=@Go.World.frozen?_setCell
abbrev N2:=@List.getElem?_toArray
abbrev N3:=@List.getElem_set_self
abbrev N4:=@Go.u32_or_nat
abbrev N5:=@List.mem_flatMap
abbrev N6:=@List.any_eq_true
abbrev N7:=@Go.World.cell?_setCell_same
abbrev N8:=@List.eq_of_mem_replicate
abbrev N9:=@List.map_map
abbrev Oa:=@Nat.mul_le_mul_right
abbrev Ob:=@List.mem_of_mem_take
abbrev Oc:=@List.length_range
abbrev Od:=@Int.toNat_natCast
abbrev Oe:=@List.foldl_cons
abbrev Of:=@Go.Proofs.Tryz.zeroValue4
abbrev Og:=@Go.setRow_other
abbrev Oh:=@Go.ByteArray.size_append'
abbrev Oi:=@Bool.true_or
abbrev Oj:=@Nat.testBit_two_pow_mul_add
abbrev Ok:=@Go.WideMaps.keyOf_string_mk
abbrev Ol:=@Go.World.frozen?_of_block
abbrev Om:=@List.isEmpty_iff
abbrev On:=@Go.IntKind.wrap_u64
abbrev Oo:=@Go.KeepsOthers.drew
abbrev Oq:=@Array.toList_setIfInBounds
abbrev Ot:=@Go.Maps.has_put_other
abbrev Ou:=@Classical.byContradiction
abbrev Ov:=@List.getElem?_eq_none_iff
abbrev Ow:=@Array.all_eq_true_iff_forall_mem
abbrev Ox:=@decide_eq_true_eq
abbrev Oy:=@Nat.pow_lt_pow_right
abbrev Oz:=@Nat.mul_one
abbrev OA:=@Nat.testBit_two_pow
abbrev OB:=@Go.wpIn_rangeFunc_ownH
abbrev OC:=@Nat.testBit_zero
abbrev OD:=@Nat.and_le_right
abbrev OE:=@List.length_drop
abbrev OF:=@Go.u32_and_nat
abbrev OG:=@Go.Lib.size_eq
abbrev OH:=@Go.leaves_cons
abbrev OI:=@Go.Proofs.Tryz.sizeOf4
abbrev OJ:=@Nat.sub_self
abbrev OK:=@List.set_set
abbrev OL:=@List.length_take_of_le
abbrev OM:=@List.filter_filter
abbrev ON:=@List.map_set
abbrev OO:=@List.getElem?_take
abbrev OP:=@Nat.testBit_shiftRight
abbrev OQ:=@Nat.div_div_eq_div_mul
abbrev OR:=@List.mem_of_mem_eraseP
abbrev OS:=@Nat.testBit_and
abbrev OT:=@Nat.not_lt_zero
abbrev OU:=@List.nodup_cons
abbrev OV:=@List.any_append
abbrev OW:=@Bool.false_or
abbrev OX:=@Bool.true_and
abbrev OY:=@List.contains_iff_mem
abbrev OZ:=@List.set_append_right
abbrev O0:=@Nat.lt_trichotomy
abbrev O1:=@Nat.le_succ_of_le
abbrev O2:=@Go.Proofs.Tryz.isAgg4
abbrev O3:=@Go.Maps.string_keyed
abbrev O4:=@List.mem_of_mem_drop
abbrev O5:=@List.exists_cons_of_ne_nil
abbrev O6:=@Go.wp_loop_rounds
abbrev O7:=@Nat.le_add_right
abbrev O8:=@Go.Proofs.bits_and_u32_nat
abbrev O9:=@getElem!_pos
abbrev Pa:=@List.filter_cons
abbrev Pb:=@Array.getElem?_eq_getElem
abbrev Pc:=@Go.wpIn_rangeFunc_ownF
abbrev Pd:=@Go.World.cell?_setCells_out
abbrev Pe:=@Bool.or_false
abbrev Pf:=@List.set_eq_of_length_le
abbrev Ph:=@Bool.eq_iff_iff
abbrev Pj:=@UInt8.toNat_inj
abbrev Pk:=@Go.Proofs.Tryz.zeroValue3
abbrev Pl:=@List.range_succ
abbrev Pm:=@List.filter_map
abbrev Pn:=@Go.Maps.atKey_put_other
abbrev Po:=@Go.getD_set_ne
abbrev Pp:=@List.findIdx?_eq_some_iff_getElem
abbrev Pq:=@List.all_eq_false
abbrev Pr:=@Nat.pow_succ
abbrev Ps:=@Nat.zero_mul
abbrev Pt:=@List.take_of_length_le
abbrev Pu:=@Nat.testBit_lt_two_pow
abbrev Pv:=@List.getElem?_inj
abbrev Pw:=@Go.Maps.atKey_put_same
abbrev Px:=@List.flatMap_singleton
abbrev Py:=@List.any_eq_false
abbrev Pz:=@List.mem_set
abbrev PB:=@Nat.zero_testBit
abbrev PC:=@Nat.testBit_succ
abbrev PD:=@Nat.lt_succ_self
abbrev PE:=@List.all_cons
abbrev PG:=@Bool.not_true
abbrev PH:=@Go.callsIn_of_wp
abbrev PI:=@List.sum_cons
abbrev PJ:=@Go.setRow_size
abbrev PK:=@Go.Lib.bitLenAux_bounds
abbrev PN:=@Go.results_tmp
abbrev PO:=@List.getElem?_of_mem
abbrev PQ:=@List.mem_append_left
abbrev PR:=@Go.rounds_succ
abbrev PU:=@Nat.div_le_div_right
abbrev PW:=@Go.Proofs.Tryz.zeroValue5
abbrev PX:=@Nat.testBit_two_pow_sub_succ
abbrev PY:=@List.prefix_append_right_inj
abbrev PZ:=@Nat.min_eq_left
abbrev P0:=@List.zip_append
abbrev P1:=@List.length_reverse
abbrev P2:=@Go.run_enterLoop_outer
abbrev P3:=@List.map_congr_left
abbrev P4:=@List.getElem?_range
abbrev P5:=@Go.Proofs.Tryz.sizeOf3
abbrev P6:=@Nat.succ_mul
abbrev P7:=@Bool.or_true
abbrev P8:=@Go.Boxed.set
abbrev P9:=@Nat.add_sub_cancel
abbrev Qa:=@Go.u32_andNot_nat
abbrev Qb:=@Int.tmod_eq_emod_of_nonneg
abbrev Qc:=@Go.World.ownsMap_made
abbrev Qd:=@Array.getElem?_append_left
abbrev Qe:=@List.prefix_append
abbrev Qf:=@beq_iff_eq
abbrev Qg:=@Option.toList_some
abbrev Qh:=@Go.ready_mono
abbrev Qi:=@Go.wpAnyH_take
abbrev Qj:=@Bool.not_eq_true'
abbrev Qk:=@Go.Proofs.Tryz.isAgg3
abbrev Ql:=@Go.ownFrom_keepsFrom
abbrev Qm:=@Go.KeepsOthers.alloc
abbrev Qn:=@Go.run_endLoop
abbrev Qo:=@Go.setRow_heap
abbrev Qp:=@Nat.lt_succ_of_lt
abbrev Qq:=@Go.plainElem_int
abbrev Qr:=@List.cons_append
abbrev Qs:=@List.mem_reverse
abbrev Qt:=@Go.grownBy_setCell'
abbrev Qu:=@Go.wpIn_wide
abbrev Qv:=@Go.run_store
abbrev Qw:=@Go.wpAny_take
abbrev Qx:=@Nat.ne_of_lt
abbrev Qy:=@Nat.add_zero
abbrev Qz:=@Nat.le_of_lt
abbrev QA:=@List.prefix_rfl
abbrev QB:=@List.nil_append
abbrev QC:=@Nat.testBit_or
abbrev QD:=@List.nodup_nil
abbrev QE:=@Nat.le_zero
abbrev QF:=@Go.Lib.mk_data
abbrev QG:=@List.drop_zero
abbrev QH:=@Go.wpOp_mono
abbrev QI:=@Go.mem_ready
open Tryz
variable {g B t id base size n i k s b off cap:Nat} {w' W W':World} {p:Tmp} {c:Int} {op o:Oper} {rest:List Oper} {fn:Func} {ty e:TypeId} {R:Ending->World->Prop} {l:List ByteArray} {xs:List Value} {args:Array Value}
section
open Go.RowKit
variable {P:Program}
structure gV (g:Nat) (w w':World):Prop where
 os:w'.os=w.os
 tape:w'.tape=w.tape
 output:w'.output=w.output
 size:w'.heap.size=w.heap.size
 block:∀ k,k≠g->w'.heap[k]?=w.heap[k]?
theorem gV.below {a w:World} (h:gV g w w') (hb:Below B a w) (hB:B<=g):Below B a w' :=
 hb.trans ⟨h.os,h.tape,h.output,zbh,fun k hk=>h.block k zaa⟩
theorem gV.cell {w:World} (h:gV g w w') {p:Addr} (hp:p.block≠g):w'.cell? p=w.cell? p:=LM (w:=w) (h.block p.block hp)
theorem gP (w:World) (g:Nat) (cs:Array Value):gV g w (w.setRow g cs):=⟨rfl,rfl,rfl,PJ w g cs,fun k hk=>Og w g k cs hk⟩
theorem aa (w:World) (g o:Nat) (v:Value):gV g w (w.setCell ⟨g,o,none⟩ v):=⟨rfl,rfl,rfl,by simp [World.setCell],fun k hk=>Ma _ _ _ _ hk⟩
theorem gV.I9 {w:World} (h:gV g w.drew w'):gV g w w':=⟨h.os,h.tape,h.output,h.size,h.block⟩
theorem km {w:World} {c:Array Value} {t:TypeId} {fz:Nat×Nat} (hg:w.heap[g]?=some (.cells c t fz)):w.rangeAt g 0 c.toList:=by
 intro j v hj;rw [NM,JJ w g j c t fz hg];simpa using hj
theorem xG {cells:Array Value} (h:cells.toList.all (·.oneCell')=true):cells.all (·.oneCell')=true:=by
 rw [Ow];intro v hv;exact NN.1 h v (by simpa using hv)
theorem kB {a:Act} {w:World} {K:Act->World->Prop} {Q:Exit->Act->World->Prop} (ty:TypeId) (x y:Operand) (ho:op.op = .store ty x y)
  (g:Nat) (t:TypeId) (c cells:Array Value) (hx:a.eval x = .pointer (some ⟨g,0,none⟩)) (hy:a.eval y = .agg cells)
  (hg:w.heap[g]?=some (.cells c t (0,0))) (hi:(P.info? ty).map (·.size)=some cells.size) (hs:c.size=cells.size) (h1:cells.toList.all (·.oneCell')=true)
  (h:K (a.put op.dst undef) (w.setRow g cells)):op.wp P a w K Q:=by
 unfold Oper.wp execOp;simp only [ho,hx,hy,Instr.storeAt,Instr.sureAddr,Sem.run_bind,Sem.run_pure,Result.andThen_ok,run_storeVar_row w g t ty c cells hg hi hs (xG h1)];exact h
theorem eP {ops:Array Oper} {a:Act} {w:World} {Q:Exit->Act->World->Prop} (hgd:op.guard=none) (ty:TypeId) (x y:Operand) (ho:op.op = .store ty x y)
  (g:Nat) (t:TypeId) (c cells:Array Value) (hx:a.eval x = .pointer (some ⟨g,0,none⟩)) (hy:a.eval y = .agg cells)
  (hg:w.heap[g]?=some (.cells c t (0,0))) (hi:(P.info? ty).map (·.size)=some cells.size) (hs:c.size=cells.size) (h1:cells.toList.all (·.oneCell')=true)
  (h:wpList P ops Q rest (a.put op.dst undef) (w.setRow g cells)):wpList P ops Q (op::rest) a w :=
 wpList_plain hgd fun _ hK=>kB ty x y ho g t c cells hx hy hg hi hs h1 (hK _ _ h)
theorem aI {ops:Array Oper} {a:Act} {w:World} {Q:Exit->Act->World->Prop} (hgd:op.guard=none) (ty:TypeId) (x y:Operand) (ho:op.op = .store ty x y)
  (t:TypeId) (c cells:Array Value) (hx:a.eval x = .pointer (some ⟨w,0,none⟩)) (hy:a.eval y = .agg cells)
  (hi:(P.info? ty).map (·.size)=some cells.size) (hs:c.size=cells.size) (h1:cells.toList.all (·.oneCell')=true)
  (h:wpList P ops Q rest (a.put op.dst undef) (w.alloc (.cells cells t))):wpList P ops Q (op::rest) a (w.alloc (.cells c t)) :=
 eP hgd ty x y ho w t c cells hx hy (LC w _) hi hs h1 (by rw [World.setRow_alloc_new];exact h)
theorem iw (h:fn.results=#[.cell p ty]) (tmps:Array Value) (P:Program) (w:World) :
  (results fn tmps).run P w=((asAddr (tmps.getD p undef)).run P w).andThen fun a w₁=>(loadVar ty a).run P w₁:=by
 simp only [results,h];simp [Sem.run_bind,Result.andThen]
theorem dQ {a:Act} {w:World} (h:fn.results=#[.cell p ty]) (g:Nat) (t:TypeId) (c:Array Value) (fz:Nat×Nat) (d:TypeDesc)
  (hp:a.tmps.getD p undef = .pointer (some ⟨g,0,none⟩)) (hg:w.heap[g]?=some (.cells c t fz)) (hu:P.underlying ty=some d) (hd:d.isRow=true) (hi:(P.info? ty).map (·.size)=some c.size)
  (hdf:a.defers=[]) (hR:R (.returned (.agg c)) w):bodyPost P fn R .ret a w:=by
 refine Ni (v := .agg c) ?_ hdf hR;rw [iw h,hp];have:=run_loadVar_mid (P:=P) w g 0 ty c.toList d (km hg) hu hd zbq;simpa [asAddr] using this
theorem eH {Q:Exit->Act->World->Prop} {a:Act} {w:World} {l:List Oper} (n:Nat) (hm:P.follows .mixedOrders=true) (hB:Region.lexTailB .any l.toArray n=true)
  (h:wpStill P l.toArray w.drew (fun a'=>wpList P l.toArray Q (l.drop n) a' w.drew) (l.take n) a):(Code.region id l.toArray true).wp P Q a w :=
 wp_region_still_tail n hm hB h
theorem aD {base':Nat} {v:Value} {w:World} (h:w.ownsRow base e size v n xs) (hb:base'<=base):w.ownsRow base' e size v n xs:=by
 refine ⟨h.1,?_⟩
 rcases h.2 with h' | ⟨k,cap,cur,hv,hb',r⟩
 ·exact .inl h'
 ·exact .inr ⟨k,cap,cur,hv,zaa,r⟩
theorem bP (w:World) (o p:Obj):((w.alloc o).alloc p).heap[w.heap.size+1]?=some p:=by
 have:=LC (w.alloc o) p
 rwa [MA] at this
theorem eN (w:World) (o p:Obj):((w.alloc o).alloc p).heap[w.heap.size]?=some o:=by
 rw [MB _ _ _ zad];exact LC w o
theorem dS {P:Program} {md:Region.Mode} {ops:Array Oper} {Q:Exit->Act->World->Prop} {S:World->Prop} {oi:Oper} {v:Value} {d:Option Tmp} {fuel:Nat} {listed:Array Bool} {a:Act} {w:World} (hi:ops[i]?=some oi) (hd:oi.dst=d)
  (hs:Region.noSelect ops=true) (hf:Region.free md ops listed i=true) (hr:(Region.ready md ops listed).contains i=true)
  (hQ:∀ c a w,Q (.panic c) (a.put d v) w->Q (.panic c) a w) (hy:YieldsIf P ops S oi v a) (hS:S w)
  (h:wpAnyH P md ops Q S fuel (listed.setIfInBounds i true) (a.put d v) w):wpAnyH P md ops Q S (fuel+1) listed a w:=by
 subst hd;exact Qi hi hs hf hr hQ hy hS h
section
variable {P:Program} {md:Region.Mode} {ops:Array Oper} {Q:Exit->Act->World->Prop} {S:World->Prop} {oi:Oper} {fuel:Nat} {listed:Array Bool} {a:Act} {w:World}
theorem tH (i:Nat) (v:Value) (hi:ops[i]?=some oi) (hS:S w) (h:wpAnyH P md ops Q S fuel (listed.setIfInBounds i true) (a.put oi.dst v) w) (hs:Region.noSelect ops=true:=by kernel_rfl) (hf:Region.free md ops listed i=true:=by kernel_rfl) (hr:(Region.ready md ops listed).contains i=true:=by kernel_rfl) (hQ:∀ c a w,Q (.panic c) (a.put oi.dst v) w->Q (.panic c) a w:=by exact fun _ _ _ h=>h) (hy:YieldsIf P ops S oi v a:=by exact Or.inl ⟨zae,fun w hSw=>zai⟩):wpAnyH P md ops Q S (fuel+1) listed a w:=Qi hi hs hf hr hQ hy hS h
theorem tG (i:Nat) (v:Value) (hi:ops[i]?=some oi) (hS:S w) (h:wpAnyH P md ops Q S fuel (listed.setIfInBounds i true) (a.put oi.dst v) w) (hs:Region.noSelect ops=true:=by kernel_rfl) (hf:Region.free md ops listed i=true:=by kernel_rfl) (hr:(Region.ready md ops listed).contains i=true:=by kernel_rfl) (hQ:∀ c a w,Q (.panic c) (a.put oi.dst v) w->Q (.panic c) a w:=by exact fun _ _ _ h=>h) (hy:YieldsIf P ops S oi v a:=by exact Or.inl ⟨zab,fun w hSw=>zai⟩):wpAnyH P md ops Q S (fuel+1) listed a w:=Qi hi hs hf hr hQ hy hS h
theorem tD (d:Option Tmp) (i:Nat) (v:Value) (hi:ops[i]?=some oi) (hS:S w) (h:wpAnyH P md ops Q S fuel (listed.setIfInBounds i true) (a.put d v) w) (hd:oi.dst=d:=by rfl) (hs:Region.noSelect ops=true:=by kernel_rfl) (hf:Region.free md ops listed i=true:=by kernel_rfl) (hr:(Region.ready md ops listed).contains i=true:=by kernel_rfl) (hQ:∀ c a w,Q (.panic c) (a.put d v) w->Q (.panic c) a w:=by exact fun _ _ _ h=>h) (hy:YieldsIf P ops S oi v a:=by exact Or.inl ⟨zae,fun w hSw=>zai⟩):wpAnyH P md ops Q S (fuel+1) listed a w:=dS hi hd hs hf hr hQ hy hS h
theorem tU (d:Option Tmp) (i:Nat) (hi:ops[i]?=some oi) (hS:S w) (h:wpAnyH P md ops Q S fuel (listed.setIfInBounds i true) (a.put d undef) w) (hd:oi.dst=d:=by rfl) (hs:Region.noSelect ops=true:=by kernel_rfl) (hf:Region.free md ops listed i=true:=by kernel_rfl) (hr:(Region.ready md ops listed).contains i=true:=by kernel_rfl) (hQ:∀ c a w,Q (.panic c) (a.put d undef) w->Q (.panic c) a w:=by exact fun _ _ _ h=>h) (hy:YieldsIf P ops S oi undef a:=by exact Or.inr ⟨zab,rfl⟩):wpAnyH P md ops Q S (fuel+1) listed a w:=dS hi hd hs hf hr hQ hy hS h
theorem tA (i:Nat) (v:Value) (hi:ops[i]?=some oi) (h:wpAny P md ops Q fuel (listed.setIfInBounds i true) (a.put oi.dst v) w) (hs:Region.noSelect ops=true:=by kernel_rfl) (hf:Region.free md ops listed i=true:=by kernel_rfl) (hr:(Region.ready md ops listed).contains i=true:=by kernel_rfl) (hQ:∀ c a w,Q (.panic c) (a.put oi.dst v) w->Q (.panic c) a w:=by exact fun _ _ _ h=>h) (hy:Yields P ops oi v a:=by exact Or.inl ⟨zae,fun w=>by go_simp⟩):wpAny P md ops Q (fuel+1) listed a w:=Qw hi hs hf hr hQ hy h
theorem yH (rs:List Nat) (h:AllReadyH P md ops Q S fuel listed a w rs) (hr:Region.ready md ops listed=rs:=by kernel_rfl) (hne:rs≠[]:=by simp):wpAnyH P md ops Q S (fuel+1) listed a w:=wpAnyH_ready hr hne h
theorem zH (i:Nat) (ho:ops[i]?=some oi) (h:∀ K':Act->World->Prop,Shut (∀ a w,S w->(S w->wpAnyH P md ops Q S fuel (listed.setIfInBounds i true) a w)->K' a w)->if Region.wanted oi (yielded ops a.tmps)=true then Oper.wp P oi a w K' Q else K' (a.put oi.dst undef) w) (hr:Region.ready md ops listed=[i]:=by kernel_rfl):wpAnyH P md ops Q S (fuel+1) listed a w:=wpAnyH_ready hr zad (Me ho h M0)
theorem yA (rs:List Nat) (h:AllReady P md ops Q fuel listed a w rs) (hr:Region.ready md ops listed=rs:=by kernel_rfl) (hne:rs≠[]:=by simp):wpAny P md ops Q (fuel+1) listed a w:=wpAny_ready hr hne h
theorem zA (i:Nat) (ho:ops[i]?=some oi) (h:∀ K':Act->World->Prop,(∀ a w,wpAny P md ops Q fuel (listed.setIfInBounds i true) a w->K' a w)->if Region.wanted oi (yielded ops a.tmps)=true then Oper.wp P oi a w K' Q else K' (a.put oi.dst undef) w) (hr:Region.ready md ops listed=[i]:=by kernel_rfl):wpAny P md ops Q (fuel+1) listed a w:=wpAny_ready hr zad (Li ho h LW)
end
end
section
open Go.RowKit
open Go.PlainAid (bt get_bt bt_nonneg bt_le bt_end)
namespace Ref
theorem Cm (a b:ByteArray):(a.toList == b.toList)=decide (a=b):=by
 rw [Ph];simp only [beq_iff_eq,decide_eq_true_eq,Lib.toList_data];constructor
 ·intro h;cases a;cases b
  simp only at h
  congr 1
  exact Array.ext' h
 ·intro h;rw [h]
def cn (s t:ByteArray):Bool:=decide (t.size<=s.size)&&decide (s.extract 0 t.size=t)
def fj (a b:Int):Int:=if a=0\/b<a then b else a
def small (x:Int):Bool:=decide (97<=x)&&decide (x<=122)
def more (x:Int):Bool:=decide (x=95)||(decide (48<=x)&&decide (x<=57))
def iU (s:ByteArray) (i:Nat):Bool:=small (bt s i)||(decide (i≠0)&&more (bt s i))
def plain (s:ByteArray):Bool:=(List.range s.size).all (iU s)&&(decide (0<s.size)&&decide (s.size<=8))
theorem CU {p:Nat->Bool} (h:∀ j,j<n->p j=true):(List.range n).all p=true:=by
 rw [NN];intro x hx;exact h x (MD.1 hx)
theorem tB {p:Nat->Bool} (hk:k<n) (h:p k=false):(List.range n).all p=false:=by
 rw [Pq];exact ⟨k,MD.2 hk,by simp [h]⟩
theorem uG (s:ByteArray):iU s 0=small (bt s 0):=by simp [iU]
theorem wR {s:ByteArray} (h:Hid (∀ j,j<k->iU s j=true)) (hk:iU s k=true):∀ j,j<k+1->iU s j=true:=by
 intro j hj;by_cases e:j=k
 ·rw [e];exact hk
 ·exact h.out j zaa
def dec (n:Nat):ByteArray:=⟨(Lib.decDigits n).toArray⟩
theorem tZ (h:n<10):dec n=⟨#[UInt8.ofNat (48+n)]⟩:=by
 unfold dec;rw [Lib.decDigits_one h]
theorem Ij (h:¬ n<10):dec n=dec (n / 10)++⟨#[UInt8.ofNat (48+n % 10)]⟩:=by
 unfold dec
 conv=>lhs;rw [Lib.decDigits,dif_neg h]
 apply ByteArray.ext
 simp
theorem xX:∀ (k n:Nat),n<10 ^ (k+1)->(dec n).size<=k+1
 | 0,n,h=>by rw [tZ zaB];exact u0 1
 | k+1,n,h=>by
  by_cases h9:n<10
  ·rw [tZ h9];exact Nat.le_add_left 1 (k+1)
  ·rw [Ij h9,Oh];have:=xX k (n / 10) (by rw [Pr] at h;omega);have e:(ByteArray.mk #[UInt8.ofNat (48+n % 10)]).size=1:=rfl;omega
theorem qV (h:n<=18446744073709551615):(dec n).size<=20:=xX 19 n zaa
def jF (x:Int):Bool:=decide (48<=x)&&decide (x<=57)
def val (s:ByteArray):Nat->Nat
 | 0=>0
 | k+1=>val s k*10+((bt s k).toNat-48)
def m64 (n:Nat):Int:=IntKind.u64.wrap n
def DT:ByteArray:=⟨#[49,56,52,52,54,55,52,52,48,55,51,55,48,57,53,53,49,54,49,53]⟩
def qP (s:ByteArray):Bool:=s.toList.isEmpty||(decide (1<s.size)&&decide (bt s 0=48))||decide (20<s.size)||(decide (s.size=20)&&(!Op.bytesLess s.toList DT.toList && !(s.toList == DT.toList)))
def cA (s:ByteArray):Bool:=(List.range s.size).all (fun i=>jF (bt s i)) && !qP s
theorem isEmpty_eq (s:ByteArray):s.toList.isEmpty=decide (s.size=0):=by
 rw [Lib.toList_data,Ph,Om,Ox];exact ⟨fun h=>by show s.data.size=0;rw [<- Array.length_toList,h];rfl,fun h=>NJ (by rw [Array.length_toList];exact h)⟩
def dV (s:ByteArray):Int:=if cA s then m64 (val s s.size) else 0
end Ref
namespace Num
def isD (c:UInt8):Bool:=decide (48<=c.toNat)&&decide (c.toNat<=57)
def num (acc:Nat) (l:List UInt8):Nat:=l.foldl (fun a c=>a*10+(c.toNat-48)) acc
theorem lA (acc:Nat) (c:UInt8) (r:List UInt8):num acc (c::r)=num (acc*10+(c.toNat-48)) r:=by unfold num;rw [Oe]
theorem Kn (l:List UInt8):∀ acc:Nat,acc<=num acc l:=by
 induction l with
 | nil=>exact fun acc=>u0 _
 | cons c r ih =>
  intro acc;have h1:=ih (acc*10+(c.toNat-48));rw [lA];exact Fq (Fq (Nat.le_mul_of_pos_right acc zac) (O7 _ _)) h1
theorem om:∀ (l:List UInt8) (acc:Nat),l.all isD=true->acc<=18446744073709551615->Lib.parseUintM 18446744073709551615 acc l=if num acc l<=18446744073709551615 then .ok (num acc l) else .range
 | [],acc,_,h=>by rw [Lib.parseUintM,LA (show num acc []<=_ from h)];rfl
 | c::r,acc,hd,h=>by
  rw [PE,L1] at hd;have hc:48<=c.toNat/\c.toNat<=57:=zbT;have hg:=Kn r (acc*10+(c.toNat-48));rw [Lib.parseUintM,LA hc,lA];by_cases h1:1844674407370955162<=acc
  ·rw [LA h1,KQ zaa]
  ·rw [KQ h1];by_cases h2:18446744073709551615<acc*10+(c.toNat-48)
   ·rw [LA h2,KQ zaa]
   ·rw [KQ h2,om r _ hd.2 zaa]
theorem zh {M u:Nat}:∀ (l:List UInt8) (acc:Nat),Lib.parseUintM M acc l = .ok u->l.all isD=true
 | [],_,_=>rfl
 | c::r,acc,h=>by
  rw [Lib.parseUintM] at h;by_cases hc:48<=c.toNat/\c.toNat<=57
  ·rw [LA hc] at h;split at h
   ·cases h
   ·split at h
    ·cases h
    ·rw [PE,zh r _ h,Bool.and_true];simp [isD,hc]
  ·rw [KQ hc] at h;cases h
theorem wN:∀ (l:List UInt8) (acc:Nat),num acc l=acc*10 ^ l.length+num 0 l
 | [],acc=>by simp [num]
 | c::r,acc=>by
  rw [lA,lA,wN r (acc*10+(c.toNat-48)),wN r (0*10+(c.toNat-48)),MF,Pr,Nat.add_mul,Ps,NM,Nat.mul_assoc,Nat.mul_comm 10 (10 ^ r.length),MR]
theorem n9 (c:UInt8) (r:List UInt8):num 0 (c::r)=(c.toNat-48)*10 ^ r.length+num 0 r:=by
 rw [lA,wN,Ps,NM]
theorem wO:∀ l:List UInt8,l.all isD=true->num 0 l<10 ^ l.length
 | [],_=>by decide
 | c::r,hd=>by
  rw [PE,L1] at hd;have hc:48<=c.toNat/\c.toNat<=57:=zbT;have ih:=wO r hd.2;rw [n9,MF,Pr];have h9:(c.toNat-48)*10 ^ r.length<=9*10 ^ r.length:=Oa _ zaa;omega
theorem Cw:∀ a b:List UInt8,a.all isD=true->b.all isD=true->a.length=b.length->(num 0 a<num 0 b↔Op.bytesLess a b=true)/\(num 0 a=num 0 b↔a=b)
 | [],[],_,_,_=>⟨by simp [num,Op.bytesLess],zad⟩
 | [],_::_,_,_,h=>by simp at h
 | _::_,[],_,_,h=>by simp at h
 | x::p,y::q,ha,hb,h=>by
  rw [PE,L1] at ha hb;have hx:48<=x.toNat/\x.toNat<=57:=by simpa [isD] using ha.1
  have hy:48<=y.toNat/\y.toNat<=57:=by simpa [isD] using hb.1
  have hl:p.length=q.length:=zaB;have ih:=Cw p q ha.2 hb.2 hl;have lp:=wO p ha.2;have lq:=wO q hb.2;rw [n9,n9,<- hl];rw [<- hl] at lq
  rcases O0 x.toNat y.toNat with h1 | h1 | h1
  ·have hm:(x.toNat-48+1)*10 ^ p.length<=(y.toNat-48)*10 ^ p.length:=Oa _ zaa;rw [Nat.add_mul,Nat.one_mul] at hm;have hlt:x<y:=UInt8.lt_iff_toNat_lt.2 h1;refine ⟨⟨fun _=>by simp [Op.bytesLess,hlt],fun _=>zaa⟩,⟨fun e=>zaa,fun e => ?_⟩⟩;cases e;omega
  ·have hxy:x=y:=Pj.1 h1;subst hxy;refine ⟨⟨fun e => ?_,fun e => ?_⟩,⟨fun e => ?_,fun e => ?_⟩⟩
   ·have:=ih.1.1 zaa;simp [Op.bytesLess,this]
   ·have:Op.bytesLess p q=true:=by simpa [Op.bytesLess] using e
    have:=ih.1.2 this;omega
   ·rw [ih.2.1 zaa]
   ·cases e;rfl
  ·have hm:(y.toNat-48+1)*10 ^ p.length<=(x.toNat-48)*10 ^ p.length:=Oa _ zaa;rw [Nat.add_mul,Nat.one_mul] at hm;have hlt:¬ x<y:=fun h=>by have:=UInt8.lt_iff_toNat_lt.1 h;omega
   have hne:¬ x=y:=fun e=>by rw [e] at h1;omega
   refine ⟨⟨fun e=>zaa,fun e => ?_⟩,⟨fun e=>zaa,fun e => ?_⟩⟩
   ·simp [Op.bytesLess,hlt,hne] at e
   ·cases e;omega
theorem vT {s:ByteArray} (h:k<s.data.toList.length):bt s k=((s.data.toList[k]).toNat:Int):=by
 have h':k<s.size:=zaB;rw [<- get_bt s k h'];rfl
theorem uc (s:ByteArray):(List.range s.size).all (fun i=>Ref.jF (bt s i))=s.data.toList.all isD:=by
 rw [Ph,NN,NN];have hsz:s.size=s.data.toList.length:=zad;constructor
 ·intro h c hc;obtain ⟨k,hk,rfl⟩:=List.mem_iff_getElem.1 hc;have:=h k (MD.2 zaa);rw [vT hk] at this;simp only [Ref.jF,Bool.and_eq_true,decide_eq_true_eq] at this;simp only [isD,Bool.and_eq_true,decide_eq_true_eq];omega
 ·intro h i hi;rw [MD] at hi;have hk:i<s.data.toList.length:=zaa;have:=h _ (Ml hk);rw [vT hk];simp only [isD,Bool.and_eq_true,decide_eq_true_eq] at this;simp only [Ref.jF,Bool.and_eq_true,decide_eq_true_eq];omega
theorem G8 (s:ByteArray):∀ k,k<=s.size->Ref.val s k=num 0 (s.data.toList.take k)
 | 0,_=>rfl
 | k+1,h=>by
  have hsz:s.size=s.data.toList.length:=zad;have hk:k<s.data.toList.length:=zaa;rw [Ref.val,G8 s k zaa,List.take_succ_eq_append_getElem hk,vT hk];unfold num;rw [MO];simp
theorem JD (s:ByteArray):Ref.val s s.size=num 0 s.data.toList:=by
 rw [G8 s s.size (u0 _)]
 congr 1
 exact Pt zad
theorem Bl {l:List UInt8} (hd:l.all isD=true) (hl:1<l.length) (h0:∀ c,l.head?=some c->¬ c.toNat=48):10 ^ (l.length-1)<=num 0 l:=by
 cases l with
 | nil=>simp at hl
 | cons c r =>
  rw [PE,L1] at hd;have hc:48<=c.toNat/\c.toNat<=57:=zbT;have:=h0 c rfl;rw [n9,MF,P9];have hm:1*10 ^ r.length<=(c.toNat-48)*10 ^ r.length:=Oa _ zaa;omega
theorem F8:num 0 Ref.DT.data.toList=18446744073709551615:=zac
theorem Gg (s:ByteArray) (h:¬ (1<s.size/\bt s 0=48)):(∀ u,Lib.parseUintB 64 s.data.toList = .ok u->Ref.cA s=true/\Ref.dV s=(u:Nat))/\((∀ u,Lib.parseUintB 64 s.data.toList ≠ .ok u)->Ref.cA s=false):=by
 have hsz:s.size=s.data.toList.length:=zad;have hlist:s.toList=s.data.toList:=Lib.toList_data s;by_cases hd:s.data.toList.all isD=true
 ·by_cases he:s.size=0
  ·have hnil:s.data.toList=[]:=NJ zaa;refine ⟨fun u hu => ?_,fun _ => ?_⟩
   ·rw [Lib.parseUintB,LA hnil] at hu;cases hu
   ·rw [Ref.cA,Ref.qP,Ref.isEmpty_eq,Mx he,Oi,Oi,Oi,PG,Nq]
  ·have hne:¬ s.data.toList=[]:=fun e=>he (by rw [hsz,e];rfl);have hp:Lib.parseUintB 64 s.data.toList=if num 0 s.data.toList<=18446744073709551615 then .ok (num 0 s.data.toList) else .range:=by
    rw [Lib.parseUintB,KQ hne];exact om _ 0 hd zac
   have hbad:Ref.qP s=decide (18446744073709551615<num 0 s.data.toList):=by
    rw [Ref.qP,Ref.isEmpty_eq,Mk he,OW];have h1:(decide (1<s.size)&&decide (bt s 0=48))=false:=by
     rw [Bool.and_eq_false_iff];by_cases h1:1<s.size
     ·exact .inr (Mk fun h2=>h ⟨h1,h2⟩)
     ·exact .inl (Mk h1)
    rw [h1,OW]
    rcases O0 s.size 20 with h2 | h2 | h2
    ·rw [Mk (show ¬ 20<s.size by omega),Mk (show ¬ s.size=20 by omega),NS,OW]
     symm
     apply Mk
     have:=wO _ hd;have hpw:(10:Nat) ^ s.data.toList.length<=10 ^ 19:=MU zac zaa;have:(10:Nat) ^ 19=10000000000000000000:=zac;omega
    ·rw [Mk (show ¬ 20<s.size by omega),Mx h2,OX,OW,hlist,Lib.toList_data Ref.DT];have hx:=Cw s.data.toList Ref.DT.data.toList hd zac (by rw [<- hsz,h2];rfl);rw [F8] at hx;rw [Ph,L1,Ox,Qj,Qj];constructor
     ·rintro ⟨ha,hb⟩;have h3:¬ num 0 s.data.toList<18446744073709551615:=fun e=>by rw [hx.1.1 e] at ha;cases ha
      have h4:¬ num 0 s.data.toList=18446744073709551615:=fun e=>by rw [hx.2.1 e] at hb;simp at hb
      omega
     ·intro hlt;constructor
      ·cases hb:Op.bytesLess s.data.toList Ref.DT.data.toList with
       | false=>rfl
       | true=>have:=hx.1.2 hb;omega
      ·rw [Nw];intro e;have:=hx.2.2 e;omega
    ·rw [Mx h2,Oi]
     symm
     apply Mx
     have hh:∀ c,s.data.toList.head?=some c->¬ c.toNat=48:=by
      intro c hc e;refine h ⟨zaa,?_⟩;have hk:0<s.data.toList.length:=zaa;rw [vT hk];rw [List.head?_eq_getElem?,ym hk] at hc;cases hc
      omega
     have h3:=Bl hd zaa hh;have hpw:(10:Nat) ^ 20<=10 ^ (s.data.toList.length-1):=MU zac zaa;have:(10:Nat) ^ 20=100000000000000000000:=zac;omega
   have hok:Ref.cA s = !decide (18446744073709551615<num 0 s.data.toList):=by rw [Ref.cA,uc,hd,hbad,OX]
   refine ⟨fun u hu => ?_,fun hu => ?_⟩
   ·rw [hp] at hu;by_cases hle:num 0 s.data.toList<=18446744073709551615
    ·rw [LA hle] at hu;cases hu
     have h1:Ref.cA s=true:=by rw [hok,Mk zaa];rfl
     refine ⟨h1,?_⟩;rw [Ref.dV,h1,LA rfl,JD,Ref.m64,On];omega
    ·rw [KQ hle] at hu;cases hu
   ·rw [hok];by_cases hle:num 0 s.data.toList<=18446744073709551615
    ·exact absurd (by rw [hp,LA hle]) (hu (num 0 s.data.toList))
    ·rw [Mx zaa];rfl
 ·have hf:Ref.cA s=false:=by rw [Ref.cA,uc,Bool.eq_false_iff.2 hd,NS]
  refine ⟨fun u hu => ?_,fun _=>hf⟩;exfalso;rw [Lib.parseUintB] at hu;split at hu
  ·cases hu
  ·exact hd (zh _ _ hu)
end Num
end
section
open Go.RowKit Go.Proofs Go.Shelf
def yO:Go.Shelf.Ren:=⟨fun | 128=>263 | n=>n,fun | 51=>126 | 3=>3 | 4=>4 | 46=>368 | 5=>5 | 9=>9 | n=>n,fun | n=>n⟩
theorem IL:Go.Proofs.Lays.n128 prog yO:={
 mixed:=zab
 f128:=Tryz.func263.trans (congrArg some zab)
 t3:=underlying3
 a3:=Qk
 z3:=P5
 v3:=Pk
 t4:=underlying4
 a4:=O2
 z4:=OI
 v4:=Of
 t5:=underlying5
 a5:=Tryz.isAgg5
 z5:=Tryz.sizeOf5
 v5:=PW
 t9:=underlying9
 a9:=Tryz.isAgg9
 z9:=Tryz.sizeOf9
 v9:=Tryz.zeroValue9
 t46:=underlying368
 a46:=isAgg368
 z46:=sizeOf368
 v46:=zeroValue368
 t51:=underlying126
 a51:=Tryz.isAgg126
 z51:=Tryz.sizeOf126
 v51:=Tryz.zeroValue126 }
def wy:Go.Shelf.Ren:=⟨fun | 28=>126 | n=>n,fun | 27=>126 | 3=>3 | 4=>4 | 25=>368 | 53=>367 | 0=>0 | 5=>5 | n=>n,fun | 0=>1 | n=>n⟩
theorem FR:Go.Proofs.Lays7.n28 prog wy:={
 mixed:=zab
 f28:=Tryz.func126.trans (congrArg some zab)
 t0:=underlying0
 a0:=Tryz.isAgg0
 z0:=Tryz.sizeOf0
 v0:=Tryz.zeroValue0
 i0:=zab
 t3:=underlying3
 a3:=Qk
 z3:=P5
 v3:=Pk
 i3:=zab
 t4:=underlying4
 a4:=O2
 z4:=OI
 v4:=Of
 i4:=zab
 t5:=underlying5
 a5:=Tryz.isAgg5
 z5:=Tryz.sizeOf5
 v5:=PW
 i5:=zab
 t25:=underlying368
 a25:=isAgg368
 z25:=sizeOf368
 v25:=zeroValue368
 i25:=zab
 t27:=underlying126
 a27:=Tryz.isAgg126
 z27:=Tryz.sizeOf126
 v27:=Tryz.zeroValue126
 i27:=zab
 t53:=underlying367
 a53:=isAgg367
 z53:=sizeOf367
 v53:=zeroValue367
 i53:=zab
 g0:=by kernel_rfl }
theorem fX (hi:i<32):(2:Nat) ^ i<4294967296:=by
 have:=Oy (a:=2) zac hi;omega
theorem jd (i:Nat):(2:Int) ^ i=((2 ^ i:Nat):Int):=(Int.natCast_pow 2 i).symm
theorem JB (hi:i<32):(2:Int) ^ i % 4294967296=((2 ^ i:Nat):Int):=by
 rw [jd];exact Int.emod_eq_of_lt (Int.natCast_nonneg _) (by have:=fX hi;exact Int.ofNat_lt.2 this)
theorem ir (i:Nat) (w:World) (hi:i<32):() 80 #[(i:Int)] w fun e w'=>e = .returned (.int .u32 ((2 ^ i:Nat):Int))/\w'=w:=by
 have e:=JB hi;go_enter func80,ntmps80;go_wp2;rw [e];exact zfp
theorem Hq (s i:Nat):((s&&&2 ^ i:Nat) != 0)=s.testBit i:=by
 cases h:s.testBit i
 ·have:s&&&2 ^ i=0:=by
   apply Nat.eq_of_testBit_eq
   intro j;rw [OS,OA,PB];by_cases hj:i=j
   ·subst hj;rw [h];rfl
   ·simp [hj]
  rw [this];rfl
 ·have h1:(s&&&2 ^ i).testBit i=true:=by rw [OS,OA,h];simp
  rw [bne_iff_ne];intro h0;rw [h0,PB] at h1;exact absurd h1 zac
theorem EY (hi:i<32) (hs:s<4294967296):(bits BinOp.and IntKind.u32 (s:Int) ((2:Int) ^ i) != 0)=s.testBit i:=by
 rw [jd,O8 s _ hs (fX hi),<- Hq];cases h:(s&&&2 ^ i)
 ·rfl
 ·simp;omega
theorem wg (s:Nat) (i:Nat) (w:World) (hi:i<32) (hs:s<4294967296):() 186 #[.int .u32 s,(i:Int)] w fun e w'=>e = .returned (.bool (s.testBit i))/\w'=w:=by
 have e:=EY hi hs;go_enter func186,ntmps186;go_wp2_with (go_at_call 80;refine (ir i _ hi).mono ?_;rintro e w9 ⟨rfl,hw9⟩;rw [hw9];clear hw9 w9);exact zfp
theorem FQ (s:Nat) (w:World) (hs:s<4294967296):() 235 #[.int .u32 s] w fun e w'=>e = .returned (.int .i64 ((Lib.bitLen s:Int)-1))/\w'=w:=by
 have hb:=Lib.bitLen_le s 32 zac zaa;go_enter func235,ntmps235;go_wp2_with (go_at_call 263;refine (Any.bits_Len32 IL s _ zaa zaa).mono ?_;rintro e w9 ⟨rfl,hw9⟩;rw [hw9];clear hw9 w9);exact zfp
theorem KB (s:Nat) (w:World) (hs:s<4294967296) (hT:TabAt 1 Lib.deBruijn32tab w):() 126 #[.int .u32 s] w fun e w'=>e = .returned (.int .i64 (Lib.ctz 32 s))/\w'=w :=
 Any7.bits_TrailingZeros32 FR s hs w fun _=>hT
namespace Pg
def els (s:Nat):List Nat:=(List.range 32).filter s.testBit
theorem nX:i∈els s↔i<32/\s.testBit i=true:=by
 unfold els;rw [Nc,MD]
theorem j0 {p q:Nat->Bool} {k:Nat} (hp:p k=true) (hlt:∀ j,j<k->p j=false) (hq:∀ j,q j=(p j&&decide (j≠k))):∀ n,k<n->(List.range n).filter p=k::(List.range n).filter q
 | 0,h=>absurd h (OT _)
 | n+1,h=>by
  rw [Pl,Nn,Nn];by_cases hk:k<n
  ·rw [j0 hp hlt hq n hk,Qr];have:q n=p n:=by rw [hq];simp;omega
   simp only [List.filter_cons,List.filter_nil,this]
  ·have hkn:k=n:=zaa;subst hkn;have e1:(List.range k).filter p=[]:=by
    rw [NT];intro a ha;rw [hlt a (MD.1 ha)];decide
   have e2:(List.range k).filter q=[]:=by
    rw [NT];intro a ha;rw [hq,hlt a (MD.1 ha)];simp
   have e3:q k=false:=by rw [hq];simp
   rw [e1,e2];simp [hp,e3]
theorem pM {p q:Nat->Bool} {k:Nat} (hp:p k=true) (hgt:∀ j,k<j->p j=false) (hq:∀ j,q j=(p j&&decide (j≠k))):∀ n,k<n->(List.range n).filter p=(List.range n).filter q++[k]
 | 0,h=>absurd h (OT _)
 | n+1,h=>by
  rw [Pl,Nn,Nn];by_cases hk:k<n
  ·rw [pM hp hgt hq n hk];have e1:p n=false:=hgt n hk;have e2:q n=false:=by rw [hq,e1];rfl
   simp [e1,e2]
  ·have hkn:k=n:=zaa;subst hkn;have e3:q k=false:=by rw [hq];simp
   have e4:(List.range k).filter p=(List.range k).filter q:=by
    apply NU
    intro a ha;have:=MD.1 ha;rw [hq];simp;omega
   rw [e4];simp [hp,e3]
theorem kV:els 0=[]:=zaQ
theorem F0 (h0:s≠0) (hs:s<4294967296):Lib.ctz 32 s<32/\s.testBit (Lib.ctz 32 s)=true/\(∀ j,j<Lib.ctz 32 s->s.testBit j=false)/\∀ j,(s&&&(s-1)).testBit j=(s.testBit j&&decide (j≠Lib.ctz 32 s)):=by
 obtain ⟨m,hm,hk⟩:=Lib.ctzFrom_spec 32 s (Nat.pos_of_ne_zero h0) hs;have he:Lib.ctz 32 s=Lib.ctzFrom 32 s:=by unfold Lib.ctz;rw [KQ h0]
 rw [he];generalize Lib.ctzFrom 32 s=k at hm hk;exact zcP
theorem Dj (h0:s≠0) (hs:s<4294967296):els s=Lib.ctz 32 s::els (s&&&(s-1)):=by
 obtain ⟨a,b,c,d⟩:=F0 h0 hs;exact j0 b c d 32 a
theorem lT (h0:s≠0) (hs:s<4294967296):1<=Lib.bitLen s/\Lib.bitLen s-1<32/\s.testBit (Lib.bitLen s-1)=true/\(∀ j,Lib.bitLen s-1<j->s.testBit j=false)/\∀ j,(s&&&(4294967295-2 ^ (Lib.bitLen s-1))).testBit j=(s.testBit j&&decide (j≠Lib.bitLen s-1)):=by
 have hb:=Lib.bitLen_le s 32 zac zaa;obtain ⟨a,b,c⟩:=PK 64 s zaa h0;have he:Lib.bitLenAux 64 s=Lib.bitLen s:=rfl;rw [he] at a b c;generalize Lib.bitLen s=L at *;obtain ⟨k,rfl⟩:∃ k,L=k+1:=⟨L-1,zaa⟩;simp only [Nat.add_sub_cancel] at b ⊢;have hgt:∀ j,k<j->s.testBit j=false:=fun j hj=>Pu (LU c (MU zac hj));refine ⟨zaa,zaa,Nat.testBit_of_two_pow_le_and_two_pow_add_one_gt b c,hgt,?_⟩;intro j;rw [OS];by_cases hj:j<32
 ·have:(4294967295-2 ^ k).testBit j=decide (j≠k):=by
   have h2:=fX (i:=k) zaa;rw [show 4294967295-2 ^ k=2 ^ 32-(2 ^ k+1) by omega,PX zaa,OA];simp [hj,eq_comm]
  rw [this]
 ·rw [hgt j zaa];rfl
theorem FA (h0:s≠0) (hs:s<4294967296):els s=els (s&&&(4294967295-2 ^ (Lib.bitLen s-1)))++[Lib.bitLen s-1]:=by
 obtain ⟨_,a,b,c,d⟩:=lT h0 hs;exact pM b c d 32 a
end Pg
attribute [local go_sem] Mq
namespace Pg
abbrev In (s:Nat):Type:={ i:Nat // i∈els s }
def KpT (W W':World):Prop:=TabAt 1 Lib.deBruijn32tab W->TabAt 1 Lib.deBruijn32tab W'
theorem uX (h0:t≠0):t&&&(t-1)<t:=Mm OD zaa
theorem Lf (h0:t≠0) (ht:t<4294967296):bits BinOp.and IntKind.u32 (t:Int) ((t:Int)-1)=((t&&&(t-1):Nat):Int):=by
 rw [show (t:Int)-1=((t-1:Nat):Int) by omega,O8 t _ ht zaa]
end Pg
theorem yw (n:Nat) (hn:1<=n) (l Bs s:Nat) (hs:s<4294967296) (J Jx:List (Pg.In s)->World->Prop)
  (hY:∀ pre x W,J pre W->pre.length<32->YieldAt Fence.wide (n-1) prog l #[.int .i64 (x.1:Int)] W fun e W' =>
   (e = .returned true/\J (pre++[x]) W'/\Pg.KpT W W')\/(e = .returned false/\Jx (pre++[x]) W'))
  (W:World) (hBs:W.cell? Bs=some (.int .u32 s)) (hT:TabAt 1 Lib.deBruijn32tab W) (h0:J [] W) :
  CallsIn Fence.wide n prog 125 #[.func (.yield l) #[] #[],Bs] W fun e W'=>(∃ v,e = .returned v) /\
   ((∃ ys,ys.map (·.1)=Pg.els s/\J ys W')\/(∃ pre,pre.map (·.1) <+: Pg.els s/\Jx pre W')):=by
 refine PH func125 rfl trivial ?_ rfl;simp only [ntmps125,List.size_toArray,List.length_cons,List.length_nil,Nat.reduceAdd,Nat.reduceSub,Array.replicate_succ,Array.replicate_zero,List.push_toArray,List.append_toArray,List.nil_append,List.cons_append];gi_wp2
 gi_loopw [3] (fun i wr=>∃ (t:Nat) (pre:List (Pg.In s)),i = .int .u32 t/\t<4294967296/\Pg.els s=pre.map (·.1)++Pg.els t/\J pre wr/\TabAt 1 Lib.deBruijn32tab wr)
  (fun i _=>(intOf i).toNat)
 case atStart=>exact ⟨s,[],rfl,hs,rfl,h0,hT⟩
 case round =>
  obtain ⟨t,pre,rfl,ht,he,hJs,hTr⟩:=hrel;by_cases hz:t=0
  ·subst hz;gi_wp2;go_end0;rw [Pg.kV,NX] at he;exact zeY
  ·have hf:=Pg.Dj hz ht;have hm:Lib.ctz 32 t∈Pg.els s:=by rw [he,hf];simp
   have hle:pre.length<32:=by
    have h1:(Pg.els s).length<=32:=by
     exact zeG
    exact zfk
   obtain ⟨fn,tmps,assign,body,hy,hR⟩:=hY pre ⟨Lib.ctz 32 t,hm⟩ wr hJs hle;dsimp only at hy;have ha:=Pg.Lf hz ht;have hz':((t:Int) == 0)=false:=zaf;have hlt:=Pg.uX hz;have htz:=KB t wr ht hTr;gi_wp2_with (refine ⟨trivial,?_⟩;gi_at_call 126;refine (L4.2 htz).mono ?_;clear htz;rintro e w9 ⟨rfl,hw9⟩;rw [hw9];clear hw9 w9);have hE:Pg.els s=(pre++[(⟨Lib.ctz 32 t,hm⟩:Pg.In s)]).map (·.1)++Pg.els (t&&&(t-1)):=he.trans (by rw [hf,Mu,Nl];rfl);refine hR.mono ?_;rintro e W3 (⟨rfl,hJ3,hk3⟩ | ⟨rfl,hJx3⟩)
   ·gi_wp2
    go_roundw
    case rel=>exact ⟨t&&&(t-1),pre++[⟨Lib.ctz 32 t,hm⟩],rfl,zaa,hE,hJ3,hk3 hTr⟩
    case measure=>simp only [intOf];omega
   ·exact zd8
theorem eX (n:Nat) (hn:1<=n) (Bs s:Nat) (hs:s<4294967296) (w:World) (hBs:Bs<w.heap.size) (hg:1<w.heap.size) (hc:w.cell? Bs=some (.int .u32 s)) (hT:TabAt 1 Lib.deBruijn32tab w) :
  SeqStopsK Fence.wide n prog 125 #[Bs] (fun x:Pg.In s=>#[Value.int .i64 (x.1:Int)]) Pg.KpT (fun ys=>ys.map (·.1)=Pg.els s) (fun pre=>pre.map (·.1) <+: Pg.els s) 32 w:=fun l J Jx W hW _ _ hY h0=>by
 have hc':=(hW.cell (p:=⟨Bs,0,none⟩) hBs).trans hc;exact yw n hn l Bs s hs J Jx hY W hc' (fun j hj=>(hW.cell (p:=⟨1,j,none⟩) hg).trans (hT j hj)) h0
theorem dA (s:Nat) (w:World):() 79 #[.int .u32 s] w fun e w'=>e = .returned (.func (.func 125) #[] #[w])/\w'=w.alloc (.cells #[.int .u32 s] 127):=by
 go_enter func79,ntmps79;exact zfj
theorem nD (s:Nat) (w:World):() 187 #[.int .u32 s] w fun e w'=>e = .returned (.func (.func 234) #[] #[w])/\w'=w.alloc (.cells #[.int .u32 s] 127):=by
 go_enter func187,ntmps187;exact zfj
namespace Pg
theorem tK (h0:t≠0) (ht:t<4294967296):t&&&(4294967295-2 ^ (Lib.bitLen t-1))<t:=by
 obtain ⟨_,_,b,_,d⟩:=lT h0 ht;refine Nat.lt_of_le_of_ne Np fun he => ?_;have:=d (Lib.bitLen t-1);rw [he,b] at this;simp at this
theorem Hp (h0:t≠0) (ht:t<4294967296):bits BinOp.andNot IntKind.u32 (t:Int) ((2:Int) ^ (Lib.bitLen t-1))=((t&&&(4294967295-2 ^ (Lib.bitLen t-1)):Nat):Int):=by
 obtain ⟨_,a,_⟩:=lT h0 ht;rw [jd,Qa t _ ht (fX a)]
end Pg
theorem vS (n:Nat) (hn:1<=n) (l Bs s:Nat) (hs:s<4294967296) (J Jx:List (Pg.In s)->World->Prop)
  (hY:∀ pre x W,J pre W->pre.length<32->YieldAt Fence.wide (n-1) prog l #[.int .i64 (x.1:Int)] W fun e W' =>
   (e = .returned true/\J (pre++[x]) W'/\True)\/(e = .returned false/\Jx (pre++[x]) W'))
  (W:World) (hBs:W.cell? Bs=some (.int .u32 s)) (h0:J [] W) :
  CallsIn Fence.wide n prog 234 #[.func (.yield l) #[] #[],Bs] W fun e W'=>(∃ v,e = .returned v) /\
   ((∃ ys,ys.map (·.1)=(Pg.els s).reverse/\J ys W')\/(∃ pre,pre.map (·.1) <+: (Pg.els s).reverse/\Jx pre W')):=by
 refine PH func234 rfl trivial ?_ rfl;simp only [ntmps234,List.size_toArray,List.length_cons,List.length_nil,Nat.reduceAdd,Nat.reduceSub,Array.replicate_succ,Array.replicate_zero,List.push_toArray,List.append_toArray,List.nil_append,List.cons_append];gi_wp2
 gi_loopw [3] (fun i wr=>∃ (t:Nat) (pre:List (Pg.In s)),i = .int .u32 t/\t<4294967296/\(Pg.els s).reverse=pre.map (·.1)++(Pg.els t).reverse/\J pre wr)
  (fun i _=>(intOf i).toNat)
 case atStart=>exact ⟨s,[],rfl,hs,rfl,h0⟩
 case round =>
  obtain ⟨t,pre,rfl,ht,he,hJs⟩:=hrel;by_cases hz:t=0
  ·subst hz;gi_wp2;go_end0;rw [Pg.kV,List.reverse_nil,NX] at he;exact zeY
  ·obtain ⟨hb1,hb2,_⟩:=Pg.lT hz ht;have hf:=congrArg List.reverse (Pg.FA hz ht);rw [List.reverse_append] at hf;have ha:=Pg.Hp hz ht;have hlt:=Pg.tK hz ht;have hla:=fun w=>FQ t w ht;generalize Lib.bitLen t=L at *;obtain ⟨k,rfl⟩:∃ k,L=k+1:=⟨L-1,zaa⟩;have hk:((k+1:Nat):Int)-1=(k:Int):=zaa;simp only [hk] at hla;simp only [Nat.add_sub_cancel] at hf ha hlt hb2;have hm:k∈Pg.els s:=by rw [<- Qs,he,hf];simp
   have hle:pre.length<32:=by
    have h1:(Pg.els s).reverse.length<=32:=by
     have:=MK s.testBit (List.range 32);rw [Oc] at this;rw [P1];exact this
    exact zfk
   have hE:(Pg.els s).reverse=(pre++[(⟨k,hm⟩:Pg.In s)]).map (·.1)++(Pg.els (t&&&(4294967295-2 ^ k))).reverse:=he.trans (by rw [hf,Mu,Nl];rfl);obtain ⟨fn,tmps,assign,body,hy,hR⟩:=hY pre ⟨k,hm⟩ wr hJs hle;dsimp only at hy;have hz':((t:Int) == 0)=false:=zaf;generalize t&&&(4294967295-2 ^ k)=t' at *;gi_wp2_with (refine ⟨trivial,?_⟩;gi_at_call 235;refine (L4.2 (hla _)).mono ?_;rintro e w9 ⟨rfl,hw9⟩;rw [hw9];clear hw9 w9);refine hR.mono ?_;rintro e W3 (⟨rfl,hJ3,hk3⟩ | ⟨rfl,hJx3⟩)
   ·gi_wp2_with (first
     | (refine ⟨trivial,?_⟩;gi_at_call 235;refine (L4.2 (hla _)).mono ?_;rintro e w9 ⟨rfl,hw9⟩;rw [hw9];clear hw9 w9)
     | (refine ⟨trivial,?_⟩;gi_at_call 80;refine (L4.2 (ir k _ hb2)).mono ?_;rintro e w9 ⟨rfl,hw9⟩;rw [hw9];clear hw9 w9))
    go_roundw
    case rel=>exact ⟨t',pre++[⟨k,hm⟩],rfl,zaa,hE,hJ3⟩
    case measure=>simp only [intOf];omega
   ·exact zd8
theorem kS (n:Nat) (hn:1<=n) (Bs s:Nat) (hs:s<4294967296) (w:World) (hBs:Bs<w.heap.size) (hc:w.cell? Bs=some (.int .u32 s)) :
  SeqStopsK Fence.wide n prog 234 #[Bs] (fun x:Pg.In s=>#[Value.int .i64 (x.1:Int)]) (fun _ _=>True) (fun ys=>ys.map (·.1)=(Pg.els s).reverse) (fun pre=>pre.map (·.1) <+: (Pg.els s).reverse) 32 w:=fun l J Jx W hW _ _ hY h0 =>
 vS n hn l Bs s hs J Jx hY W ((hW.cell (p:=⟨Bs,0,none⟩) hBs).trans hc) h0
end
section
open Go.RowKit
open Go.PlainAid (bt get_bt bt_nonneg bt_le bt_end)
namespace Ref
theorem fa {w:World} {v:Value} (h:w.ownsRow base e size v n xs) (hn:0<n):∃ g cap,v = .slice (some ⟨g,0,none⟩) n cap:=by
 rcases h.2 with ⟨_,h0⟩ | ⟨g,cap,cur,hv,_⟩
 ·omega
 ·exact ⟨g,cap,hv⟩
def dq (s:ByteArray) (c:Int):Nat->List ByteArray
 | 0=>[ByteArray.empty]
 | k+1=>if bt s k=c then dq s c k++[ByteArray.empty] else (dq s c k).set ((dq s c k).length-1) ((dq s c k)[(dq s c k).length-1]?.getD ByteArray.empty++s.extract k (k+1))
def cut (s:ByteArray) (c:Int):List ByteArray:=dq s c s.size
theorem lO (s:ByteArray) (c:Int):∀ k,0<(dq s c k).length
 | 0=>by simp [dq]
 | k+1=>by
  have:=lO s c k;unfold dq;split <;> simp
  exact this
theorem nH (s:ByteArray) (c:Int):∀ k,(dq s c k).length<=k+1
 | 0=>by simp [dq]
 | k+1=>by
  have:=nH s c k;unfold dq;split <;> simp <;> omega
theorem wG {y:ByteArray} (h:∀ x∈l,x.size<=B) (hy:y.size<=B):∀ x∈l.set i y,x.size<=B:=by
 intro x hx
 rcases L7 hx with h' | h'
 ·exact h x h'
 ·rw [h'];exact hy
theorem pB {s:ByteArray} (h:k<s.size):(s.extract k (k+1)).size=1:=zaf
theorem iY (s:ByteArray) (c:Int):∀ k,k<=s.size->∀ x∈dq s c k,x.size<=k
 | 0,_=>by simp [dq]
 | k+1,hk=>by
  have ih:=iY s c k zaa;unfold dq;split
  ·intro x hx
   rcases LR.1 hx with h | h
   ·have:=ih x h;omega
   ·rw [LD.1 h];exact LL _
  ·refine wG (fun x hx=>by have:=ih x hx;omega) ?_;rw [Oh,pB zaa];have hp:=lO s c k;rw [ym zaa];have:=ih _ (Ml (show (dq s c k).length-1<(dq s c k).length by omega));simp only [Option.getD_some];omega
theorem Ii {s:ByteArray} (h:bt s k=c):dq s c (k+1)=dq s c k++[ByteArray.empty]:=by rw [dq,LA h]
theorem J2 {s:ByteArray} (h:¬ bt s k=c):dq s c (k+1)=(dq s c k).set ((dq s c k).length-1) ((dq s c k)[(dq s c k).length-1]?.getD ByteArray.empty++s.extract k (k+1)):=by rw [dq,KQ h]
def bK:ByteArray:=⟨#[97,102,116,101,114,46]⟩
def jG:ByteArray:=⟨#[100,111,110,101,46]⟩
def lg (s:ByteArray):Bool:=cn s bK&&(cA (s.extract 6 s.size)&&(decide (0<dV (s.extract 6 s.size))&&decide (dV (s.extract 6 s.size)<=1500)))
def called (s:ByteArray):Bool:=plain s||lg s
def bX (s:ByteArray):Bool:=called s||(cn s jG&&plain (s.extract 5 s.size))
theorem pI {s t:ByteArray} (h:cn s t=true):t.size<=s.size:=by
 simp [cn] at h;exact h.1
end Ref
end
section
open Go.RowKit
namespace Ref
structure Act where
 how:ByteArray
 event:ByteArray
 id:ByteArray
 delay:Int
def EP (a:Act):List Value:=[a.how,a.event,a.id,.int .u64 a.delay]
def cDo:List UInt8:=[100,111]
def eS:List UInt8:=[114,97,105,115,101]
def eL:List UInt8:=[99,97,110,99,101,108]
def kU:List UInt8:=[115,101,110,100]
def cAs:List UInt8:=[97,115]
def at' (l:List ByteArray) (i:Nat):ByteArray:=l.getD i ByteArray.empty
theorem nB (h:∀ x∈l,x.size<=B) (i:Nat):(at' l i).size<=B:=by
 unfold at';by_cases hi:i<l.length
 ·rw [LH,ym hi];exact h _ (Ml hi)
 ·rw [LH,L8 zaa];exact LL _
def oS (l:List ByteArray):Option (Act×Nat) :=
 if l.length<3 then none
 else if (at' l 0).toList == cDo then
  if (at' l 1).toList == eS then if called (at' l 2) then some (⟨at' l 1,at' l 2,ByteArray.empty,0⟩,3) else none
  else if (at' l 1).toList == eL then if called (at' l 2) then some (⟨at' l 1,ByteArray.empty,at' l 2,0⟩,3) else none
  else if (at' l 1).toList == kU then
   if l.length<4 then none
   else if decide (4<l.length)&&((at' l 4).toList == cAs) then
    if l.length<6 then none
    else if called (at' l 2)&&cA (at' l 3)&&called (at' l 5) then some (⟨at' l 1,at' l 2,at' l 5,dV (at' l 3)⟩,6) else none
   else if called (at' l 2)&&cA (at' l 3) then some (⟨at' l 1,at' l 2,ByteArray.empty,dV (at' l 3)⟩,4) else none
  else none
 else none
def ju:Nat->List ByteArray->Option (List Act)
 | _,[]=>some []
 | 0,_::_=>none
 | f+1,x::r =>
  match oS (x::r) with
  | none=>none
  | some (a,n)=>match ju f ((x::r).drop n) with
   | none=>none
   | some r'=>some (a::r')
def au (l:List ByteArray):Option (List Act):=ju l.length l
theorem kP {a:Act} (h:oS l=some (a,n)):3<=n/\n<=l.length:=by
 unfold oS at h
 repeat' split at h
 all_goals cases h
 all_goals omega
theorem qI:∀ (f g:Nat) (l:List ByteArray),l.length<=f->l.length<=g->ju f l=ju g l
 | f,g,[],_,_=>by cases f <;> cases g <;> rfl
 | 0,_,x::r,h,_=>by simp at h
 | _+1,0,x::r,_,h=>by simp at h
 | f+1,g+1,x::r,hf,hg=>by
  simp only [ju];cases h:oS (x::r) with
  | none=>rfl
  | some p =>
   obtain ⟨a,n⟩:=p;have hb:=kP h;simp only;rw [qI f g ((x::r).drop n) (by simp at hf ⊢;omega) (by simp at hg ⊢;omega)]
end Ref
def lenOf:Value->Nat | .slice _ n _=>n | _=>0
def qG (w:World) (b off:Nat) (l:List ByteArray):Prop:=∀ i,i<l.length->w.cell? ⟨b,off+i,none⟩=some (.string (Ref.at' l i))
theorem qG.drop {w:World} (h:qG w b off l) (n:Nat):qG w b (off+n) (l.drop n):=by
 intro i hi;have:=h (n+i) zaN;rw [MR,this];simp [Ref.at',List.getElem?_drop]
theorem qG.below {w:World} (h:qG w b off l) (hb:Below B w w') (hB:b<B):qG w' b off l :=
 fun i hi=>by rw [hb.cell (p:=⟨b,off+i,none⟩) hB];exact h i hi
namespace Ref
structure Move where
 event:ByteArray
 to:ByteArray
 after:Bool
 delay:Int
 au:List Act
 line:Int
structure State where
 word:ByteArray
 name:ByteArray
 deep:Bool
 up:Int
 depth:Int
 line:Int
 aj:List Move
 enter:List Act
 leave:List Act
 has0:Int
 has1:Int
structure jS where
 kind:Int
 word:ByteArray
 name:ByteArray
 deep:Bool
 sline:Int
 m:Move
 au:List Act
theorem jL {w:World} {v:Value} (h:w.ownsRow base e size v n xs):∃ a k c,v = .slice a k c:=by
 rcases h.2 with ⟨h0,_⟩ | ⟨g,cap,cur,hv,_⟩
 ·exact ⟨_,_,_,h0⟩
 ·exact ⟨_,_,_,hv⟩
def cTo:List UInt8:=[116,111]
def uy (l:List ByteArray):Option (ByteArray×List Act) :=
 if decide (0<l.length)&&((at' l 0).toList == cTo) then
  if l.length<2 then none
  else if plain (at' l 1) then (au (l.drop 2)).map (at' l 1,·) else none
 else (au l).map (ByteArray.empty,·)
end Ref
end
section
open Go.RowKit
open Go.PlainAid (bt get_bt bt_nonneg bt_le bt_end)
namespace Ref
def ki:Move:=⟨ByteArray.empty,ByteArray.empty,false,0,[],0⟩
def gA:jS:=⟨0,ByteArray.empty,ByteArray.empty,false,0,ki,[]⟩
def cT:List UInt8:=[115,116,97,116,101]
def aM:List UInt8:=[112,97,114,97,108,108,101,108]
def bW:List UInt8:=[102,105,110,97,108]
def bh:List UInt8:=[104,105,115,116,111,114,121]
def Cn:List UInt8:=[100,101,101,112]
def cOn:List UInt8:=[111,110]
def iG:List UInt8:=[97,102,116,101,114]
def kT:List UInt8:=[101,110,116,101,114]
def oW:List UInt8:=[108,101,97,118,101]
def is (l:List ByteArray) (i:Nat) (c:List UInt8):Bool:=(at' l i).toList == c
def ua (l:List ByteArray):Bool:=decide (l.length=3)&&is l 2 Cn
def said (l:List ByteArray) (ln:Nat):jS :=
 if l.length<2 then gA
 else if is l 0 cT||(is l 0 aM||is l 0 bW) then
  if decide (l.length=2)&&plain (at' l 1) then ⟨115,at' l 0,at' l 1,false,ln,ki,[]⟩ else gA
 else if is l 0 bh then
  if plain (at' l 1)&&(decide (l.length=2)||ua l) then ⟨115,at' l 0,at' l 1,ua l,ln,ki,[]⟩ else gA
 else if is l 0 cOn then
  match uy (l.drop 2) with
  | none=>gA
  | some (to,A)=>if bX (at' l 1) then ⟨109,ByteArray.empty,ByteArray.empty,false,0,⟨at' l 1,to,false,0,A,ln⟩,[]⟩ else gA
 else if is l 0 iG then
  match uy (l.drop 2) with
  | none=>gA
  | some (to,A)=>if cA (at' l 1) then ⟨109,ByteArray.empty,ByteArray.empty,false,0,⟨bK++dec ln,to,true,dV (at' l 1),A,ln⟩,[]⟩ else gA
 else if is l 0 kT||is l 0 oW then
  match au (l.drop 1) with
  | none=>gA
  | some A=>⟨bt (at' l 0) 0,ByteArray.empty,ByteArray.empty,false,0,ki,A⟩
 else gA
end Ref
end
section
open Go.RowKit
namespace Ref
structure Sl where
 a:Option Addr
 n:Nat
 c:Nat
def Sl.v (s:Sl):Value := .slice s.a s.n s.c
def Sl.nil:Sl:=⟨none,0,0⟩
structure SV where
 s:State
 vm:Sl
 ve:Sl
 vl:Sl
structure MV where
 m:Move
 v:Sl
def I5 (x:MV):List Value:=[x.m.event,x.m.to,x.m.after,.int .u64 x.m.delay,.slice x.v.a x.v.n x.v.c,(x.m.line:Int)]
theorem jB {α:Type} {f:α->List Value} {n:Nat} (hf:∀ x,(f x).length=n):∀ (X:List α) (i j:Nat),j<n->∀ (h:i<X.length),(X.flatMap f)[i*n+j]?=(f X[i])[j]?
 | [],i,j,_,h=>by simp at h
 | x::X,0,j,hj,_=>by
  rw [MP,Ps,NM,My (by rw [hf];exact hj)];rfl
 | x::X,i+1,j,hj,h=>by
  rw [MP,P6,ME (by rw [hf];omega),hf];rw [show i*n+n+j-n=i*n+j from by omega,jB hf X i j hj zaB];rfl
theorem jC {α:Type} {f:α->List Value} {n:Nat} (hf:∀ x,(f x).length=n):∀ (X:List α),(X.flatMap f).length=X.length*n
 | []=>by simp
 | x::X=>by rw [MP,LO,hf,jC hf X,MF,P6,Nat.add_comm]
def FL (n:ByteArray) (x:SV):Bool:=x.s.name.toList == n.toList
def place (X:List SV) (n:ByteArray):Int:=match X.findIdx? (FL n) with | some i=>(i:Int) | none => -1
def wH (a:Act):Bool:=cn a.event bK||cn a.id bK
def bY (A:List Act):Bool:=A.any wH
end Ref
def Row {α:Type} (w:World) (e:TypeId) (size:Nat) (f:α->List Value) (v:Value) (X:List α):Prop:=w.ownsRow 0 e size v X.length (X.flatMap f)
theorem Row.cell {α:Type} {w:World} {f:α->List Value} {X:List α} (hf:∀ x,(f x).length=n) (h:Row w e n f (.slice g X.length cap) X) {j:Nat} (hj:j<n) (hi:i<X.length) :
  w.cell? ⟨g,i*n+j,none⟩=(f X[i])[j]?:=by
 have hlt:i*n+j<X.length*n:=by
  have:(i+1)*n<=X.length*n:=Oa n hi;rw [P6] at this;omega
 rw [h.cellAt (i*n+j) hlt,Ref.jB hf X i j hj hi]
end
section
open Go.RowKit Go.Proofs Go.Shelf
attribute [local go_sem] Mq
namespace Pg
structure PS where
 kind:Int
 name:ByteArray
 done:ByteArray
 owner:Int
 parts:Nat
 inside:Nat
 around:Nat
 wth:Nat
 enter:Ref.Sl
 leave:Ref.Sl
structure PS.Sm (p:PS):Prop where
 hp:p.parts<4294967296
 hi:p.inside<4294967296
 ha:p.around<4294967296
 hw:p.wth<4294967296
structure td (W:World) (b i:Nat) (p:PS):Prop where
 c0:W.cell? ⟨b,i*10,none⟩=some ↑(p.kind:Int)
 c1:W.cell? ⟨b,i*10+1,none⟩=some ↑p.name
 c2:W.cell? ⟨b,i*10+2,none⟩=some ↑p.done
 c3:W.cell? ⟨b,i*10+3,none⟩=some ↑(p.owner:Int)
 c4:W.cell? ⟨b,i*10+4,none⟩=some (.int .u32 p.parts)
 c5:W.cell? ⟨b,i*10+5,none⟩=some (.int .u32 p.inside)
 c6:W.cell? ⟨b,i*10+6,none⟩=some (.int .u32 p.around)
 c7:W.cell? ⟨b,i*10+7,none⟩=some (.int .u32 p.wth)
 c8:W.cell? ⟨b,i*10+8,none⟩=some p.enter.v
 c9:W.cell? ⟨b,i*10+9,none⟩=some p.leave.v
theorem td.below {p:PS} (h:td W b i p) (hB:Below B W W') (hb:b<B):td W' b i p where
 c0:=(hB.cell (p:=⟨b,_,none⟩) hb).trans h.c0
 c1:=(hB.cell (p:=⟨b,_,none⟩) hb).trans h.c1
 c2:=(hB.cell (p:=⟨b,_,none⟩) hb).trans h.c2
 c3:=(hB.cell (p:=⟨b,_,none⟩) hb).trans h.c3
 c4:=(hB.cell (p:=⟨b,_,none⟩) hb).trans h.c4
 c5:=(hB.cell (p:=⟨b,_,none⟩) hb).trans h.c5
 c6:=(hB.cell (p:=⟨b,_,none⟩) hb).trans h.c6
 c7:=(hB.cell (p:=⟨b,_,none⟩) hb).trans h.c7
 c8:=(hB.cell (p:=⟨b,_,none⟩) hb).trans h.c8
 c9:=(hB.cell (p:=⟨b,_,none⟩) hb).trans h.c9
structure bV (W:World) (pb b cap:Nat) (ps:List PS):Prop where
 row:W.cell? pb=some (.slice b ps.length cap)
 at':∀ (i:Nat) (p:PS),ps[i]?=some p->td W b i p
 sm:∀ (i:Nat) (p:PS),ps[i]?=some p->p.Sm
 len:ps.length<=24
theorem bV.below {pb:Nat} {ps:List PS} (h:bV W pb b cap ps) (hB:Below B W W') (hp:pb<B) (hb:b<B):bV W' pb b cap ps where
 row:=(hB.cell (p:=⟨pb,_,none⟩) hp).trans h.row
 at':=fun i p hi=>(h.at' i p hi).below hB hb
 sm:=h.sm
 len:=h.len
end Pg
theorem FK (w:World) (pb b cap:Nat) (ps:List Pg.PS) (i j:Nat) (p:Pg.PS) (hP:Pg.bV w pb b cap ps) (hi:ps[i]?=some p) (hj:j<32):() 231 #[pb,(i:Int),(j:Int)] w fun e w'=>e = .returned (.bool (p.around.testBit j))/\w'=w:=by
 have hil:i<ps.length:=(Ku.1 hi).1;have hlen:=hP.len;have h0:=hP.row;have h6:=(hP.at' i p hi).c6;have hsm:=(hP.sm i p hi).ha;go_enter func231,ntmps231;go_wp2_with (go_at_call 186;refine (wg p.around j _ hj hsm).mono ?_;rintro e w9 ⟨rfl,hw9⟩;rw [hw9];clear hw9 w9);exact zfp
namespace Pg
def kH (ps:List PS) (i:Nat):Nat:=match ps[i]? with | some p=>p.around | none=>0
def wj (ps:List PS) (o:Nat) (l:List Nat):Nat:=l.foldl (fun o i=>o&&&(4294967295-kH ps i)) o
theorem Dz (ps:List PS) (o:Nat) (l:List Nat) (i:Nat):wj ps o (l++[i])=wj ps o l&&&(4294967295-kH ps i):=by
 unfold wj;rw [MO];rfl
theorem wk (ps:List PS):∀ (l:List Nat) (o:Nat),o<4294967296->wj ps o l<4294967296
 | [],_,h=>h
 | _::l,_,h=>wk ps l _ (Mm Np h)
def aX {s:Nat}:List (In s)->List Nat
 | []=>[]
 | x::l=>x.1::aX l
theorem b7 {s:Nat}:∀ l:List (In s),aX l=l.map (·.1)
 | []=>rfl
 | x::l=>by rw [aX,b7 l];rfl
theorem dT (l:List (In s)) (x:In s):aX (l++[x])=aX l++[x.1]:=by
 rw [b7,b7,Mu];rfl
def inn (ps:List PS) (s:Nat):Nat:=wj ps s (els s)
theorem KpT.tr {A B C:World} (h:KpT A B) (k:KpT B C):KpT A C:=fun x=>k (h x)
theorem KpT.of {A B:World} (h:Below n A B) (hn:1<n):KpT A B:=fun x j hj=>(h.cell (p:=⟨1,j,none⟩) hn).trans (x j hj)
end Pg
theorem wm (n:Nat) (hn:3<=n) (w:World) (pb b cap:Nat) (ps:List Pg.PS) (s:Nat) (hs:s<4294967296) (hin:∀ i,i∈Pg.els s->i<ps.length) (hP:Pg.bV w pb b cap ps) (hpb:pb<w.heap.size) (hb:b<w.heap.size)
  (hg:1<w.heap.size) (hT:TabAt 1 Lib.deBruijn32tab w) :
  CallsIn Fence.wide n prog 88 #[pb,.int .u32 s] w fun e w'=>e = .returned (.int .u32 (Pg.inn ps s))/\Below w w w':=by
 have h1:1<=n:=zaa;refine Ms func88 rfl trivial ?_ rfl;simp only [ntmps88,List.size_toArray,List.length_cons,List.length_nil,Nat.reduceAdd,Nat.reduceSub,Array.replicate_succ,Array.replicate_zero,List.push_toArray,List.append_toArray,List.nil_append,List.cons_append];gi_wp2_with (refine ⟨trivial,?_⟩;gi_at_call 79;refine (L4.2 (dA s _)).mono ?_;rintro e w9 ⟨rfl,hw9⟩;rw [hw9];clear hw9 w9);have c0:=L5 w 78 pb;have c1:=L5 (w.alloc (.cells #[pb] 78)) 127 (.int .u32 s);have c2:=L5 ((w.alloc (.cells #[pb] 78)).alloc (.cells #[.int .u32 s] 127)) 127 (.int .u32 s);simp only [World.size_alloc] at c1 c2;have hB0:Below w w (((w.alloc (.cells #[pb] 78)).alloc (.cells #[.int .u32 s] 127)).alloc (.cells #[.int .u32 s] 127)):=(((FP _ w).alloc (u0 _) _).alloc zad _).alloc zaf _;refine Pc rfl h1 (gf:=125) (lb:=#[↑(w.heap.size+1+1)]) rfl trivial (NO func125 zab rfl)
  (eX (n-1) zaa (w.heap.size+1+1) s hs _ zad zad c2.cell (Pg.KpT.of hB0 hg hT)) Pg.KpT.tr (fun W l o o' hl h hc hw=>Pg.KpT.of (NV (n₀:=w.heap.size) (Fq (O7 _ 3) zad) W l o o' hl h hc hw) hg) (FP _ _) (fun _=>rfl)
  (fun pre W=>(Boxed W w 78 pb/\Boxed W (w.heap.size+1) 127 (.int .u32 (Pg.wj ps s (Pg.aX pre))))/\Below w w W)
  (fun _ _ _=>False)
  (Md (Md (MX (MG _ _ _) _) (MX (MG _ _ _) _)) (Nv (u0 _) zaf))
  (fun _ _ _ _ _ hs _ _=>hs)
  ⟨⟨(c0.alloc _).alloc _,c1.alloc _⟩,hB0⟩
  (fun x=>{ tmps:=#[.pointer (some ⟨pb,0,none⟩),.int .u32 s,.pointer (some ⟨w.heap.size,0,none⟩),undef,.int .u32 0,.pointer (some ⟨w.heap.size+1,0,none⟩),.int .i64 x.1,.int .u32 s,.int .u32 s,.func (.func 125) #[] #[.pointer (some ⟨w.heap.size+1+1,0,none⟩)],.int .i64 x.1,undef,undef,undef,undef,undef,undef,undef,undef,undef,undef,undef],defers:=[] }) ?assign ?body ?done ?stop
 case assign =>
  exact zfl
 case body =>
  rintro l pre x W ⟨⟨hp,hc⟩,hB⟩ _;have hpc:=hp.cell;have hcc:=hc.cell;have hcf:=hc.frozen;have hxl:=hin x.1 x.2;obtain ⟨p,hpx⟩:∃ p,ps[x.1]?=some p:=⟨_,ym hxl⟩;have hP':=hP.below hB hpb hb;have h0:=hP'.row;have h6:=(hP'.at' x.1 p hpx).c6;have hlen:=hP.len;have hsm:=(hP.sm x.1 p hpx).ha;have hlt:=Pg.wk ps (Pg.aX pre) s hs;have har:Pg.kH ps x.1=p.around:=by unfold Pg.kH;rw [hpx]
  have ha:=Qa _ _ hlt hsm;have hsn:=Pg.Dz ps s (Pg.aX pre) x.1;rw [har,<- Pg.dT] at hsn;have hB':∀ v,Below w w ((W.drew).setCell ⟨w.heap.size+1,0,none⟩ v):=fun v=>(hB.trans ((FP _ W).drew)).setCell (p:=⟨w.heap.size+1,0,none⟩) zad _;have hko:∀ v,KeepsOthers W ((W.drew).setCell ⟨w.heap.size+1,0,none⟩ v):=fun v=>(Oo W).trans (Mv _ _ _);have hkp:∀ v,Pg.KpT W ((W.drew).setCell ⟨w.heap.size+1,0,none⟩ v):=fun v=>Pg.KpT.of (((FP w W).drew).setCell (p:=⟨w.heap.size+1,0,none⟩) zad _) hg;have hbp:∀ v,Boxed ((W.drew).setCell ⟨w.heap.size+1,0,none⟩ v) w.heap.size 78 pb:=fun v=>Boxed.kept (W:=W.drew) (show Boxed W.drew _ _ _ from hp) (Qt _ _ _) zad;have hbc:Boxed ((W.drew).setCell ⟨w.heap.size+1,0,none⟩ (.int .u32 ((Pg.wj ps s (Pg.aX pre)&&&(4294967295-p.around):Nat):Int))) (w.heap.size+1) 127 (.int .u32 (Pg.wj ps s (Pg.aX (pre++[x])))):=by
   exact zeD
  clear hsn har hp hc hP hP';gi_wp2;gi_region
  all_goals gi_wp2
  all_goals exact ⟨hko _,hkp _,⟨hbp _,hbc⟩,hB' _⟩
 case done =>
  rintro D ys W hD hys ⟨⟨_,hc⟩,hB⟩ hK;exact zdy
 case stop =>
  exact zfe
end
section
open Go
theorem oB {P:Program} {row:String} {w:World} {R:Value->World->Prop} (h:Rows P row args w R):RowsIn (Fence.wide.inRound k) n P row args w R :=
 fun c cs _=>let ⟨v,w',r,s⟩:=h c cs;⟨v,w',r,stepsIn_wide.2 s⟩
theorem aH {P:Program} {f:FuncId} {w:World} (h:Calls P f args w R):CallsIn (Fence.wide.inRound k) n P f args w R :=
 CallsIn.inRound k (L4.2 h)
theorem BX {k n:Nat} {P:Program} {o:Oper} {a:Act} {N N':Act->World->Prop} {Q:Exit->Act->World->Prop} (hN:∀ a w,N a w->N' a w):∀ r:Result Next,o.upon P a N Q r->o.uponIn (Fence.wide.inRound k) n P a N' Q r:=by
 have hd:∀ x:Prop,((Fence.wide.inRound k).depth.isSome=true->x):=fun x h=>zau;intro r h;cases r with
 | ok v w' =>
  cases v <;> first
   | exact hN _ _ h
   | exact ⟨hd _,oB (Rows.mono h fun _ _ hx=>hN _ _ hx)⟩
   | exact h.elim
   | skip
  exact ⟨hd _,aH (LF h fun e w'' hx=>by
   cases e
   ·exact hN _ _ hx
   ·exact hx
   ·exact hx)⟩
 | halt x w'=>cases x <;> first | exact h | exact h.elim
def kh (ops:Array Oper):Bool:=ops.all fun o=>match o.op with | .defer _=>false | _=>true
theorem n8 {ops:Array Oper} (h:kh ops=true) (ho:ops[i]?=some o) (c:_):o.op≠Op.defer c:=by
 intro he;have hm:o∈ops:=Array.mem_of_getElem? ho;have:=Ow.1 h o hm;rw [he] at this;exact Bool.noConfusion this
theorem lZ {k n:Nat} {P:Program} {ops:Array Oper} {Q:Exit->Act->World->Prop} (hnd:kh ops=true) (hL:¬ LetsOut Q):∀ (l:List Nat) (a:Act) (w:World),wpOps P ops Q l a w->wpOpsIn (Fence.wide.inRound k) n P ops Q l a w
 | [],_,_,h=>h
 | i::l,a,w,h=>by
  unfold wpOps at h;unfold wpOpsIn;cases ho:ops[i]? with
  | none =>
   simp only [ho] at h;exact lZ hnd hL l a w h
  | some o =>
   simp only [ho] at h;simp only;split
   ·rename_i hw;rw [LA hw] at h
    rcases h with h | ⟨_,h⟩
    ·refine ⟨fun _ _=>trivial,?_⟩;rw [Oper.semAt_eq _ _ _ (fun c=>n8 hnd ho c)];exact BX (fun a w hx=>lZ hnd hL l a w hx) _ h
    ·exact absurd h hL
   ·rename_i hw;rw [KQ hw] at h;exact ⟨fun _ _=>trivial,lZ hnd hL l _ w h⟩
theorem kL {P:Program} {ops:Array Oper} {Q:Exit->Act->World->Prop} {a:Act} {w:World} (hm:P.follows .mixedOrders=true) (hnd:kh ops=true) (hL:¬ LetsOut Q)
  (h:wpAny P .any ops Q ops.size (Array.replicate ops.size false) a { w with drawn:=w.drawn+1 }):(Code.region id ops true).wpIn (Fence.wide.inRound k) n P Q a w :=
 wpIn_region_draw fun t=>by
  simp only [Region.schedule,hm,Bool.true_or,if_true];exact lZ hnd hL _ _ _ (wpAny_sound ops.size t _ a _ h)
theorem cU {P:Program} {ops:Array Oper} {Q:Exit->Act->World->Prop} {S:World->Prop} {a:Act} {w:World} (hm:P.follows .mixedOrders=true) (hnd:kh ops=true) (hL:¬ LetsOut Q) (hS:S w.drew)
  (h:S w.drew->wpAnyH P .any ops Q S ops.size (Array.replicate ops.size false) a w.drew):(Code.region id ops true).wpIn (Fence.wide.inRound k) n P Q a w :=
 kL hm hnd hL (wpAny_of_held _ _ _ _ (h hS))
theorem ox {P:Program} {md:Region.Mode} {ops:Array Oper} {Q:Exit->Act->World->Prop} {S:World->Prop} {fuel:Nat} {listed:Array Bool} {a:Act} {w:World} {rs:List Nat} (ho:ops[i]?=some o) (hw:Region.wanted o (yielded ops a.tmps)=true)
  (h:∀ K':Act->World->Prop,Shut (∀ a w,S w->(S w->wpAnyH P md ops Q S fuel (listed.setIfInBounds i true) a w)->K' a w)->Oper.wp P o a w K' Q)
  (hs:AllReadyH P md ops Q S fuel listed a w rs):AllReadyH P md ops Q S fuel listed a w (i::rs) :=
 Me ho (fun K hK=>by rw [LA hw];exact h K hK) hs
end
section
open Go.RowKit Go.Proofs Go.Shelf
attribute [local go_sem] Mq
namespace Pg
def gi (ps:List PS) (i:Nat):Nat:=match ps[i]? with | some p=>p.wth | none=>0
def kI (ps:List PS) (i:Nat):Nat:=match ps[i]? with | some p=>p.inside | none=>0
def so (ps:List PS) (ow:Nat) (l:List Nat):Nat:=l.foldl (fun o i=>o|||(gi ps i|||(kH ps i&&&kI ps ow))) 0
theorem Ed (ps:List PS) (ow:Nat) (l:List Nat) (i:Nat):so ps ow (l++[i])=so ps ow l|||(gi ps i|||(kH ps i&&&kI ps ow)):=by
 unfold so;rw [MO];rfl
theorem pU {a:Nat} (ha:a<4294967296) (hb:b<4294967296):a|||b<4294967296:=Mp (n:=32) ha hb
theorem jV {a:Nat} (ha:a<4294967296):a&&&b<4294967296:=Mm Np ha
end Pg
theorem zn (n:Nat) (hn:3<=n) (w:World) (pb b cap:Nat) (ps:List Pg.PS) (ow:Nat) (po:Pg.PS) (hpo:ps[ow]?=some po) (s:Nat) (hs:s<4294967296) (h0s:s≠0) (hin:∀ i,i∈Pg.els s->i<ps.length) (hbd:∀ l,Pg.so ps ow l<4294967296) (hP:Pg.bV w pb b cap ps) (hpb:pb<w.heap.size) (hb:b<w.heap.size)
  (hg:1<w.heap.size) (hT:TabAt 1 Lib.deBruijn32tab w) :
  CallsIn Fence.wide n prog 136 #[pb,(ow:Int),.int .u32 s] w fun e w'=>e = .returned (.int .u32 (Pg.so ps ow (Pg.els s)))/\Below w w w':=by
 have h1:1<=n:=zaa;have hol:ow<ps.length:=(Ku.1 hpo).1;have hlen:=hP.len;have hrow:=hP.row;have hz:((s:Int) == 0)=false:=zaf;refine Ms func136 rfl trivial ?_ rfl;simp only [ntmps136,List.size_toArray,List.length_cons,List.length_nil,Nat.reduceAdd,Nat.reduceSub,Array.replicate_succ,Array.replicate_zero,List.push_toArray,List.append_toArray,List.nil_append,List.cons_append];have hrow1:(w.alloc (.cells #[pb] 78)).cell? pb=some (.slice b ps.length cap):=(((FP _ w).alloc (u0 _) _).cell (p:=⟨pb,0,none⟩) hpb).trans hrow;gi_wp2_with (refine ⟨trivial,?_⟩;gi_at_call 79;refine (L4.2 (dA s _)).mono ?_;rintro e w9 ⟨rfl,hw9⟩;rw [hw9];clear hw9 w9);have c0:=L5 w 78 pb;have c1:=L5 (w.alloc (.cells #[pb] 78)) 214 (.pointer (some ⟨b,ow*10,none⟩));have c2:=L5 ((w.alloc (.cells #[pb] 78)).alloc (.cells #[.pointer (some ⟨b,ow*10,none⟩)] 214)) 127 (.int .u32 0);have c3:=L5 (((w.alloc (.cells #[pb] 78)).alloc (.cells #[.pointer (some ⟨b,ow*10,none⟩)] 214)).alloc (.cells #[.int .u32 0] 127)) 127 (.int .u32 s);simp only [World.size_alloc] at c1 c2 c3;have hB0:Below w w ((((w.alloc (.cells #[pb] 78)).alloc (.cells #[.pointer (some ⟨b,ow*10,none⟩)] 214)).alloc (.cells #[.int .u32 0] 127)).alloc (.cells #[.int .u32 s] 127)):=((((FP _ w).alloc (u0 _) _).alloc zad _).alloc zaf _).alloc zaf _;refine Pc rfl h1 (gf:=125) (lb:=#[↑(w.heap.size+1+1+1)]) rfl trivial (NO func125 zab rfl)
  (eX (n-1) zaa (w.heap.size+1+1+1) s hs _ zad zad c3.cell (Pg.KpT.of hB0 hg hT)) Pg.KpT.tr (fun W l o o' hl h hc hw=>Pg.KpT.of (NV (n₀:=w.heap.size) (Fq (O7 _ 4) zad) W l o o' hl h hc hw) hg) (FP _ _) (fun _=>rfl)
  (fun pre W=>(Boxed W w 78 pb/\Boxed W (w.heap.size+1) 214 (.pointer (some ⟨b,ow*10,none⟩))/\Boxed W (w.heap.size+1+1) 127 (.int .u32 (Pg.so ps ow (Pg.aX pre))))/\Below w w W)
  (fun _ _ _=>False)
  (Md (Md (MX (MG _ _ _) _) (Md (MX (MG _ _ _) _) (MX (MG _ _ _) _))) (Nv (u0 _) zaf))
  (fun _ _ _ _ _ hs _ _=>hs)
  ⟨⟨((c0.alloc _).alloc _).alloc _,(c1.alloc _).alloc _,c2.alloc _⟩,hB0⟩
  (fun x=>{ tmps:=#[.pointer (some ⟨pb,0,none⟩),.int .i64 ow,.int .u32 s,.pointer (some ⟨w.heap.size,0,none⟩),undef,undef,.int .u32 0,.pointer (some ⟨w.heap.size+1,0,none⟩),.pointer (some ⟨w.heap.size+1+1,0,none⟩),.int .i64 x.1,.pointer (some ⟨pb,0,none⟩),.pointer (some ⟨pb,0,none⟩),.pointer (some ⟨pb,0,none⟩),.slice (some ⟨b,0,none⟩) ps.length cap,.int .i64 ow,.pointer (some ⟨b,ow*10,none⟩),.int .u32 s,.bool false,undef,undef,undef,undef,undef,undef,undef,.int .u32 s,.func (.func 125) #[] #[.pointer (some ⟨w.heap.size+1+1+1,0,none⟩)],.int .i64 x.1,undef,undef,undef,undef,undef,undef,undef,undef,undef,undef,undef,undef,undef,undef,undef,undef,undef,undef,undef,undef,undef,undef,undef,undef,undef],defers:=[] }) ?assign ?body ?done ?stop
 case assign =>
  exact zfl
 case body =>
  rintro l pre x W ⟨⟨hp,ho,hc⟩,hB⟩ _;have hxl:=hin x.1 x.2;obtain ⟨p,hpx⟩:∃ p,ps[x.1]?=some p:=⟨_,ym hxl⟩;have hP':=hP.below hB hpb hb;have sa:=(hP.sm x.1 p hpx).ha;have sw:=(hP.sm x.1 p hpx).hw;have si:=(hP.sm ow po hpo).hi;have hlt:=hbd (Pg.aX pre);have har:Pg.kH ps x.1=p.around:=by unfold Pg.kH;rw [hpx]
  have hwt:Pg.gi ps x.1=p.wth:=by unfold Pg.gi;rw [hpx]
  have hid:Pg.kI ps ow=po.inside:=by unfold Pg.kI;rw [hpo]
  have ha1:=OF _ _ sa si;have ha2:=N4 _ _ sw (Pg.jV (b:=po.inside) sa);have ha3:=N4 _ _ hlt (Pg.pU sw (Pg.jV (b:=po.inside) sa));have hsn:=Pg.Ed ps ow (Pg.aX pre) x.1;rw [har,hwt,hid,<- Pg.dT] at hsn;have hB':∀ v,Below w w ((W.drew).setCell ⟨w.heap.size+1+1,0,none⟩ v):=fun v=>(hB.trans ((FP _ W).drew)).setCell (p:=⟨w.heap.size+1+1,0,none⟩) zaf _;have hko:∀ v,KeepsOthers W ((W.drew).setCell ⟨w.heap.size+1+1,0,none⟩ v):=fun v=>(Oo W).trans (Mv _ _ _);have hkp:∀ v,Pg.KpT W ((W.drew).setCell ⟨w.heap.size+1+1,0,none⟩ v):=fun v=>Pg.KpT.of (((FP w W).drew).setCell (p:=⟨w.heap.size+1+1,0,none⟩) zaf _) hg;have hbp:∀ v,Boxed ((W.drew).setCell ⟨w.heap.size+1+1,0,none⟩ v) w.heap.size 78 pb:=fun v=>Boxed.kept (W:=W.drew) (show Boxed W.drew _ _ _ from hp) (Qt _ _ _) zaf;have hbo:∀ v,Boxed ((W.drew).setCell ⟨w.heap.size+1+1,0,none⟩ v) (w.heap.size+1) 214 (.pointer (some ⟨b,ow*10,none⟩)):=fun v=>Boxed.kept (W:=W.drew) (show Boxed W.drew _ _ _ from ho) (Qt _ _ _) zad;have hbc:Boxed ((W.drew).setCell ⟨w.heap.size+1+1,0,none⟩ (.int .u32 ((Pg.so ps ow (Pg.aX pre)|||(p.wth|||(p.around&&&po.inside)):Nat):Int))) (w.heap.size+1+1) 127 (.int .u32 (Pg.so ps ow (Pg.aX (pre++[x])))):=by
   exact zeD
  have hcc:=hc.cell;have hcf:=hc.frozen;gi_wp2;refine cU (S:=(fun V=>V.cell? w=some ↑pb/\V.cell? ⟨w.heap.size+1,0,none⟩=some (.pointer (some ⟨b,ow*10,none⟩))/\V.cell? pb=some (.slice b ps.length cap)/\V.cell? ⟨b,x.1*10+7,none⟩=some (.int .u32 p.wth)/\V.cell? ⟨b,x.1*10+6,none⟩=some (.int .u32 p.around)/\V.cell? ⟨b,ow*10+5,none⟩=some (.int .u32 po.inside))) zab zab zbi ⟨hp.cell,ho.cell,hP'.row,(hP'.at' x.1 p hpx).c7,(hP'.at' x.1 p hpx).c6,(hP'.at' ow po hpo).c5⟩ (fun ds => ?_);clear hsn har hwt hid hp hc ho hP hP' hrow hrow1;refine tH 1 pb rfl ds ?_;refine tH 2 pb rfl ds ?_;refine tH 3 pb rfl ds ?_;refine tH 4 (.slice b ps.length cap) rfl ds ?_;refine tH 5 (.int .i64 x.1) rfl ds ?_;refine tH 6 (.pointer (some ⟨b,x.1*10,none⟩)) rfl ds ?_;refine tH 7 (.pointer (some ⟨b,x.1*10+7,none⟩)) rfl ds ?_;refine tH 8 (.int .u32 p.wth) rfl ds ?_;refine tH 9 pb rfl ds ?_;refine tH 10 pb rfl ds ?_;refine tH 11 pb rfl ds ?_;refine tH 12 (.slice b ps.length cap) rfl ds ?_;refine tH 13 (.int .i64 x.1) rfl ds ?_;refine tH 14 (.pointer (some ⟨b,x.1*10,none⟩)) rfl ds ?_;refine tH 15 (.pointer (some ⟨b,x.1*10+6,none⟩)) rfl ds ?_;refine tH 16 (.int .u32 p.around) rfl ds ?_;refine tH 17 (.pointer (some ⟨b,ow*10,none⟩)) rfl ds ?_;refine tH 18 (.pointer (some ⟨b,ow*10,none⟩)) rfl ds ?_;refine tH 19 (.pointer (some ⟨b,ow*10+5,none⟩)) rfl ds ?_;refine tH 20 (.int .u32 po.inside) rfl ds ?_;refine tH 21 (.int .u32 ((p.around&&&po.inside:Nat):Int)) rfl ds ?_;refine tH 22 (.int .u32 ((p.wth|||(p.around&&&po.inside):Nat):Int)) rfl ds ?_;refine zH 0 rfl fun K hK => ?_;go_simp;refine hK.out _ _ ds (fun ds => ?_);clear hK K;refine tH 23 (.int .u32 ((Pg.so ps ow (Pg.aX pre)|||(p.wth|||(p.around&&&po.inside)):Nat):Int)) rfl ds ?_;refine zH 24 rfl fun K hK => ?_;go_simp;refine hK.out _ _ (by
   have e:∀ (a:Addr),a.block≠w.heap.size+1+1->∀ v,(W.setCell ⟨w.heap.size+1+1,0,none⟩ v).drew.cell? a=W.drew.cell? a:=fun a ha v=>World.cell?_setCell_far W _ _ _ (fun h=>ha h.symm)
   (try dsimp only at ds);(try dsimp only)
   rw [e _ zaf,e _ zad,e _ zaf,e _ zaf,e _ zaf,e _ zaf];exact ds) (fun _ => ?_)
  clear hK K;refine LX zab ?_ _;gi_wp2;exact ⟨hko _,hkp _,⟨hbp _,hbo _,hbc⟩,hB' _⟩
 case done =>
  rintro D ys W hD hys ⟨⟨_,_,hc⟩,hB⟩ hK;exact zdy
 case stop =>
  exact zfe
namespace Pg
theorem qC {ps:List PS} (h:∀ (i:Nat) (p:PS),ps[i]?=some p->p.Sm) (i:Nat):gi ps i<4294967296:=by
 unfold gi;split
 ·rename_i p hp;exact (h i p hp).hw
 ·omega
theorem Hx {ps:List PS} (h:∀ (i:Nat) (p:PS),ps[i]?=some p->p.Sm) (i:Nat):kH ps i<4294967296:=by
 unfold kH;split
 ·rename_i p hp;exact (h i p hp).ha
 ·omega
theorem CA {ps:List PS} (h:∀ (i:Nat) (p:PS),ps[i]?=some p->p.Sm) (ow:Nat):∀ (l:List Nat) (o:Nat),o<4294967296->l.foldl (fun o i=>o|||(gi ps i|||(kH ps i&&&kI ps ow))) o<4294967296
 | [],_,ho=>ho
 | i::l,_,ho=>CA h ow l _ (pU ho (pU (qC h i) (jV (Hx h i))))
theorem Cz {ps:List PS} (h:∀ (i:Nat) (p:PS),ps[i]?=some p->p.Sm) (ow:Nat) (l:List Nat):so ps ow l<4294967296:=CA h ow l 0 zaa
def eG (ps:List PS) (ow s:Nat):Nat:=if s=0 then gi ps ow&&&(4294967295-2 ^ ow) else so ps ow (els s)
theorem Ee {ps:List PS} (h:∀ (i:Nat) (p:PS),ps[i]?=some p->p.Sm) (ow s:Nat):eG ps ow s<4294967296:=by
 unfold eG;split
 ·exact jV (qC h ow)
 ·exact Cz h ow _
end Pg
theorem zo (w:World) (pb b cap:Nat) (ps:List Pg.PS) (ow:Nat) (po:Pg.PS) (hpo:ps[ow]?=some po) (hP:Pg.bV w pb b cap ps) (hpb:pb<w.heap.size) (hb:b<w.heap.size) :
  () 136 #[pb,(ow:Int),.int .u32 0] w fun e w'=>e = .returned (.int .u32 (Pg.gi ps ow&&&(4294967295-2 ^ ow):Nat))/\Below w w w':=by
 have hol:ow<ps.length:=(Ku.1 hpo).1;have hlen:=hP.len;have hB1:Below w w (w.alloc (.cells #[pb] 78)):=(FP _ w).alloc (u0 _) _;have hB2:Below w w ((w.alloc (.cells #[pb] 78)).alloc (.cells #[.pointer (some ⟨b,ow*10,none⟩)] 214)):=hB1.alloc zad _;have hrow1:=(hP.below hB1 hpb hb).row;have h7:=((hP.below hB2 hpb hb).at' ow po hpo).c7;have hc1:=(L5 (w.alloc (.cells #[pb] 78)) 214 (.pointer (some ⟨b,ow*10,none⟩))).cell;simp only [World.size_alloc] at hc1;have hwt:Pg.gi ps ow=po.wth:=by unfold Pg.gi;rw [hpo]
 have hsm:=(hP.sm ow po hpo).hw;have ha:bits BinOp.andNot IntKind.u32 (po.wth:Int) ((2:Int) ^ ow)=((po.wth&&&(4294967295-2 ^ ow):Nat):Int):=by
  rw [jd,Qa _ _ hsm (fX zaa)]
 rw [hwt];generalize hr:po.wth&&&(4294967295-2 ^ ow)=r at *;go_enter func136,ntmps136;go_wp2;generalize (w.alloc (.cells #[pb] 78)).alloc (.cells #[.pointer (some ⟨b,ow*10,none⟩)] 214)=W at *;go_region_with (go_at_call 80;refine (ir ow _ zaa).mono ?_;rintro e w9 ⟨rfl,hw9⟩;rw [hw9];clear hw9 w9)
 all_goals go_wp2
 all_goals go_ret
 all_goals exact ⟨rfl,hB2.trans (FP _ W).drew⟩
theorem BE (w:World) (pb b cap:Nat) (ps:List Pg.PS) (ow:Nat) (po:Pg.PS) (hpo:ps[ow]?=some po) (s:Nat) (hs:s<4294967296) (hin:∀ i,i∈Pg.els s->i<ps.length) (hP:Pg.bV w pb b cap ps) (hpb:pb<w.heap.size) (hb:b<w.heap.size)
  (hg:1<w.heap.size) (hT:TabAt 1 Lib.deBruijn32tab w) :
  () 136 #[pb,(ow:Int),.int .u32 s] w fun e w'=>e = .returned (.int .u32 (Pg.eG ps ow s))/\Below w w w':=by
 unfold Pg.eG;by_cases h0:s=0
 ·subst h0;rw [LA rfl];exact zo w pb b cap ps ow po hpo hP hpb hb
 ·rw [KQ h0];exact L4.1 (zn 3 zaa w pb b cap ps ow po hpo s hs h0 hin (Pg.Cz hP.sm ow) hP hpb hb hg hT)
theorem mD (w:World) (pb b cap:Nat) (ps:List Pg.PS) (s:Nat) (hs:s<4294967296) (hin:∀ i,i∈Pg.els s->i<ps.length) (hP:Pg.bV w pb b cap ps) (hpb:pb<w.heap.size) (hb:b<w.heap.size)
  (hg:1<w.heap.size) (hT:TabAt 1 Lib.deBruijn32tab w) :
  () 88 #[pb,.int .u32 s] w fun e w'=>e = .returned (.int .u32 (Pg.inn ps s))/\Below w w w' :=
 L4.1 (wm 3 zaa w pb b cap ps s hs hin hP hpb hb hg hT)
