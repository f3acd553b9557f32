import Derived.Test.YtobhbhmjajobjaaGreatDoorProg
import Derived.WalkLawsBesides
import Derived.WalkSpells
import Derived.Deep.WholeRow
import Derived.StillTailTactics
import Derived.Deep.RegionHeld
import Derived.PlainAid
import Derived.Deep.Light
import Derived.Lib.ItoaNum
import Derived.Lib.ParseIntB
import Derived.Shelf.Small.Bits
import Derived.Shelf.Spec.TrailingZeros
import Derived.RangeFuncNested
import Derived.RangeFuncBound
import Derived.Shelf.RegionOpen
import Derived.OwnWalkIn
import Derived.LoopNIn
import Derived.LoopIn
set_option maxRecDepth 100000
set_option maxHeartbeats 8000000
namespace Go.Proofs.YtobhbhmjajobjaaGreatDoor
variable {zp:Prop}
theorem zcP (h:zp:=by
 have hp:=N8 k;have e1:s=2 ^ k*(2*m+1)+0:=zaa;have e2:s-1=2 ^ k*(2*m)+(2 ^ k-1):=by
  have:2 ^ k*(2*m+1)=2 ^ k*(2*m)+2 ^ k:=by rw [Nat.mul_add,Pw]
  omega
 have t1:∀ j,s.testBit j=if j<k then false else (2*m+1).testBit (j-k):=by
  intro j;rw [e1,Ph _ hp,Qy]
 have t2:∀ j,(s-1).testBit j=if j<k then (2 ^ k-1).testBit j else (2*m).testBit (j-k):=by
  intro j;rw [e2,Ph _ zaa]
 refine ⟨hk,?_,?_,?_⟩
 ·rw [t1,Mz zaa,PN,PG];simp
 ·intro j hj;rw [t1,MB hj]
 ·intro j;rw [PZ,t1,t2];by_cases hj:j<k
  ·rw [MB hj,MB hj];rfl
  ·rw [Mz hj,Mz hj];by_cases hjk:j=k
   ·subst hjk;rw [PN,PG,PG];simp
   ·obtain ⟨i,hi⟩:∃ i,j-k=i+1:=⟨j-k-1,zaa⟩;rw [hi,Qz,Qz,show (2*m+1) / 2=m by omega,show 2*m / 2=m by omega];simp [hjk]):zp:=h
theorem zdy (h:zp:=by
 have hc:=hc.cell;rw [Pg.cd,hys] at hc;gi_wp2;refine ⟨zad,.inl ⟨_,_,rfl,Nq hK,?_⟩⟩;exact ⟨_,QG rfl _ _ _,rfl,hB.trans (OV (w:=w) (Mt _) W D _ _ zbl hK rfl rfl)⟩):zp:=h
theorem zea (h:zp:=by
 gi_wp2;refine Ob (NF rfl _ _ _) rfl ?_;exact ⟨⟨_,rfl⟩,.inr ⟨_,⟨_,hE.symm⟩,hJx3⟩⟩):zp:=h
theorem zeE (h:zp:=by
 rw [hsn];exact QX (W:=W.drew) _ (show Boxed W.drew _ _ _ from hc)):zp:=h
theorem zeI (h:zp:=by
 have:=NJ s.testBit (List.range 32);rw [OU] at this;exact this):zp:=h
theorem ze0 (h:zp:=by
 exact ⟨⟨_,rfl⟩,.inl ⟨pre,he.symm,hJs⟩⟩):zp:=h
theorem zfg (h:zp:=by
 rintro D c pre W _ _ h _;exact h.elim):zp:=h
theorem zfl (h:zp:=by
 go_wp2;go_ret;exact ⟨rfl,rfl⟩):zp:=h
theorem zfm (h:zp:=by
 rw [he,hf] at h1;simp at h1;omega):zp:=h
theorem zfn (h:zp:=by
 intro l x W K hK;gi_wp2;exact hK):zp:=h
theorem zfr (h:zp:=by
 go_ret;exact ⟨rfl,rfl⟩):zp:=h
theorem zaa (h:zp:=by omega):zp:=h
theorem zab (h:zp:=by kernel_rfl):zp:=h
theorem zac (h:zp:=by decide):zp:=h
theorem zad (h:zp:=by simp):zp:=h
theorem zae (h:zp:=by rfl):zp:=h
theorem zaf (h:zp:=by simp;omega):zp:=h
theorem zag (h:zp:=by unfold maxLen;omega):zp:=h
theorem zah (h:zp:=by go_num):zp:=h
theorem zai (h:zp:=by (try dsimp only at hSw);go_simp;(try with_reducible rfl)):zp:=h
theorem zam (h:zp:=by assumption):zp:=h
theorem zap (h:zp:=by simp [Value.oneCell']):zp:=h
theorem zav (h:zp:=by cases h):zp:=h
theorem zaC (h:zp:=by simpa using h):zp:=h
theorem zaO (h:zp:=by simp at hi;omega):zp:=h
theorem zaR (h:zp:=by decide +kernel):zp:=h
theorem zbg (h:zp:=by rw [h.size];exact Mt _):zp:=h
theorem zbh (h:zp:=by rintro ⟨_,_,h⟩;exact h):zp:=h
theorem zbl (h:zp:=by simp at hD;omega):zp:=h
theorem zbp (h:zp:=by simpa using hi):zp:=h
theorem zbr (h:zp:=by simpa using hx):zp:=h
theorem zbT (h:zp:=by simpa [isD] using hd.1):zp:=h
instance:Coe Int Value:=⟨.int .i64⟩
instance:CoeFun Unit fun _=>Nat->Array Value->World->(Ending->World->Prop)->Prop:=⟨fun _=>Calls Tryz.prog⟩
instance:Coe Nat Value:=⟨fun b=>.pointer (some ⟨b,0,none⟩)⟩
instance:Coe World Nat:=⟨fun w=>w.heap.size⟩
instance:Coe Nat Addr:=⟨fun b=>⟨b,0,none⟩⟩
instance:Coe ByteArray Value:=⟨.string⟩
instance:Coe Bool Value:=⟨.bool⟩
abbrev Ms:=@Array.getElem?_eq_some_iff
abbrev Mt:=@Nat.le_refl
abbrev Mu:=@List.getElem?_eq_getElem
abbrev Mv:=@Nat.le_trans
abbrev Mw:=@Go.RowKit.Below.refl
abbrev Mx:=@List.getElem?_eq_some_iff
abbrev My:=@Go.cell_of_row
abbrev Mz:=@if_neg
abbrev MA:=@Go.AllReady.cons
abbrev MB:=@if_pos
abbrev MC:=@Go.Calls.mono
abbrev MD:=@Go.heap_alloc_new
abbrev ME:=@List.mem_singleton
abbrev MF:=@List.getElem?_map
abbrev MG:=@List.mem_of_getElem?
abbrev MH:=@List.length_map
abbrev MI:=@List.getD_eq_getElem?_getD
abbrev MJ:=@Nat.zero_le
abbrev MK:=@Go.World.cell?_of_block
abbrev ML:=@List.length_set
abbrev MN:=@List.length_append
abbrev MO:=@Go.heap_setCell_same
abbrev MP:=@Go.wp_region_held_drew
abbrev MQ:=@Go.World.block_lt_of_cell?
abbrev MR:=@Nat.lt_of_lt_of_le
abbrev MU:=@List.mem_append
abbrev MX:=@Go.AllReady.nil
abbrev MY:=@Go.wpAnyH_done
abbrev MZ:=@Option.map_eq_some_iff
abbrev M0:=@List.getElem?_set_self
abbrev M4:=@List.getElem?_eq_none
abbrev M5:=@List.mem_iff_getElem?
abbrev M6:=@Go.callsIn_wide
abbrev M7:=@Go.Boxed.new
abbrev M8:=@List.mem_or_eq_of_mem_set
abbrev Na:=@Bool.and_eq_true
abbrev Nc:=@Go.World.ownsRow.lt
abbrev Nf:=@Go.RowKit.Below.heap_setCell
abbrev Ng:=@List.getElem?_set_ne
abbrev Nh:=@Go.OwnFrom.and
abbrev Ni:=@List.mem_map
abbrev Nj:=@Go.AllReadyH.cons
abbrev Nk:=@List.mem_cons_self
abbrev Nl:=@List.mem_cons_of_mem
abbrev Nn:=@Go.World.cell?_alloc_lt
abbrev No:=@decide_eq_false
abbrev Np:=@Option.some.inj
abbrev Nq:=@Go.run_takeDeferred
abbrev Nr:=@List.flatMap_append
abbrev Ns:=@List.getElem_mem
abbrev Nt:=@Nat.lt_of_le_of_lt
abbrev Nu:=@Go.World.putObj_heap_other
abbrev Nv:=@Nat.or_lt_two_pow
abbrev Nw:=@Go.Oper.semAt_some
abbrev Ny:=@List.map_append
abbrev Nz:=@Go.callsIn_of_wp_marks
abbrev NA:=@Go.ByteArray.toList_eq
abbrev NB:=@Go.KeepsOthers.setCell
abbrev NC:=@decide_eq_true
abbrev ND:=@Go.World.ownsRow_nil
abbrev NF:=@Go.results_none
abbrev NG:=@List.getElem?_append_left
abbrev NH:=@Go.World.size_alloc
abbrev NI:=@Go.RowKit.Below.heap_alloc
abbrev NJ:=@List.length_filter_le
abbrev NK:=@List.getElem?_take_of_lt
abbrev NL:=@List.mem_range
abbrev NM:=@List.getElem?_append_right
abbrev NN:=@Go.boxed_own
abbrev NO:=@List.take_length
abbrev NP:=@List.length_take
abbrev NQ:=@List.getElem_set
abbrev NR:=@Go.KeepsFrom.refl
abbrev NS:=@Array.getElem?_toList
abbrev NT:=@List.flatMap_cons
abbrev NU:=@List.length_cons
abbrev NV:=@Go.wpList_load_mid
abbrev NW:=@Nat.add_assoc
abbrev NX:=@Go.Own.from
abbrev NY:=@Go.wpAny_done
abbrev NZ:=@List.foldl_append
abbrev N0:=@Go.AllReadyH.nil
abbrev N1:=@Go.wpStill_nil
abbrev N2:=@List.getElem_append_right
abbrev N3:=@Array.getElem?_setIfInBounds_ne
abbrev N4:=@Go.info_parts
abbrev N5:=@Go.World.ownsRow.frozenAt
abbrev N6:=@List.getElem_append_left
abbrev N7:=@List.mem_filter
abbrev N8:=@Nat.two_pow_pos
abbrev N9:=@Go.grownBy_putObj'
abbrev Oa:=@List.take_add_one
abbrev Ob:=@Go.bodyPost_ret
abbrev Oc:=@Array.getElem?_setIfInBounds_self_of_lt
abbrev Od:=@List.getLast?_eq_getElem?
abbrev Oe:=@Classical.byContradiction
abbrev Of:=@Nat.pow_le_pow_right
abbrev Og:=@List.filter_append
abbrev Oh:=@Go.wp_region_any
abbrev Oi:=@Nat.and_le_left
abbrev Oj:=@Bool.and_false
abbrev Ok:=@List.filter_cons_of_neg
abbrev Ol:=@List.filter_cons_of_pos
abbrev Om:=@Go.World.frozen?_alloc_old
abbrev On:=@List.append_assoc
abbrev Oo:=@Go.World.putObj_heap_same
abbrev Oq:=@Go.ownFrom_below
abbrev Ot:=@beq_eq_false_iff_ne
abbrev Ou:=@List.length_pos_iff
abbrev Ov:=@List.length_singleton
abbrev Ow:=@List.map_set
abbrev OA:=@List.length_eq_zero_iff
abbrev OB:=@List.mem_of_getLast?
abbrev OC:=@Go.RowKit.Below.block
abbrev OD:=@List.pairwise_cons
abbrev OE:=@List.mem_cons
abbrev OF:=@Nat.lt_or_ge
abbrev OG:=@Go.World.ownsRow.alloc
abbrev OH:=@List.mem_map_of_mem
abbrev OI:=@List.eq_nil_of_length_eq_zero
abbrev OJ:=@Go.below_drewN
abbrev OK:=@List.getElem?_set
abbrev OL:=@List.ext_getElem?
abbrev OM:=@Nat.zero_add
abbrev ON:=@Go.Proofs.enters_of
abbrev OO:=@List.getElem_map
abbrev OP:=@List.getElem?_cons_succ
abbrev OQ:=@List.map_cons
abbrev OR:=@Bool.false_and
abbrev OS:=@List.filter_eq_nil_iff
abbrev OT:=@List.filter_congr
abbrev OU:=@List.length_range
abbrev OV:=@Go.belowK_b
abbrev OW:=@List.getElem_of_mem
abbrev OX:=@List.getLast?_eq_none_iff
abbrev OY:=@Go.World.frozen?_setCell
abbrev OZ:=@List.getElem?_toArray
abbrev O0:=@List.getElem_set_self
abbrev O1:=@Go.u32_or_nat
abbrev O2:=@List.mem_flatMap
abbrev O3:=@List.any_eq_true
abbrev O4:=@Go.World.cell?_setCell_same
abbrev O5:=@List.eq_of_mem_replicate
abbrev O6:=@List.map_map
abbrev O7:=@Nat.mul_le_mul_right
abbrev O8:=@List.mem_of_mem_take
abbrev O9:=@Int.toNat_natCast
abbrev Pa:=@of_decide_eq_true
abbrev Pb:=@List.foldl_cons
abbrev Pc:=@List.append_nil
abbrev Pd:=@Go.setRow_other
abbrev Pe:=@Go.ByteArray.size_append'
abbrev Pf:=@Bool.true_or
abbrev Ph:=@Nat.testBit_two_pow_mul_add
abbrev Pj:=@Go.WideMaps.keyOf_string_mk
abbrev Pk:=@Go.World.frozen?_of_block
abbrev Pl:=@List.all_eq_true
abbrev Pm:=@List.isEmpty_iff
abbrev Pn:=@Go.KeepsOthers.drew
abbrev Po:=@Array.toList_setIfInBounds
abbrev Pp:=@Go.Maps.has_put_other
abbrev Pq:=@Array.getElem?_eq_getElem
abbrev Pr:=@List.drop_eq_getElem_cons
abbrev Ps:=@List.getElem?_eq_none_iff
abbrev Pt:=@Array.all_eq_true_iff_forall_mem
abbrev Pu:=@decide_eq_true_eq
abbrev Pv:=@Nat.pow_lt_pow_right
abbrev Pw:=@Nat.mul_one
abbrev PB:=@Nat.testBit_two_pow
abbrev PC:=@Go.wpIn_rangeFunc_ownH
abbrev PD:=@Nat.le_add_right
abbrev PE:=@Go.IntKind.wrap_u64
abbrev PG:=@Nat.testBit_zero
abbrev PH:=@Nat.and_le_right
abbrev PI:=@Go.u32_and_nat
abbrev PJ:=@Go.Lib.size_eq
abbrev PK:=@Go.leaves_cons
abbrev PN:=@Nat.sub_self
abbrev PO:=@List.set_set
abbrev PQ:=@List.length_take_of_le
abbrev PR:=@List.filter_filter
abbrev PU:=@List.getElem?_take
abbrev PW:=@Nat.testBit_shiftRight
abbrev PX:=@Nat.div_div_eq_div_mul
abbrev PY:=@List.mem_of_mem_eraseP
abbrev PZ:=@Nat.testBit_and
abbrev P0:=@Nat.not_lt_zero
abbrev P1:=@List.nodup_cons
abbrev P2:=@List.any_append
abbrev P3:=@Bool.true_and
abbrev P4:=@List.contains_iff_mem
abbrev P5:=@List.set_append_right
abbrev P6:=@Nat.lt_trichotomy
abbrev P7:=@Go.Maps.string_keyed
abbrev P8:=@List.mem_of_mem_drop
abbrev P9:=@List.exists_cons_of_ne_nil
abbrev Qa:=@Go.wp_loop_rounds
abbrev Qb:=@Go.Proofs.bits_and_u32_nat
abbrev Qc:=@getElem!_pos
abbrev Qd:=@List.length_drop
abbrev Qe:=@List.filter_cons
abbrev Qf:=@Go.wpIn_rangeFunc_ownF
abbrev Qg:=@Go.World.cell?_setCells_out
abbrev Qh:=@Bool.or_false
abbrev Qi:=@List.set_eq_of_length_le
abbrev Qj:=@Bool.eq_iff_iff
abbrev Qk:=@List.range_succ
abbrev Ql:=@List.filter_map
abbrev Qm:=@Go.Maps.atKey_put_other
abbrev Qn:=@Go.getD_set_ne
abbrev Qo:=@List.findIdx?_eq_some_iff_getElem
abbrev Qp:=@List.all_eq_false
abbrev Qq:=@Nat.zero_mul
abbrev Qr:=@Nat.testBit_lt_two_pow
abbrev Qs:=@List.getElem?_inj
abbrev Qt:=@Go.Maps.atKey_put_same
abbrev Qu:=@List.flatMap_singleton
abbrev Qv:=@Nat.le_succ_of_le
abbrev Qw:=@List.any_eq_false
abbrev Qx:=@List.mem_set
abbrev Qy:=@Nat.zero_testBit
abbrev Qz:=@Nat.testBit_succ
abbrev QA:=@List.all_cons
abbrev QB:=@Bool.false_or
abbrev QC:=@Go.callsIn_of_wp
abbrev QD:=@List.sum_cons
abbrev QE:=@Go.setRow_size
abbrev QF:=@Go.Lib.bitLenAux_bounds
abbrev QG:=@Go.results_tmp
abbrev QH:=@List.getElem?_of_mem
abbrev QI:=@List.mem_append_left
abbrev QJ:=@Go.rounds_succ
abbrev QK:=@Nat.div_le_div_right
abbrev QL:=@UInt8.toNat_inj
abbrev QM:=@Nat.testBit_two_pow_sub_succ
abbrev QN:=@List.prefix_append_right_inj
abbrev QO:=@Nat.min_eq_left
abbrev QP:=@List.zip_append
abbrev QQ:=@List.length_reverse
abbrev QR:=@Go.run_enterLoop_outer
abbrev QS:=@List.map_congr_left
abbrev QT:=@List.getElem?_range
abbrev QU:=@Nat.pow_succ
abbrev QV:=@Nat.succ_mul
abbrev QW:=@Bool.or_true
abbrev QX:=@Go.Boxed.set
abbrev QY:=@Nat.add_sub_cancel
abbrev QZ:=@Go.u32_andNot_nat
abbrev Q0:=@Go.World.ownsMap_made
abbrev Q1:=@Array.getElem?_append_left
abbrev Q2:=@List.prefix_append
abbrev Q3:=@beq_iff_eq
abbrev Q4:=@Go.ready_mono
abbrev Q5:=@Go.wpAnyH_take
abbrev Q6:=@Bool.not_eq_true'
abbrev Q7:=@Go.ownFrom_keepsFrom
abbrev Q8:=@Go.KeepsOthers.alloc
abbrev Q9:=@Go.run_endLoop
abbrev Rb:=@Go.setRow_heap
abbrev Rc:=@Nat.lt_succ_of_lt
abbrev Re:=@Go.plainElem_int
abbrev Rg:=@List.cons_append
abbrev Rh:=@List.mem_reverse
abbrev Ri:=@Go.grownBy_setCell'
abbrev Rj:=@Go.wpIn_wide
abbrev Rl:=@Go.run_store
abbrev Rn:=@Nat.lt_succ_self
abbrev Ro:=@Go.wpAny_take
abbrev Rp:=@Nat.ne_of_lt
abbrev Rr:=@Nat.add_zero
abbrev Rs:=@Nat.le_of_lt
abbrev Rt:=@List.prefix_rfl
abbrev Ru:=@List.sum_append
abbrev Rv:=@List.nil_append
abbrev Rx:=@Nat.testBit_or
abbrev Ry:=@List.nodup_nil
abbrev Rz:=@Nat.le_zero
abbrev RA:=@Go.Lib.mk_data
abbrev RB:=@Go.wpOp_mono
abbrev RC:=@Go.mem_ready
open Tryz
variable {g B t id base size n i k s b off cap:Nat} {w' W W':World} {p:Tmp} {c:Int} {op o:Oper} {rest:List Oper} {fn:Func} {ty e:TypeId} {R:Ending->World->Prop} {l:List ByteArray} {xs:List Value} {args:Array Value}
section
open Go.RowKit
variable {P:Program}
structure gV (g:Nat) (w w':World):Prop where
 os:w'.os=w.os
 tape:w'.tape=w.tape
 output:w'.output=w.output
 size:w'.heap.size=w.heap.size
 block:∀ k,k≠g->w'.heap[k]?=w.heap[k]?
theorem gV.below {a w:World} (h:gV g w w') (hb:Below B a w) (hB:B<=g):Below B a w' :=
 hb.trans ⟨h.os,h.tape,h.output,zbg,fun k hk=>h.block k zaa⟩
theorem gV.cell {w:World} (h:gV g w w') {p:Addr} (hp:p.block≠g):w'.cell? p=w.cell? p:=MK (w:=w) (h.block p.block hp)
theorem gP (w:World) (g:Nat) (cs:Array Value):gV g w (w.setRow g cs):=⟨rfl,rfl,rfl,QE w g cs,fun k hk=>Pd w g k cs hk⟩
theorem aa (w:World) (g o:Nat) (v:Value):gV g w (w.setCell ⟨g,o,none⟩ v):=⟨rfl,rfl,rfl,by simp [World.setCell],fun k hk=>Nf _ _ _ _ hk⟩
theorem gV.JJ {w:World} (h:gV g w.drew w'):gV g w w':=⟨h.os,h.tape,h.output,h.size,h.block⟩
theorem ku {w:World} {c:Array Value} {t:TypeId} {fz:Nat×Nat} (hg:w.heap[g]?=some (.cells c t fz)):w.rangeAt g 0 c.toList:=by
 intro j v hj;rw [OM,My w g j c t fz hg];simpa using hj
theorem xZ {cells:Array Value} (h:cells.toList.all (·.oneCell')=true):cells.all (·.oneCell')=true:=by
 rw [Pt];intro v hv;exact Pl.1 h v (by simpa using hv)
theorem kF {a:Act} {w:World} {K:Act->World->Prop} {Q:Exit->Act->World->Prop} (ty:TypeId) (x y:Operand) (ho:op.op = .store ty x y)
  (g:Nat) (t:TypeId) (c cells:Array Value) (hx:a.eval x = .pointer (some ⟨g,0,none⟩)) (hy:a.eval y = .agg cells)
  (hg:w.heap[g]?=some (.cells c t (0,0))) (hi:(P.info? ty).map (·.size)=some cells.size) (hs:c.size=cells.size) (h1:cells.toList.all (·.oneCell')=true)
  (h:K (a.put op.dst undef) (w.setRow g cells)):op.wp P a w K Q:=by
 unfold Oper.wp execOp;simp only [ho,hx,hy,Instr.storeAt,Instr.sureAddr,Sem.run_bind,Sem.run_pure,Result.andThen_ok,run_storeVar_row w g t ty c cells hg hi hs (xZ h1)];exact h
theorem eN {ops:Array Oper} {a:Act} {w:World} {Q:Exit->Act->World->Prop} (hgd:op.guard=none) (ty:TypeId) (x y:Operand) (ho:op.op = .store ty x y)
  (g:Nat) (t:TypeId) (c cells:Array Value) (hx:a.eval x = .pointer (some ⟨g,0,none⟩)) (hy:a.eval y = .agg cells)
  (hg:w.heap[g]?=some (.cells c t (0,0))) (hi:(P.info? ty).map (·.size)=some cells.size) (hs:c.size=cells.size) (h1:cells.toList.all (·.oneCell')=true)
  (h:wpList P ops Q rest (a.put op.dst undef) (w.setRow g cells)):wpList P ops Q (op::rest) a w :=
 wpList_plain hgd fun _ hK=>kF ty x y ho g t c cells hx hy hg hi hs h1 (hK _ _ h)
theorem aI {ops:Array Oper} {a:Act} {w:World} {Q:Exit->Act->World->Prop} (hgd:op.guard=none) (ty:TypeId) (x y:Operand) (ho:op.op = .store ty x y)
  (t:TypeId) (c cells:Array Value) (hx:a.eval x = .pointer (some ⟨w,0,none⟩)) (hy:a.eval y = .agg cells)
  (hi:(P.info? ty).map (·.size)=some cells.size) (hs:c.size=cells.size) (h1:cells.toList.all (·.oneCell')=true)
  (h:wpList P ops Q rest (a.put op.dst undef) (w.alloc (.cells cells t))):wpList P ops Q (op::rest) a (w.alloc (.cells c t)) :=
 eN hgd ty x y ho w t c cells hx hy (MD w _) hi hs h1 (by rw [World.setRow_alloc_new];exact h)
theorem iw (h:fn.results=#[.cell p ty]) (tmps:Array Value) (P:Program) (w:World) :
  (results fn tmps).run P w=((asAddr (tmps.getD p undef)).run P w).andThen fun a w₁=>(loadVar ty a).run P w₁:=by
 simp only [results,h];simp [Sem.run_bind,Result.andThen]
theorem dP {a:Act} {w:World} (h:fn.results=#[.cell p ty]) (g:Nat) (t:TypeId) (c:Array Value) (fz:Nat×Nat) (d:TypeDesc)
  (hp:a.tmps.getD p undef = .pointer (some ⟨g,0,none⟩)) (hg:w.heap[g]?=some (.cells c t fz)) (hu:P.underlying ty=some d) (hd:d.isRow=true) (hi:(P.info? ty).map (·.size)=some c.size)
  (hdf:a.defers=[]) (hR:R (.returned (.agg c)) w):bodyPost P fn R .ret a w:=by
 refine Ob (v := .agg c) ?_ hdf hR;rw [iw h,hp];have:=run_loadVar_mid (P:=P) w g 0 ty c.toList d (ku hg) hu hd zbp;simpa [asAddr] using this
theorem dU {Q:Exit->Act->World->Prop} {a:Act} {w:World} {l:List Oper} (n:Nat) (hm:P.follows .mixedOrders=true) (hB:Region.lexTailB .any l.toArray n=true)
  (h:wpStill P l.toArray w.drew (fun a'=>wpList P l.toArray Q (l.drop n) a' w.drew) (l.take n) a):(Code.region id l.toArray true).wp P Q a w :=
 wp_region_still_tail n hm hB h
theorem aD {base':Nat} {v:Value} {w:World} (h:w.ownsRow base e size v n xs) (hb:base'<=base):w.ownsRow base' e size v n xs:=by
 refine ⟨h.1,?_⟩
 rcases h.2 with h' | ⟨k,cap,cur,hv,hb',r⟩
 ·exact .inl h'
 ·exact .inr ⟨k,cap,cur,hv,zaa,r⟩
theorem bQ (w:World) (o p:Obj):((w.alloc o).alloc p).heap[w.heap.size+1]?=some p:=by
 have:=MD (w.alloc o) p
 rwa [NH] at this
theorem eL (w:World) (o p:Obj):((w.alloc o).alloc p).heap[w.heap.size]?=some o:=by
 rw [NI _ _ _ zad];exact MD w o
theorem dR {P:Program} {md:Region.Mode} {ops:Array Oper} {Q:Exit->Act->World->Prop} {S:World->Prop} {oi:Oper} {v:Value} {d:Option Tmp} {fuel:Nat} {listed:Array Bool} {a:Act} {w:World} (hi:ops[i]?=some oi) (hd:oi.dst=d)
  (hs:Region.noSelect ops=true) (hf:Region.free md ops listed i=true) (hr:(Region.ready md ops listed).contains i=true)
  (hQ:∀ c a w,Q (.panic c) (a.put d v) w->Q (.panic c) a w) (hy:YieldsIf P ops S oi v a) (hS:S w)
  (h:wpAnyH P md ops Q S fuel (listed.setIfInBounds i true) (a.put d v) w):wpAnyH P md ops Q S (fuel+1) listed a w:=by
 subst hd;exact Q5 hi hs hf hr hQ hy hS h
section
variable {P:Program} {md:Region.Mode} {ops:Array Oper} {Q:Exit->Act->World->Prop} {S:World->Prop} {oi:Oper} {fuel:Nat} {listed:Array Bool} {a:Act} {w:World}
theorem tH (i:Nat) (v:Value) (hi:ops[i]?=some oi) (hS:S w) (h:wpAnyH P md ops Q S fuel (listed.setIfInBounds i true) (a.put oi.dst v) w) (hs:Region.noSelect ops=true:=by kernel_rfl) (hf:Region.free md ops listed i=true:=by kernel_rfl) (hr:(Region.ready md ops listed).contains i=true:=by kernel_rfl) (hQ:∀ c a w,Q (.panic c) (a.put oi.dst v) w->Q (.panic c) a w:=by exact fun _ _ _ h=>h) (hy:YieldsIf P ops S oi v a:=by exact Or.inl ⟨zae,fun w hSw=>zai⟩):wpAnyH P md ops Q S (fuel+1) listed a w:=Q5 hi hs hf hr hQ hy hS h
theorem tG (i:Nat) (v:Value) (hi:ops[i]?=some oi) (hS:S w) (h:wpAnyH P md ops Q S fuel (listed.setIfInBounds i true) (a.put oi.dst v) w) (hs:Region.noSelect ops=true:=by kernel_rfl) (hf:Region.free md ops listed i=true:=by kernel_rfl) (hr:(Region.ready md ops listed).contains i=true:=by kernel_rfl) (hQ:∀ c a w,Q (.panic c) (a.put oi.dst v) w->Q (.panic c) a w:=by exact fun _ _ _ h=>h) (hy:YieldsIf P ops S oi v a:=by exact Or.inl ⟨zab,fun w hSw=>zai⟩):wpAnyH P md ops Q S (fuel+1) listed a w:=Q5 hi hs hf hr hQ hy hS h
theorem tD (d:Option Tmp) (i:Nat) (v:Value) (hi:ops[i]?=some oi) (hS:S w) (h:wpAnyH P md ops Q S fuel (listed.setIfInBounds i true) (a.put d v) w) (hd:oi.dst=d:=by rfl) (hs:Region.noSelect ops=true:=by kernel_rfl) (hf:Region.free md ops listed i=true:=by kernel_rfl) (hr:(Region.ready md ops listed).contains i=true:=by kernel_rfl) (hQ:∀ c a w,Q (.panic c) (a.put d v) w->Q (.panic c) a w:=by exact fun _ _ _ h=>h) (hy:YieldsIf P ops S oi v a:=by exact Or.inl ⟨zae,fun w hSw=>zai⟩):wpAnyH P md ops Q S (fuel+1) listed a w:=dR hi hd hs hf hr hQ hy hS h
theorem tU (d:Option Tmp) (i:Nat) (hi:ops[i]?=some oi) (hS:S w) (h:wpAnyH P md ops Q S fuel (listed.setIfInBounds i true) (a.put d undef) w) (hd:oi.dst=d:=by rfl) (hs:Region.noSelect ops=true:=by kernel_rfl) (hf:Region.free md ops listed i=true:=by kernel_rfl) (hr:(Region.ready md ops listed).contains i=true:=by kernel_rfl) (hQ:∀ c a w,Q (.panic c) (a.put d undef) w->Q (.panic c) a w:=by exact fun _ _ _ h=>h) (hy:YieldsIf P ops S oi undef a:=by exact Or.inr ⟨zab,rfl⟩):wpAnyH P md ops Q S (fuel+1) listed a w:=dR hi hd hs hf hr hQ hy hS h
theorem tA (i:Nat) (v:Value) (hi:ops[i]?=some oi) (h:wpAny P md ops Q fuel (listed.setIfInBounds i true) (a.put oi.dst v) w) (hs:Region.noSelect ops=true:=by kernel_rfl) (hf:Region.free md ops listed i=true:=by kernel_rfl) (hr:(Region.ready md ops listed).contains i=true:=by kernel_rfl) (hQ:∀ c a w,Q (.panic c) (a.put oi.dst v) w->Q (.panic c) a w:=by exact fun _ _ _ h=>h) (hy:Yields P ops oi v a:=by exact Or.inl ⟨zae,fun w=>by go_simp⟩):wpAny P md ops Q (fuel+1) listed a w:=Ro hi hs hf hr hQ hy h
theorem yH (rs:List Nat) (h:AllReadyH P md ops Q S fuel listed a w rs) (hr:Region.ready md ops listed=rs:=by kernel_rfl) (hne:rs≠[]:=by simp):wpAnyH P md ops Q S (fuel+1) listed a w:=wpAnyH_ready hr hne h
theorem zH (i:Nat) (ho:ops[i]?=some oi) (h:∀ K':Act->World->Prop,Shut (∀ a w,S w->(S w->wpAnyH P md ops Q S fuel (listed.setIfInBounds i true) a w)->K' a w)->if Region.wanted oi (yielded ops a.tmps)=true then Oper.wp P oi a w K' Q else K' (a.put oi.dst undef) w) (hr:Region.ready md ops listed=[i]:=by kernel_rfl):wpAnyH P md ops Q S (fuel+1) listed a w:=wpAnyH_ready hr zad (Nj ho h N0)
theorem yA (rs:List Nat) (h:AllReady P md ops Q fuel listed a w rs) (hr:Region.ready md ops listed=rs:=by kernel_rfl) (hne:rs≠[]:=by simp):wpAny P md ops Q (fuel+1) listed a w:=wpAny_ready hr hne h
theorem zA (i:Nat) (ho:ops[i]?=some oi) (h:∀ K':Act->World->Prop,(∀ a w,wpAny P md ops Q fuel (listed.setIfInBounds i true) a w->K' a w)->if Region.wanted oi (yielded ops a.tmps)=true then Oper.wp P oi a w K' Q else K' (a.put oi.dst undef) w) (hr:Region.ready md ops listed=[i]:=by kernel_rfl):wpAny P md ops Q (fuel+1) listed a w:=wpAny_ready hr zad (MA ho h MX)
end
end
section
open Go.RowKit
open Go.PlainAid (bt get_bt bt_nonneg bt_le bt_end)
namespace Ref
theorem CJ (a b:ByteArray):(a.toList == b.toList)=decide (a=b):=by
 rw [Qj];simp only [beq_iff_eq,decide_eq_true_eq,Lib.toList_data];constructor
 ·intro h;cases a;cases b
  simp only at h
  congr 1
  exact Array.ext' h
 ·intro h;rw [h]
def cy (s t:ByteArray):Bool:=decide (t.size<=s.size)&&decide (s.extract 0 t.size=t)
def fi (a b:Int):Int:=if a=0\/b<a then b else a
def small (x:Int):Bool:=decide (97<=x)&&decide (x<=122)
def more (x:Int):Bool:=decide (x=95)||(decide (48<=x)&&decide (x<=57))
def iT (s:ByteArray) (i:Nat):Bool:=small (bt s i)||(decide (i≠0)&&more (bt s i))
def plain (s:ByteArray):Bool:=(List.range s.size).all (iT s)&&(decide (0<s.size)&&decide (s.size<=8))
theorem Dj {p:Nat->Bool} (h:∀ j,j<n->p j=true):(List.range n).all p=true:=by
 rw [Pl];intro x hx;exact h x (NL.1 hx)
theorem tP {p:Nat->Bool} (hk:k<n) (h:p k=false):(List.range n).all p=false:=by
 rw [Qp];exact ⟨k,NL.2 hk,by simp [h]⟩
theorem uW (s:ByteArray):iT s 0=small (bt s 0):=by simp [iT]
theorem xp {s:ByteArray} (h:Hid (∀ j,j<k->iT s j=true)) (hk:iT s k=true):∀ j,j<k+1->iT s j=true:=by
 intro j hj;by_cases e:j=k
 ·rw [e];exact hk
 ·exact h.out j zaa
def dec (n:Nat):ByteArray:=⟨(Lib.decDigits n).toArray⟩
theorem uv (h:n<10):dec n=⟨#[UInt8.ofNat (48+n)]⟩:=by
 unfold dec;rw [Lib.decDigits_one h]
theorem IS (h:¬ n<10):dec n=dec (n / 10)++⟨#[UInt8.ofNat (48+n % 10)]⟩:=by
 unfold dec
 conv=>lhs;rw [Lib.decDigits,dif_neg h]
 apply ByteArray.ext
 simp
theorem yw:∀ (k n:Nat),n<10 ^ (k+1)->(dec n).size<=k+1
 | 0,n,h=>by rw [uv zaC];exact Mt 1
 | k+1,n,h=>by
  by_cases h9:n<10
  ·rw [uv h9];exact Nat.le_add_left 1 (k+1)
  ·rw [IS h9,Pe];have:=yw k (n / 10) (by rw [QU] at h;omega);have e:(ByteArray.mk #[UInt8.ofNat (48+n % 10)]).size=1:=rfl;omega
theorem rh (h:n<=18446744073709551615):(dec n).size<=20:=yw 19 n zaa
def jH (x:Int):Bool:=decide (48<=x)&&decide (x<=57)
def val (s:ByteArray):Nat->Nat
 | 0=>0
 | k+1=>val s k*10+((bt s k).toNat-48)
def m64 (n:Nat):Int:=IntKind.u64.wrap n
def Eg:ByteArray:=⟨#[49,56,52,52,54,55,52,52,48,55,51,55,48,57,53,53,49,54,49,53]⟩
def qU (s:ByteArray):Bool:=s.toList.isEmpty||(decide (1<s.size)&&decide (bt s 0=48))||decide (20<s.size)||(decide (s.size=20)&&(!Op.bytesLess s.toList Eg.toList && !(s.toList == Eg.toList)))
def cA (s:ByteArray):Bool:=(List.range s.size).all (fun i=>jH (bt s i)) && !qU s
theorem isEmpty_eq (s:ByteArray):s.toList.isEmpty=decide (s.size=0):=by
 rw [Lib.toList_data,Qj,Pm,Pu];exact ⟨fun h=>by show s.data.size=0;rw [<- Array.length_toList,h];rfl,fun h=>OI (by rw [Array.length_toList];exact h)⟩
def dV (s:ByteArray):Int:=if cA s then m64 (val s s.size) else 0
end Ref
namespace Num
def isD (c:UInt8):Bool:=decide (48<=c.toNat)&&decide (c.toNat<=57)
def num (acc:Nat) (l:List UInt8):Nat:=l.foldl (fun a c=>a*10+(c.toNat-48)) acc
theorem lE (acc:Nat) (c:UInt8) (r:List UInt8):num acc (c::r)=num (acc*10+(c.toNat-48)) r:=by unfold num;rw [Pb]
theorem La (l:List UInt8):∀ acc:Nat,acc<=num acc l:=by
 induction l with
 | nil=>exact fun acc=>Mt _
 | cons c r ih =>
  intro acc;have h1:=ih (acc*10+(c.toNat-48));rw [lE];exact Mv (Mv (Nat.le_mul_of_pos_right acc zac) (PD _ _)) h1
theorem ou:∀ (l:List UInt8) (acc:Nat),l.all isD=true->acc<=18446744073709551615->Lib.parseUintM 18446744073709551615 acc l=if num acc l<=18446744073709551615 then .ok (num acc l) else .range
 | [],acc,_,h=>by rw [Lib.parseUintM,MB (show num acc []<=_ from h)];rfl
 | c::r,acc,hd,h=>by
  rw [QA,Na] at hd;have hc:48<=c.toNat/\c.toNat<=57:=zbT;have hg:=La r (acc*10+(c.toNat-48));rw [Lib.parseUintM,MB hc,lE];by_cases h1:1844674407370955162<=acc
  ·rw [MB h1,Mz zaa]
  ·rw [Mz h1];by_cases h2:18446744073709551615<acc*10+(c.toNat-48)
   ·rw [MB h2,Mz zaa]
   ·rw [Mz h2,ou r _ hd.2 zaa]
theorem zE {M u:Nat}:∀ (l:List UInt8) (acc:Nat),Lib.parseUintM M acc l = .ok u->l.all isD=true
 | [],_,_=>rfl
 | c::r,acc,h=>by
  rw [Lib.parseUintM] at h;by_cases hc:48<=c.toNat/\c.toNat<=57
  ·rw [MB hc] at h;split at h
   ·cases h
   ·split at h
    ·cases h
    ·rw [QA,zE r _ h,Bool.and_true];simp [isD,hc]
  ·rw [Mz hc] at h;cases h
theorem xi:∀ (l:List UInt8) (acc:Nat),num acc l=acc*10 ^ l.length+num 0 l
 | [],acc=>by simp [num]
 | c::r,acc=>by
  rw [lE,lE,xi r (acc*10+(c.toNat-48)),xi r (0*10+(c.toNat-48)),NU,QU,Nat.add_mul,Qq,OM,Nat.mul_assoc,Nat.mul_comm 10 (10 ^ r.length),NW]
theorem oe (c:UInt8) (r:List UInt8):num 0 (c::r)=(c.toNat-48)*10 ^ r.length+num 0 r:=by
 rw [lE,xi,Qq,OM]
theorem xj:∀ l:List UInt8,l.all isD=true->num 0 l<10 ^ l.length
 | [],_=>by decide
 | c::r,hd=>by
  rw [QA,Na] at hd;have hc:48<=c.toNat/\c.toNat<=57:=zbT;have ih:=xj r hd.2;rw [oe,NU,QU];have h9:(c.toNat-48)*10 ^ r.length<=9*10 ^ r.length:=O7 _ zaa;omega
theorem CU:∀ a b:List UInt8,a.all isD=true->b.all isD=true->a.length=b.length->(num 0 a<num 0 b↔Op.bytesLess a b=true)/\(num 0 a=num 0 b↔a=b)
 | [],[],_,_,_=>⟨by simp [num,Op.bytesLess],zad⟩
 | [],_::_,_,_,h=>by simp at h
 | _::_,[],_,_,h=>by simp at h
 | x::p,y::q,ha,hb,h=>by
  rw [QA,Na] at ha hb;have hx:48<=x.toNat/\x.toNat<=57:=by simpa [isD] using ha.1
  have hy:48<=y.toNat/\y.toNat<=57:=by simpa [isD] using hb.1
  have hl:p.length=q.length:=zaC;have ih:=CU p q ha.2 hb.2 hl;have lp:=xj p ha.2;have lq:=xj q hb.2;rw [oe,oe,<- hl];rw [<- hl] at lq
  rcases P6 x.toNat y.toNat with h1 | h1 | h1
  ·have hm:(x.toNat-48+1)*10 ^ p.length<=(y.toNat-48)*10 ^ p.length:=O7 _ zaa;rw [Nat.add_mul,Nat.one_mul] at hm;have hlt:x<y:=UInt8.lt_iff_toNat_lt.2 h1;refine ⟨⟨fun _=>by simp [Op.bytesLess,hlt],fun _=>zaa⟩,⟨fun e=>zaa,fun e => ?_⟩⟩;cases e;omega
  ·have hxy:x=y:=QL.1 h1;subst hxy;refine ⟨⟨fun e => ?_,fun e => ?_⟩,⟨fun e => ?_,fun e => ?_⟩⟩
   ·have:=ih.1.1 zaa;simp [Op.bytesLess,this]
   ·have:Op.bytesLess p q=true:=by simpa [Op.bytesLess] using e
    have:=ih.1.2 this;omega
   ·rw [ih.2.1 zaa]
   ·cases e;rfl
  ·have hm:(y.toNat-48+1)*10 ^ p.length<=(x.toNat-48)*10 ^ p.length:=O7 _ zaa;rw [Nat.add_mul,Nat.one_mul] at hm;have hlt:¬ x<y:=fun h=>by have:=UInt8.lt_iff_toNat_lt.1 h;omega
   have hne:¬ x=y:=fun e=>by rw [e] at h1;omega
   refine ⟨⟨fun e=>zaa,fun e => ?_⟩,⟨fun e=>zaa,fun e => ?_⟩⟩
   ·simp [Op.bytesLess,hlt,hne] at e
   ·cases e;omega
theorem wk {s:ByteArray} (h:k<s.data.toList.length):bt s k=((s.data.toList[k]).toNat:Int):=by
 have h':k<s.size:=zaC;rw [<- get_bt s k h'];rfl
theorem uy (s:ByteArray):(List.range s.size).all (fun i=>Ref.jH (bt s i))=s.data.toList.all isD:=by
 rw [Qj,Pl,Pl];have hsz:s.size=s.data.toList.length:=zad;constructor
 ·intro h c hc;obtain ⟨k,hk,rfl⟩:=List.mem_iff_getElem.1 hc;have:=h k (NL.2 zaa);rw [wk hk] at this;simp only [Ref.jH,Bool.and_eq_true,decide_eq_true_eq] at this;simp only [isD,Bool.and_eq_true,decide_eq_true_eq];omega
 ·intro h i hi;rw [NL] at hi;have hk:i<s.data.toList.length:=zaa;have:=h _ (Ns hk);rw [wk hk];simp only [isD,Bool.and_eq_true,decide_eq_true_eq] at this;simp only [Ref.jH,Bool.and_eq_true,decide_eq_true_eq];omega
theorem Ia (s:ByteArray):∀ k,k<=s.size->Ref.val s k=num 0 (s.data.toList.take k)
 | 0,_=>rfl
 | k+1,h=>by
  have hsz:s.size=s.data.toList.length:=zad;have hk:k<s.data.toList.length:=zaa;rw [Ref.val,Ia s k zaa,List.take_succ_eq_append_getElem hk,wk hk];unfold num;rw [NZ];simp
theorem J9 (s:ByteArray):Ref.val s s.size=num 0 s.data.toList:=by
 rw [Ia s s.size (Mt _)]
 congr 1
 exact List.take_of_length_le zad
theorem BJ {l:List UInt8} (hd:l.all isD=true) (hl:1<l.length) (h0:∀ c,l.head?=some c->¬ c.toNat=48):10 ^ (l.length-1)<=num 0 l:=by
 cases l with
 | nil=>simp at hl
 | cons c r =>
  rw [QA,Na] at hd;have hc:48<=c.toNat/\c.toNat<=57:=zbT;have:=h0 c rfl;rw [oe,NU,QY];have hm:1*10 ^ r.length<=(c.toNat-48)*10 ^ r.length:=O7 _ zaa;omega
theorem Gy:num 0 Ref.Eg.data.toList=18446744073709551615:=zac
theorem GF (s:ByteArray) (h:¬ (1<s.size/\bt s 0=48)):(∀ u,Lib.parseUintB 64 s.data.toList = .ok u->Ref.cA s=true/\Ref.dV s=(u:Nat))/\((∀ u,Lib.parseUintB 64 s.data.toList ≠ .ok u)->Ref.cA s=false):=by
 have hsz:s.size=s.data.toList.length:=zad;have hlist:s.toList=s.data.toList:=Lib.toList_data s;by_cases hd:s.data.toList.all isD=true
 ·by_cases he:s.size=0
  ·have hnil:s.data.toList=[]:=OI zaa;refine ⟨fun u hu => ?_,fun _ => ?_⟩
   ·rw [Lib.parseUintB,MB hnil] at hu;cases hu
   ·rw [Ref.cA,Ref.qU,Ref.isEmpty_eq,NC he,Pf,Pf,Pf,Bool.not_true,Oj]
  ·have hne:¬ s.data.toList=[]:=fun e=>he (by rw [hsz,e];rfl);have hp:Lib.parseUintB 64 s.data.toList=if num 0 s.data.toList<=18446744073709551615 then .ok (num 0 s.data.toList) else .range:=by
    rw [Lib.parseUintB,Mz hne];exact ou _ 0 hd zac
   have hbad:Ref.qU s=decide (18446744073709551615<num 0 s.data.toList):=by
    rw [Ref.qU,Ref.isEmpty_eq,No he,QB];have h1:(decide (1<s.size)&&decide (bt s 0=48))=false:=by
     rw [Bool.and_eq_false_iff];by_cases h1:1<s.size
     ·exact .inr (No fun h2=>h ⟨h1,h2⟩)
     ·exact .inl (No h1)
    rw [h1,QB]
    rcases P6 s.size 20 with h2 | h2 | h2
    ·rw [No (show ¬ 20<s.size by omega),No (show ¬ s.size=20 by omega),OR,QB]
     symm
     apply No
     have:=xj _ hd;have hpw:(10:Nat) ^ s.data.toList.length<=10 ^ 19:=Of zac zaa;have:(10:Nat) ^ 19=10000000000000000000:=zac;omega
    ·rw [No (show ¬ 20<s.size by omega),NC h2,P3,QB,hlist,Lib.toList_data Ref.Eg];have hx:=CU s.data.toList Ref.Eg.data.toList hd zac (by rw [<- hsz,h2];rfl);rw [Gy] at hx;rw [Qj,Na,Pu,Q6,Q6];constructor
     ·rintro ⟨ha,hb⟩;have h3:¬ num 0 s.data.toList<18446744073709551615:=fun e=>by rw [hx.1.1 e] at ha;cases ha
      have h4:¬ num 0 s.data.toList=18446744073709551615:=fun e=>by rw [hx.2.1 e] at hb;simp at hb
      omega
     ·intro hlt;constructor
      ·cases hb:Op.bytesLess s.data.toList Ref.Eg.data.toList with
       | false=>rfl
       | true=>have:=hx.1.2 hb;omega
      ·rw [Ot];intro e;have:=hx.2.2 e;omega
    ·rw [NC h2,Pf]
     symm
     apply NC
     have hh:∀ c,s.data.toList.head?=some c->¬ c.toNat=48:=by
      intro c hc e;refine h ⟨zaa,?_⟩;have hk:0<s.data.toList.length:=zaa;rw [wk hk];rw [List.head?_eq_getElem?,Mu hk] at hc;cases hc
      omega
     have h3:=BJ hd zaa hh;have hpw:(10:Nat) ^ 20<=10 ^ (s.data.toList.length-1):=Of zac zaa;have:(10:Nat) ^ 20=100000000000000000000:=zac;omega
   have hok:Ref.cA s = !decide (18446744073709551615<num 0 s.data.toList):=by rw [Ref.cA,uy,hd,hbad,P3]
   refine ⟨fun u hu => ?_,fun hu => ?_⟩
   ·rw [hp] at hu;by_cases hle:num 0 s.data.toList<=18446744073709551615
    ·rw [MB hle] at hu;cases hu
     have h1:Ref.cA s=true:=by rw [hok,No zaa];rfl
     refine ⟨h1,?_⟩;rw [Ref.dV,h1,MB rfl,J9,Ref.m64,PE];omega
    ·rw [Mz hle] at hu;cases hu
   ·rw [hok];by_cases hle:num 0 s.data.toList<=18446744073709551615
    ·exact absurd (by rw [hp,MB hle]) (hu (num 0 s.data.toList))
    ·rw [NC zaa];rfl
 ·have hf:Ref.cA s=false:=by rw [Ref.cA,uy,Bool.eq_false_iff.2 hd,OR]
  refine ⟨fun u hu => ?_,fun _=>hf⟩;exfalso;rw [Lib.parseUintB] at hu;split at hu
  ·cases hu
  ·exact hd (zE _ _ hu)
end Num
end
section
open Go.RowKit Go.Proofs Go.Shelf
def zk:Go.Shelf.Ren:=⟨fun | 128=>257 | n=>n,fun | 51=>75 | 3=>3 | 4=>4 | 46=>366 | 5=>5 | 9=>9 | n=>n,fun | n=>n⟩
theorem Jk:Go.Proofs.Lays.n128 prog zk:={
 mixed:=zab
 f128:=Tryz.func257.trans (congrArg some zab)
 t3:=underlying3
 a3:=Tryz.isAgg3
 z3:=Tryz.sizeOf3
 v3:=Tryz.zeroValue3
 t4:=underlying4
 a4:=Tryz.isAgg4
 z4:=Tryz.sizeOf4
 v4:=Tryz.zeroValue4
 t5:=underlying5
 a5:=Tryz.isAgg5
 z5:=Tryz.sizeOf5
 v5:=Tryz.zeroValue5
 t9:=underlying9
 a9:=Tryz.isAgg9
 z9:=Tryz.sizeOf9
 v9:=Tryz.zeroValue9
 t46:=underlying366
 a46:=isAgg366
 z46:=sizeOf366
 v46:=zeroValue366
 t51:=underlying75
 a51:=Tryz.isAgg75
 z51:=Tryz.sizeOf75
 v51:=Tryz.zeroValue75 }
def wQ:Go.Shelf.Ren:=⟨fun | 28=>146 | n=>n,fun | 27=>75 | 3=>3 | 4=>4 | 25=>366 | 53=>365 | 0=>0 | 5=>5 | n=>n,fun | 0=>1 | n=>n⟩
theorem Gh:Go.Proofs.Lays7.n28 prog wQ:={
 mixed:=zab
 f28:=Tryz.func146.trans (congrArg some zab)
 t0:=underlying0
 a0:=Tryz.isAgg0
 z0:=Tryz.sizeOf0
 v0:=Tryz.zeroValue0
 i0:=zab
 t3:=underlying3
 a3:=Tryz.isAgg3
 z3:=Tryz.sizeOf3
 v3:=Tryz.zeroValue3
 i3:=zab
 t4:=underlying4
 a4:=Tryz.isAgg4
 z4:=Tryz.sizeOf4
 v4:=Tryz.zeroValue4
 i4:=zab
 t5:=underlying5
 a5:=Tryz.isAgg5
 z5:=Tryz.sizeOf5
 v5:=Tryz.zeroValue5
 i5:=zab
 t25:=underlying366
 a25:=isAgg366
 z25:=sizeOf366
 v25:=zeroValue366
 i25:=zab
 t27:=underlying75
 a27:=Tryz.isAgg75
 z27:=Tryz.sizeOf75
 v27:=Tryz.zeroValue75
 i27:=zab
 t53:=underlying365
 a53:=isAgg365
 z53:=sizeOf365
 v53:=zeroValue365
 i53:=zab
 g0:=by kernel_rfl }
theorem fZ (hi:i<32):(2:Nat) ^ i<4294967296:=by
 have:=Pv (a:=2) zac hi;omega
theorem jc (i:Nat):(2:Int) ^ i=((2 ^ i:Nat):Int):=(Int.natCast_pow 2 i).symm
theorem J7 (hi:i<32):(2:Int) ^ i % 4294967296=((2 ^ i:Nat):Int):=by
 rw [jc];exact Int.emod_eq_of_lt (Int.natCast_nonneg _) (by have:=fZ hi;exact Int.ofNat_lt.2 this)
theorem ir (i:Nat) (w:World) (hi:i<32):() 94 #[(i:Int)] w fun e w'=>e = .returned (.int .u32 ((2 ^ i:Nat):Int))/\w'=w:=by
 have e:=J7 hi;go_enter func94,ntmps94;go_wp2;rw [e];exact zfr
theorem Iw (s i:Nat):((s&&&2 ^ i:Nat) != 0)=s.testBit i:=by
 cases h:s.testBit i
 ·have:s&&&2 ^ i=0:=by
   apply Nat.eq_of_testBit_eq
   intro j;rw [PZ,PB,Qy];by_cases hj:i=j
   ·subst hj;rw [h];rfl
   ·simp [hj]
  rw [this];rfl
 ·have h1:(s&&&2 ^ i).testBit i=true:=by rw [PZ,PB,h];simp
  rw [bne_iff_ne];intro h0;rw [h0,Qy] at h1;exact absurd h1 zac
theorem Fl (hi:i<32) (hs:s<4294967296):(bits BinOp.and IntKind.u32 (s:Int) ((2:Int) ^ i) != 0)=s.testBit i:=by
 rw [jc,Qb s _ hs (fZ hi),<- Iw];cases h:(s&&&2 ^ i)
 ·rfl
 ·simp;omega
theorem wH (s:Nat) (i:Nat) (w:World) (hi:i<32) (hs:s<4294967296):() 195 #[.int .u32 s,(i:Int)] w fun e w'=>e = .returned (.bool (s.testBit i))/\w'=w:=by
 have e:=Fl hi hs;go_enter func195,ntmps195;go_wp2_with (go_at_call 94;refine (ir i _ hi).mono ?_;rintro e w9 ⟨rfl,hw9⟩;rw [hw9];clear hw9 w9);exact zfr
theorem Gg (s:Nat) (w:World) (hs:s<4294967296):() 233 #[.int .u32 s] w fun e w'=>e = .returned (.int .i64 ((Lib.bitLen s:Int)-1))/\w'=w:=by
 have hb:=Lib.bitLen_le s 32 zac zaa;go_enter func233,ntmps233;go_wp2_with (go_at_call 257;refine (Any.bits_Len32 Jk s _ zaa zaa).mono ?_;rintro e w9 ⟨rfl,hw9⟩;rw [hw9];clear hw9 w9);exact zfr
theorem Ln (s:Nat) (w:World) (hs:s<4294967296) (hT:TabAt 1 Lib.deBruijn32tab w):() 146 #[.int .u32 s] w fun e w'=>e = .returned (.int .i64 (Lib.ctz 32 s))/\w'=w :=
 Any7.bits_TrailingZeros32 Gh s hs w fun _=>hT
namespace Pg
def els (s:Nat):List Nat:=(List.range 32).filter s.testBit
theorem nZ:i∈els s↔i<32/\s.testBit i=true:=by
 unfold els;rw [N7,NL]
theorem j6 {p q:Nat->Bool} {k:Nat} (hp:p k=true) (hlt:∀ j,j<k->p j=false) (hq:∀ j,q j=(p j&&decide (j≠k))):∀ n,k<n->(List.range n).filter p=k::(List.range n).filter q
 | 0,h=>absurd h (P0 _)
 | n+1,h=>by
  rw [Qk,Og,Og];by_cases hk:k<n
  ·rw [j6 hp hlt hq n hk,Rg];have:q n=p n:=by rw [hq];simp;omega
   simp only [List.filter_cons,List.filter_nil,this]
  ·have hkn:k=n:=zaa;subst hkn;have e1:(List.range k).filter p=[]:=by
    rw [OS];intro a ha;rw [hlt a (NL.1 ha)];decide
   have e2:(List.range k).filter q=[]:=by
    rw [OS];intro a ha;rw [hq,hlt a (NL.1 ha)];simp
   have e3:q k=false:=by rw [hq];simp
   rw [e1,e2];simp [hp,e3]
theorem pQ {p q:Nat->Bool} {k:Nat} (hp:p k=true) (hgt:∀ j,k<j->p j=false) (hq:∀ j,q j=(p j&&decide (j≠k))):∀ n,k<n->(List.range n).filter p=(List.range n).filter q++[k]
 | 0,h=>absurd h (P0 _)
 | n+1,h=>by
  rw [Qk,Og,Og];by_cases hk:k<n
  ·rw [pQ hp hgt hq n hk];have e1:p n=false:=hgt n hk;have e2:q n=false:=by rw [hq,e1];rfl
   simp [e1,e2]
  ·have hkn:k=n:=zaa;subst hkn;have e3:q k=false:=by rw [hq];simp
   have e4:(List.range k).filter p=(List.range k).filter q:=by
    apply OT
    intro a ha;have:=NL.1 ha;rw [hq];simp;omega
   rw [e4];simp [hp,e3]
theorem kY:els 0=[]:=zaR
theorem Gs (h0:s≠0) (hs:s<4294967296):Lib.ctz 32 s<32/\s.testBit (Lib.ctz 32 s)=true/\(∀ j,j<Lib.ctz 32 s->s.testBit j=false)/\∀ j,(s&&&(s-1)).testBit j=(s.testBit j&&decide (j≠Lib.ctz 32 s)):=by
 obtain ⟨m,hm,hk⟩:=Lib.ctzFrom_spec 32 s (Nat.pos_of_ne_zero h0) hs;have he:Lib.ctz 32 s=Lib.ctzFrom 32 s:=by unfold Lib.ctz;rw [Mz h0]
 rw [he];generalize Lib.ctzFrom 32 s=k at hm hk;exact zcP
theorem DJ (h0:s≠0) (hs:s<4294967296):els s=Lib.ctz 32 s::els (s&&&(s-1)):=by
 obtain ⟨a,b,c,d⟩:=Gs h0 hs;exact j6 b c d 32 a
theorem lX (h0:s≠0) (hs:s<4294967296):1<=Lib.bitLen s/\Lib.bitLen s-1<32/\s.testBit (Lib.bitLen s-1)=true/\(∀ j,Lib.bitLen s-1<j->s.testBit j=false)/\∀ j,(s&&&(4294967295-2 ^ (Lib.bitLen s-1))).testBit j=(s.testBit j&&decide (j≠Lib.bitLen s-1)):=by
 have hb:=Lib.bitLen_le s 32 zac zaa;obtain ⟨a,b,c⟩:=QF 64 s zaa h0;have he:Lib.bitLenAux 64 s=Lib.bitLen s:=rfl;rw [he] at a b c;generalize Lib.bitLen s=L at *;obtain ⟨k,rfl⟩:∃ k,L=k+1:=⟨L-1,zaa⟩;simp only [Nat.add_sub_cancel] at b ⊢;have hgt:∀ j,k<j->s.testBit j=false:=fun j hj=>Qr (MR c (Of zac hj));refine ⟨zaa,zaa,Nat.testBit_of_two_pow_le_and_two_pow_add_one_gt b c,hgt,?_⟩;intro j;rw [PZ];by_cases hj:j<32
 ·have:(4294967295-2 ^ k).testBit j=decide (j≠k):=by
   have h2:=fZ (i:=k) zaa;rw [show 4294967295-2 ^ k=2 ^ 32-(2 ^ k+1) by omega,QM zaa,PB];simp [hj,eq_comm]
  rw [this]
 ·rw [hgt j zaa];rfl
theorem FU (h0:s≠0) (hs:s<4294967296):els s=els (s&&&(4294967295-2 ^ (Lib.bitLen s-1)))++[Lib.bitLen s-1]:=by
 obtain ⟨_,a,b,c,d⟩:=lX h0 hs;exact pQ b c d 32 a
end Pg
attribute [local go_sem] Nw
namespace Pg
abbrev In (s:Nat):Type:={ i:Nat // i∈els s }
def KpT (W W':World):Prop:=TabAt 1 Lib.deBruijn32tab W->TabAt 1 Lib.deBruijn32tab W'
theorem vD (h0:t≠0):t&&&(t-1)<t:=Nt PH zaa
theorem L6 (h0:t≠0) (ht:t<4294967296):bits BinOp.and IntKind.u32 (t:Int) ((t:Int)-1)=((t&&&(t-1):Nat):Int):=by
 rw [show (t:Int)-1=((t-1:Nat):Int) by omega,Qb t _ ht zaa]
end Pg
theorem yR (n:Nat) (hn:1<=n) (l Bs s:Nat) (hs:s<4294967296) (J Jx:List (Pg.In s)->World->Prop)
  (hY:∀ pre x W,J pre W->pre.length<32->YieldAt Fence.wide (n-1) prog l #[.int .i64 (x.1:Int)] W fun e W' =>
   (e = .returned true/\J (pre++[x]) W'/\Pg.KpT W W')\/(e = .returned false/\Jx (pre++[x]) W'))
  (W:World) (hBs:W.cell? Bs=some (.int .u32 s)) (hT:TabAt 1 Lib.deBruijn32tab W) (h0:J [] W) :
  CallsIn Fence.wide n prog 145 #[.func (.yield l) #[] #[],Bs] W fun e W'=>(∃ v,e = .returned v) /\
   ((∃ ys,ys.map (·.1)=Pg.els s/\J ys W')\/(∃ pre,pre.map (·.1) <+: Pg.els s/\Jx pre W')):=by
 refine QC func145 rfl trivial ?_ rfl;simp only [ntmps145,List.size_toArray,List.length_cons,List.length_nil,Nat.reduceAdd,Nat.reduceSub,Array.replicate_succ,Array.replicate_zero,List.push_toArray,List.append_toArray,List.nil_append,List.cons_append];gi_wp2
 gi_loopw [3] (fun i wr=>∃ (t:Nat) (pre:List (Pg.In s)),i = .int .u32 t/\t<4294967296/\Pg.els s=pre.map (·.1)++Pg.els t/\J pre wr/\TabAt 1 Lib.deBruijn32tab wr)
  (fun i _=>(intOf i).toNat)
 case atStart=>exact ⟨s,[],rfl,hs,rfl,h0,hT⟩
 case round =>
  obtain ⟨t,pre,rfl,ht,he,hJs,hTr⟩:=hrel;by_cases hz:t=0
  ·subst hz;gi_wp2;go_end0;rw [Pg.kY,Pc] at he;exact ze0
  ·have hf:=Pg.DJ hz ht;have hm:Lib.ctz 32 t∈Pg.els s:=by rw [he,hf];simp
   have hle:pre.length<32:=by
    have h1:(Pg.els s).length<=32:=by
     exact zeI
    exact zfm
   obtain ⟨fn,tmps,assign,body,hy,hR⟩:=hY pre ⟨Lib.ctz 32 t,hm⟩ wr hJs hle;dsimp only at hy;have ha:=Pg.L6 hz ht;have hz':((t:Int) == 0)=false:=zaf;have hlt:=Pg.vD hz;have htz:=Ln t wr ht hTr;gi_wp2_with (refine ⟨trivial,?_⟩;gi_at_call 146;refine (M6.2 htz).mono ?_;clear htz;rintro e w9 ⟨rfl,hw9⟩;rw [hw9];clear hw9 w9);have hE:Pg.els s=(pre++[(⟨Lib.ctz 32 t,hm⟩:Pg.In s)]).map (·.1)++Pg.els (t&&&(t-1)):=he.trans (by rw [hf,Ny,On];rfl);refine hR.mono ?_;rintro e W3 (⟨rfl,hJ3,hk3⟩ | ⟨rfl,hJx3⟩)
   ·gi_wp2
    go_roundw
    case rel=>exact ⟨t&&&(t-1),pre++[⟨Lib.ctz 32 t,hm⟩],rfl,zaa,hE,hJ3,hk3 hTr⟩
    case measure=>simp only [intOf];omega
   ·exact zea
theorem eX (n:Nat) (hn:1<=n) (Bs s:Nat) (hs:s<4294967296) (w:World) (hBs:Bs<w.heap.size) (hg:1<w.heap.size) (hc:w.cell? Bs=some (.int .u32 s)) (hT:TabAt 1 Lib.deBruijn32tab w) :
  SeqStopsK Fence.wide n prog 145 #[Bs] (fun x:Pg.In s=>#[Value.int .i64 (x.1:Int)]) Pg.KpT (fun ys=>ys.map (·.1)=Pg.els s) (fun pre=>pre.map (·.1) <+: Pg.els s) 32 w:=fun l J Jx W hW _ _ hY h0=>by
 have hc':=(hW.cell (p:=⟨Bs,0,none⟩) hBs).trans hc;exact yR n hn l Bs s hs J Jx hY W hc' (fun j hj=>(hW.cell (p:=⟨1,j,none⟩) hg).trans (hT j hj)) h0
theorem dy (s:Nat) (w:World):() 93 #[.int .u32 s] w fun e w'=>e = .returned (.func (.func 145) #[] #[w])/\w'=w.alloc (.cells #[.int .u32 s] 76):=by
 go_enter func93,ntmps93;exact zfl
theorem nF (s:Nat) (w:World):() 196 #[.int .u32 s] w fun e w'=>e = .returned (.func (.func 232) #[] #[w])/\w'=w.alloc (.cells #[.int .u32 s] 76):=by
 go_enter func196,ntmps196;exact zfl
namespace Pg
theorem tX (h0:t≠0) (ht:t<4294967296):t&&&(4294967295-2 ^ (Lib.bitLen t-1))<t:=by
 obtain ⟨_,_,b,_,d⟩:=lX h0 ht;refine Nat.lt_of_le_of_ne Oi fun he => ?_;have:=d (Lib.bitLen t-1);rw [he,b] at this;simp at this
theorem Iv (h0:t≠0) (ht:t<4294967296):bits BinOp.andNot IntKind.u32 (t:Int) ((2:Int) ^ (Lib.bitLen t-1))=((t&&&(4294967295-2 ^ (Lib.bitLen t-1)):Nat):Int):=by
 obtain ⟨_,a,_⟩:=lX h0 ht;rw [jc,QZ t _ ht (fZ a)]
end Pg
theorem wj (n:Nat) (hn:1<=n) (l Bs s:Nat) (hs:s<4294967296) (J Jx:List (Pg.In s)->World->Prop)
  (hY:∀ pre x W,J pre W->pre.length<32->YieldAt Fence.wide (n-1) prog l #[.int .i64 (x.1:Int)] W fun e W' =>
   (e = .returned true/\J (pre++[x]) W'/\True)\/(e = .returned false/\Jx (pre++[x]) W'))
  (W:World) (hBs:W.cell? Bs=some (.int .u32 s)) (h0:J [] W) :
  CallsIn Fence.wide n prog 232 #[.func (.yield l) #[] #[],Bs] W fun e W'=>(∃ v,e = .returned v) /\
   ((∃ ys,ys.map (·.1)=(Pg.els s).reverse/\J ys W')\/(∃ pre,pre.map (·.1) <+: (Pg.els s).reverse/\Jx pre W')):=by
 refine QC func232 rfl trivial ?_ rfl;simp only [ntmps232,List.size_toArray,List.length_cons,List.length_nil,Nat.reduceAdd,Nat.reduceSub,Array.replicate_succ,Array.replicate_zero,List.push_toArray,List.append_toArray,List.nil_append,List.cons_append];gi_wp2
 gi_loopw [3] (fun i wr=>∃ (t:Nat) (pre:List (Pg.In s)),i = .int .u32 t/\t<4294967296/\(Pg.els s).reverse=pre.map (·.1)++(Pg.els t).reverse/\J pre wr)
  (fun i _=>(intOf i).toNat)
 case atStart=>exact ⟨s,[],rfl,hs,rfl,h0⟩
 case round =>
  obtain ⟨t,pre,rfl,ht,he,hJs⟩:=hrel;by_cases hz:t=0
  ·subst hz;gi_wp2;go_end0;rw [Pg.kY,List.reverse_nil,Pc] at he;exact ze0
  ·obtain ⟨hb1,hb2,_⟩:=Pg.lX hz ht;have hf:=congrArg List.reverse (Pg.FU hz ht);rw [List.reverse_append] at hf;have ha:=Pg.Iv hz ht;have hlt:=Pg.tX hz ht;have hla:=fun w=>Gg t w ht;generalize Lib.bitLen t=L at *;obtain ⟨k,rfl⟩:∃ k,L=k+1:=⟨L-1,zaa⟩;have hk:((k+1:Nat):Int)-1=(k:Int):=zaa;simp only [hk] at hla;simp only [Nat.add_sub_cancel] at hf ha hlt hb2;have hm:k∈Pg.els s:=by rw [<- Rh,he,hf];simp
   have hle:pre.length<32:=by
    have h1:(Pg.els s).reverse.length<=32:=by
     have:=NJ s.testBit (List.range 32);rw [OU] at this;rw [QQ];exact this
    exact zfm
   have hE:(Pg.els s).reverse=(pre++[(⟨k,hm⟩:Pg.In s)]).map (·.1)++(Pg.els (t&&&(4294967295-2 ^ k))).reverse:=he.trans (by rw [hf,Ny,On];rfl);obtain ⟨fn,tmps,assign,body,hy,hR⟩:=hY pre ⟨k,hm⟩ wr hJs hle;dsimp only at hy;have hz':((t:Int) == 0)=false:=zaf;generalize t&&&(4294967295-2 ^ k)=t' at *;gi_wp2_with (refine ⟨trivial,?_⟩;gi_at_call 233;refine (M6.2 (hla _)).mono ?_;rintro e w9 ⟨rfl,hw9⟩;rw [hw9];clear hw9 w9);refine hR.mono ?_;rintro e W3 (⟨rfl,hJ3,hk3⟩ | ⟨rfl,hJx3⟩)
   ·gi_wp2_with (first
     | (refine ⟨trivial,?_⟩;gi_at_call 233;refine (M6.2 (hla _)).mono ?_;rintro e w9 ⟨rfl,hw9⟩;rw [hw9];clear hw9 w9)
     | (refine ⟨trivial,?_⟩;gi_at_call 94;refine (M6.2 (ir k _ hb2)).mono ?_;rintro e w9 ⟨rfl,hw9⟩;rw [hw9];clear hw9 w9))
    go_roundw
    case rel=>exact ⟨t',pre++[⟨k,hm⟩],rfl,zaa,hE,hJ3⟩
    case measure=>simp only [intOf];omega
   ·exact zea
theorem kV (n:Nat) (hn:1<=n) (Bs s:Nat) (hs:s<4294967296) (w:World) (hBs:Bs<w.heap.size) (hc:w.cell? Bs=some (.int .u32 s)) :
  SeqStopsK Fence.wide n prog 232 #[Bs] (fun x:Pg.In s=>#[Value.int .i64 (x.1:Int)]) (fun _ _=>True) (fun ys=>ys.map (·.1)=(Pg.els s).reverse) (fun pre=>pre.map (·.1) <+: (Pg.els s).reverse) 32 w:=fun l J Jx W hW _ _ hY h0 =>
 wj n hn l Bs s hs J Jx hY W ((hW.cell (p:=⟨Bs,0,none⟩) hBs).trans hc) h0
end
section
open Go.RowKit
open Go.PlainAid (bt get_bt bt_nonneg bt_le bt_end)
namespace Ref
theorem eY {w:World} {v:Value} (h:w.ownsRow base e size v n xs) (hn:0<n):∃ g cap,v = .slice (some ⟨g,0,none⟩) n cap:=by
 rcases h.2 with ⟨_,h0⟩ | ⟨g,cap,cur,hv,_⟩
 ·omega
 ·exact ⟨g,cap,hv⟩
def dq (s:ByteArray) (c:Int):Nat->List ByteArray
 | 0=>[ByteArray.empty]
 | k+1=>if bt s k=c then dq s c k++[ByteArray.empty] else (dq s c k).set ((dq s c k).length-1) ((dq s c k)[(dq s c k).length-1]?.getD ByteArray.empty++s.extract k (k+1))
def cut (s:ByteArray) (c:Int):List ByteArray:=dq s c s.size
theorem lT (s:ByteArray) (c:Int):∀ k,0<(dq s c k).length
 | 0=>by simp [dq]
 | k+1=>by
  have:=lT s c k;unfold dq;split <;> simp
  exact this
theorem nK (s:ByteArray) (c:Int):∀ k,(dq s c k).length<=k+1
 | 0=>by simp [dq]
 | k+1=>by
  have:=nK s c k;unfold dq;split <;> simp <;> omega
theorem wX {y:ByteArray} (h:∀ x∈l,x.size<=B) (hy:y.size<=B):∀ x∈l.set i y,x.size<=B:=by
 intro x hx
 rcases M8 hx with h' | h'
 ·exact h x h'
 ·rw [h'];exact hy
theorem pF {s:ByteArray} (h:k<s.size):(s.extract k (k+1)).size=1:=zaf
theorem iX (s:ByteArray) (c:Int):∀ k,k<=s.size->∀ x∈dq s c k,x.size<=k
 | 0,_=>by simp [dq]
 | k+1,hk=>by
  have ih:=iX s c k zaa;unfold dq;split
  ·intro x hx
   rcases MU.1 hx with h | h
   ·have:=ih x h;omega
   ·rw [ME.1 h];exact MJ _
  ·refine wX (fun x hx=>by have:=ih x hx;omega) ?_;rw [Pe,pF zaa];have hp:=lT s c k;rw [Mu zaa];have:=ih _ (Ns (show (dq s c k).length-1<(dq s c k).length by omega));simp only [Option.getD_some];omega
theorem IQ {s:ByteArray} (h:bt s k=c):dq s c (k+1)=dq s c k++[ByteArray.empty]:=by rw [dq,MB h]
theorem KK {s:ByteArray} (h:¬ bt s k=c):dq s c (k+1)=(dq s c k).set ((dq s c k).length-1) ((dq s c k)[(dq s c k).length-1]?.getD ByteArray.empty++s.extract k (k+1)):=by rw [dq,Mz h]
def bL:ByteArray:=⟨#[97,102,116,101,114,46]⟩
def jI:ByteArray:=⟨#[100,111,110,101,46]⟩
def lu (s:ByteArray):Bool:=cy s bL&&(cA (s.extract 6 s.size)&&(decide (0<dV (s.extract 6 s.size))&&decide (dV (s.extract 6 s.size)<=1500)))
def called (s:ByteArray):Bool:=plain s||lu s
def bZ (s:ByteArray):Bool:=called s||(cy s jI&&plain (s.extract 5 s.size))
theorem pM {s t:ByteArray} (h:cy s t=true):t.size<=s.size:=by
 simp [cy] at h;exact h.1
end Ref
end
section
open Go.RowKit
namespace Ref
structure Act where
 how:ByteArray
 event:ByteArray
 id:ByteArray
 delay:Int
def Fc (a:Act):List Value:=[a.how,a.event,a.id,.int .u64 a.delay]
def cDo:List UInt8:=[100,111]
def eS:List UInt8:=[114,97,105,115,101]
def eJ:List UInt8:=[99,97,110,99,101,108]
def kX:List UInt8:=[115,101,110,100]
def cAs:List UInt8:=[97,115]
def at' (l:List ByteArray) (i:Nat):ByteArray:=l.getD i ByteArray.empty
theorem nD (h:∀ x∈l,x.size<=B) (i:Nat):(at' l i).size<=B:=by
 unfold at';by_cases hi:i<l.length
 ·rw [MI,Mu hi];exact h _ (Ns hi)
 ·rw [MI,M4 zaa];exact MJ _
def oV (l:List ByteArray):Option (Act×Nat) :=
 if l.length<3 then none
 else if (at' l 0).toList == cDo then
  if (at' l 1).toList == eS then if called (at' l 2) then some (⟨at' l 1,at' l 2,ByteArray.empty,0⟩,3) else none
  else if (at' l 1).toList == eJ then if called (at' l 2) then some (⟨at' l 1,ByteArray.empty,at' l 2,0⟩,3) else none
  else if (at' l 1).toList == kX then
   if l.length<4 then none
   else if decide (4<l.length)&&((at' l 4).toList == cAs) then
    if l.length<6 then none
    else if called (at' l 2)&&cA (at' l 3)&&called (at' l 5) then some (⟨at' l 1,at' l 2,at' l 5,dV (at' l 3)⟩,6) else none
   else if called (at' l 2)&&cA (at' l 3) then some (⟨at' l 1,at' l 2,ByteArray.empty,dV (at' l 3)⟩,4) else none
  else none
 else none
def jw:Nat->List ByteArray->Option (List Act)
 | _,[]=>some []
 | 0,_::_=>none
 | f+1,x::r =>
  match oV (x::r) with
  | none=>none
  | some (a,n)=>match jw f ((x::r).drop n) with
   | none=>none
   | some r'=>some (a::r')
def aw (l:List ByteArray):Option (List Act):=jw l.length l
theorem kS {a:Act} (h:oV l=some (a,n)):3<=n/\n<=l.length:=by
 unfold oV at h
 repeat' split at h
 all_goals cases h
 all_goals omega
theorem qN:∀ (f g:Nat) (l:List ByteArray),l.length<=f->l.length<=g->jw f l=jw g l
 | f,g,[],_,_=>by cases f <;> cases g <;> rfl
 | 0,_,x::r,h,_=>by simp at h
 | _+1,0,x::r,_,h=>by simp at h
 | f+1,g+1,x::r,hf,hg=>by
  simp only [jw];cases h:oV (x::r) with
  | none=>rfl
  | some p =>
   obtain ⟨a,n⟩:=p;have hb:=kS h;simp only;rw [qN f g ((x::r).drop n) (by simp at hf ⊢;omega) (by simp at hg ⊢;omega)]
end Ref
def lenOf:Value->Nat | .slice _ n _=>n | _=>0
def qL (w:World) (b off:Nat) (l:List ByteArray):Prop:=∀ i,i<l.length->w.cell? ⟨b,off+i,none⟩=some (.string (Ref.at' l i))
theorem qL.drop {w:World} (h:qL w b off l) (n:Nat):qL w b (off+n) (l.drop n):=by
 intro i hi;have:=h (n+i) zaO;rw [NW,this];simp [Ref.at',List.getElem?_drop]
theorem qL.below {w:World} (h:qL w b off l) (hb:Below B w w') (hB:b<B):qL w' b off l :=
 fun i hi=>by rw [hb.cell (p:=⟨b,off+i,none⟩) hB];exact h i hi
namespace Ref
structure Move where
 event:ByteArray
 to:ByteArray
 after:Bool
 delay:Int
 aw:List Act
 line:Int
structure State where
 word:ByteArray
 name:ByteArray
 deep:Bool
 up:Int
 depth:Int
 line:Int
 aj:List Move
 enter:List Act
 leave:List Act
 has0:Int
 has1:Int
structure jU where
 kind:Int
 word:ByteArray
 name:ByteArray
 deep:Bool
 sline:Int
 m:Move
 aw:List Act
theorem jN {w:World} {v:Value} (h:w.ownsRow base e size v n xs):∃ a k c,v = .slice a k c:=by
 rcases h.2 with ⟨h0,_⟩ | ⟨g,cap,cur,hv,_⟩
 ·exact ⟨_,_,_,h0⟩
 ·exact ⟨_,_,_,hv⟩
def cTo:List UInt8:=[116,111]
def uP (l:List ByteArray):Option (ByteArray×List Act) :=
 if decide (0<l.length)&&((at' l 0).toList == cTo) then
  if l.length<2 then none
  else if plain (at' l 1) then (aw (l.drop 2)).map (at' l 1,·) else none
 else (aw l).map (ByteArray.empty,·)
end Ref
end
section
open Go.RowKit
open Go.PlainAid (bt get_bt bt_nonneg bt_le bt_end)
namespace Ref
def kr:Move:=⟨ByteArray.empty,ByteArray.empty,false,0,[],0⟩
def gz:jU:=⟨0,ByteArray.empty,ByteArray.empty,false,0,kr,[]⟩
def cT:List UInt8:=[115,116,97,116,101]
def aM:List UInt8:=[112,97,114,97,108,108,101,108]
def bX:List UInt8:=[102,105,110,97,108]
def bj:List UInt8:=[104,105,115,116,111,114,121]
def CK:List UInt8:=[100,101,101,112]
def cOn:List UInt8:=[111,110]
def iG:List UInt8:=[97,102,116,101,114]
def kW:List UInt8:=[101,110,116,101,114]
def o7:List UInt8:=[108,101,97,118,101]
def is (l:List ByteArray) (i:Nat) (c:List UInt8):Bool:=(at' l i).toList == c
def uw (l:List ByteArray):Bool:=decide (l.length=3)&&is l 2 CK
def said (l:List ByteArray) (ln:Nat):jU :=
 if l.length<2 then gz
 else if is l 0 cT||(is l 0 aM||is l 0 bX) then
  if decide (l.length=2)&&plain (at' l 1) then ⟨115,at' l 0,at' l 1,false,ln,kr,[]⟩ else gz
 else if is l 0 bj then
  if plain (at' l 1)&&(decide (l.length=2)||uw l) then ⟨115,at' l 0,at' l 1,uw l,ln,kr,[]⟩ else gz
 else if is l 0 cOn then
  match uP (l.drop 2) with
  | none=>gz
  | some (to,A)=>if bZ (at' l 1) then ⟨109,ByteArray.empty,ByteArray.empty,false,0,⟨at' l 1,to,false,0,A,ln⟩,[]⟩ else gz
 else if is l 0 iG then
  match uP (l.drop 2) with
  | none=>gz
  | some (to,A)=>if cA (at' l 1) then ⟨109,ByteArray.empty,ByteArray.empty,false,0,⟨bL++dec ln,to,true,dV (at' l 1),A,ln⟩,[]⟩ else gz
 else if is l 0 kW||is l 0 o7 then
  match aw (l.drop 1) with
  | none=>gz
  | some A=>⟨bt (at' l 0) 0,ByteArray.empty,ByteArray.empty,false,0,kr,A⟩
 else gz
end Ref
end
section
open Go.RowKit
namespace Ref
structure Sl where
 a:Option Addr
 n:Nat
 c:Nat
def Sl.v (s:Sl):Value := .slice s.a s.n s.c
def Sl.nil:Sl:=⟨none,0,0⟩
structure SV where
 s:State
 vm:Sl
 ve:Sl
 vl:Sl
structure MV where
 m:Move
 v:Sl
def JE (x:MV):List Value:=[x.m.event,x.m.to,x.m.after,.int .u64 x.m.delay,.slice x.v.a x.v.n x.v.c,(x.m.line:Int)]
theorem jD {α:Type} {f:α->List Value} {n:Nat} (hf:∀ x,(f x).length=n):∀ (X:List α) (i j:Nat),j<n->∀ (h:i<X.length),(X.flatMap f)[i*n+j]?=(f X[i])[j]?
 | [],i,j,_,h=>by simp at h
 | x::X,0,j,hj,_=>by
  rw [NT,Qq,OM,NG (by rw [hf];exact hj)];rfl
 | x::X,i+1,j,hj,h=>by
  rw [NT,QV,NM (by rw [hf];omega),hf];rw [show i*n+n+j-n=i*n+j from by omega,jD hf X i j hj zaC];rfl
theorem jE {α:Type} {f:α->List Value} {n:Nat} (hf:∀ x,(f x).length=n):∀ (X:List α),(X.flatMap f).length=X.length*n
 | []=>by simp
 | x::X=>by rw [NT,MN,hf,jE hf X,NU,QV,Nat.add_comm]
def Ga (n:ByteArray) (x:SV):Bool:=x.s.name.toList == n.toList
def place (X:List SV) (n:ByteArray):Int:=match X.findIdx? (Ga n) with | some i=>(i:Int) | none => -1
def wY (a:Act):Bool:=cy a.event bL||cy a.id bL
def b7 (A:List Act):Bool:=A.any wY
end Ref
def Row {α:Type} (w:World) (e:TypeId) (size:Nat) (f:α->List Value) (v:Value) (X:List α):Prop:=w.ownsRow 0 e size v X.length (X.flatMap f)
theorem Row.cell {α:Type} {w:World} {f:α->List Value} {X:List α} (hf:∀ x,(f x).length=n) (h:Row w e n f (.slice g X.length cap) X) {j:Nat} (hj:j<n) (hi:i<X.length) :
  w.cell? ⟨g,i*n+j,none⟩=(f X[i])[j]?:=by
 have hlt:i*n+j<X.length*n:=by
  have:(i+1)*n<=X.length*n:=O7 n hi;rw [QV] at this;omega
 rw [h.cellAt (i*n+j) hlt,Ref.jD hf X i j hj hi]
end
section
open Go.RowKit Go.Proofs Go.Shelf
attribute [local go_sem] Nw
namespace Pg
structure PS where
 kind:Int
 name:ByteArray
 done:ByteArray
 owner:Int
 parts:Nat
 inside:Nat
 around:Nat
 wth:Nat
 enter:Ref.Sl
 leave:Ref.Sl
structure PS.Sm (p:PS):Prop where
 hp:p.parts<4294967296
 hi:p.inside<4294967296
 ha:p.around<4294967296
 hw:p.wth<4294967296
structure tu (W:World) (b i:Nat) (p:PS):Prop where
 c0:W.cell? ⟨b,i*10,none⟩=some ↑(p.kind:Int)
 c1:W.cell? ⟨b,i*10+1,none⟩=some ↑p.name
 c2:W.cell? ⟨b,i*10+2,none⟩=some ↑p.done
 c3:W.cell? ⟨b,i*10+3,none⟩=some ↑(p.owner:Int)
 c4:W.cell? ⟨b,i*10+4,none⟩=some (.int .u32 p.parts)
 c5:W.cell? ⟨b,i*10+5,none⟩=some (.int .u32 p.inside)
 c6:W.cell? ⟨b,i*10+6,none⟩=some (.int .u32 p.around)
 c7:W.cell? ⟨b,i*10+7,none⟩=some (.int .u32 p.wth)
 c8:W.cell? ⟨b,i*10+8,none⟩=some p.enter.v
 c9:W.cell? ⟨b,i*10+9,none⟩=some p.leave.v
theorem tu.below {p:PS} (h:tu W b i p) (hB:Below B W W') (hb:b<B):tu W' b i p where
 c0:=(hB.cell (p:=⟨b,_,none⟩) hb).trans h.c0
 c1:=(hB.cell (p:=⟨b,_,none⟩) hb).trans h.c1
 c2:=(hB.cell (p:=⟨b,_,none⟩) hb).trans h.c2
 c3:=(hB.cell (p:=⟨b,_,none⟩) hb).trans h.c3
 c4:=(hB.cell (p:=⟨b,_,none⟩) hb).trans h.c4
 c5:=(hB.cell (p:=⟨b,_,none⟩) hb).trans h.c5
 c6:=(hB.cell (p:=⟨b,_,none⟩) hb).trans h.c6
 c7:=(hB.cell (p:=⟨b,_,none⟩) hb).trans h.c7
 c8:=(hB.cell (p:=⟨b,_,none⟩) hb).trans h.c8
 c9:=(hB.cell (p:=⟨b,_,none⟩) hb).trans h.c9
structure bW (W:World) (pb b cap:Nat) (ps:List PS):Prop where
 row:W.cell? pb=some (.slice b ps.length cap)
 at':∀ (i:Nat) (p:PS),ps[i]?=some p->tu W b i p
 sm:∀ (i:Nat) (p:PS),ps[i]?=some p->p.Sm
 len:ps.length<=24
theorem bW.below {pb:Nat} {ps:List PS} (h:bW W pb b cap ps) (hB:Below B W W') (hp:pb<B) (hb:b<B):bW W' pb b cap ps where
 row:=(hB.cell (p:=⟨pb,_,none⟩) hp).trans h.row
 at':=fun i p hi=>(h.at' i p hi).below hB hb
 sm:=h.sm
 len:=h.len
end Pg
theorem F9 (w:World) (pb b cap:Nat) (ps:List Pg.PS) (i j:Nat) (p:Pg.PS) (hP:Pg.bW w pb b cap ps) (hi:ps[i]?=some p) (hj:j<32):() 229 #[pb,(i:Int),(j:Int)] w fun e w'=>e = .returned (.bool (p.around.testBit j))/\w'=w:=by
 have hil:i<ps.length:=(Mx.1 hi).1;have hlen:=hP.len;have h0:=hP.row;have h6:=(hP.at' i p hi).c6;have hsm:=(hP.sm i p hi).ha;go_enter func229,ntmps229;go_wp2_with (go_at_call 195;refine (wH p.around j _ hj hsm).mono ?_;rintro e w9 ⟨rfl,hw9⟩;rw [hw9];clear hw9 w9);exact zfr
namespace Pg
def je (ps:List PS) (i:Nat):Nat:=match ps[i]? with | some p=>p.around | none=>0
def tF (ps:List PS) (o:Nat) (l:List Nat):Nat:=l.foldl (fun o i=>o&&&(4294967295-je ps i)) o
theorem DY (ps:List PS) (o:Nat) (l:List Nat) (i:Nat):tF ps o (l++[i])=tF ps o l&&&(4294967295-je ps i):=by
 unfold tF;rw [NZ];rfl
theorem wJ (ps:List PS):∀ (l:List Nat) (o:Nat),o<4294967296->tF ps o l<4294967296
 | [],_,h=>h
 | _::l,_,h=>wJ ps l _ (Nt Oi h)
def aX {s:Nat}:List (In s)->List Nat
 | []=>[]
 | x::l=>x.1::aX l
theorem cd {s:Nat}:∀ l:List (In s),aX l=l.map (·.1)
 | []=>rfl
 | x::l=>by rw [aX,cd l];rfl
theorem dS (l:List (In s)) (x:In s):aX (l++[x])=aX l++[x.1]:=by
 rw [cd,cd,Ny];rfl
def inn (ps:List PS) (s:Nat):Nat:=tF ps s (els s)
theorem KpT.tr {A B C:World} (h:KpT A B) (k:KpT B C):KpT A C:=fun x=>k (h x)
theorem KpT.of {A B:World} (h:Below n A B) (hn:1<n):KpT A B:=fun x j hj=>(h.cell (p:=⟨1,j,none⟩) hn).trans (x j hj)
end Pg
theorem wK (n:Nat) (hn:3<=n) (w:World) (pb b cap:Nat) (ps:List Pg.PS) (s:Nat) (hs:s<4294967296) (hin:∀ i,i∈Pg.els s->i<ps.length) (hP:Pg.bW w pb b cap ps) (hpb:pb<w.heap.size) (hb:b<w.heap.size)
  (hg:1<w.heap.size) (hT:TabAt 1 Lib.deBruijn32tab w) :
  CallsIn Fence.wide n prog 102 #[pb,.int .u32 s] w fun e w'=>e = .returned (.int .u32 (Pg.inn ps s))/\Below w w w':=by
 have h1:1<=n:=zaa;refine Nz func102 rfl trivial ?_ rfl;simp only [ntmps102,List.size_toArray,List.length_cons,List.length_nil,Nat.reduceAdd,Nat.reduceSub,Array.replicate_succ,Array.replicate_zero,List.push_toArray,List.append_toArray,List.nil_append,List.cons_append];gi_wp2_with (refine ⟨trivial,?_⟩;gi_at_call 93;refine (M6.2 (dy s _)).mono ?_;rintro e w9 ⟨rfl,hw9⟩;rw [hw9];clear hw9 w9);have c0:=M7 w 74 pb;have c1:=M7 (w.alloc (.cells #[pb] 74)) 76 (.int .u32 s);have c2:=M7 ((w.alloc (.cells #[pb] 74)).alloc (.cells #[.int .u32 s] 76)) 76 (.int .u32 s);simp only [World.size_alloc] at c1 c2;have hB0:Below w w (((w.alloc (.cells #[pb] 74)).alloc (.cells #[.int .u32 s] 76)).alloc (.cells #[.int .u32 s] 76)):=(((Mw _ w).alloc (Mt _) _).alloc zad _).alloc zaf _;refine Qf rfl h1 (gf:=145) (lb:=#[↑(w.heap.size+1+1)]) rfl trivial (ON func145 zab rfl)
  (eX (n-1) zaa (w.heap.size+1+1) s hs _ zad zad c2.cell (Pg.KpT.of hB0 hg hT)) Pg.KpT.tr (fun W l o o' hl h hc hw=>Pg.KpT.of (OV (n₀:=w.heap.size) (Mv (PD _ 3) zad) W l o o' hl h hc hw) hg) (Mw _ _) (fun _=>rfl)
  (fun pre W=>(Boxed W w 74 pb/\Boxed W (w.heap.size+1) 76 (.int .u32 (Pg.tF ps s (Pg.aX pre))))/\Below w w W)
  (fun _ _ _=>False)
  (Nh (Nh (NX (NN _ _ _) _) (NX (NN _ _ _) _)) (Oq (Mt _) zaf))
  (fun _ _ _ _ _ hs _ _=>hs)
  ⟨⟨(c0.alloc _).alloc _,c1.alloc _⟩,hB0⟩
  (fun x=>{ tmps:=#[.pointer (some ⟨pb,0,none⟩),.int .u32 s,.pointer (some ⟨w.heap.size,0,none⟩),undef,.int .u32 0,.pointer (some ⟨w.heap.size+1,0,none⟩),.int .i64 x.1,.int .u32 s,.int .u32 s,.func (.func 145) #[] #[.pointer (some ⟨w.heap.size+1+1,0,none⟩)],.int .i64 x.1,undef,undef,undef,undef,undef,undef,undef,undef,undef,undef,undef],defers:=[] }) ?assign ?body ?done ?stop
 case assign =>
  exact zfn
 case body =>
  rintro l pre x W ⟨⟨hp,hc⟩,hB⟩ _;have hpc:=hp.cell;have hcc:=hc.cell;have hcf:=hc.frozen;have hxl:=hin x.1 x.2;obtain ⟨p,hpx⟩:∃ p,ps[x.1]?=some p:=⟨_,Mu hxl⟩;have hP':=hP.below hB hpb hb;have h0:=hP'.row;have h6:=(hP'.at' x.1 p hpx).c6;have hlen:=hP.len;have hsm:=(hP.sm x.1 p hpx).ha;have hlt:=Pg.wJ ps (Pg.aX pre) s hs;have har:Pg.je ps x.1=p.around:=by unfold Pg.je;rw [hpx]
  have ha:=QZ _ _ hlt hsm;have hsn:=Pg.DY ps s (Pg.aX pre) x.1;rw [har,<- Pg.dS] at hsn;have hB':∀ v,Below w w ((W.drew).setCell ⟨w.heap.size+1,0,none⟩ v):=fun v=>(hB.trans ((Mw _ W).drew)).setCell (p:=⟨w.heap.size+1,0,none⟩) zad _;have hko:∀ v,KeepsOthers W ((W.drew).setCell ⟨w.heap.size+1,0,none⟩ v):=fun v=>(Pn W).trans (NB _ _ _);have hkp:∀ v,Pg.KpT W ((W.drew).setCell ⟨w.heap.size+1,0,none⟩ v):=fun v=>Pg.KpT.of (((Mw w W).drew).setCell (p:=⟨w.heap.size+1,0,none⟩) zad _) hg;have hbp:∀ v,Boxed ((W.drew).setCell ⟨w.heap.size+1,0,none⟩ v) w.heap.size 74 pb:=fun v=>Boxed.kept (W:=W.drew) (show Boxed W.drew _ _ _ from hp) (Ri _ _ _) zad;have hbc:Boxed ((W.drew).setCell ⟨w.heap.size+1,0,none⟩ (.int .u32 ((Pg.tF ps s (Pg.aX pre)&&&(4294967295-p.around):Nat):Int))) (w.heap.size+1) 76 (.int .u32 (Pg.tF ps s (Pg.aX (pre++[x])))):=by
   exact zeE
  clear hsn har hp hc hP hP';gi_wp2;gi_region
  all_goals gi_wp2
  all_goals exact ⟨hko _,hkp _,⟨hbp _,hbc⟩,hB' _⟩
 case done =>
  rintro D ys W hD hys ⟨⟨_,hc⟩,hB⟩ hK;exact zdy
 case stop =>
  exact zfg
end
section
open Go
theorem oD {P:Program} {row:String} {w:World} {R:Value->World->Prop} (h:Rows P row args w R):RowsIn (Fence.wide.inRound k) n P row args w R :=
 fun c cs _=>let ⟨v,w',r,s⟩:=h c cs;⟨v,w',r,stepsIn_wide.2 s⟩
theorem aH {P:Program} {f:FuncId} {w:World} (h:Calls P f args w R):CallsIn (Fence.wide.inRound k) n P f args w R :=
 CallsIn.inRound k (M6.2 h)
theorem Co {k n:Nat} {P:Program} {o:Oper} {a:Act} {N N':Act->World->Prop} {Q:Exit->Act->World->Prop} (hN:∀ a w,N a w->N' a w):∀ r:Result Next,o.upon P a N Q r->o.uponIn (Fence.wide.inRound k) n P a N' Q r:=by
 have hd:∀ x:Prop,((Fence.wide.inRound k).depth.isSome=true->x):=fun x h=>zav;intro r h;cases r with
 | ok v w' =>
  cases v <;> first
   | exact hN _ _ h
   | exact ⟨hd _,oD (Rows.mono h fun _ _ hx=>hN _ _ hx)⟩
   | exact h.elim
   | skip
  exact ⟨hd _,aH (MC h fun e w'' hx=>by
   cases e
   ·exact hN _ _ hx
   ·exact hx
   ·exact hx)⟩
 | halt x w'=>cases x <;> first | exact h | exact h.elim
def kn (ops:Array Oper):Bool:=ops.all fun o=>match o.op with | .defer _=>false | _=>true
theorem od {ops:Array Oper} (h:kn ops=true) (ho:ops[i]?=some o) (c:_):o.op≠Op.defer c:=by
 intro he;have hm:o∈ops:=Array.mem_of_getElem? ho;have:=Pt.1 h o hm;rw [he] at this;exact Bool.noConfusion this
theorem me {k n:Nat} {P:Program} {ops:Array Oper} {Q:Exit->Act->World->Prop} (hnd:kn ops=true) (hL:¬ LetsOut Q):∀ (l:List Nat) (a:Act) (w:World),wpOps P ops Q l a w->wpOpsIn (Fence.wide.inRound k) n P ops Q l a w
 | [],_,_,h=>h
 | i::l,a,w,h=>by
  unfold wpOps at h;unfold wpOpsIn;cases ho:ops[i]? with
  | none =>
   simp only [ho] at h;exact me hnd hL l a w h
  | some o =>
   simp only [ho] at h;simp only;split
   ·rename_i hw;rw [MB hw] at h
    rcases h with h | ⟨_,h⟩
    ·refine ⟨fun _ _=>trivial,?_⟩;rw [Oper.semAt_eq _ _ _ (fun c=>od hnd ho c)];exact Co (fun a w hx=>me hnd hL l a w hx) _ h
    ·exact absurd h hL
   ·rename_i hw;rw [Mz hw] at h;exact ⟨fun _ _=>trivial,me hnd hL l _ w h⟩
theorem kN {P:Program} {ops:Array Oper} {Q:Exit->Act->World->Prop} {a:Act} {w:World} (hm:P.follows .mixedOrders=true) (hnd:kn ops=true) (hL:¬ LetsOut Q)
  (h:wpAny P .any ops Q ops.size (Array.replicate ops.size false) a { w with drawn:=w.drawn+1 }):(Code.region id ops true).wpIn (Fence.wide.inRound k) n P Q a w :=
 wpIn_region_draw fun t=>by
  simp only [Region.schedule,hm,Bool.true_or,if_true];exact me hnd hL _ _ _ (wpAny_sound ops.size t _ a _ h)
theorem cU {P:Program} {ops:Array Oper} {Q:Exit->Act->World->Prop} {S:World->Prop} {a:Act} {w:World} (hm:P.follows .mixedOrders=true) (hnd:kn ops=true) (hL:¬ LetsOut Q) (hS:S w.drew)
  (h:S w.drew->wpAnyH P .any ops Q S ops.size (Array.replicate ops.size false) a w.drew):(Code.region id ops true).wpIn (Fence.wide.inRound k) n P Q a w :=
 kN hm hnd hL (wpAny_of_held _ _ _ _ (h hS))
theorem oz {P:Program} {md:Region.Mode} {ops:Array Oper} {Q:Exit->Act->World->Prop} {S:World->Prop} {fuel:Nat} {listed:Array Bool} {a:Act} {w:World} {rs:List Nat} (ho:ops[i]?=some o) (hw:Region.wanted o (yielded ops a.tmps)=true)
  (h:∀ K':Act->World->Prop,Shut (∀ a w,S w->(S w->wpAnyH P md ops Q S fuel (listed.setIfInBounds i true) a w)->K' a w)->Oper.wp P o a w K' Q)
  (hs:AllReadyH P md ops Q S fuel listed a w rs):AllReadyH P md ops Q S fuel listed a w (i::rs) :=
 Nj ho (fun K hK=>by rw [MB hw];exact h K hK) hs
end
section
open Go.RowKit Go.Proofs Go.Shelf
attribute [local go_sem] Nw
namespace Pg
def fw (ps:List PS) (i:Nat):Nat:=match ps[i]? with | some p=>p.wth | none=>0
def jh (ps:List PS) (i:Nat):Nat:=match ps[i]? with | some p=>p.inside | none=>0
def qi (ps:List PS) (ow:Nat) (l:List Nat):Nat:=l.foldl (fun o i=>o|||(fw ps i|||(je ps i&&&jh ps ow))) 0
theorem Ez (ps:List PS) (ow:Nat) (l:List Nat) (i:Nat):qi ps ow (l++[i])=qi ps ow l|||(fw ps i|||(je ps i&&&jh ps ow)):=by
 unfold qi;rw [NZ];rfl
theorem pX {a:Nat} (ha:a<4294967296) (hb:b<4294967296):a|||b<4294967296:=Nv (n:=32) ha hb
theorem jW {a:Nat} (ha:a<4294967296):a&&&b<4294967296:=Nt Oi ha
end Pg
theorem zK (n:Nat) (hn:3<=n) (w:World) (pb b cap:Nat) (ps:List Pg.PS) (ow:Nat) (po:Pg.PS) (hpo:ps[ow]?=some po) (s:Nat) (hs:s<4294967296) (h0s:s≠0) (hin:∀ i,i∈Pg.els s->i<ps.length) (hbd:∀ l,Pg.qi ps ow l<4294967296) (hP:Pg.bW w pb b cap ps) (hpb:pb<w.heap.size) (hb:b<w.heap.size)
  (hg:1<w.heap.size) (hT:TabAt 1 Lib.deBruijn32tab w) :
  CallsIn Fence.wide n prog 156 #[pb,(ow:Int),.int .u32 s] w fun e w'=>e = .returned (.int .u32 (Pg.qi ps ow (Pg.els s)))/\Below w w w':=by
 have h1:1<=n:=zaa;have hol:ow<ps.length:=(Mx.1 hpo).1;have hlen:=hP.len;have hrow:=hP.row;have hz:((s:Int) == 0)=false:=zaf;refine Nz func156 rfl trivial ?_ rfl;simp only [ntmps156,List.size_toArray,List.length_cons,List.length_nil,Nat.reduceAdd,Nat.reduceSub,Array.replicate_succ,Array.replicate_zero,List.push_toArray,List.append_toArray,List.nil_append,List.cons_append];have hrow1:(w.alloc (.cells #[pb] 74)).cell? pb=some (.slice b ps.length cap):=(((Mw _ w).alloc (Mt _) _).cell (p:=⟨pb,0,none⟩) hpb).trans hrow;gi_wp2_with (refine ⟨trivial,?_⟩;gi_at_call 93;refine (M6.2 (dy s _)).mono ?_;rintro e w9 ⟨rfl,hw9⟩;rw [hw9];clear hw9 w9);have c0:=M7 w 74 pb;have c1:=M7 (w.alloc (.cells #[pb] 74)) 232 (.pointer (some ⟨b,ow*10,none⟩));have c2:=M7 ((w.alloc (.cells #[pb] 74)).alloc (.cells #[.pointer (some ⟨b,ow*10,none⟩)] 232)) 76 (.int .u32 0);have c3:=M7 (((w.alloc (.cells #[pb] 74)).alloc (.cells #[.pointer (some ⟨b,ow*10,none⟩)] 232)).alloc (.cells #[.int .u32 0] 76)) 76 (.int .u32 s);simp only [World.size_alloc] at c1 c2 c3;have hB0:Below w w ((((w.alloc (.cells #[pb] 74)).alloc (.cells #[.pointer (some ⟨b,ow*10,none⟩)] 232)).alloc (.cells #[.int .u32 0] 76)).alloc (.cells #[.int .u32 s] 76)):=((((Mw _ w).alloc (Mt _) _).alloc zad _).alloc zaf _).alloc zaf _;refine Qf rfl h1 (gf:=145) (lb:=#[↑(w.heap.size+1+1+1)]) rfl trivial (ON func145 zab rfl)
  (eX (n-1) zaa (w.heap.size+1+1+1) s hs _ zad zad c3.cell (Pg.KpT.of hB0 hg hT)) Pg.KpT.tr (fun W l o o' hl h hc hw=>Pg.KpT.of (OV (n₀:=w.heap.size) (Mv (PD _ 4) zad) W l o o' hl h hc hw) hg) (Mw _ _) (fun _=>rfl)
  (fun pre W=>(Boxed W w 74 pb/\Boxed W (w.heap.size+1) 232 (.pointer (some ⟨b,ow*10,none⟩))/\Boxed W (w.heap.size+1+1) 76 (.int .u32 (Pg.qi ps ow (Pg.aX pre))))/\Below w w W)
  (fun _ _ _=>False)
  (Nh (Nh (NX (NN _ _ _) _) (Nh (NX (NN _ _ _) _) (NX (NN _ _ _) _))) (Oq (Mt _) zaf))
  (fun _ _ _ _ _ hs _ _=>hs)
  ⟨⟨((c0.alloc _).alloc _).alloc _,(c1.alloc _).alloc _,c2.alloc _⟩,hB0⟩
  (fun x=>{ tmps:=#[.pointer (some ⟨pb,0,none⟩),.int .i64 ow,.int .u32 s,.pointer (some ⟨w.heap.size,0,none⟩),undef,undef,.int .u32 0,.pointer (some ⟨w.heap.size+1,0,none⟩),.pointer (some ⟨w.heap.size+1+1,0,none⟩),.int .i64 x.1,.pointer (some ⟨pb,0,none⟩),.pointer (some ⟨pb,0,none⟩),.pointer (some ⟨pb,0,none⟩),.slice (some ⟨b,0,none⟩) ps.length cap,.int .i64 ow,.pointer (some ⟨b,ow*10,none⟩),.int .u32 s,.bool false,undef,undef,undef,undef,undef,undef,undef,.int .u32 s,.func (.func 145) #[] #[.pointer (some ⟨w.heap.size+1+1+1,0,none⟩)],.int .i64 x.1,undef,undef,undef,undef,undef,undef,undef,undef,undef,undef,undef,undef,undef,undef,undef,undef,undef,undef,undef,undef,undef,undef,undef,undef,undef],defers:=[] }) ?assign ?body ?done ?stop
 case assign =>
  exact zfn
 case body =>
  rintro l pre x W ⟨⟨hp,ho,hc⟩,hB⟩ _;have hxl:=hin x.1 x.2;obtain ⟨p,hpx⟩:∃ p,ps[x.1]?=some p:=⟨_,Mu hxl⟩;have hP':=hP.below hB hpb hb;have sa:=(hP.sm x.1 p hpx).ha;have sw:=(hP.sm x.1 p hpx).hw;have si:=(hP.sm ow po hpo).hi;have hlt:=hbd (Pg.aX pre);have har:Pg.je ps x.1=p.around:=by unfold Pg.je;rw [hpx]
  have hwt:Pg.fw ps x.1=p.wth:=by unfold Pg.fw;rw [hpx]
  have hid:Pg.jh ps ow=po.inside:=by unfold Pg.jh;rw [hpo]
  have ha1:=PI _ _ sa si;have ha2:=O1 _ _ sw (Pg.jW (b:=po.inside) sa);have ha3:=O1 _ _ hlt (Pg.pX sw (Pg.jW (b:=po.inside) sa));have hsn:=Pg.Ez ps ow (Pg.aX pre) x.1;rw [har,hwt,hid,<- Pg.dS] at hsn;have hB':∀ v,Below w w ((W.drew).setCell ⟨w.heap.size+1+1,0,none⟩ v):=fun v=>(hB.trans ((Mw _ W).drew)).setCell (p:=⟨w.heap.size+1+1,0,none⟩) zaf _;have hko:∀ v,KeepsOthers W ((W.drew).setCell ⟨w.heap.size+1+1,0,none⟩ v):=fun v=>(Pn W).trans (NB _ _ _);have hkp:∀ v,Pg.KpT W ((W.drew).setCell ⟨w.heap.size+1+1,0,none⟩ v):=fun v=>Pg.KpT.of (((Mw w W).drew).setCell (p:=⟨w.heap.size+1+1,0,none⟩) zaf _) hg;have hbp:∀ v,Boxed ((W.drew).setCell ⟨w.heap.size+1+1,0,none⟩ v) w.heap.size 74 pb:=fun v=>Boxed.kept (W:=W.drew) (show Boxed W.drew _ _ _ from hp) (Ri _ _ _) zaf;have hbo:∀ v,Boxed ((W.drew).setCell ⟨w.heap.size+1+1,0,none⟩ v) (w.heap.size+1) 232 (.pointer (some ⟨b,ow*10,none⟩)):=fun v=>Boxed.kept (W:=W.drew) (show Boxed W.drew _ _ _ from ho) (Ri _ _ _) zad;have hbc:Boxed ((W.drew).setCell ⟨w.heap.size+1+1,0,none⟩ (.int .u32 ((Pg.qi ps ow (Pg.aX pre)|||(p.wth|||(p.around&&&po.inside)):Nat):Int))) (w.heap.size+1+1) 76 (.int .u32 (Pg.qi ps ow (Pg.aX (pre++[x])))):=by
   exact zeE
  have hcc:=hc.cell;have hcf:=hc.frozen;gi_wp2;refine cU (S:=(fun V=>V.cell? w=some ↑pb/\V.cell? ⟨w.heap.size+1,0,none⟩=some (.pointer (some ⟨b,ow*10,none⟩))/\V.cell? pb=some (.slice b ps.length cap)/\V.cell? ⟨b,x.1*10+7,none⟩=some (.int .u32 p.wth)/\V.cell? ⟨b,x.1*10+6,none⟩=some (.int .u32 p.around)/\V.cell? ⟨b,ow*10+5,none⟩=some (.int .u32 po.inside))) zab zab zbh ⟨hp.cell,ho.cell,hP'.row,(hP'.at' x.1 p hpx).c7,(hP'.at' x.1 p hpx).c6,(hP'.at' ow po hpo).c5⟩ (fun u0 => ?_);clear hsn har hwt hid hp hc ho hP hP' hrow hrow1;refine tH 1 pb rfl u0 ?_;refine tH 2 pb rfl u0 ?_;refine tH 3 pb rfl u0 ?_;refine tH 4 (.slice b ps.length cap) rfl u0 ?_;refine tH 5 (.int .i64 x.1) rfl u0 ?_;refine tH 6 (.pointer (some ⟨b,x.1*10,none⟩)) rfl u0 ?_;refine tH 7 (.pointer (some ⟨b,x.1*10+7,none⟩)) rfl u0 ?_;refine tH 8 (.int .u32 p.wth) rfl u0 ?_;refine tH 9 pb rfl u0 ?_;refine tH 10 pb rfl u0 ?_;refine tH 11 pb rfl u0 ?_;refine tH 12 (.slice b ps.length cap) rfl u0 ?_;refine tH 13 (.int .i64 x.1) rfl u0 ?_;refine tH 14 (.pointer (some ⟨b,x.1*10,none⟩)) rfl u0 ?_;refine tH 15 (.pointer (some ⟨b,x.1*10+6,none⟩)) rfl u0 ?_;refine tH 16 (.int .u32 p.around) rfl u0 ?_;refine tH 17 (.pointer (some ⟨b,ow*10,none⟩)) rfl u0 ?_;refine tH 18 (.pointer (some ⟨b,ow*10,none⟩)) rfl u0 ?_;refine tH 19 (.pointer (some ⟨b,ow*10+5,none⟩)) rfl u0 ?_;refine tH 20 (.int .u32 po.inside) rfl u0 ?_;refine tH 21 (.int .u32 ((p.around&&&po.inside:Nat):Int)) rfl u0 ?_;refine tH 22 (.int .u32 ((p.wth|||(p.around&&&po.inside):Nat):Int)) rfl u0 ?_;refine zH 0 rfl fun K hK => ?_;go_simp;refine hK.out _ _ u0 (fun u0 => ?_);clear hK K;refine tH 23 (.int .u32 ((Pg.qi ps ow (Pg.aX pre)|||(p.wth|||(p.around&&&po.inside)):Nat):Int)) rfl u0 ?_;refine zH 24 rfl fun K hK => ?_;go_simp;refine hK.out _ _ (by
   have e:∀ (a:Addr),a.block≠w.heap.size+1+1->∀ v,(W.setCell ⟨w.heap.size+1+1,0,none⟩ v).drew.cell? a=W.drew.cell? a:=fun a ha v=>World.cell?_setCell_far W _ _ _ (fun h=>ha h.symm)
   (try dsimp only at u0);(try dsimp only)
   rw [e _ zaf,e _ zad,e _ zaf,e _ zaf,e _ zaf,e _ zaf];exact u0) (fun _ => ?_)
  clear hK K;refine MY zab ?_ _;gi_wp2;exact ⟨hko _,hkp _,⟨hbp _,hbo _,hbc⟩,hB' _⟩
 case done =>
  rintro D ys W hD hys ⟨⟨_,_,hc⟩,hB⟩ hK;exact zdy
 case stop =>
  exact zfg
namespace Pg
theorem qG {ps:List PS} (h:∀ (i:Nat) (p:PS),ps[i]?=some p->p.Sm) (i:Nat):fw ps i<4294967296:=by
 unfold fw;split
 ·rename_i p hp;exact (h i p hp).hw
 ·omega
theorem IF {ps:List PS} (h:∀ (i:Nat) (p:PS),ps[i]?=some p->p.Sm) (i:Nat):je ps i<4294967296:=by
 unfold je;split
 ·rename_i p hp;exact (h i p hp).ha
 ·omega
theorem CX {ps:List PS} (h:∀ (i:Nat) (p:PS),ps[i]?=some p->p.Sm) (ow:Nat):∀ (l:List Nat) (o:Nat),o<4294967296->l.foldl (fun o i=>o|||(fw ps i|||(je ps i&&&jh ps ow))) o<4294967296
 | [],_,ho=>ho
 | i::l,_,ho=>CX h ow l _ (pX ho (pX (qG h i) (jW (IF h i))))
theorem CW {ps:List PS} (h:∀ (i:Nat) (p:PS),ps[i]?=some p->p.Sm) (ow:Nat) (l:List Nat):qi ps ow l<4294967296:=CX h ow l 0 zaa
def dO (ps:List PS) (ow s:Nat):Nat:=if s=0 then fw ps ow&&&(4294967295-2 ^ ow) else qi ps ow (els s)
theorem EA {ps:List PS} (h:∀ (i:Nat) (p:PS),ps[i]?=some p->p.Sm) (ow s:Nat):dO ps ow s<4294967296:=by
 unfold dO;split
 ·exact jW (qG h ow)
 ·exact CW h ow _
end Pg
theorem zL (w:World) (pb b cap:Nat) (ps:List Pg.PS) (ow:Nat) (po:Pg.PS) (hpo:ps[ow]?=some po) (hP:Pg.bW w pb b cap ps) (hpb:pb<w.heap.size) (hb:b<w.heap.size) :
  () 156 #[pb,(ow:Int),.int .u32 0] w fun e w'=>e = .returned (.int .u32 (Pg.fw ps ow&&&(4294967295-2 ^ ow):Nat))/\Below w w w':=by
 have hol:ow<ps.length:=(Mx.1 hpo).1;have hlen:=hP.len;have hB1:Below w w (w.alloc (.cells #[pb] 74)):=(Mw _ w).alloc (Mt _) _;have hB2:Below w w ((w.alloc (.cells #[pb] 74)).alloc (.cells #[.pointer (some ⟨b,ow*10,none⟩)] 232)):=hB1.alloc zad _;have hrow1:=(hP.below hB1 hpb hb).row;have h7:=((hP.below hB2 hpb hb).at' ow po hpo).c7;have hc1:=(M7 (w.alloc (.cells #[pb] 74)) 232 (.pointer (some ⟨b,ow*10,none⟩))).cell;simp only [World.size_alloc] at hc1;have hwt:Pg.fw ps ow=po.wth:=by unfold Pg.fw;rw [hpo]
 have hsm:=(hP.sm ow po hpo).hw;have ha:bits BinOp.andNot IntKind.u32 (po.wth:Int) ((2:Int) ^ ow)=((po.wth&&&(4294967295-2 ^ ow):Nat):Int):=by
  rw [jc,QZ _ _ hsm (fZ zaa)]
 rw [hwt];generalize hr:po.wth&&&(4294967295-2 ^ ow)=r at *;go_enter func156,ntmps156;go_wp2;generalize (w.alloc (.cells #[pb] 74)).alloc (.cells #[.pointer (some ⟨b,ow*10,none⟩)] 232)=W at *;go_region_with (go_at_call 94;refine (ir ow _ zaa).mono ?_;rintro e w9 ⟨rfl,hw9⟩;rw [hw9];clear hw9 w9)
 all_goals go_wp2
 all_goals go_ret
 all_goals exact ⟨rfl,hB2.trans (Mw _ W).drew⟩
theorem BX (w:World) (pb b cap:Nat) (ps:List Pg.PS) (ow:Nat) (po:Pg.PS) (hpo:ps[ow]?=some po) (s:Nat) (hs:s<4294967296) (hin:∀ i,i∈Pg.els s->i<ps.length) (hP:Pg.bW w pb b cap ps) (hpb:pb<w.heap.size) (hb:b<w.heap.size)
  (hg:1<w.heap.size) (hT:TabAt 1 Lib.deBruijn32tab w) :
  () 156 #[pb,(ow:Int),.int .u32 s] w fun e w'=>e = .returned (.int .u32 (Pg.dO ps ow s))/\Below w w w':=by
 unfold Pg.dO;by_cases h0:s=0
 ·subst h0;rw [MB rfl];exact zL w pb b cap ps ow po hpo hP hpb hb
 ·rw [Mz h0];exact M6.1 (zK 3 zaa w pb b cap ps ow po hpo s hs h0 hin (Pg.CW hP.sm ow) hP hpb hb hg hT)
theorem mH (w:World) (pb b cap:Nat) (ps:List Pg.PS) (s:Nat) (hs:s<4294967296) (hin:∀ i,i∈Pg.els s->i<ps.length) (hP:Pg.bW w pb b cap ps) (hpb:pb<w.heap.size) (hb:b<w.heap.size)
  (hg:1<w.heap.size) (hT:TabAt 1 Lib.deBruijn32tab w) :
  () 102 #[pb,.int .u32 s] w fun e w'=>e = .returned (.int .u32 (Pg.inn ps s))/\Below w w w' :=
 M6.1 (wK 3 zaa w pb b cap ps s hs hin hP hpb hb hg hT)
