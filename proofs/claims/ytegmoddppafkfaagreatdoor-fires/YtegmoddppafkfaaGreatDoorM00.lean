import Derived.Test.YtegmoddppafkfaaGreatDoorProg
import Derived.WalkLawsBesides
import Derived.WalkSpells
import Derived.Deep.WholeRow
import Derived.StillTailTactics
import Derived.Deep.RegionHeld
import Derived.PlainAid
import Derived.Deep.Light
import Derived.Lib.ItoaNum
import Derived.Lib.ParseIntB
import Derived.Shelf.Small.Bits
import Derived.Shelf.Spec.TrailingZeros
import Derived.RangeFuncNested
import Derived.RangeFuncBound
import Derived.Shelf.RegionOpen
import Derived.OwnWalkIn
import Derived.LoopNIn
import Derived.LoopIn
set_option maxRecDepth 100000
set_option maxHeartbeats 8000000
namespace Go.Proofs.YtegmoddppafkfaaGreatDoor
variable {zp:Prop}
theorem zcO (h:zp:=by
 have hp:=MJ k;have e1:s=2 ^ k*(2*m+1)+0:=zaa;have e2:s-1=2 ^ k*(2*m)+(2 ^ k-1):=by
  have:2 ^ k*(2*m+1)=2 ^ k*(2*m)+2 ^ k:=by rw [Nat.mul_add,Od]
  omega
 have t1:∀ j,s.testBit j=if j<k then false else (2*m+1).testBit (j-k):=by
  intro j;rw [e1,NU _ hp,O5]
 have t2:∀ j,(s-1).testBit j=if j<k then (2 ^ k-1).testBit j else (2*m).testBit (j-k):=by
  intro j;rw [e2,NU _ zaa]
 refine ⟨hk,?_,?_,?_⟩
 ·rw [t1,Ld zaa,Oh,Ob];simp
 ·intro j hj;rw [t1,Lg hj]
 ·intro j;rw [On,t1,t2];by_cases hj:j<k
  ·rw [Lg hj,Lg hj];rfl
  ·rw [Ld hj,Ld hj];by_cases hjk:j=k
   ·subst hjk;rw [Oh,Ob,Ob];simp
   ·obtain ⟨i,hi⟩:∃ i,j-k=i+1:=⟨j-k-1,zaa⟩;rw [hi,O6,O6,show (2*m+1) / 2=m by omega,show 2*m / 2=m by omega];simp [hjk]):zp:=h
theorem zdx (h:zp:=by
 have hc:=hc.cell;rw [Pg.bZ,hys] at hc;gi_wp2;refine ⟨zad,.inl ⟨_,_,rfl,LU hK,?_⟩⟩;exact ⟨_,OQ rfl _ _ _,rfl,hB.trans (Nr (w:=w) (K7 _) W D _ _ zbi hK rfl rfl)⟩):zp:=h
theorem zd6 (h:zp:=by
 gi_wp2;refine MN (Mb rfl _ _ _) rfl ?_;exact ⟨⟨_,rfl⟩,.inr ⟨_,⟨_,hE.symm⟩,hJx3⟩⟩):zp:=h
theorem zeA (h:zp:=by
 rw [hsn];exact Px (W:=W.drew) _ (show Boxed W.drew _ _ _ from hc)):zp:=h
theorem zeE (h:zp:=by
 have:=Mq s.testBit (List.range 32);rw [NQ] at this;exact this):zp:=h
theorem zeY (h:zp:=by
 exact ⟨⟨_,rfl⟩,.inl ⟨pre,he.symm,hJs⟩⟩):zp:=h
theorem zfd (h:zp:=by
 rintro D c pre W _ _ h _;exact h.elim):zp:=h
theorem zfi (h:zp:=by
 go_wp2;go_ret;exact ⟨rfl,rfl⟩):zp:=h
theorem zfj (h:zp:=by
 rw [he,hf] at h1;simp at h1;omega):zp:=h
theorem zfk (h:zp:=by
 intro l x W K hK;gi_wp2;exact hK):zp:=h
theorem zfn (h:zp:=by
 go_ret;exact ⟨rfl,rfl⟩):zp:=h
theorem zaa (h:zp:=by omega):zp:=h
theorem zab (h:zp:=by kernel_rfl):zp:=h
theorem zac (h:zp:=by decide):zp:=h
theorem zad (h:zp:=by simp):zp:=h
theorem zae (h:zp:=by rfl):zp:=h
theorem zaf (h:zp:=by simp;omega):zp:=h
theorem zag (h:zp:=by unfold maxLen;omega):zp:=h
theorem zah (h:zp:=by go_num):zp:=h
theorem zai (h:zp:=by (try dsimp only at hSw);go_simp;(try with_reducible rfl)):zp:=h
theorem zam (h:zp:=by assumption):zp:=h
theorem zao (h:zp:=by simp [Value.oneCell']):zp:=h
theorem zap (h:zp:=by cases h):zp:=h
theorem zaD (h:zp:=by simpa using h):zp:=h
theorem zaO (h:zp:=by simp at hi;omega):zp:=h
theorem zaQ (h:zp:=by decide +kernel):zp:=h
theorem zbe (h:zp:=by rw [h.size];exact K7 _):zp:=h
theorem zbf (h:zp:=by rintro ⟨_,_,h⟩;exact h):zp:=h
theorem zbi (h:zp:=by simp at hD;omega):zp:=h
theorem zbm (h:zp:=by simpa using hi):zp:=h
theorem zbn (h:zp:=by simpa using hx):zp:=h
theorem zbQ (h:zp:=by simpa [isD] using hd.1):zp:=h
instance:Coe Int Value:=⟨.int .i64⟩
instance:CoeFun Unit fun _=>Nat->Array Value->World->(Ending->World->Prop)->Prop:=⟨fun _=>Calls Tryz.prog⟩
instance:Coe Nat Value:=⟨fun b=>.pointer (some ⟨b,0,none⟩)⟩
instance:Coe World Nat:=⟨fun w=>w.heap.size⟩
instance:Coe Nat Addr:=⟨fun b=>⟨b,0,none⟩⟩
instance:Coe ByteArray Value:=⟨.string⟩
instance:Coe Bool Value:=⟨.bool⟩
abbrev K6:=@Array.getElem?_eq_some_iff
abbrev K7:=@Nat.le_refl
abbrev K8:=@List.getElem?_eq_getElem
abbrev K9:=@Go.RowKit.Below.refl
abbrev La:=@Nat.le_trans
abbrev Lb:=@Go.cell_of_row
abbrev Lc:=@List.getElem?_eq_some_iff
abbrev Ld:=@if_neg
abbrev Le:=@Go.AllReady.cons
abbrev Lf:=@Go.heap_alloc_new
abbrev Lg:=@if_pos
abbrev Lh:=@Go.Calls.mono
abbrev Li:=@List.mem_singleton
abbrev Lj:=@List.mem_of_getElem?
abbrev Lk:=@Nat.zero_le
abbrev Ll:=@List.length_set
abbrev Lm:=@List.getD_eq_getElem?_getD
abbrev Ln:=@Go.World.cell?_of_block
abbrev Lp:=@Go.heap_setCell_same
abbrev Lq:=@Go.wp_region_held_drew
abbrev Ls:=@List.length_append
abbrev Lt:=@List.length_map
abbrev Lu:=@Nat.lt_of_lt_of_le
abbrev Lv:=@List.getElem?_map
abbrev Lx:=@Go.AllReady.nil
abbrev Ly:=@Go.wpAnyH_done
abbrev Lz:=@List.mem_append
abbrev LA:=@Go.callsIn_wide
abbrev LB:=@Go.Boxed.new
abbrev LC:=@Go.World.block_lt_of_cell?
abbrev LD:=@Option.map_eq_some_iff
abbrev LF:=@List.getElem?_set_self
abbrev LG:=@List.mem_iff_getElem?
abbrev LH:=@List.mem_or_eq_of_mem_set
abbrev LI:=@Go.RowKit.Below.heap_setCell
abbrev LJ:=@Bool.and_eq_true
abbrev LK:=@Go.OwnFrom.and
abbrev LL:=@Go.World.ownsRow.lt
abbrev LM:=@decide_eq_false
abbrev LO:=@List.getElem?_set_ne
abbrev LP:=@Go.AllReadyH.cons
abbrev LQ:=@List.mem_map
abbrev LR:=@List.getElem?_eq_none
abbrev LU:=@Go.run_takeDeferred
abbrev LW:=@List.mem_cons_self
abbrev LX:=@Go.World.cell?_alloc_lt
abbrev LY:=@Go.callsIn_of_wp_marks
abbrev LZ:=@Nat.lt_of_le_of_lt
abbrev L3:=@Go.Oper.semAt_some
abbrev L4:=@List.mem_cons_of_mem
abbrev L5:=@Go.World.putObj_heap_other
abbrev L6:=@Nat.or_lt_two_pow
abbrev L7:=@List.flatMap_append
abbrev L8:=@Go.ByteArray.toList_eq
abbrev L9:=@List.getElem_mem
abbrev Ma:=@decide_eq_true
abbrev Mb:=@Go.results_none
abbrev Mc:=@List.map_append
abbrev Md:=@Option.some.inj
abbrev Me:=@Go.KeepsOthers.setCell
abbrev Mf:=@Go.World.ownsRow_nil
abbrev Mg:=@List.getElem?_append_left
abbrev Mh:=@Go.RowKit.Below.heap_alloc
abbrev Mi:=@List.getElem?_take_of_lt
abbrev Mj:=@List.getElem?_append_right
abbrev Mk:=@Go.KeepsFrom.refl
abbrev Ml:=@Go.World.size_alloc
abbrev Mm:=@Go.boxed_own
abbrev Mn:=@List.length_take
abbrev Mp:=@List.getElem_set
abbrev Mq:=@List.length_filter_le
abbrev Mr:=@List.flatMap_cons
abbrev Ms:=@List.length_cons
abbrev Mt:=@List.take_length
abbrev Mu:=@Go.Own.from
abbrev Mv:=@Go.wpList_load_mid
abbrev Mw:=@Nat.add_assoc
abbrev Mx:=@List.mem_range
abbrev My:=@Go.wpAny_done
abbrev Mz:=@List.foldl_append
abbrev MA:=@Go.AllReadyH.nil
abbrev MB:=@Array.getElem?_toList
abbrev MC:=@Go.info_parts
abbrev MD:=@Go.wpStill_nil
abbrev ME:=@List.getElem_append_right
abbrev MF:=@Array.getElem?_setIfInBounds_ne
abbrev MG:=@Go.World.ownsRow.frozenAt
abbrev MH:=@List.getElem_append_left
abbrev MI:=@List.mem_filter
abbrev MJ:=@Nat.two_pow_pos
abbrev MK:=@Go.grownBy_putObj'
abbrev ML:=@List.take_add_one
abbrev MN:=@Go.bodyPost_ret
abbrev MO:=@beq_eq_false_iff_ne
abbrev MP:=@Array.getElem?_setIfInBounds_self_of_lt
abbrev MQ:=@List.getLast?_eq_getElem?
abbrev MR:=@Nat.pow_le_pow_right
abbrev MU:=@List.filter_append
abbrev MX:=@Go.wp_region_any
abbrev MY:=@Nat.and_le_left
abbrev MZ:=@Bool.and_false
abbrev M0:=@List.filter_cons_of_neg
abbrev M4:=@List.filter_cons_of_pos
abbrev M5:=@Go.World.frozen?_alloc_old
abbrev M6:=@List.append_assoc
abbrev M7:=@Go.ownFrom_below
abbrev M8:=@Go.World.putObj_heap_same
abbrev Na:=@List.mem_cons
abbrev Nc:=@List.length_pos_iff
abbrev Nf:=@List.length_singleton
abbrev Ng:=@Go.below_drewN
abbrev Nh:=@List.mem_of_getLast?
abbrev Ni:=@Go.RowKit.Below.block
abbrev Nj:=@List.pairwise_cons
abbrev Nk:=@Go.Proofs.enters_of
abbrev Nl:=@Nat.lt_or_ge
abbrev Nn:=@Go.World.ownsRow.alloc
abbrev No:=@List.eq_nil_of_length_eq_zero
abbrev Np:=@List.ext_getElem?
abbrev Nq:=@Nat.zero_add
abbrev Nr:=@Go.belowK_b
abbrev Ns:=@List.getElem_map
abbrev Nt:=@List.length_eq_zero_iff
abbrev Nu:=@List.getElem?_cons_succ
abbrev Nv:=@Bool.false_and
abbrev Nw:=@List.filter_eq_nil_iff
abbrev Ny:=@List.getElem?_set
abbrev Nz:=@of_decide_eq_true
abbrev NA:=@List.mem_of_mem_eraseP
abbrev NB:=@List.getElem_of_mem
abbrev NC:=@List.mem_map_of_mem
abbrev ND:=@List.getLast?_eq_none_iff
abbrev NF:=@Go.World.frozen?_setCell
abbrev NG:=@List.getElem?_toArray
abbrev NH:=@List.getElem_set_self
abbrev NI:=@Go.u32_or_nat
abbrev NJ:=@List.any_eq_true
abbrev NK:=@Go.World.cell?_setCell_same
abbrev NL:=@List.eq_of_mem_replicate
abbrev NM:=@List.map_cons
abbrev NN:=@Nat.mul_le_mul_right
abbrev NO:=@List.mem_of_mem_take
abbrev NP:=@List.filter_congr
abbrev NQ:=@List.length_range
abbrev NR:=@Int.toNat_natCast
abbrev NS:=@Go.ByteArray.size_append'
abbrev NT:=@Bool.true_or
abbrev NU:=@Nat.testBit_two_pow_mul_add
abbrev NV:=@Go.WideMaps.keyOf_string_mk
abbrev NW:=@Go.World.frozen?_of_block
abbrev NX:=@List.isEmpty_iff
abbrev NY:=@Go.IntKind.wrap_u64
abbrev NZ:=@Go.KeepsOthers.drew
abbrev N0:=@List.mem_flatMap
abbrev N1:=@Array.toList_setIfInBounds
abbrev N2:=@Go.Maps.has_put_other
abbrev N3:=@List.drop_eq_getElem_cons
abbrev N4:=@Go.setRow_other
abbrev N5:=@Array.all_eq_true_iff_forall_mem
abbrev N6:=@decide_eq_true_eq
abbrev N7:=@Nat.pow_lt_pow_right
abbrev N8:=@Nat.testBit_two_pow
abbrev N9:=@Go.wpIn_rangeFunc_ownH
abbrev Oa:=@List.all_eq_true
abbrev Ob:=@Nat.testBit_zero
abbrev Oc:=@Nat.and_le_right
abbrev Od:=@Nat.mul_one
abbrev Oe:=@Go.u32_and_nat
abbrev Of:=@Go.Lib.size_eq
abbrev Og:=@Go.leaves_cons
abbrev Oh:=@Nat.sub_self
abbrev Oi:=@List.set_set
abbrev Oj:=@List.length_take_of_le
abbrev Ok:=@List.filter_filter
abbrev Ol:=@Nat.testBit_shiftRight
abbrev Om:=@Nat.div_div_eq_div_mul
abbrev On:=@Nat.testBit_and
abbrev Oo:=@Nat.not_lt_zero
abbrev Oq:=@List.nodup_cons
abbrev Ot:=@List.any_append
abbrev Ou:=@Bool.true_and
abbrev Ov:=@List.set_append_right
abbrev Ow:=@Nat.lt_trichotomy
abbrev Ox:=@Go.Maps.string_keyed
abbrev Oy:=@List.mem_of_mem_drop
abbrev Oz:=@List.exists_cons_of_ne_nil
abbrev OA:=@Go.wp_loop_rounds
abbrev OB:=@Nat.le_add_right
abbrev OC:=@Go.Proofs.bits_and_u32_nat
abbrev OD:=@getElem!_pos
abbrev OE:=@List.length_drop
abbrev OF:=@List.map_set
abbrev OG:=@List.filter_cons
abbrev OH:=@Array.getElem?_eq_getElem
abbrev OI:=@Classical.byContradiction
abbrev OJ:=@Go.wpIn_rangeFunc_ownF
abbrev OK:=@Go.World.cell?_setCells_out
abbrev OL:=@Bool.or_false
abbrev OM:=@List.set_eq_of_length_le
abbrev ON:=@List.range_succ
abbrev OO:=@List.append_nil
abbrev OP:=@List.getElem?_take
abbrev OQ:=@Go.results_tmp
abbrev OR:=@Go.Maps.atKey_put_other
abbrev OS:=@Go.getD_set_ne
abbrev OT:=@List.findIdx?_eq_some_iff_getElem
abbrev OU:=@Go.World.setRow_alloc_new
abbrev OV:=@List.all_eq_false
abbrev OW:=@Nat.zero_mul
abbrev OX:=@Nat.testBit_lt_two_pow
abbrev OY:=@List.getElem?_inj
abbrev OZ:=@Go.Maps.atKey_put_same
abbrev O0:=@List.map_map
abbrev O1:=@List.flatMap_singleton
abbrev O2:=@Nat.le_succ_of_le
abbrev O3:=@List.any_eq_false
abbrev O4:=@List.mem_set
abbrev O5:=@Nat.zero_testBit
abbrev O6:=@Nat.testBit_succ
abbrev O7:=@List.all_cons
abbrev O8:=@Bool.false_or
abbrev O9:=@Go.callsIn_of_wp
abbrev Pa:=@List.sum_cons
abbrev Pb:=@Go.setRow_size
abbrev Pc:=@Go.Lib.bitLenAux_bounds
abbrev Pd:=@List.getElem?_of_mem
abbrev Pe:=@List.mem_append_left
abbrev Pf:=@Go.rounds_succ
abbrev Ph:=@Nat.div_le_div_right
abbrev Pj:=@Bool.eq_iff_iff
abbrev Pk:=@UInt8.toNat_inj
abbrev Pl:=@Nat.testBit_two_pow_sub_succ
abbrev Pm:=@List.prefix_append_right_inj
abbrev Pn:=@List.filter_map
abbrev Po:=@Nat.min_eq_left
abbrev Pp:=@Array.length_toList
abbrev Pq:=@List.length_reverse
abbrev Pr:=@Go.run_enterLoop_outer
abbrev Ps:=@Go.wpListIn_append_own
abbrev Pt:=@List.getElem?_range
abbrev Pu:=@Nat.pow_succ
abbrev Pv:=@Nat.succ_mul
abbrev Pw:=@Bool.or_true
abbrev Px:=@Go.Boxed.set
abbrev Py:=@Nat.add_sub_cancel
abbrev Pz:=@Go.u32_andNot_nat
abbrev PB:=@Go.World.ownsMap_made
abbrev PC:=@Array.getElem?_append_left
abbrev PD:=@List.prefix_append
abbrev PE:=@beq_iff_eq
abbrev PG:=@Go.ready_mono
abbrev PH:=@Go.wpAnyH_take
abbrev PI:=@Bool.not_eq_true'
abbrev PJ:=@Go.ownFrom_keepsFrom
abbrev PK:=@Go.KeepsOthers.alloc
abbrev PN:=@Go.run_endLoop
abbrev PO:=@Go.setRow_heap
abbrev PQ:=@Nat.lt_succ_of_lt
abbrev PR:=@Go.plainElem_int
abbrev PU:=@List.cons_append
abbrev PW:=@List.mem_reverse
abbrev PX:=@Go.grownBy_setCell'
abbrev PY:=@Go.wpIn_wide
abbrev PZ:=@Go.run_store
abbrev P0:=@Go.wpAny_take
abbrev P1:=@Nat.le_of_lt
abbrev P3:=@List.prefix_rfl
abbrev P4:=@List.sum_append
abbrev P5:=@List.nil_append
abbrev P6:=@Nat.testBit_or
abbrev P7:=@List.nodup_nil
abbrev P8:=@Nat.le_zero
abbrev P9:=@Go.Lib.mk_data
abbrev Qa:=@Go.wpOp_mono
abbrev Qb:=@Go.mem_ready
open Tryz
variable {g B t id base size n i k s b off cap:Nat} {w' W W':World} {p:Tmp} {c:Int} {op o:Oper} {rest:List Oper} {fn:Func} {ty e:TypeId} {R:Ending->World->Prop} {l:List ByteArray} {xs:List Value} {args:Array Value}
section
open Go.RowKit
variable {P:Program}
structure gJ (g:Nat) (w w':World):Prop where
 os:w'.os=w.os
 tape:w'.tape=w.tape
 output:w'.output=w.output
 size:w'.heap.size=w.heap.size
 block:∀ k,k≠g->w'.heap[k]?=w.heap[k]?
theorem gJ.below {a w:World} (h:gJ g w w') (hb:Below B a w) (hB:B<=g):Below B a w' :=
 hb.trans ⟨h.os,h.tape,h.output,zbe,fun k hk=>h.block k zaa⟩
theorem gJ.cell {w:World} (h:gJ g w w') {p:Addr} (hp:p.block≠g):w'.cell? p=w.cell? p:=Ln (w:=w) (h.block p.block hp)
theorem iY (w:World) (g:Nat) (cs:Array Value):gJ g w (w.setRow g cs):=⟨rfl,rfl,rfl,Pb w g cs,fun k hk=>N4 w g k cs hk⟩
theorem aa (w:World) (g o:Nat) (v:Value):gJ g w (w.setCell ⟨g,o,none⟩ v):=⟨rfl,rfl,rfl,by simp [World.setCell],fun k hk=>LI _ _ _ _ hk⟩
theorem gJ.II {w:World} (h:gJ g w.drew w'):gJ g w w':=⟨h.os,h.tape,h.output,h.size,h.block⟩
theorem j9 {w:World} {c:Array Value} {t:TypeId} {fz:Nat×Nat} (hg:w.heap[g]?=some (.cells c t fz)):w.rangeAt g 0 c.toList:=by
 intro j v hj;rw [Nq,Lb w g j c t fz hg];simpa using hj
theorem xp {cells:Array Value} (h:cells.toList.all (·.oneCell')=true):cells.all (·.oneCell')=true:=by
 rw [N5];intro v hv;exact Oa.1 h v (by simpa using hv)
theorem ie {a:Act} {w:World} {K:Act->World->Prop} {Q:Exit->Act->World->Prop} (ty:TypeId) (x y:Operand) (ho:op.op = .store ty x y)
  (g:Nat) (t:TypeId) (c cells:Array Value) (hx:a.eval x = .pointer (some ⟨g,0,none⟩)) (hy:a.eval y = .agg cells)
  (hg:w.heap[g]?=some (.cells c t (0,0))) (hi:(P.info? ty).map (·.size)=some cells.size) (hs:c.size=cells.size) (h1:cells.toList.all (·.oneCell')=true)
  (h:K (a.put op.dst undef) (w.setRow g cells)):op.wp P a w K Q:=by
 unfold Oper.wp execOp;simp only [ho,hx,hy,Instr.storeAt,Instr.sureAddr,Sem.run_bind,Sem.run_pure,Result.andThen_ok,run_storeVar_row w g t ty c cells hg hi hs (xp h1)];exact h
theorem eH {ops:Array Oper} {a:Act} {w:World} {Q:Exit->Act->World->Prop} (hgd:op.guard=none) (ty:TypeId) (x y:Operand) (ho:op.op = .store ty x y)
  (g:Nat) (t:TypeId) (c cells:Array Value) (hx:a.eval x = .pointer (some ⟨g,0,none⟩)) (hy:a.eval y = .agg cells)
  (hg:w.heap[g]?=some (.cells c t (0,0))) (hi:(P.info? ty).map (·.size)=some cells.size) (hs:c.size=cells.size) (h1:cells.toList.all (·.oneCell')=true)
  (h:wpList P ops Q rest (a.put op.dst undef) (w.setRow g cells)):wpList P ops Q (op::rest) a w :=
 wpList_plain hgd fun _ hK=>ie ty x y ho g t c cells hx hy hg hi hs h1 (hK _ _ h)
theorem aI {ops:Array Oper} {a:Act} {w:World} {Q:Exit->Act->World->Prop} (hgd:op.guard=none) (ty:TypeId) (x y:Operand) (ho:op.op = .store ty x y)
  (t:TypeId) (c cells:Array Value) (hx:a.eval x = .pointer (some ⟨w,0,none⟩)) (hy:a.eval y = .agg cells)
  (hi:(P.info? ty).map (·.size)=some cells.size) (hs:c.size=cells.size) (h1:cells.toList.all (·.oneCell')=true)
  (h:wpList P ops Q rest (a.put op.dst undef) (w.alloc (.cells cells t))):wpList P ops Q (op::rest) a (w.alloc (.cells c t)) :=
 eH hgd ty x y ho w t c cells hx hy (Lf w _) hi hs h1 (by rw [OU];exact h)
theorem gZ (h:fn.results=#[.cell p ty]) (tmps:Array Value) (P:Program) (w:World) :
  (results fn tmps).run P w=((asAddr (tmps.getD p undef)).run P w).andThen fun a w₁=>(loadVar ty a).run P w₁:=by
 simp only [results,h];simp [Sem.run_bind,Result.andThen]
theorem dJ {a:Act} {w:World} (h:fn.results=#[.cell p ty]) (g:Nat) (t:TypeId) (c:Array Value) (fz:Nat×Nat) (d:TypeDesc)
  (hp:a.tmps.getD p undef = .pointer (some ⟨g,0,none⟩)) (hg:w.heap[g]?=some (.cells c t fz)) (hu:P.underlying ty=some d) (hd:d.isRow=true) (hi:(P.info? ty).map (·.size)=some c.size)
  (hdf:a.defers=[]) (hR:R (.returned (.agg c)) w):bodyPost P fn R .ret a w:=by
 refine MN (v := .agg c) ?_ hdf hR;rw [gZ h,hp];have:=run_loadVar_mid (P:=P) w g 0 ty c.toList d (j9 hg) hu hd zbm;simpa [asAddr] using this
theorem ew {Q:Exit->Act->World->Prop} {a:Act} {w:World} {l:List Oper} (n:Nat) (hm:P.follows .mixedOrders=true) (hB:Region.lexTailB .any l.toArray n=true)
  (h:wpStill P l.toArray w.drew (fun a'=>wpList P l.toArray Q (l.drop n) a' w.drew) (l.take n) a):(Code.region id l.toArray true).wp P Q a w :=
 wp_region_still_tail n hm hB h
theorem aD {base':Nat} {v:Value} {w:World} (h:w.ownsRow base e size v n xs) (hb:base'<=base):w.ownsRow base' e size v n xs:=by
 refine ⟨h.1,?_⟩
 rcases h.2 with h' | ⟨k,cap,cur,hv,hb',r⟩
 ·exact .inl h'
 ·exact .inr ⟨k,cap,cur,hv,zaa,r⟩
theorem bM (w:World) (o p:Obj):((w.alloc o).alloc p).heap[w.heap.size+1]?=some p:=by
 have:=Lf (w.alloc o) p
 rwa [Ml] at this
theorem eF (w:World) (o p:Obj):((w.alloc o).alloc p).heap[w.heap.size]?=some o:=by
 rw [Mh _ _ _ zad];exact Lf w o
theorem dK {P:Program} {md:Region.Mode} {ops:Array Oper} {Q:Exit->Act->World->Prop} {S:World->Prop} {oi:Oper} {v:Value} {d:Option Tmp} {fuel:Nat} {listed:Array Bool} {a:Act} {w:World} (hi:ops[i]?=some oi) (hd:oi.dst=d)
  (hs:Region.noSelect ops=true) (hf:Region.free md ops listed i=true) (hr:(Region.ready md ops listed).contains i=true)
  (hQ:∀ c a w,Q (.panic c) (a.put d v) w->Q (.panic c) a w) (hy:YieldsIf P ops S oi v a) (hS:S w)
  (h:wpAnyH P md ops Q S fuel (listed.setIfInBounds i true) (a.put d v) w):wpAnyH P md ops Q S (fuel+1) listed a w:=by
 subst hd;exact PH hi hs hf hr hQ hy hS h
section
variable {P:Program} {md:Region.Mode} {ops:Array Oper} {Q:Exit->Act->World->Prop} {S:World->Prop} {oi:Oper} {fuel:Nat} {listed:Array Bool} {a:Act} {w:World}
theorem tH (i:Nat) (v:Value) (hi:ops[i]?=some oi) (hS:S w) (h:wpAnyH P md ops Q S fuel (listed.setIfInBounds i true) (a.put oi.dst v) w) (hs:Region.noSelect ops=true:=by kernel_rfl) (hf:Region.free md ops listed i=true:=by kernel_rfl) (hr:(Region.ready md ops listed).contains i=true:=by kernel_rfl) (hQ:∀ c a w,Q (.panic c) (a.put oi.dst v) w->Q (.panic c) a w:=by exact fun _ _ _ h=>h) (hy:YieldsIf P ops S oi v a:=by exact Or.inl ⟨zae,fun w hSw=>zai⟩):wpAnyH P md ops Q S (fuel+1) listed a w:=PH hi hs hf hr hQ hy hS h
theorem tG (i:Nat) (v:Value) (hi:ops[i]?=some oi) (hS:S w) (h:wpAnyH P md ops Q S fuel (listed.setIfInBounds i true) (a.put oi.dst v) w) (hs:Region.noSelect ops=true:=by kernel_rfl) (hf:Region.free md ops listed i=true:=by kernel_rfl) (hr:(Region.ready md ops listed).contains i=true:=by kernel_rfl) (hQ:∀ c a w,Q (.panic c) (a.put oi.dst v) w->Q (.panic c) a w:=by exact fun _ _ _ h=>h) (hy:YieldsIf P ops S oi v a:=by exact Or.inl ⟨zab,fun w hSw=>zai⟩):wpAnyH P md ops Q S (fuel+1) listed a w:=PH hi hs hf hr hQ hy hS h
theorem tD (d:Option Tmp) (i:Nat) (v:Value) (hi:ops[i]?=some oi) (hS:S w) (h:wpAnyH P md ops Q S fuel (listed.setIfInBounds i true) (a.put d v) w) (hd:oi.dst=d:=by rfl) (hs:Region.noSelect ops=true:=by kernel_rfl) (hf:Region.free md ops listed i=true:=by kernel_rfl) (hr:(Region.ready md ops listed).contains i=true:=by kernel_rfl) (hQ:∀ c a w,Q (.panic c) (a.put d v) w->Q (.panic c) a w:=by exact fun _ _ _ h=>h) (hy:YieldsIf P ops S oi v a:=by exact Or.inl ⟨zae,fun w hSw=>zai⟩):wpAnyH P md ops Q S (fuel+1) listed a w:=dK hi hd hs hf hr hQ hy hS h
theorem tU (d:Option Tmp) (i:Nat) (hi:ops[i]?=some oi) (hS:S w) (h:wpAnyH P md ops Q S fuel (listed.setIfInBounds i true) (a.put d undef) w) (hd:oi.dst=d:=by rfl) (hs:Region.noSelect ops=true:=by kernel_rfl) (hf:Region.free md ops listed i=true:=by kernel_rfl) (hr:(Region.ready md ops listed).contains i=true:=by kernel_rfl) (hQ:∀ c a w,Q (.panic c) (a.put d undef) w->Q (.panic c) a w:=by exact fun _ _ _ h=>h) (hy:YieldsIf P ops S oi undef a:=by exact Or.inr ⟨zab,rfl⟩):wpAnyH P md ops Q S (fuel+1) listed a w:=dK hi hd hs hf hr hQ hy hS h
theorem tA (i:Nat) (v:Value) (hi:ops[i]?=some oi) (h:wpAny P md ops Q fuel (listed.setIfInBounds i true) (a.put oi.dst v) w) (hs:Region.noSelect ops=true:=by kernel_rfl) (hf:Region.free md ops listed i=true:=by kernel_rfl) (hr:(Region.ready md ops listed).contains i=true:=by kernel_rfl) (hQ:∀ c a w,Q (.panic c) (a.put oi.dst v) w->Q (.panic c) a w:=by exact fun _ _ _ h=>h) (hy:Yields P ops oi v a:=by exact Or.inl ⟨zae,fun w=>by go_simp⟩):wpAny P md ops Q (fuel+1) listed a w:=P0 hi hs hf hr hQ hy h
theorem yH (rs:List Nat) (h:AllReadyH P md ops Q S fuel listed a w rs) (hr:Region.ready md ops listed=rs:=by kernel_rfl) (hne:rs≠[]:=by simp):wpAnyH P md ops Q S (fuel+1) listed a w:=wpAnyH_ready hr hne h
theorem zH (i:Nat) (ho:ops[i]?=some oi) (h:∀ K':Act->World->Prop,Shut (∀ a w,S w->(S w->wpAnyH P md ops Q S fuel (listed.setIfInBounds i true) a w)->K' a w)->if Region.wanted oi (yielded ops a.tmps)=true then Oper.wp P oi a w K' Q else K' (a.put oi.dst undef) w) (hr:Region.ready md ops listed=[i]:=by kernel_rfl):wpAnyH P md ops Q S (fuel+1) listed a w:=wpAnyH_ready hr zad (LP ho h MA)
theorem yA (rs:List Nat) (h:AllReady P md ops Q fuel listed a w rs) (hr:Region.ready md ops listed=rs:=by kernel_rfl) (hne:rs≠[]:=by simp):wpAny P md ops Q (fuel+1) listed a w:=wpAny_ready hr hne h
theorem zA (i:Nat) (ho:ops[i]?=some oi) (h:∀ K':Act->World->Prop,(∀ a w,wpAny P md ops Q fuel (listed.setIfInBounds i true) a w->K' a w)->if Region.wanted oi (yielded ops a.tmps)=true then Oper.wp P oi a w K' Q else K' (a.put oi.dst undef) w) (hr:Region.ready md ops listed=[i]:=by kernel_rfl):wpAny P md ops Q (fuel+1) listed a w:=wpAny_ready hr zad (Le ho h Lx)
end
end
section
open Go.RowKit
open Go.PlainAid (bt get_bt bt_nonneg bt_le bt_end)
namespace Ref
theorem BZ (a b:ByteArray):(a.toList == b.toList)=decide (a=b):=by
 rw [Pj];simp only [beq_iff_eq,decide_eq_true_eq,Lib.toList_data];constructor
 ·intro h;cases a;cases b
  simp only at h
  congr 1
  exact Array.ext' h
 ·intro h;rw [h]
def b8 (s t:ByteArray):Bool:=decide (t.size<=s.size)&&decide (s.extract 0 t.size=t)
def eY (a b:Int):Int:=if a=0\/b<a then b else a
def small (x:Int):Bool:=decide (97<=x)&&decide (x<=122)
def more (x:Int):Bool:=decide (x=95)||(decide (48<=x)&&decide (x<=57))
def iN (s:ByteArray) (i:Nat):Bool:=small (bt s i)||(decide (i≠0)&&more (bt s i))
def plain (s:ByteArray):Bool:=(List.range s.size).all (iN s)&&(decide (0<s.size)&&decide (s.size<=8))
theorem CF {p:Nat->Bool} (h:∀ j,j<n->p j=true):(List.range n).all p=true:=by
 rw [Oa];intro x hx;exact h x (Mx.1 hx)
theorem tf {p:Nat->Bool} (hk:k<n) (h:p k=false):(List.range n).all p=false:=by
 rw [OV];exact ⟨k,Mx.2 hk,by simp [h]⟩
theorem um (s:ByteArray):iN s 0=small (bt s 0):=by simp [iN]
theorem wy {s:ByteArray} (h:Hid (∀ j,j<k->iN s j=true)) (hk:iN s k=true):∀ j,j<k+1->iN s j=true:=by
 intro j hj;by_cases e:j=k
 ·rw [e];exact hk
 ·exact h.out j zaa
def dec (n:Nat):ByteArray:=⟨(Lib.decDigits n).toArray⟩
theorem tN (h:n<10):dec n=⟨#[UInt8.ofNat (48+n)]⟩:=by
 unfold dec;rw [Lib.decDigits_one h]
theorem Hj (h:¬ n<10):dec n=dec (n / 10)++⟨#[UInt8.ofNat (48+n % 10)]⟩:=by
 unfold dec
 conv=>lhs;rw [Lib.decDigits,dif_neg h]
 apply ByteArray.ext
 simp
theorem xD:∀ (k n:Nat),n<10 ^ (k+1)->(dec n).size<=k+1
 | 0,n,h=>by rw [tN zaD];exact K7 1
 | k+1,n,h=>by
  by_cases h9:n<10
  ·rw [tN h9];exact Nat.le_add_left 1 (k+1)
  ·rw [Hj h9,NS];have:=xD k (n / 10) (by rw [Pu] at h;omega);have e:(ByteArray.mk #[UInt8.ofNat (48+n % 10)]).size=1:=rfl;omega
theorem qJ (h:n<=18446744073709551615):(dec n).size<=20:=xD 19 n zaa
def jy (x:Int):Bool:=decide (48<=x)&&decide (x<=57)
def val (s:ByteArray):Nat->Nat
 | 0=>0
 | k+1=>val s k*10+((bt s k).toNat-48)
def m64 (n:Nat):Int:=IntKind.u64.wrap n
def Dx:ByteArray:=⟨#[49,56,52,52,54,55,52,52,48,55,51,55,48,57,53,53,49,54,49,53]⟩
def qD (s:ByteArray):Bool:=s.toList.isEmpty||(decide (1<s.size)&&decide (bt s 0=48))||decide (20<s.size)||(decide (s.size=20)&&(!Op.bytesLess s.toList Dx.toList && !(s.toList == Dx.toList)))
def cd (s:ByteArray):Bool:=(List.range s.size).all (fun i=>jy (bt s i)) && !qD s
theorem isEmpty_eq (s:ByteArray):s.toList.isEmpty=decide (s.size=0):=by
 rw [Lib.toList_data,Pj,NX,N6];exact ⟨fun h=>by show s.data.size=0;rw [<- Pp,h];rfl,fun h=>No (by rw [Pp];exact h)⟩
def dN (s:ByteArray):Int:=if cd s then m64 (val s s.size) else 0
end Ref
namespace Num
def isD (c:UInt8):Bool:=decide (48<=c.toNat)&&decide (c.toNat<=57)
def num (acc:Nat) (l:List UInt8):Nat:=l.foldl (fun a c=>a*10+(c.toNat-48)) acc
theorem k8 (acc:Nat) (c:UInt8) (r:List UInt8):num acc (c::r)=num (acc*10+(c.toNat-48)) r:=by unfold num;rw [List.foldl_cons]
theorem JZ (l:List UInt8):∀ acc:Nat,acc<=num acc l:=by
 induction l with
 | nil=>exact fun acc=>K7 _
 | cons c r ih =>
  intro acc;have h1:=ih (acc*10+(c.toNat-48));rw [k8];exact La (La (Nat.le_mul_of_pos_right acc zac) (OB _ _)) h1
theorem nV:∀ (l:List UInt8) (acc:Nat),l.all isD=true->acc<=18446744073709551615->Lib.parseUintM 18446744073709551615 acc l=if num acc l<=18446744073709551615 then .ok (num acc l) else .range
 | [],acc,_,h=>by rw [Lib.parseUintM,Lg (show num acc []<=_ from h)];rfl
 | c::r,acc,hd,h=>by
  rw [O7,LJ] at hd;have hc:48<=c.toNat/\c.toNat<=57:=zbQ;have hg:=JZ r (acc*10+(c.toNat-48));rw [Lib.parseUintM,Lg hc,k8];by_cases h1:1844674407370955162<=acc
  ·rw [Lg h1,Ld zaa]
  ·rw [Ld h1];by_cases h2:18446744073709551615<acc*10+(c.toNat-48)
   ·rw [Lg h2,Ld zaa]
   ·rw [Ld h2,nV r _ hd.2 zaa]
theorem yM {M u:Nat}:∀ (l:List UInt8) (acc:Nat),Lib.parseUintM M acc l = .ok u->l.all isD=true
 | [],_,_=>rfl
 | c::r,acc,h=>by
  rw [Lib.parseUintM] at h;by_cases hc:48<=c.toNat/\c.toNat<=57
  ·rw [Lg hc] at h;split at h
   ·cases h
   ·split at h
    ·cases h
    ·rw [O7,yM r _ h,Bool.and_true];simp [isD,hc]
  ·rw [Ld hc] at h;cases h
theorem wo:∀ (l:List UInt8) (acc:Nat),num acc l=acc*10 ^ l.length+num 0 l
 | [],acc=>by simp [num]
 | c::r,acc=>by
  rw [k8,k8,wo r (acc*10+(c.toNat-48)),wo r (0*10+(c.toNat-48)),Ms,Pu,Nat.add_mul,OW,Nq,Nat.mul_assoc,Nat.mul_comm 10 (10 ^ r.length),Mw]
theorem nR (c:UInt8) (r:List UInt8):num 0 (c::r)=(c.toNat-48)*10 ^ r.length+num 0 r:=by
 rw [k8,wo,OW,Nq]
theorem wt:∀ l:List UInt8,l.all isD=true->num 0 l<10 ^ l.length
 | [],_=>by decide
 | c::r,hd=>by
  rw [O7,LJ] at hd;have hc:48<=c.toNat/\c.toNat<=57:=zbQ;have ih:=wt r hd.2;rw [nR,Ms,Pu];have h9:(c.toNat-48)*10 ^ r.length<=9*10 ^ r.length:=NN _ zaa;omega
theorem Cj:∀ a b:List UInt8,a.all isD=true->b.all isD=true->a.length=b.length->(num 0 a<num 0 b↔Op.bytesLess a b=true)/\(num 0 a=num 0 b↔a=b)
 | [],[],_,_,_=>⟨by simp [num,Op.bytesLess],zad⟩
 | [],_::_,_,_,h=>by simp at h
 | _::_,[],_,_,h=>by simp at h
 | x::p,y::q,ha,hb,h=>by
  rw [O7,LJ] at ha hb;have hx:48<=x.toNat/\x.toNat<=57:=by simpa [isD] using ha.1
  have hy:48<=y.toNat/\y.toNat<=57:=by simpa [isD] using hb.1
  have hl:p.length=q.length:=zaD;have ih:=Cj p q ha.2 hb.2 hl;have lp:=wt p ha.2;have lq:=wt q hb.2;rw [nR,nR,<- hl];rw [<- hl] at lq
  rcases Ow x.toNat y.toNat with h1 | h1 | h1
  ·have hm:(x.toNat-48+1)*10 ^ p.length<=(y.toNat-48)*10 ^ p.length:=NN _ zaa;rw [Nat.add_mul,Nat.one_mul] at hm;have hlt:x<y:=UInt8.lt_iff_toNat_lt.2 h1;refine ⟨⟨fun _=>by simp [Op.bytesLess,hlt],fun _=>zaa⟩,⟨fun e=>zaa,fun e => ?_⟩⟩;cases e;omega
  ·have hxy:x=y:=Pk.1 h1;subst hxy;refine ⟨⟨fun e => ?_,fun e => ?_⟩,⟨fun e => ?_,fun e => ?_⟩⟩
   ·have:=ih.1.1 zaa;simp [Op.bytesLess,this]
   ·have:Op.bytesLess p q=true:=by simpa [Op.bytesLess] using e
    have:=ih.1.2 this;omega
   ·rw [ih.2.1 zaa]
   ·cases e;rfl
  ·have hm:(y.toNat-48+1)*10 ^ p.length<=(x.toNat-48)*10 ^ p.length:=NN _ zaa;rw [Nat.add_mul,Nat.one_mul] at hm;have hlt:¬ x<y:=fun h=>by have:=UInt8.lt_iff_toNat_lt.1 h;omega
   have hne:¬ x=y:=fun e=>by rw [e] at h1;omega
   refine ⟨⟨fun e=>zaa,fun e => ?_⟩,⟨fun e=>zaa,fun e => ?_⟩⟩
   ·simp [Op.bytesLess,hlt,hne] at e
   ·cases e;omega
theorem vB {s:ByteArray} (h:k<s.data.toList.length):bt s k=((s.data.toList[k]).toNat:Int):=by
 have h':k<s.size:=zaD;rw [<- get_bt s k h'];rfl
theorem tQ (s:ByteArray):(List.range s.size).all (fun i=>Ref.jy (bt s i))=s.data.toList.all isD:=by
 rw [Pj,Oa,Oa];have hsz:s.size=s.data.toList.length:=zad;constructor
 ·intro h c hc;obtain ⟨k,hk,rfl⟩:=List.mem_iff_getElem.1 hc;have:=h k (Mx.2 zaa);rw [vB hk] at this;simp only [Ref.jy,Bool.and_eq_true,decide_eq_true_eq] at this;simp only [isD,Bool.and_eq_true,decide_eq_true_eq];omega
 ·intro h i hi;rw [Mx] at hi;have hk:i<s.data.toList.length:=zaa;have:=h _ (L9 hk);rw [vB hk];simp only [isD,Bool.and_eq_true,decide_eq_true_eq] at this;simp only [Ref.jy,Bool.and_eq_true,decide_eq_true_eq];omega
theorem Gz (s:ByteArray):∀ k,k<=s.size->Ref.val s k=num 0 (s.data.toList.take k)
 | 0,_=>rfl
 | k+1,h=>by
  have hsz:s.size=s.data.toList.length:=zad;have hk:k<s.data.toList.length:=zaa;rw [Ref.val,Gz s k zaa,List.take_succ_eq_append_getElem hk,vB hk];unfold num;rw [Mz];simp
theorem Jb (s:ByteArray):Ref.val s s.size=num 0 s.data.toList:=by
 rw [Gz s s.size (K7 _)]
 congr 1
 exact List.take_of_length_le zad
theorem AW {l:List UInt8} (hd:l.all isD=true) (hl:1<l.length) (h0:∀ c,l.head?=some c->¬ c.toNat=48):10 ^ (l.length-1)<=num 0 l:=by
 cases l with
 | nil=>simp at hl
 | cons c r =>
  rw [O7,LJ] at hd;have hc:48<=c.toNat/\c.toNat<=57:=zbQ;have:=h0 c rfl;rw [nR,Ms,Py];have hm:1*10 ^ r.length<=(c.toNat-48)*10 ^ r.length:=NN _ zaa;omega
theorem FD:num 0 Ref.Dx.data.toList=18446744073709551615:=zac
theorem FI (s:ByteArray) (h:¬ (1<s.size/\bt s 0=48)):(∀ u,Lib.parseUintB 64 s.data.toList = .ok u->Ref.cd s=true/\Ref.dN s=(u:Nat))/\((∀ u,Lib.parseUintB 64 s.data.toList ≠ .ok u)->Ref.cd s=false):=by
 have hsz:s.size=s.data.toList.length:=zad;have hlist:s.toList=s.data.toList:=Lib.toList_data s;by_cases hd:s.data.toList.all isD=true
 ·by_cases he:s.size=0
  ·have hnil:s.data.toList=[]:=No zaa;refine ⟨fun u hu => ?_,fun _ => ?_⟩
   ·rw [Lib.parseUintB,Lg hnil] at hu;cases hu
   ·rw [Ref.cd,Ref.qD,Ref.isEmpty_eq,Ma he,NT,NT,NT,Bool.not_true,MZ]
  ·have hne:¬ s.data.toList=[]:=fun e=>he (by rw [hsz,e];rfl);have hp:Lib.parseUintB 64 s.data.toList=if num 0 s.data.toList<=18446744073709551615 then .ok (num 0 s.data.toList) else .range:=by
    rw [Lib.parseUintB,Ld hne];exact nV _ 0 hd zac
   have hbad:Ref.qD s=decide (18446744073709551615<num 0 s.data.toList):=by
    rw [Ref.qD,Ref.isEmpty_eq,LM he,O8];have h1:(decide (1<s.size)&&decide (bt s 0=48))=false:=by
     rw [Bool.and_eq_false_iff];by_cases h1:1<s.size
     ·exact .inr (LM fun h2=>h ⟨h1,h2⟩)
     ·exact .inl (LM h1)
    rw [h1,O8]
    rcases Ow s.size 20 with h2 | h2 | h2
    ·rw [LM (show ¬ 20<s.size by omega),LM (show ¬ s.size=20 by omega),Nv,O8]
     symm
     apply LM
     have:=wt _ hd;have hpw:(10:Nat) ^ s.data.toList.length<=10 ^ 19:=MR zac zaa;have:(10:Nat) ^ 19=10000000000000000000:=zac;omega
    ·rw [LM (show ¬ 20<s.size by omega),Ma h2,Ou,O8,hlist,Lib.toList_data Ref.Dx];have hx:=Cj s.data.toList Ref.Dx.data.toList hd zac (by rw [<- hsz,h2];rfl);rw [FD] at hx;rw [Pj,LJ,N6,PI,PI];constructor
     ·rintro ⟨ha,hb⟩;have h3:¬ num 0 s.data.toList<18446744073709551615:=fun e=>by rw [hx.1.1 e] at ha;cases ha
      have h4:¬ num 0 s.data.toList=18446744073709551615:=fun e=>by rw [hx.2.1 e] at hb;simp at hb
      omega
     ·intro hlt;constructor
      ·cases hb:Op.bytesLess s.data.toList Ref.Dx.data.toList with
       | false=>rfl
       | true=>have:=hx.1.2 hb;omega
      ·rw [MO];intro e;have:=hx.2.2 e;omega
    ·rw [Ma h2,NT]
     symm
     apply Ma
     have hh:∀ c,s.data.toList.head?=some c->¬ c.toNat=48:=by
      intro c hc e;refine h ⟨zaa,?_⟩;have hk:0<s.data.toList.length:=zaa;rw [vB hk];rw [List.head?_eq_getElem?,K8 hk] at hc;cases hc
      omega
     have h3:=AW hd zaa hh;have hpw:(10:Nat) ^ 20<=10 ^ (s.data.toList.length-1):=MR zac zaa;have:(10:Nat) ^ 20=100000000000000000000:=zac;omega
   have hok:Ref.cd s = !decide (18446744073709551615<num 0 s.data.toList):=by rw [Ref.cd,tQ,hd,hbad,Ou]
   refine ⟨fun u hu => ?_,fun hu => ?_⟩
   ·rw [hp] at hu;by_cases hle:num 0 s.data.toList<=18446744073709551615
    ·rw [Lg hle] at hu;cases hu
     have h1:Ref.cd s=true:=by rw [hok,LM zaa];rfl
     refine ⟨h1,?_⟩;rw [Ref.dN,h1,Lg rfl,Jb,Ref.m64,NY];omega
    ·rw [Ld hle] at hu;cases hu
   ·rw [hok];by_cases hle:num 0 s.data.toList<=18446744073709551615
    ·exact absurd (by rw [hp,Lg hle]) (hu (num 0 s.data.toList))
    ·rw [Ma zaa];rfl
 ·have hf:Ref.cd s=false:=by rw [Ref.cd,tQ,Bool.eq_false_iff.2 hd,Nv]
  refine ⟨fun u hu => ?_,fun _=>hf⟩;exfalso;rw [Lib.parseUintB] at hu;split at hu
  ·cases hu
  ·exact hd (yM _ _ hu)
end Num
end
section
open Go.RowKit Go.Proofs Go.Shelf
def yt:Go.Shelf.Ren:=⟨fun | 128=>284 | n=>n,fun | 51=>138 | 3=>3 | 4=>4 | 46=>389 | 5=>5 | 9=>9 | n=>n,fun | n=>n⟩
theorem Ik:Go.Proofs.Lays.n128 prog yt:={
 mixed:=zab
 f128:=Tryz.func284.trans (congrArg some zab)
 t3:=underlying3
 a3:=Tryz.isAgg3
 z3:=Tryz.sizeOf3
 v3:=Tryz.zeroValue3
 t4:=underlying4
 a4:=Tryz.isAgg4
 z4:=Tryz.sizeOf4
 v4:=Tryz.zeroValue4
 t5:=underlying5
 a5:=Tryz.isAgg5
 z5:=Tryz.sizeOf5
 v5:=Tryz.zeroValue5
 t9:=underlying9
 a9:=Tryz.isAgg9
 z9:=Tryz.sizeOf9
 v9:=Tryz.zeroValue9
 t46:=underlying389
 a46:=isAgg389
 z46:=sizeOf389
 v46:=zeroValue389
 t51:=underlying138
 a51:=Tryz.isAgg138
 z51:=Tryz.sizeOf138
 v51:=Tryz.zeroValue138 }
def vW:Go.Shelf.Ren:=⟨fun | 28=>188 | n=>n,fun | 27=>138 | 3=>3 | 4=>4 | 25=>389 | 53=>394 | 0=>0 | 5=>5 | n=>n,fun | 0=>1 | n=>n⟩
theorem Fq:Go.Proofs.Lays7.n28 prog vW:={
 mixed:=zab
 f28:=Tryz.func188.trans (congrArg some zab)
 t0:=underlying0
 a0:=Tryz.isAgg0
 z0:=Tryz.sizeOf0
 v0:=Tryz.zeroValue0
 i0:=zab
 t3:=underlying3
 a3:=Tryz.isAgg3
 z3:=Tryz.sizeOf3
 v3:=Tryz.zeroValue3
 i3:=zab
 t4:=underlying4
 a4:=Tryz.isAgg4
 z4:=Tryz.sizeOf4
 v4:=Tryz.zeroValue4
 i4:=zab
 t5:=underlying5
 a5:=Tryz.isAgg5
 z5:=Tryz.sizeOf5
 v5:=Tryz.zeroValue5
 i5:=zab
 t25:=underlying389
 a25:=isAgg389
 z25:=sizeOf389
 v25:=zeroValue389
 i25:=zab
 t27:=underlying138
 a27:=Tryz.isAgg138
 z27:=Tryz.sizeOf138
 v27:=Tryz.zeroValue138
 i27:=zab
 t53:=underlying394
 a53:=isAgg394
 z53:=sizeOf394
 v53:=zeroValue394
 i53:=zab
 g0:=by kernel_rfl }
theorem fK (hi:i<32):(2:Nat) ^ i<4294967296:=by
 have:=N7 (a:=2) zac hi;omega
theorem i6 (i:Nat):(2:Int) ^ i=((2 ^ i:Nat):Int):=(Int.natCast_pow 2 i).symm
theorem I9 (hi:i<32):(2:Int) ^ i % 4294967296=((2 ^ i:Nat):Int):=by
 rw [i6];exact Int.emod_eq_of_lt (Int.natCast_nonneg _) (by have:=fK hi;exact Int.ofNat_lt.2 this)
theorem gX (i:Nat) (w:World) (hi:i<32):() 151 #[(i:Int)] w fun e w'=>e = .returned (.int .u32 ((2 ^ i:Nat):Int))/\w'=w:=by
 have e:=I9 hi;go_enter func151,ntmps151;go_wp2;rw [e];exact zfn
theorem GU (s i:Nat):((s&&&2 ^ i:Nat) != 0)=s.testBit i:=by
 cases h:s.testBit i
 ·have:s&&&2 ^ i=0:=by
   apply Nat.eq_of_testBit_eq
   intro j;rw [On,N8,O5];by_cases hj:i=j
   ·subst hj;rw [h];rfl
   ·simp [hj]
  rw [this];rfl
 ·have h1:(s&&&2 ^ i).testBit i=true:=by rw [On,N8,h];simp
  rw [bne_iff_ne];intro h0;rw [h0,O5] at h1;exact absurd h1 zac
theorem Ex (hi:i<32) (hs:s<4294967296):(bits BinOp.and IntKind.u32 (s:Int) ((2:Int) ^ i) != 0)=s.testBit i:=by
 rw [i6,OC s _ hs (fK hi),<- GU];cases h:(s&&&2 ^ i)
 ·rfl
 ·simp;omega
theorem vN (s:Nat) (i:Nat) (w:World) (hi:i<32) (hs:s<4294967296):() 236 #[.int .u32 s,(i:Int)] w fun e w'=>e = .returned (.bool (s.testBit i))/\w'=w:=by
 have e:=Ex hi hs;go_enter func236,ntmps236;go_wp2_with (go_at_call 151;refine (gX i _ hi).mono ?_;rintro e w9 ⟨rfl,hw9⟩;rw [hw9];clear hw9 w9);exact zfn
theorem Fp (s:Nat) (w:World) (hs:s<4294967296):() 265 #[.int .u32 s] w fun e w'=>e = .returned (.int .i64 ((Lib.bitLen s:Int)-1))/\w'=w:=by
 have hb:=Lib.bitLen_le s 32 zac zaa;go_enter func265,ntmps265;go_wp2_with (go_at_call 284;refine (Any.bits_Len32 Ik s _ zaa zaa).mono ?_;rintro e w9 ⟨rfl,hw9⟩;rw [hw9];clear hw9 w9);exact zfn
theorem Kc (s:Nat) (w:World) (hs:s<4294967296) (hT:TabAt 1 Lib.deBruijn32tab w):() 188 #[.int .u32 s] w fun e w'=>e = .returned (.int .i64 (Lib.ctz 32 s))/\w'=w :=
 Any7.bits_TrailingZeros32 Fq s hs w fun _=>hT
namespace Pg
def els (s:Nat):List Nat:=(List.range 32).filter s.testBit
theorem nL:i∈els s↔i<32/\s.testBit i=true:=by
 unfold els;rw [MI,Mx]
theorem jT {p q:Nat->Bool} {k:Nat} (hp:p k=true) (hlt:∀ j,j<k->p j=false) (hq:∀ j,q j=(p j&&decide (j≠k))):∀ n,k<n->(List.range n).filter p=k::(List.range n).filter q
 | 0,h=>absurd h (Oo _)
 | n+1,h=>by
  rw [ON,MU,MU];by_cases hk:k<n
  ·rw [jT hp hlt hq n hk,PU];have:q n=p n:=by rw [hq];simp;omega
   simp only [List.filter_cons,List.filter_nil,this]
  ·have hkn:k=n:=zaa;subst hkn;have e1:(List.range k).filter p=[]:=by
    rw [Nw];intro a ha;rw [hlt a (Mx.1 ha)];decide
   have e2:(List.range k).filter q=[]:=by
    rw [Nw];intro a ha;rw [hq,hlt a (Mx.1 ha)];simp
   have e3:q k=false:=by rw [hq];simp
   rw [e1,e2];simp [hp,e3]
theorem pr {p q:Nat->Bool} {k:Nat} (hp:p k=true) (hgt:∀ j,k<j->p j=false) (hq:∀ j,q j=(p j&&decide (j≠k))):∀ n,k<n->(List.range n).filter p=(List.range n).filter q++[k]
 | 0,h=>absurd h (Oo _)
 | n+1,h=>by
  rw [ON,MU,MU];by_cases hk:k<n
  ·rw [pr hp hgt hq n hk];have e1:p n=false:=hgt n hk;have e2:q n=false:=by rw [hq,e1];rfl
   simp [e1,e2]
  ·have hkn:k=n:=zaa;subst hkn;have e3:q k=false:=by rw [hq];simp
   have e4:(List.range k).filter p=(List.range k).filter q:=by
    apply NP
    intro a ha;have:=Mx.1 ha;rw [hq];simp;omega
   rw [e4];simp [hp,e3]
theorem kL:els 0=[]:=zaQ
theorem Fz (h0:s≠0) (hs:s<4294967296):Lib.ctz 32 s<32/\s.testBit (Lib.ctz 32 s)=true/\(∀ j,j<Lib.ctz 32 s->s.testBit j=false)/\∀ j,(s&&&(s-1)).testBit j=(s.testBit j&&decide (j≠Lib.ctz 32 s)):=by
 obtain ⟨m,hm,hk⟩:=Lib.ctzFrom_spec 32 s (Nat.pos_of_ne_zero h0) hs;have he:Lib.ctz 32 s=Lib.ctzFrom 32 s:=by unfold Lib.ctz;rw [Ld h0]
 rw [he];generalize Lib.ctzFrom 32 s=k at hm hk;exact zcO
theorem C1 (h0:s≠0) (hs:s<4294967296):els s=Lib.ctz 32 s::els (s&&&(s-1)):=by
 obtain ⟨a,b,c,d⟩:=Fz h0 hs;exact jT b c d 32 a
theorem lI (h0:s≠0) (hs:s<4294967296):1<=Lib.bitLen s/\Lib.bitLen s-1<32/\s.testBit (Lib.bitLen s-1)=true/\(∀ j,Lib.bitLen s-1<j->s.testBit j=false)/\∀ j,(s&&&(4294967295-2 ^ (Lib.bitLen s-1))).testBit j=(s.testBit j&&decide (j≠Lib.bitLen s-1)):=by
 have hb:=Lib.bitLen_le s 32 zac zaa;obtain ⟨a,b,c⟩:=Pc 64 s zaa h0;have he:Lib.bitLenAux 64 s=Lib.bitLen s:=rfl;rw [he] at a b c;generalize Lib.bitLen s=L at *;obtain ⟨k,rfl⟩:∃ k,L=k+1:=⟨L-1,zaa⟩;simp only [Nat.add_sub_cancel] at b ⊢;have hgt:∀ j,k<j->s.testBit j=false:=fun j hj=>OX (Lu c (MR zac hj));refine ⟨zaa,zaa,Nat.testBit_of_two_pow_le_and_two_pow_add_one_gt b c,hgt,?_⟩;intro j;rw [On];by_cases hj:j<32
 ·have:(4294967295-2 ^ k).testBit j=decide (j≠k):=by
   have h2:=fK (i:=k) zaa;rw [show 4294967295-2 ^ k=2 ^ 32-(2 ^ k+1) by omega,Pl zaa,N8];simp [hj,eq_comm]
  rw [this]
 ·rw [hgt j zaa];rfl
theorem E6 (h0:s≠0) (hs:s<4294967296):els s=els (s&&&(4294967295-2 ^ (Lib.bitLen s-1)))++[Lib.bitLen s-1]:=by
 obtain ⟨_,a,b,c,d⟩:=lI h0 hs;exact pr b c d 32 a
end Pg
attribute [local go_sem] L3
namespace Pg
abbrev In (s:Nat):Type:={ i:Nat // i∈els s }
def KpT (W W':World):Prop:=TabAt 1 Lib.deBruijn32tab W->TabAt 1 Lib.deBruijn32tab W'
theorem uF (h0:t≠0):t&&&(t-1)<t:=LZ Oc zaa
theorem KL (h0:t≠0) (ht:t<4294967296):bits BinOp.and IntKind.u32 (t:Int) ((t:Int)-1)=((t&&&(t-1):Nat):Int):=by
 rw [show (t:Int)-1=((t-1:Nat):Int) by omega,OC t _ ht zaa]
end Pg
theorem xX (n:Nat) (hn:1<=n) (l Bs s:Nat) (hs:s<4294967296) (J Jx:List (Pg.In s)->World->Prop)
  (hY:∀ pre x W,J pre W->pre.length<32->YieldAt Fence.wide (n-1) prog l #[.int .i64 (x.1:Int)] W fun e W' =>
   (e = .returned true/\J (pre++[x]) W'/\Pg.KpT W W')\/(e = .returned false/\Jx (pre++[x]) W'))
  (W:World) (hBs:W.cell? Bs=some (.int .u32 s)) (hT:TabAt 1 Lib.deBruijn32tab W) (h0:J [] W) :
  CallsIn Fence.wide n prog 187 #[.func (.yield l) #[] #[],Bs] W fun e W'=>(∃ v,e = .returned v) /\
   ((∃ ys,ys.map (·.1)=Pg.els s/\J ys W')\/(∃ pre,pre.map (·.1) <+: Pg.els s/\Jx pre W')):=by
 refine O9 func187 rfl trivial ?_ rfl;simp only [ntmps187,List.size_toArray,List.length_cons,List.length_nil,Nat.reduceAdd,Nat.reduceSub,Array.replicate_succ,Array.replicate_zero,List.push_toArray,List.append_toArray,List.nil_append,List.cons_append];gi_wp2
 gi_loopw [3] (fun i wr=>∃ (t:Nat) (pre:List (Pg.In s)),i = .int .u32 t/\t<4294967296/\Pg.els s=pre.map (·.1)++Pg.els t/\J pre wr/\TabAt 1 Lib.deBruijn32tab wr)
  (fun i _=>(intOf i).toNat)
 case atStart=>exact ⟨s,[],rfl,hs,rfl,h0,hT⟩
 case round =>
  obtain ⟨t,pre,rfl,ht,he,hJs,hTr⟩:=hrel;by_cases hz:t=0
  ·subst hz;gi_wp2;go_end0;rw [Pg.kL,OO] at he;exact zeY
  ·have hf:=Pg.C1 hz ht;have hm:Lib.ctz 32 t∈Pg.els s:=by rw [he,hf];simp
   have hle:pre.length<32:=by
    have h1:(Pg.els s).length<=32:=by
     exact zeE
    exact zfj
   obtain ⟨fn,tmps,assign,body,hy,hR⟩:=hY pre ⟨Lib.ctz 32 t,hm⟩ wr hJs hle;dsimp only at hy;have ha:=Pg.KL hz ht;have hz':((t:Int) == 0)=false:=zaf;have hlt:=Pg.uF hz;have htz:=Kc t wr ht hTr;gi_wp2_with (refine ⟨trivial,?_⟩;gi_at_call 188;refine (LA.2 htz).mono ?_;clear htz;rintro e w9 ⟨rfl,hw9⟩;rw [hw9];clear hw9 w9);have hE:Pg.els s=(pre++[(⟨Lib.ctz 32 t,hm⟩:Pg.In s)]).map (·.1)++Pg.els (t&&&(t-1)):=he.trans (by rw [hf,Mc,M6];rfl);refine hR.mono ?_;rintro e W3 (⟨rfl,hJ3,hk3⟩ | ⟨rfl,hJx3⟩)
   ·gi_wp2
    go_roundw
    case rel=>exact ⟨t&&&(t-1),pre++[⟨Lib.ctz 32 t,hm⟩],rfl,zaa,hE,hJ3,hk3 hTr⟩
    case measure=>simp only [intOf];omega
   ·exact zd6
theorem eO (n:Nat) (hn:1<=n) (Bs s:Nat) (hs:s<4294967296) (w:World) (hBs:Bs<w.heap.size) (hg:1<w.heap.size) (hc:w.cell? Bs=some (.int .u32 s)) (hT:TabAt 1 Lib.deBruijn32tab w) :
  SeqStopsK Fence.wide n prog 187 #[Bs] (fun x:Pg.In s=>#[Value.int .i64 (x.1:Int)]) Pg.KpT (fun ys=>ys.map (·.1)=Pg.els s) (fun pre=>pre.map (·.1) <+: Pg.els s) 32 w:=fun l J Jx W hW _ _ hY h0=>by
 have hc':=(hW.cell (p:=⟨Bs,0,none⟩) hBs).trans hc;exact xX n hn l Bs s hs J Jx hY W hc' (fun j hj=>(hW.cell (p:=⟨1,j,none⟩) hg).trans (hT j hj)) h0
theorem du (s:Nat) (w:World):() 150 #[.int .u32 s] w fun e w'=>e = .returned (.func (.func 187) #[] #[w])/\w'=w.alloc (.cells #[.int .u32 s] 139):=by
 go_enter func150,ntmps150;exact zfi
theorem np (s:Nat) (w:World):() 237 #[.int .u32 s] w fun e w'=>e = .returned (.func (.func 264) #[] #[w])/\w'=w.alloc (.cells #[.int .u32 s] 139):=by
 go_enter func237,ntmps237;exact zfi
namespace Pg
theorem ts (h0:t≠0) (ht:t<4294967296):t&&&(4294967295-2 ^ (Lib.bitLen t-1))<t:=by
 obtain ⟨_,_,b,_,d⟩:=lI h0 ht;refine Nat.lt_of_le_of_ne MY fun he => ?_;have:=d (Lib.bitLen t-1);rw [he,b] at this;simp at this
theorem GS (h0:t≠0) (ht:t<4294967296):bits BinOp.andNot IntKind.u32 (t:Int) ((2:Int) ^ (Lib.bitLen t-1))=((t&&&(4294967295-2 ^ (Lib.bitLen t-1)):Nat):Int):=by
 obtain ⟨_,a,_⟩:=lI h0 ht;rw [i6,Pz t _ ht (fK a)]
end Pg
theorem vA (n:Nat) (hn:1<=n) (l Bs s:Nat) (hs:s<4294967296) (J Jx:List (Pg.In s)->World->Prop)
  (hY:∀ pre x W,J pre W->pre.length<32->YieldAt Fence.wide (n-1) prog l #[.int .i64 (x.1:Int)] W fun e W' =>
   (e = .returned true/\J (pre++[x]) W'/\True)\/(e = .returned false/\Jx (pre++[x]) W'))
  (W:World) (hBs:W.cell? Bs=some (.int .u32 s)) (h0:J [] W) :
  CallsIn Fence.wide n prog 264 #[.func (.yield l) #[] #[],Bs] W fun e W'=>(∃ v,e = .returned v) /\
   ((∃ ys,ys.map (·.1)=(Pg.els s).reverse/\J ys W')\/(∃ pre,pre.map (·.1) <+: (Pg.els s).reverse/\Jx pre W')):=by
 refine O9 func264 rfl trivial ?_ rfl;simp only [ntmps264,List.size_toArray,List.length_cons,List.length_nil,Nat.reduceAdd,Nat.reduceSub,Array.replicate_succ,Array.replicate_zero,List.push_toArray,List.append_toArray,List.nil_append,List.cons_append];gi_wp2
 gi_loopw [3] (fun i wr=>∃ (t:Nat) (pre:List (Pg.In s)),i = .int .u32 t/\t<4294967296/\(Pg.els s).reverse=pre.map (·.1)++(Pg.els t).reverse/\J pre wr)
  (fun i _=>(intOf i).toNat)
 case atStart=>exact ⟨s,[],rfl,hs,rfl,h0⟩
 case round =>
  obtain ⟨t,pre,rfl,ht,he,hJs⟩:=hrel;by_cases hz:t=0
  ·subst hz;gi_wp2;go_end0;rw [Pg.kL,List.reverse_nil,OO] at he;exact zeY
  ·obtain ⟨hb1,hb2,_⟩:=Pg.lI hz ht;have hf:=congrArg List.reverse (Pg.E6 hz ht);rw [List.reverse_append] at hf;have ha:=Pg.GS hz ht;have hlt:=Pg.ts hz ht;have hla:=fun w=>Fp t w ht;generalize Lib.bitLen t=L at *;obtain ⟨k,rfl⟩:∃ k,L=k+1:=⟨L-1,zaa⟩;have hk:((k+1:Nat):Int)-1=(k:Int):=zaa;simp only [hk] at hla;simp only [Nat.add_sub_cancel] at hf ha hlt hb2;have hm:k∈Pg.els s:=by rw [<- PW,he,hf];simp
   have hle:pre.length<32:=by
    have h1:(Pg.els s).reverse.length<=32:=by
     have:=Mq s.testBit (List.range 32);rw [NQ] at this;rw [Pq];exact this
    exact zfj
   have hE:(Pg.els s).reverse=(pre++[(⟨k,hm⟩:Pg.In s)]).map (·.1)++(Pg.els (t&&&(4294967295-2 ^ k))).reverse:=he.trans (by rw [hf,Mc,M6];rfl);obtain ⟨fn,tmps,assign,body,hy,hR⟩:=hY pre ⟨k,hm⟩ wr hJs hle;dsimp only at hy;have hz':((t:Int) == 0)=false:=zaf;generalize t&&&(4294967295-2 ^ k)=t' at *;gi_wp2_with (refine ⟨trivial,?_⟩;gi_at_call 265;refine (LA.2 (hla _)).mono ?_;rintro e w9 ⟨rfl,hw9⟩;rw [hw9];clear hw9 w9);refine hR.mono ?_;rintro e W3 (⟨rfl,hJ3,hk3⟩ | ⟨rfl,hJx3⟩)
   ·gi_wp2_with (first
     | (refine ⟨trivial,?_⟩;gi_at_call 265;refine (LA.2 (hla _)).mono ?_;rintro e w9 ⟨rfl,hw9⟩;rw [hw9];clear hw9 w9)
     | (refine ⟨trivial,?_⟩;gi_at_call 151;refine (LA.2 (gX k _ hb2)).mono ?_;rintro e w9 ⟨rfl,hw9⟩;rw [hw9];clear hw9 w9))
    go_roundw
    case rel=>exact ⟨t',pre++[⟨k,hm⟩],rfl,zaa,hE,hJ3⟩
    case measure=>simp only [intOf];omega
   ·exact zd6
theorem kI (n:Nat) (hn:1<=n) (Bs s:Nat) (hs:s<4294967296) (w:World) (hBs:Bs<w.heap.size) (hc:w.cell? Bs=some (.int .u32 s)) :
  SeqStopsK Fence.wide n prog 264 #[Bs] (fun x:Pg.In s=>#[Value.int .i64 (x.1:Int)]) (fun _ _=>True) (fun ys=>ys.map (·.1)=(Pg.els s).reverse) (fun pre=>pre.map (·.1) <+: (Pg.els s).reverse) 32 w:=fun l J Jx W hW _ _ hY h0 =>
 vA n hn l Bs s hs J Jx hY W ((hW.cell (p:=⟨Bs,0,none⟩) hBs).trans hc) h0
end
section
open Go.RowKit
open Go.PlainAid (bt get_bt bt_nonneg bt_le bt_end)
namespace Ref
theorem eR {w:World} {v:Value} (h:w.ownsRow base e size v n xs) (hn:0<n):∃ g cap,v = .slice (some ⟨g,0,none⟩) n cap:=by
 rcases h.2 with ⟨_,h0⟩ | ⟨g,cap,cur,hv,_⟩
 ·omega
 ·exact ⟨g,cap,hv⟩
def de (s:ByteArray) (c:Int):Nat->List ByteArray
 | 0=>[ByteArray.empty]
 | k+1=>if bt s k=c then de s c k++[ByteArray.empty] else (de s c k).set ((de s c k).length-1) ((de s c k)[(de s c k).length-1]?.getD ByteArray.empty++s.extract k (k+1))
def cut (s:ByteArray) (c:Int):List ByteArray:=de s c s.size
theorem lD (s:ByteArray) (c:Int):∀ k,0<(de s c k).length
 | 0=>by simp [de]
 | k+1=>by
  have:=lD s c k;unfold de;split <;> simp
  exact this
theorem nu (s:ByteArray) (c:Int):∀ k,(de s c k).length<=k+1
 | 0=>by simp [de]
 | k+1=>by
  have:=nu s c k;unfold de;split <;> simp <;> omega
theorem wb {y:ByteArray} (h:∀ x∈l,x.size<=B) (hy:y.size<=B):∀ x∈l.set i y,x.size<=B:=by
 intro x hx
 rcases LH hx with h' | h'
 ·exact h x h'
 ·rw [h'];exact hy
theorem o0 {s:ByteArray} (h:k<s.size):(s.extract k (k+1)).size=1:=zaf
theorem iS (s:ByteArray) (c:Int):∀ k,k<=s.size->∀ x∈de s c k,x.size<=k
 | 0,_=>by simp [de]
 | k+1,hk=>by
  have ih:=iS s c k zaa;unfold de;split
  ·intro x hx
   rcases Lz.1 hx with h | h
   ·have:=ih x h;omega
   ·rw [Li.1 h];exact Lk _
  ·refine wb (fun x hx=>by have:=ih x hx;omega) ?_;rw [NS,o0 zaa];have hp:=lD s c k;rw [K8 zaa];have:=ih _ (L9 (show (de s c k).length-1<(de s c k).length by omega));simp only [Option.getD_some];omega
theorem Hi {s:ByteArray} (h:bt s k=c):de s c (k+1)=de s c k++[ByteArray.empty]:=by rw [de,Lg h]
theorem JG {s:ByteArray} (h:¬ bt s k=c):de s c (k+1)=(de s c k).set ((de s c k).length-1) ((de s c k)[(de s c k).length-1]?.getD ByteArray.empty++s.extract k (k+1)):=by rw [de,Ld h]
def bI:ByteArray:=⟨#[97,102,116,101,114,46]⟩
def jz:ByteArray:=⟨#[100,111,110,101,46]⟩
def kT (s:ByteArray):Bool:=b8 s bI&&(cd (s.extract 6 s.size)&&(decide (0<dN (s.extract 6 s.size))&&decide (dN (s.extract 6 s.size)<=1500)))
def called (s:ByteArray):Bool:=plain s||kT s
def bW (s:ByteArray):Bool:=called s||(b8 s jz&&plain (s.extract 5 s.size))
theorem ph {s t:ByteArray} (h:b8 s t=true):t.size<=s.size:=by
 simp [b8] at h;exact h.1
end Ref
end
section
open Go.RowKit
namespace Ref
structure Act where
 how:ByteArray
 event:ByteArray
 id:ByteArray
 delay:Int
def Ep (a:Act):List Value:=[a.how,a.event,a.id,.int .u64 a.delay]
def cDo:List UInt8:=[100,111]
def eK:List UInt8:=[114,97,105,115,101]
def eE:List UInt8:=[99,97,110,99,101,108]
def kK:List UInt8:=[115,101,110,100]
def cAs:List UInt8:=[97,115]
def at' (l:List ByteArray) (i:Nat):ByteArray:=l.getD i ByteArray.empty
theorem nj (h:∀ x∈l,x.size<=B) (i:Nat):(at' l i).size<=B:=by
 unfold at';by_cases hi:i<l.length
 ·rw [Lm,K8 hi];exact h _ (L9 hi)
 ·rw [Lm,LR zaa];exact Lk _
def oC (l:List ByteArray):Option (Act×Nat) :=
 if l.length<3 then none
 else if (at' l 0).toList == cDo then
  if (at' l 1).toList == eK then if called (at' l 2) then some (⟨at' l 1,at' l 2,ByteArray.empty,0⟩,3) else none
  else if (at' l 1).toList == eE then if called (at' l 2) then some (⟨at' l 1,ByteArray.empty,at' l 2,0⟩,3) else none
  else if (at' l 1).toList == kK then
   if l.length<4 then none
   else if decide (4<l.length)&&((at' l 4).toList == cAs) then
    if l.length<6 then none
    else if called (at' l 2)&&cd (at' l 3)&&called (at' l 5) then some (⟨at' l 1,at' l 2,at' l 5,dN (at' l 3)⟩,6) else none
   else if called (at' l 2)&&cd (at' l 3) then some (⟨at' l 1,at' l 2,ByteArray.empty,dN (at' l 3)⟩,4) else none
  else none
 else none
def jn:Nat->List ByteArray->Option (List Act)
 | _,[]=>some []
 | 0,_::_=>none
 | f+1,x::r =>
  match oC (x::r) with
  | none=>none
  | some (a,n)=>match jn f ((x::r).drop n) with
   | none=>none
   | some r'=>some (a::r')
def ax (l:List ByteArray):Option (List Act):=jn l.length l
theorem kE {a:Act} (h:oC l=some (a,n)):3<=n/\n<=l.length:=by
 unfold oC at h
 repeat' split at h
 all_goals cases h
 all_goals omega
theorem qu:∀ (f g:Nat) (l:List ByteArray),l.length<=f->l.length<=g->jn f l=jn g l
 | f,g,[],_,_=>by cases f <;> cases g <;> rfl
 | 0,_,x::r,h,_=>by simp at h
 | _+1,0,x::r,_,h=>by simp at h
 | f+1,g+1,x::r,hf,hg=>by
  simp only [jn];cases h:oC (x::r) with
  | none=>rfl
  | some p =>
   obtain ⟨a,n⟩:=p;have hb:=kE h;simp only;rw [qu f g ((x::r).drop n) (by simp at hf ⊢;omega) (by simp at hg ⊢;omega)]
end Ref
def lenOf:Value->Nat | .slice _ n _=>n | _=>0
def qq (w:World) (b off:Nat) (l:List ByteArray):Prop:=∀ i,i<l.length->w.cell? ⟨b,off+i,none⟩=some (.string (Ref.at' l i))
theorem qq.drop {w:World} (h:qq w b off l) (n:Nat):qq w b (off+n) (l.drop n):=by
 intro i hi;have:=h (n+i) zaO;rw [Mw,this];simp [Ref.at',List.getElem?_drop]
theorem qq.below {w:World} (h:qq w b off l) (hb:Below B w w') (hB:b<B):qq w' b off l :=
 fun i hi=>by rw [hb.cell (p:=⟨b,off+i,none⟩) hB];exact h i hi
namespace Ref
structure Move where
 event:ByteArray
 to:ByteArray
 after:Bool
 delay:Int
 ax:List Act
 line:Int
structure State where
 word:ByteArray
 name:ByteArray
 deep:Bool
 up:Int
 depth:Int
 line:Int
 aj:List Move
 enter:List Act
 leave:List Act
 has0:Int
 has1:Int
structure jL where
 kind:Int
 word:ByteArray
 name:ByteArray
 deep:Bool
 sline:Int
 m:Move
 ax:List Act
theorem DB {w:World} {v:Value} (h:w.ownsRow base e size v n xs):∃ a k c,v = .slice a k c:=by
 rcases h.2 with ⟨h0,_⟩ | ⟨g,cap,cur,hv,_⟩
 ·exact ⟨_,_,_,h0⟩
 ·exact ⟨_,_,_,hv⟩
def cTo:List UInt8:=[116,111]
def ug (l:List ByteArray):Option (ByteArray×List Act) :=
 if decide (0<l.length)&&((at' l 0).toList == cTo) then
  if l.length<2 then none
  else if plain (at' l 1) then (ax (l.drop 2)).map (at' l 1,·) else none
 else (ax l).map (ByteArray.empty,·)
end Ref
end
section
open Go.RowKit
open Go.PlainAid (bt get_bt bt_nonneg bt_le bt_end)
namespace Ref
def j7:Move:=⟨ByteArray.empty,ByteArray.empty,false,0,[],0⟩
def gh:jL:=⟨0,ByteArray.empty,ByteArray.empty,false,0,j7,[]⟩
def cJ:List UInt8:=[115,116,97,116,101]
def aL:List UInt8:=[112,97,114,97,108,108,101,108]
def bV:List UInt8:=[102,105,110,97,108]
def bg:List UInt8:=[104,105,115,116,111,114,121]
def B1:List UInt8:=[100,101,101,112]
def cOn:List UInt8:=[111,110]
def iw:List UInt8:=[97,102,116,101,114]
def kJ:List UInt8:=[101,110,116,101,114]
def oH:List UInt8:=[108,101,97,118,101]
def is (l:List ByteArray) (i:Nat) (c:List UInt8):Bool:=(at' l i).toList == c
def tO (l:List ByteArray):Bool:=decide (l.length=3)&&is l 2 B1
def said (l:List ByteArray) (ln:Nat):jL :=
 if l.length<2 then gh
 else if is l 0 cJ||(is l 0 aL||is l 0 bV) then
  if decide (l.length=2)&&plain (at' l 1) then ⟨115,at' l 0,at' l 1,false,ln,j7,[]⟩ else gh
 else if is l 0 bg then
  if plain (at' l 1)&&(decide (l.length=2)||tO l) then ⟨115,at' l 0,at' l 1,tO l,ln,j7,[]⟩ else gh
 else if is l 0 cOn then
  match ug (l.drop 2) with
  | none=>gh
  | some (to,A)=>if bW (at' l 1) then ⟨109,ByteArray.empty,ByteArray.empty,false,0,⟨at' l 1,to,false,0,A,ln⟩,[]⟩ else gh
 else if is l 0 iw then
  match ug (l.drop 2) with
  | none=>gh
  | some (to,A)=>if cd (at' l 1) then ⟨109,ByteArray.empty,ByteArray.empty,false,0,⟨bI++dec ln,to,true,dN (at' l 1),A,ln⟩,[]⟩ else gh
 else if is l 0 kJ||is l 0 oH then
  match ax (l.drop 1) with
  | none=>gh
  | some A=>⟨bt (at' l 0) 0,ByteArray.empty,ByteArray.empty,false,0,j7,A⟩
 else gh
end Ref
end
section
open Go.RowKit
namespace Ref
structure Sl where
 a:Option Addr
 n:Nat
 c:Nat
def Sl.v (s:Sl):Value := .slice s.a s.n s.c
def Sl.nil:Sl:=⟨none,0,0⟩
structure SV where
 s:State
 vm:Sl
 ve:Sl
 vl:Sl
structure MV where
 m:Move
 v:Sl
def IG (x:MV):List Value:=[x.m.event,x.m.to,x.m.after,.int .u64 x.m.delay,.slice x.v.a x.v.n x.v.c,(x.m.line:Int)]
theorem ju {α:Type} {f:α->List Value} {n:Nat} (hf:∀ x,(f x).length=n):∀ (X:List α) (i j:Nat),j<n->∀ (h:i<X.length),(X.flatMap f)[i*n+j]?=(f X[i])[j]?
 | [],i,j,_,h=>by simp at h
 | x::X,0,j,hj,_=>by
  rw [Mr,OW,Nq,Mg (by rw [hf];exact hj)];rfl
 | x::X,i+1,j,hj,h=>by
  rw [Mr,Pv,Mj (by rw [hf];omega),hf];rw [show i*n+n+j-n=i*n+j from by omega,ju hf X i j hj zaD];rfl
theorem jw {α:Type} {f:α->List Value} {n:Nat} (hf:∀ x,(f x).length=n):∀ (X:List α),(X.flatMap f).length=X.length*n
 | []=>by simp
 | x::X=>by rw [Mr,Ls,hf,jw hf X,Ms,Pv,Nat.add_comm]
def Fj (n:ByteArray) (x:SV):Bool:=x.s.name.toList == n.toList
def place (X:List SV) (n:ByteArray):Int:=match X.findIdx? (Fj n) with | some i=>(i:Int) | none => -1
def we (a:Act):Bool:=b8 a.event bI||b8 a.id bI
def bX (A:List Act):Bool:=A.any we
end Ref
def Row {α:Type} (w:World) (e:TypeId) (size:Nat) (f:α->List Value) (v:Value) (X:List α):Prop:=w.ownsRow 0 e size v X.length (X.flatMap f)
theorem Row.cell {α:Type} {w:World} {f:α->List Value} {X:List α} (hf:∀ x,(f x).length=n) (h:Row w e n f (.slice g X.length cap) X) {j:Nat} (hj:j<n) (hi:i<X.length) :
  w.cell? ⟨g,i*n+j,none⟩=(f X[i])[j]?:=by
 have hlt:i*n+j<X.length*n:=by
  have:(i+1)*n<=X.length*n:=NN n hi;rw [Pv] at this;omega
 rw [h.cellAt (i*n+j) hlt,Ref.ju hf X i j hj hi]
end
section
open Go.RowKit Go.Proofs Go.Shelf
attribute [local go_sem] L3
namespace Pg
structure PS where
 kind:Int
 name:ByteArray
 done:ByteArray
 owner:Int
 parts:Nat
 inside:Nat
 around:Nat
 wth:Nat
 enter:Ref.Sl
 leave:Ref.Sl
structure PS.Sm (p:PS):Prop where
 hp:p.parts<4294967296
 hi:p.inside<4294967296
 ha:p.around<4294967296
 hw:p.wth<4294967296
structure sP (W:World) (b i:Nat) (p:PS):Prop where
 c0:W.cell? ⟨b,i*10,none⟩=some ↑(p.kind:Int)
 c1:W.cell? ⟨b,i*10+1,none⟩=some ↑p.name
 c2:W.cell? ⟨b,i*10+2,none⟩=some ↑p.done
 c3:W.cell? ⟨b,i*10+3,none⟩=some ↑(p.owner:Int)
 c4:W.cell? ⟨b,i*10+4,none⟩=some (.int .u32 p.parts)
 c5:W.cell? ⟨b,i*10+5,none⟩=some (.int .u32 p.inside)
 c6:W.cell? ⟨b,i*10+6,none⟩=some (.int .u32 p.around)
 c7:W.cell? ⟨b,i*10+7,none⟩=some (.int .u32 p.wth)
 c8:W.cell? ⟨b,i*10+8,none⟩=some p.enter.v
 c9:W.cell? ⟨b,i*10+9,none⟩=some p.leave.v
theorem sP.below {p:PS} (h:sP W b i p) (hB:Below B W W') (hb:b<B):sP W' b i p where
 c0:=(hB.cell (p:=⟨b,_,none⟩) hb).trans h.c0
 c1:=(hB.cell (p:=⟨b,_,none⟩) hb).trans h.c1
 c2:=(hB.cell (p:=⟨b,_,none⟩) hb).trans h.c2
 c3:=(hB.cell (p:=⟨b,_,none⟩) hb).trans h.c3
 c4:=(hB.cell (p:=⟨b,_,none⟩) hb).trans h.c4
 c5:=(hB.cell (p:=⟨b,_,none⟩) hb).trans h.c5
 c6:=(hB.cell (p:=⟨b,_,none⟩) hb).trans h.c6
 c7:=(hB.cell (p:=⟨b,_,none⟩) hb).trans h.c7
 c8:=(hB.cell (p:=⟨b,_,none⟩) hb).trans h.c8
 c9:=(hB.cell (p:=⟨b,_,none⟩) hb).trans h.c9
structure bU (W:World) (pb b cap:Nat) (ps:List PS):Prop where
 row:W.cell? pb=some (.slice b ps.length cap)
 at':∀ (i:Nat) (p:PS),ps[i]?=some p->sP W b i p
 sm:∀ (i:Nat) (p:PS),ps[i]?=some p->p.Sm
 len:ps.length<=24
theorem bU.below {pb:Nat} {ps:List PS} (h:bU W pb b cap ps) (hB:Below B W W') (hp:pb<B) (hb:b<B):bU W' pb b cap ps where
 row:=(hB.cell (p:=⟨pb,_,none⟩) hp).trans h.row
 at':=fun i p hi=>(h.at' i p hi).below hB hb
 sm:=h.sm
 len:=h.len
end Pg
theorem Fi (w:World) (pb b cap:Nat) (ps:List Pg.PS) (i j:Nat) (p:Pg.PS) (hP:Pg.bU w pb b cap ps) (hi:ps[i]?=some p) (hj:j<32):() 261 #[pb,(i:Int),(j:Int)] w fun e w'=>e = .returned (.bool (p.around.testBit j))/\w'=w:=by
 have hil:i<ps.length:=(Lc.1 hi).1;have hlen:=hP.len;have h0:=hP.row;have h6:=(hP.at' i p hi).c6;have hsm:=(hP.sm i p hi).ha;go_enter func261,ntmps261;go_wp2_with (go_at_call 236;refine (vN p.around j _ hj hsm).mono ?_;rintro e w9 ⟨rfl,hw9⟩;rw [hw9];clear hw9 w9);exact zfn
namespace Pg
def kx (ps:List PS) (i:Nat):Nat:=match ps[i]? with | some p=>p.around | none=>0
def vP (ps:List PS) (o:Nat) (l:List Nat):Nat:=l.foldl (fun o i=>o&&&(4294967295-kx ps i)) o
theorem Dg (ps:List PS) (o:Nat) (l:List Nat) (i:Nat):vP ps o (l++[i])=vP ps o l&&&(4294967295-kx ps i):=by
 unfold vP;rw [Mz];rfl
theorem vQ (ps:List PS):∀ (l:List Nat) (o:Nat),o<4294967296->vP ps o l<4294967296
 | [],_,h=>h
 | _::l,_,h=>vQ ps l _ (LZ MY h)
def aV {s:Nat}:List (In s)->List Nat
 | []=>[]
 | x::l=>x.1::aV l
theorem bZ {s:Nat}:∀ l:List (In s),aV l=l.map (·.1)
 | []=>rfl
 | x::l=>by rw [aV,bZ l];rfl
theorem dL (l:List (In s)) (x:In s):aV (l++[x])=aV l++[x.1]:=by
 rw [bZ,bZ,Mc];rfl
def inn (ps:List PS) (s:Nat):Nat:=vP ps s (els s)
theorem KpT.tr {A B C:World} (h:KpT A B) (k:KpT B C):KpT A C:=fun x=>k (h x)
theorem KpT.of {A B:World} (h:Below n A B) (hn:1<n):KpT A B:=fun x j hj=>(h.cell (p:=⟨1,j,none⟩) hn).trans (x j hj)
end Pg
theorem vR (n:Nat) (hn:3<=n) (w:World) (pb b cap:Nat) (ps:List Pg.PS) (s:Nat) (hs:s<4294967296) (hin:∀ i,i∈Pg.els s->i<ps.length) (hP:Pg.bU w pb b cap ps) (hpb:pb<w.heap.size) (hb:b<w.heap.size)
  (hg:1<w.heap.size) (hT:TabAt 1 Lib.deBruijn32tab w) :
  CallsIn Fence.wide n prog 159 #[pb,.int .u32 s] w fun e w'=>e = .returned (.int .u32 (Pg.inn ps s))/\Below w w w':=by
 have h1:1<=n:=zaa;refine LY func159 rfl trivial ?_ rfl;simp only [ntmps159,List.size_toArray,List.length_cons,List.length_nil,Nat.reduceAdd,Nat.reduceSub,Array.replicate_succ,Array.replicate_zero,List.push_toArray,List.append_toArray,List.nil_append,List.cons_append];gi_wp2_with (refine ⟨trivial,?_⟩;gi_at_call 150;refine (LA.2 (du s _)).mono ?_;rintro e w9 ⟨rfl,hw9⟩;rw [hw9];clear hw9 w9);have c0:=LB w 137 pb;have c1:=LB (w.alloc (.cells #[pb] 137)) 139 (.int .u32 s);have c2:=LB ((w.alloc (.cells #[pb] 137)).alloc (.cells #[.int .u32 s] 139)) 139 (.int .u32 s);simp only [World.size_alloc] at c1 c2;have hB0:Below w w (((w.alloc (.cells #[pb] 137)).alloc (.cells #[.int .u32 s] 139)).alloc (.cells #[.int .u32 s] 139)):=(((K9 _ w).alloc (K7 _) _).alloc zad _).alloc zaf _;refine OJ rfl h1 (gf:=187) (lb:=#[↑(w.heap.size+1+1)]) rfl trivial (Nk func187 zab rfl)
  (eO (n-1) zaa (w.heap.size+1+1) s hs _ zad zad c2.cell (Pg.KpT.of hB0 hg hT)) Pg.KpT.tr (fun W l o o' hl h hc hw=>Pg.KpT.of (Nr (n₀:=w.heap.size) (La (OB _ 3) zad) W l o o' hl h hc hw) hg) (K9 _ _) (fun _=>rfl)
  (fun pre W=>(Boxed W w 137 pb/\Boxed W (w.heap.size+1) 139 (.int .u32 (Pg.vP ps s (Pg.aV pre))))/\Below w w W)
  (fun _ _ _=>False)
  (LK (LK (Mu (Mm _ _ _) _) (Mu (Mm _ _ _) _)) (M7 (K7 _) zaf))
  (fun _ _ _ _ _ hs _ _=>hs)
  ⟨⟨(c0.alloc _).alloc _,c1.alloc _⟩,hB0⟩
  (fun x=>{ tmps:=#[.pointer (some ⟨pb,0,none⟩),.int .u32 s,.pointer (some ⟨w.heap.size,0,none⟩),undef,.int .u32 0,.pointer (some ⟨w.heap.size+1,0,none⟩),.int .i64 x.1,.int .u32 s,.int .u32 s,.func (.func 187) #[] #[.pointer (some ⟨w.heap.size+1+1,0,none⟩)],.int .i64 x.1,undef,undef,undef,undef,undef,undef,undef,undef,undef,undef,undef],defers:=[] }) ?assign ?body ?done ?stop
 case assign =>
  exact zfk
 case body =>
  rintro l pre x W ⟨⟨hp,hc⟩,hB⟩ _;have hpc:=hp.cell;have hcc:=hc.cell;have hcf:=hc.frozen;have hxl:=hin x.1 x.2;obtain ⟨p,hpx⟩:∃ p,ps[x.1]?=some p:=⟨_,K8 hxl⟩;have hP':=hP.below hB hpb hb;have h0:=hP'.row;have h6:=(hP'.at' x.1 p hpx).c6;have hlen:=hP.len;have hsm:=(hP.sm x.1 p hpx).ha;have hlt:=Pg.vQ ps (Pg.aV pre) s hs;have har:Pg.kx ps x.1=p.around:=by unfold Pg.kx;rw [hpx]
  have ha:=Pz _ _ hlt hsm;have hsn:=Pg.Dg ps s (Pg.aV pre) x.1;rw [har,<- Pg.dL] at hsn;have hB':∀ v,Below w w ((W.drew).setCell ⟨w.heap.size+1,0,none⟩ v):=fun v=>(hB.trans ((K9 _ W).drew)).setCell (p:=⟨w.heap.size+1,0,none⟩) zad _;have hko:∀ v,KeepsOthers W ((W.drew).setCell ⟨w.heap.size+1,0,none⟩ v):=fun v=>(NZ W).trans (Me _ _ _);have hkp:∀ v,Pg.KpT W ((W.drew).setCell ⟨w.heap.size+1,0,none⟩ v):=fun v=>Pg.KpT.of (((K9 w W).drew).setCell (p:=⟨w.heap.size+1,0,none⟩) zad _) hg;have hbp:∀ v,Boxed ((W.drew).setCell ⟨w.heap.size+1,0,none⟩ v) w.heap.size 137 pb:=fun v=>Boxed.kept (W:=W.drew) (show Boxed W.drew _ _ _ from hp) (PX _ _ _) zad;have hbc:Boxed ((W.drew).setCell ⟨w.heap.size+1,0,none⟩ (.int .u32 ((Pg.vP ps s (Pg.aV pre)&&&(4294967295-p.around):Nat):Int))) (w.heap.size+1) 139 (.int .u32 (Pg.vP ps s (Pg.aV (pre++[x])))):=by
   exact zeA
  clear hsn har hp hc hP hP';gi_wp2;gi_region
  all_goals gi_wp2
  all_goals exact ⟨hko _,hkp _,⟨hbp _,hbc⟩,hB' _⟩
 case done =>
  rintro D ys W hD hys ⟨⟨_,hc⟩,hB⟩ hK;exact zdx
 case stop =>
  exact zfd
end
section
open Go
theorem n8 {P:Program} {row:String} {w:World} {R:Value->World->Prop} (h:Rows P row args w R):RowsIn (Fence.wide.inRound k) n P row args w R :=
 fun c cs _=>let ⟨v,w',r,s⟩:=h c cs;⟨v,w',r,stepsIn_wide.2 s⟩
theorem aH {P:Program} {f:FuncId} {w:World} (h:Calls P f args w R):CallsIn (Fence.wide.inRound k) n P f args w R :=
 CallsIn.inRound k (LA.2 h)
theorem BF {k n:Nat} {P:Program} {o:Oper} {a:Act} {N N':Act->World->Prop} {Q:Exit->Act->World->Prop} (hN:∀ a w,N a w->N' a w):∀ r:Result Next,o.upon P a N Q r->o.uponIn (Fence.wide.inRound k) n P a N' Q r:=by
 have hd:∀ x:Prop,((Fence.wide.inRound k).depth.isSome=true->x):=fun x h=>zap;intro r h;cases r with
 | ok v w' =>
  cases v <;> first
   | exact hN _ _ h
   | exact ⟨hd _,n8 (Rows.mono h fun _ _ hx=>hN _ _ hx)⟩
   | exact h.elim
   | skip
  exact ⟨hd _,aH (Lh h fun e w'' hx=>by
   cases e
   ·exact hN _ _ hx
   ·exact hx
   ·exact hx)⟩
 | halt x w'=>cases x <;> first | exact h | exact h.elim
def j6 (ops:Array Oper):Bool:=ops.all fun o=>match o.op with | .defer _=>false | _=>true
theorem nQ {ops:Array Oper} (h:j6 ops=true) (ho:ops[i]?=some o) (c:_):o.op≠Op.defer c:=by
 intro he;have hm:o∈ops:=Array.mem_of_getElem? ho;have:=N5.1 h o hm;rw [he] at this;exact Bool.noConfusion this
theorem lQ {k n:Nat} {P:Program} {ops:Array Oper} {Q:Exit->Act->World->Prop} (hnd:j6 ops=true) (hL:¬ LetsOut Q):∀ (l:List Nat) (a:Act) (w:World),wpOps P ops Q l a w->wpOpsIn (Fence.wide.inRound k) n P ops Q l a w
 | [],_,_,h=>h
 | i::l,a,w,h=>by
  unfold wpOps at h;unfold wpOpsIn;cases ho:ops[i]? with
  | none =>
   simp only [ho] at h;exact lQ hnd hL l a w h
  | some o =>
   simp only [ho] at h;simp only;split
   ·rename_i hw;rw [Lg hw] at h
    rcases h with h | ⟨_,h⟩
    ·refine ⟨fun _ _=>trivial,?_⟩;rw [Oper.semAt_eq _ _ _ (fun c=>nQ hnd ho c)];exact BF (fun a w hx=>lQ hnd hL l a w hx) _ h
    ·exact absurd h hL
   ·rename_i hw;rw [Ld hw] at h;exact ⟨fun _ _=>trivial,lQ hnd hL l _ w h⟩
theorem kA {P:Program} {ops:Array Oper} {Q:Exit->Act->World->Prop} {a:Act} {w:World} (hm:P.follows .mixedOrders=true) (hnd:j6 ops=true) (hL:¬ LetsOut Q)
  (h:wpAny P .any ops Q ops.size (Array.replicate ops.size false) a { w with drawn:=w.drawn+1 }):(Code.region id ops true).wpIn (Fence.wide.inRound k) n P Q a w :=
 wpIn_region_draw fun t=>by
  simp only [Region.schedule,hm,Bool.true_or,if_true];exact lQ hnd hL _ _ _ (wpAny_sound ops.size t _ a _ h)
theorem cM {P:Program} {ops:Array Oper} {Q:Exit->Act->World->Prop} {S:World->Prop} {a:Act} {w:World} (hm:P.follows .mixedOrders=true) (hnd:j6 ops=true) (hL:¬ LetsOut Q) (hS:S w.drew)
  (h:S w.drew->wpAnyH P .any ops Q S ops.size (Array.replicate ops.size false) a w.drew):(Code.region id ops true).wpIn (Fence.wide.inRound k) n P Q a w :=
 kA hm hnd hL (wpAny_of_held _ _ _ _ (h hS))
theorem nY {P:Program} {md:Region.Mode} {ops:Array Oper} {Q:Exit->Act->World->Prop} {S:World->Prop} {fuel:Nat} {listed:Array Bool} {a:Act} {w:World} {rs:List Nat} (ho:ops[i]?=some o) (hw:Region.wanted o (yielded ops a.tmps)=true)
  (h:∀ K':Act->World->Prop,Shut (∀ a w,S w->(S w->wpAnyH P md ops Q S fuel (listed.setIfInBounds i true) a w)->K' a w)->Oper.wp P o a w K' Q)
  (hs:AllReadyH P md ops Q S fuel listed a w rs):AllReadyH P md ops Q S fuel listed a w (i::rs) :=
 LP ho (fun K hK=>by rw [Lg hw];exact h K hK) hs
end
section
open Go.RowKit Go.Proofs Go.Shelf
attribute [local go_sem] L3
namespace Pg
def gj (ps:List PS) (i:Nat):Nat:=match ps[i]? with | some p=>p.wth | none=>0
def kz (ps:List PS) (i:Nat):Nat:=match ps[i]? with | some p=>p.inside | none=>0
def rX (ps:List PS) (ow:Nat) (l:List Nat):Nat:=l.foldl (fun o i=>o|||(gj ps i|||(kx ps i&&&kz ps ow))) 0
theorem DQ (ps:List PS) (ow:Nat) (l:List Nat) (i:Nat):rX ps ow (l++[i])=rX ps ow l|||(gj ps i|||(kx ps i&&&kz ps ow)):=by
 unfold rX;rw [Mz];rfl
theorem pG {a:Nat} (ha:a<4294967296) (hb:b<4294967296):a|||b<4294967296:=L6 (n:=32) ha hb
theorem jN {a:Nat} (ha:a<4294967296):a&&&b<4294967296:=LZ MY ha
end Pg
theorem yR (n:Nat) (hn:3<=n) (w:World) (pb b cap:Nat) (ps:List Pg.PS) (ow:Nat) (po:Pg.PS) (hpo:ps[ow]?=some po) (s:Nat) (hs:s<4294967296) (h0s:s≠0) (hin:∀ i,i∈Pg.els s->i<ps.length) (hbd:∀ l,Pg.rX ps ow l<4294967296) (hP:Pg.bU w pb b cap ps) (hpb:pb<w.heap.size) (hb:b<w.heap.size)
  (hg:1<w.heap.size) (hT:TabAt 1 Lib.deBruijn32tab w) :
  CallsIn Fence.wide n prog 198 #[pb,(ow:Int),.int .u32 s] w fun e w'=>e = .returned (.int .u32 (Pg.rX ps ow (Pg.els s)))/\Below w w w':=by
 have h1:1<=n:=zaa;have hol:ow<ps.length:=(Lc.1 hpo).1;have hlen:=hP.len;have hrow:=hP.row;have hz:((s:Int) == 0)=false:=zaf;refine LY func198 rfl trivial ?_ rfl;simp only [ntmps198,List.size_toArray,List.length_cons,List.length_nil,Nat.reduceAdd,Nat.reduceSub,Array.replicate_succ,Array.replicate_zero,List.push_toArray,List.append_toArray,List.nil_append,List.cons_append];have hrow1:(w.alloc (.cells #[pb] 137)).cell? pb=some (.slice b ps.length cap):=(((K9 _ w).alloc (K7 _) _).cell (p:=⟨pb,0,none⟩) hpb).trans hrow;gi_wp2_with (refine ⟨trivial,?_⟩;gi_at_call 150;refine (LA.2 (du s _)).mono ?_;rintro e w9 ⟨rfl,hw9⟩;rw [hw9];clear hw9 w9);have c0:=LB w 137 pb;have c1:=LB (w.alloc (.cells #[pb] 137)) 307 (.pointer (some ⟨b,ow*10,none⟩));have c2:=LB ((w.alloc (.cells #[pb] 137)).alloc (.cells #[.pointer (some ⟨b,ow*10,none⟩)] 307)) 139 (.int .u32 0);have c3:=LB (((w.alloc (.cells #[pb] 137)).alloc (.cells #[.pointer (some ⟨b,ow*10,none⟩)] 307)).alloc (.cells #[.int .u32 0] 139)) 139 (.int .u32 s);simp only [World.size_alloc] at c1 c2 c3;have hB0:Below w w ((((w.alloc (.cells #[pb] 137)).alloc (.cells #[.pointer (some ⟨b,ow*10,none⟩)] 307)).alloc (.cells #[.int .u32 0] 139)).alloc (.cells #[.int .u32 s] 139)):=((((K9 _ w).alloc (K7 _) _).alloc zad _).alloc zaf _).alloc zaf _;refine OJ rfl h1 (gf:=187) (lb:=#[↑(w.heap.size+1+1+1)]) rfl trivial (Nk func187 zab rfl)
  (eO (n-1) zaa (w.heap.size+1+1+1) s hs _ zad zad c3.cell (Pg.KpT.of hB0 hg hT)) Pg.KpT.tr (fun W l o o' hl h hc hw=>Pg.KpT.of (Nr (n₀:=w.heap.size) (La (OB _ 4) zad) W l o o' hl h hc hw) hg) (K9 _ _) (fun _=>rfl)
  (fun pre W=>(Boxed W w 137 pb/\Boxed W (w.heap.size+1) 307 (.pointer (some ⟨b,ow*10,none⟩))/\Boxed W (w.heap.size+1+1) 139 (.int .u32 (Pg.rX ps ow (Pg.aV pre))))/\Below w w W)
  (fun _ _ _=>False)
  (LK (LK (Mu (Mm _ _ _) _) (LK (Mu (Mm _ _ _) _) (Mu (Mm _ _ _) _))) (M7 (K7 _) zaf))
  (fun _ _ _ _ _ hs _ _=>hs)
  ⟨⟨((c0.alloc _).alloc _).alloc _,(c1.alloc _).alloc _,c2.alloc _⟩,hB0⟩
  (fun x=>{ tmps:=#[.pointer (some ⟨pb,0,none⟩),.int .i64 ow,.int .u32 s,.pointer (some ⟨w.heap.size,0,none⟩),undef,undef,.int .u32 0,.pointer (some ⟨w.heap.size+1,0,none⟩),.pointer (some ⟨w.heap.size+1+1,0,none⟩),.int .i64 x.1,.pointer (some ⟨pb,0,none⟩),.pointer (some ⟨pb,0,none⟩),.pointer (some ⟨pb,0,none⟩),.slice (some ⟨b,0,none⟩) ps.length cap,.int .i64 ow,.pointer (some ⟨b,ow*10,none⟩),.int .u32 s,.bool false,undef,undef,undef,undef,undef,undef,undef,.int .u32 s,.func (.func 187) #[] #[.pointer (some ⟨w.heap.size+1+1+1,0,none⟩)],.int .i64 x.1,undef,undef,undef,undef,undef,undef,undef,undef,undef,undef,undef,undef,undef,undef,undef,undef,undef,undef,undef,undef,undef,undef,undef,undef,undef],defers:=[] }) ?assign ?body ?done ?stop
 case assign =>
  exact zfk
 case body =>
  rintro l pre x W ⟨⟨hp,ho,hc⟩,hB⟩ _;have hxl:=hin x.1 x.2;obtain ⟨p,hpx⟩:∃ p,ps[x.1]?=some p:=⟨_,K8 hxl⟩;have hP':=hP.below hB hpb hb;have sa:=(hP.sm x.1 p hpx).ha;have sw:=(hP.sm x.1 p hpx).hw;have si:=(hP.sm ow po hpo).hi;have hlt:=hbd (Pg.aV pre);have har:Pg.kx ps x.1=p.around:=by unfold Pg.kx;rw [hpx]
  have hwt:Pg.gj ps x.1=p.wth:=by unfold Pg.gj;rw [hpx]
  have hid:Pg.kz ps ow=po.inside:=by unfold Pg.kz;rw [hpo]
  have ha1:=Oe _ _ sa si;have ha2:=NI _ _ sw (Pg.jN (b:=po.inside) sa);have ha3:=NI _ _ hlt (Pg.pG sw (Pg.jN (b:=po.inside) sa));have hsn:=Pg.DQ ps ow (Pg.aV pre) x.1;rw [har,hwt,hid,<- Pg.dL] at hsn;have hB':∀ v,Below w w ((W.drew).setCell ⟨w.heap.size+1+1,0,none⟩ v):=fun v=>(hB.trans ((K9 _ W).drew)).setCell (p:=⟨w.heap.size+1+1,0,none⟩) zaf _;have hko:∀ v,KeepsOthers W ((W.drew).setCell ⟨w.heap.size+1+1,0,none⟩ v):=fun v=>(NZ W).trans (Me _ _ _);have hkp:∀ v,Pg.KpT W ((W.drew).setCell ⟨w.heap.size+1+1,0,none⟩ v):=fun v=>Pg.KpT.of (((K9 w W).drew).setCell (p:=⟨w.heap.size+1+1,0,none⟩) zaf _) hg;have hbp:∀ v,Boxed ((W.drew).setCell ⟨w.heap.size+1+1,0,none⟩ v) w.heap.size 137 pb:=fun v=>Boxed.kept (W:=W.drew) (show Boxed W.drew _ _ _ from hp) (PX _ _ _) zaf;have hbo:∀ v,Boxed ((W.drew).setCell ⟨w.heap.size+1+1,0,none⟩ v) (w.heap.size+1) 307 (.pointer (some ⟨b,ow*10,none⟩)):=fun v=>Boxed.kept (W:=W.drew) (show Boxed W.drew _ _ _ from ho) (PX _ _ _) zad;have hbc:Boxed ((W.drew).setCell ⟨w.heap.size+1+1,0,none⟩ (.int .u32 ((Pg.rX ps ow (Pg.aV pre)|||(p.wth|||(p.around&&&po.inside)):Nat):Int))) (w.heap.size+1+1) 139 (.int .u32 (Pg.rX ps ow (Pg.aV (pre++[x])))):=by
   exact zeA
  have hcc:=hc.cell;have hcf:=hc.frozen;gi_wp2;refine cM (S:=(fun V=>V.cell? w=some ↑pb/\V.cell? ⟨w.heap.size+1,0,none⟩=some (.pointer (some ⟨b,ow*10,none⟩))/\V.cell? pb=some (.slice b ps.length cap)/\V.cell? ⟨b,x.1*10+7,none⟩=some (.int .u32 p.wth)/\V.cell? ⟨b,x.1*10+6,none⟩=some (.int .u32 p.around)/\V.cell? ⟨b,ow*10+5,none⟩=some (.int .u32 po.inside))) zab zab zbf ⟨hp.cell,ho.cell,hP'.row,(hP'.at' x.1 p hpx).c7,(hP'.at' x.1 p hpx).c6,(hP'.at' ow po hpo).c5⟩ (fun u0 => ?_);clear hsn har hwt hid hp hc ho hP hP' hrow hrow1;refine tH 1 pb rfl u0 ?_;refine tH 2 pb rfl u0 ?_;refine tH 3 pb rfl u0 ?_;refine tH 4 (.slice b ps.length cap) rfl u0 ?_;refine tH 5 (.int .i64 x.1) rfl u0 ?_;refine tH 6 (.pointer (some ⟨b,x.1*10,none⟩)) rfl u0 ?_;refine tH 7 (.pointer (some ⟨b,x.1*10+7,none⟩)) rfl u0 ?_;refine tH 8 (.int .u32 p.wth) rfl u0 ?_;refine tH 9 pb rfl u0 ?_;refine tH 10 pb rfl u0 ?_;refine tH 11 pb rfl u0 ?_;refine tH 12 (.slice b ps.length cap) rfl u0 ?_;refine tH 13 (.int .i64 x.1) rfl u0 ?_;refine tH 14 (.pointer (some ⟨b,x.1*10,none⟩)) rfl u0 ?_;refine tH 15 (.pointer (some ⟨b,x.1*10+6,none⟩)) rfl u0 ?_;refine tH 16 (.int .u32 p.around) rfl u0 ?_;refine tH 17 (.pointer (some ⟨b,ow*10,none⟩)) rfl u0 ?_;refine tH 18 (.pointer (some ⟨b,ow*10,none⟩)) rfl u0 ?_;refine tH 19 (.pointer (some ⟨b,ow*10+5,none⟩)) rfl u0 ?_;refine tH 20 (.int .u32 po.inside) rfl u0 ?_;refine tH 21 (.int .u32 ((p.around&&&po.inside:Nat):Int)) rfl u0 ?_;refine tH 22 (.int .u32 ((p.wth|||(p.around&&&po.inside):Nat):Int)) rfl u0 ?_;refine zH 0 rfl fun K hK => ?_;go_simp;refine hK.out _ _ u0 (fun u0 => ?_);clear hK K;refine tH 23 (.int .u32 ((Pg.rX ps ow (Pg.aV pre)|||(p.wth|||(p.around&&&po.inside)):Nat):Int)) rfl u0 ?_;refine zH 24 rfl fun K hK => ?_;go_simp;refine hK.out _ _ (by
   have e:∀ (a:Addr),a.block≠w.heap.size+1+1->∀ v,(W.setCell ⟨w.heap.size+1+1,0,none⟩ v).drew.cell? a=W.drew.cell? a:=fun a ha v=>World.cell?_setCell_far W _ _ _ (fun h=>ha h.symm)
   (try dsimp only at u0);(try dsimp only)
   rw [e _ zaf,e _ zad,e _ zaf,e _ zaf,e _ zaf,e _ zaf];exact u0) (fun _ => ?_)
  clear hK K;refine Ly zab ?_ _;gi_wp2;exact ⟨hko _,hkp _,⟨hbp _,hbo _,hbc⟩,hB' _⟩
 case done =>
  rintro D ys W hD hys ⟨⟨_,_,hc⟩,hB⟩ hK;exact zdx
 case stop =>
  exact zfd
namespace Pg
theorem qj {ps:List PS} (h:∀ (i:Nat) (p:PS),ps[i]?=some p->p.Sm) (i:Nat):gj ps i<4294967296:=by
 unfold gj;split
 ·rename_i p hp;exact (h i p hp).hw
 ·omega
theorem G8 {ps:List PS} (h:∀ (i:Nat) (p:PS),ps[i]?=some p->p.Sm) (i:Nat):kx ps i<4294967296:=by
 unfold kx;split
 ·rename_i p hp;exact (h i p hp).ha
 ·omega
theorem Cm {ps:List PS} (h:∀ (i:Nat) (p:PS),ps[i]?=some p->p.Sm) (ow:Nat):∀ (l:List Nat) (o:Nat),o<4294967296->l.foldl (fun o i=>o|||(gj ps i|||(kx ps i&&&kz ps ow))) o<4294967296
 | [],_,ho=>ho
 | i::l,_,ho=>Cm h ow l _ (pG ho (pG (qj h i) (jN (G8 h i))))
theorem Cl {ps:List PS} (h:∀ (i:Nat) (p:PS),ps[i]?=some p->p.Sm) (ow:Nat) (l:List Nat):rX ps ow l<4294967296:=Cm h ow l 0 zaa
def eu (ps:List PS) (ow s:Nat):Nat:=if s=0 then gj ps ow&&&(4294967295-2 ^ ow) else rX ps ow (els s)
theorem DR {ps:List PS} (h:∀ (i:Nat) (p:PS),ps[i]?=some p->p.Sm) (ow s:Nat):eu ps ow s<4294967296:=by
 unfold eu;split
 ·exact jN (qj h ow)
 ·exact Cl h ow _
end Pg
theorem yS (w:World) (pb b cap:Nat) (ps:List Pg.PS) (ow:Nat) (po:Pg.PS) (hpo:ps[ow]?=some po) (hP:Pg.bU w pb b cap ps) (hpb:pb<w.heap.size) (hb:b<w.heap.size) :
  () 198 #[pb,(ow:Int),.int .u32 0] w fun e w'=>e = .returned (.int .u32 (Pg.gj ps ow&&&(4294967295-2 ^ ow):Nat))/\Below w w w':=by
 have hol:ow<ps.length:=(Lc.1 hpo).1;have hlen:=hP.len;have hB1:Below w w (w.alloc (.cells #[pb] 137)):=(K9 _ w).alloc (K7 _) _;have hB2:Below w w ((w.alloc (.cells #[pb] 137)).alloc (.cells #[.pointer (some ⟨b,ow*10,none⟩)] 307)):=hB1.alloc zad _;have hrow1:=(hP.below hB1 hpb hb).row;have h7:=((hP.below hB2 hpb hb).at' ow po hpo).c7;have hc1:=(LB (w.alloc (.cells #[pb] 137)) 307 (.pointer (some ⟨b,ow*10,none⟩))).cell;simp only [World.size_alloc] at hc1;have hwt:Pg.gj ps ow=po.wth:=by unfold Pg.gj;rw [hpo]
 have hsm:=(hP.sm ow po hpo).hw;have ha:bits BinOp.andNot IntKind.u32 (po.wth:Int) ((2:Int) ^ ow)=((po.wth&&&(4294967295-2 ^ ow):Nat):Int):=by
  rw [i6,Pz _ _ hsm (fK zaa)]
 rw [hwt];generalize hr:po.wth&&&(4294967295-2 ^ ow)=r at *;go_enter func198,ntmps198;go_wp2;generalize (w.alloc (.cells #[pb] 137)).alloc (.cells #[.pointer (some ⟨b,ow*10,none⟩)] 307)=W at *;go_region_with (go_at_call 151;refine (gX ow _ zaa).mono ?_;rintro e w9 ⟨rfl,hw9⟩;rw [hw9];clear hw9 w9)
 all_goals go_wp2
 all_goals go_ret
 all_goals exact ⟨rfl,hB2.trans (K9 _ W).drew⟩
theorem Bh (w:World) (pb b cap:Nat) (ps:List Pg.PS) (ow:Nat) (po:Pg.PS) (hpo:ps[ow]?=some po) (s:Nat) (hs:s<4294967296) (hin:∀ i,i∈Pg.els s->i<ps.length) (hP:Pg.bU w pb b cap ps) (hpb:pb<w.heap.size) (hb:b<w.heap.size)
  (hg:1<w.heap.size) (hT:TabAt 1 Lib.deBruijn32tab w) :
  () 198 #[pb,(ow:Int),.int .u32 s] w fun e w'=>e = .returned (.int .u32 (Pg.eu ps ow s))/\Below w w w':=by
 unfold Pg.eu;by_cases h0:s=0
 ·subst h0;rw [Lg rfl];exact yS w pb b cap ps ow po hpo hP hpb hb
 ·rw [Ld h0];exact LA.1 (yR 3 zaa w pb b cap ps ow po hpo s hs h0 hin (Pg.Cl hP.sm ow) hP hpb hb hg hT)
theorem ml (w:World) (pb b cap:Nat) (ps:List Pg.PS) (s:Nat) (hs:s<4294967296) (hin:∀ i,i∈Pg.els s->i<ps.length) (hP:Pg.bU w pb b cap ps) (hpb:pb<w.heap.size) (hb:b<w.heap.size)
  (hg:1<w.heap.size) (hT:TabAt 1 Lib.deBruijn32tab w) :
  () 159 #[pb,.int .u32 s] w fun e w'=>e = .returned (.int .u32 (Pg.inn ps s))/\Below w w w' :=
 LA.1 (vR 3 zaa w pb b cap ps s hs hin hP hpb hb hg hT)
