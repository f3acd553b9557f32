import Derived.Test.YtegmoddppafkfaaGreatDoorM00
import Derived.Test.YtegmoddppafkfaaGreatDoorM11
import Derived.Laws.CopyRow
set_option maxRecDepth 100000
set_option maxHeartbeats 8000000
namespace Go.Proofs.YtegmoddppafkfaaGreatDoor
section
open Go.RowKit Go.Proofs Go.Shelf
attribute [local go_sem] Oper.semAt_some
theorem Dw {n:Nat} (h1:2≤n) {g:Operand} {ps:Array Tmp} {assign body:Code} {Q:Exit→Act→World→Prop} {a:Act} {w:World} (Bs s:Nat) (hs:s<4294967296)
  (he:a.eval g = .func (.func 264) #[] #[.pointer (some ⟨Bs,0,none⟩)]) (hBs:Bs<w.heap.size) (hc:w.cell? ⟨Bs,0,none⟩=some (.int .u32 s)) (hps:1=ps.size)
  (I:List (Pg.In s)→World→Prop) (Ix:Code→List (Pg.In s)→World→Prop) (hI:OwnFrom w.heap.size I) (hIx:∀ c,OwnFrom w.heap.size (Ix c)) (h0:I [] w) (Ax:Pg.In s→Act→World→Prop) (hAx:∀ x a',OwnFrom w.heap.size (fun (_:Unit) W=>Ax x a' W))
  (hassign:∀ (l:Nat) (pre:List (Pg.In s)) (x:Pg.In s) (W:World) (K:Act→World→Prop),I pre W→(∀ a' W',KeepsFrom w.heap.size W W'→True→I pre W'→Ax x a' W'→K a' W') →
   assign.wpIn (Fence.wide.inRound l) (n-1-1) Tryz.prog (Exit.then K (fun _ _ _=>False)) { tmps:=(ps.zip #[Value.int .i64 (x.1:Int)]).foldl (fun t (p,v)=>t.setIfInBounds p v) a.tmps,defers:=[] } W)
  (hbody:∀ (l:Nat) (pre:List (Pg.In s)) (x:Pg.In s) (a':Act) (W:World),w.heap.size≤l→(∃ r,W.heap[l]?=some (.loop r))→I pre W→Ax x a' W→pre.length<32→body.wpIn (Fence.wide.inRound l) (n-1-1) Tryz.prog (ownPostG w.heap.size (fun _ _=>True) I Ix (pre++[x]) W) a' W)
  (hdone:∀ (D:Nat) (xs:List (Pg.In s)) (W:World),w.heap.size≤D→Pg.aQ xs=(Pg.els s).reverse→I xs W→W.heap[D]?=some (.deferred (some []))→Q .normal { a with defers:={ target := .collected D,args:=#[] }::a.defers } W)
  (hstop:∀ (D:Nat) (c:Code) (pre:List (Pg.In s)) (W:World),w.heap.size≤D→Pg.aQ pre <+: (Pg.els s).reverse→Ix c pre W→W.heap[D]?=some (.deferred (some []))→c.wpIn Fence.wide n Tryz.prog Q { a with defers:={ target := .collected D,args:=#[] }::a.defers } W) :
  (Code.rangeFunc g ps assign body).wpIn Fence.wide n Tryz.prog Q a w :=
 wpIn_rangeFunc_ownH rfl (by omega) (gf:=264) he trivial (enters_of Tryz.func264 (by kernel_rfl) rfl)
  (jC (n-1) (by omega) Bs s hs w hBs hc) (fun _ _=>trivial) (fun _ _ _ _ _ _ _ _=>trivial) (Below.refl _ _) (fun _=>hps)
  I Ix hI hIx h0 Ax hAx hassign hbody (fun D xs W hD hS=>hdone D xs W hD (by rw [Pg.cB];exact hS)) (fun D c pre W hD hS=>hstop D c pre W hD (by rw [Pg.cB];exact hS))
namespace Pg
def oY (LV:Nat→List PA) (r:RSt) (i:Nat):RSt:=let r1:=doL r (LV i);{ r1 with act:=r1.act&&&(4294967295-2 ^ i) }
def cI (LV:Nat→List PA) (r:RSt) (l:List Nat):RSt:=l.foldl (oY LV) r
theorem vg (LV:Nat→List PA) (r:RSt) (l:List Nat) (i:Nat):cI LV r (l++[i])=oY LV (cI LV r l) i:=by unfold cI;rw [List.foldl_append];rfl
theorem lD {w:World} {lo pb b cap:Nat} {ps:List PS} {fin:Nat} {EN LV:Nat→List PA} (h:fi w lo pb b cap ps fin EN LV):∀ (l:List Nat) (r:RSt),(∀ i∈l,i<ps.length)→(cI LV r l).q.length≤r.q.length+l.length*1048576
 | [],_,_=>by simp [cI]
 | i::l,r,hl=>by
  obtain ⟨p,hp⟩:∃ p,ps[i]?=some p:=⟨_,List.getElem?_eq_getElem (hl i (List.mem_cons_self ..))⟩
  have h0:=(h.lv i p hp).len
  have h1:=qM r (LV i)
  have h2:=lD h l (oY LV r i) (fun j hj=>hl j (List.mem_cons_of_mem _ hj))
  have h3:(oY LV r i).q=(doL r (LV i)).q:=rfl
  rw [h3] at h2
  show (cI LV (oY LV r i) l).q.length≤_
  rw [List.length_cons]
  omega
end Pg
theorem zZ (w:World) (lo mb pb b cap:Nat) (r:Pg.RSt) (ps:List Pg.PS) (fin s:Nat) (EN LV:Nat→List Pg.PA) (hP:Pg.fi w lo pb b cap ps fin EN LV) (h:Pg.MT w lo mb pb r) (hs:s<4294967296) (hin:∀ i∈Pg.els s,i<ps.length) (hql:r.q.length≤4397000000000) :
  Calls Tryz.prog 193 #[.pointer (some ⟨mb,0,none⟩),.int .u32 s] w fun e w'=>e = .returned (.tuple #[])∧Pg.MT w' lo mb pb (Pg.cI LV r (Pg.els s).reverse)∧Pg.Rf lo w w':=by
 refine (callsIn_wide (n:=8)).1 ?_
 have hlo:=h.lo'
 refine callsIn_of_wp_marks Tryz.func193 rfl trivial ?_ rfl
 simp only [Tryz.ntmps193,List.size_toArray,List.length_cons,List.length_nil,Nat.reduceAdd,Nat.reduceSub,Array.replicate_succ,Array.replicate_zero,List.push_toArray,List.append_toArray,List.nil_append,List.cons_append]
 gi_wp2_with (refine ⟨trivial,?_⟩;gi_at_call 237;refine (callsIn_wide.2 (lh s _)).mono ?_;rintro e w9 ⟨rfl,hw9⟩;rw [hw9];clear hw9 w9)
 have b0:=(Boxed.new w 92 (.pointer (some ⟨mb,0,none⟩))).alloc (.cells #[.int .u32 s] 139)
 have b1:=Boxed.new (w.alloc (.cells #[.pointer (some ⟨mb,0,none⟩)] 92)) 139 (.int .u32 s)
 simp only [World.size_alloc] at b1
 have hB0:Below w.heap.size w ((w.alloc (.cells #[.pointer (some ⟨mb,0,none⟩)] 92)).alloc (.cells #[.int .u32 s] 139)):=((Below.refl _ w).alloc (Nat.le_refl _) _).alloc (by simp) _
 have hs0:((w.alloc (.cells #[.pointer (some ⟨mb,0,none⟩)] 92)).alloc (.cells #[.int .u32 s] 139)).heap.size=w.heap.size+2:=by simp
 generalize (w.alloc (.cells #[.pointer (some ⟨mb,0,none⟩)] 92)).alloc (.cells #[.int .u32 s] 139)=W0 at *
 have h0:=h.below hP.lw hB0
 have hlw:=hP.lw
 have hlen:=hP.dc.len
 have hnty:¬ Pg.cG 92:=by unfold Pg.cG;decide
 refine Dw (by omega) (w.heap.size+1) s hs rfl (by omega) b1.cell rfl
  (fun pre V=>Pg.MT V lo mb pb (Pg.cI LV r (Pg.aQ pre))∧Boxed V w.heap.size 92 (.pointer (some ⟨mb,0,none⟩))∧Pg.Rf lo w V) (fun _ _ _=>False)
  (OwnFrom.and (fun pre A C row h hg hr=>h.gr hlw hg (fun r e=>⟨by have:=(hr r e).1;omega,(hr r e).2⟩)) (OwnFrom.and (Own.from (boxed_own _ _ _) _) (fun pre A C row h hg hr=>h.gr hlo hg (fun r e=>⟨by have:=(hr r e).1;omega,(hr r e).2⟩))))
  (fun _ _ _ _ _ hs _ _=>hs) ⟨h0,b0,Pg.RfE.of hB0 hlo⟩
  (fun x a' _=>a'={ tmps:=#[.pointer (some ⟨mb,0,none⟩),.int .u32 s,.pointer (some ⟨w.heap.size,0,none⟩),undef,.int .i64 x.1,.int .u32 s,.func (.func 264) #[] #[.pointer (some ⟨w.heap.size+1,0,none⟩)],.int .i64 x.1,undef,undef,undef,undef,undef,undef,undef,undef,undef,undef,undef,undef,undef,undef,undef,undef,undef,undef,undef,undef,undef,undef],defers:=[] }) (fun _ _ _ _ _ _ hs _ _=>hs) ?assign ?body ?done ?stop
 case assign =>
  intro l pre x V K hI hK
  gi_wp2
  exact hK _ _ (KeepsFrom.refl _ _) trivial hI rfl
 case body =>
  rintro l pre x a' V hl ⟨rl,hrl⟩ ⟨hM,hb,hR⟩ rfl hpl
  have hi:=hin x.1 x.2
  have hi32:=(Pg.lK.1 x.2).1
  obtain ⟨p,hp⟩:∃ p,ps[x.1]?=some p:=⟨_,List.getElem?_eq_getElem hi⟩
  have hq0:=Pg.lD hP (Pg.aQ pre) r (fun i hi=>hin i (by
   rw [Pg.cB] at hi
   obtain ⟨y,_,rfl⟩:=List.mem_map.1 hi
   exact y.2))
  have hvl:(Pg.aQ pre).length=pre.length:=by rw [Pg.cB,List.length_map]
  rw [hvl] at hq0
  obtain ⟨R0,hR0⟩:∃ R0,Pg.cI LV r (Pg.aQ pre)=R0:=⟨_,rfl⟩
  have HSN:Hid (Pg.cI LV r (Pg.aQ (pre++[x]))=Pg.oY LV R0 x.1):=by
   unfold Hid
   rw [Pg.ed,Pg.vg,hR0]
  rw [hR0] at hM hq0
  clear hR0
  have hPV:=hP.below hR.bel
  obtain ⟨m0,m1,mf⟩:=hM.c0
  have hBd:=(Below.refl V.heap.size V).drew
  have hlV:=hM.lo'
  have q0:V.drew.cell? ⟨w.heap.size,0,none⟩=_:=hb.cell
  have qm:V.drew.cell? ⟨mb,0,none⟩=_:=m0
  have qr:V.drew.cell? ⟨pb,0,none⟩=_:=hPV.dc.row
  have q9:V.drew.cell? ⟨b,x.1*10+9,none⟩=some p.leave.v:=(hPV.dc.at' x.1 p hp).c9
  have hdo:=wP V.drew lo mb pb R0 p.leave (LV x.1) hlw (hM.below hlw hBd) ((hPV.lv x.1 p hp).below (hBd.mono hlV)) (by omega)
  have hda:=Pg.nV (LV x.1) R0
  have hact:=hM.act
  have h2:=fy hi32
  have hxi:((x.1:Int)<(ps.length:Int)):=by omega
  have hd1:1≤8-1-1:=by omega
  unfold Ref.Sl.v at q9 hdo
  have HE:Hid (Pg.oY LV R0 x.1={ Pg.doL R0 (LV x.1) with act:=(Pg.doL R0 (LV x.1)).act&&&(4294967295-2 ^ x.1) }):=rfl
  obtain ⟨R2,hR2⟩:∃ R2,Pg.doL R0 (LV x.1)=R2:=⟨_,rfl⟩
  rw [hR2] at hdo HE hda
  have hact2:R2.act<4294967296:=by rw [hda];exact hact
  clear hR2 hda
  have hand:=u32_andNot_nat R2.act (2 ^ x.1) hact2 h2
  have handl:R2.act&&&(4294967295-2 ^ x.1)<4294967296:=Nat.lt_of_le_of_lt Nat.and_le_left hact2
  obtain ⟨A1,hA1⟩:∃ A1,R2.act&&&(4294967295-2 ^ x.1)=A1:=⟨_,rfl⟩
  rw [hA1] at hand handl HE
  rw [← jq] at hand
  clear hA1
  have HFIN:Hid (∀ w2,Pg.MT w2 lo mb pb R2→Pg.Rf lo V.drew w2→w2.drew.cell? ⟨w.heap.size,0,none⟩=some (.pointer (some ⟨mb,0,none⟩))∧w2.drew.cell? ⟨mb,1,none⟩=some (.int .u32 R2.act)∧w2.drew.frozen? ⟨mb,1,none⟩=false∧KeepsFrom W0.heap.size V (w2.drew.setCell ⟨mb,1,none⟩ (.int .u32 A1))∧True∧Pg.MT (w2.drew.setCell ⟨mb,1,none⟩ (.int .u32 A1)) lo mb pb (Pg.cI LV r (Pg.aQ (pre++[x])))∧Boxed (w2.drew.setCell ⟨mb,1,none⟩ (.int .u32 A1)) w.heap.size 92 (.pointer (some ⟨mb,0,none⟩))∧Pg.Rf lo w (w2.drew.setCell ⟨mb,1,none⟩ (.int .u32 A1))):=fun w2 hM2 hR2=>by
   have hRV2:Pg.Rf lo V w2:=(Pg.RfE.of hBd hlV).trans hR2
   have hB2:=(Below.refl w2.heap.size w2).drew
   have hM2d:=hM2.below hlw hB2
   obtain ⟨_,c1,cf⟩:=hM2d.c0
   obtain ⟨hM3,hR3⟩:=hM2d.CG hlw A1 handl
   have hRV3:=hRV2.trans ((Pg.RfE.of hB2 hM2.lo').trans hR3)
   exact ⟨(Kd.boxed hRV2.kd hb hnty:Boxed w2 _ _ _).cell,c1,cf 1,hRV3.oth.from _,trivial,by rw [HSN.out,HE.out];exact hM3,Kd.boxed hRV3.kd hb hnty,hR.trans hRV3⟩
  clear hM hb hPV hR m0 m1 mf
  gi_wp2
  refine aE (bU l) 12 (by kernel_rfl) (by kernel_rfl) (by kernel_rfl) ?_
  simp only [List.take_succ_cons,List.take_zero,List.drop_succ_cons,List.drop_zero]
  repeat still_step
  refine wpStill_nil ?_
  gi_wp2_with (refine ⟨trivial,?_⟩;gi_at_call 152;refine (aC hdo).mono ?_;intro e w2 h8;obtain ⟨rfl,h8,g8⟩:=h8;obtain ⟨f0,f1,f2,f3⟩:=HFIN.out w2 h8 g8;have F3:Hid _:=f3;clear h8 g8 f3)
  have hone:=ji x.1 w2.drew hi32
  refine aE (bU l) 9 (by kernel_rfl) (by kernel_rfl) (by kernel_rfl) ?_
  simp only [List.take_succ_cons,List.take_zero,List.drop_succ_cons,List.drop_zero]
  iterate 5 still_step
  still_call hone
  iterate 3 still_step
  refine wpStill_nil ?_
  gi_wp2
  exact F3.out
 case done =>
  rintro D ys V hD hys ⟨hM,_,hR⟩ hdef
  rw [hys] at hM
  gi_wp2
  refine ⟨by simp,.inl ⟨_,_,rfl,run_takeDeferred hdef,?_⟩⟩
  exact ⟨_,results_none rfl _ _ _,rfl,hM.gr hlw (grownBy_putObj' V D _) (fun r e=>by cases e;exact ⟨by omega,_,hdef,rfl⟩),hR.gr hlo (grownBy_putObj' V D _) (fun r e=>by cases e;exact ⟨by omega,_,hdef,rfl⟩)⟩
 case stop =>
  rintro D c pre V _ _ h _
  exact h.elim
theorem Kd.row {E:TypeId→Prop} {W W':World} {base size n:Nat} {e:TypeId} {v:Value} {xs:List Value} (hk:Kd E W W') (h:W.ownsRow base e size v n xs) (hE:¬ E e):W'.ownsRow base e size v n xs:=by
 refine ⟨h.1,?_⟩
 rcases h.2 with h' | ⟨k,cap,cur,hv,hb,hk',r⟩
 ·exact .inl h'
 ·exact .inr ⟨k,cap,cur,hv,hb,(hk.ay _ _ _ _ hk' hE).trans hk',r⟩
namespace Pg
def EL (ps:List PS) (act:Nat) (deep:Bool) (po:PS):Nat:=if deep then inn ps act&&&po.inside else act&&&po.parts
structure tX (w:World) (pb:Nat) (ps:List PS) (hv:Ref.Sl) (H:List HV) (D:Nat→Bool):Prop where
 c1:w.cell? ⟨pb,1,none⟩=some hv.v
 row:w.ownsRow 0 313 3 hv.v H.length (H.flatMap HV.cells)
 ay:∀ (k:Nat) (h:HV),H[k]?=some h→h.idx<24∧h.own<ps.length∧∃ po,ps[h.own]?=some po∧mw w pb (D k) po h.ay
 len:H.length≤24
 nil:H=[]
theorem tX.rf {w w':World} {lo pb:Nat} {ps:List PS} {hv:Ref.Sl} {H:List HV} {D:Nat→Bool} (h:tX w pb ps hv H D) (hR:Rf lo w w') (hpb:pb<lo):tX w' pb ps hv H D :=
 ⟨(hR.bel.cell (p:=⟨pb,1,none⟩) hpb).trans h.c1,Kd.row hR.kd h.row (by unfold cG;decide),fun k y hy=>by
  obtain ⟨a,b,po,c,d⟩:=h.ay k y hy
  exact ⟨a,b,po,c,d.kd hR.kd (by unfold cG;decide) (by unfold cG;decide)⟩,h.len,h.nil⟩
def p8 (ps:List PS) (left:Nat) (D:Nat→Bool) (H:List HV) (r:RSt) (k:Nat):RSt:=match H[k]? with
 | none=>r
 | some h=>match ps[h.own]? with
  | none=>r
  | some po=>if left.testBit h.own then { r with kept:=upd r.kept h.idx (EL ps r.act (D k) po) } else r
def fH (ps:List PS) (left:Nat) (D:Nat→Bool) (H:List HV) (r:RSt) (n:Nat):RSt:=(List.range n).foldl (p8 ps left D H) r
theorem oU (ps:List PS) (left:Nat) (D:Nat→Bool) (H:List HV) (r:RSt) (n:Nat):fH ps left D H r (n+1)=p8 ps left D H (fH ps left D H r n) n:=by unfold fH;rw [List.range_succ,List.foldl_append];rfl
theorem zW (ps:List PS) (left:Nat) (D:Nat→Bool) (H:List HV) (r:RSt) (k:Nat):(p8 ps left D H r k).act=r.act∧(p8 ps left D H r k).q=r.q∧(p8 ps left D H r k).tm=r.tm∧(p8 ps left D H r k).now=r.now∧(p8 ps left D H r k).fin=r.fin:=by
 unfold p8
 split
 ·simp
 ·split
  ·simp
  ·split <;> simp
theorem jb (ps:List PS) (left:Nat) (D:Nat→Bool) (H:List HV) (r:RSt):∀ n,(fH ps left D H r n).act=r.act∧(fH ps left D H r n).q=r.q∧(fH ps left D H r n).tm=r.tm∧(fH ps left D H r n).now=r.now∧(fH ps left D H r n).fin=r.fin
 | 0=>⟨rfl,rfl,rfl,rfl,rfl⟩
 | n+1=>by
  obtain ⟨a,b,c,d,e⟩:=jb ps left D H r n
  obtain ⟨a',b',c',d',e'⟩:=zW ps left D H (fH ps left D H r n) n
  rw [oU]
  exact ⟨a'.trans a,b'.trans b,c'.trans c,d'.trans d,e'.trans e⟩
end Pg
theorem BK (w:World) (lo mb pb b cap:Nat) (r:Pg.RSt) (ps:List Pg.PS) (fin left:Nat) (EN LV:Nat→List Pg.PA) (hv:Ref.Sl) (H:List Pg.HV) (D:Nat→Bool) (hP:Pg.fi w lo pb b cap ps fin EN LV) (hH:Pg.tX w pb ps hv H D) (h:Pg.MT w lo mb pb r) (_hs:left<4294967296) (_hin:∀ i∈Pg.els r.act,i<ps.length) :
  Calls Tryz.prog 192 #[.pointer (some ⟨mb,0,none⟩),.int .u32 left] w fun e w'=>e = .returned (.tuple #[])∧Pg.MT w' lo mb pb (Pg.fH ps left D H r H.length)∧Pg.Rf lo w w':=by
 have hlw:=hP.lw
 obtain ⟨m0,_,_⟩:=h.c0
 have hc1:=hH.c1
 have hHl:=hH.len
 have hnH:hv.n=H.length:=by
  rcases hH.row.2 with ⟨h0,h1⟩ | ⟨g,cap,cur,hv,_⟩
  ·unfold Ref.Sl.v at h0
   simp at h0
   omega
  ·unfold Ref.Sl.v at hv
   simp at hv
   exact hv.2.1
 obtain ⟨ha,hn,hc⟩:=hv
 dsimp only at hnH
 subst hnH
 unfold Ref.Sl.v at hc1
 have H0:Hid _:=h
 have HP:Hid _:=hP
 have HH:Hid _:=hH
 clear h hP hH
 go_enter Tryz.func192,Tryz.ntmps192
 go_wp2
 go_loopw [14] (fun i wr=>∃ k:Nat,i = .int .i64 k∧k≤H.length∧Hid (Pg.MT wr lo mb pb (Pg.fH ps left D H r k)∧Pg.Rf lo w wr)) (fun i _=>H.length-(intOf i).toNat)
 case atStart=>exact ⟨0,rfl,by omega,H0.out,Pg.RfE.refl _ _⟩
 case round =>
  obtain ⟨k,rfl,hkl,HM⟩:=hrel
  clear m0 hc1
  by_cases hk:k<H.length
  ·exact absurd hk (by rw [HH.out.nil];simp)
  ·obtain rfl:k=H.length:=by omega
   go_wp2
   go_end0
   exact ⟨rfl,HM.out⟩
namespace Pg
structure MvB (W:World) (m o l:Nat):Prop where
 c0:W.cell? ⟨m,0,none⟩=some (.int .i64 o)
 c1:W.cell? ⟨m,1,none⟩=some (.int .u32 l)
 hl:l<4294967296
 ty:∃ c,W.heap[m]?=some (.cells c 319 (0,0))
theorem MvB.lt {W:World} {m o l:Nat} (h:MvB W m o l):m<W.heap.size:=fB h.c0
theorem MvB.below {W W':World} {m o l:Nat} (h:MvB W m o l) (hb:Below W.heap.size W W'):MvB W' m o l:=⟨(hb.cell (p:=⟨m,0,none⟩) h.lt).trans h.c0,(hb.cell (p:=⟨m,1,none⟩) h.lt).trans h.c1,h.hl,by
 obtain ⟨c,hc⟩:=h.ty
 exact ⟨c,(hb.block m h.lt).trans hc⟩⟩
theorem MvB.mo {P:Nat→Prop} {W W':World} {m o l:Nat} (h:MvB W m o l) (hm:Mo P W W') (hn:¬ P m):MvB W' m o l:=⟨(hm.cell (p:=⟨m,0,none⟩) h.lt hn).trans h.c0,(hm.cell (p:=⟨m,1,none⟩) h.lt hn).trans h.c1,h.hl,by
 obtain ⟨c,hc⟩:=h.ty
 exact ⟨c,(hm.block m h.lt hn).trans hc⟩⟩
def fF (act l1 l2:Nat):Bool:=((l1&&&act)&&&(l2&&&act):Nat) != 0
structure TkB (W:World) (mb v B3 B5:Nat):Prop where
 b3:Boxed W B3 92 (.pointer (some ⟨mb,0,none⟩))
 b5:Boxed W B5 316 (.pointer (some ⟨v,0,none⟩))
theorem TkB.below {W W':World} {mb v B3 B5:Nat} (h:TkB W mb v B3 B5) (hb:Below W.heap.size W W'):TkB W' mb v B3 B5:=⟨au h.b3 hb h.b3.lt,au h.b5 hb h.b5.lt⟩
end Pg
theorem jK (w:World) (lo mb pb:Nat) (r:Pg.RSt) (m o l:Nat) (h:Pg.MT w lo mb pb r) (hm:Pg.MvB w m o l) :
  Calls Tryz.prog 191 #[.pointer (some ⟨mb,0,none⟩),.pointer (some ⟨m,0,none⟩)] w fun e w'=>e = .returned (.int .u32 ((l&&&r.act:Nat):Int))∧Below w.heap.size w w':=by
 obtain ⟨qv,wh,a,b⟩:=h.ex
 exact xp w lo mb pb qv (r.m wh) m l a h.act hm.hl hm.c1
theorem nn (w:World) (lo mb pb:Nat) (r:Pg.RSt) (t ot lt v ov lv B3 B5:Nat) (hl:Pg.Lw lo) (h:Pg.MT w lo mb pb r) (ht:Pg.MvB w t ot lt) (hv:Pg.MvB w v ov lv) (hb:Pg.TkB w mb v B3 B5) :
  Calls Tryz.prog 259 #[.pointer (some ⟨t,0,none⟩),.pointer (some ⟨B3,0,none⟩),.pointer (some ⟨B5,0,none⟩)] w fun e w'=>e = .returned (.bool (Pg.fF r.act lt lv))∧Below w.heap.size w w':=by
 have hlt:∀ V,Below w.heap.size w V→Calls Tryz.prog 191 #[.pointer (some ⟨mb,0,none⟩),.pointer (some ⟨t,0,none⟩)] V fun e w'=>e = .returned (.int .u32 ((lt&&&r.act:Nat):Int))∧Below w.heap.size w w':=fun V hV=>(jK V lo mb pb r t ot lt (h.below hl hV) (ht.below hV)).mono (fun e w' x=>⟨x.1,hV.trans (x.2.mono hV.size)⟩)
 have hlv:∀ V,Below w.heap.size w V→Calls Tryz.prog 191 #[.pointer (some ⟨mb,0,none⟩),.pointer (some ⟨v,0,none⟩)] V fun e w'=>e = .returned (.int .u32 ((lv&&&r.act:Nat):Int))∧Below w.heap.size w w':=fun V hV=>(jK V lo mb pb r v ov lv (h.below hl hV) (hv.below hV)).mono (fun e w' x=>⟨x.1,hV.trans (x.2.mono hV.size)⟩)
 have l1:lt&&&r.act<4294967296:=Nat.lt_of_le_of_lt Nat.and_le_left ht.hl
 have l2:lv&&&r.act<4294967296:=Nat.lt_of_le_of_lt Nat.and_le_left hv.hl
 have hand:=u32_and_nat _ _ l1 l2
 have hcl:Pg.fF r.act lt lv=(((((lt&&&r.act)&&&(lv&&&r.act):Nat):Nat):Int) != 0):=by
  unfold Pg.fF
  cases hx:((lt&&&r.act)&&&(lv&&&r.act):Nat) with
  | zero=>rfl
  | succ n=>simp;omega
 generalize lt&&&r.act=a1 at *
 generalize lv&&&r.act=a2 at *
 have HCL:Hid _:=hcl
 clear hcl
 have hne:((((a1&&&a2:Nat):Nat):Int) != 0)=Pg.fF r.act lt lv:=HCL.out.symm
 generalize Pg.fF r.act lt lv=cb at *
 generalize a1&&&a2=a3 at *
 have hkB:∀ V:World,Below w.heap.size w V→V.cell? ⟨B3,0,none⟩=some (.pointer (some ⟨mb,0,none⟩))∧V.cell? ⟨B5,0,none⟩=some (.pointer (some ⟨v,0,none⟩)):=fun V hV=>⟨(hb.below hV).b3.cell,(hb.below hV).b5.cell⟩
 have hBd:=(Below.refl w.heap.size w).drew
 obtain ⟨k1,k2⟩:=hkB _ hBd
 clear h ht hv hb l1 l2 HCL
 go_enter Tryz.func259,Tryz.ntmps259
 go_upto_region 1 with fail
 refine wp_region_held_drew (S:=(fun V=>V.cell? ⟨B3,0,none⟩=some (.pointer (some ⟨mb,0,none⟩))∧V.cell? ⟨B5,0,none⟩=some (.pointer (some ⟨v,0,none⟩)))) (by kernel_rfl) ⟨k1,k2⟩ (fun hHeld => ?_)
 refine tD (some 5) 0 (.pointer (some ⟨mb,0,none⟩)) rfl hHeld ?_
 refine tD (some 6) 1 (.pointer (some ⟨t,0,none⟩)) rfl hHeld ?_
 refine tD (some 8) 3 (.pointer (some ⟨mb,0,none⟩)) rfl hHeld ?_
 refine tD (some 9) 4 (.pointer (some ⟨v,0,none⟩)) rfl hHeld ?_
 refine zH 2 rfl fun K hK => ?_
 go_simp
 refine (hlt _ (by assumption)).mono ?_
 rintro e wA ⟨rfl,hA⟩
 refine hK.out _ _ (hkB wA hA) (fun hHeld => ?_)
 clear hK K
 refine zH 5 rfl fun K hK => ?_
 go_simp
 refine (hlv _ (by assumption)).mono ?_
 rintro e wA ⟨rfl,hA⟩
 refine hK.out _ _ (hkB wA hA) (fun hHeld => ?_)
 clear hK K
 refine tD (some 11) 6 (.int .u32 a3) rfl hHeld ?_
 refine tD (some 12) 7 (.bool cb) rfl hHeld ?_
 refine tD (some 4) 8 (.bool cb) rfl hHeld ?_
 refine wpAnyH_done (by kernel_rfl) ?_ _
 clear hHeld
 (try simp only [Act.put,List.setIfInBounds_toArray,List.set_cons_succ,List.set_cons_zero])
 go_wp2
 go_ret
 exact ⟨rfl,by assumption⟩
theorem xX (w:World) (lo mb pb b cap:Nat) (r:Pg.RSt) (ps:List Pg.PS) (fin:Nat) (EN LV:Nat→List Pg.PA) (t ot lt v ov lv B3 B5 B7:Nat) (pv:Pg.PS) (hP:Pg.fi w lo pb b cap ps fin EN LV) (h:Pg.MT w lo mb pb r) (ht:Pg.MvB w t ot lt) (hv:Pg.MvB w v ov lv) (hb:Pg.TkB w mb v B3 B5) (hpv:ps[ov]?=some pv) (hot:ot<32)
  (h7:Boxed w B7 415 (.func (.func 259) #[] #[.pointer (some ⟨B3,0,none⟩),.pointer (some ⟨B5,0,none⟩)])) :
  Calls Tryz.prog 260 #[.pointer (some ⟨t,0,none⟩),.pointer (some ⟨B7,0,none⟩),.pointer (some ⟨B3,0,none⟩),.pointer (some ⟨B5,0,none⟩)] w fun e w'=>e = .returned (.bool (Pg.fF r.act lt lv && !pv.around.testBit ot))∧Below w.heap.size w w':=by
 have hlw:=hP.lw
 have hlo:=h.lo'
 have hcl:∀ V,Below w.heap.size w V→Calls Tryz.prog 259 #[.pointer (some ⟨t,0,none⟩),.pointer (some ⟨B3,0,none⟩),.pointer (some ⟨B5,0,none⟩)] V fun e w'=>e = .returned (.bool (Pg.fF r.act lt lv))∧Below w.heap.size w w':=fun V hV=>(nn V lo mb pb r t ot lt v ov lv B3 B5 hlw (h.below hlw hV) (ht.below hV) (hv.below hV) (hb.below hV)).mono (fun e w' x=>⟨x.1,hV.trans (x.2.mono hV.size)⟩)
 have hii:∀ V,Below w.heap.size w V→Calls Tryz.prog 261 #[.pointer (some ⟨pb,0,none⟩),.int .i64 ov,.int .i64 ot] V fun e w'=>e = .returned (.bool (pv.around.testBit ot))∧Below w.heap.size w w':=fun V hV=>(BI V pb b cap ps ov ot pv (hP.below (hV.mono hlo)).dc hpv hot).mono (fun e w' x=>⟨x.1,by rw [x.2];exact hV⟩)
 have hkB:∀ V:World,Below w.heap.size w V→V.cell? ⟨B7,0,none⟩=some (.func (.func 259) #[] #[.pointer (some ⟨B3,0,none⟩),.pointer (some ⟨B5,0,none⟩)])∧V.cell? ⟨B3,0,none⟩=some (.pointer (some ⟨mb,0,none⟩))∧V.cell? ⟨B5,0,none⟩=some (.pointer (some ⟨v,0,none⟩))∧V.cell? ⟨mb,0,none⟩=some (.pointer (some ⟨pb,0,none⟩))∧V.cell? ⟨v,0,none⟩=some (.int .i64 ov)∧V.cell? ⟨t,0,none⟩=some (.int .i64 ot):=fun V hV=>⟨(au h7 hV h7.lt).cell,(hb.below hV).b3.cell,(hb.below hV).b5.cell,(h.below hlw hV).c0.1,(hv.below hV).c0,(ht.below hV).c0⟩
 have hBd:=(Below.refl w.heap.size w).drew
 obtain ⟨k1,k2,k3,k4,k5,k6⟩:=hkB _ hBd
 generalize Pg.fF r.act lt lv=cb at *
 generalize pv.around.testBit ot=ab at *
 clear h ht hv hb h7 hP
 cases cb
 ·go_enter Tryz.func260,Tryz.ntmps260
  go_upto_region 1 with fail
  refine wp_region_held_drew (S:=(fun V=>V.cell? ⟨B7,0,none⟩=some (.func (.func 259) #[] #[.pointer (some ⟨B3,0,none⟩),.pointer (some ⟨B5,0,none⟩)])∧V.cell? ⟨B3,0,none⟩=some (.pointer (some ⟨mb,0,none⟩))∧V.cell? ⟨B5,0,none⟩=some (.pointer (some ⟨v,0,none⟩))∧V.cell? ⟨mb,0,none⟩=some (.pointer (some ⟨pb,0,none⟩))∧V.cell? ⟨v,0,none⟩=some (.int .i64 ov)∧V.cell? ⟨t,0,none⟩=some (.int .i64 ot))) (by kernel_rfl) ⟨k1,k2,k3,k4,k5,k6⟩ (fun hHeld => ?_)
  refine tD (some 6) 0 (.func (.func 259) #[] #[.pointer (some ⟨B3,0,none⟩),.pointer (some ⟨B5,0,none⟩)]) rfl hHeld ?_
  refine tD (some 7) 1 (.pointer (some ⟨t,0,none⟩)) rfl hHeld ?_
  refine zH 2 rfl fun K hK => ?_
  go_simp
  refine (hcl _ (by assumption)).mono ?_
  rintro e wA ⟨rfl,hA⟩
  refine hK.out _ _ (hkB wA hA) (fun hHeld => ?_)
  clear hK K
  refine tD (some 9) 3 (.bool false) rfl hHeld ?_
  refine tU (some 10) 4 rfl hHeld ?_
  refine tU (some 11) 5 rfl hHeld ?_
  refine tU (some 12) 6 rfl hHeld ?_
  refine tU (some 13) 7 rfl hHeld ?_
  refine tU (some 14) 8 rfl hHeld ?_
  refine tU (some 15) 9 rfl hHeld ?_
  refine tU (some 16) 10 rfl hHeld ?_
  refine tU (some 17) 11 rfl hHeld ?_
  refine tU (some 18) 12 rfl hHeld ?_
  refine tU (some 19) 13 rfl hHeld ?_
  refine tU (some 20) 14 rfl hHeld ?_
  refine tU (some 21) 15 rfl hHeld ?_
  refine tU (some 22) 16 rfl hHeld ?_
  refine tU (some 23) 17 rfl hHeld ?_
  refine tD (some 24) 18 (.bool false) rfl hHeld ?_
  refine tD (some 5) 19 (.bool false) rfl hHeld ?_
  refine wpAnyH_done (by kernel_rfl) ?_ _
  clear hHeld
  (try simp only [Act.put,List.setIfInBounds_toArray,List.set_cons_succ,List.set_cons_zero])
  go_wp2
  go_ret
  exact ⟨rfl,by assumption⟩
 ·go_enter Tryz.func260,Tryz.ntmps260
  go_upto_region 1 with fail
  refine wp_region_held_drew (S:=(fun V=>V.cell? ⟨B7,0,none⟩=some (.func (.func 259) #[] #[.pointer (some ⟨B3,0,none⟩),.pointer (some ⟨B5,0,none⟩)])∧V.cell? ⟨B3,0,none⟩=some (.pointer (some ⟨mb,0,none⟩))∧V.cell? ⟨B5,0,none⟩=some (.pointer (some ⟨v,0,none⟩))∧V.cell? ⟨mb,0,none⟩=some (.pointer (some ⟨pb,0,none⟩))∧V.cell? ⟨v,0,none⟩=some (.int .i64 ov)∧V.cell? ⟨t,0,none⟩=some (.int .i64 ot))) (by kernel_rfl) ⟨k1,k2,k3,k4,k5,k6⟩ (fun hHeld => ?_)
  refine tD (some 6) 0 (.func (.func 259) #[] #[.pointer (some ⟨B3,0,none⟩),.pointer (some ⟨B5,0,none⟩)]) rfl hHeld ?_
  refine tD (some 7) 1 (.pointer (some ⟨t,0,none⟩)) rfl hHeld ?_
  refine zH 2 rfl fun K hK => ?_
  go_simp
  refine (hcl _ (by assumption)).mono ?_
  rintro e wA ⟨rfl,hA⟩
  refine hK.out _ _ (hkB wA hA) (fun hHeld => ?_)
  clear hK K
  refine tD (some 9) 3 (.bool true) rfl hHeld ?_
  refine gN (d:=some 10) (i:=4) (v:=(.pointer (some ⟨mb,0,none⟩))) rfl rfl (by kernel_rfl) (by kernel_rfl) (by kernel_rfl) (fun _ _ _ h=>h) (Or.inl ⟨by kernel_rfl,fun w hSw=>by (try dsimp only at hSw);go_simp;(try with_reducible rfl)⟩) hHeld ?_
  refine gN (d:=some 11) (i:=5) (v:=(.pointer (some ⟨mb,0,none⟩))) rfl rfl (by kernel_rfl) (by kernel_rfl) (by kernel_rfl) (fun _ _ _ h=>h) (Or.inl ⟨by kernel_rfl,fun w hSw=>by (try dsimp only at hSw);go_simp;(try with_reducible rfl)⟩) hHeld ?_
  refine gN (d:=some 12) (i:=6) (v:=(.pointer (some ⟨mb,0,none⟩))) rfl rfl (by kernel_rfl) (by kernel_rfl) (by kernel_rfl) (fun _ _ _ h=>h) (Or.inl ⟨by kernel_rfl,fun w hSw=>by (try dsimp only at hSw);go_simp;(try with_reducible rfl)⟩) hHeld ?_
  refine gN (d:=some 13) (i:=7) (v:=(.pointer (some ⟨pb,0,none⟩))) rfl rfl (by kernel_rfl) (by kernel_rfl) (by kernel_rfl) (fun _ _ _ h=>h) (Or.inl ⟨by kernel_rfl,fun w hSw=>by (try dsimp only at hSw);go_simp;(try with_reducible rfl)⟩) hHeld ?_
  refine gN (d:=some 14) (i:=8) (v:=(.pointer (some ⟨v,0,none⟩))) rfl rfl (by kernel_rfl) (by kernel_rfl) (by kernel_rfl) (fun _ _ _ h=>h) (Or.inl ⟨by kernel_rfl,fun w hSw=>by (try dsimp only at hSw);go_simp;(try with_reducible rfl)⟩) hHeld ?_
  refine gN (d:=some 15) (i:=9) (v:=(.pointer (some ⟨v,0,none⟩))) rfl rfl (by kernel_rfl) (by kernel_rfl) (by kernel_rfl) (fun _ _ _ h=>h) (Or.inl ⟨by kernel_rfl,fun w hSw=>by (try dsimp only at hSw);go_simp;(try with_reducible rfl)⟩) hHeld ?_
  refine gN (d:=some 16) (i:=10) (v:=(.pointer (some ⟨v,0,none⟩))) rfl rfl (by kernel_rfl) (by kernel_rfl) (by kernel_rfl) (fun _ _ _ h=>h) (Or.inl ⟨by kernel_rfl,fun w hSw=>by (try dsimp only at hSw);go_simp;(try with_reducible rfl)⟩) hHeld ?_
  refine gN (d:=some 17) (i:=11) (v:=(.int .i64 ov)) rfl rfl (by kernel_rfl) (by kernel_rfl) (by kernel_rfl) (fun _ _ _ h=>h) (Or.inl ⟨by kernel_rfl,fun w hSw=>by (try dsimp only at hSw);go_simp;(try with_reducible rfl)⟩) hHeld ?_
  refine gN (d:=some 18) (i:=12) (v:=(.pointer (some ⟨t,0,none⟩))) rfl rfl (by kernel_rfl) (by kernel_rfl) (by kernel_rfl) (fun _ _ _ h=>h) (Or.inl ⟨by kernel_rfl,fun w hSw=>by (try dsimp only at hSw);go_simp;(try with_reducible rfl)⟩) hHeld ?_
  refine gN (d:=some 19) (i:=13) (v:=(.pointer (some ⟨t,0,none⟩))) rfl rfl (by kernel_rfl) (by kernel_rfl) (by kernel_rfl) (fun _ _ _ h=>h) (Or.inl ⟨by kernel_rfl,fun w hSw=>by (try dsimp only at hSw);go_simp;(try with_reducible rfl)⟩) hHeld ?_
  refine gN (d:=some 20) (i:=14) (v:=(.pointer (some ⟨t,0,none⟩))) rfl rfl (by kernel_rfl) (by kernel_rfl) (by kernel_rfl) (fun _ _ _ h=>h) (Or.inl ⟨by kernel_rfl,fun w hSw=>by (try dsimp only at hSw);go_simp;(try with_reducible rfl)⟩) hHeld ?_
  refine gN (d:=some 21) (i:=15) (v:=(.int .i64 ot)) rfl rfl (by kernel_rfl) (by kernel_rfl) (by kernel_rfl) (fun _ _ _ h=>h) (Or.inl ⟨by kernel_rfl,fun w hSw=>by (try dsimp only at hSw);go_simp;(try with_reducible rfl)⟩) hHeld ?_
  refine yH [16] ?_
  refine lU rfl (by kernel_rfl) (fun K hK => ?_) AllReadyH.nil
  go_simp
  refine (hii _ (by assumption)).mono ?_
  rintro e wA ⟨rfl,hA⟩
  refine hK.out _ _ (hkB wA hA) (fun hHeld => ?_)
  clear hK K
  refine gN (d:=some 23) (i:=17) (v:=(.bool (!ab))) rfl rfl (by kernel_rfl) (by kernel_rfl) (by kernel_rfl) (fun _ _ _ h=>h) (Or.inl ⟨by kernel_rfl,fun w hSw=>by (try dsimp only at hSw);go_simp;(try with_reducible rfl)⟩) hHeld ?_
  refine tD (some 24) 18 (.bool (!ab)) rfl hHeld ?_
  refine tD (some 5) 19 (.bool (!ab)) rfl hHeld ?_
  refine wpAnyH_done (by kernel_rfl) ?_ _
  clear hHeld
  (try simp only [Act.put,List.setIfInBounds_toArray,List.set_cons_succ,List.set_cons_zero])
  go_wp2
  go_ret
  exact ⟨rfl,by assumption⟩
namespace Pg
def ixF (p:Nat→Bool):List Nat→Int
 | [] => -1
 | x::l=>if p x then 0 else if ixF p l = -1 then -1 else ixF p l+1
theorem oT {p:Nat→Bool}:∀ {l:List Nat},(∀ x∈l,p x=false)→ixF p l = -1
 | [],_=>rfl
 | x::l,h=>by
  unfold ixF
  rw [if_neg (by rw [h x (List.mem_cons_self ..)];decide),if_pos (oT fun y hy=>h y (List.mem_cons_of_mem _ hy))]
theorem xh {p:Nat→Bool}:∀ {l:List Nat} {k x:Nat},l[k]?=some x→p x=true→(∀ (j y:Nat),j<k→l[j]?=some y→p y=false)→ixF p l=k
 | [],k,x,h,_,_=>by simp at h
 | y::l,0,x,h,hp,_=>by
  simp at h
  subst h
  unfold ixF
  rw [if_pos hp]
  rfl
 | y::l,k+1,x,h,hp,hb=>by
  simp at h
  have h0:=hb 0 y (by omega) rfl
  have ih:=xh (l:=l) h hp (fun j z hj hz=>hb (j+1) z (by omega) (by simpa using hz))
  unfold ixF
  rw [if_neg (by rw [h0];decide),ih,if_neg (by omega)]
  omega
structure MvR (W:World) (g cap:Nat) (L:List Nat) (cur:Array Value):Prop where
 blk:W.heap[g]?=some (.cells cur 316 (0,0))
 size:cur.size=cap
 le:L.length≤cap
 at':∀ (j x:Nat),L[j]?=some x→cur[j]?=some (.pointer (some ⟨x,0,none⟩))
theorem MvR.cell {W:World} {g cap:Nat} {L:List Nat} {cur:Array Value} (h:MvR W g cap L cur) {j x:Nat} (hx:L[j]?=some x):W.cell? ⟨g,j,none⟩=some (.pointer (some ⟨x,0,none⟩)):=by
 rw [cell_of_row W _ _ _ _ _ h.blk];exact h.at' j x hx
theorem MvR.mo {P:Nat→Prop} {W W':World} {g cap:Nat} {L:List Nat} {cur:Array Value} (h:MvR W g cap L cur) (hm:Mo P W W') (hn:¬ P g):MvR W' g cap L cur:=⟨(hm.block g (Array.getElem?_eq_some_iff.1 h.blk).1 hn).trans h.blk,h.size,h.le,h.at'⟩
end Pg
theorem qz (n:Nat):(Builtin.zeroCells #[Value.pointer none] n).toList=List.replicate n (.pointer none):=by
 unfold Builtin.zeroCells
 simp only [List.size_toArray,List.length_cons,List.length_nil,Nat.zero_add,Nat.mul_one,Nat.mod_one,Array.toList_map,Array.toList_range]
 rw [List.eq_replicate_iff]
 refine ⟨by simp,fun b hb => ?_⟩
 obtain ⟨_,_,rfl⟩:=List.mem_map.1 hb
 rfl
theorem tC (W:World) (g i n c:Nat) (cur:Array Value) (ty:TypeId) (hg:W.heap[g]?=some (.cells cur 316 (0,0))) (hn:0<n) (hfit:i+n≤cur.size) :
  (Builtin.clear_ #[314] ty #[.slice (some ⟨g,i,none⟩) n c]).run Tryz.prog W = .ok (.tuple #[]) (W.setRow g (cur.toList.take i++List.replicate n (Value.pointer none)++cur.toList.drop (i+n)).toArray):=by
 obtain ⟨m,rfl⟩:∃ m,n=m+1:=⟨n-1,by omega⟩
 obtain ⟨i0,hi,hz0,hz1,hz2⟩:=info_parts Tryz.j3
 have hst:=run_storeCells_at Tryz.prog g i 316 (List.replicate (m+1) (.pointer none)) 0 cur W hg (by simpa using hfit) (fun v hv=>by rw [(List.mem_replicate.1 hv).2];rfl)
 simp only [Nat.add_zero,List.length_replicate] at hst
 unfold Builtin.clear_
 simp [run_underlying Tryz.underlying314,zeroValue,typeInfo,hi,hz0,Value.cells,qz,hst,Result.andThen]
theorem nJ (w:World) (a:Option Addr) (c:Nat) (L:List Nat) (p:Nat→Bool) (B7 B3 B5:Nat) (hl:L.length≤1000) (hc:∀ (j x:Nat),L[j]?=some x→∃ g,a=some ⟨g,0,none⟩∧g<w.heap.size∧w.cell? ⟨g,j,none⟩=some (.pointer (some ⟨x,0,none⟩)))
  (hf:∀ (V:World) (x:Nat),Below w.heap.size w V→x∈L→Calls Tryz.prog 260 #[.pointer (some ⟨x,0,none⟩),.pointer (some ⟨B7,0,none⟩),.pointer (some ⟨B3,0,none⟩),.pointer (some ⟨B5,0,none⟩)] V fun e w'=>e = .returned (.bool (p x))∧Below w.heap.size w w') :
  Calls Tryz.prog 283 #[.slice a L.length c,.func (.func 260) #[] #[.pointer (some ⟨B7,0,none⟩),.pointer (some ⟨B3,0,none⟩),.pointer (some ⟨B5,0,none⟩)]] w fun e w'=>e = .returned (.int .i64 (Pg.ixF p L))∧Below w.heap.size w w':=by
 have HC:Hid _:=hc
 have HF:Hid _:=hf
 clear hc hf
 go_enter Tryz.func283,Tryz.ntmps283
 go_wp2
 go_loopw [8] (fun i wr=>∃ k:Nat,i = .int .i64 k∧k≤L.length∧Hid ((∀ (j y:Nat),j<k→L[j]?=some y→p y=false)∧Below w.heap.size w wr)) (fun i _=>L.length-(intOf i).toNat)
 case atStart=>exact ⟨0,rfl,by omega,fun j y hj=>by omega,Below.refl _ _⟩
 case round =>
  obtain ⟨k,rfl,hkl,HK⟩:=hrel
  by_cases hk:k<L.length
  ·obtain ⟨x,hx⟩:∃ x,L[k]?=some x:=⟨_,List.getElem?_eq_getElem hk⟩
   obtain ⟨g,ha,hg,hcx⟩:=HC.out k x hx
   subst ha
   have hcr:wr.cell? ⟨g,k,none⟩=some (.pointer (some ⟨x,0,none⟩)):=(HK.out.2.cell (p:=⟨g,k,none⟩) hg).trans hcx
   have hcall:=HF.out wr x HK.out.2 (List.mem_of_getElem? hx)
   have hki:((k:Int)<(L.length:Int)):=by omega
   have HX:Hid _:=hx
   clear hcx hx
   obtain ⟨b,hb⟩:∃ b,p x=b:=⟨_,rfl⟩
   rw [hb] at hcall
   have HB:Hid _:=hb
   clear hb
   cases b
   ·go_wp2_with (go_at_call 260;refine hcall.mono ?_;rintro e w9 ⟨rfl,hb9⟩)
    go_roundw
    case rel=>exact ⟨k+1,by simp,by omega,fun j y hj hy=>by
     by_cases e:j=k
     ·subst e
      rw [HX.out] at hy
      cases hy
      exact HB.out
     ·exact HK.out.1 j y (by omega) hy,hb9⟩
    case measure=>simp only [intOf];omega
   ·go_wp2_with (go_at_call 260;refine hcall.mono ?_;rintro e w9 ⟨rfl,hb9⟩)
    go_ret
    exact ⟨by rw [Pg.xh HX.out HB.out HK.out.1];rfl,hb9⟩
  ·obtain rfl:k=L.length:=by omega
   have HN:Hid (Pg.ixF p L = -1):=Pg.oT fun y hy=>by
    obtain ⟨j,hj⟩:=List.mem_iff_getElem?.1 hy
    exact HK.out.1 j y (List.getElem?_eq_some_iff.1 hj).1 hj
   go_wp2
   go_ret
   exact ⟨by rw [HN.out];rfl,HK.out.2⟩
theorem iO (w:World) (a:Option Addr) (c:Nat) (L:List Nat) (p:Nat→Bool) (B3 B5:Nat) (hl:L.length≤1000) (hc:∀ (j x:Nat),L[j]?=some x→∃ g,a=some ⟨g,0,none⟩∧g<w.heap.size∧w.cell? ⟨g,j,none⟩=some (.pointer (some ⟨x,0,none⟩)))
  (hf:∀ (V:World) (x:Nat),Below w.heap.size w V→x∈L→Calls Tryz.prog 259 #[.pointer (some ⟨x,0,none⟩),.pointer (some ⟨B3,0,none⟩),.pointer (some ⟨B5,0,none⟩)] V fun e w'=>e = .returned (.bool (p x))∧Below w.heap.size w w') :
  Calls Tryz.prog 283 #[.slice a L.length c,.func (.func 259) #[] #[.pointer (some ⟨B3,0,none⟩),.pointer (some ⟨B5,0,none⟩)]] w fun e w'=>e = .returned (.int .i64 (Pg.ixF p L))∧Below w.heap.size w w':=by
 have HC:Hid _:=hc
 have HF:Hid _:=hf
 clear hc hf
 go_enter Tryz.func283,Tryz.ntmps283
 go_wp2
 go_loopw [8] (fun i wr=>∃ k:Nat,i = .int .i64 k∧k≤L.length∧Hid ((∀ (j y:Nat),j<k→L[j]?=some y→p y=false)∧Below w.heap.size w wr)) (fun i _=>L.length-(intOf i).toNat)
 case atStart=>exact ⟨0,rfl,by omega,fun j y hj=>by omega,Below.refl _ _⟩
 case round =>
  obtain ⟨k,rfl,hkl,HK⟩:=hrel
  by_cases hk:k<L.length
  ·obtain ⟨x,hx⟩:∃ x,L[k]?=some x:=⟨_,List.getElem?_eq_getElem hk⟩
   obtain ⟨g,ha,hg,hcx⟩:=HC.out k x hx
   subst ha
   have hcr:wr.cell? ⟨g,k,none⟩=some (.pointer (some ⟨x,0,none⟩)):=(HK.out.2.cell (p:=⟨g,k,none⟩) hg).trans hcx
   have hcall:=HF.out wr x HK.out.2 (List.mem_of_getElem? hx)
   have hki:((k:Int)<(L.length:Int)):=by omega
   have HX:Hid _:=hx
   clear hcx hx
   obtain ⟨b,hb⟩:∃ b,p x=b:=⟨_,rfl⟩
   rw [hb] at hcall
   have HB:Hid _:=hb
   clear hb
   cases b
   ·go_wp2_with (go_at_call 259;refine hcall.mono ?_;rintro e w9 ⟨rfl,hb9⟩)
    go_roundw
    case rel=>exact ⟨k+1,by simp,by omega,fun j y hj hy=>by
     by_cases e:j=k
     ·subst e
      rw [HX.out] at hy
      cases hy
      exact HB.out
     ·exact HK.out.1 j y (by omega) hy,hb9⟩
    case measure=>simp only [intOf];omega
   ·go_wp2_with (go_at_call 259;refine hcall.mono ?_;rintro e w9 ⟨rfl,hb9⟩)
    go_ret
    exact ⟨by rw [Pg.xh HX.out HB.out HK.out.1];rfl,hb9⟩
  ·obtain rfl:k=L.length:=by omega
   have HN:Hid (Pg.ixF p L = -1):=Pg.oT fun y hy=>by
    obtain ⟨j,hj⟩:=List.mem_iff_getElem?.1 hy
    exact HK.out.1 j y (List.getElem?_eq_some_iff.1 hj).1 hj
   go_wp2
   go_ret
   exact ⟨by rw [HN.out];rfl,HK.out.2⟩
theorem pZ (w:World) (a:Option Addr) (c:Nat) (L:List Nat) (p:Nat→Bool) (B7 B3 B5:Nat) (hl:L.length≤1000) (hc:∀ (j x:Nat),L[j]?=some x→∃ g,a=some ⟨g,0,none⟩∧g<w.heap.size∧w.cell? ⟨g,j,none⟩=some (.pointer (some ⟨x,0,none⟩)))
  (hf:∀ (V:World) (x:Nat),Below w.heap.size w V→x∈L→Calls Tryz.prog 260 #[.pointer (some ⟨x,0,none⟩),.pointer (some ⟨B7,0,none⟩),.pointer (some ⟨B3,0,none⟩),.pointer (some ⟨B5,0,none⟩)] V fun e w'=>e = .returned (.bool (p x))∧Below w.heap.size w w') :
  Calls Tryz.prog 262 #[.slice a L.length c,.func (.func 260) #[] #[.pointer (some ⟨B7,0,none⟩),.pointer (some ⟨B3,0,none⟩),.pointer (some ⟨B5,0,none⟩)]] w fun e w'=>e = .returned (.bool (L.any p))∧Below w.heap.size w w':=by
 have hix:=nJ w a c L p B7 B3 B5 hl hc hf
 have hge:(decide ((Pg.ixF p L)≥0))=L.any p:=by
  clear hix hf hc hl
  induction L with
  | nil=>rfl
  | cons x L ih =>
   unfold Pg.ixF
   rw [List.any_cons]
   cases hp:p x
   ·rw [if_neg (by decide),Bool.false_or,← ih]
    split
    ·rename_i h
     rw [h]
    ·rename_i h
     have:Pg.ixF p L≥0∨Pg.ixF p L = -1:=by
      clear ih h hp
      induction L with
      | nil=>exact .inr rfl
      | cons y L ih2 =>
       unfold Pg.ixF
       split
       ·exact .inl (by omega)
       ·split
        ·exact .inr rfl
        ·rename_i h2
         rcases ih2 with h3 | h3
         ·exact .inl (by omega)
         ·exact absurd h3 h2
     have h4:Pg.ixF p L≥0:=this.resolve_right h
     simp [h4]
     omega
   ·rw [if_pos rfl,Bool.true_or]
    rfl
 generalize L.any p=bb at *
 generalize Pg.ixF p L=ix at *
 have hge2:decide (0≤ix)=bb:=hge
 clear hc hf hge
 go_enter Tryz.func262,Tryz.ntmps262
 go_wp2_with (go_at_call 283;refine hix.mono ?_;rintro e w9 ⟨rfl,hb9⟩)
 go_ret
 exact ⟨by rw [← hge2];rfl,hb9⟩
end
end Go.Proofs.YtegmoddppafkfaaGreatDoor
