import Derived.Test.YtegmoddppafkfaaGreatDoorM00
import Derived.Test.YtegmoddppafkfaaGreatDoorM09
set_option maxRecDepth 100000
set_option maxHeartbeats 8000000
namespace Go.Proofs.YtegmoddppafkfaaGreatDoor
section
open Go.RowKit Go.Proofs Go.Shelf
attribute [local go_sem] Oper.semAt_some
namespace Pg
def oz (ps:List PS) (fin:Nat) (s:RSt) (i:Nat):RSt:=match ps[i]? with
 | none=>s
 | some p=>if p.owner == -1 then { s with fin:=5 } else match ps[p.owner.toNat]? with
  | none=>s
  | some q=>if q.owner == -1 then { s with q:=s.q++[q.done] } else match ps[q.owner.toNat]? with
   | none=>{ s with q:=s.q++[q.done] }
   | some r=>if r.kind == 1&&atEnd ps fin s.act ps.length q.owner.toNat then { s with q:=s.q++[q.done]++[r.done] } else { s with q:=s.q++[q.done] }
theorem qN (ps:List PS) (fin:Nat) (s:RSt) (i:Nat):(oz ps fin s i).act=s.act∧(oz ps fin s i).tm=s.tm∧(oz ps fin s i).now=s.now∧(oz ps fin s i).kept=s.kept∧(oz ps fin s i).q.length≤s.q.length+2:=by
 unfold oz
 cases ps[i]? with
 | none=>simp
 | some p =>
  dsimp only
  split
  ·simp
  ·cases ps[p.owner.toNat]? with
   | none=>simp
   | some q =>
    dsimp only
    split
    ·simp
    ·cases ps[q.owner.toNat]? with
     | none=>simp
     | some r =>
      dsimp only
      split <;> simp
structure fw (w:World) (lo pb b cap:Nat) (ps:List PS) (fin:Nat) (EN LV:Nat→List PA):Prop where
 cX:dq w pb b cap ps
 pb':pb<lo
 b':b<lo
 f2:w.cell? ⟨pb,2,none⟩=some (.int .u32 fin)
 finl:fin<4294967296
 own:∀ (i:Nat) (p:PS),ps[i]?=some p→p.owner = -1∨∃ o:Nat,p.owner=o∧o<i
 pts:∀ (i:Nat) (p:PS),ps[i]?=some p→∀ j∈els p.parts,i<j∧j<ps.length
 en:∀ (i:Nat) (p:PS),ps[i]?=some p→dx w lo p.enter (EN i)
 lv:∀ (i:Nat) (p:PS),ps[i]?=some p→dx w lo p.leave (LV i)
 lw:Lw lo
 nf:∀ (i:Nat) (p:PS),ps[i]?=some p→(p.kind == 2)=false
theorem fw.below {w w':World} {lo pb b cap:Nat} {ps:List PS} {fin:Nat} {EN LV:Nat→List PA} (h:fw w lo pb b cap ps fin EN LV) (hb:Below lo w w'):fw w' lo pb b cap ps fin EN LV :=
 ⟨h.cX.below hb h.pb' h.b',h.pb',h.b',(hb.cell (p:=⟨pb,2,none⟩) h.pb').trans h.f2,h.finl,h.own,h.pts,fun i p hp=>(h.en i p hp).below hb,fun i p hp=>(h.lv i p hp).below hb,h.lw,h.nf⟩
def iX (ps:List PS) (fin:Nat) (EN:Nat→List PA) (r:RSt) (i:Nat):RSt :=
 let r2:=doL { r with act:=r.act|||2 ^ i } (EN i)
 match ps[i]? with
 | some p=>if p.kind == 2 then oz ps fin r2 i else r2
 | none=>r2
def bY (ps:List PS) (fin:Nat) (EN:Nat→List PA) (r:RSt) (l:List Nat):RSt:=l.foldl (iX ps fin EN) r
theorem um (ps:List PS) (fin:Nat) (EN:Nat→List PA) (r:RSt) (l:List Nat) (i:Nat):bY ps fin EN r (l++[i])=iX ps fin EN (bY ps fin EN r l) i:=by unfold bY;rw [List.foldl_append];rfl
theorem AJ (r:RSt) (a:PA):(iT r a).act=r.act:=by
 cases a <;> simp only [iT,ig] <;> (try split) <;> rfl
theorem nK:∀ (L:List PA) (r:RSt),(doL r L).act=r.act
 | [],_=>rfl
 | x::L,r=>(nK L (iT r x)).trans (AJ r x)
theorem Fj {w:World} {lo pb b cap:Nat} {ps:List PS} {fin:Nat} {EN LV:Nat→List PA} (h:fw w lo pb b cap ps fin EN LV) (r:RSt) {i:Nat} (hi:i<ps.length):(iX ps fin EN r i).q.length≤r.q.length+1048578:=by
 obtain ⟨p,hp⟩:∃ p,ps[i]?=some p:=⟨_,List.getElem?_eq_getElem hi⟩
 have h1:=(h.en i p hp).len
 have h2:=qI { r with act:=r.act|||2 ^ i } (EN i)
 have h3:=(qN ps fin (doL { r with act:=r.act|||2 ^ i } (EN i)) i).2.2.2.2
 have h4:({ r with act:=r.act|||2 ^ i }:RSt).q=r.q:=rfl
 rw [h4] at h2
 unfold iX
 dsimp only
 rw [hp]
 dsimp only
 split <;> omega
theorem lr {w:World} {lo pb b cap:Nat} {ps:List PS} {fin:Nat} {EN LV:Nat→List PA} (h:fw w lo pb b cap ps fin EN LV):∀ (l:List Nat) (r:RSt),(∀ i∈l,i<ps.length)→(bY ps fin EN r l).q.length≤r.q.length+l.length*1048578
 | [],_,_=>by simp [bY]
 | i::l,r,hl=>by
  have h1:=Fj h r (hl i (List.mem_cons_self ..))
  have h2:=lr h l (iX ps fin EN r i) (fun j hj=>hl j (List.mem_cons_of_mem _ hj))
  show (bY ps fin EN (iX ps fin EN r i) l).q.length≤_
  rw [List.length_cons]
  omega
end Pg
theorem Pg.MT.gr {W W':World} {row:Option Nat} {lo mb pb:Nat} {r:Pg.RSt} (h:Pg.MT W lo mb pb r) (hl:Pg.Lw lo) (hg:W.grownBy W' row) (hr:∀ r,row=some r→lo≤r∧∃ o:Obj,W.heap[r]?=some o∧o.isCells=false):Pg.MT W' lo mb pb r:=by
 obtain ⟨qv,wh,a,b⟩:=h.ex
 have hb:Below lo W W':=⟨hg.os,hg.tape,hg.output,hg.size,fun k hk=>hg.block k (by have:=h.lo';omega) (fun e=>by have:=(hr k e.symm).1;omega)⟩
 exact ⟨⟨qv,wh,a.gr hg (fun r e=>(hr r e).2),b.kd (Pg.jH (E:=fun _=>False) hg (fun r e=>(hr r e).2)) (fun h=>h) rfl rfl⟩,Nat.le_trans h.lo' hg.size,h.act,h.now,h.tml,Pg.fq hl hb h.tab,Pg.bT hl hb h.tab5⟩
theorem Pg.MT.Cs {W:World} {lo mb pb:Nat} {r:Pg.RSt} (h:Pg.MT W lo mb pb r) (hl:Pg.Lw lo) (a:Nat) (ha:a<4294967296):Pg.MT (W.setCell ⟨mb,1,none⟩ (.int .u32 a)) lo mb pb { r with act:=a }∧Pg.Rf lo W (W.setCell ⟨mb,1,none⟩ (.int .u32 a)):=by
 obtain ⟨qv,wh,m,b⟩:=h.ex
 have hM:Pg.aw (W.setCell ⟨mb,1,none⟩ (.int .u32 a)) lo mb pb qv (({ r with act:=a }:Pg.RSt).m wh):=m.set 1 _ _ (by decide) rfl (fun j hj=>by
  by_cases e:j=1
  ·subst e
   rfl
  ·rw [if_neg e]
   unfold Pg.fE
   split
   ·rfl
   ·rfl)
 have hR:Pg.Rq lo W (W.setCell ⟨mb,1,none⟩ (.int .u32 a)):=Pg.RfE.mo (P:=(· = mb)) ((Mo.refl _ _).set _ _ rfl) (fun k hk=>by
  obtain ⟨arr,a1,_⟩:=m.blk
  subst hk
  exact ⟨m.lo',arr,_,_,a1,.inl rfl⟩) h.lo'
 exact ⟨h.rq hl b hM hR rfl rfl ha,Pg.pq hR⟩
theorem Pg.MT.c0 {W:World} {lo mb pb:Nat} {r:Pg.RSt} (h:Pg.MT W lo mb pb r):W.cell? ⟨mb,0,none⟩=some (.pointer (some ⟨pb,0,none⟩))∧W.cell? ⟨mb,1,none⟩=some (.int .u32 r.act)∧∀ i,W.frozen? ⟨mb,i,none⟩=false:=by
 obtain ⟨qv,wh,m,b⟩:=h.ex
 exact ⟨m.cell 0 (by decide),m.cell 1 (by decide),m.frozen⟩
theorem qK (w:World) (lo mb pb b cap:Nat) (r:Pg.RSt) (ps:List Pg.PS) (fin s:Nat) (EN LV:Nat→List Pg.PA) (hP:Pg.fw w lo pb b cap ps fin EN LV) (h:Pg.MT w lo mb pb r) (hs:s<4294967296) (hin:∀ i∈Pg.els s,i<ps.length) (hql:r.q.length≤4397000000000) :
  Calls Tryz.prog 112 #[.pointer (some ⟨mb,0,none⟩),.int .u32 s] w fun e w'=>e = .returned (.tuple #[])∧Pg.MT w' lo mb pb (Pg.bY ps fin EN r (Pg.els s))∧Pg.Rf lo w w':=by
 refine (callsIn_wide (n:=8)).1 ?_
 have hlo:=h.lo'
 refine callsIn_of_wp_marks Tryz.func112 rfl trivial ?_ rfl
 simp only [Tryz.ntmps112,List.size_toArray,List.length_cons,List.length_nil,Nat.reduceAdd,Nat.reduceSub,Array.replicate_succ,Array.replicate_zero,List.push_toArray,List.append_toArray,List.nil_append,List.cons_append]
 gi_wp2_with (refine ⟨trivial,?_⟩;gi_at_call 150;refine (callsIn_wide.2 (dN s _)).mono ?_;rintro e w9 ⟨rfl,hw9⟩;rw [hw9];clear hw9 w9)
 have b0:=(Boxed.new w 92 (.pointer (some ⟨mb,0,none⟩))).alloc (.cells #[.int .u32 s] 139)
 have b1:=Boxed.new (w.alloc (.cells #[.pointer (some ⟨mb,0,none⟩)] 92)) 139 (.int .u32 s)
 simp only [World.size_alloc] at b1
 have hB0:Below w.heap.size w ((w.alloc (.cells #[.pointer (some ⟨mb,0,none⟩)] 92)).alloc (.cells #[.int .u32 s] 139)):=((Below.refl _ w).alloc (Nat.le_refl _) _).alloc (by simp) _
 have hs0:((w.alloc (.cells #[.pointer (some ⟨mb,0,none⟩)] 92)).alloc (.cells #[.int .u32 s] 139)).heap.size=w.heap.size+2:=by simp
 generalize (w.alloc (.cells #[.pointer (some ⟨mb,0,none⟩)] 92)).alloc (.cells #[.int .u32 s] 139)=W0 at *
 have h0:=h.below hP.lw hB0
 have hlw:=hP.lw
 have hg5:=hP.lw.g5
 have hlen:=hP.cX.len
 have hnty:¬ Pg.b8 92:=by unfold Pg.b8;decide
 refine lu (by omega) (w.heap.size+1) s hs rfl (by omega) (by omega) b1.cell h0.tab5 rfl
  (fun pre V=>Pg.MT V lo mb pb (Pg.bY ps fin EN r (Pg.aS pre))∧Boxed V w.heap.size 92 (.pointer (some ⟨mb,0,none⟩))∧Pg.Rf lo w V) (fun _ _ _=>False)
  (OwnFrom.and (fun pre A C row h hg hr=>h.gr hlw hg (fun r e=>⟨by have:=(hr r e).1;omega,(hr r e).2⟩)) (OwnFrom.and (Own.from (boxed_own _ _ _) _) (fun pre A C row h hg hr=>h.gr hlo hg (fun r e=>⟨by have:=(hr r e).1;omega,(hr r e).2⟩))))
  (fun _ _ _ _ _ hs _ _=>hs) ⟨h0,b0,Pg.RfE.of hB0 hlo⟩
  (fun x a' _=>a'={ tmps:=#[.pointer (some ⟨mb,0,none⟩),.int .u32 s,.pointer (some ⟨w.heap.size,0,none⟩),undef,.int .i64 x.1,undef,.int .u32 s,.func (.func 187) #[] #[.pointer (some ⟨w.heap.size+1,0,none⟩)],.int .i64 x.1,undef,undef,undef,undef,undef,undef,undef,undef,undef,undef,undef,undef,undef,undef,undef,undef,undef,undef,undef,undef,undef,undef,undef,undef,undef,undef,undef,undef,undef,undef,undef,undef],defers:=[] }) (fun _ _ _ _ _ _ hs _ _=>hs) ?assign ?body ?done ?stop
 case assign =>
  intro l pre x V K hI hK
  gi_wp2
  exact hK _ _ (KeepsFrom.refl _ _) (fun h=>h) hI rfl
 case body =>
  rintro l pre x a' V hl ⟨rl,hrl⟩ ⟨hM,hb,hR⟩ rfl hpl
  have hi:=hin x.1 x.2
  have hi32:=(Pg.lE.1 x.2).1
  obtain ⟨p,hp⟩:∃ p,ps[x.1]?=some p:=⟨_,List.getElem?_eq_getElem hi⟩
  have hq0:=Pg.lr hP (Pg.aS pre) r (fun i hi=>hin i (by
   rw [Pg.cn] at hi
   obtain ⟨y,_,rfl⟩:=List.mem_map.1 hi
   exact y.2))
  have hvl:(Pg.aS pre).length=pre.length:=by rw [Pg.cn,List.length_map]
  rw [hvl] at hq0
  obtain ⟨R0,hR0⟩:∃ R0,Pg.bY ps fin EN r (Pg.aS pre)=R0:=⟨_,rfl⟩
  have HSN:Hid (Pg.bY ps fin EN r (Pg.aS (pre++[x]))=Pg.iX ps fin EN R0 x.1):=by
   unfold Hid
   rw [Pg.dW,Pg.um,hR0]
  rw [hR0] at hM hq0
  clear hR0
  have hPV:=hP.below hR.bel
  obtain ⟨m0,m1,mf⟩:=hM.c0
  have hbc:=hb.cell
  have hrow:=hPV.cX.row
  have hlV:=hM.lo'
  have hact:=hM.act
  have h2:=fk hi32
  have hor:=u32_or_nat R0.act (2 ^ x.1) hact h2
  have horl:R0.act|||2 ^ x.1<4294967296:=by
   have:=Nat.or_lt_two_pow (n:=32) (x:=R0.act) (y:=2 ^ x.1) (by omega) (by omega)
   omega
  obtain ⟨A1,hA1⟩:∃ A1,R0.act|||2 ^ x.1=A1:=⟨_,rfl⟩
  rw [hA1] at hor horl
  rw [← jm] at hor
  have hBd:=(Below.refl V.heap.size V).drew
  obtain ⟨hM1,hR1⟩:=(hM.below hlw hBd).Cs hlw A1 horl
  have hRV1:Pg.Rf lo V (V.drew.setCell ⟨mb,1,none⟩ (.int .u32 A1)):=(Pg.RfE.of hBd hlV).trans hR1
  have q0:V.drew.cell? ⟨w.heap.size,0,none⟩=_:=hbc
  have q1:V.drew.cell? ⟨mb,1,none⟩=_:=m1
  have qf:V.drew.frozen? ⟨mb,1,none⟩=false:=mf 1
  have hone:=ia x.1 V.drew hi32
  have hxi:((x.1:Int)<(ps.length:Int)):=by omega
  have hd1:1≤8-1-1:=by omega
  gi_wp2
  refine aF (cT l) 9 (by kernel_rfl) (by kernel_rfl) (by kernel_rfl) ?_
  simp only [List.take_succ_cons,List.take_zero,List.drop_succ_cons,List.drop_zero]
  iterate 5 still_step
  still_call hone
  iterate 3 still_step
  refine wpStill_nil ?_
  gi_wp2
  have hM1:Pg.MT (V.setCell ⟨mb,1,none⟩ (.int .u32 A1)).drew lo mb pb { R0 with act:=A1 }:=hM1
  have hRV1:Pg.Rf lo V (V.setCell ⟨mb,1,none⟩ (.int .u32 A1)).drew:=hRV1
  generalize (V.setCell ⟨mb,1,none⟩ (.int .u32 A1)).drew=V1 at *
  have HE:Hid (Pg.iX ps fin EN R0 x.1=if p.kind == 2 then Pg.oz ps fin (Pg.doL { R0 with act:=A1 } (EN x.1)) x.1 else Pg.doL { R0 with act:=A1 } (EN x.1)):=by
   unfold Hid Pg.iX
   dsimp only
   rw [hA1,hp]
  clear q0 q1 qf hone hor hA1 hM m0 m1 mf hbc hrow hR1
  have hb1:Boxed V1 w.heap.size 92 (.pointer (some ⟨mb,0,none⟩)):=Kd.boxed hRV1.kd hb hnty
  have hP1:=hPV.below hRV1.bel
  have hB1:=(Below.refl V1.heap.size V1).drew
  have hl1:=hM1.lo'
  have hdo:=wo V1.drew lo mb pb { R0 with act:=A1 } p.enter (EN x.1) hlw (hM1.below hlw hB1) ((hP1.en x.1 p hp).below (hB1.mono hl1)) (by show R0.q.length≤_;omega)
  have hdq:=Pg.qI { R0 with act:=A1 } (EN x.1)
  have hdq1:=(hP.en x.1 p hp).len
  have hdq2:(Pg.doL { R0 with act:=A1 } (EN x.1)).q.length≤4398046511000:=by
   have:({ R0 with act:=A1 }:Pg.RSt).q=R0.q:=rfl
   rw [this] at hdq
   omega
  clear hdq hdq1
  obtain ⟨R2,hR2⟩:∃ R2,Pg.doL { R0 with act:=A1 } (EN x.1)=R2:=⟨_,rfl⟩
  rw [hR2] at hdo hdq2 HE
  clear hR2
  have q0:V1.drew.cell? ⟨w.heap.size,0,none⟩=_:=hb1.cell
  have q8:V1.drew.cell? ⟨b,x.1*10+8,none⟩=some p.enter.v:=(hP1.cX.at' x.1 p hp).c8
  unfold Ref.Sl.v at q8 hdo
  obtain ⟨ea,en,ec⟩:∃ q:Ref.Sl,q=p.enter:=⟨_,rfl⟩
  have HFIN:Hid (∀ w2,Pg.MT w2 lo mb pb R2→Pg.Rf lo V1.drew w2→w2.cell? ⟨w.heap.size,0,none⟩=some (.pointer (some ⟨mb,0,none⟩))∧w2.cell? ⟨b,x.1*10,none⟩=some (.int .i64 p.kind)∧(p.kind == 2→Calls Tryz.prog 153 #[.pointer (some ⟨mb,0,none⟩),.pointer (some ⟨b,x.1*10,none⟩)] w2 fun e w'=>e = .returned (.tuple #[])∧KeepsFrom W0.heap.size V w'∧Pg.KpT V w'∧Pg.MT w' lo mb pb (Pg.bY ps fin EN r (Pg.aS (pre++[x])))∧Boxed w' w.heap.size 92 (.pointer (some ⟨mb,0,none⟩))∧Pg.Rf lo w w')∧((p.kind == 2)=false→KeepsFrom W0.heap.size V w2∧Pg.KpT V w2∧Pg.MT w2 lo mb pb (Pg.bY ps fin EN r (Pg.aS (pre++[x])))∧Boxed w2 w.heap.size 92 (.pointer (some ⟨mb,0,none⟩))∧Pg.Rf lo w w2)):=fun w2 hM2 hR2=>by
   have hRV2:Pg.Rf lo V w2:=hRV1.trans ((Pg.RfE.of hB1 hl1).trans hR2)
   have hP2:=hPV.below hRV2.bel
   have hb2:Boxed w2 w.heap.size 92 (.pointer (some ⟨mb,0,none⟩)):=Kd.boxed hRV2.kd hb hnty
   have fin':∀ w',Pg.MT w' lo mb pb (Pg.iX ps fin EN R0 x.1)→Pg.Rf lo V w'→KeepsFrom W0.heap.size V w'∧Pg.KpT V w'∧Pg.MT w' lo mb pb (Pg.bY ps fin EN r (Pg.aS (pre++[x])))∧Boxed w' w.heap.size 92 (.pointer (some ⟨mb,0,none⟩))∧Pg.Rf lo w w':=fun w' hM' hR'=>⟨hR'.oth.from _,fun hT=>Pg.bT hlw hR'.bel hT,by rw [HSN.out];exact hM',Kd.boxed hR'.kd hb hnty,hR.trans hR'⟩
   refine ⟨hb2.cell,(hP2.cX.at' x.1 p hp).c0,fun hk => ?_,fun hk => ?_⟩
   ·exact absurd hk (by rw [hP.nf x.1 p hp];decide)
   ·have:=HE.out
    rw [if_neg (by rw [hk];decide)] at this
    exact fin' w2 (this ▸ hM2) hRV2
  clear hM1 hRV1 hb1 hP1 hPV hb
  refine aF (cT l) 5 (by kernel_rfl) (by kernel_rfl) (by kernel_rfl) ?_
  simp only [List.take_succ_cons,List.take_zero,List.drop_succ_cons,List.drop_zero]
  repeat still_step
  refine wpStill_nil ?_
  obtain ⟨kb,hkb⟩:∃ kb,(p.kind == 2)=kb:=⟨_,rfl⟩
  cases kb
  ·gi_wp2_with (refine ⟨trivial,?_⟩;gi_at_call 152;refine (aU hdo).mono ?_;intro e w2 h8;obtain ⟨rfl,h8,g8⟩:=h8;obtain ⟨f0,f1,_,f3⟩:=HFIN.out w2 h8 g8;have F3:Hid _:=f3 hkb;clear h8 g8 f3)
   exact F3.out
  ·exact absurd hkb (by rw [hP.nf x.1 p hp];decide)
 case done =>
  rintro D ys V hD hys ⟨hM,_,hR⟩ hdef
  rw [hys] at hM
  gi_wp2
  refine ⟨by simp,.inl ⟨_,_,rfl,run_takeDeferred hdef,?_⟩⟩
  exact ⟨_,results_none rfl _ _ _,rfl,hM.gr hlw (grownBy_putObj' V D _) (fun r e=>by cases e;exact ⟨by omega,_,hdef,rfl⟩),hR.gr hlo (grownBy_putObj' V D _) (fun r e=>by cases e;exact ⟨by omega,_,hdef,rfl⟩)⟩
 case stop =>
  rintro D c pre V _ _ h _
  exact h.elim
attribute [local go_sem] Oper.semAt_some
theorem Dr {n:Nat} (h1:2≤n) {g:Operand} {ps:Array Tmp} {assign body:Code} {Q:Exit→Act→World→Prop} {a:Act} {w:World} (Bs s:Nat) (hs:s<4294967296)
  (he:a.eval g = .func (.func 264) #[] #[.pointer (some ⟨Bs,0,none⟩)]) (hBs:Bs<w.heap.size) (hc:w.cell? ⟨Bs,0,none⟩=some (.int .u32 s)) (hps:1=ps.size)
  (I:List (Pg.In s)→World→Prop) (Ix:Code→List (Pg.In s)→World→Prop) (hI:OwnFrom w.heap.size I) (hIx:∀ c,OwnFrom w.heap.size (Ix c)) (h0:I [] w) (Ax:Pg.In s→Act→World→Prop) (hAx:∀ x a',OwnFrom w.heap.size (fun (_:Unit) W=>Ax x a' W))
  (hassign:∀ (l:Nat) (pre:List (Pg.In s)) (x:Pg.In s) (W:World) (K:Act→World→Prop),I pre W→(∀ a' W',KeepsFrom w.heap.size W W'→True→I pre W'→Ax x a' W'→K a' W') →
   assign.wpIn (Fence.wide.inRound l) (n-1-1) Tryz.prog (Exit.then K (fun _ _ _=>False)) { tmps:=(ps.zip #[Value.int .i64 (x.1:Int)]).foldl (fun t (p,v)=>t.setIfInBounds p v) a.tmps,defers:=[] } W)
  (hbody:∀ (l:Nat) (pre:List (Pg.In s)) (x:Pg.In s) (a':Act) (W:World),w.heap.size≤l→(∃ r,W.heap[l]?=some (.loop r))→I pre W→Ax x a' W→pre.length<32→body.wpIn (Fence.wide.inRound l) (n-1-1) Tryz.prog (ownPostG w.heap.size (fun _ _=>True) I Ix (pre++[x]) W) a' W)
  (hdone:∀ (D:Nat) (xs:List (Pg.In s)) (W:World),w.heap.size≤D→Pg.aS xs=(Pg.els s).reverse→I xs W→W.heap[D]?=some (.deferred (some []))→Q .normal { a with defers:={ target := .collected D,args:=#[] }::a.defers } W)
  (hstop:∀ (D:Nat) (c:Code) (pre:List (Pg.In s)) (W:World),w.heap.size≤D→Pg.aS pre <+: (Pg.els s).reverse→Ix c pre W→W.heap[D]?=some (.deferred (some []))→c.wpIn Fence.wide n Tryz.prog Q { a with defers:={ target := .collected D,args:=#[] }::a.defers } W) :
  (Code.rangeFunc g ps assign body).wpIn Fence.wide n Tryz.prog Q a w :=
 wpIn_rangeFunc_ownH rfl (by omega) (gf:=264) he trivial (enters_of Tryz.func264 (by kernel_rfl) rfl)
  (jz (n-1) (by omega) Bs s hs w hBs hc) (fun _ _=>trivial) (fun _ _ _ _ _ _ _ _=>trivial) (Below.refl _ _) (fun _=>hps)
  I Ix hI hIx h0 Ax hAx hassign hbody (fun D xs W hD hS=>hdone D xs W hD (by rw [Pg.cn];exact hS)) (fun D c pre W hD hS=>hstop D c pre W hD (by rw [Pg.cn];exact hS))
namespace Pg
def pY (LV:Nat→List PA) (r:RSt) (i:Nat):RSt:=let r1:=doL r (LV i);{ r1 with act:=r1.act&&&(4294967295-2 ^ i) }
def cW (LV:Nat→List PA) (r:RSt) (l:List Nat):RSt:=l.foldl (pY LV) r
theorem uM (LV:Nat→List PA) (r:RSt) (l:List Nat) (i:Nat):cW LV r (l++[i])=pY LV (cW LV r l) i:=by unfold cW;rw [List.foldl_append];rfl
theorem lA {w:World} {lo pb b cap:Nat} {ps:List PS} {fin:Nat} {EN LV:Nat→List PA} (h:fw w lo pb b cap ps fin EN LV):∀ (l:List Nat) (r:RSt),(∀ i∈l,i<ps.length)→(cW LV r l).q.length≤r.q.length+l.length*1048576
 | [],_,_=>by simp [cW]
 | i::l,r,hl=>by
  obtain ⟨p,hp⟩:∃ p,ps[i]?=some p:=⟨_,List.getElem?_eq_getElem (hl i (List.mem_cons_self ..))⟩
  have h0:=(h.lv i p hp).len
  have h1:=qI r (LV i)
  have h2:=lA h l (pY LV r i) (fun j hj=>hl j (List.mem_cons_of_mem _ hj))
  have h3:(pY LV r i).q=(doL r (LV i)).q:=rfl
  rw [h3] at h2
  show (cW LV (pY LV r i) l).q.length≤_
  rw [List.length_cons]
  omega
end Pg
theorem zG (w:World) (lo mb pb b cap:Nat) (r:Pg.RSt) (ps:List Pg.PS) (fin s:Nat) (EN LV:Nat→List Pg.PA) (hP:Pg.fw w lo pb b cap ps fin EN LV) (h:Pg.MT w lo mb pb r) (hs:s<4294967296) (hin:∀ i∈Pg.els s,i<ps.length) (hql:r.q.length≤4397000000000) :
  Calls Tryz.prog 193 #[.pointer (some ⟨mb,0,none⟩),.int .u32 s] w fun e w'=>e = .returned (.tuple #[])∧Pg.MT w' lo mb pb (Pg.cW LV r (Pg.els s).reverse)∧Pg.Rf lo w w':=by
 refine (callsIn_wide (n:=8)).1 ?_
 have hlo:=h.lo'
 refine callsIn_of_wp_marks Tryz.func193 rfl trivial ?_ rfl
 simp only [Tryz.ntmps193,List.size_toArray,List.length_cons,List.length_nil,Nat.reduceAdd,Nat.reduceSub,Array.replicate_succ,Array.replicate_zero,List.push_toArray,List.append_toArray,List.nil_append,List.cons_append]
 gi_wp2_with (refine ⟨trivial,?_⟩;gi_at_call 237;refine (callsIn_wide.2 (lg s _)).mono ?_;rintro e w9 ⟨rfl,hw9⟩;rw [hw9];clear hw9 w9)
 have b0:=(Boxed.new w 92 (.pointer (some ⟨mb,0,none⟩))).alloc (.cells #[.int .u32 s] 139)
 have b1:=Boxed.new (w.alloc (.cells #[.pointer (some ⟨mb,0,none⟩)] 92)) 139 (.int .u32 s)
 simp only [World.size_alloc] at b1
 have hB0:Below w.heap.size w ((w.alloc (.cells #[.pointer (some ⟨mb,0,none⟩)] 92)).alloc (.cells #[.int .u32 s] 139)):=((Below.refl _ w).alloc (Nat.le_refl _) _).alloc (by simp) _
 have hs0:((w.alloc (.cells #[.pointer (some ⟨mb,0,none⟩)] 92)).alloc (.cells #[.int .u32 s] 139)).heap.size=w.heap.size+2:=by simp
 generalize (w.alloc (.cells #[.pointer (some ⟨mb,0,none⟩)] 92)).alloc (.cells #[.int .u32 s] 139)=W0 at *
 have h0:=h.below hP.lw hB0
 have hlw:=hP.lw
 have hlen:=hP.cX.len
 have hnty:¬ Pg.b8 92:=by unfold Pg.b8;decide
 refine Dr (by omega) (w.heap.size+1) s hs rfl (by omega) b1.cell rfl
  (fun pre V=>Pg.MT V lo mb pb (Pg.cW LV r (Pg.aS pre))∧Boxed V w.heap.size 92 (.pointer (some ⟨mb,0,none⟩))∧Pg.Rf lo w V) (fun _ _ _=>False)
  (OwnFrom.and (fun pre A C row h hg hr=>h.gr hlw hg (fun r e=>⟨by have:=(hr r e).1;omega,(hr r e).2⟩)) (OwnFrom.and (Own.from (boxed_own _ _ _) _) (fun pre A C row h hg hr=>h.gr hlo hg (fun r e=>⟨by have:=(hr r e).1;omega,(hr r e).2⟩))))
  (fun _ _ _ _ _ hs _ _=>hs) ⟨h0,b0,Pg.RfE.of hB0 hlo⟩
  (fun x a' _=>a'={ tmps:=#[.pointer (some ⟨mb,0,none⟩),.int .u32 s,.pointer (some ⟨w.heap.size,0,none⟩),undef,.int .i64 x.1,.int .u32 s,.func (.func 264) #[] #[.pointer (some ⟨w.heap.size+1,0,none⟩)],.int .i64 x.1,undef,undef,undef,undef,undef,undef,undef,undef,undef,undef,undef,undef,undef,undef,undef,undef,undef,undef,undef,undef,undef,undef],defers:=[] }) (fun _ _ _ _ _ _ hs _ _=>hs) ?assign ?body ?done ?stop
 case assign =>
  intro l pre x V K hI hK
  gi_wp2
  exact hK _ _ (KeepsFrom.refl _ _) trivial hI rfl
 case body =>
  rintro l pre x a' V hl ⟨rl,hrl⟩ ⟨hM,hb,hR⟩ rfl hpl
  have hi:=hin x.1 x.2
  have hi32:=(Pg.lE.1 x.2).1
  obtain ⟨p,hp⟩:∃ p,ps[x.1]?=some p:=⟨_,List.getElem?_eq_getElem hi⟩
  have hq0:=Pg.lA hP (Pg.aS pre) r (fun i hi=>hin i (by
   rw [Pg.cn] at hi
   obtain ⟨y,_,rfl⟩:=List.mem_map.1 hi
   exact y.2))
  have hvl:(Pg.aS pre).length=pre.length:=by rw [Pg.cn,List.length_map]
  rw [hvl] at hq0
  obtain ⟨R0,hR0⟩:∃ R0,Pg.cW LV r (Pg.aS pre)=R0:=⟨_,rfl⟩
  have HSN:Hid (Pg.cW LV r (Pg.aS (pre++[x]))=Pg.pY LV R0 x.1):=by
   unfold Hid
   rw [Pg.dW,Pg.uM,hR0]
  rw [hR0] at hM hq0
  clear hR0
  have hPV:=hP.below hR.bel
  obtain ⟨m0,m1,mf⟩:=hM.c0
  have hBd:=(Below.refl V.heap.size V).drew
  have hlV:=hM.lo'
  have q0:V.drew.cell? ⟨w.heap.size,0,none⟩=_:=hb.cell
  have qm:V.drew.cell? ⟨mb,0,none⟩=_:=m0
  have qr:V.drew.cell? ⟨pb,0,none⟩=_:=hPV.cX.row
  have q9:V.drew.cell? ⟨b,x.1*10+9,none⟩=some p.leave.v:=(hPV.cX.at' x.1 p hp).c9
  have hdo:=wo V.drew lo mb pb R0 p.leave (LV x.1) hlw (hM.below hlw hBd) ((hPV.lv x.1 p hp).below (hBd.mono hlV)) (by omega)
  have hda:=Pg.nK (LV x.1) R0
  have hact:=hM.act
  have h2:=fk hi32
  have hxi:((x.1:Int)<(ps.length:Int)):=by omega
  have hd1:1≤8-1-1:=by omega
  unfold Ref.Sl.v at q9 hdo
  have HE:Hid (Pg.pY LV R0 x.1={ Pg.doL R0 (LV x.1) with act:=(Pg.doL R0 (LV x.1)).act&&&(4294967295-2 ^ x.1) }):=rfl
  obtain ⟨R2,hR2⟩:∃ R2,Pg.doL R0 (LV x.1)=R2:=⟨_,rfl⟩
  rw [hR2] at hdo HE hda
  have hact2:R2.act<4294967296:=by rw [hda];exact hact
  clear hR2 hda
  have hand:=u32_andNot_nat R2.act (2 ^ x.1) hact2 h2
  have handl:R2.act&&&(4294967295-2 ^ x.1)<4294967296:=Nat.lt_of_le_of_lt Nat.and_le_left hact2
  obtain ⟨A1,hA1⟩:∃ A1,R2.act&&&(4294967295-2 ^ x.1)=A1:=⟨_,rfl⟩
  rw [hA1] at hand handl HE
  rw [← jm] at hand
  clear hA1
  have HFIN:Hid (∀ w2,Pg.MT w2 lo mb pb R2→Pg.Rf lo V.drew w2→w2.drew.cell? ⟨w.heap.size,0,none⟩=some (.pointer (some ⟨mb,0,none⟩))∧w2.drew.cell? ⟨mb,1,none⟩=some (.int .u32 R2.act)∧w2.drew.frozen? ⟨mb,1,none⟩=false∧KeepsFrom W0.heap.size V (w2.drew.setCell ⟨mb,1,none⟩ (.int .u32 A1))∧True∧Pg.MT (w2.drew.setCell ⟨mb,1,none⟩ (.int .u32 A1)) lo mb pb (Pg.cW LV r (Pg.aS (pre++[x])))∧Boxed (w2.drew.setCell ⟨mb,1,none⟩ (.int .u32 A1)) w.heap.size 92 (.pointer (some ⟨mb,0,none⟩))∧Pg.Rf lo w (w2.drew.setCell ⟨mb,1,none⟩ (.int .u32 A1))):=fun w2 hM2 hR2=>by
   have hRV2:Pg.Rf lo V w2:=(Pg.RfE.of hBd hlV).trans hR2
   have hB2:=(Below.refl w2.heap.size w2).drew
   have hM2d:=hM2.below hlw hB2
   obtain ⟨_,c1,cf⟩:=hM2d.c0
   obtain ⟨hM3,hR3⟩:=hM2d.Cs hlw A1 handl
   have hRV3:=hRV2.trans ((Pg.RfE.of hB2 hM2.lo').trans hR3)
   exact ⟨(Kd.boxed hRV2.kd hb hnty:Boxed w2 _ _ _).cell,c1,cf 1,hRV3.oth.from _,trivial,by rw [HSN.out,HE.out];exact hM3,Kd.boxed hRV3.kd hb hnty,hR.trans hRV3⟩
  clear hM hb hPV hR m0 m1 mf
  gi_wp2
  refine aF (cT l) 12 (by kernel_rfl) (by kernel_rfl) (by kernel_rfl) ?_
  simp only [List.take_succ_cons,List.take_zero,List.drop_succ_cons,List.drop_zero]
  repeat still_step
  refine wpStill_nil ?_
  gi_wp2_with (refine ⟨trivial,?_⟩;gi_at_call 152;refine (aU hdo).mono ?_;intro e w2 h8;obtain ⟨rfl,h8,g8⟩:=h8;obtain ⟨f0,f1,f2,f3⟩:=HFIN.out w2 h8 g8;have F3:Hid _:=f3;clear h8 g8 f3)
  have hone:=ia x.1 w2.drew hi32
  refine aF (cT l) 9 (by kernel_rfl) (by kernel_rfl) (by kernel_rfl) ?_
  simp only [List.take_succ_cons,List.take_zero,List.drop_succ_cons,List.drop_zero]
  iterate 5 still_step
  still_call hone
  iterate 3 still_step
  refine wpStill_nil ?_
  gi_wp2
  exact F3.out
 case done =>
  rintro D ys V hD hys ⟨hM,_,hR⟩ hdef
  rw [hys] at hM
  gi_wp2
  refine ⟨by simp,.inl ⟨_,_,rfl,run_takeDeferred hdef,?_⟩⟩
  exact ⟨_,results_none rfl _ _ _,rfl,hM.gr hlw (grownBy_putObj' V D _) (fun r e=>by cases e;exact ⟨by omega,_,hdef,rfl⟩),hR.gr hlo (grownBy_putObj' V D _) (fun r e=>by cases e;exact ⟨by omega,_,hdef,rfl⟩)⟩
 case stop =>
  rintro D c pre V _ _ h _
  exact h.elim
theorem Kd.row {E:TypeId→Prop} {W W':World} {base size n:Nat} {e:TypeId} {v:Value} {xs:List Value} (hk:Kd E W W') (h:W.ownsRow base e size v n xs) (hE:¬ E e):W'.ownsRow base e size v n xs:=by
 refine ⟨h.1,?_⟩
 rcases h.2 with h' | ⟨k,cap,cur,hv,hb,hk',r⟩
 ·exact .inl h'
 ·exact .inr ⟨k,cap,cur,hv,hb,(hk.ax _ _ _ _ hk' hE).trans hk',r⟩
namespace Pg
def EG (ps:List PS) (act:Nat) (deep:Bool) (po:PS):Nat:=if deep then inn ps act&&&po.inside else act&&&po.parts
structure tJ (w:World) (pb:Nat) (ps:List PS) (hv:Ref.Sl) (H:List HV) (D:Nat→Bool):Prop where
 c1:w.cell? ⟨pb,1,none⟩=some hv.v
 row:w.ownsRow 0 313 3 hv.v H.length (H.flatMap HV.cells)
 ax:∀ (k:Nat) (h:HV),H[k]?=some h→h.idx<24∧h.own<ps.length∧∃ po,ps[h.own]?=some po∧mg w pb (D k) po h.ax
 len:H.length≤24
 nil:H=[]
theorem tJ.rf {w w':World} {lo pb:Nat} {ps:List PS} {hv:Ref.Sl} {H:List HV} {D:Nat→Bool} (h:tJ w pb ps hv H D) (hR:Rf lo w w') (hpb:pb<lo):tJ w' pb ps hv H D :=
 ⟨(hR.bel.cell (p:=⟨pb,1,none⟩) hpb).trans h.c1,Kd.row hR.kd h.row (by unfold b8;decide),fun k y hy=>by
  obtain ⟨a,b,po,c,d⟩:=h.ax k y hy
  exact ⟨a,b,po,c,d.kd hR.kd (by unfold b8;decide) (by unfold b8;decide)⟩,h.len,h.nil⟩
def pW (ps:List PS) (left:Nat) (D:Nat→Bool) (H:List HV) (r:RSt) (k:Nat):RSt:=match H[k]? with
 | none=>r
 | some h=>match ps[h.own]? with
  | none=>r
  | some po=>if left.testBit h.own then { r with kept:=upd r.kept h.idx (EG ps r.act (D k) po) } else r
def fB (ps:List PS) (left:Nat) (D:Nat→Bool) (H:List HV) (r:RSt) (n:Nat):RSt:=(List.range n).foldl (pW ps left D H) r
theorem oO (ps:List PS) (left:Nat) (D:Nat→Bool) (H:List HV) (r:RSt) (n:Nat):fB ps left D H r (n+1)=pW ps left D H (fB ps left D H r n) n:=by unfold fB;rw [List.range_succ,List.foldl_append];rfl
theorem zD (ps:List PS) (left:Nat) (D:Nat→Bool) (H:List HV) (r:RSt) (k:Nat):(pW ps left D H r k).act=r.act∧(pW ps left D H r k).q=r.q∧(pW ps left D H r k).tm=r.tm∧(pW ps left D H r k).now=r.now∧(pW ps left D H r k).fin=r.fin:=by
 unfold pW
 split
 ·simp
 ·split
  ·simp
  ·split <;> simp
theorem i6 (ps:List PS) (left:Nat) (D:Nat→Bool) (H:List HV) (r:RSt):∀ n,(fB ps left D H r n).act=r.act∧(fB ps left D H r n).q=r.q∧(fB ps left D H r n).tm=r.tm∧(fB ps left D H r n).now=r.now∧(fB ps left D H r n).fin=r.fin
 | 0=>⟨rfl,rfl,rfl,rfl,rfl⟩
 | n+1=>by
  obtain ⟨a,b,c,d,e⟩:=i6 ps left D H r n
  obtain ⟨a',b',c',d',e'⟩:=zD ps left D H (fB ps left D H r n) n
  rw [oO]
  exact ⟨a'.trans a,b'.trans b,c'.trans c,d'.trans d,e'.trans e⟩
end Pg
theorem Bz (w:World) (lo mb pb b cap:Nat) (r:Pg.RSt) (ps:List Pg.PS) (fin left:Nat) (EN LV:Nat→List Pg.PA) (hv:Ref.Sl) (H:List Pg.HV) (D:Nat→Bool) (hP:Pg.fw w lo pb b cap ps fin EN LV) (hH:Pg.tJ w pb ps hv H D) (h:Pg.MT w lo mb pb r) (_hs:left<4294967296) (_hin:∀ i∈Pg.els r.act,i<ps.length) :
  Calls Tryz.prog 192 #[.pointer (some ⟨mb,0,none⟩),.int .u32 left] w fun e w'=>e = .returned (.tuple #[])∧Pg.MT w' lo mb pb (Pg.fB ps left D H r H.length)∧Pg.Rf lo w w':=by
 have hlw:=hP.lw
 obtain ⟨m0,_,_⟩:=h.c0
 have hc1:=hH.c1
 have hHl:=hH.len
 have hnH:hv.n=H.length:=by
  rcases hH.row.2 with ⟨h0,h1⟩ | ⟨g,cap,cur,hv,_⟩
  ·unfold Ref.Sl.v at h0
   simp at h0
   omega
  ·unfold Ref.Sl.v at hv
   simp at hv
   exact hv.2.1
 obtain ⟨ha,hn,hc⟩:=hv
 dsimp only at hnH
 subst hnH
 unfold Ref.Sl.v at hc1
 have H0:Hid _:=h
 have HP:Hid _:=hP
 have HH:Hid _:=hH
 clear h hP hH
 go_enter Tryz.func192,Tryz.ntmps192
 go_wp2
 go_loopw [14] (fun i wr=>∃ k:Nat,i = .int .i64 k∧k≤H.length∧Hid (Pg.MT wr lo mb pb (Pg.fB ps left D H r k)∧Pg.Rf lo w wr)) (fun i _=>H.length-(intOf i).toNat)
 case atStart=>exact ⟨0,rfl,by omega,H0.out,Pg.RfE.refl _ _⟩
 case round =>
  obtain ⟨k,rfl,hkl,HM⟩:=hrel
  clear m0 hc1
  by_cases hk:k<H.length
  ·exact absurd hk (by rw [HH.out.nil];simp)
  ·obtain rfl:k=H.length:=by omega
   go_wp2
   go_end0
   exact ⟨rfl,HM.out⟩
namespace Pg
structure MvB (W:World) (m o l:Nat):Prop where
 c0:W.cell? ⟨m,0,none⟩=some (.int .i64 o)
 c1:W.cell? ⟨m,1,none⟩=some (.int .u32 l)
 hl:l<4294967296
 ty:∃ c,W.heap[m]?=some (.cells c 319 (0,0))
theorem MvB.lt {W:World} {m o l:Nat} (h:MvB W m o l):m<W.heap.size:=fU h.c0
theorem MvB.below {W W':World} {m o l:Nat} (h:MvB W m o l) (hb:Below W.heap.size W W'):MvB W' m o l:=⟨(hb.cell (p:=⟨m,0,none⟩) h.lt).trans h.c0,(hb.cell (p:=⟨m,1,none⟩) h.lt).trans h.c1,h.hl,by
 obtain ⟨c,hc⟩:=h.ty
 exact ⟨c,(hb.block m h.lt).trans hc⟩⟩
theorem MvB.mo {P:Nat→Prop} {W W':World} {m o l:Nat} (h:MvB W m o l) (hm:Mo P W W') (hn:¬ P m):MvB W' m o l:=⟨(hm.cell (p:=⟨m,0,none⟩) h.lt hn).trans h.c0,(hm.cell (p:=⟨m,1,none⟩) h.lt hn).trans h.c1,h.hl,by
 obtain ⟨c,hc⟩:=h.ty
 exact ⟨c,(hm.block m h.lt hn).trans hc⟩⟩
def fA (act l1 l2:Nat):Bool:=((l1&&&act)&&&(l2&&&act):Nat) != 0
structure TkB (W:World) (mb v B3 B5:Nat):Prop where
 b3:Boxed W B3 92 (.pointer (some ⟨mb,0,none⟩))
 b5:Boxed W B5 316 (.pointer (some ⟨v,0,none⟩))
theorem TkB.below {W W':World} {mb v B3 B5:Nat} (h:TkB W mb v B3 B5) (hb:Below W.heap.size W W'):TkB W' mb v B3 B5:=⟨aB h.b3 hb h.b3.lt,aB h.b5 hb h.b5.lt⟩
end Pg
theorem jI (w:World) (lo mb pb:Nat) (r:Pg.RSt) (m o l:Nat) (h:Pg.MT w lo mb pb r) (hm:Pg.MvB w m o l) :
  Calls Tryz.prog 191 #[.pointer (some ⟨mb,0,none⟩),.pointer (some ⟨m,0,none⟩)] w fun e w'=>e = .returned (.int .u32 ((l&&&r.act:Nat):Int))∧Below w.heap.size w w':=by
 obtain ⟨qv,wh,a,b⟩:=h.ex
 exact wN w lo mb pb qv (r.m wh) m l a h.act hm.hl hm.c1
theorem mT (w:World) (lo mb pb:Nat) (r:Pg.RSt) (t ot lt v ov lv B3 B5:Nat) (hl:Pg.Lw lo) (h:Pg.MT w lo mb pb r) (ht:Pg.MvB w t ot lt) (hv:Pg.MvB w v ov lv) (hb:Pg.TkB w mb v B3 B5) :
  Calls Tryz.prog 259 #[.pointer (some ⟨t,0,none⟩),.pointer (some ⟨B3,0,none⟩),.pointer (some ⟨B5,0,none⟩)] w fun e w'=>e = .returned (.bool (Pg.fA r.act lt lv))∧Below w.heap.size w w':=by
 have hlt:∀ V,Below w.heap.size w V→Calls Tryz.prog 191 #[.pointer (some ⟨mb,0,none⟩),.pointer (some ⟨t,0,none⟩)] V fun e w'=>e = .returned (.int .u32 ((lt&&&r.act:Nat):Int))∧Below w.heap.size w w':=fun V hV=>(jI V lo mb pb r t ot lt (h.below hl hV) (ht.below hV)).mono (fun e w' x=>⟨x.1,hV.trans (x.2.mono hV.size)⟩)
 have hlv:∀ V,Below w.heap.size w V→Calls Tryz.prog 191 #[.pointer (some ⟨mb,0,none⟩),.pointer (some ⟨v,0,none⟩)] V fun e w'=>e = .returned (.int .u32 ((lv&&&r.act:Nat):Int))∧Below w.heap.size w w':=fun V hV=>(jI V lo mb pb r v ov lv (h.below hl hV) (hv.below hV)).mono (fun e w' x=>⟨x.1,hV.trans (x.2.mono hV.size)⟩)
 have l1:lt&&&r.act<4294967296:=Nat.lt_of_le_of_lt Nat.and_le_left ht.hl
 have l2:lv&&&r.act<4294967296:=Nat.lt_of_le_of_lt Nat.and_le_left hv.hl
 have hand:=u32_and_nat _ _ l1 l2
 have hcl:Pg.fA r.act lt lv=(((((lt&&&r.act)&&&(lv&&&r.act):Nat):Nat):Int) != 0):=by
  unfold Pg.fA
  cases hx:((lt&&&r.act)&&&(lv&&&r.act):Nat) with
  | zero=>rfl
  | succ n=>simp;omega
 generalize lt&&&r.act=a1 at *
 generalize lv&&&r.act=a2 at *
 have HCL:Hid _:=hcl
 clear hcl
 have hne:((((a1&&&a2:Nat):Nat):Int) != 0)=Pg.fA r.act lt lv:=HCL.out.symm
 generalize Pg.fA r.act lt lv=cb at *
 generalize a1&&&a2=a3 at *
 have hkB:∀ V:World,Below w.heap.size w V→V.cell? ⟨B3,0,none⟩=some (.pointer (some ⟨mb,0,none⟩))∧V.cell? ⟨B5,0,none⟩=some (.pointer (some ⟨v,0,none⟩)):=fun V hV=>⟨(hb.below hV).b3.cell,(hb.below hV).b5.cell⟩
 have hBd:=(Below.refl w.heap.size w).drew
 obtain ⟨k1,k2⟩:=hkB _ hBd
 clear h ht hv hb l1 l2 HCL
 go_enter Tryz.func259,Tryz.ntmps259
 go_upto_region 1 with fail
 refine wp_region_held_drew (S:=(fun V=>V.cell? ⟨B3,0,none⟩=some (.pointer (some ⟨mb,0,none⟩))∧V.cell? ⟨B5,0,none⟩=some (.pointer (some ⟨v,0,none⟩)))) (by kernel_rfl) ⟨k1,k2⟩ (fun hHeld => ?_)
 refine tD (some 5) 0 (.pointer (some ⟨mb,0,none⟩)) rfl hHeld ?_
 refine tD (some 6) 1 (.pointer (some ⟨t,0,none⟩)) rfl hHeld ?_
 refine tD (some 8) 3 (.pointer (some ⟨mb,0,none⟩)) rfl hHeld ?_
 refine tD (some 9) 4 (.pointer (some ⟨v,0,none⟩)) rfl hHeld ?_
 refine zH 2 rfl fun K hK => ?_
 go_simp
 refine (hlt _ (by assumption)).mono ?_
 rintro e wA ⟨rfl,hA⟩
 refine hK.out _ _ (hkB wA hA) (fun hHeld => ?_)
 clear hK K
 refine zH 5 rfl fun K hK => ?_
 go_simp
 refine (hlv _ (by assumption)).mono ?_
 rintro e wA ⟨rfl,hA⟩
 refine hK.out _ _ (hkB wA hA) (fun hHeld => ?_)
 clear hK K
 refine tD (some 11) 6 (.int .u32 a3) rfl hHeld ?_
 refine tD (some 12) 7 (.bool cb) rfl hHeld ?_
 refine tD (some 4) 8 (.bool cb) rfl hHeld ?_
 refine wpAnyH_done (by kernel_rfl) ?_ _
 clear hHeld
 (try simp only [Act.put,List.setIfInBounds_toArray,List.set_cons_succ,List.set_cons_zero])
 go_wp2
 go_ret
 exact ⟨rfl,by assumption⟩
theorem xz (w:World) (lo mb pb b cap:Nat) (r:Pg.RSt) (ps:List Pg.PS) (fin:Nat) (EN LV:Nat→List Pg.PA) (t ot lt v ov lv B3 B5 B7:Nat) (pv:Pg.PS) (hP:Pg.fw w lo pb b cap ps fin EN LV) (h:Pg.MT w lo mb pb r) (ht:Pg.MvB w t ot lt) (hv:Pg.MvB w v ov lv) (hb:Pg.TkB w mb v B3 B5) (hpv:ps[ov]?=some pv) (hot:ot<32)
  (h7:Boxed w B7 415 (.func (.func 259) #[] #[.pointer (some ⟨B3,0,none⟩),.pointer (some ⟨B5,0,none⟩)])) :
  Calls Tryz.prog 260 #[.pointer (some ⟨t,0,none⟩),.pointer (some ⟨B7,0,none⟩),.pointer (some ⟨B3,0,none⟩),.pointer (some ⟨B5,0,none⟩)] w fun e w'=>e = .returned (.bool (Pg.fA r.act lt lv && !pv.around.testBit ot))∧Below w.heap.size w w':=by
 have hlw:=hP.lw
 have hlo:=h.lo'
 have hcl:∀ V,Below w.heap.size w V→Calls Tryz.prog 259 #[.pointer (some ⟨t,0,none⟩),.pointer (some ⟨B3,0,none⟩),.pointer (some ⟨B5,0,none⟩)] V fun e w'=>e = .returned (.bool (Pg.fA r.act lt lv))∧Below w.heap.size w w':=fun V hV=>(mT V lo mb pb r t ot lt v ov lv B3 B5 hlw (h.below hlw hV) (ht.below hV) (hv.below hV) (hb.below hV)).mono (fun e w' x=>⟨x.1,hV.trans (x.2.mono hV.size)⟩)
 have hii:∀ V,Below w.heap.size w V→Calls Tryz.prog 261 #[.pointer (some ⟨pb,0,none⟩),.int .i64 ov,.int .i64 ot] V fun e w'=>e = .returned (.bool (pv.around.testBit ot))∧Below w.heap.size w w':=fun V hV=>(Bu V pb b cap ps ov ot pv (hP.below (hV.mono hlo)).cX hpv hot).mono (fun e w' x=>⟨x.1,by rw [x.2];exact hV⟩)
 have hkB:∀ V:World,Below w.heap.size w V→V.cell? ⟨B7,0,none⟩=some (.func (.func 259) #[] #[.pointer (some ⟨B3,0,none⟩),.pointer (some ⟨B5,0,none⟩)])∧V.cell? ⟨B3,0,none⟩=some (.pointer (some ⟨mb,0,none⟩))∧V.cell? ⟨B5,0,none⟩=some (.pointer (some ⟨v,0,none⟩))∧V.cell? ⟨mb,0,none⟩=some (.pointer (some ⟨pb,0,none⟩))∧V.cell? ⟨v,0,none⟩=some (.int .i64 ov)∧V.cell? ⟨t,0,none⟩=some (.int .i64 ot):=fun V hV=>⟨(aB h7 hV h7.lt).cell,(hb.below hV).b3.cell,(hb.below hV).b5.cell,(h.below hlw hV).c0.1,(hv.below hV).c0,(ht.below hV).c0⟩
 have hBd:=(Below.refl w.heap.size w).drew
 obtain ⟨k1,k2,k3,k4,k5,k6⟩:=hkB _ hBd
 generalize Pg.fA r.act lt lv=cb at *
 generalize pv.around.testBit ot=ab at *
 clear h ht hv hb h7 hP
 cases cb
 ·go_enter Tryz.func260,Tryz.ntmps260
  go_upto_region 1 with fail
  refine wp_region_held_drew (S:=(fun V=>V.cell? ⟨B7,0,none⟩=some (.func (.func 259) #[] #[.pointer (some ⟨B3,0,none⟩),.pointer (some ⟨B5,0,none⟩)])∧V.cell? ⟨B3,0,none⟩=some (.pointer (some ⟨mb,0,none⟩))∧V.cell? ⟨B5,0,none⟩=some (.pointer (some ⟨v,0,none⟩))∧V.cell? ⟨mb,0,none⟩=some (.pointer (some ⟨pb,0,none⟩))∧V.cell? ⟨v,0,none⟩=some (.int .i64 ov)∧V.cell? ⟨t,0,none⟩=some (.int .i64 ot))) (by kernel_rfl) ⟨k1,k2,k3,k4,k5,k6⟩ (fun hHeld => ?_)
  refine tD (some 6) 0 (.func (.func 259) #[] #[.pointer (some ⟨B3,0,none⟩),.pointer (some ⟨B5,0,none⟩)]) rfl hHeld ?_
  refine tD (some 7) 1 (.pointer (some ⟨t,0,none⟩)) rfl hHeld ?_
  refine zH 2 rfl fun K hK => ?_
  go_simp
  refine (hcl _ (by assumption)).mono ?_
  rintro e wA ⟨rfl,hA⟩
  refine hK.out _ _ (hkB wA hA) (fun hHeld => ?_)
  clear hK K
  refine tD (some 9) 3 (.bool false) rfl hHeld ?_
  refine tU (some 10) 4 rfl hHeld ?_
  refine tU (some 11) 5 rfl hHeld ?_
  refine tU (some 12) 6 rfl hHeld ?_
  refine tU (some 13) 7 rfl hHeld ?_
  refine tU (some 14) 8 rfl hHeld ?_
  refine tU (some 15) 9 rfl hHeld ?_
  refine tU (some 16) 10 rfl hHeld ?_
  refine tU (some 17) 11 rfl hHeld ?_
  refine tU (some 18) 12 rfl hHeld ?_
  refine tU (some 19) 13 rfl hHeld ?_
  refine tU (some 20) 14 rfl hHeld ?_
  refine tU (some 21) 15 rfl hHeld ?_
  refine tU (some 22) 16 rfl hHeld ?_
  refine tU (some 23) 17 rfl hHeld ?_
  refine tD (some 24) 18 (.bool false) rfl hHeld ?_
  refine tD (some 5) 19 (.bool false) rfl hHeld ?_
  refine wpAnyH_done (by kernel_rfl) ?_ _
  clear hHeld
  (try simp only [Act.put,List.setIfInBounds_toArray,List.set_cons_succ,List.set_cons_zero])
  go_wp2
  go_ret
  exact ⟨rfl,by assumption⟩
 ·go_enter Tryz.func260,Tryz.ntmps260
  go_upto_region 1 with fail
  refine wp_region_held_drew (S:=(fun V=>V.cell? ⟨B7,0,none⟩=some (.func (.func 259) #[] #[.pointer (some ⟨B3,0,none⟩),.pointer (some ⟨B5,0,none⟩)])∧V.cell? ⟨B3,0,none⟩=some (.pointer (some ⟨mb,0,none⟩))∧V.cell? ⟨B5,0,none⟩=some (.pointer (some ⟨v,0,none⟩))∧V.cell? ⟨mb,0,none⟩=some (.pointer (some ⟨pb,0,none⟩))∧V.cell? ⟨v,0,none⟩=some (.int .i64 ov)∧V.cell? ⟨t,0,none⟩=some (.int .i64 ot))) (by kernel_rfl) ⟨k1,k2,k3,k4,k5,k6⟩ (fun hHeld => ?_)
  refine tD (some 6) 0 (.func (.func 259) #[] #[.pointer (some ⟨B3,0,none⟩),.pointer (some ⟨B5,0,none⟩)]) rfl hHeld ?_
  refine tD (some 7) 1 (.pointer (some ⟨t,0,none⟩)) rfl hHeld ?_
  refine zH 2 rfl fun K hK => ?_
  go_simp
  refine (hcl _ (by assumption)).mono ?_
  rintro e wA ⟨rfl,hA⟩
  refine hK.out _ _ (hkB wA hA) (fun hHeld => ?_)
  clear hK K
  refine tD (some 9) 3 (.bool true) rfl hHeld ?_
  refine gH (d:=some 10) (i:=4) (v:=(.pointer (some ⟨mb,0,none⟩))) rfl rfl (by kernel_rfl) (by kernel_rfl) (by kernel_rfl) (fun _ _ _ h=>h) (Or.inl ⟨by kernel_rfl,fun w hSw=>by (try dsimp only at hSw);go_simp;(try with_reducible rfl)⟩) hHeld ?_
  refine gH (d:=some 11) (i:=5) (v:=(.pointer (some ⟨mb,0,none⟩))) rfl rfl (by kernel_rfl) (by kernel_rfl) (by kernel_rfl) (fun _ _ _ h=>h) (Or.inl ⟨by kernel_rfl,fun w hSw=>by (try dsimp only at hSw);go_simp;(try with_reducible rfl)⟩) hHeld ?_
  refine gH (d:=some 12) (i:=6) (v:=(.pointer (some ⟨mb,0,none⟩))) rfl rfl (by kernel_rfl) (by kernel_rfl) (by kernel_rfl) (fun _ _ _ h=>h) (Or.inl ⟨by kernel_rfl,fun w hSw=>by (try dsimp only at hSw);go_simp;(try with_reducible rfl)⟩) hHeld ?_
  refine gH (d:=some 13) (i:=7) (v:=(.pointer (some ⟨pb,0,none⟩))) rfl rfl (by kernel_rfl) (by kernel_rfl) (by kernel_rfl) (fun _ _ _ h=>h) (Or.inl ⟨by kernel_rfl,fun w hSw=>by (try dsimp only at hSw);go_simp;(try with_reducible rfl)⟩) hHeld ?_
  refine gH (d:=some 14) (i:=8) (v:=(.pointer (some ⟨v,0,none⟩))) rfl rfl (by kernel_rfl) (by kernel_rfl) (by kernel_rfl) (fun _ _ _ h=>h) (Or.inl ⟨by kernel_rfl,fun w hSw=>by (try dsimp only at hSw);go_simp;(try with_reducible rfl)⟩) hHeld ?_
  refine gH (d:=some 15) (i:=9) (v:=(.pointer (some ⟨v,0,none⟩))) rfl rfl (by kernel_rfl) (by kernel_rfl) (by kernel_rfl) (fun _ _ _ h=>h) (Or.inl ⟨by kernel_rfl,fun w hSw=>by (try dsimp only at hSw);go_simp;(try with_reducible rfl)⟩) hHeld ?_
  refine gH (d:=some 16) (i:=10) (v:=(.pointer (some ⟨v,0,none⟩))) rfl rfl (by kernel_rfl) (by kernel_rfl) (by kernel_rfl) (fun _ _ _ h=>h) (Or.inl ⟨by kernel_rfl,fun w hSw=>by (try dsimp only at hSw);go_simp;(try with_reducible rfl)⟩) hHeld ?_
  refine gH (d:=some 17) (i:=11) (v:=(.int .i64 ov)) rfl rfl (by kernel_rfl) (by kernel_rfl) (by kernel_rfl) (fun _ _ _ h=>h) (Or.inl ⟨by kernel_rfl,fun w hSw=>by (try dsimp only at hSw);go_simp;(try with_reducible rfl)⟩) hHeld ?_
  refine gH (d:=some 18) (i:=12) (v:=(.pointer (some ⟨t,0,none⟩))) rfl rfl (by kernel_rfl) (by kernel_rfl) (by kernel_rfl) (fun _ _ _ h=>h) (Or.inl ⟨by kernel_rfl,fun w hSw=>by (try dsimp only at hSw);go_simp;(try with_reducible rfl)⟩) hHeld ?_
  refine gH (d:=some 19) (i:=13) (v:=(.pointer (some ⟨t,0,none⟩))) rfl rfl (by kernel_rfl) (by kernel_rfl) (by kernel_rfl) (fun _ _ _ h=>h) (Or.inl ⟨by kernel_rfl,fun w hSw=>by (try dsimp only at hSw);go_simp;(try with_reducible rfl)⟩) hHeld ?_
  refine gH (d:=some 20) (i:=14) (v:=(.pointer (some ⟨t,0,none⟩))) rfl rfl (by kernel_rfl) (by kernel_rfl) (by kernel_rfl) (fun _ _ _ h=>h) (Or.inl ⟨by kernel_rfl,fun w hSw=>by (try dsimp only at hSw);go_simp;(try with_reducible rfl)⟩) hHeld ?_
  refine gH (d:=some 21) (i:=15) (v:=(.int .i64 ot)) rfl rfl (by kernel_rfl) (by kernel_rfl) (by kernel_rfl) (fun _ _ _ h=>h) (Or.inl ⟨by kernel_rfl,fun w hSw=>by (try dsimp only at hSw);go_simp;(try with_reducible rfl)⟩) hHeld ?_
  refine yH [16] ?_
  refine lR rfl (by kernel_rfl) (fun K hK => ?_) AllReadyH.nil
  go_simp
  refine (hii _ (by assumption)).mono ?_
  rintro e wA ⟨rfl,hA⟩
  refine hK.out _ _ (hkB wA hA) (fun hHeld => ?_)
  clear hK K
  refine gH (d:=some 23) (i:=17) (v:=(.bool (!ab))) rfl rfl (by kernel_rfl) (by kernel_rfl) (by kernel_rfl) (fun _ _ _ h=>h) (Or.inl ⟨by kernel_rfl,fun w hSw=>by (try dsimp only at hSw);go_simp;(try with_reducible rfl)⟩) hHeld ?_
  refine tD (some 24) 18 (.bool (!ab)) rfl hHeld ?_
  refine tD (some 5) 19 (.bool (!ab)) rfl hHeld ?_
  refine wpAnyH_done (by kernel_rfl) ?_ _
  clear hHeld
  (try simp only [Act.put,List.setIfInBounds_toArray,List.set_cons_succ,List.set_cons_zero])
  go_wp2
  go_ret
  exact ⟨rfl,by assumption⟩
end
end Go.Proofs.YtegmoddppafkfaaGreatDoor
