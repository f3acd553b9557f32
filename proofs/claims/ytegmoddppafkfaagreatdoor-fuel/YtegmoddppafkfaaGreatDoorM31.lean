import Derived.Test.YtegmoddppafkfaaGreatDoorM00
import Derived.Test.YtegmoddppafkfaaGreatDoorM09
import Derived.Test.YtegmoddppafkfaaGreatDoorM30
set_option maxRecDepth 100000
set_option maxHeartbeats 8000000
namespace Go.Proofs.YtegmoddppafkfaaGreatDoor
section
open Go.RowKit Go.Proofs Go.Shelf
namespace Pg
theorem cZ.nil {W:World} {lo mb pb:Nat} {qv:Value} {s:MSt} {R:Nat→List Nd} (hM:aw W lo mb pb qv s) (h:cZ W lo s.wh R) {r:Nat} (hr:isR r) (hls:lo≤W.heap.size) :
  aw (W.setCell ⟨mb,28+r,none⟩ (.pointer none)) lo mb pb qv { s with wh:=upd s.wh (28+r) (.pointer none) }∧cZ (W.setCell ⟨mb,28+r,none⟩ (.pointer none)) lo (upd s.wh (28+r) (.pointer none)) (upd R r [])∧Rf lo W (W.setCell ⟨mb,28+r,none⟩ (.pointer none)):=by
 have hrl:=hr.lt
 have hm:Mo (· = mb) W (W.setCell ⟨mb,28+r,none⟩ (.pointer none)):=(Mo.refl _ _).set _ _ rfl
 have hR:Rq lo W (W.setCell ⟨mb,28+r,none⟩ (.pointer none)):=RfE.mo hm (fun j hj=>by
  obtain ⟨arr,a1,_⟩:=hM.blk
  subst hj
  exact ⟨hM.lo',arr,_,_,a1,.inl rfl⟩) hls
 refine ⟨hM.yw (28+r) _ (by omega) (by omega),?_,pq hR⟩
 have h2:=h.kd hR.kd (by unfold Cp;decide)
 have hmem:∀ q x,x∈upd R r [] q→x∈R q:=fun q x hx=>by
  by_cases e:q=r
  ·subst e;rw [aJ] at hx;cases hx
  ·rw [aL _ _ e] at hx;exact hx
 refine ⟨fun q hq => ?_,fun q hq => ?_,fun q hq x hx=>h2.low q hq x (hmem q x hx),fun p q hp hq hpq x hx y hy=>h2.dis p q hp hq hpq x (hmem p x hx) y (hmem q y hy),fun q hq => ?_⟩
 ·by_cases e:q=r
  ·subst e;rw [aJ,aJ];rfl
  ·rw [aL _ _ e,aL _ _ (by omega)];exact h.ring q hq
 ·by_cases e:q=r
  ·subst e;rw [aJ];exact bX.nil _
  ·rw [aL _ _ e];exact h2.nds q hq
 ·by_cases e:q=r
  ·subst e;rw [aJ];exact List.nodup_nil
  ·rw [aL _ _ e];exact h2.nod q hq
theorem Fx {f:Nd} {m:List Nd} {i:Nat} (hi:i+1<m.length):nxt m i=nxt (f::m) (i+1):=by
 unfold nxt
 rw [List.getElem?_cons_succ,List.getElem?_eq_getElem hi]
theorem cZ.tl {W:World} {lo mb pb:Nat} {qv:Value} {s:MSt} {R:Nat→List Nd} (hM:aw W lo mb pb qv s) (h:cZ W lo s.wh R) {r:Nat} (hr:isR r) (hls:lo≤W.heap.size) {f z:Nd} {m:List Nd} (hf:R r=f::m) (hz:m.getLast?=some z) :
  aw (W.setCell ⟨z.1,3,none⟩ (nxt (f::m) 0)) lo mb pb qv s∧cZ (W.setCell ⟨z.1,3,none⟩ (nxt (f::m) 0)) lo s.wh (upd R r m)∧Rf lo W (W.setCell ⟨z.1,3,none⟩ (nxt (f::m) 0)):=by
 have hne:m≠[]:=fun e=>by rw [e] at hz;simp at hz
 have hml:0<m.length:=List.length_pos_iff.2 hne
 have hlz:m[m.length-1]?=some z:=by rw [← List.getLast?_eq_getElem?];exact hz
 have hn:=h.nds r hr
 rw [hf] at hn
 have hzn:=hn (m.length-1+1) z (by rw [List.getElem?_cons_succ];exact hlz)
 have hm:Mo (· = z.1) W (W.setCell ⟨z.1,3,none⟩ (nxt (f::m) 0)):=(Mo.refl _ _).set _ _ rfl
 have hzr:z∈R r:=by rw [hf];exact List.mem_cons_of_mem _ (List.mem_of_getElem? hlz)
 have hR:Rf lo W (W.setCell ⟨z.1,3,none⟩ (nxt (f::m) 0)):=RfE.mo hm (fun j hj=>by
  subst hj
  exact ⟨h.low r hr z hzr,_,_,_,hzn,.inr (.inr rfl)⟩) hls
 have hnd:=h.nod r hr
 rw [hf,List.map_cons,List.nodup_cons] at hnd
 have hmem:∀ q x,x∈upd R r m q→x∈R q:=fun q x hx=>by
  by_cases e:q=r
  ·subst e;rw [aJ] at hx;rw [hf];exact List.mem_cons_of_mem _ hx
  ·rw [aL _ _ e] at hx;exact hx
 refine ⟨hM.mo hm (fun e=>hM.typ hzn e) (fun g hg e => ?_),⟨fun q hq => ?_,fun q hq => ?_,fun q hq x hx=>h.low q hq x (hmem q x hx),fun p q hp hq hpq x hx y hy=>h.dis p q hp hq hpq x (hmem p x hx) y (hmem q y hy),fun q hq => ?_⟩,hR⟩
 ·obtain ⟨c',hc'⟩:=hM.que.kind g hg
  rw [e,hzn] at hc'
  simp at hc'
 ·by_cases e:q=r
  ·subst e
   rw [aJ,h.ring q hq,hf]
   unfold aG
   rw [List.getLast?_cons,hz]
   rfl
  ·rw [aL _ _ e];exact h.ring q hq
 ·by_cases e:q=r
  ·subst e
   rw [aJ]
   intro i x hx
   have hi:=(List.getElem?_eq_some_iff.1 hx).1
   by_cases ei:i=m.length-1
   ·subst ei
    rw [hlz] at hx
    cases hx
    rw [show nxt m (m.length-1)=nxt (f::m) 0 by
     rw [gD (List.getElem?_eq_getElem hml)]
     unfold nxt
     rw [List.getElem?_cons_succ,List.getElem?_eq_getElem hml]]
    exact heap_setCell_same W z.1 3 _ _ _ hzn
   ·rw [Fx (f:=f) (m:=m) (i:=i) (by omega)]
    refine (Below.heap_setCell W _ _ x.1 (fun e'=>ei ?_)).trans (hn (i+1) x (by rw [List.getElem?_cons_succ];exact hx))
    have e1:(m.map (·.1))[i]?=(m.map (·.1))[m.length-1]?:=by rw [List.getElem?_map,List.getElem?_map,hx,hlz];simp only [Option.map_some];rw [e']
    have hi':i<(m.map (·.1)).length:=by simpa using hi
    have hj':m.length-1<(m.map (·.1)).length:=by simp;omega
    rw [List.getElem?_eq_getElem hi',List.getElem?_eq_getElem hj'] at e1
    have ea:=hnd.2.idxOf_getElem i hi'
    have eb:=hnd.2.idxOf_getElem (m.length-1) hj'
    rw [Option.some.inj e1] at ea
    omega
  ·rw [aL _ _ e]
   exact (h.nds q hq).mo hm (fun x hx=>h.dis q r hq hr e x hx z hzr)
 ·by_cases e:q=r
  ·subst e;rw [aJ];exact hnd.2
  ·rw [aL _ _ e];exact h.nod q hq
end Pg
theorem Ah (w:World) (c o fb:Nat) (hc:w.cell? ⟨c,o,none⟩=some (Pg.ndP fb)) (hfz:w.frozen? ⟨c,o,none⟩=false) (x:Pg.Tn) (hn:w.heap[fb]?=some (.cells (Pg.eh x (Pg.ndP fb)) 250 (0,0))) :
  Calls Tryz.prog 201 #[.pointer (some ⟨c,o,none⟩)] w fun e w'=>e = .returned (Pg.ndP fb)∧w'=w.setCell ⟨c,o,none⟩ (.pointer none):=by
 have n3:w.cell? ⟨fb,3,none⟩=some (Pg.ndP fb):=by rw [cell_of_row w _ _ _ _ _ hn];rfl
 have heq:=ga w fb fb ⟨_,hn⟩ ⟨_,hn⟩
 rw [show decide (fb=fb)=true by simp] at heq
 unfold Pg.ndP at hc n3 ⊢
 clear hn
 go_enter Tryz.func201,Tryz.ntmps201
 go_wp2
 go_ret
 exact ⟨rfl,rfl⟩
theorem Ai (w:World) (c o fb zb nb:Nat) (hc:w.cell? ⟨c,o,none⟩=some (Pg.ndP zb)) (x y:Pg.Tn) (hn:w.heap[fb]?=some (.cells (Pg.eh x (Pg.ndP nb)) 250 (0,0))) (hz:w.heap[zb]?=some (.cells (Pg.eh y (Pg.ndP fb)) 250 (0,0))) (hne:fb≠zb) :
  Calls Tryz.prog 201 #[.pointer (some ⟨c,o,none⟩)] w fun e w'=>e = .returned (Pg.ndP fb)∧w'=w.drew.setCell ⟨zb,3,none⟩ (Pg.ndP nb):=by
 have n3:w.cell? ⟨fb,3,none⟩=some (Pg.ndP nb):=by rw [cell_of_row w _ _ _ _ _ hn];rfl
 have z3:w.cell? ⟨zb,3,none⟩=some (Pg.ndP fb):=by rw [cell_of_row w _ _ _ _ _ hz];rfl
 have zf:w.drew.frozen? ⟨zb,3,none⟩=false:=by show w.frozen? _=_;simp [World.frozen?,hz]
 have heq:=ga w fb zb ⟨_,hn⟩ ⟨_,hz⟩
 rw [show decide (fb=zb)=false by simp [hne]] at heq
 unfold Pg.ndP at hc n3 z3 ⊢
 have hc':w.drew.cell? ⟨c,o,none⟩=_:=hc
 have n3':w.drew.cell? ⟨fb,3,none⟩=_:=n3
 have z3':w.drew.cell? ⟨zb,3,none⟩=_:=z3
 clear hn hz hne
 go_enter Tryz.func201,Tryz.ntmps201
 go_upto_region 4 with fail
 refine dQ 8 (by kernel_rfl) (by kernel_rfl) ?_
 simp only [List.take_succ_cons,List.take_zero,List.drop_succ_cons,List.drop_zero]
 repeat still_step
 refine wpStill_nil ?_
 go_wp2
 go_ret
 exact ⟨rfl,rfl⟩
theorem Co (w:World) (lo mb pb:Nat) (qv:Value) (s:Pg.MSt) (R:Nat→List Pg.Nd) (r:Nat) (f:Pg.Nd) (m:List Pg.Nd) (hM:Pg.aw w lo mb pb qv s) (h:Pg.cZ w lo s.wh R) (hls:lo≤w.heap.size) (hr:Pg.isR r) (hf:R r=f::m) :
  Calls Tryz.prog 201 #[.pointer (some ⟨mb,28+r,none⟩)] w fun e w'=>e = .returned (Pg.ndP f.1)∧Hid (∃ wh',Pg.aw w' lo mb pb qv { s with wh:=wh' }∧Pg.cZ w' lo wh' (Pg.upd R r m)∧Pg.Rf lo w w'∧(∀ i,i≠28+r→wh' i=s.wh i)∧∃ v,w'.heap[f.1]?=some (.cells (Pg.eh f.2 v) 250 (0,0))):=by
 have hrl:=hr.lt
 have hn:=h.nds r hr
 have hc:=(hM.whc (28+r) (by omega) (by omega)).trans (congrArg some (h.ring r hr))
 rw [hf] at hn hc
 have hf0:=hn 0 f rfl
 cases hz:m.getLast? with
 | none =>
  have hm:m=[]:=List.getLast?_eq_none_iff.1 hz
  subst hm
  refine Calls.mono (Ah w mb (28+r) f.1 hc (hM.frozen _) f.2 hf0) ?_
  rintro e w' ⟨rfl,rfl⟩
  obtain ⟨a,b,c⟩:=h.nil hM hr hls
  exact ⟨rfl,_,a,b,c,fun i hi=>Pg.aL _ _ hi,_,(Below.heap_setCell w _ _ f.1 (fun e=>hM.typ hf0 e.symm)).trans hf0⟩
 | some z =>
  have hne:m≠[]:=fun e=>by rw [e] at hz;simp at hz
  have hml:0<m.length:=List.length_pos_iff.2 hne
  have hlz:m[m.length-1]?=some z:=by rw [← List.getLast?_eq_getElem?];exact hz
  have hzn:=hn (m.length-1+1) z (by rw [List.getElem?_cons_succ];exact hlz)
  have hnd:=h.nod r hr
  rw [hf,List.map_cons,List.nodup_cons] at hnd
  have hfz:f.1≠z.1:=fun e=>hnd.1 (List.mem_map.2 ⟨z,List.mem_of_getElem? hlz,e.symm⟩)
  have e1:Pg.aG (f::m)=Pg.ndP z.1:=by unfold Pg.aG;rw [List.getLast?_cons,hz];rfl
  have e2:Pg.nxt (f::m) (m.length-1+1)=Pg.ndP f.1:=by
   have:=Pg.gD (l:=f::m) (f:=f) rfl
   rw [List.length_cons,Nat.add_sub_cancel] at this
   rw [show m.length-1+1=m.length by omega]
   exact this
  have e3:Pg.nxt (f::m) 0=Pg.ndP m[0].1:=by
   unfold Pg.nxt
   rw [List.getElem?_cons_succ,List.getElem?_eq_getElem hml]
  rw [e1] at hc
  rw [e2] at hzn
  rw [e3] at hf0
  refine Calls.mono (Ai w mb (28+r) f.1 z.1 m[0].1 hc f.2 z.2 hf0 hzn hfz) ?_
  rintro e w' ⟨rfl,rfl⟩
  have hd:=(Below.refl w.heap.size w).drew
  obtain ⟨a,b,c⟩:=(h.below hd).tl (hM.below hd) hr hls hf hz
  rw [e3] at a b c
  exact ⟨rfl,s.wh,a,b,(Pg.RfE.of hd hls).trans c,fun _ _=>rfl,_,(Below.heap_setCell w.drew _ _ f.1 hfz).trans hf0⟩
theorem Pg.kC.marked {wh wh1:Nat→Value} {R:Nat→List Pg.Nd} {k sl h:Nat} {m:List Pg.Nd} (hH:Pg.kC wh R) (hk:k<6) (hs:sl<64) (h2:wh (28+(k*65+64)) = .int .u64 h) (h1:h<18446744073709551616) (hw:∀ i,i≠28+(k*65+sl)→wh1 i=wh i) (h3:∀ s,s<64→h.testBit s = !(R (k*65+s)).isEmpty) :
  Pg.kC (Pg.upd wh1 (28+(k*65+64)) (.int .u64 (Pg.gW h sl m.isEmpty))) (Pg.upd R (k*65+sl) m):=fun k' hk'=>by
 by_cases e:k'=k
 ·subst e
  refine ⟨_,Pg.oT h1 hs,Pg.aJ _ _ _,fun j hj => ?_⟩
  rw [Pg.mI hs j hj]
  by_cases e:j=sl
  ·subst e
   rw [if_pos rfl,Pg.aJ]
  ·rw [if_neg e,Pg.aL _ _ (by omega)]
   exact h3 j hj
 ·obtain ⟨g,g1,g2,g3⟩:=hH k' hk'
  refine ⟨g,g1,?_,fun j hj => ?_⟩
  ·rw [Pg.aL _ _ (by omega),hw _ (by omega)];exact g2
  ·rw [Pg.aL _ _ (by omega)];exact g3 j hj
theorem rJ (w:World) (lo mb pb:Nat) (qv:Value) (s:Pg.MSt) (wh0:Nat→Value) (R:Nat→List Pg.Nd) (k sl:Nat) (m:List Pg.Nd) (hM:Pg.aw w lo mb pb qv s) (h:Pg.cZ w lo s.wh (Pg.upd R (k*65+sl) m)) (hH:Pg.kC wh0 R) (hls:lo≤w.heap.size) (hk:k<6) (hs:sl<64) (hw:∀ i,i≠28+(k*65+sl)→s.wh i=wh0 i) :
  Calls Tryz.prog 202 #[.pointer (some ⟨mb,28+k*65,none⟩),.int .i64 sl] w fun e w'=>e = .returned (.tuple #[])∧Hid (∃ wh',Pg.aw w' lo mb pb qv { s with wh:=wh' }∧Pg.WhM w' lo { s with wh:=wh' } (Pg.upd R (k*65+sl) m)∧Pg.Rf lo w w'∧∃ V:World,V.heap=w.heap∧∃ p v,w'=V.setCell p v∧p.block=mb):=by
 have hr:Pg.isR (k*65+sl) := .inl (by omega)
 obtain ⟨g,h1,h2,h3⟩:=hH k hk
 have hg:s.wh (28+(k*65+64)) = .int .u64 g:=(hw _ (by omega)).trans h2
 have hring:=h.ring _ hr
 rw [Pg.aJ] at hring
 refine Calls.mono (uQ w mb (28+k*65) sl m g hs h1 (by rw [Nat.add_assoc];exact (hM.whc (28+(k*65+sl)) (by omega) (by omega)).trans (congrArg some hring)) (by rw [Nat.add_assoc];exact (hM.whc (28+(k*65+64)) (by omega) (by omega)).trans (congrArg some hg)) (hM.frozen _)) ?_
 rintro e w' ⟨rfl,rfl⟩
 obtain ⟨a2,b2,c2⟩:=h.mark hM k hk (.int .u64 (Pg.gW g sl m.isEmpty)) hls
 exact ⟨rfl,_,a2,⟨b2,hH.marked hk hs h2 h1 hw h3⟩,c2,w.drew,rfl,_,_,rfl,rfl⟩
theorem CU (w:World) (lo mb pb:Nat) (qv:Value) (s:Pg.MSt) (R:Nat→List Pg.Nd) (k sl:Nat) (f:Pg.Nd) (m:List Pg.Nd) (hM:Pg.aw w lo mb pb qv s) (hW:Pg.WhM w lo s R) (hls:lo≤w.heap.size) (hk:k<6) (hs:sl<64) (hf:R (k*65+sl)=f::m) :
  Calls Tryz.prog 169 #[.pointer (some ⟨mb,28+k*65,none⟩),.int .i64 sl] w fun e w'=>e = .returned (Pg.ndP f.1)∧Hid (∃ wh',Pg.aw w' lo mb pb qv { s with wh:=wh' }∧Pg.WhM w' lo { s with wh:=wh' } (Pg.upd R (k*65+sl) m)∧Pg.Rf lo w w'∧∃ v,w'.heap[f.1]?=some (.cells (Pg.eh f.2 v) 250 (0,0))):=by
 have hr:Pg.isR (k*65+sl) := .inl (by omega)
 have HP:Hid (Calls Tryz.prog 201 #[.pointer (some ⟨mb,28+k*65+sl,none⟩)] w fun e w'=>e = .returned (Pg.ndP f.1)∧Hid (∃ wh',Pg.aw w' lo mb pb qv { s with wh:=wh' }∧Pg.cZ w' lo wh' (Pg.upd R (k*65+sl) m)∧Pg.Rf lo w w'∧(∀ i,i≠28+(k*65+sl)→wh' i=s.wh i)∧∃ v,w'.heap[f.1]?=some (.cells (Pg.eh f.2 v) 250 (0,0)))):=by
  unfold Hid
  rw [Nat.add_assoc]
  exact Co w lo mb pb qv s R _ f m hM hW.rgs hls hr hf
 have HK:Hid (∀ V:World,Hid (∃ wh',Pg.aw V lo mb pb qv { s with wh:=wh' }∧Pg.cZ V lo wh' (Pg.upd R (k*65+sl) m)∧Pg.Rf lo w V∧(∀ i,i≠28+(k*65+sl)→wh' i=s.wh i)∧∃ v,V.heap[f.1]?=some (.cells (Pg.eh f.2 v) 250 (0,0)))→Calls Tryz.prog 202 #[.pointer (some ⟨mb,28+k*65,none⟩),.int .i64 sl] V fun e w'=>e = .returned (.tuple #[])∧Hid (∃ wh',Pg.aw w' lo mb pb qv { s with wh:=wh' }∧Pg.WhM w' lo { s with wh:=wh' } (Pg.upd R (k*65+sl) m)∧Pg.Rf lo w w'∧∃ v,w'.heap[f.1]?=some (.cells (Pg.eh f.2 v) 250 (0,0)))):=fun V hV=>by
  obtain ⟨wh1,a,b,c,d,v,hv⟩:=hV.out
  refine Calls.mono (rJ V lo mb pb qv { s with wh:=wh1 } s.wh R k sl m a b hW.held (Nat.le_trans hls c.bel.size) hk hs d) ?_
  rintro e w' ⟨rfl,x⟩
  obtain ⟨wh2,a2,b2,c2,V2,hV2,p,u,rfl,hp⟩:=x.out
  exact ⟨rfl,wh2,a2,b2,c.trans c2,v,(Below.heap_setCell V2 p u f.1 (fun e=>a.typ hv (by rw [← hp];exact e.symm))).trans (by rw [hV2];exact hv)⟩
 have hs':(sl:Int)<64:=by omega
 clear hM hW hf hr
 go_enter Tryz.func169,Tryz.ntmps169
 go_wp2_with (first
  | (go_at_call 201;refine Calls.mono HP.out ?_;rintro e w1 ⟨rfl,h1⟩)
  | (go_at_call 202;refine Calls.mono (HK.out _ h1) ?_;rintro e w2 ⟨rfl,h2⟩))
 go_ret
 exact ⟨rfl,h2⟩
theorem Tryz.lZ:(Tryz.prog.info? 144).map (·.size)=some 1:=by kernel_rfl
theorem Tryz.Ad:Tryz.f203.results=#[.cell 4 144]:=rfl
namespace Pg
theorem RfE.BQ {E:TypeId→Prop} {lo:Nat} {w W W':World} (h:RfE E lo w W) (hlo:lo≤w.heap.size) (hm:Mo (fun k=>w.heap.size≤k) W W'):RfE E lo w W':=by
 have hsz:=h.bel.size
 exact ⟨⟨hm.os.trans h.bel.os,hm.tape.trans h.bel.tape,hm.output.trans h.bel.output,Nat.le_trans hsz hm.size,fun k hk=>(hm.block k (by omega) (by omega)).trans (h.bel.block k hk)⟩,
  ⟨Nat.le_trans h.kd.size hm.size,fun k c t f hk hn=>by
   have:=(Array.getElem?_eq_some_iff.1 hk).1
   exact (hm.block k (by omega) (by omega)).trans (h.kd.ax k c t f hk hn)⟩,
  ⟨Nat.le_trans h.oth.size hm.size,fun k o hk ho=>by
   have:=(Array.getElem?_eq_some_iff.1 hk).1
   exact (hm.block k (by omega) (by omega)).trans (h.oth.same k o hk ho)⟩⟩
structure Emp (w V w':World) (lo mb pb:Nat) (qv:Value) (s:MSt) (R:Nat→List Nd) (r:Nat):Prop where
 ex:∃ wh',aw w' lo mb pb qv { s with wh:=wh' }∧WhM w' lo { s with wh:=wh' } (upd R r [])
 rf:Rf lo w w'
 mo:Mo (· = mb) V w'
theorem lT (l:List Nd):aG l = .pointer none∨∃ b,aG l = .pointer (some ⟨b,0,none⟩):=by
 unfold aG
 cases l.getLast? with
 | none=>exact .inl rfl
 | some z=>exact .inr ⟨z.1,rfl⟩
theorem Emp.box {w V w':World} {lo mb pb:Nat} {qv:Value} {s:MSt} {R:Nat→List Nd} {r:Nat} (h:Emp w V w' lo mb pb qv s R r) (hlo:lo≤w.heap.size) {g:Nat} {v u:Value} (hg:w'.heap[g]?=some (.cells #[v] 144 (0,0))) (hgw:w.heap.size≤g) (hgV:V.heap.size≤g∨True) (hw:Below w.heap.size w V):Emp w w (w'.setCell ⟨g,0,none⟩ u) lo mb pb qv s R r:=by
 obtain ⟨wh',a,b⟩:=h.ex
 have hm:Mo (· = g) w' (w'.setCell ⟨g,0,none⟩ u):=(Mo.refl _ _).set _ _ rfl
 have hk:Kd (fun t=>t=144) w' (w'.setCell ⟨g,0,none⟩ u):=gB hm (fun k c t f hp hc=>by
  subst hp
  rw [hg] at hc
  cases hc
  rfl)
 refine ⟨⟨wh',a.mo hm (fun e => ?_) (fun q hq e => ?_),⟨b.rgs.kd hk (by decide),b.held⟩⟩,h.rf.BQ hlo (hm.mono (fun k _ hk=>by omega)),?_⟩
 ·obtain ⟨arr,a1,_⟩:=a.blk
  rw [e,hg] at a1
  simp at a1
 ·obtain ⟨c',hc'⟩:=a.que.kind q hq
  rw [e,hg] at hc'
  simp at hc'
 ·have h1:Mo (· = mb) w w':=⟨h.mo.os.trans hw.os,h.mo.tape.trans hw.tape,h.mo.output.trans hw.output,Nat.le_trans hw.size h.mo.size,fun k hk hn=>(h.mo.block k (by have:=hw.size;omega) hn).trans (hw.block k hk)⟩
  exact h1.trans' hm (fun i hi e=>by omega)
end Pg
theorem zj (w V:World) (lo mb pb:Nat) (qv:Value) (s:Pg.MSt) (R:Nat→List Pg.Nd) (k sl:Nat) (hM:Pg.aw w lo mb pb qv s) (hW:Pg.WhM w lo s R) (hls:lo≤w.heap.size) (hk:k<6) (hs:sl<64) (hV:Below w.heap.size w V) :
  Calls Tryz.prog 202 #[.pointer (some ⟨mb,28+k*65,none⟩),.int .i64 sl] (V.setCell ⟨mb,28+k*65+sl,none⟩ (.pointer none)) fun e w'=>e = .returned (.tuple #[])∧Hid (Pg.Emp w V w' lo mb pb qv s R (k*65+sl)):=by
 have hr:Pg.isR (k*65+sl) := .inl (by omega)
 have hlV:=Nat.le_trans hls hV.size
 rw [Nat.add_assoc]
 obtain ⟨a,b,c⟩:=(hW.rgs.below hV).nil (hM.below hV) hr hlV
 refine Calls.mono (rJ _ lo mb pb qv { s with wh:=Pg.upd s.wh (28+(k*65+sl)) (.pointer none) } s.wh R k sl [] a b hW.held (Nat.le_trans hlV c.bel.size) hk hs (fun i hi=>Pg.aL _ _ hi)) ?_
 rintro e w' ⟨rfl,x⟩
 obtain ⟨wh2,a2,b2,c2,V2,hV2,p,u,rfl,hp⟩:=x.out
 refine ⟨rfl,⟨wh2,a2,b2⟩,(Pg.RfE.of hV hls).trans (c.trans c2),?_⟩
 have hc:=c.trans c2
 refine ⟨hc.bel.os,hc.bel.tape,hc.bel.output,hc.bel.size,fun j hj hn => ?_⟩
 rw [Below.heap_setCell V2 p u j (fun e=>hn (e.trans hp)),hV2]
 exact Below.heap_setCell V _ _ j hn
theorem xN (w:World) (lo mb pb:Nat) (qv:Value) (s:Pg.MSt) (R:Nat→List Pg.Nd) (k sl:Nat) (hM:Pg.aw w lo mb pb qv s) (hW:Pg.WhM w lo s R) (hls:lo≤w.heap.size) (hk:k<6) (hs:sl<64) :
  Calls Tryz.prog 203 #[.pointer (some ⟨mb,28+k*65,none⟩),.int .i64 sl] w fun e w'=>e = .returned (.agg #[Pg.aG (R (k*65+sl))])∧Hid (Pg.Emp w w w' lo mb pb qv s R (k*65+sl)):=by
 have hr:Pg.isR (k*65+sl) := .inl (by omega)
 have hmb:=hM.lt
 have hcv:∀ V,Below w.heap.size w V→V.cell? ⟨mb,28+k*65+sl,none⟩=some (Pg.aG (R (k*65+sl)))∧V.frozen? ⟨mb,28+k*65+sl,none⟩=false:=fun V hV=>by
  rw [Nat.add_assoc]
  exact ⟨((hM.below hV).whc (28+(k*65+sl)) (by omega) (by omega)).trans (congrArg some ((hW.rgs.below hV).ring _ hr)),(hM.below hV).frozen _⟩
 have hsh:=Pg.lT (R (k*65+sl))
 obtain ⟨rv,hrv⟩:∃ rv,Pg.aG (R (k*65+sl))=rv:=⟨_,rfl⟩
 rw [hrv] at hcv hsh ⊢
 have hB1:Below w.heap.size w (w.alloc (.cells #[.pointer none] 144)):=(Below.refl _ w).alloc (Nat.le_refl _) _
 have hB2:Below w.heap.size w ((w.alloc (.cells #[.pointer none] 144)).alloc (.cells #[rv] 144)):=hB1.alloc (by simp) _
 obtain ⟨c1,f1⟩:=hcv _ hB1
 obtain ⟨c2,f2⟩:=hcv _ hB2
 have hem:=zj w _ lo mb pb qv s R k sl hM hW hls hk hs hB2
 rw [World.setCell_alloc_past _ _ _ _ (by simp;omega),World.setCell_alloc_past _ _ _ _ hmb] at hem
 have HM:Hid _:=hem
 clear hem
 have hs':(sl:Int)<64:=by omega
 have HB2:Hid _:=hB2
 have g0:((w.alloc (.cells #[.pointer none] 144)).alloc (.cells #[rv] 144)).heap[w.heap.size]?=some (.cells #[.pointer none] 144 (0,0)):=(Below.heap_alloc _ _ _ (by simp)).trans (heap_alloc_new w _)
 have g1:((w.alloc (.cells #[.pointer none] 144)).alloc (.cells #[rv] 144)).heap[w.heap.size+1]?=some (.cells #[rv] 144 (0,0)):=by
  have:=heap_alloc_new (w.alloc (.cells #[.pointer none] 144)) (.cells #[rv] 144)
  simpa using this
 have HG:Hid (∀ w',Pg.Emp w ((w.alloc (.cells #[.pointer none] 144)).alloc (.cells #[rv] 144)) w' lo mb pb qv s R (k*65+sl)→w'.heap[w.heap.size]?=some (.cells #[.pointer none] 144 (0,0))∧w'.heap[w.heap.size+1]?=some (.cells #[rv] 144 (0,0))):=fun w' h=>⟨(h.mo.block _ (by simp;omega) (by omega)).trans g0,(h.mo.block _ (by simp) (by omega)).trans g1⟩
 clear hM hW hcv hrv hB1 hB2 g0 g1 hr
 rcases hsh with rfl | ⟨b,rfl⟩
 all_goals
  go_enter Tryz.func203,Tryz.ntmps203
  go_wp2_with (go_at_call 202;refine Calls.mono HM.out ?_;rintro e w4 ⟨rfl,h4⟩;obtain ⟨q0,q1⟩:=HG.out _ h4.out;have k1:=cell_of_row w4 _ 0 _ _ _ q1;have k0:=cell_of_row w4 _ 0 _ _ _ q0;have z0:w4.frozen? ⟨w.heap.size,0,none⟩=false:=by simp [World.frozen?,q0])
  refine de Tryz.Ad w.heap.size _ _ _ _ rfl (heap_setCell_same w4 w.heap.size 0 _ _ _ q0) Tryz.underlying144 rfl Tryz.lZ rfl ?_
  exact ⟨rfl,h4.out.box hls q0 (Nat.le_refl _) (.inr trivial) HB2.out⟩
theorem Tryz.pg:Tryz.f170.results=#[.cell 6 144]:=rfl
theorem wv (w:World) (lo mb pb:Nat) (qv:Value) (s:Pg.MSt) (R:Nat→List Pg.Nd) (sl:Nat) (hM:Pg.aw w lo mb pb qv s) (hW:Pg.WhM w lo s R) (hls:lo≤w.heap.size) :
  Calls Tryz.prog 170 #[.pointer (some ⟨mb,27,none⟩),.int .i64 6,.int .i64 sl] w fun e w'=>e = .returned (.agg #[Pg.aG (R 390)])∧Hid (Pg.Emp w w w' lo mb pb qv s R 390):=by
 have hr:Pg.isR 390 := .inr rfl
 have hmb:=hM.lt
 have hcv:∀ V,Below w.heap.size w V→V.cell? ⟨mb,418,none⟩=some (Pg.aG (R 390))∧V.frozen? ⟨mb,418,none⟩=false:=fun V hV =>
  ⟨((hM.below hV).whc 418 (by omega) (by omega)).trans (congrArg some ((hW.rgs.below hV).ring _ hr)),(hM.below hV).frozen _⟩
 have hsh:=Pg.lT (R 390)
 obtain ⟨rv,hrv⟩:∃ rv,Pg.aG (R 390)=rv:=⟨_,rfl⟩
 rw [hrv] at hcv hsh ⊢
 have hB1:Below w.heap.size w (w.alloc (.cells #[.pointer none] 144)):=(Below.refl _ w).alloc (Nat.le_refl _) _
 have hB2:Below w.heap.size w ((w.alloc (.cells #[.pointer none] 144)).alloc (.cells #[rv] 144)):=hB1.alloc (by simp) _
 obtain ⟨c1,f1⟩:=hcv _ hB1
 obtain ⟨c2,f2⟩:=hcv _ hB2
 obtain ⟨a,b,c⟩:=hW.rgs.nil hM hr hls
 have HE:Hid (∀ o1 o2:Obj,Pg.Emp w w (((w.setCell ⟨mb,418,none⟩ (.pointer none)).alloc o1).alloc o2) lo mb pb qv s R 390):=fun o1 o2=>by
  have hb:Below (w.setCell ⟨mb,28+390,none⟩ (.pointer none)).heap.size (w.setCell ⟨mb,28+390,none⟩ (.pointer none)) (((w.setCell ⟨mb,28+390,none⟩ (.pointer none)).alloc o1).alloc o2):=((Below.refl _ _).alloc (Nat.le_refl _) _).alloc (by simp) _
  refine ⟨⟨_,a.below hb,b.below hb,fun k hk => ?_⟩,c.trans (Pg.RfE.of hb (by simp;exact hls)),((Mo.refl (· = mb) w).set _ _ rfl).trans (aq hb)⟩
  obtain ⟨h,h1,h2,h3⟩:=hW.held k hk
  refine ⟨h,h1,?_,fun j hj => ?_⟩
  ·show Pg.upd s.wh (28+390) _ _=_
   rw [Pg.aL _ _ (by omega)];exact h2
  ·rw [Pg.aL _ _ (by omega)];exact h3 j hj
 clear hM hW hcv hrv hB1 hB2 hr a b c
 rcases hsh with rfl | ⟨q,rfl⟩
 ·go_enter Tryz.func170,Tryz.ntmps170
  go_wp2
  refine de Tryz.pg w.heap.size 144 #[.pointer none] (0,0) _ rfl ?_ Tryz.underlying144 rfl Tryz.lZ rfl ⟨rfl,HE.out _ _⟩
  refine (Below.heap_alloc _ _ _ (by simp)).trans ?_
  have:=heap_alloc_new (w.setCell ⟨mb,418,none⟩ (.pointer none)) (.cells #[.pointer none] 144)
  simpa using this
 ·go_enter Tryz.func170,Tryz.ntmps170
  go_wp2
  refine de Tryz.pg w.heap.size 144 #[.pointer (some ⟨q,0,none⟩)] (0,0) _ rfl ?_ Tryz.underlying144 rfl Tryz.lZ rfl ⟨rfl,HE.out _ _⟩
  refine (Below.heap_alloc _ _ _ (by simp)).trans ?_
  have:=heap_alloc_new (w.setCell ⟨mb,418,none⟩ (.pointer none)) (.cells #[.pointer (some ⟨q,0,none⟩)] 144)
  simpa using this
theorem wy (w:World) (lo mb pb:Nat) (qv:Value) (s:Pg.MSt) (R:Nat→List Pg.Nd) (k sl:Nat) (hM:Pg.aw w lo mb pb qv s) (hW:Pg.WhM w lo s R) (hls:lo≤w.heap.size) (hk:k<6) (hs:sl<64) :
  Calls Tryz.prog 170 #[.pointer (some ⟨mb,27,none⟩),.int .i64 k,.int .i64 sl] w fun e w'=>e = .returned (.agg #[Pg.aG (R (k*65+sl))])∧Hid (Pg.Emp w w w' lo mb pb qv s R (k*65+sl)):=by
 have hsh:=Pg.lT (R (k*65+sl))
 have hB1:Below w.heap.size w (w.alloc (.cells #[.pointer none] 144)):=(Below.refl _ w).alloc (Nat.le_refl _) _
 have HK:Hid (Calls Tryz.prog 203 #[.pointer (some ⟨mb,28+k*65,none⟩),.int .i64 sl] (w.alloc (.cells #[.pointer none] 144)) fun e w'=>e = .returned (.agg #[Pg.aG (R (k*65+sl))])∧w'.heap[w.heap.size]?=some (.cells #[.pointer none] 144 (0,0))∧Hid (∀ u,Pg.Emp w w (w'.setCell ⟨w.heap.size,0,none⟩ u) lo mb pb qv s R (k*65+sl))):=by
  refine Calls.mono (xN _ lo mb pb qv s R k sl (hM.below hB1) ⟨hW.rgs.below hB1,hW.held⟩ (Nat.le_trans hls hB1.size) hk hs) ?_
  rintro e w' ⟨rfl,h⟩
  have hmb:=hM.lt
  have hq:w'.heap[w.heap.size]?=some (.cells #[.pointer none] 144 (0,0)):=(h.out.mo.block _ (by simp) (by omega)).trans (heap_alloc_new w _)
  have h2:Pg.Emp w (w.alloc (.cells #[.pointer none] 144)) w' lo mb pb qv s R (k*65+sl):=⟨h.out.ex,(Pg.RfE.of hB1 hls).trans h.out.rf,h.out.mo⟩
  exact ⟨rfl,hq,fun u=>h2.box hls hq (Nat.le_refl _) (.inr trivial) hB1⟩
 obtain ⟨rv,hrv⟩:∃ rv,Pg.aG (R (k*65+sl))=rv:=⟨_,rfl⟩
 rw [hrv] at hsh HK ⊢
 have hk6:((k:Int) == 6)=false:=by simp;omega
 have hk':(k:Int)<6:=by omega
 clear hM hW hrv hB1
 rcases hsh with rfl | ⟨q,rfl⟩
 all_goals
  go_enter Tryz.func170,Tryz.ntmps170
  go_wp2_with (go_at_call 203;refine Calls.mono HK.out ?_;rintro e w4 ⟨rfl,q0,h4⟩;have k0:=cell_of_row w4 _ 0 _ _ _ q0;have z0:w4.frozen? ⟨w.heap.size,0,none⟩=false:=by simp [World.frozen?,q0])
  refine de Tryz.pg w.heap.size _ _ _ _ rfl (heap_setCell_same w4 w.heap.size 0 _ _ _ q0) Tryz.underlying144 rfl Tryz.lZ rfl ?_
  exact ⟨rfl,h4.out _⟩
theorem Cc (w:World) (lo mb pb:Nat) (qv:Value) (s:Pg.MSt) (R:Nat→List Pg.Nd) (n:Nat) (x:Pg.Tn) (v:Value) (hM:Pg.aw w lo mb pb qv s) (hW:Pg.WhM w lo s R) (hls:lo≤w.heap.size) (hnow:s.now<18446744073709551616) (hxt:x.t<18446744073709551616) (hn:w.heap[n]?=some (.cells (Pg.eh x v) 250 (0,0))) (hnl:∀ q,Pg.isR q→∀ y∈R q,y.1≠n) (hlo:lo≤n) :
  Calls Tryz.prog 172 #[.pointer (some ⟨mb,27,none⟩),.pointer (some ⟨n,0,none⟩)] w fun e w'=>e = .returned (.tuple #[])∧∃ wh',Pg.aw w' lo mb pb qv { s with wh:=wh' }∧Pg.WhM w' lo { s with wh:=wh' } (Pg.upd R (Pg.place s.now x.t) (R (Pg.place s.now x.t)++[(n,x)]))∧Pg.Rf lo w w'∧Mo (fun k=>k=mb∨k=n∨∃ q,Pg.isR q∧∃ y∈R q,k=y.1) w w':=by
 have hn0:w.cell? ⟨n,0,none⟩=some (.int .u64 x.t):=by rw [cell_of_row w _ _ _ _ _ hn];rfl
 have hc27:w.cell? ⟨mb,27,none⟩=some (.int .u64 s.now):=hM.cell 27 (by decide)
 have hsp:=l6 w mb 27 s.now x.t hnow hxt hc27
 have hr:=Pg.eK s.now x.t
 have hmn:=hM.typ hn
 have hty:∀ q,Pg.isR q→mb ∉ (R q).map (·.1):=fun q hq e=>by
  obtain ⟨y,hy,e⟩:=List.mem_map.1 e
  obtain ⟨i,hi⟩:=List.mem_iff_getElem?.1 hy
  exact hM.typ (hW.rgs.nds q hq i y hi) e.symm
 have hnr:∀ q,Pg.isR q→n ∉ (R q).map (·.1):=fun q hq e=>by
  obtain ⟨y,hy,e⟩:=List.mem_map.1 e
  exact hnl q hq y hy e
 have hpm:∀ (w9:World) (r:Nat),Pg.isR r→w9.heap[n]?=some (.cells (Pg.eh x v) 250 (0,0))→Pg.cZ w9 lo s.wh R→Mo (fun k=>k=mb∨k=n∨∃ q,Pg.isR q∧∃ y∈R q,k=y.1) w9 (Pg.fJ w9 ⟨mb,28+r,none⟩ (R r) n):=fun w9 r hr hn9 hR9=>(Pg.bX.push (p:=⟨mb,28+r,none⟩) (hR9.nds r hr) (hR9.nod r hr) hn9 (hnr r hr) hmn (hty r hr)).2.mono (fun k _ h=>h.imp id (fun h=>h.imp id (fun ⟨z,hz,e⟩=>⟨r,hr,z,List.mem_of_getLast? hz,e⟩)))
 have hKl:=Pg.dS s.now x.t
 have hSl:=Pg.ep s.now x.t
 have hpl:Pg.place s.now x.t=if Pg.aC s.now x.t=6 then 390 else Pg.aC s.now x.t*65+Pg.eM s.now x.t:=rfl
 generalize Pg.place s.now x.t=r at *
 generalize Pg.aC s.now x.t=K at *
 generalize Pg.eM s.now x.t=S at *
 by_cases hK:K=6
 ·subst hK
  rw [if_pos rfl] at hpl
  subst hpl
  have H:Hid (∀ w9,Below w.heap.size w w9→Calls Tryz.prog 206 #[.pointer (some ⟨mb,418,none⟩),.pointer (some ⟨n,0,none⟩)] w9 fun e w'=>e = .returned (.tuple #[])∧∃ wh',Pg.aw w' lo mb pb qv { s with wh:=wh' }∧Pg.WhM w' lo { s with wh:=wh' } (Pg.upd R 390 (R 390++[(n,x)]))∧Pg.Rf lo w w'∧Mo (fun k=>k=mb∨k=n∨∃ q,Pg.isR q∧∃ y∈R q,k=y.1) w w'):=fun w9 hb=>by
   have hM9:=hM.below hb
   have hR9:=hW.rgs.below hb
   have hn9:=(hb.block n (Array.getElem?_eq_some_iff.1 hn).1).trans hn
   refine (mN w9 mb 418 (R 390) n x v ((hM9.whc 418 (by omega) (by omega)).trans (congrArg some (hR9.ring 390 hr))) (hM9.frozen _) (hR9.nds 390 hr) hn9 (hnr 390 hr) hmn (hty 390 hr)).mono ?_
   rintro e w' ⟨rfl,rfl⟩
   obtain ⟨a,b,c⟩:=hR9.push (r:=390) hM9 hr (Nat.le_trans hls hb.size) hn9 hnl hlo
   refine ⟨rfl,_,a,⟨b,fun k hk => ?_⟩,(Pg.RfE.of hb hls).trans c,(aq hb).trans (hpm w9 390 hr hn9 hR9)⟩
   obtain ⟨h,h1,h2,h3⟩:=hW.held k hk
   refine ⟨h,h1,?_,fun j hj => ?_⟩
   ·show Pg.upd s.wh (28+390) _ _=_
    rw [Pg.aL _ _ (by omega)];exact h2
   ·rw [Pg.aL _ _ (by omega)];exact h3 j hj
  clear hW hM hty hnr hnl hn hlo hr hmn hpm
  go_enter Tryz.func172,Tryz.ntmps172
  go_wp2_with (first
   | (go_at_call 168;refine hsp.mono ?_;rintro e w9 ⟨rfl,hb9⟩)
   | (go_at_call 206;refine (H.out _ hb9).mono ?_;intro e w' h9;obtain ⟨rfl,h9⟩:=h9;have H9:Hid _:=h9;clear h9))
  refine bodyPost_ret (results_none rfl _ _ _) rfl ?_
  exact ⟨rfl,H9.out⟩
 ·rw [if_neg hK] at hpl
  subst hpl
  have hK5:K<6:=by omega
  have hKb:((K:Int) == 6)=false:=by simp;omega
  have H:Hid (∀ w9,Below w.heap.size w w9→Calls Tryz.prog 207 #[.pointer (some ⟨mb,28+K*65,none⟩),.int .i64 S,.pointer (some ⟨n,0,none⟩)] w9 fun e w'=>e = .returned (.tuple #[])∧∃ wh',Pg.aw w' lo mb pb qv { s with wh:=wh' }∧Pg.WhM w' lo { s with wh:=wh' } (Pg.upd R (K*65+S) (R (K*65+S)++[(n,x)]))∧Pg.Rf lo w w'∧Mo (fun k=>k=mb∨k=n∨∃ q,Pg.isR q∧∃ y∈R q,k=y.1) w w'):=fun w9 hb=>by
   have hM9:=hM.below hb
   have hR9:=hW.rgs.below hb
   have hn9:=(hb.block n (Array.getElem?_eq_some_iff.1 hn).1).trans hn
   obtain ⟨h,h1,h2,h3⟩:=hW.held K hK5
   refine (rL w9 mb (28+K*65) S (R (K*65+S)) n x v h hSl h1 (by rw [Nat.add_assoc];exact (hM9.whc (28+(K*65+S)) (by omega) (by omega)).trans (congrArg some (hR9.ring _ hr))) (fun i=>hM9.frozen i) (by rw [Nat.add_assoc];exact (hM9.whc (28+(K*65+64)) (by omega) (by omega)).trans (congrArg some h2)) (hR9.nds _ hr) hn9 (hnr _ hr) hmn (hty _ hr)).mono ?_
   rintro e w' ⟨rfl,rfl⟩
   obtain ⟨a,b,c⟩:=hR9.push (r:=K*65+S) hM9 hr (Nat.le_trans hls hb.size) hn9 hnl hlo
   rw [Nat.add_assoc 28 (K*65) S]
   obtain ⟨a2,b2,c2⟩:=b.mark a K hK5 (.int .u64 (Pg.gW h S false)) (Nat.le_trans hls (Nat.le_trans hb.size c.bel.size))
   refine ⟨rfl,_,a2,⟨b2,fun k hk => ?_⟩,(Pg.RfE.of hb hls).trans (c.trans c2),((aq hb).trans (hpm w9 (K*65+S) hr hn9 hR9)).trans ((aq ((Below.refl _ _).drew)).trans ((Mo.refl _ _).set _ _ (.inl rfl)))⟩
   by_cases e:k=K
   ·subst e
    refine ⟨Pg.gW h S false,Pg.oT h1 hSl,Pg.aJ _ _ _,fun j hj => ?_⟩
    rw [Pg.mI hSl j hj]
    by_cases e:j=S
    ·subst e
     rw [if_pos rfl,Pg.aJ]
     simp
    ·rw [if_neg e,Pg.aL _ _ (by omega)]
     exact h3 j hj
   ·obtain ⟨g,g1,g2,g3⟩:=hW.held k hk
    refine ⟨g,g1,?_,fun j hj => ?_⟩
    ·show Pg.upd (Pg.upd s.wh _ _) _ _ _=_
     rw [Pg.aL _ _ (by omega),Pg.aL _ _ (by omega)];exact g2
    ·rw [Pg.aL _ _ (by omega)];exact g3 j hj
  clear hW hM hty hnr hnl hn hlo hr hmn hpm
  go_enter Tryz.func172,Tryz.ntmps172
  go_wp2_with (first
   | (go_at_call 168;refine hsp.mono ?_;rintro e w9 ⟨rfl,hb9⟩)
   | (go_at_call 207;refine (H.out _ hb9).mono ?_;intro e w' h9;obtain ⟨rfl,h9⟩:=h9;have H9:Hid _:=h9;clear h9))
  go_end0
  exact ⟨rfl,H9.out⟩
end
section
namespace Pg
theorem xP (a b n:Nat):(a ^^^ b)<2 ^ n↔a / 2 ^ n=b / 2 ^ n:=by
 rw [← Nat.shiftRight_eq_div_pow,← Nat.shiftRight_eq_div_pow]
 constructor
 ·intro h
  refine Nat.eq_of_testBit_eq fun i => ?_
  rw [Nat.testBit_shiftRight,Nat.testBit_shiftRight]
  have:=Nat.testBit_lt_two_pow (Nat.lt_of_lt_of_le h (Nat.pow_le_pow_right (by decide) (Nat.le_add_right n i)))
  rw [Nat.testBit_xor] at this
  cases h1:a.testBit (n+i) <;> cases h2:b.testBit (n+i) <;> simp_all
 ·intro h
  refine Nat.lt_pow_two_of_testBit _ fun i hi => ?_
  have h1:(a >>> n).testBit (i-n)=(b >>> n).testBit (i-n):=by rw [h]
  rw [Nat.testBit_shiftRight,Nat.testBit_shiftRight,show n+(i-n)=i by omega] at h1
  rw [Nat.testBit_xor,h1]
  simp
theorem aN {now t:Nat} (hn:now<18446744073709551616) (ht:t<18446744073709551616) {k:Nat} (hk:k<6):aC now t≤k↔t / 64 ^ (k+1)=now / 64 ^ (k+1):=by
 have e:(64:Nat) ^ (k+1)=2 ^ (6*(k+1)):=by rw [Nat.pow_mul]
 rw [e,← xP]
 have h1:(t ^^^ now)<2 ^ (6*(k+1))↔((t ^^^ now)|||1)<2 ^ (6*(k+1)):=by
  have h2:1<2 ^ (6*(k+1)):=Nat.one_lt_two_pow (by omega)
  constructor
  ·intro h;exact Nat.or_lt_two_pow h h2
  ·intro h;exact Nat.lt_of_le_of_lt Nat.left_le_or h
 rw [h1]
 unfold aC
 have hx:((t ^^^ now)|||1)<2 ^ 64:=Nat.or_lt_two_pow (Nat.xor_lt_two_pow ht hn) (by decide)
 have hx0:(t ^^^ now)|||1≠0:=qX _
 generalize (t ^^^ now)|||1=x at *
 obtain ⟨b1,b2,b3⟩:=Lib.bitLenAux_bounds 64 x hx hx0
 have hL:Lib.bitLen x=Lib.bitLenAux 64 x:=rfl
 rw [hL]
 generalize Lib.bitLenAux 64 x=L at *
 constructor
 ·intro h
  exact Nat.lt_of_lt_of_le b3 (Nat.pow_le_pow_right (by decide) (by omega))
 ·intro h
  have:L-1<6*(k+1):=(Nat.pow_lt_pow_iff_right (by decide:1<2)).1 (Nat.lt_of_le_of_lt b2 h)
  omega
theorem eo (now t:Nat):eM now t=t / 64 ^ aC now t % 64:=by
 unfold eM
 rw [show (2:Nat) ^ (aC now t*6)=64 ^ aC now t by rw [Nat.mul_comm,Nat.pow_mul]]
theorem Dv {a b c n:Nat} (h1:a≤b) (h2:b≤c) (h:c / n=a / n):b / n=a / n:=by
 have:=Nat.div_le_div_right (c:=n) h1
 have:=Nat.div_le_div_right (c:=n) h2
 omega
section
variable {now a b:Nat} (hn:now<18446744073709551616) (ha:a<18446744073709551616) (hb:b<18446744073709551616)
theorem pw (hn:now<18446744073709551616) (ha:a<18446744073709551616) (hb:b<18446744073709551616) (h1:now≤a) (h2:a≤b):aC now a≤aC now b:=by
 have h6:=dS now a
 by_cases hk:aC now b<6
 ·exact (aN hn ha hk).2 (Dv h1 h2 ((aN hn hb hk).1 (Nat.le_refl _)))
 ·omega
theorem o7 (hn:now<18446744073709551616) (ha:a<18446744073709551616) (hb:b<18446744073709551616) (h1:now≤a) (h2:a≤b):place now a≤place now b:=by
 have hK:=pw hn ha hb h1 h2
 have h6:=dS now b
 have s1:=ep now a
 have s2:=ep now b
 unfold place
 by_cases hkb:aC now b=6
 ·rw [if_pos hkb]
  split
  ·exact Nat.le_refl _
  ·omega
 ·rw [if_neg hkb,if_neg (by omega)]
  by_cases hab:aC now a=aC now b
  ·have e1:=(aN hn ha (show aC now b<6 by omega)).1 (by omega)
   have e2:=(aN hn hb (show aC now b<6 by omega)).1 (Nat.le_refl _)
   have d:=Nat.div_le_div_right (c:=64 ^ aC now b) h2
   rw [Nat.pow_succ,← Nat.div_div_eq_div_mul] at e1 e2
   rw [← Nat.div_div_eq_div_mul] at e1 e2
   rw [eo,eo,hab]
   omega
  ·omega
theorem xq (hn:now<18446744073709551616) (ha:a<18446744073709551616) (hb:b<18446744073709551616) (h1:now≤a) (h2:a≤b) (h:place now b≠place now a):place a b=place now b:=by
 have hK:=pw hn ha hb h1 h2
 have h6:=dS now b
 have h6':=dS a b
 have hKe:aC a b=aC now b:=by
  by_cases hab:aC now a=aC now b
  ·have hl:aC now b<6:=by
    rcases Nat.lt_or_ge (aC now b) 6 with h' | h'
    ·exact h'
    ·exfalso
     apply h
     unfold place
     rw [if_pos (by omega),if_pos (by omega)]
   have e1:=(aN hn ha hl).1 (by omega)
   have e2:=(aN hn hb hl).1 (Nat.le_refl _)
   have h3:aC a b≤aC now b:=(aN ha hb hl).2 (e2.trans e1.symm)
   rcases Nat.lt_or_ge (aC a b) (aC now b) with h' | h'
   ·exfalso
    have h4:aC a b≤aC now b-1:=by omega
    have e3:=(aN ha hb (show aC now b-1<6 by omega)).1 h4
    rw [show aC now b-1+1=aC now b by omega] at e3
    apply h
    unfold place
    rw [if_neg (by omega),if_neg (by omega),eo,eo,hab,e3]
   ·omega
  ·have hl:aC now a<6:=by omega
   have e1:∀ k,aC now a≤k→k<6→a / 64 ^ (k+1)=now / 64 ^ (k+1):=fun k hk hk6=>(aN hn ha hk6).1 hk
   have e2:∀ k,aC now a≤k→k<6→(aC a b≤k↔aC now b≤k):=fun k hk hk6=>by rw [aN ha hb hk6,aN hn hb hk6,e1 k hk hk6]
   have e3:=e2 (aC now b-1) (by omega) (by omega)
   rcases Nat.lt_or_ge (aC now b) 6 with h' | h'
   ·have e4:=e2 (aC now b) (by omega) h'
    omega
   ·omega
 unfold place eM
 rw [hKe]
theorem xp (hn:now<18446744073709551616) (ha:a<18446744073709551616) (hb:b<18446744073709551616) (_:now≤a) (h2:a≤b) (h:place now b=place now a) (hr:place now a≠390):place a b≤place now a:=by
 have h6:=dS now a
 have h6':=dS a b
 have s1:=ep now a
 have s2:=ep now b
 have s3:=ep a b
 have hka:aC now a≠6:=fun e=>hr (by unfold place;rw [if_pos e])
 have hkb:aC now b≠6:=fun e=>by
  rw [← h] at hr
  exact hr (by unfold place;rw [if_pos e])
 unfold place at h
 rw [if_neg hka,if_neg hkb] at h
 have hK:aC now b=aC now a:=by omega
 have hS:eM now b=eM now a:=by omega
 rw [eo,eo,hK] at hS
 have e1:=(aN hn ha (show aC now a<6 by omega)).1 (Nat.le_refl _)
 have e2:=(aN hn hb (show aC now a<6 by omega)).1 (by omega)
 rw [Nat.pow_succ,← Nat.div_div_eq_div_mul] at e1 e2
 rw [← Nat.div_div_eq_div_mul] at e1 e2
 have e3:b / 64 ^ aC now a=a / 64 ^ aC now a:=by omega
 by_cases h0:aC now a=0
 ·rw [h0] at e3
  have:b=a:=by simpa using e3
  subst this
  have hz:aC b b=0:=by
   have:=(aN hb hb (k:=0) (by decide)).2 rfl
   omega
  unfold place
  rw [if_neg hka,if_neg (by omega),hz,h0,eo,eo,hz,h0]
  exact Nat.le_refl _
 ·have h3:aC a b≤aC now a-1:=(aN ha hb (by omega)).2 (by rw [show aC now a-1+1=aC now a by omega];exact e3)
  unfold place
  rw [if_neg hka,if_neg (by omega)]
  omega
end
end Pg
end
section
open Go.RowKit Go.Proofs Go.Shelf
namespace Pg
def ed (R:Nat→List Nd) (r t:Nat) (xs:List Nd) (q:Nat):List Nd:=upd R r [] q++xs.filter (fun x=>place t x.2.t == q)
theorem vK (R:Nat→List Nd) (r t:Nat) (xs:List Nd) (x:Nd) (q:Nat):ed R r t (xs++[x]) q=upd (ed R r t xs) (place t x.2.t) (ed R r t xs (place t x.2.t)++[(x.1,x.2)]) q:=by
 by_cases e:q=place t x.2.t
 ·subst e
  rw [aJ]
  unfold ed
  rw [List.filter_append,List.filter_cons_of_pos (by simp),List.append_assoc]
  rfl
 ·rw [aL _ _ e]
  unfold ed
  rw [List.filter_append,List.filter_cons_of_neg (by simp;exact fun h=>e h.symm)]
  simp
theorem xI {R:Nat→List Nd} {r t:Nat} {xs:List Nd} {q:Nat} {y:Nd} (h:y∈ed R r t xs q):(q≠r∧y∈R q)∨y∈xs:=by
 rcases List.mem_append.1 h with h | h
 ·by_cases e:q=r
  ·subst e;rw [aJ] at h;cases h
  ·rw [aL _ _ e] at h;exact .inl ⟨e,h⟩
 ·exact .inr (List.mem_filter.1 h).1
structure RgD (lo:Nat) (R:Nat→List Nd):Prop where
 low:∀ r,isR r→∀ x∈R r,lo≤x.1
 dis:∀ r q,isR r→isR q→r≠q→∀ x∈R r,∀ y∈R q,x.1≠y.1
 nod:∀ r,isR r→((R r).map (·.1)).Nodup
theorem cZ.rgD {W:World} {lo:Nat} {wh:Nat→Value} {R:Nat→List Nd} (h:cZ W lo wh R):RgD lo R:=⟨h.low,h.dis,h.nod⟩
structure TuI (w0:World) (lo mb pb:Nat) (qv:Value) (s:MSt) (R:Nat→List Nd) (r:Nat) (xs:List Nd) (V:World):Prop where
 pre:xs=(R r).take xs.length
 ex:∃ wh',aw V lo mb pb qv { s with wh:=wh' }∧WhM V lo { s with wh:=wh' } (ed R r s.now xs)
 rest:∀ i x,xs.length≤i→(R r)[i]?=some x→V.heap[x.1]?=some (.cells (eh x.2 (nxt (R r) i)) 250 (0,0))
 rf:Rf lo w0 V
theorem TuI.gr {w0 V V':World} {row:Option Nat} {lo mb pb:Nat} {qv:Value} {s:MSt} {R:Nat→List Nd} {r:Nat} {xs:List Nd} (h:TuI w0 lo mb pb qv s R r xs V) (hl:lo≤w0.heap.size) (hg:V.grownBy V' row) (hr:∀ j,row=some j→w0.heap.size≤j∧∃ o:Obj,V.heap[j]?=some o∧o.isCells=false):TuI w0 lo mb pb qv s R r xs V':=by
 obtain ⟨wh',a,b⟩:=h.ex
 have hr':∀ j,row=some j→∃ o:Obj,V.heap[j]?=some o∧o.isCells=false:=fun j e=>(hr j e).2
 refine ⟨h.pre,⟨wh',a.gr hg hr',b.kd (E:=fun _=>False) (jH hg hr') (fun h=>h)⟩,fun i x hi hx => ?_,h.rf.gr hl hg hr⟩
 have hx':=h.rest i x hi hx
 exact (jH (E:=fun _=>False) hg hr').ax _ _ _ _ hx' (fun h=>h) |>.trans hx'
theorem TuI.far {w0 V:World} {lo mb pb:Nat} {qv:Value} {s:MSt} {R:Nat→List Nd} {r:Nat} {xs:List Nd} (h:TuI w0 lo mb pb qv s R r xs V) (hD:RgD lo R) (hr:isR r) {i:Nat} {y:Nd} (hi:xs.length≤i) (hy:(R r)[i]?=some y):∀ q,isR q→∀ z∈ed R r s.now xs q,z.1≠y.1:=fun q hq z hz=>by
 rcases xI hz with ⟨e,hz⟩ | hz
 ·exact hD.dis q r hq hr e z hz y (List.mem_of_getElem? hy)
 ·rw [h.pre] at hz
  exact uU (hD.nod r hr) hi hy z hz
theorem TuI.step {w0 V V':World} {lo mb pb:Nat} {qv:Value} {s:MSt} {R:Nat→List Nd} {r:Nat} {xs:List Nd} {x:Nd} (h:TuI w0 lo mb pb qv s R r xs V) (hD:RgD lo R) (hr:isR r) (hx:(R r)[xs.length]?=some x)
  (h1:∃ wh',aw V' lo mb pb qv { s with wh:=wh' }∧WhM V' lo { s with wh:=wh' } (upd (ed R r s.now xs) (place s.now x.2.t) (ed R r s.now xs (place s.now x.2.t)++[(x.1,x.2)]))) (h2:Rf lo V V') (h3:Mo (fun k=>k=mb∨k=x.1∨∃ q,isR q∧∃ y∈ed R r s.now xs q,k=y.1) V V'):TuI w0 lo mb pb qv s R r (xs++[x]) V':=by
 obtain ⟨wh',a,b⟩:=h1
 obtain ⟨wh0,a0,_⟩:=h.ex
 refine ⟨?_,⟨wh',a,b.congr (fun q _=>vK R r s.now xs x q)⟩,fun i y hi hy => ?_,h.rf.trans h2⟩
 ·rw [List.length_append,List.length_singleton,← eT hx]
  conv=>lhs;rw [h.pre]
 ·have hi':xs.length+1≤i:=by rw [List.length_append,List.length_singleton] at hi;exact hi
  have hy0:=h.rest i y (by omega) hy
  refine (h3.block y.1 (Array.getElem?_eq_some_iff.1 hy0).1 ?_).trans hy0
  rintro (e | e | ⟨q,hq,z,hz,e⟩)
  ·exact a0.typ hy0 e.symm
  ·have hxm:x∈(R r).take (xs.length+1):=by rw [← eT hx];simp
   exact uU (hD.nod r hr) hi' hy x hxm e.symm
  ·exact h.far hD hr (by omega) hy q hq z hz e.symm
theorem TuI.rd {w0 V:World} {lo mb pb:Nat} {qv:Value} {s:MSt} {R:Nat→List Nd} {r:Nat} {xs:List Nd} (h:TuI w0 lo mb pb qv s R r xs V) (ht:∀ x∈R r,isR (place s.now x.2.t)) {Bs:Nat} (hb:V.cell? ⟨Bs,0,none⟩=some (aG (R r))):RdN Bs (R r) xs.length V:=by
 obtain ⟨wh',a,b⟩:=h.ex
 refine ⟨hb,fun x hx => ?_,fun x hx => ?_,fun h0 z hz => ?_⟩
 ·obtain ⟨i,hi⟩:=List.mem_iff_getElem?.1 hx
  rcases Nat.lt_or_ge i xs.length with hil | hil
  ·have hxx:x∈xs:=by
    rw [h.pre]
    exact List.mem_of_getElem? (by rw [List.getElem?_take_of_lt hil];exact hi)
   have hm:x∈ed R r s.now xs (place s.now x.2.t):=List.mem_append.2 (.inr (List.mem_filter.2 ⟨hxx,by simp⟩))
   obtain ⟨j,hj⟩:=List.mem_iff_getElem?.1 hm
   exact ⟨_,b.rgs.nds _ (ht x hx) j x hj⟩
  ·exact ⟨_,h.rest i x hil hi⟩
 ·rw [cell_of_row V _ _ _ _ _ (h.rest _ x (Nat.le_refl _) hx)];rfl
 ·have hlz:(R r)[(R r).length-1]?=some z:=by rw [← List.getLast?_eq_getElem?];exact hz
  rw [cell_of_row V _ _ _ _ _ (h.rest _ z (by omega) hlz)];rfl
theorem vJ {R:Nat→List Nd} {now t:Nat} {T:List Tn} (hnow:now<18446744073709551616) (ht:t<18446744073709551616) (hle:now≤t) (hT:∀ x∈T,t≤x.t∧x.t<18446744073709551616) (hR:∀ r,isR r→(R r).map (·.2)=T.filter (fun x=>place now x.t == r)) {q:Nat} (hq:isR q) :
  (ed R (place now t) t (R (place now t)) q).map (·.2)=T.filter (fun x=>place t x.t == q):=by
 have hr:=eK now t
 have hup:∀ x∈T,place now t≤place now x.t:=fun x hx=>o7 hnow ht (hT x hx).2 hle (hT x hx).1
 have hst:∀ x∈T,place now x.t≠place now t→place t x.t=place now x.t:=fun x hx h=>xq hnow ht (hT x hx).2 hle (hT x hx).1 h
 have hdn:∀ x∈T,place now x.t=place now t→place now t≠390→place t x.t≤place now t:=fun x hx h h'=>xp hnow ht (hT x hx).2 hle (hT x hx).1 h h'
 unfold ed
 rw [List.map_append]
 have e2:((R (place now t)).filter (fun x=>place t x.2.t == q)).map (·.2)=(T.filter (fun x=>place now x.t == place now t)).filter (fun x=>place t x.t == q):=by
  rw [← hR _ hr,List.filter_map]
  rfl
 rw [e2,List.filter_filter]
 generalize place now t=r at *
 rcases Nat.lt_trichotomy q r with h | h | h
 ·have e1:(upd R r [] q).map (·.2)=[]:=by
   rw [aL _ _ (by omega),hR q hq]
   refine List.filter_eq_nil_iff.2 fun x hx => ?_
   have:=hup x hx
   simp;omega
  rw [e1,List.nil_append]
  refine List.filter_congr fun x hx => ?_
  by_cases e:place now x.t=r
  ·simp [e]
  ·have h1:=hst x hx e
   have h2:=hup x hx
   have:¬ place t x.t=q:=by omega
   simp [this]
 ·subst h
  rw [aJ,List.map_nil,List.nil_append]
  refine List.filter_congr fun x hx => ?_
  by_cases e:place now x.t=q
  ·simp [e]
  ·have h1:=hst x hx e
   have:¬ place t x.t=q:=by omega
   simp [this]
 ·have hne:r≠390:=by have:=hq.lt;omega
  have e1:T.filter (fun x=>(place t x.t == q)&&(place now x.t == r))=[]:=by
   refine List.filter_eq_nil_iff.2 fun x hx => ?_
   by_cases e:place now x.t=r
   ·have:=hdn x hx e hne
    have:¬ place t x.t=q:=by omega
    simp [this]
   ·simp [e]
  rw [e1,List.append_nil,aL _ _ (by omega),hR q hq]
  refine List.filter_congr fun x hx => ?_
  by_cases e:place now x.t=r
  ·have:=hdn x hx e hne
   have h1:¬ place t x.t=q:=by omega
   have h2:¬ r=q:=by omega
   rw [e,beq_eq_false_iff_ne.2 h2,beq_eq_false_iff_ne.2 h1]
  ·rw [hst x hx e]
end Pg
end
end Go.Proofs.YtegmoddppafkfaaGreatDoor
