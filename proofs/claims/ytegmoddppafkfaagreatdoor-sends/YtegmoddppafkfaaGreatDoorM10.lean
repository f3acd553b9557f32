import Derived.Test.YtegmoddppafkfaaGreatDoorM00
import Derived.Test.YtegmoddppafkfaaGreatDoorM09
set_option maxRecDepth 100000
set_option maxHeartbeats 8000000
namespace Go.Proofs.YtegmoddppafkfaaGreatDoor
section
open Go.RowKit Go.Proofs Go.Shelf
attribute [local go_sem] Oper.semAt_some
theorem ui (w:World) (Nb:Nat) (ev nm nm0:ByteArray) (hN:w.cell? ⟨Nb,0,none⟩=some (.string nm0)) :
  Calls Tryz.prog 382 #[.agg #[.string ev,.string nm],.pointer (some ⟨Nb,0,none⟩)] w fun e w'=>e = .returned (.bool (nm.toList == nm0.toList))∧w'=w.alloc (.cells #[.string ev,.string nm] 154):=by
 have hl:=fB hN
 have hN1:(w.alloc (.cells #[.string ev,.string nm] 154)).cell? ⟨Nb,0,none⟩=some (.string nm0):=(KpM.below (B:=fun _=>False) ((Below.refl _ w).alloc (Nat.le_refl _) _)).cell hN (fun h=>h)
 go_enter Tryz.func382,Tryz.ntmps382
 go_wp2
 go_ret
 exact ⟨rfl,rfl⟩
namespace Pg
def aS (nm0:ByteArray) (L:List Nd):List Nd:=L.filter fun x => !(x.2.nm.toList == nm0.toList)
theorem oV (nm0:ByteArray) (L:List Nd) (x:Nd):aS nm0 (L++[x])=if x.2.nm.toList == nm0.toList then aS nm0 L else aS nm0 L++[x]:=by
 unfold aS
 rw [List.filter_append]
 cases h:x.2.nm.toList == nm0.toList <;> simp [h]
structure DrI (w0:World) (mb c:Nat) (nm0:ByteArray) (L:List Nd) (xs:List Nd) (V:World):Prop where
 pre:xs=L.take xs.length
 cell:V.cell? ⟨mb,c,none⟩=some (aD (aS nm0 xs))
 ring:bI V (aS nm0 xs)
 rest:∀ i x,xs.length≤i→L[i]?=some x→V.heap[x.1]?=some (.cells (dL x.2 (nxt L i)) 250 (0,0))
 nd:∀ x∈L,∃ v,V.heap[x.1]?=some (.cells (dL x.2 v) 250 (0,0))
 mo:Mo (fun k=>k=mb∨∃ x∈L,k=x.1) w0 V
 blk:∃ arr arr':Array Value,w0.heap[mb]?=some (.cells arr 152 (0,0))∧V.heap[mb]?=some (.cells arr' 152 (0,0))∧arr'.size=arr.size∧∀ j,j≠c→arr'[j]?=arr[j]?
theorem iR {nm0:ByteArray} {L:List Nd} {x:Nd} (h:x∈aS nm0 L):x∈L:=(List.mem_filter.1 h).1
theorem jX {L:List Nd} {n:Nat} {x:Nd} (h:x∈L.take n):x∈L:=List.mem_of_mem_take h
theorem jR {L:List Nd} (hnd:(L.map (·.1)).Nodup) {n i:Nat} {y:Nd} (hi:n≤i) (hy:L[i]?=some y):∀ z∈L.take n,z.1≠y.1:=fun z hz e=>by
 obtain ⟨j,hj⟩:=List.mem_iff_getElem?.1 hz
 have hjn:j<n:=by
  have:=(List.getElem?_eq_some_iff.1 hj).1
  rw [List.length_take] at this
  omega
 rw [List.getElem?_take_of_lt hjn] at hj
 have a1:(L.map (·.1))[j]?=some y.1:=by rw [List.getElem?_map,hj,← e];rfl
 have a2:(L.map (·.1))[i]?=some y.1:=by rw [List.getElem?_map,hy];rfl
 have:=(List.getElem?_inj (by simp;exact (List.getElem?_eq_some_iff.1 hj).1) hnd).1 (a1.trans a2.symm)
 omega
theorem Cb {L:List Nd} (hnd:(L.map (·.1)).Nodup) {y z:Nd} (hy:y∈L) (hz:z∈L) (e:y.1=z.1):y=z:=by
 obtain ⟨i,hi⟩:=List.mem_iff_getElem?.1 hy
 obtain ⟨j,hj⟩:=List.mem_iff_getElem?.1 hz
 have a1:(L.map (·.1))[i]?=some y.1:=by rw [List.getElem?_map,hi];rfl
 have a2:(L.map (·.1))[j]?=some y.1:=by rw [List.getElem?_map,hj,e];rfl
 have:=(List.getElem?_inj (by simp;exact (List.getElem?_eq_some_iff.1 hi).1) hnd).1 (a1.trans a2.symm)
 subst this
 rw [hi] at hj
 exact Option.some.inj hj
theorem xO {w:World} {mb o n:Nat} {l:List Nd} {v:Value} (hc:w.cell? ⟨mb,o,none⟩=some v) (hcn:mb≠n) (hcl:mb ∉ l.map (·.1)):(dD w ⟨mb,o,none⟩ l n).cell? ⟨mb,o,none⟩=some (ndP n):=by
 have hset:∀ (W:World) (b:Nat) (u:Value),mb≠b→(W.setCell ⟨b,3,none⟩ u).cell? ⟨mb,o,none⟩=W.cell? ⟨mb,o,none⟩:=fun W b u hb=>ax (by intro e;injection e with e1;exact hb e1.symm)
 unfold dD
 cases hz:l.getLast? with
 | none=>exact World.cell?_setCell_same _ _ _ ((hset _ _ _ hcn).trans hc)
 | some z =>
  have hzl:mb≠z.1:=fun e=>hcl (List.mem_map.2 ⟨z,List.mem_of_getLast? hz,e.symm⟩)
  exact World.cell?_setCell_same _ _ _ ((hset _ _ _ hzl).trans ((hset _ _ _ hcn).trans hc))
theorem Ap {w:World} {mb o n:Nat} {l:List Nd} {arr:Array Value} {t:TypeId} (hb:w.heap[mb]?=some (.cells arr t (0,0))) (hcn:mb≠n) (hcl:mb ∉ l.map (·.1)):(dD w ⟨mb,o,none⟩ l n).heap[mb]?=some (.cells (arr.setIfInBounds o (ndP n)) t (0,0)):=by
 have hset:∀ (W:World) (b:Nat) (u:Value),mb≠b→(W.setCell ⟨b,3,none⟩ u).heap[mb]?=W.heap[mb]?:=fun W b u hb=>Below.heap_setCell W _ u mb hb
 unfold dD
 cases hz:l.getLast? with
 | none=>exact heap_setCell_same _ mb o _ _ _ ((hset _ _ _ hcn).trans hb)
 | some z =>
  have hzl:mb≠z.1:=fun e=>hcl (List.mem_map.2 ⟨z,List.mem_of_getLast? hz,e.symm⟩)
  exact heap_setCell_same _ mb o _ _ _ ((hset _ _ _ hzl).trans ((hset _ _ _ hcn).trans hb))
theorem DrI.mo' {P:Nat→Prop} {w0 V V':World} {mb c:Nat} {nm0:ByteArray} {L xs:List Nd} (h:DrI w0 mb c nm0 L xs V) (hm:Mo P V V') (h1:¬ P mb) (h2:∀ x∈L,¬ P x.1) (h3:∀ k,k<w0.heap.size→P k→k=mb∨∃ x∈L,k=x.1):DrI w0 mb c nm0 L xs V':=by
 obtain ⟨arr,arr',a1,a2,a3,a4⟩:=h.blk
 have hmbl:=(Array.getElem?_eq_some_iff.1 a2).1
 have hk:∀ (x:Nd) (ob:Obj),x∈L→V.heap[x.1]?=some ob→V'.heap[x.1]?=some ob:=fun x ob hx ho=>(hm.block x.1 (Array.getElem?_eq_some_iff.1 ho).1 (h2 x hx)).trans ho
 refine ⟨h.pre,(hm.cell (p:=⟨mb,c,none⟩) hmbl h1).trans h.cell,fun i x hx => ?_,fun i x hi hx=>hk x _ (List.mem_of_getElem? hx) (h.rest i x hi hx),fun x hx => ?_,h.mo.trans' hm h3,arr,arr',a1,(hm.block mb hmbl h1).trans a2,a3,a4⟩
 ·have hxl:x∈L:=jX (h.pre ▸ iR (List.mem_of_getElem? hx))
  exact hk x _ hxl (h.ring i x hx)
 ·obtain ⟨v,hv⟩:=h.nd x hx
  exact ⟨v,hk x _ hx hv⟩
theorem DrI.below {w0 V V':World} {mb c:Nat} {nm0:ByteArray} {L xs:List Nd} (h:DrI w0 mb c nm0 L xs V) (hb:Below V.heap.size V V'):DrI w0 mb c nm0 L xs V':=h.mo' (P:=fun _=>False) (aq hb) (fun h=>h) (fun _ _ h=>h) (fun _ _ h=>h.elim)
theorem DrI.own {w0:World} {B mb c:Nat} {nm0:ByteArray} {L:List Nd} (hB:w0.heap.size≤B):OwnFrom B (fun xs V=>DrI w0 mb c nm0 L xs V):=fun xs A C row h hg hr=>by
 obtain ⟨arr,arr',a1,a2,a3,a4⟩:=h.blk
 refine h.mo' (P:=fun k=>some k=row) ⟨hg.os,hg.tape,hg.output,hg.size,fun k hk hn=>hg.block k hk hn⟩ (fun e => ?_) (fun x hx e => ?_) (fun k hk e => ?_)
 ·obtain ⟨_,o,ho,hc⟩:=hr _ e.symm
  rw [a2] at ho
  cases ho
  cases hc
 ·obtain ⟨_,o,ho,hc⟩:=hr _ e.symm
  obtain ⟨v,hv⟩:=h.nd x hx
  rw [hv] at ho
  cases ho
  cases hc
 ·have:=(hr k e.symm).1
  omega
theorem DrI.skip {w0 V:World} {mb c:Nat} {nm0:ByteArray} {L xs:List Nd} {x:Nd} (h:DrI w0 mb c nm0 L xs V) (hx:L[xs.length]?=some x) (hn:(x.2.nm.toList == nm0.toList)=true):DrI w0 mb c nm0 L (xs++[x]) V:=by
 have hk:aS nm0 (xs++[x])=aS nm0 xs:=by rw [oV,if_pos hn]
 refine ⟨?_,by rw [hk];exact h.cell,by rw [hk];exact h.ring,fun i y hi hy=>h.rest i y (by rw [List.length_append] at hi;omega) hy,h.nd,h.mo,h.blk⟩
 rw [List.length_append,List.length_singleton,← cY hx,← h.pre]
theorem DrI.push {w0 V:World} {mb c:Nat} {nm0:ByteArray} {L xs:List Nd} {x:Nd} (h:DrI w0 mb c nm0 L xs V) (hnd:(L.map (·.1)).Nodup) (hx:L[xs.length]?=some x) (hn:(x.2.nm.toList == nm0.toList)=false) :
  x.1 ∉ (aS nm0 xs).map (·.1)∧mb≠x.1∧mb ∉ (aS nm0 xs).map (·.1)∧DrI w0 mb c nm0 L (xs++[x]) (dD V ⟨mb,c,none⟩ (aS nm0 xs) x.1):=by
 obtain ⟨arr,arr',a1,a2,a3,a4⟩:=h.blk
 have hk:aS nm0 (xs++[x])=aS nm0 xs++[x]:=by rw [oV,if_neg (by rw [hn];decide)]
 have hmem:∀ z∈aS nm0 xs,z∈L.take xs.length:=fun z hz=>h.pre ▸ iR hz
 have hxl:x∈L:=List.mem_of_getElem? hx
 have hmbn:∀ y∈L,mb≠y.1:=fun y hy e=>by
  obtain ⟨v,hv⟩:=h.nd y hy
  rw [← e,a2] at hv
  simp at hv
 have n1:x.1 ∉ (aS nm0 xs).map (·.1):=fun e=>by
  obtain ⟨z,hz,e⟩:=List.mem_map.1 e
  exact jR hnd (Nat.le_refl _) hx z (hmem z hz) e
 have n3:mb ∉ (aS nm0 xs).map (·.1):=fun e=>by
  obtain ⟨z,hz,e⟩:=List.mem_map.1 e
  exact hmbn z (jX (hmem z hz)) e.symm
 have n4:((aS nm0 xs).map (·.1)).Nodup:=by
  have:(aS nm0 xs).Sublist L:=by
   refine List.Sublist.trans List.filter_sublist ?_
   rw [h.pre]
   exact List.take_sublist _ _
  exact (this.map _).nodup hnd
 obtain ⟨p1,p2⟩:=h.ring.push (p:=⟨mb,c,none⟩) (x:=x.2) n4 (h.rest _ x (Nat.le_refl _) hx) n1 (hmbn x hxl) n3
 have hzL:∀ z,(aS nm0 xs).getLast?=some z→z∈L.take xs.length:=fun z hz=>hmem z (List.mem_of_getLast? hz)
 refine ⟨n1,hmbn x hxl,n3,?_,?_,by rw [hk];exact p1,fun i y hi hy => ?_,fun y hy => ?_,h.mo.trans' p2 (fun k _ e => ?_),arr,_,a1,Ap a2 (hmbn x hxl) n3,by simp [a3],fun j hj => ?_⟩
 ·rw [List.length_append,List.length_singleton,← cY hx,← h.pre]
 ·rw [hk,kW]
  exact xO h.cell (hmbn x hxl) n3
 ·rw [List.length_append,List.length_singleton] at hi
  have hv:=h.rest i y (by omega) hy
  refine (p2.block y.1 (Array.getElem?_eq_some_iff.1 hv).1 (fun e => ?_)).trans hv
  have hxt:x∈L.take (xs.length+1):=by rw [← cY hx];simp
  rcases e with e | e | ⟨z,hz,e⟩
  ·exact hmbn y (List.mem_of_getElem? hy) e.symm
  ·exact jR hnd hi hy x hxt e.symm
  ·exact jR hnd (by omega) hy z (hzL z hz) e.symm
 ·by_cases e1:y.1=x.1
  ·obtain rfl:=Cb hnd hy hxl e1
   have:=p1 (aS nm0 xs).length y (by simp)
   exact ⟨_,this⟩
  ·by_cases e2:∃ z,(aS nm0 xs).getLast?=some z∧y.1=z.1
   ·obtain ⟨z,hz,e2⟩:=e2
    obtain rfl:=Cb hnd hy (jX (hzL z hz)) e2
    obtain ⟨i,hi⟩:=List.mem_iff_getElem?.1 (List.mem_of_getLast? hz)
    have hi2:(aS nm0 xs++[(x.1,x.2)])[i]?=some y:=by rw [List.getElem?_append_left (List.getElem?_eq_some_iff.1 hi).1];exact hi
    exact ⟨_,p1 i y hi2⟩
   ·obtain ⟨v,hv⟩:=h.nd y hy
    refine ⟨v,(p2.block y.1 (Array.getElem?_eq_some_iff.1 hv).1 (fun e => ?_)).trans hv⟩
    rcases e with e | e | e
    ·exact hmbn y hy e.symm
    ·exact e1 e
    ·exact e2 e
 ·rcases e with e | e | ⟨z,hz,e⟩
  ·exact .inl e
  ·exact .inr ⟨x,hxl,e⟩
  ·exact .inr ⟨z,jX (hzL z hz),e⟩
 ·rw [Array.getElem?_setIfInBounds_ne (fun e=>hj e.symm)]
  exact a4 j hj
end Pg
theorem At (w:World) (mb c Nb:Nat) (nm0:ByteArray) (L:List Pg.Nd) (arr:Array Value) (hb:w.heap[mb]?=some (.cells arr 152 (0,0))) (hc:w.cell? ⟨mb,c,none⟩=some (Pg.aD L)) (hR:Pg.bI w L) (hnd:(L.map (·.1)).Nodup) (hN:Boxed w Nb 9 (.string nm0)) :
  Calls Tryz.prog 385 #[.pointer (some ⟨mb,c,none⟩),.func (.func 382) #[] #[.pointer (some ⟨Nb,0,none⟩)]] w fun e w'=>e = .returned (.tuple #[])∧Pg.DrI w mb c nm0 L L w':=by
 refine (callsIn_wide (n:=7)).1 ?_
 have hfz:w.frozen? ⟨mb,c,none⟩=false:=by simp [World.frozen?,hb]
 have hmb:mb<w.heap.size:=(Array.getElem?_eq_some_iff.1 hb).1
 obtain ⟨rp,hrv⟩:∃ rp,Pg.aD L = .pointer rp:=by
  unfold Pg.aD
  cases L.getLast? with
  | none=>exact ⟨_,rfl⟩
  | some z=>exact ⟨_,rfl⟩
 have hno:=fun V=>j8 (Pg.aD L) V (by
  unfold Pg.aD
  cases L.getLast? with
  | none=>exact .inl rfl
  | some z=>exact .inr ⟨z.1,rfl⟩)
 rw [hrv] at hc hno
 have hB3:∀ o1 o2 o3:Obj,Below w.heap.size w (((w.alloc o1).alloc o2).alloc o3):=fun o1 o2 o3=>(((Below.refl _ w).alloc (Nat.le_refl _) _).alloc (by simp) _).alloc (by simp;omega) _
 have hb3:=(hB3 (.cells #[.pointer (some ⟨mb,c,none⟩)] 397) (.cells #[.func (.func 382) #[] #[.pointer (some ⟨Nb,0,none⟩)]] 281) (.cells #[.pointer rp] 144)).block mb hmb
 rw [hb] at hb3
 have c3:(((w.alloc (.cells #[.pointer (some ⟨mb,c,none⟩)] 397)).alloc (.cells #[.func (.func 382) #[] #[.pointer (some ⟨Nb,0,none⟩)]] 281)).alloc (.cells #[.pointer rp] 144)).cell? ⟨mb,c,none⟩=some (.pointer rp):=by rw [cell_of_row _ _ _ _ _ _ hb3,← cell_of_row w _ _ _ _ _ hb];exact hc
 have f3:(((w.alloc (.cells #[.pointer (some ⟨mb,c,none⟩)] 397)).alloc (.cells #[.func (.func 382) #[] #[.pointer (some ⟨Nb,0,none⟩)]] 281)).alloc (.cells #[.pointer rp] 144)).frozen? ⟨mb,c,none⟩=false:=by simp [World.frozen?,hb3]
 refine callsIn_of_wp_marks Tryz.func385 rfl trivial ?_ rfl
 simp only [Tryz.ntmps385,List.size_toArray,List.length_cons,List.length_nil,Nat.reduceAdd,Nat.reduceSub,Array.replicate_succ,Array.replicate_zero,List.push_toArray,List.append_toArray,List.nil_append,List.cons_append]
 gi_wp2_with (refine ⟨trivial,?_⟩;gi_at_call 171;refine (callsIn_wide.2 (hno _)).mono ?_;rintro e w9 ⟨rfl,hw9⟩;rw [hw9];clear hw9 w9)
 have hW3s:(((w.alloc (.cells #[.pointer (some ⟨mb,c,none⟩)] 397)).alloc (.cells #[.func (.func 382) #[] #[.pointer (some ⟨Nb,0,none⟩)]] 281)).alloc (.cells #[.pointer rp] 144)).heap.size=w.heap.size+3:=by simp
 have B3:=hB3 (.cells #[.pointer (some ⟨mb,c,none⟩)] 397) (.cells #[.func (.func 382) #[] #[.pointer (some ⟨Nb,0,none⟩)]] 281) (.cells #[.pointer rp] 144)
 have x0:Boxed (((w.alloc (.cells #[.pointer (some ⟨mb,c,none⟩)] 397)).alloc (.cells #[.func (.func 382) #[] #[.pointer (some ⟨Nb,0,none⟩)]] 281)).alloc (.cells #[.pointer rp] 144)) w.heap.size 397 (.pointer (some ⟨mb,c,none⟩)):=((Boxed.new w _ _).alloc _).alloc _
 have x1:Boxed (((w.alloc (.cells #[.pointer (some ⟨mb,c,none⟩)] 397)).alloc (.cells #[.func (.func 382) #[] #[.pointer (some ⟨Nb,0,none⟩)]] 281)).alloc (.cells #[.pointer rp] 144)) (w.heap.size+1) 281 (.func (.func 382) #[] #[.pointer (some ⟨Nb,0,none⟩)]):=by
  have:=(Boxed.new (w.alloc (.cells #[.pointer (some ⟨mb,c,none⟩)] 397)) 281 (.func (.func 382) #[] #[.pointer (some ⟨Nb,0,none⟩)])).alloc (.cells #[.pointer rp] 144)
  rw [World.size_alloc] at this
  exact this
 have xN:Boxed (((w.alloc (.cells #[.pointer (some ⟨mb,c,none⟩)] 397)).alloc (.cells #[.func (.func 382) #[] #[.pointer (some ⟨Nb,0,none⟩)]] 281)).alloc (.cells #[.pointer rp] 144)) Nb 9 (.string nm0):=au hN B3 hN.lt
 clear c3 f3 hfz hB3
 generalize (((w.alloc (.cells #[.pointer (some ⟨mb,c,none⟩)] 397)).alloc (.cells #[.func (.func 382) #[] #[.pointer (some ⟨Nb,0,none⟩)]] 281)).alloc (.cells #[.pointer rp] 144))=W3 at *
 have hne:Nb≠mb:=fun e=>by
  have h:=hN
  rw [e] at h
  rw [show w.heap[mb]?=_ from h] at hb
  simp at hb
 have x3:=Boxed.new (W3.setCell ⟨mb,c,none⟩ (.pointer none)) 144 (.pointer rp)
 have hsS:(W3.setCell ⟨mb,c,none⟩ (.pointer none)).heap.size=w.heap.size+1+1+1:=by simp [hW3s]
 rw [hsS] at x3
 have y0:=(bm x0 (p:=⟨mb,c,none⟩) (by show w.heap.size≠mb;omega) (.pointer none)).alloc (.cells #[.pointer rp] 144)
 have y1:=(bm x1 (p:=⟨mb,c,none⟩) (by show w.heap.size+1≠mb;omega) (.pointer none)).alloc (.cells #[.pointer rp] 144)
 have yN:=(bm xN (p:=⟨mb,c,none⟩) hne (.pointer none)).alloc (.cells #[.pointer rp] 144)
 have hbS:(W3.setCell ⟨mb,c,none⟩ (.pointer none)).heap[mb]?=some (.cells (arr.setIfInBounds c (.pointer none)) 152 (0,0)):=heap_setCell_same W3 mb c _ _ _ hb3
 have hmbn:∀ y∈L,mb≠y.1:=fun y hy e=>by
  obtain ⟨i,hi⟩:=List.mem_iff_getElem?.1 hy
  have:=hR i y hi
  rw [← e,hb] at this
  simp at this
 have hRS:∀ (i:Nat) (y:Pg.Nd),L[i]?=some y→(W3.setCell ⟨mb,c,none⟩ (.pointer none)).heap[y.1]?=some (.cells (Pg.dL y.2 (Pg.nxt L i)) 250 (0,0)):=fun i y hy=>(Below.heap_setCell W3 _ _ y.1 (fun e=>hmbn y (List.mem_of_getElem? hy) e.symm)).trans ((B3.block y.1 (Array.getElem?_eq_some_iff.1 (hR i y hy)).1).trans (hR i y hy))
 have hcl:c<arr.size:=by
  rw [cell_of_row w _ _ _ _ _ hb] at hc
  exact (Array.getElem?_eq_some_iff.1 hc).1
 have hDS:Pg.DrI w mb c nm0 L [] (W3.setCell ⟨mb,c,none⟩ (.pointer none)):=⟨by simp,by rw [cell_of_row _ _ _ _ _ _ hbS];exact Array.getElem?_setIfInBounds_self_of_lt hcl,Pg.bI.nil _,fun i y _ hy=>hRS i y hy,fun y hy=>by
  obtain ⟨i,hi⟩:=List.mem_iff_getElem?.1 hy
  exact ⟨_,hRS i y hi⟩,(aq (B3)).set _ _ (.inl rfl),arr,_,hb,hbS,by simp,fun j hj=>Array.getElem?_setIfInBounds_ne (fun e=>hj e.symm)⟩
 have hD0:=hDS.below (((Below.refl _ _).alloc (Nat.le_refl _) (.cells #[.pointer rp] 144)))
 have hs0:((W3.setCell ⟨mb,c,none⟩ (.pointer none)).alloc (.cells #[.pointer rp] 144)).heap.size=w.heap.size+4:=by simp [hW3s]
 clear hDS hRS hbS hsS x0 x1 xN hb3 hW3s B3 hno
 generalize (W3.setCell ⟨mb,c,none⟩ (.pointer none)).alloc (.cells #[.pointer rp] 144)=W0 at *
 refine pq rfl (by omega) (gf:=204) rfl trivial (enters_of Tryz.func204 (by kernel_rfl) rfl)
  (vz 6 (by omega) (w.heap.size+1+1+1) L hnd W0) (fun _ _=>trivial) (fun _ _ _ _ _=>trivial) (fun _=>rfl)
  (fun xs V=>Pg.DrI w mb c nm0 L xs V∧(Boxed V w.heap.size 397 (.pointer (some ⟨mb,c,none⟩))∧Boxed V (w.heap.size+1) 281 (.func (.func 382) #[] #[.pointer (some ⟨Nb,0,none⟩)]))∧(Boxed V (w.heap.size+1+1+1) 144 (.pointer rp)∧Boxed V Nb 9 (.string nm0)))
  (OwnFrom.and (Pg.DrI.own (by omega)) (OwnFrom.and (OwnFrom.and (Own.from (boxed_own _ _ _) _) (Own.from (boxed_own _ _ _) _)) (OwnFrom.and (Own.from (boxed_own _ _ _) _) (Own.from (boxed_own _ _ _) _))))
  (fun xs V hI => ?rd) ⟨hD0,⟨y0,y1⟩,x3,yN⟩
  (fun x a' _=>a'={ tmps:=#[.pointer (some ⟨mb,c,none⟩),.func (.func 382) #[] #[.pointer (some ⟨Nb,0,none⟩)],.pointer (some ⟨w.heap.size,0,none⟩),.pointer (some ⟨w.heap.size+1,0,none⟩),.pointer (some ⟨w.heap.size+1+1,0,none⟩),.pointer (some ⟨x.1,0,none⟩),.pointer (some ⟨mb,c,none⟩),.pointer (some ⟨mb,c,none⟩),.agg #[.pointer rp],.pointer (some ⟨mb,c,none⟩),.pointer (some ⟨mb,c,none⟩),.pointer (some ⟨mb,c,none⟩),.agg #[.pointer rp],.func (.func 204) #[] #[.pointer (some ⟨w.heap.size+1+1+1,0,none⟩)],.pointer (some ⟨x.1,0,none⟩),undef,undef,undef,undef,undef,undef,undef,undef,undef,undef],defers:=[] }) (fun _ _ _ _ _ _ hs _ _=>hs) ?assign ?body ?done
 case rd =>
  obtain ⟨hD,_,hbx,_⟩:=hI
  refine ⟨by rw [hrv];exact hbx.cell,fun x hx => ?_,fun x hx => ?_,fun h0 z hz => ?_⟩
  ·obtain ⟨v,hv⟩:=hD.nd x hx
   exact ⟨_,hv⟩
  ·rw [cell_of_row V _ _ _ _ _ (hD.rest _ x (Nat.le_refl _) hx)];rfl
  ·have hlz:L[L.length-1]?=some z:=by rw [← List.getLast?_eq_getElem?];exact hz
   rw [cell_of_row V _ _ _ _ _ (hD.rest _ z (by omega) hlz)];rfl
 case assign =>
  intro l xs x V K hI hK
  gi_wp2
  exact hK _ _ (KeepsFrom.refl _ _) trivial hI rfl
 case body =>
  rintro l xs x a' V hl ⟨rl,hrl⟩ ⟨hx,hxs⟩ ⟨hD,⟨z0,z1⟩,z3,zN⟩ rfl
  have hnx:=hD.rest _ x (Nat.le_refl _) hx
  have n1:V.drew.cell? ⟨x.1,1,none⟩=some (.string x.2.ev):=by rw [show V.drew.cell? ⟨x.1,1,none⟩=V.cell? ⟨x.1,1,none⟩ from rfl,cell_of_row V _ _ _ _ _ hnx];rfl
  have n2:V.drew.cell? ⟨x.1,2,none⟩=some (.string x.2.nm):=by rw [show V.drew.cell? ⟨x.1,2,none⟩=V.cell? ⟨x.1,2,none⟩ from rfl,cell_of_row V _ _ _ _ _ hnx];rfl
  have q1:V.drew.cell? ⟨w.heap.size+1,0,none⟩=_:=z1.cell
  have hca:=ui V.drew Nb x.2.ev x.2.nm nm0 zN.cell
  have hd1:1≤7-1-1:=by omega
  have hBV:Below V.heap.size V (V.drew.alloc (.cells #[.string x.2.ev,.string x.2.nm] 154)):=(Below.refl _ V).drew.alloc (Nat.le_refl _) _
  obtain ⟨bw,hbw⟩:∃ bw,(x.2.nm.toList == nm0.toList)=bw:=⟨_,rfl⟩
  rw [hbw] at hca
  gi_wp2
  refine aE (bU l) 5 (by kernel_rfl) (by kernel_rfl) (by kernel_rfl) ?_
  simp only [List.take_succ_cons,List.take_zero,List.drop_succ_cons,List.drop_zero]
  repeat still_step
  refine wpStill_nil ?_
  have hca2:=hca.mono (fun e w' h=>(⟨h.1,h.2 ▸ hBV⟩:e=_∧Below V.heap.size V w'))
  clear hca hBV
  have HZ:Hid (∀ w9,Below V.heap.size V w9→(Boxed w9 w.heap.size 397 (.pointer (some ⟨mb,c,none⟩))∧Boxed w9 (w.heap.size+1) 281 (.func (.func 382) #[] #[.pointer (some ⟨Nb,0,none⟩)]))∧(Boxed w9 (w.heap.size+1+1+1) 144 (.pointer rp)∧Boxed w9 Nb 9 (.string nm0))):=fun w9 hb=>⟨⟨au z0 hb z0.lt,au z1 hb z1.lt⟩,au z3 hb z3.lt,au zN hb zN.lt⟩
  cases bw
  ·have HP:Hid (∀ w9,Below V.heap.size V w9→Calls Tryz.prog 206 #[.pointer (some ⟨mb,c,none⟩),.pointer (some ⟨x.1,0,none⟩)] w9 fun e w'=>e = .returned (.tuple #[])∧KeepsFrom W0.heap.size V w'∧True∧Pg.DrI w mb c nm0 L (xs++[x]) w'∧(Boxed w' w.heap.size 397 (.pointer (some ⟨mb,c,none⟩))∧Boxed w' (w.heap.size+1) 281 (.func (.func 382) #[] #[.pointer (some ⟨Nb,0,none⟩)]))∧(Boxed w' (w.heap.size+1+1+1) 144 (.pointer rp)∧Boxed w' Nb 9 (.string nm0))):=fun w9 hb=>by
    have hD9:=hD.below hb
    obtain ⟨p1,p2,p3,p4⟩:=hD9.push hnd hx hbw
    obtain ⟨arr0,arr9,g1,g2,g3,g4⟩:=hD9.blk
    refine (ke w9 mb c (Pg.aS nm0 xs) x.1 x.2 (Pg.nxt L xs.length) hD9.cell (by simp [World.frozen?,g2]) hD9.ring (hD9.rest _ x (Nat.le_refl _) hx) p1 p2 p3).mono ?_
    rintro e w' ⟨rfl,rfl⟩
    obtain ⟨⟨r0,r1⟩,r3,rN⟩:=HZ.out w9 hb
    have hms:Mo (fun k=>k=mb∨∃ y∈L,k=y.1) w9 (Pg.dD w9 ⟨mb,c,none⟩ (Pg.aS nm0 xs) x.1):=by
     unfold Pg.dD
     cases hz:(Pg.aS nm0 xs).getLast? with
     | none=>exact ((Mo.refl _ w9).set _ _ (.inr ⟨x,List.mem_of_getElem? hx,rfl⟩)).set _ _ (.inl rfl)
     | some z=>exact (((Mo.refl _ w9).set _ _ (.inr ⟨x,List.mem_of_getElem? hx,rfl⟩)).set _ _ (.inr ⟨z,Pg.jX (hxs ▸ Pg.iR (List.mem_of_getLast? hz)),rfl⟩)).set _ _ (.inl rfl)
    have hno2:∀ (B:Nat) (t:TypeId) (v:Value),Boxed w9 B t v→t≠152→t≠250→Boxed (Pg.dD w9 ⟨mb,c,none⟩ (Pg.aS nm0 xs) x.1) B t v:=fun B t v hbx t1 t2=>Boxed.mo hbx hms (fun e=>by
     rcases e with e | ⟨y,hy,e⟩
     ·subst e
      rw [show w9.heap[B]?=_ from hbx] at g2
      simp at g2
      exact t1 g2.2
     ·obtain ⟨v',hv'⟩:=hD9.nd y hy
      subst e
      rw [show w9.heap[y.1]?=_ from hbx] at hv'
      simp at hv'
      exact t2 hv'.2)
    refine ⟨rfl,((Pg.ew hb).trans ⟨hms.size,fun k o hk ho=>(hms.block k (Array.getElem?_eq_some_iff.1 hk).1 (fun e => ?_)).trans hk⟩).from _,trivial,p4,⟨hno2 _ _ _ r0 (by decide) (by decide),hno2 _ _ _ r1 (by decide) (by decide)⟩,hno2 _ _ _ r3 (by decide) (by decide),hno2 _ _ _ rN (by decide) (by decide)⟩
    rcases e with e | ⟨y,hy,e⟩
    ·subst e
     rw [g2] at hk
     cases hk
     cases ho
    ·obtain ⟨v',hv'⟩:=hD9.nd y hy
     subst e
     rw [hv'] at hk
     cases hk
     cases ho
   gi_wp2_with (first
    | (refine ⟨trivial,?_⟩;gi_at_call 382;refine (aC hca2).mono ?_;rintro e w9 ⟨rfl,hb9⟩;have q0:w9.cell? ⟨w.heap.size,0,none⟩=_:=(HZ.out w9 hb9).1.1.cell)
    | (refine ⟨trivial,?_⟩;gi_at_call 206;refine (aC (HP.out w9 hb9)).mono ?_;intro e w8 h8;obtain ⟨rfl,h8⟩:=h8;have H8:Hid _:=h8;clear h8))
   exact H8.out
  ·gi_wp2_with (refine ⟨trivial,?_⟩;gi_at_call 382;refine (aC hca2).mono ?_;rintro e w9 ⟨rfl,hb9⟩)
   exact ⟨(Pg.ew hb9).from _,trivial,(hD.below hb9).skip hx hbw,HZ.out w9 hb9⟩
 case done =>
  rintro D xs V hD hS ⟨hDr,_⟩ hdef
  subst hS
  gi_wp2
  refine ⟨by simp,.inl ⟨_,_,rfl,run_takeDeferred hdef,?_⟩⟩
  exact ⟨_,results_none rfl _ _ _,rfl,(Pg.DrI.own (nm0:=nm0) (show w.heap.size≤W0.heap.size by omega)).putObj _ hDr (by omega) hdef rfl⟩
attribute [local go_sem] Oper.semAt_some
namespace Pg
theorem WhM.congr {W:World} {lo:Nat} {s:MSt} {R R':Nat→List Nd} (h:WhM W lo s R) (e:∀ r,isR r→R' r=R r):WhM W lo s R' :=
 ⟨⟨fun r hr=>by rw [e r hr];exact h.rgs.ring r hr,fun r hr=>by rw [e r hr];exact h.rgs.nds r hr,fun r hr=>by rw [e r hr];exact h.rgs.low r hr,fun r q hr hq=>by rw [e r hr,e q hq];exact h.rgs.dis r q hr hq,fun r hr=>by rw [e r hr];exact h.rgs.nod r hr⟩,fun k hk=>by
  obtain ⟨x,x1,x2,x3⟩:=h.held k hk
  exact ⟨x,x1,x2,fun j hj=>by rw [e _ (.inl (by omega))];exact x3 j hj⟩⟩
theorem Ea {W:World} {lo mb pb:Nat} {qv:Value} {s:MSt} (hM:ak W lo mb pb qv s) (hls:lo≤W.heap.size) (j:Nat) (v:Value):Rw lo W (W.drew.setCell ⟨mb,j,none⟩ v) :=
 (RfE.of (Below.refl W.heap.size W).drew hls).trans (RfE.mo (P:=(· = mb)) ((Mo.refl _ _).set _ _ rfl) (fun j hj=>by
  obtain ⟨arr,a1,_⟩:=hM.blk
  subst hj
  exact ⟨hM.lo',arr,_,_,a1,.inl rfl⟩) hls)
theorem b7.drop {W W':World} {lo mb pb:Nat} {qv:Value} {s:MSt} {R:Nat→List Nd} {r:Nat} {nm0:ByteArray} (hM:ak W lo mb pb qv s) (h:b7 W lo s.wh R) (hr:isR r) (hls:lo≤W.heap.size) (hD:DrI W mb (28+r) nm0 (R r) (R r) W') :
  ak W' lo mb pb qv { s with wh:=upd s.wh (28+r) (aD (aS nm0 (R r))) }∧b7 W' lo (upd s.wh (28+r) (aD (aS nm0 (R r)))) (upd R r (aS nm0 (R r)))∧Rw lo W W':=by
 have hrl:=hr.lt
 obtain ⟨arr,arr',a1,a2,a3,a4⟩:=hD.blk
 obtain ⟨arr0,m1,m2,m3⟩:=hM.blk
 rw [a1] at m1
 have e0:arr=arr0:=by cases m1;rfl
 subst e0
 have hty:∀ q,isR q→∀ y∈R q,mb≠y.1:=fun q hq y hy=>by
  obtain ⟨i,hi⟩:=List.mem_iff_getElem?.1 hy
  exact hM.typ (h.nds q hq i y hi)
 have hnode:∀ q,isR q→∀ y∈R q,∃ c,W.heap[y.1]?=some (.cells c 250 (0,0)):=fun q hq y hy=>by
  obtain ⟨i,hi⟩:=List.mem_iff_getElem?.1 hy
  exact ⟨_,h.nds q hq i y hi⟩
 have hcr:arr'[28+r]?=some (aD (aS nm0 (R r))):=by rw [← cell_of_row W' _ _ _ _ _ a2];exact hD.cell
 refine ⟨⟨⟨arr',a2,by omega,fun j hj => ?_⟩,hM.que.mo hD.mo (fun g hg e => ?_),hM.lo'⟩,⟨fun q hq => ?_,fun q hq => ?_,fun q hq y hy => ?_,fun q q' hq hq' hne y hy z hz => ?_,fun q hq => ?_⟩,RfE.mo hD.mo (fun k hk => ?_) hls⟩
 ·by_cases e:j=28+r
  ·subst e
   rw [hcr]
   unfold e8
   rw [if_neg (by omega),if_neg (by omega),if_neg (by omega),if_neg (by omega),if_neg (by omega),if_pos (by omega)]
   dsimp only
   rw [aw]
  ·rw [a4 j e,m3 j hj]
   unfold e8
   dsimp only
   rw [aB _ _ e]
 ·obtain ⟨c',hc'⟩:=hM.que.kind g hg
  rcases e with e | ⟨y,hy,e⟩
  ·rw [e,a1] at hc'
   simp at hc'
  ·obtain ⟨c,hc⟩:=hnode r hr y hy
   rw [e,hc] at hc'
   simp at hc'
 ·by_cases e:q=r
  ·subst e
   rw [aw,aw]
  ·rw [aB _ _ e,aB _ _ (by omega)]
   exact h.ring q hq
 ·by_cases e:q=r
  ·subst e
   rw [aw]
   exact hD.ring
  ·rw [aB _ _ e]
   refine (h.nds q hq).mo hD.mo (fun y hy hk => ?_)
   rcases hk with hk | ⟨z,hz,hk⟩
   ·exact hty q hq y hy hk.symm
   ·exact h.dis q r hq hr e y hy z hz hk
 ·by_cases e:q=r
  ·subst e
   rw [aw] at hy
   exact h.low q hq y (iR hy)
  ·rw [aB _ _ e] at hy
   exact h.low q hq y hy
 ·have f:∀ q y,y∈upd R r (aS nm0 (R r)) q→y∈R q:=fun q y hy=>by
   by_cases e:q=r
   ·subst e
    rw [aw] at hy
    exact iR hy
   ·rw [aB _ _ e] at hy
    exact hy
  exact h.dis q q' hq hq' hne y (f q y hy) z (f q' z hz)
 ·by_cases e:q=r
  ·subst e
   rw [aw]
   exact ((List.filter_sublist (l:=R q)).map _).nodup (h.nod q hq)
  ·rw [aB _ _ e]
   exact h.nod q hq
 ·rcases hk with hk | ⟨z,hz,hk⟩
  ·subst hk
   exact ⟨hM.lo',arr,_,_,a1,.inl rfl⟩
  ·obtain ⟨cz,hcz⟩:=hnode r hr z hz
   subst hk
   exact ⟨h.low r hr z hz,_,_,_,hcz,.inr rfl⟩
theorem ak.gr {W W':World} {row:Option Nat} {lo mb pb:Nat} {qv:Value} {s:MSt} (h:ak W lo mb pb qv s) (hg:W.grownBy W' row) (hr:∀ r,row=some r→∃ o:Obj,W.heap[r]?=some o∧o.isCells=false):ak W' lo mb pb qv s:=by
 refine h.mo (P:=fun k=>some k=row) ⟨hg.os,hg.tape,hg.output,hg.size,fun k hk hn=>hg.block k hk hn⟩ (fun e => ?_) (fun g hgq e => ?_)
 ·obtain ⟨o,ho,hc⟩:=hr _ e.symm
  obtain ⟨arr,a1,_⟩:=h.blk
  rw [a1] at ho
  cases ho
  cases hc
 ·obtain ⟨o,ho,hc⟩:=hr _ e.symm
  obtain ⟨c,hc2⟩:=h.que.kind g hgq
  rw [hc2] at ho
  cases ho
  cases hc
theorem gD {E:TypeId→Prop} {W W':World} {row:Option Nat} (hg:W.grownBy W' row) (hr:∀ r,row=some r→∃ o:Obj,W.heap[r]?=some o∧o.isCells=false):Kd E W W':=⟨hg.size,fun k c t f hk _=>hg.block k (Array.getElem?_eq_some_iff.1 hk).1 (fun e=>by
 obtain ⟨o,ho,hc⟩:=hr _ e.symm
 rw [hk] at ho
 cases ho
 cases hc)⟩
theorem WhM.kd {E:TypeId→Prop} {W W':World} {lo:Nat} {s:MSt} {R:Nat→List Nd} (h:WhM W lo s R) (hk:Kd E W W') (hE:¬ E 250):WhM W' lo s R:=⟨h.rgs.kd hk hE,h.held⟩
theorem RfE.gr {E:TypeId→Prop} {lo:Nat} {w V V':World} {row:Option Nat} (h:RfE E lo w V) (hl:lo≤w.heap.size) (hg:V.grownBy V' row) (hr:∀ r,row=some r→w.heap.size≤r∧∃ o:Obj,V.heap[r]?=some o∧o.isCells=false):RfE E lo w V' :=
 ⟨h.bel.trans ⟨hg.os,hg.tape,hg.output,hg.size,fun k hk=>hg.block k (by have:=h.bel.size;omega) (fun e=>by have:=(hr k e.symm).1;omega)⟩,h.kd.trans (gD hg (fun r e=>(hr r e).2)),⟨Nat.le_trans h.oth.size hg.size,fun k o hk ho=>by
  have h2:=h.oth.same k o hk ho
  exact (hg.block k (Array.getElem?_eq_some_iff.1 h2).1 (fun e=>by have:=(hr k e.symm).1;have:=(Array.getElem?_eq_some_iff.1 hk).1;omega)).trans h2⟩⟩
def MW (w:World) (lo mb pb:Nat) (qv:Value) (s:MSt) (R:Nat→List Nd) (V:World):Prop:=∃ wh',ak V lo mb pb qv { s with wh:=wh' }∧WhM V lo { s with wh:=wh' } R∧Rw lo w V
theorem MW.gr {w V V':World} {row:Option Nat} {lo mb pb:Nat} {qv:Value} {s:MSt} {R:Nat→List Nd} (h:MW w lo mb pb qv s R V) (hl:lo≤w.heap.size) (hg:V.grownBy V' row) (hr:∀ r,row=some r→w.heap.size≤r∧∃ o:Obj,V.heap[r]?=some o∧o.isCells=false):MW w lo mb pb qv s R V':=by
 obtain ⟨wh',a,b,c⟩:=h
 exact ⟨wh',a.gr hg (fun r e=>(hr r e).2),b.kd (gD (E:=fun _=>False) hg (fun r e=>(hr r e).2)) (fun h=>h),c.gr hl hg hr⟩
theorem MW.below {w V V':World} {lo mb pb:Nat} {qv:Value} {s:MSt} {R:Nat→List Nd} (h:MW w lo mb pb qv s R V) (hl:lo≤w.heap.size) (hb:Below V.heap.size V V'):MW w lo mb pb qv s R V':=by
 obtain ⟨wh',a,b,c⟩:=h
 exact ⟨wh',a.below hb,⟨b.rgs.below hb,b.held⟩,c.trans (RfE.of hb (Nat.le_trans hl c.bel.size))⟩
theorem MW.congr {w V:World} {lo mb pb:Nat} {qv:Value} {s:MSt} {R R':Nat→List Nd} (h:MW w lo mb pb qv s R V) (e:∀ r,isR r→R' r=R r):MW w lo mb pb qv s R' V:=by
 obtain ⟨wh',a,b,c⟩:=h
 exact ⟨wh',a,b.congr e,c⟩
end Pg
theorem qS (w w0:World) (lo mb pb:Nat) (qv:Value) (s:Pg.MSt) (R:Nat→List Pg.Nd) (r Nb:Nat) (nm0:ByteArray) (hr:Pg.isR r) (hls:lo≤w0.heap.size) (h:Pg.MW w0 lo mb pb qv s R w) (hN:Boxed w Nb 9 (.string nm0)) :
  Calls Tryz.prog 385 #[.pointer (some ⟨mb,28+r,none⟩),.func (.func 382) #[] #[.pointer (some ⟨Nb,0,none⟩)]] w fun e w'=>e = .returned (.tuple #[])∧∃ wh0 wh',Pg.iV wh0 R∧Pg.ak w' lo mb pb qv { s with wh:=wh' }∧Pg.b7 w' lo wh' (Pg.upd R r (Pg.aS nm0 (R r)))∧(∀ k,k<6→wh' (28+(k*65+64))=wh0 (28+(k*65+64)))∧Pg.Rw lo w0 w'∧Pg.Rw lo w w':=by
 obtain ⟨wh0,hM,hW,hRf⟩:=h
 obtain ⟨arr,a1,a2,a3⟩:=hM.blk
 have hrl:=hr.lt
 refine (At w mb (28+r) Nb nm0 (R r) arr a1 ((hM.whc (28+r) (by omega) (by omega)).trans (congrArg some (hW.rgs.ring r hr))) (hW.rgs.nds r hr) (hW.rgs.nod r hr) hN).mono ?_
 rintro e w' ⟨rfl,hD⟩
 obtain ⟨x1,x2,x3⟩:=hW.rgs.drop hM hr (Nat.le_trans hls hRf.bel.size) hD
 exact ⟨rfl,wh0,_,hW.held,x1,x2,fun k hk=>Pg.aB _ _ (by rcases hr with ⟨_,hr⟩ | hr <;> omega),hRf.trans x3,x3⟩
attribute [local go_sem] Oper.semAt_some
namespace Pg
def rk (nm0:ByteArray) (k:Nat) (R:Nat→List Nd) (ys:List Nat):Nat→List Nd:=fun r=>if r∈ys.map (k*65 + ·) then aS nm0 (R r) else R r
def wdR (nm0:ByteArray) (k:Nat) (R:Nat→List Nd):Nat→List Nd:=fun r=>if r / 65=k∧r<390 then aS nm0 (R r) else R r
theorem uX (nm0:ByteArray) (l:List Nd):aS nm0 (aS nm0 l)=aS nm0 l:=by unfold aS;rw [List.filter_filter];simp
theorem Eo (nm0:ByteArray) (k:Nat) (R:Nat→List Nd) (ys:List Nat) (x q:Nat):rk nm0 k R (ys++[x]) q=upd (rk nm0 k R ys) (k*65+x) (aS nm0 (rk nm0 k R ys (k*65+x))) q:=by
 by_cases e:q=k*65+x
 ·subst e
  rw [aw]
  unfold rk
  rw [if_pos (by simp)]
  split
  ·rw [uX]
  ·rfl
 ·rw [aB _ _ e]
  unfold rk
  have:(q∈(ys++[x]).map (k*65 + ·))↔q∈ys.map (k*65 + ·):=by
   rw [List.map_append,List.mem_append]
   simp [e]
  simp only [this]
theorem Em {nm0:ByteArray} {k h:Nat} {R:Nat→List Nd} (hk:k<6) (hh:∀ j,j<64→h.testBit j = !(R (k*65+j)).isEmpty) {r:Nat} (hr:isR r):wdR nm0 k R r=rk nm0 k R (eu h) r:=by
 unfold wdR rk
 by_cases e:r / 65=k∧r<390
 ·rw [if_pos e]
  have hm:r % 65≠64:=by rcases hr with ⟨_,h⟩ | h <;> omega
  have hrr:r=k*65+r % 65:=by omega
  by_cases hb:h.testBit (r % 65)=true
  ·rw [if_pos (List.mem_map.2 ⟨r % 65,fu.2 ⟨by omega,hb⟩,hrr.symm⟩)]
  ·have hb2:(R r).isEmpty=true:=by
    have:=hh (r % 65) (by omega)
    rw [← hrr] at this
    rw [this] at hb
    simpa using hb
   have hb3:R r=[]:=by simpa using hb2
   rw [hb3]
   split <;> rfl
 ·rw [if_neg e,if_neg (fun hm=>e ?_)]
  obtain ⟨j,hj,rfl⟩:=List.mem_map.1 hm
  have:=(fu.1 hj).1
  omega
end Pg
theorem AQ (w:World) (lo mb pb:Nat) (qv:Value) (s:Pg.MSt) (R:Nat→List Pg.Nd) (k Nb:Nat) (nm0:ByteArray) (hk:k<6) (hls:lo≤w.heap.size) (hM:Pg.ak w lo mb pb qv s) (hW:Pg.WhM w lo s R) (hN:Boxed w Nb 9 (.string nm0)) (hg:2<lo) (hG:TabAt 2 Lib.deBruijn64tab w) :
  Calls Tryz.prog 384 #[.pointer (some ⟨mb,28+k*65,none⟩),.func (.func 382) #[] #[.pointer (some ⟨Nb,0,none⟩)]] w fun e w'=>e = .returned (.tuple #[])∧Pg.MW w lo mb pb qv s (Pg.wdR nm0 k R) w':=by
 refine (callsIn_wide (n:=7)).1 ?_
 obtain ⟨h,h1,h2,h3⟩:=hW.held k hk
 have hml:=hM.lt
 refine callsIn_of_wp_marks Tryz.func384 rfl trivial ?_ rfl
 simp only [Tryz.ntmps384,List.size_toArray,List.length_cons,List.length_nil,Nat.reduceAdd,Nat.reduceSub,Array.replicate_succ,Array.replicate_zero,List.push_toArray,List.append_toArray,List.nil_append,List.cons_append]
 gi_wp2_with (refine ⟨trivial,?_⟩;gi_at_call 183;refine (callsIn_wide.2 (iA mb (28+k*65) _)).mono ?_;rintro e w9 ⟨rfl,hw9⟩;rw [hw9];clear hw9 w9)
 have B0:Below w.heap.size w (((w.alloc (.cells #[.pointer (some ⟨mb,28+k*65,none⟩)] 363)).alloc (.cells #[.func (.func 382) #[] #[.pointer (some ⟨Nb,0,none⟩)]] 281)).alloc (.cells #[.pointer (some ⟨mb,28+k*65,none⟩)] 363)):=(((Below.refl _ w).alloc (Nat.le_refl _) _).alloc (by simp) _).alloc (by simp;omega) _
 have x0:Boxed (((w.alloc (.cells #[.pointer (some ⟨mb,28+k*65,none⟩)] 363)).alloc (.cells #[.func (.func 382) #[] #[.pointer (some ⟨Nb,0,none⟩)]] 281)).alloc (.cells #[.pointer (some ⟨mb,28+k*65,none⟩)] 363)) w.heap.size 363 (.pointer (some ⟨mb,28+k*65,none⟩)):=((Boxed.new w _ _).alloc _).alloc _
 have x1:Boxed (((w.alloc (.cells #[.pointer (some ⟨mb,28+k*65,none⟩)] 363)).alloc (.cells #[.func (.func 382) #[] #[.pointer (some ⟨Nb,0,none⟩)]] 281)).alloc (.cells #[.pointer (some ⟨mb,28+k*65,none⟩)] 363)) (w.heap.size+1) 281 (.func (.func 382) #[] #[.pointer (some ⟨Nb,0,none⟩)]):=by
  have:=(Boxed.new (w.alloc (.cells #[(.pointer (some ⟨mb,28+k*65,none⟩))] 363)) 281 (.func (.func 382) #[] #[.pointer (some ⟨Nb,0,none⟩)])).alloc (.cells #[(.pointer (some ⟨mb,28+k*65,none⟩))] 363)
  rw [World.size_alloc] at this
  exact this
 have x2:Boxed (((w.alloc (.cells #[.pointer (some ⟨mb,28+k*65,none⟩)] 363)).alloc (.cells #[.func (.func 382) #[] #[.pointer (some ⟨Nb,0,none⟩)]] 281)).alloc (.cells #[.pointer (some ⟨mb,28+k*65,none⟩)] 363)) (w.heap.size+1+1) 363 (.pointer (some ⟨mb,28+k*65,none⟩)):=by
  have:=Boxed.new ((w.alloc (.cells #[(.pointer (some ⟨mb,28+k*65,none⟩))] 363)).alloc (.cells #[(.func (.func 382) #[] #[.pointer (some ⟨Nb,0,none⟩)])] 281)) 363 (.pointer (some ⟨mb,28+k*65,none⟩))
  rw [World.size_alloc,World.size_alloc] at this
  exact this
 have hs0:(((w.alloc (.cells #[.pointer (some ⟨mb,28+k*65,none⟩)] 363)).alloc (.cells #[.func (.func 382) #[] #[.pointer (some ⟨Nb,0,none⟩)]] 281)).alloc (.cells #[.pointer (some ⟨mb,28+k*65,none⟩)] 363)).heap.size=w.heap.size+3:=by simp
 generalize (((w.alloc (.cells #[.pointer (some ⟨mb,28+k*65,none⟩)] 363)).alloc (.cells #[.func (.func 382) #[] #[.pointer (some ⟨Nb,0,none⟩)]] 281)).alloc (.cells #[.pointer (some ⟨mb,28+k*65,none⟩)] 363))=W0 at *
 have hMW0:Pg.MW w lo mb pb qv s (Pg.rk nm0 k R []) W0:=Pg.MW.below (Pg.MW.congr ⟨s.wh,hM,hW,Pg.RfE.refl _ _⟩ (fun r _=>rfl)) hls B0
 have xN:=au hN B0 hN.lt
 have hG0:TabAt 2 Lib.deBruijn64tab W0:=fun j hj=>(B0.cell (p:=⟨2,j,none⟩) (Nat.lt_of_lt_of_le hg hls)).trans (hG j hj)
 have hh0:W0.cell? ⟨mb,28+k*65+64,none⟩=some (.int .u64 h):=(B0.cell (p:=⟨mb,28+k*65+64,none⟩) hml).trans (by rw [Nat.add_assoc];exact (hM.whc _ (by omega) (by omega)).trans (congrArg some h2))
 refine wpIn_rangeFunc_ownH rfl (by omega) (gf:=229) rfl trivial (enters_of Tryz.func229 (by kernel_rfl) rfl)
  (kJ 6 (by omega) (w.heap.size+1+1) mb (28+k*65) h h1 (fun A C=>TabAt 2 Lib.deBruijn64tab A→TabAt 2 Lib.deBruijn64tab C) (fun _ _ h=>h) W0 (by omega) (by omega) (by omega) x2.cell hh0 hG0)
  (fun h k x=>k (h x)) (fun V l o o' hl h hc hw x j hj=>((belowK_b (n₀:=W0.heap.size) (Nat.le_refl _) V l o o' hl h hc hw).cell (p:=⟨2,j,none⟩) (show 2<W0.heap.size by omega)).trans (x j hj)) (Below.refl _ _) (fun _=>rfl)
  (fun ys V=>Pg.MW w lo mb pb qv s (Pg.rk nm0 k R (ys.map (·.1))) V∧((Boxed V w.heap.size 363 (.pointer (some ⟨mb,28+k*65,none⟩))∧Boxed V (w.heap.size+1) 281 (.func (.func 382) #[] #[.pointer (some ⟨Nb,0,none⟩)]))∧Boxed V Nb 9 (.string nm0))) (fun _ _ _=>False)
  (OwnFrom.and (fun ys A C row h hg hr=>h.gr hls hg (fun r e=>⟨by have:=(hr r e).1;omega,(hr r e).2⟩)) (OwnFrom.and (OwnFrom.and (Own.from (boxed_own _ _ _) _) (Own.from (boxed_own _ _ _) _)) (Own.from (boxed_own _ _ _) _)))
  (fun _ _ _ _ _ hs _ _=>hs) ⟨hMW0,⟨x0,x1⟩,xN⟩
  (fun x a' _=>a'={ tmps:=#[.pointer (some ⟨mb,28+k*65,none⟩),.func (.func 382) #[] #[.pointer (some ⟨Nb,0,none⟩)],.pointer (some ⟨w.heap.size,0,none⟩),.pointer (some ⟨w.heap.size+1,0,none⟩),.int .i64 x.1,.pointer (some ⟨mb,28+k*65,none⟩),.func (.func 229) #[] #[.pointer (some ⟨w.heap.size+1+1,0,none⟩)],.int .i64 x.1,undef,undef,undef,undef,undef,undef,undef,undef,undef,undef],defers:=[] }) (fun _ _ _ _ _ _ hs _ _=>hs) ?assign ?body ?done ?stop
 case assign =>
  intro l pre x V K hI hK
  gi_wp2
  exact hK _ _ (KeepsFrom.refl _ _) (fun h=>h) hI rfl
 case body =>
  rintro l pre x a' V hl ⟨rl,hrl⟩ ⟨hMW,⟨z0,z1⟩,zN⟩ rfl hpl
  obtain ⟨hx64,hxb⟩:=Pg.fu.1 x.2
  have hir:Pg.isR (k*65+x.1) := .inl (by omega)
  have q0:V.drew.cell? ⟨w.heap.size,0,none⟩=_:=z0.cell
  have q1:V.drew.cell? ⟨w.heap.size+1,0,none⟩=_:=z1.cell
  have hBd:=(Below.refl V.heap.size V).drew
  have hdr:=qS V.drew w lo mb pb qv s _ (k*65+x.1) Nb nm0 hir hls (hMW.below hls hBd) zN
  rw [← Nat.add_assoc] at hdr
  have hx64':((x.1:Int)<64):=by omega
  have hd1:1≤7-1-1:=by omega
  have HMK:Hid (∀ w1,(∃ wh0 wh',Pg.iV wh0 (Pg.rk nm0 k R (pre.map (·.1)))∧Pg.ak w1 lo mb pb qv { s with wh:=wh' }∧Pg.b7 w1 lo wh' (Pg.upd (Pg.rk nm0 k R (pre.map (·.1))) (k*65+x.1) (Pg.aS nm0 (Pg.rk nm0 k R (pre.map (·.1)) (k*65+x.1))))∧(∀ k,k<6→wh' (28+(k*65+64))=wh0 (28+(k*65+64)))∧Pg.Rw lo w w1∧Pg.Rw lo V.drew w1) →
    w1.cell? ⟨w.heap.size,0,none⟩=some (.pointer (some ⟨mb,28+k*65,none⟩))∧Calls Tryz.prog 202 #[(.pointer (some ⟨mb,28+k*65,none⟩)),.int .i64 x.1] w1 fun e w'=>e = .returned (.tuple #[])∧KeepsFrom W0.heap.size V w'∧(TabAt 2 Lib.deBruijn64tab V→TabAt 2 Lib.deBruijn64tab w')∧Pg.MW w lo mb pb qv s (Pg.rk nm0 k R ((pre++[x]).map (·.1))) w'∧((Boxed w' w.heap.size 363 (.pointer (some ⟨mb,28+k*65,none⟩))∧Boxed w' (w.heap.size+1) 281 (.func (.func 382) #[] #[.pointer (some ⟨Nb,0,none⟩)]))∧Boxed w' Nb 9 (.string nm0))):=fun w1 hw1=>by
   obtain ⟨wh0,wh',e1,e2,e3,e4,e5,e6⟩:=hw1
   have hVs:lo≤V.drew.heap.size:=Nat.le_trans hls (by obtain ⟨_,_,_,hc⟩:=hMW;exact hc.bel.size)
   have hsz1:lo≤w1.heap.size:=Nat.le_trans hVs e6.bel.size
   obtain ⟨hq,g1,g2,g3⟩:=e1 k hk
   have bx:∀ (B:Nat) (t:TypeId) (v:Value),Boxed V B t v→¬ Pg.lZ t→∀ W,Pg.Rw lo V.drew W→Boxed W B t v:=fun B t v hb ht W hW=>Kd.boxed hW.kd (A:=V.drew) hb ht
   have nt1:¬ Pg.lZ 363:=by unfold Pg.lZ;decide
   have nt2:¬ Pg.lZ 281:=by unfold Pg.lZ;decide
   have nt3:¬ Pg.lZ 9:=by unfold Pg.lZ;decide
   refine ⟨(bx _ _ _ z0 nt1 w1 e6).cell,?_⟩
   refine (o6 w1 mb (28+k*65) x.1 _ hq hx64 g1 (by rw [Nat.add_assoc];exact (e2.whc _ (by omega) (by omega)).trans (congrArg some (e3.ring _ hir))) (by rw [Nat.add_assoc];exact (e2.whc _ (by omega) (by omega)).trans (congrArg some ((e4 k hk).trans g2))) (e2.frozen _)).mono ?_
   rintro e w' ⟨rfl,rfl⟩
   rw [Pg.aw]
   obtain ⟨m1,m2,m3⟩:=e3.mark e2 k hk (.int .u64 (Pg.fT hq x.1 (Pg.aS nm0 (Pg.rk nm0 k R (pre.map (·.1)) (k*65+x.1))).isEmpty)) hsz1
   have mr:=Pg.Ea e2 hsz1 (28+k*65+64) (.int .u64 (Pg.fT hq x.1 (Pg.aS nm0 (Pg.rk nm0 k R (pre.map (·.1)) (k*65+x.1))).isEmpty))
   have mV:=e6.trans mr
   refine ⟨rfl,?_,fun hT j hj=>(mV.bel.cell (p:=⟨2,j,none⟩) hg).trans (hT j hj),⟨_,m1,?_,e5.trans mr⟩,⟨bx _ _ _ z0 nt1 _ mV,bx _ _ _ z1 nt2 _ mV⟩,bx _ _ _ zN nt3 _ mV⟩
   ·exact ((KeepsOthers.drew V).trans mV.oth).from _
   ·refine Pg.WhM.congr (R:=Pg.upd (Pg.rk nm0 k R (pre.map (·.1))) (k*65+x.1) (Pg.aS nm0 (Pg.rk nm0 k R (pre.map (·.1)) (k*65+x.1)))) ⟨m2,fun k' hk' => ?_⟩ (fun r _=>by rw [List.map_append];exact Pg.Eo nm0 k R _ x.1 r)
    by_cases e:k'=k
    ·subst e
     refine ⟨_,Pg.lJ g1 hx64,Pg.aw _ _ _,fun j hj => ?_⟩
     rw [Pg.j5 hx64 j hj]
     by_cases e:j=x.1
     ·subst e
      rw [if_pos rfl,Pg.aw]
     ·rw [if_neg e,Pg.aB _ _ (by omega)]
      exact g3 j hj
    ·obtain ⟨a,b1,b2,b3⟩:=e1 k' hk'
     refine ⟨a,b1,?_,fun j hj => ?_⟩
     ·show Pg.upd wh' _ _ _=_
      rw [Pg.aB _ _ (by omega),e4 k' hk']
      exact b2
     ·rw [Pg.aB _ _ (by omega)]
      exact b3 j hj
  gi_wp2
  refine aE (bU l) 6 (by kernel_rfl) (by kernel_rfl) (by kernel_rfl) ?_
  simp only [List.take_succ_cons,List.take_zero,List.drop_succ_cons,List.drop_zero]
  repeat still_step
  refine wpStill_nil ?_
  gi_wp2_with (first
   | (refine ⟨trivial,?_⟩;gi_at_call 385;refine (aC hdr).mono ?_;intro e w1 h9;obtain ⟨rfl,h9⟩:=h9;obtain ⟨p0,pm⟩:=HMK.out w1 h9;have HPM:Hid _:=pm;clear h9 pm)
   | (refine ⟨trivial,?_⟩;gi_at_call 202;refine (aC HPM.out).mono ?_;intro e w8 h8;obtain ⟨rfl,h8⟩:=h8;have H8:Hid _:=h8;clear h8))
  exact H8.out
 case done =>
  rintro D ys V hD hys ⟨hMW,_⟩ hdef
  have hMW2:=hMW.congr (fun r hr=>(Pg.Em (nm0:=nm0) hk h3 hr).trans (congrArg (fun l=>Pg.rk nm0 k R l r) hys.symm))
  gi_wp2
  refine ⟨by simp,.inl ⟨_,_,rfl,run_takeDeferred hdef,?_⟩⟩
  exact ⟨_,results_none rfl _ _ _,rfl,hMW2.gr hls (grownBy_putObj' V D _) (fun r e=>by cases e;exact ⟨by omega,_,hdef,rfl⟩)⟩
 case stop =>
  rintro D c pre V _ _ h _
  exact h.elim
end
end Go.Proofs.YtegmoddppafkfaaGreatDoor
