import Derived.Test.YtegmoddppafkfaaGreatDoorM00
import Derived.Test.YtegmoddppafkfaaGreatDoorM02
import Derived.Laws.Bits64b
import Derived.RangeFuncNested
import Derived.RangeFuncLeaves
import Derived.LaidEql
import Derived.Laws.BitsAllLaws
import Derived.Shelf.Small.Bits
import Derived.Ground.NamesProg
set_option maxRecDepth 100000
set_option maxHeartbeats 8000000
namespace Go.Proofs.YtegmoddppafkfaaGreatDoor
section
open Go.RowKit Go.Proofs Go.Shelf
namespace Pg
structure Tn where
 t:Nat
 ev:ByteArray
 nm:ByteArray
abbrev Nd:Type:=Nat×Tn
def ndP (b:Nat):Value := .pointer (some ⟨b,0,none⟩)
def aD (l:List Nd):Value:=match l.getLast? with | none => .pointer none | some z=>ndP z.1
def nxt (l:List Nd) (i:Nat):Value:=match l[i+1]? with | some y=>ndP y.1 | none=>match l[0]? with | some y=>ndP y.1 | none => .pointer none
def dL (x:Tn) (v:Value):Array Value:=#[.int .u64 x.t,.string x.ev,.string x.nm,v]
def bI (W:World) (l:List Nd):Prop:=∀ (i:Nat) (x:Nd),l[i]?=some x→W.heap[x.1]?=some (.cells (dL x.2 (nxt l i)) 250 (0,0))
def dD (w:World) (p:Addr) (l:List Nd) (n:Nat):World:=match l.getLast? with
 | none=>(w.setCell ⟨n,3,none⟩ (ndP n)).setCell p (ndP n)
 | some z=>((w.setCell ⟨n,3,none⟩ (nxt l (l.length-1))).setCell ⟨z.1,3,none⟩ (ndP n)).setCell p (ndP n)
theorem bI.nil (W:World):bI W []:=fun i x h=>by simp at h
theorem bI.mo {P:Nat→Prop} {W W':World} {l:List Nd} (h:bI W l) (hm:Mo P W W') (hn:∀ x∈l,¬ P x.1):bI W' l:=fun i x hx =>
 (hm.block x.1 (Array.getElem?_eq_some_iff.1 (h i x hx)).1 (hn x (List.mem_of_getElem? hx))).trans (h i x hx)
theorem gH {l:List Nd} {f:Nd} (h:l[0]?=some f):nxt l (l.length-1)=ndP f.1:=by
 unfold nxt
 rw [List.getElem?_eq_none (by omega),h]
theorem Cf {l:List Nd} {x:Nd} {i:Nat} (hi:i+1<l.length):nxt (l++[x]) i=nxt l i:=by
 unfold nxt
 rw [List.getElem?_append_left hi,List.getElem?_eq_getElem hi]
theorem qi {l:List Nd} {x:Nd} (h:l≠[]):nxt (l++[x]) (l.length-1)=ndP x.1:=by
 unfold nxt
 have:0<l.length:=List.length_pos_iff.2 h
 rw [show l.length-1+1=l.length by omega,List.getElem?_append_right (Nat.le_refl _)]
 simp
theorem th {l:List Nd} {x f:Nd} (h:l[0]?=some f):nxt (l++[x]) l.length=ndP f.1:=by
 unfold nxt
 have:0<l.length:=(List.getElem?_eq_some_iff.1 h).1
 rw [List.getElem?_eq_none (by simp),List.getElem?_append_left this,h]
theorem bI.push {w:World} {p:Addr} {l:List Nd} {n:Nat} {x:Tn} {v:Value} (h:bI w l) (hnd:(l.map (·.1)).Nodup) (hn:w.heap[n]?=some (.cells (dL x v) 250 (0,0))) (hnl:n ∉ l.map (·.1)) (hpn:p.block≠n) (hpl:p.block ∉ l.map (·.1)) :
  bI (dD w p l n) (l++[(n,x)])∧Mo (fun k=>k=p.block∨k=n∨∃ z,l.getLast?=some z∧k=z.1) w (dD w p l n):=by
 unfold dD
 cases hz:l.getLast? with
 | none =>
  have hl:l=[]:=List.getLast?_eq_none_iff.1 hz
  subst hl
  refine ⟨fun i y hy => ?_,((Mo.refl _ w).set _ _ (.inr (.inl rfl))).set _ _ (.inl rfl)⟩
  have:i=0∧y=(n,x):=by
   rcases i with _ | i
   ·simp at hy;exact ⟨rfl,hy.symm⟩
   ·simp at hy
  obtain ⟨rfl,rfl⟩:=this
  exact (Below.heap_setCell _ p _ n (fun e=>hpn e.symm)).trans (heap_setCell_same w n 3 _ _ _ hn)
 | some z =>
  have hne:l≠[]:=fun e=>by rw [e] at hz;simp at hz
  have hlen:0<l.length:=List.length_pos_iff.2 hne
  have hlz:l[l.length-1]?=some z:=by rw [← List.getLast?_eq_getElem?];exact hz
  obtain ⟨f,hf⟩:∃ f,l[0]?=some f:=⟨_,List.getElem?_eq_getElem hlen⟩
  have hzl:z.1∈l.map (·.1):=List.mem_map.2 ⟨z,List.mem_of_getElem? hlz,rfl⟩
  have hzn:n≠z.1:=fun e=>hnl (e ▸ hzl)
  have hzp:p.block≠z.1:=fun e=>hpl (e ▸ hzl)
  rw [gH hf]
  refine ⟨fun i y hy => ?_,(((Mo.refl _ w).set _ _ (.inr (.inl rfl))).set _ _ (.inr (.inr ⟨z,rfl,rfl⟩))).set _ _ (.inl rfl)⟩
  have hn1:(w.setCell ⟨n,3,none⟩ (ndP f.1)).heap[n]?=some (.cells (dL x (ndP f.1)) 250 (0,0)):=heap_setCell_same w n 3 _ _ _ hn
  rcases Nat.lt_or_ge i l.length with hi | hi
  ·rw [List.getElem?_append_left hi] at hy
   have hyl:y.1∈l.map (·.1):=List.mem_map.2 ⟨y,List.mem_of_getElem? hy,rfl⟩
   have hyn:y.1≠n:=fun e=>hnl (e ▸ hyl)
   have hyp:y.1≠p.block:=fun e=>hpl (e ▸ hyl)
   have h1:(w.setCell ⟨n,3,none⟩ (ndP f.1)).heap[y.1]?=some (.cells (dL y.2 (nxt l i)) 250 (0,0)):=(Below.heap_setCell _ _ _ y.1 hyn).trans (h i y hy)
   by_cases e:i=l.length-1
   ·subst e
    rw [hlz] at hy
    cases hy
    rw [qi hne]
    exact (Below.heap_setCell _ p _ z.1 hyp).trans (heap_setCell_same _ z.1 3 _ _ _ h1)
   ·rw [Cf (by omega)]
    refine (Below.heap_setCell _ p _ y.1 hyp).trans ((Below.heap_setCell _ _ _ y.1 (fun e2=>e ?_)).trans h1)
    have e3:y.1=z.1:=e2
    have a1:(l.map (·.1))[i]?=some y.1:=by rw [List.getElem?_map,hy];rfl
    have a2:(l.map (·.1))[l.length-1]?=some y.1:=by rw [List.getElem?_map,hlz,e3];rfl
    exact (List.getElem?_inj (by simp;omega) hnd).1 (a1.trans a2.symm)
  ·have:i=l.length∧y=(n,x):=by
    rw [List.getElem?_append_right hi] at hy
    obtain ⟨k,rfl⟩:∃ k,i=l.length+k:=⟨i-l.length,by omega⟩
    rcases k with _ | k
    ·simp at hy;exact ⟨rfl,hy.symm⟩
    ·simp at hy
   obtain ⟨rfl,rfl⟩:=this
   rw [th hf]
   exact (Below.heap_setCell _ p _ n (fun e=>hpn e.symm)).trans ((Below.heap_setCell _ _ _ n hzn).trans hn1)
theorem kW (l:List Nd) (x:Nd):aD (l++[x])=ndP x.1:=by unfold aD;simp
end Pg
theorem jI (w:World) (c o:Nat) (l:List Pg.Nd) (hc:w.cell? ⟨c,o,none⟩=some (Pg.aD l)) :
  Calls Tryz.prog 205 #[.pointer (some ⟨c,o,none⟩)] w fun e w'=>e = .returned (.bool l.isEmpty)∧w'=w:=by
 unfold Pg.aD at hc
 cases hz:l.getLast? with
 | none =>
  have hl:l=[]:=List.getLast?_eq_none_iff.1 hz
  subst hl
  simp only [List.getLast?_nil] at hc
  go_enter Tryz.func205,Tryz.ntmps205
  go_wp2
  go_ret
  exact ⟨rfl,rfl⟩
 | some z =>
  rw [hz] at hc
  unfold Pg.ndP at hc
  have hl:l.isEmpty=false:=by
   cases l with
   | nil=>simp at hz
   | cons a l=>rfl
  rw [hl]
  clear hz hl
  dsimp only at hc
  go_enter Tryz.func205,Tryz.ntmps205
  go_wp2
  go_ret
  exact ⟨rfl,rfl⟩
theorem ke (w:World) (c o:Nat) (l:List Pg.Nd) (n:Nat) (x:Pg.Tn) (v:Value) (hc:w.cell? ⟨c,o,none⟩=some (Pg.aD l)) (hfz:w.frozen? ⟨c,o,none⟩=false) (hR:Pg.bI w l) (hn:w.heap[n]?=some (.cells (Pg.dL x v) 250 (0,0))) (hnl:n ∉ l.map (·.1)) (hcn:c≠n) (hcl:c ∉ l.map (·.1)) :
  Calls Tryz.prog 206 #[.pointer (some ⟨c,o,none⟩),.pointer (some ⟨n,0,none⟩)] w fun e w'=>e = .returned (.tuple #[])∧w'=Pg.dD w ⟨c,o,none⟩ l n:=by
 have he:=jI w c o l hc
 have n3:w.cell? ⟨n,3,none⟩=some v:=by rw [cell_of_row w _ _ _ _ _ hn];rfl
 have f3:w.frozen? ⟨n,3,none⟩=false:=by simp [World.frozen?,hn]
 unfold Pg.dD
 cases hz:l.getLast? with
 | none =>
  have hl:l=[]:=List.getLast?_eq_none_iff.1 hz
  subst hl
  unfold Pg.aD at hc
  simp only [List.getLast?_nil] at hc
  have c1:(w.setCell ⟨n,3,none⟩ (.pointer (some ⟨n,0,none⟩))).cell? ⟨c,o,none⟩=_:=(ax (w:=w) (by intro h;injection h with h1;exact hcn h1.symm)).trans hc
  have f1:(w.setCell ⟨n,3,none⟩ (.pointer (some ⟨n,0,none⟩))).frozen? ⟨c,o,none⟩=false:=by rw [World.frozen?_setCell];exact hfz
  simp only [List.isEmpty_nil] at he
  clear hR hn hz
  unfold Pg.ndP
  go_enter Tryz.func206,Tryz.ntmps206
  go_wp2_with (go_at_call 205;refine he.mono ?_;rintro e w9 ⟨rfl,hw9⟩;rw [hw9];clear hw9 w9)
  go_end0
  exact ⟨rfl,rfl⟩
 | some z =>
  have hne:l≠[]:=fun e=>by rw [e] at hz;simp at hz
  have hlen:0<l.length:=List.length_pos_iff.2 hne
  have hlz:l[l.length-1]?=some z:=by rw [← List.getLast?_eq_getElem?];exact hz
  obtain ⟨f,hf⟩:∃ f,l[0]?=some f:=⟨_,List.getElem?_eq_getElem hlen⟩
  have hzl:z.1∈l.map (·.1):=List.mem_map.2 ⟨z,List.mem_of_getElem? hlz,rfl⟩
  have hzn:n≠z.1:=fun e=>hnl (e ▸ hzl)
  have hcz:c≠z.1:=fun e=>hcl (e ▸ hzl)
  rw [Pg.gH hf]
  have hez:l.isEmpty=false:=by cases l with | nil=>simp at hz | cons a l=>rfl
  rw [hez] at he
  have hzr:=hR _ z hlz
  rw [Pg.gH hf] at hzr
  unfold Pg.aD at hc
  rw [hz] at hc
  unfold Pg.ndP at hc hzr ⊢
  obtain ⟨zb,zt⟩:=z
  obtain ⟨fb,ft⟩:=f
  dsimp only at hc hzr hzn hcz ⊢
  have z3:w.cell? ⟨zb,3,none⟩=some (.pointer (some ⟨fb,0,none⟩)):=by rw [cell_of_row w _ _ _ _ _ hzr];rfl
  have fz3:w.frozen? ⟨zb,3,none⟩=false:=by simp [World.frozen?,hzr]
  have c1:(w.setCell ⟨n,3,none⟩ (.pointer (some ⟨fb,0,none⟩))).cell? ⟨c,o,none⟩=_:=(ax (w:=w) (by intro h;injection h with h1;exact hcn h1.symm)).trans hc
  have z31:(w.setCell ⟨n,3,none⟩ (.pointer (some ⟨fb,0,none⟩))).cell? ⟨zb,3,none⟩=_:=(ax (w:=w) (by intro h;injection h with h1;exact hzn h1)).trans z3
  have fz31:(w.setCell ⟨n,3,none⟩ (.pointer (some ⟨fb,0,none⟩))).frozen? ⟨zb,3,none⟩=false:=by rw [World.frozen?_setCell];exact fz3
  have c2:((w.setCell ⟨n,3,none⟩ (.pointer (some ⟨fb,0,none⟩))).setCell ⟨zb,3,none⟩ (.pointer (some ⟨n,0,none⟩))).cell? ⟨c,o,none⟩=_:=(ax (w:=_) (by intro h;injection h with h1;exact hcz h1.symm)).trans c1
  have f2:((w.setCell ⟨n,3,none⟩ (.pointer (some ⟨fb,0,none⟩))).setCell ⟨zb,3,none⟩ (.pointer (some ⟨n,0,none⟩))).frozen? ⟨c,o,none⟩=false:=by rw [World.frozen?_setCell,World.frozen?_setCell];exact hfz
  clear hR hn hz hlz hf hzl hzr hez hlen hne hnl hcl
  go_enter Tryz.func206,Tryz.ntmps206
  go_wp2_with (go_at_call 205;refine he.mono ?_;rintro e w9 ⟨rfl,hw9⟩;rw [hw9];clear hw9 w9)
  go_end0
  exact ⟨rfl,rfl⟩
end
section
open Go.RowKit
def AX {α:Type} (F:Fence) (n:Nat) (P:Program) (g:Nat) (lb:Array Value) (encs:α→Array Value) (Kp:World→World→Prop) (Rd:List α→World→Prop) (Nx:List α→α→Prop) (S:List α→Prop) (w:World):Prop :=
 ∀ (l:Nat) (J:List α→World→Prop) (W:World),Below w.heap.size w W→w.heap.size+2≤W.heap.size→OwnFrom W.heap.size J→(∀ xs V,J xs V→Rd xs V) →
  (∀ xs x V,J xs V→Nx xs x→YieldAt F (n-1) P l (encs x) V fun e V'=>e = .returned (.bool true)∧J (xs++[x]) V'∧Kp V V')→J [] W →
  CallsIn F n P g (#[.func (.yield l) #[] #[]]++lb) W fun e V=>(∃ v,e = .returned v)∧∃ xs,S xs∧J xs V
theorem pq {α:Type} {F:Fence} {n:Nat} {P:Program} {g:Operand} {ps:Array Tmp} {assign body:Code} {Q:Exit→Act→World→Prop} {a:Act} {w:World} (hro:F.round=none) (h1:1≤n) {gf:Nat} {lb:Array Value}
  (hg:a.eval g = .func (.func gf) #[] lb) (hF:F.fn gf) (eg:∀ args w,(callFunc gf args).run P w = .ok (.enter gf args) w) {encs:α→Array Value} {Kp:World→World→Prop} {Rd:List α→World→Prop} {Nx:List α→α→Prop} {S:List α→Prop}
  (hseq:AX F (n-1) P gf lb encs Kp Rd Nx S w)
  (hKt:∀ {A B C:World},Kp A B→Kp B C→Kp A C) (hKb:∀ (W:World) (o o':Obj),W.heap[w.heap.size+1]?=some o→o.isCells=false→Kp W (W.putObj (w.heap.size+1) o')) (hps:∀ x,(encs x).size=ps.size) (I:List α→World→Prop) (hI:OwnFrom w.heap.size I) (hRd:∀ xs V,I xs V→Rd xs V) (h0:I [] w)
  (Ax:α→Act→World→Prop) (hAx:∀ x a',OwnFrom w.heap.size (fun (_:Unit) W=>Ax x a' W))
  (hassign:∀ (l:Nat) (xs:List α) (x:α) (W:World) (K:Act→World→Prop),I xs W→(∀ a' W',KeepsFrom w.heap.size W W'→Kp W W'→I xs W'→Ax x a' W'→K a' W')→assign.wpIn (F.inRound l) (n-1-1) P (Exit.then K (fun _ _ _=>False)) { tmps:=(ps.zip (encs x)).foldl (fun t (p,v)=>t.setIfInBounds p v) a.tmps,defers:=[] } W)
  (hbody:∀ (l:Nat) (xs:List α) (x:α) (a':Act) (W:World),w.heap.size≤l→(∃ r,W.heap[l]?=some (.loop r))→Nx xs x→I xs W→Ax x a' W→body.wpIn (F.inRound l) (n-1-1) P (Exit.then (fun _ V=>KeepsFrom w.heap.size W V∧Kp W V∧I (xs++[x]) V) (fun _ _ _=>False)) a' W)
  (hdone:∀ (D:Nat) (xs:List α) (W:World),w.heap.size≤D→S xs→I xs W→W.heap[D]?=some (.deferred (some []))→Q .normal { a with defers:={ target := .collected D,args:=#[] }::a.defers } W) :
  (Code.rangeFunc g ps assign body).wpIn F n P Q a w:=by
 refine wpIn_rangeFunc fun fn hfn => ?_
 rw [hro]
 obtain ⟨lp,hlp⟩:∃ lp:LoopState→Loop,lp=fun st=>{ state:=st,pending:=none,fn,tmps:=a.tmps,params:=ps,assign,body,defers:=w.heap.size }:=⟨_,rfl⟩
 have hent:=run_enterLoop_outer (P:=P) (w:=w) fn a.tmps ps assign body
 obtain ⟨V,hV⟩:∃ V,(w.alloc (.deferred (some []))).alloc (.loop (lp .ready))=V:=⟨_,rfl⟩
 have hb:Below w.heap.size w V:=hV ▸ (((Below.refl _ w).alloc (Nat.le_refl _) _).alloc (by simp) _)
 have hj:I [] V∧V.heap[w.heap.size+1]?=some (.loop (lp .ready))∧V.heap[w.heap.size]?=some (.deferred (some [])):=by
  rw [← hV]
  exact ⟨hI.alloc _ (hI.alloc _ h0),by have:=heap_alloc_new (w.alloc (.deferred (some []))) (.loop (lp .ready));simpa using this,(Below.heap_alloc _ _ _ (by simp)).trans (heap_alloc_new w _)⟩
 refine ⟨w.heap.size+1,[{ target := .collected w.heap.size,args:=#[] }],V,{ target := .fn (.func gf) lb,args:=#[.func (.yield (w.heap.size+1)) #[] #[]] },V,gf,#[.func (.yield (w.heap.size+1)) #[] #[]]++lb,V,
  by rw [← hV,hlp];exact hent,by simp only [resolve,hg];simp [go_sem],fun f' hf'=>by simp [Target.leads] at hf';exact hf' ▸ hF,by simp [invoke,go_sem,eg],fun _=>h1,?_⟩
 have hvs:V.heap.size=w.heap.size+2:=by rw [← hV];simp
 refine (hseq (w.heap.size+1) (fun xs W=>I xs W∧W.heap[w.heap.size+1]?=some (.loop (lp .ready))∧W.heap[w.heap.size]?=some (.deferred (some []))) V hb (by omega) (fun xs A B row h hg' hr => ?_) (fun xs W h=>hRd xs W h.1) ?_ hj).mono ?_
 ·obtain ⟨hi,hl,hd⟩:=h
  refine ⟨hI xs A B row hi hg' (fun r e=>⟨by have:=(hr r e).1;omega,(hr r e).2⟩),(hg'.block _ (Array.getElem?_eq_some_iff.1 hl).1 (fun e => ?_)).trans hl,(hg'.block _ (Array.getElem?_eq_some_iff.1 hd).1 (fun e => ?_)).trans hd⟩
  ·have:=(hr _ e.symm).1;omega
  ·have:=(hr _ e.symm).1;omega
 ·intro xs x W ⟨hi,hl,hd⟩ hnx
  have hy:=run_yield (P:=P) (args:=encs x) hl (by rw [hlp];exact hps x)
  rw [hlp] at hy
  refine ⟨fn,_,assign,body,hy,roundIn_of_wpIn hfn (hassign _ xs x W _ hi fun a' Wa hka hkp hia hax=>⟨_,run_beginRound (hka.same _ _ (by omega) hl rfl) (by rw [hlp]),?_⟩)⟩
  have hl:=hka.same _ _ (by omega) hl rfl
  have hd:=hka.same _ _ (Nat.le_refl _) hd rfl
  have hlt:=(Array.getElem?_eq_some_iff.1 hl).1
  have k1:=hKb Wa _ (.loop { lp .ready with state:=LoopState.busy }) hl rfl
  refine wpIn_mono (hbody _ xs x a' _ (by omega) ⟨_,World.putObj_heap_same hlt⟩ hnx (hI.putObj _ hia (by omega) hl rfl) ((hAx x a').putObj (s:=()) _ hax (by omega) hl rfl)) ?_
  intro e a' W' hp
  cases e with
  | normal =>
   obtain ⟨hk,k2,hi'⟩:=hp
   have hl':=hk.same _ _ (by omega) (World.putObj_heap_same hlt) rfl
   have hd':=hk.same _ _ (Nat.le_refl _) ((World.putObj_heap_other (by omega)).trans hd) rfl
   have hr:=run_endRound (P:=P) none hl'
   have hrl:({ { lp .ready with state:=LoopState.busy } with state:=LoopState.ready,pending:=none }:Loop)=lp .ready:=by rw [hlp]
   refine ⟨_,_,hr,rfl,⟨hI.putObj _ hi' (by omega) hl' rfl,?_,(World.putObj_heap_other (by omega)).trans hd'⟩,hKt hkp (hKt k1 (hKt k2 (hKb _ _ _ hl' rfl)))⟩
   rw [World.putObj_heap_same (Array.getElem?_eq_some_iff.1 hl').1]
   exact congrArg (fun r=>some (Obj.loop r)) hrl
  | _=>exact hp.elim
 ·intro e W ⟨⟨v,hv⟩,xs,hS,hi,hl,hd⟩
  subst hv
  exact ⟨none,_,by have:=run_endLoop (P:=P) hl (by rw [hlp];simp);rw [hlp] at this;exact this,hdone _ xs _ (Nat.le_refl _) hS (hI.putObj _ hi (by omega) hl rfl) ((World.putObj_heap_other (by omega)).trans hd)⟩
def KpM (B:Nat→Prop) (W W':World):Prop:=W.heap.size≤W'.heap.size∧∀ (k:Nat) (c:Array Value) (t:TypeId) (f:Nat×Nat),W.heap[k]?=some (.cells c t f)→¬ B k→W'.heap[k]?=some (.cells c t f)
theorem KpM.refl (B:Nat→Prop) (W:World):KpM B W W:=⟨Nat.le_refl _,fun _ _ _ _ h _=>h⟩
theorem KpM.tr {B:Nat→Prop} {X Y Z:World} (h:KpM B X Y) (k:KpM B Y Z):KpM B X Z:=⟨Nat.le_trans h.1 k.1,fun i c t f hi hn=>k.2 i c t f (h.2 i c t f hi hn) hn⟩
theorem KpM.put {B:Nat→Prop} (W:World) (l:Nat) (o o':Obj) (h:W.heap[l]?=some o) (ho:o.isCells=false):KpM B W (W.putObj l o'):=⟨by simp [World.putObj],fun k c t f hk _=>by
 by_cases e:l=k
 ·subst e
  rw [h] at hk
  cases hk
  cases ho
 ·exact (World.putObj_heap_other (by omega)).trans hk⟩
theorem KpM.below {B:Nat→Prop} {W W':World} (h:Below W.heap.size W W'):KpM B W W':=⟨h.size,fun k _ _ _ hk _=>(h.block k (Array.getElem?_eq_some_iff.1 hk).1).trans hk⟩
theorem KpM.set {B:Nat→Prop} (W:World) (p:Addr) (v:Value) (hp:B p.block):KpM B W (W.setCell p v):=⟨by simp,fun k _ _ _ hk hn=>(Below.heap_setCell W p v k (fun e=>hn (e ▸ hp))).trans hk⟩
theorem KpM.cell {B:Nat→Prop} {W W':World} (h:KpM B W W') {p:Addr} {v:Value} (hc:W.cell? p=some v) (hn:¬ B p.block):W'.cell? p=some v:=by
 have:∃ c t f,W.heap[p.block]?=some (.cells c t f):=by
  unfold World.cell? at hc
  split at hc
  ·rename_i c e f hb
   exact ⟨_,_,_,hb⟩
  ·cases hc
 obtain ⟨c,t,f,hb⟩:=this
 rw [← hc]
 exact World.cell?_of_block (w:=W) ((h.2 _ _ _ _ hb hn).trans hb.symm)
theorem KpM.own {β:Type} {B:Nat→Prop} {n:Nat} {W0:World}:OwnFrom n (fun (_:β) W=>KpM B W0 W):=fun _ X Y row h hg hr=>h.tr ⟨hg.size,fun k c t f hk _=>(hg.block k (Array.getElem?_eq_some_iff.1 hk).1 (fun e=>by
 obtain ⟨_,o,ho,hc⟩:=hr k e.symm
 rw [hk] at ho
 cases ho
 cases hc)).trans hk⟩
def KpN (B:Nat→Prop) (lo:Nat) (W W':World):Prop:=KpM B W W'∧KeepsFrom lo W W'
theorem KpN.refl (B:Nat→Prop) (lo:Nat) (W:World):KpN B lo W W:=⟨KpM.refl _ _,KeepsFrom.refl _ _⟩
theorem KpN.tr {B:Nat→Prop} {lo:Nat} {X Y Z:World} (h:KpN B lo X Y) (k:KpN B lo Y Z):KpN B lo X Z:=⟨h.1.tr k.1,h.2.trans k.2⟩
theorem KpN.put {B:Nat→Prop} {lo l:Nat} (hl:l<lo) (W:World) (o o':Obj) (h:W.heap[l]?=some o) (ho:o.isCells=false):KpN B lo W (W.putObj l o'):=⟨KpM.put W l o o' h ho,KeepsFrom.of_grownBy (grownBy_putObj' W l o') (fun j e=>by cases e;exact hl)⟩
theorem KpN.below {B:Nat→Prop} {lo:Nat} {W W':World} (h:Below W.heap.size W W'):KpN B lo W W':=⟨KpM.below h,⟨h.size,fun k _ _ hk _=>(h.block k (Array.getElem?_eq_some_iff.1 hk).1).trans hk⟩⟩
theorem KpN.set {B:Nat→Prop} {lo:Nat} (W:World) (p:Addr) (v:Value) (hp:B p.block):KpN B lo W (W.setCell p v):=⟨KpM.set W p v hp,(KeepsOthers.setCell W p v).from lo⟩
theorem KpN.own {β:Type} {B:Nat→Prop} {lo n:Nat} {W0:World} (hn:W0.heap.size≤n):OwnFrom n (fun (_:β) W=>KpN B lo W0 W):=(KpM.own).and (ownFrom_keepsFrom hn)
def marks (Ds:List Nat):List Deferred:=Ds.map fun D=>{ target := .collected D,args:=#[] }
theorem eZ {F:Fence} {n:Nat} {P:Program} {fn:Func} {tmps:Array Value} {R:Ending→World→Prop} (Inv:World→Prop):∀ (Ds:List Nat) (W:World),Ds.Nodup→(∀ D∈Ds,W.heap[D]?=some (.deferred (some [])))→(∀ D V,D∈Ds→Inv V→V.heap[D]?=some (.deferred (some []))→Inv (V.putObj D (.deferred none)))→(∀ V,Inv V→LeavesIn F n P fn tmps R [] .returning V)→Inv W→LeavesInM F n P fn tmps R (marks Ds) .returning W
 | [],W,_,_,_,hR,hI=>hR W hI
 | D::Ds,W,hn,hD,hp,hR,hI=>by
  have h0:=hD D (List.mem_cons_self ..)
  obtain ⟨hn1,hn2⟩:=List.nodup_cons.1 hn
  refine ⟨by simp,.inl ⟨D,_,rfl,run_takeDeferred h0,?_⟩⟩
  refine eZ Inv Ds _ hn2 (fun E hE=>(World.putObj_heap_other (r:=D) (k:=E) (fun e=>hn1 (e ▸ hE))).trans (hD E (List.mem_cons_of_mem _ hE))) (fun E V hE=>hp E V (List.mem_cons_of_mem _ hE)) hR (hp D W (List.mem_cons_self ..) hI h0)
end
section
open Go.RowKit Go.Proofs Go.Shelf
attribute [local go_sem] Oper.semAt_some
def Tryz.sQ:Go.Shelf.Ren:=⟨fun | 29=>230 | n=>n,fun | 22=>37 | 3=>3 | 4=>4 | 25=>389 | 54=>411 | 0=>0 | 5=>5 | n=>n,fun | 1=>2 | n=>n⟩
theorem Tryz.BP:Go.Proofs.Lays7.n29 Tryz.prog Tryz.sQ:={
 mixed:=by kernel_rfl
 f29:=Tryz.func230.trans (congrArg some (by kernel_rfl))
 t0:=Tryz.underlying0
 a0:=Tryz.isAgg0
 z0:=Tryz.sizeOf0
 v0:=Tryz.zeroValue0
 i0:=by kernel_rfl
 t3:=Tryz.underlying3
 a3:=Tryz.isAgg3
 z3:=Tryz.sizeOf3
 v3:=Tryz.zeroValue3
 i3:=by kernel_rfl
 t4:=Tryz.underlying4
 a4:=Tryz.isAgg4
 z4:=Tryz.sizeOf4
 v4:=Tryz.zeroValue4
 i4:=by kernel_rfl
 t5:=Tryz.underlying5
 a5:=Tryz.isAgg5
 z5:=Tryz.sizeOf5
 v5:=Tryz.zeroValue5
 i5:=by kernel_rfl
 t22:=Tryz.underlying37
 a22:=Tryz.isAgg37
 z22:=Tryz.sizeOf37
 v22:=Tryz.zeroValue37
 i22:=by kernel_rfl
 t25:=Tryz.underlying389
 a25:=Tryz.isAgg389
 z25:=Tryz.sizeOf389
 v25:=Tryz.zeroValue389
 i25:=by kernel_rfl
 t54:=Tryz.underlying411
 a54:=Tryz.isAgg411
 z54:=Tryz.sizeOf411
 g1:=by kernel_rfl }
theorem C2 (s:Nat) (w:World) (hs:s<18446744073709551616) (hT:TabAt 2 Lib.deBruijn64tab w):Calls Tryz.prog 230 #[.int .u64 s] w fun e w'=>e = .returned (.int .i64 (Lib.ctz 64 s))∧w'=w :=
 Any7.bits_TrailingZeros64 Tryz.BP s hs w fun _=>hT
namespace Pg
def eu (s:Nat):List Nat:=(List.range 64).filter s.testBit
theorem fu {s i:Nat}:i∈eu s↔i<64∧s.testBit i=true:=by
 unfold eu
 rw [List.mem_filter,List.mem_range]
theorem wR:eu 0=[]:=by decide +kernel
theorem xA {s:Nat} (h0:s≠0) (hs:s<18446744073709551616):Lib.ctz 64 s<64∧s.testBit (Lib.ctz 64 s)=true∧(∀ j,j<Lib.ctz 64 s→s.testBit j=false)∧∀ j,(s&&&(s-1)).testBit j=(s.testBit j&&decide (j≠Lib.ctz 64 s)):=by
 obtain ⟨m,hm,hk⟩:=Lib.ctzFrom_spec 64 s (Nat.pos_of_ne_zero h0) hs
 have he:Lib.ctz 64 s=Lib.ctzFrom 64 s:=by unfold Lib.ctz;rw [if_neg h0]
 rw [he]
 generalize Lib.ctzFrom 64 s=k at hm hk
 have hp:=Nat.two_pow_pos k
 have e1:s=2 ^ k*(2*m+1)+0:=by omega
 have e2:s-1=2 ^ k*(2*m)+(2 ^ k-1):=by
  have:2 ^ k*(2*m+1)=2 ^ k*(2*m)+2 ^ k:=by rw [Nat.mul_add,Nat.mul_one]
  omega
 have t1:∀ j,s.testBit j=if j<k then false else (2*m+1).testBit (j-k):=by
  intro j
  rw [e1,Nat.testBit_two_pow_mul_add _ hp,Nat.zero_testBit]
 have t2:∀ j,(s-1).testBit j=if j<k then (2 ^ k-1).testBit j else (2*m).testBit (j-k):=by
  intro j
  rw [e2,Nat.testBit_two_pow_mul_add _ (by omega)]
 refine ⟨hk,?_,?_,?_⟩
 ·rw [t1,if_neg (by omega),Nat.sub_self,Nat.testBit_zero]
  simp
 ·intro j hj
  rw [t1,if_pos hj]
 ·intro j
  rw [Nat.testBit_and,t1,t2]
  by_cases hj:j<k
  ·rw [if_pos hj,if_pos hj];rfl
  ·rw [if_neg hj,if_neg hj]
   by_cases hjk:j=k
   ·subst hjk
    rw [Nat.sub_self,Nat.testBit_zero,Nat.testBit_zero]
    simp
   ·obtain ⟨i,hi⟩:∃ i,j-k=i+1:=⟨j-k-1,by omega⟩
    rw [hi,Nat.testBit_succ,Nat.testBit_succ,show (2*m+1) / 2=m by omega,show 2*m / 2=m by omega]
    simp [hjk]
theorem uA {s:Nat} (h0:s≠0) (hs:s<18446744073709551616):eu s=Lib.ctz 64 s::eu (s&&&(s-1)):=by
 obtain ⟨a,b,c,d⟩:=xA h0 hs
 exact i7 b c d 64 a
abbrev AU (s:Nat):Type:={ i:Nat // i∈eu s }
theorem KpM.tab {B:Nat→Prop} {W W':World} (h:KpM B W W') (hg:¬ B 2) (hT:TabAt 2 Lib.deBruijn64tab W):TabAt 2 Lib.deBruijn64tab W':=fun j hj=>h.cell (p:=⟨2,j,none⟩) (hT j hj) hg
theorem Fa {t:Nat} (h0:t≠0) (ht:t<18446744073709551616):bits BinOp.and IntKind.u64 (t:Int) ((t:Int)-1)=((t&&&(t-1):Nat):Int):=by
 rw [show (t:Int)-1=((t-1:Nat):Int) by omega,bits_and_u64_nat t _ ht (by omega)]
end Pg
theorem BD (n:Nat) (hn:1≤n) (l Bs mb o s:Nat) (hs:s<18446744073709551616) (Kp:World→World→Prop) (hKp:∀ W W',Kp W W'→TabAt 2 Lib.deBruijn64tab W→TabAt 2 Lib.deBruijn64tab W') (J Jx:List (Pg.AU s)→World→Prop)
  (hY:∀ pre x W,J pre W→pre.length<64→YieldAt Fence.wide (n-1) Tryz.prog l #[.int .i64 (x.1:Int)] W fun e W' =>
   (e = .returned (.bool true)∧J (pre++[x]) W'∧Kp W W')∨(e = .returned (.bool false)∧Jx (pre++[x]) W'))
  (W:World) (hBs:W.cell? ⟨Bs,0,none⟩=some (.pointer (some ⟨mb,o,none⟩))) (hc:W.cell? ⟨mb,o+64,none⟩=some (.int .u64 s)) (hT:TabAt 2 Lib.deBruijn64tab W) (h0:J [] W) :
  CallsIn Fence.wide n Tryz.prog 229 #[.func (.yield l) #[] #[],.pointer (some ⟨Bs,0,none⟩)] W fun e W'=>(∃ v,e = .returned v) ∧
   ((∃ ys,ys.map (·.1)=Pg.eu s∧J ys W')∨(∃ pre,pre.map (·.1) <+: Pg.eu s∧Jx pre W')):=by
 refine callsIn_of_wp Tryz.func229 rfl trivial ?_ rfl
 simp only [Tryz.ntmps229,List.size_toArray,List.length_cons,List.length_nil,Nat.reduceAdd,Nat.reduceSub,Array.replicate_succ,Array.replicate_zero,List.push_toArray,List.append_toArray,List.nil_append,List.cons_append]
 gi_wp2
 gi_loopw [3] (fun i wr=>∃ (t:Nat) (pre:List (Pg.AU s)),i = .int .u64 t∧t<18446744073709551616∧Pg.eu s=pre.map (·.1)++Pg.eu t∧J pre wr∧TabAt 2 Lib.deBruijn64tab wr)
  (fun i _=>(intOf i).toNat)
 case atStart=>exact ⟨s,[],rfl,hs,rfl,h0,hT⟩
 case round =>
  obtain ⟨t,pre,rfl,ht,he,hJs,hTr⟩:=hrel
  clear hBs hc
  by_cases hz:t=0
  ·subst hz
   gi_wp2
   go_end0
   rw [Pg.wR,List.append_nil] at he
   exact ⟨⟨_,rfl⟩,.inl ⟨pre,he.symm,hJs⟩⟩
  ·have hf:=Pg.uA hz ht
   have hm:Lib.ctz 64 t∈Pg.eu s:=by rw [he,hf];simp
   have hle:pre.length<64:=by
    have h1:(Pg.eu s).length≤64:=by
     have:=List.length_filter_le s.testBit (List.range 64)
     rw [List.length_range] at this
     exact this
    rw [he,hf] at h1
    simp at h1
    omega
   obtain ⟨fn,tmps,assign,body,hy,hR⟩:=hY pre ⟨Lib.ctz 64 t,hm⟩ wr hJs hle
   dsimp only at hy
   have ha:=Pg.Fa hz ht
   have hz':((t:Int) == 0)=false:=by simp;omega
   have hlt:=Pg.rI hz
   have htz:=C2 t wr ht hTr
   gi_wp2_with (refine ⟨trivial,?_⟩;gi_at_call 230;refine (callsIn_wide.2 htz).mono ?_;clear htz;rintro e w9 ⟨rfl,hw9⟩;rw [hw9];clear hw9 w9)
   have hE:Pg.eu s=(pre++[(⟨Lib.ctz 64 t,hm⟩:Pg.AU s)]).map (·.1)++Pg.eu (t&&&(t-1)):=he.trans (by rw [hf,List.map_append,List.append_assoc];rfl)
   refine hR.mono ?_
   rintro e W3 (⟨rfl,hJ3,hk3⟩ | ⟨rfl,hJx3⟩)
   ·gi_wp2
    go_roundw
    case rel=>exact ⟨t&&&(t-1),pre++[⟨Lib.ctz 64 t,hm⟩],rfl,by omega,hE,hJ3,hKp _ _ hk3 hTr⟩
    case measure=>simp only [intOf];omega
   ·gi_wp2
    refine bodyPost_ret (results_none rfl _ _ _) rfl ?_
    exact ⟨⟨_,rfl⟩,.inr ⟨_,⟨_,hE.symm⟩,hJx3⟩⟩
theorem kJ (n:Nat) (hn:1≤n) (Bs mb o s:Nat) (hs:s<18446744073709551616) (Kp:World→World→Prop) (hKp:∀ W W',Kp W W'→TabAt 2 Lib.deBruijn64tab W→TabAt 2 Lib.deBruijn64tab W') (w:World) (hBs:Bs<w.heap.size) (hmb:mb<w.heap.size) (hg:2<w.heap.size) (hc:w.cell? ⟨Bs,0,none⟩=some (.pointer (some ⟨mb,o,none⟩))) (hd:w.cell? ⟨mb,o+64,none⟩=some (.int .u64 s)) (hT:TabAt 2 Lib.deBruijn64tab w) :
  SeqStopsK Fence.wide n Tryz.prog 229 #[.pointer (some ⟨Bs,0,none⟩)] (fun x:Pg.AU s=>#[Value.int .i64 (x.1:Int)]) Kp (fun ys=>ys.map (·.1)=Pg.eu s) (fun pre=>pre.map (·.1) <+: Pg.eu s) 64 w:=fun l J Jx W hW _ _ hY h0 =>
 BD n hn l Bs mb o s hs Kp hKp J Jx hY W ((hW.cell (p:=⟨Bs,0,none⟩) hBs).trans hc) ((hW.cell (p:=⟨mb,o+64,none⟩) hmb).trans hd) (fun j hj=>(hW.cell (p:=⟨2,j,none⟩) hg).trans (hT j hj)) h0
theorem iA (mb o:Nat) (w:World):Calls Tryz.prog 183 #[.pointer (some ⟨mb,o,none⟩)] w fun e w'=>e = .returned (.func (.func 229) #[] #[.pointer (some ⟨w.heap.size,0,none⟩)])∧w'=w.alloc (.cells #[.pointer (some ⟨mb,o,none⟩)] 363):=by
 go_enter Tryz.func183,Tryz.ntmps183
 go_wp2
 go_ret
 exact ⟨rfl,rfl⟩
attribute [local go_sem] Oper.semAt_some
theorem Tryz.zQ:(Tryz.prog.info? 250).map (fun i=>(i.zero,i.size,i.bytes))=some (some (.agg #[.int .u64 0,.string ⟨#[]⟩,.string ⟨#[]⟩,.pointer none]),4,48):=by kernel_rfl
theorem gd (w:World) (a b:Nat) (ha:∃ c,w.heap[a]?=some (.cells c 250 (0,0))) (hb:∃ c,w.heap[b]?=some (.cells c 250 (0,0))) :
  (binOp .eql 142 (.pointer (some ⟨a,0,none⟩)) (.pointer (some ⟨b,0,none⟩))).run Tryz.prog w = .ok (.bool (decide (a=b))) w:=by
 obtain ⟨i0,hi,hz0,hz1,hz2⟩:=info_parts Tryz.zQ
 obtain ⟨ca,ha⟩:=ha
 obtain ⟨cb,hb⟩:=hb
 have h:∀ d:Nat,(Op.equalIn (d+1) 142 (.pointer (some ⟨a,0,none⟩)) (.pointer (some ⟨b,0,none⟩))).run Tryz.prog w = .ok (decide (a=b)) w:=fun d=>by
  by_cases e:a=b
  ·subst e
   simp [Op.equalIn,run_underlying Tryz.underlying142,sizeOf,typeInfo,hi,run_sameAddr_same]
  ·simp [Op.equalIn,run_underlying Tryz.underlying142,sizeOf,typeInfo,hi,hz1,e,run_sameAddr_other w (a:=⟨a,0,none⟩) (b:=⟨b,0,none⟩) (by intro x;injection x with x1;exact e x1) ha hb]
 simp only [binOp]
 simp [Op.equal,Op.maxDepth,h 9999]
namespace Pg
structure RdN (Bs:Nat) (L:List Nd) (i:Nat) (V:World):Prop where
 box:V.cell? ⟨Bs,0,none⟩=some (aD L)
 nd:∀ x∈L,∃ c,V.heap[x.1]?=some (.cells c 250 (0,0))
 next:∀ x,L[i]?=some x→V.cell? ⟨x.1,3,none⟩=some (nxt L i)
 first:i=0→∀ z,L.getLast?=some z→V.cell? ⟨z.1,3,none⟩=some (nxt L (L.length-1))
def ndM (L:List Nd):Value→Nat
 | .pointer (some a)=>L.length-(L.map (·.1)).idxOf a.block
 | _=>0
theorem Ca {L:List Nd} (hnd:(L.map (·.1)).Nodup) {i:Nat} {x:Nd} (h:L[i]?=some x):ndM L (.pointer (some ⟨x.1,0,none⟩))=L.length-i:=by
 have hi:i<(L.map (·.1)).length:=by simp;exact (List.getElem?_eq_some_iff.1 h).1
 have hx:(L.map (·.1))[i]=x.1:=by rw [List.getElem_map];rw [(List.getElem?_eq_some_iff.1 h).2]
 show L.length-(L.map (·.1)).idxOf x.1=_
 rw [← hx,hnd.idxOf_getElem i hi]
end Pg
theorem qX (n:Nat) (hn:1≤n) (l Bs:Nat) (L:List Pg.Nd) (hnd:(L.map (·.1)).Nodup) (J Jx:List Pg.Nd→World→Prop) (hRd:∀ xs V,J xs V→Pg.RdN Bs L xs.length V)
  (hY:∀ i x V,L[i]?=some x→J (L.take i) V→YieldAt Fence.wide (n-1) Tryz.prog l #[.pointer (some ⟨x.1,0,none⟩)] V fun e V'=>(e = .returned (.bool true)∧J (L.take (i+1)) V')∨(e = .returned (.bool false)∧Jx (L.take (i+1)) V'))
  (W:World) (h0:J [] W) :
  CallsIn Fence.wide n Tryz.prog 204 #[.func (.yield l) #[] #[],.pointer (some ⟨Bs,0,none⟩)] W fun e W'=>(∃ v,e = .returned v)∧(J L W'∨∃ i,Jx (L.take i) W'):=by
 have hR0:=hRd [] W h0
 have hb0:=hR0.box
 have he:=jI W Bs 0 L hb0
 refine callsIn_of_wp Tryz.func204 rfl trivial ?_ rfl
 simp only [Tryz.ntmps204,List.size_toArray,List.length_cons,List.length_nil,Nat.reduceAdd,Nat.reduceSub,Array.replicate_succ,Array.replicate_zero,List.push_toArray,List.append_toArray,List.nil_append,List.cons_append]
 cases hz:L.getLast? with
 | none =>
  have hl:L=[]:=List.getLast?_eq_none_iff.1 hz
  subst hl
  simp only [List.isEmpty_nil] at he
  clear hY
  gi_wp2_with (refine ⟨trivial,?_⟩;gi_at_call 205;refine (callsIn_wide.2 he).mono ?_;clear he;rintro e w9 ⟨rfl,hw9⟩;rw [hw9];clear hw9 w9)
  refine bodyPost_ret (results_none rfl _ _ _) rfl ?_
  exact ⟨⟨_,rfl⟩,.inl h0⟩
 | some z =>
  have hne:L≠[]:=fun e=>by rw [e] at hz;simp at hz
  have hlen:0<L.length:=List.length_pos_iff.2 hne
  have hlz:L[L.length-1]?=some z:=by rw [← List.getLast?_eq_getElem?];exact hz
  obtain ⟨f,hf⟩:∃ f,L[0]?=some f:=⟨_,List.getElem?_eq_getElem hlen⟩
  have hez:L.isEmpty=false:=by cases L with | nil=>simp at hz | cons a l=>rfl
  rw [hez] at he
  have hz3:=hR0.first rfl z hz
  rw [Pg.gH hf] at hz3
  have hrv:Pg.aD L = .pointer (some ⟨z.1,0,none⟩):=by unfold Pg.aD;rw [hz];rfl
  rw [hrv] at hb0
  unfold Pg.ndP at hz3
  obtain ⟨zb,zt⟩:=z
  obtain ⟨fb,ft⟩:=f
  dsimp only at hb0 hz3 hrv
  clear hR0 hez hne
  gi_wp2_with (refine ⟨trivial,?_⟩;gi_at_call 205;refine (callsIn_wide.2 he).mono ?_;clear he;rintro e w9 ⟨rfl,hw9⟩;rw [hw9];clear hw9 w9)
  gi_loopw [3] (fun v wr=>∃ (i:Nat) (x:Pg.Nd),L[i]?=some x∧v = .pointer (some ⟨x.1,0,none⟩)∧J (L.take i) wr) (fun v _=>Pg.ndM L v)
  case atStart=>exact ⟨0,(fb,ft),hf,rfl,h0⟩
  case round =>
   obtain ⟨i,x,hix,rfl,hJi⟩:=hrel
   have hil:=(List.getElem?_eq_some_iff.1 hix).1
   have hRi:=hRd _ _ hJi
   rw [List.length_take_of_le (by omega)] at hRi
   have hx3:=hRi.next x hix
   have hmi:=Pg.Ca hnd hix
   obtain ⟨fn,tmps,assign,body,hy,hR⟩:=hY i x wr hix hJi
   clear hRi hb0 hz3
   by_cases hlast:i+1=L.length
   ·have hxz:x=(zb,zt):=by rw [show L.length-1=i by omega,hix] at hlz;exact Option.some.inj hlz
    subst hxz
    have hnx:Pg.nxt L i = .pointer (some ⟨fb,0,none⟩):=by rw [show i=L.length-1 by omega,Pg.gH hf];rfl
    rw [hnx] at hx3
    dsimp only at hx3 hy
    gi_wp2
    refine hR.mono ?_
    rintro e W3 (⟨rfl,hJ3⟩ | ⟨rfl,hJx3⟩)
    ·have hR3:=hRd _ _ hJ3
     have hb3:=hR3.box
     rw [hrv] at hb3
     have hq3:=gd W3 zb zb (hR3.nd _ (List.mem_of_getElem? hlz)) (hR3.nd _ (List.mem_of_getElem? hlz))
     rw [decide_eq_true rfl] at hq3
     clear hR3
     gi_wp2
     refine bodyPost_ret (results_none rfl _ _ _) rfl ?_
     rw [hlast,List.take_length] at hJ3
     exact ⟨⟨_,rfl⟩,.inl hJ3⟩
    ·gi_wp2
     refine bodyPost_ret (results_none rfl _ _ _) rfl ?_
     exact ⟨⟨_,rfl⟩,.inr ⟨_,hJx3⟩⟩
   ·obtain ⟨y,hy1⟩:∃ y,L[i+1]?=some y:=⟨_,List.getElem?_eq_getElem (by omega)⟩
    have hnx:Pg.nxt L i = .pointer (some ⟨y.1,0,none⟩):=by unfold Pg.nxt;rw [hy1];rfl
    rw [hnx] at hx3
    have hxz:x.1≠zb:=fun e=>by
     have a1:(L.map (·.1))[i]?=some x.1:=by rw [List.getElem?_map,hix];rfl
     have a2:(L.map (·.1))[L.length-1]?=some x.1:=by rw [List.getElem?_map,hlz,e];rfl
     have:=(List.getElem?_inj (by simp;omega) hnd).1 (a1.trans a2.symm)
     omega
    have hmy:=Pg.Ca hnd hy1
    (try dsimp only at hy)
    gi_wp2
    refine hR.mono ?_
    rintro e W3 (⟨rfl,hJ3⟩ | ⟨rfl,hJx3⟩)
    ·have hR3:=hRd _ _ hJ3
     have hb3:=hR3.box
     rw [hrv] at hb3
     have hq3:=gd W3 x.1 zb (hR3.nd _ (List.mem_of_getElem? hix)) (hR3.nd _ (List.mem_of_getElem? hlz))
     rw [decide_eq_false hxz] at hq3
     clear hR3
     gi_wp2
     go_roundw
     case rel=>exact ⟨i+1,y,hy1,rfl,hJ3⟩
     case measure=>rw [hmi,hmy];omega
    ·gi_wp2
     refine bodyPost_ret (results_none rfl _ _ _) rfl ?_
     exact ⟨⟨_,rfl⟩,.inr ⟨_,hJx3⟩⟩
theorem cY {α:Type} {L:List α} {i:Nat} {x:α} (h:L[i]?=some x):L.take i++[x]=L.take (i+1):=by
 rw [List.take_add_one,h];rfl
theorem vz (n:Nat) (hn:1≤n) (Bs:Nat) (L:List Pg.Nd) (hnd:(L.map (·.1)).Nodup) (w:World) :
  AX Fence.wide n Tryz.prog 204 #[.pointer (some ⟨Bs,0,none⟩)] (fun x:Pg.Nd=>#[Value.pointer (some ⟨x.1,0,none⟩)]) (fun _ _=>True) (fun xs V=>Pg.RdN Bs L xs.length V) (fun xs x=>L[xs.length]?=some x∧xs=L.take xs.length) (fun xs=>xs=L) w:=fun l J W _ _ _ hRd hY h0=>by
 refine (qX n hn l Bs L hnd J (fun _ _=>False) hRd (fun i x V hx hJ => ?_) W h0).mono ?_
 ·have hi:=(List.getElem?_eq_some_iff.1 hx).1
  have hl:(L.take i).length=i:=List.length_take_of_le (by omega)
  refine (hY (L.take i) x V hJ ⟨by rw [hl];exact hx,by rw [hl]⟩).mono ?_
  rintro e V' ⟨rfl,h,_⟩
  rw [cY hx] at h
  exact .inl ⟨rfl,h⟩
 ·rintro e V' ⟨hv,h | ⟨i,h⟩⟩
  ·exact ⟨hv,L,rfl,h⟩
  ·exact h.elim
theorem nB (n:Nat) (hn:1≤n) (Bs:Nat) (L:List Pg.Nd) (hnd:(L.map (·.1)).Nodup) (B:Nat→Prop) (w:World) (hb:w.cell? ⟨Bs,0,none⟩=some (Pg.aD L)) (hR:Pg.bI w L) (hB:¬ B Bs) (hBl:∀ x∈L,¬ B x.1) :
  SeqStopsK Fence.wide n Tryz.prog 204 #[.pointer (some ⟨Bs,0,none⟩)] (fun x:Pg.Nd=>#[Value.pointer (some ⟨x.1,0,none⟩)]) (KpM B) (fun xs=>xs=L) (fun _=>True) L.length w:=fun l J Jx W hW _ _ hY h0=>by
 have hW':KpM B w W:=KpM.below hW
 refine (qX n hn l Bs L hnd (fun xs V=>J xs V∧KpM B W V) Jx (fun xs V hV => ?_) (fun i x V hx hJ => ?_) W ⟨h0,KpM.refl _ _⟩).mono ?_
 ·have hk:=hW'.tr hV.2
  have hc:∀ (i:Nat) (x:Pg.Nd),L[i]?=some x→V.heap[x.1]?=some (.cells (Pg.dL x.2 (Pg.nxt L i)) 250 (0,0)):=fun i x hx=>hk.2 _ _ _ _ (hR i x hx) (hBl x (List.mem_of_getElem? hx))
  refine ⟨hk.cell hb hB,fun x hx => ?_,fun x hx => ?_,fun h0 z hz => ?_⟩
  ·obtain ⟨i,hi⟩:=List.mem_iff_getElem?.1 hx
   exact ⟨_,hc i x hi⟩
  ·rw [cell_of_row V _ _ _ _ _ (hc _ x hx)];rfl
  ·have hlz:L[L.length-1]?=some z:=by rw [← List.getLast?_eq_getElem?];exact hz
   rw [cell_of_row V _ _ _ _ _ (hc _ z hlz)];rfl
 ·have hi:=(List.getElem?_eq_some_iff.1 hx).1
  have hl:(L.take i).length=i:=List.length_take_of_le (by omega)
  refine (hY (L.take i) x V hJ.1 (by omega)).mono ?_
  rw [cY hx]
  rintro e V' (⟨rfl,h,hk⟩ | h)
  ·exact .inl ⟨rfl,h,hJ.2.tr hk⟩
  ·exact .inr h
 ·rintro e V' ⟨hv,h | ⟨i,h⟩⟩
  ·exact ⟨hv,.inl ⟨L,rfl,h.1⟩⟩
  ·exact ⟨hv,.inr ⟨_,trivial,h⟩⟩
theorem j8 (v:Value) (w:World) (hv:v = .pointer none∨∃ b,v = .pointer (some ⟨b,0,none⟩)):Calls Tryz.prog 171 #[.agg #[v]] w fun e w'=>e = .returned (.func (.func 204) #[] #[.pointer (some ⟨w.heap.size,0,none⟩)])∧w'=w.alloc (.cells #[v] 144):=by
 rcases hv with rfl | ⟨b,rfl⟩
 all_goals
  go_enter Tryz.func171,Tryz.ntmps171
  go_wp2
  go_ret
  exact ⟨rfl,rfl⟩
def Tryz.uZ:Go.Shelf.Ren:=⟨fun | 129=>200 | n=>n,fun | 53=>37 | 3=>3 | 4=>4 | 46=>389 | 5=>5 | 9=>9 | n=>n,fun | n=>n⟩
theorem Tryz.DV:Go.Proofs.Lays.n129 Tryz.prog Tryz.uZ:={
 mixed:=by kernel_rfl
 f129:=Tryz.func200.trans (congrArg some (by kernel_rfl))
 t3:=Tryz.underlying3
 a3:=Tryz.isAgg3
 z3:=Tryz.sizeOf3
 v3:=Tryz.zeroValue3
 t4:=Tryz.underlying4
 a4:=Tryz.isAgg4
 z4:=Tryz.sizeOf4
 v4:=Tryz.zeroValue4
 t5:=Tryz.underlying5
 a5:=Tryz.isAgg5
 z5:=Tryz.sizeOf5
 v5:=Tryz.zeroValue5
 t9:=Tryz.underlying9
 a9:=Tryz.isAgg9
 z9:=Tryz.sizeOf9
 v9:=Tryz.zeroValue9
 t46:=Tryz.underlying389
 a46:=Tryz.isAgg389
 z46:=Tryz.sizeOf389
 v46:=Tryz.zeroValue389
 t53:=Tryz.underlying37
 a53:=Tryz.isAgg37
 z53:=Tryz.sizeOf37
 v53:=Tryz.zeroValue37 }
theorem z7 (x:Nat) (w:World) (h:x<18446744073709551616):Calls Tryz.prog 200 #[.int .u64 x] w fun e w'=>e = .returned (.int .i64 (Lib.bitLen x))∧w'=w:=by
 have:=Any.bits_Len64 Tryz.DV (x:Int) w (by omega) (by omega)
 rw [Int.toNat_natCast] at this
 exact this
namespace Pg
def fT (h s:Nat) (e:Bool):Nat:=if e then h&&&(18446744073709551615-2 ^ s) else h|||2 ^ s
theorem ml {i:Nat} (h:i<64):2 ^ i<18446744073709551616:=Nat.lt_of_lt_of_le (Nat.pow_lt_pow_right (by decide) h) (by decide)
theorem AN {i:Nat} (hi:i<64):(2:Int) ^ i % 18446744073709551616=((2 ^ i:Nat):Int):=by
 rw [jq];exact Int.emod_eq_of_lt (Int.natCast_nonneg _) (by have:=ml hi;omega)
theorem lJ {h s:Nat} {e:Bool} (hh:h<18446744073709551616) (hs:s<64):fT h s e<18446744073709551616:=by
 unfold fT
 have:=ml hs
 split
 ·exact Nat.lt_of_le_of_lt Nat.and_le_left hh
 ·exact Nat.or_lt_two_pow (n:=64) hh this
theorem j5 {h s:Nat} {e:Bool} (hs:s<64) (j:Nat) (hj:j<64):(fT h s e).testBit j=if j=s then !e else h.testBit j:=by
 unfold fT
 have:=ml hs
 cases e
 ·rw [if_neg (by decide),Nat.testBit_or,Nat.testBit_two_pow]
  by_cases e:j=s
  ·simp [e]
  ·simp [e,Ne.symm e]
 ·rw [if_pos rfl,Nat.testBit_and,show 18446744073709551615-2 ^ s=2 ^ 64-(2 ^ s+1) by omega,Nat.testBit_two_pow_sub_succ this,Nat.testBit_two_pow]
  by_cases e:j=s
  ·simp [e]
  ·simp [e,Ne.symm e,hj]
end Pg
theorem o6 (w:World) (mb o:Nat) (s:Nat) (l:List Pg.Nd) (h:Nat) (hs:s<64) (hh:h<18446744073709551616) (hc:w.cell? ⟨mb,o+s,none⟩=some (Pg.aD l)) (hd:w.cell? ⟨mb,o+64,none⟩=some (.int .u64 h)) (hfz:w.frozen? ⟨mb,o+64,none⟩=false) :
  Calls Tryz.prog 202 #[.pointer (some ⟨mb,o,none⟩),.int .i64 s] w fun e w'=>e = .returned (.tuple #[])∧w'=w.drew.setCell ⟨mb,o+64,none⟩ (.int .u64 (Pg.fT h s l.isEmpty)):=by
 have he:=jI w mb (o+s) l hc
 have h2:=Pg.ml hs
 have h2m:=Pg.AN hs
 have hsm:¬ ((s:Int)<0):=by omega
 have hsn:(s:Int).toNat=s:=Int.toNat_natCast s
 have hwr:IntKind.u64.wrap ((2:Int) ^ s)=((2 ^ s:Nat):Int):=by rw [IntKind.wrap_u64];exact h2m
 have hor:bits BinOp.or IntKind.u64 (h:Int) (IntKind.u64.wrap ((2:Int) ^ s))=((h|||2 ^ s:Nat):Int):=by rw [hwr];exact u64_or_nat h (2 ^ s) hh h2
 have hand:bits BinOp.andNot IntKind.u64 (h:Int) (IntKind.u64.wrap ((2:Int) ^ s))=((h&&&(18446744073709551615-2 ^ s):Nat):Int):=by rw [hwr];exact u64_andNot_nat h (2 ^ s) hh h2
 have hdd:w.drew.cell? ⟨mb,o+64,none⟩=some (.int .u64 h):=hd
 have hfd:w.drew.frozen? ⟨mb,o+64,none⟩=false:=hfz
 clear hwr h2m h2
 cases hl:l.isEmpty
 ·rw [hl] at he
  unfold Pg.fT
  rw [if_neg (by decide)]
  generalize h|||2 ^ s=hn at *
  go_enter Tryz.func202,Tryz.ntmps202
  go_wp2_with (go_at_call 205;refine he.mono ?_;rintro e w9 ⟨rfl,hw9⟩;rw [hw9];clear hw9 w9)
  refine dS 9 (by kernel_rfl) (by kernel_rfl) ?_
  simp only [List.take_succ_cons,List.take_zero,List.drop_succ_cons,List.drop_zero]
  repeat still_step
  refine wpStill_nil ?_
  go_wp2
  go_end0
  exact ⟨rfl,rfl⟩
 ·rw [hl] at he
  unfold Pg.fT
  rw [if_pos rfl]
  generalize h&&&(18446744073709551615-2 ^ s)=hn at *
  go_enter Tryz.func202,Tryz.ntmps202
  go_wp2_with (go_at_call 205;refine he.mono ?_;rintro e w9 ⟨rfl,hw9⟩;rw [hw9];clear hw9 w9)
  refine dS 9 (by kernel_rfl) (by kernel_rfl) ?_
  simp only [List.take_succ_cons,List.take_zero,List.drop_succ_cons,List.drop_zero]
  repeat still_step
  refine wpStill_nil ?_
  go_wp2
  go_end0
  exact ⟨rfl,rfl⟩
namespace Pg
def aF (now t:Nat):Nat:=min ((Lib.bitLen ((t ^^^ now)|||1)-1) / 6) 6
def eV (now t:Nat):Nat:=t / 2 ^ (aF now t*6) % 64
end Pg
theorem re (x:Nat):x|||1≠0:=fun h=>by
 have:(x|||1).testBit 0=true:=by rw [Nat.testBit_or];simp
 rw [h] at this
 simp at this
theorem me (w:World) (mb o now t:Nat) (hnow:now<18446744073709551616) (ht:t<18446744073709551616) (hc:w.cell? ⟨mb,o,none⟩=some (.int .u64 now)) :
  Calls Tryz.prog 168 #[.pointer (some ⟨mb,o,none⟩),.int .u64 t] w fun e w'=>e = .returned (.tuple #[.int .i64 ((Pg.aF now t:Nat):Int),.int .i64 ((Pg.eV now t:Nat):Int)])∧Below w.heap.size w w':=by
 have hx:=u64_xor_nat t now ht hnow
 have hxl:t ^^^ now<18446744073709551616:=by
  have:=Nat.xor_lt_two_pow (n:=64) (x:=t) (y:=now) (by omega) (by omega)
  omega
 have hor:=u64_or_nat (t ^^^ now) 1 hxl (by omega)
 have horl:(t ^^^ now)|||1<18446744073709551616:=by
  have:=Nat.or_lt_two_pow (n:=64) (x:=t ^^^ now) (y:=1) (by omega) (by omega)
  omega
 obtain ⟨d,hd⟩:∃ d,(t ^^^ now)|||1=d:=⟨_,rfl⟩
 rw [hd] at hor horl
 have hlen:=z7 d w horl
 have hbl:1≤Lib.bitLen d∧Lib.bitLen d≤64:=by
  have hd0:d≠0:=by rw [← hd];exact re _
  refine ⟨?_,Lib.bitLen_le d 64 (by decide) (by omega)⟩
  have:=(Lib.bitLenAux_bounds 64 d (by omega) hd0).1
  exact this
 unfold Pg.eV Pg.aF
 rw [hd]
 obtain ⟨L,hL⟩:∃ L,Lib.bitLen d=L+1:=⟨Lib.bitLen d-1,by omega⟩
 rw [hL] at hlen hbl ⊢
 rw [Nat.add_sub_cancel]
 have hL1:((L+1:Nat):Int)-1=(L:Int):=by omega
 have hLl:L<64:=by omega
 clear hd hL hbl
 obtain ⟨K,hK⟩:∃ K,min (L / 6) 6=K:=⟨_,rfl⟩
 rw [hK]
 have hK6:K≤6:=by omega
 have hmin:∀ V:World,(Builtin.min_ #[3,3] 3 #[.int .i64 ((L:Int) / 6),.int .i64 6]).run Tryz.prog V = .ok (.int .i64 (K:Int)) V:=fun V=>by
  have:(if (6:Int)<(L:Int) / 6 then (6:Int) else (L:Int) / 6)=(K:Int):=by split <;> omega
  rw [← this]
  rfl
 have hw6:IntKind.i64.wrap ((K:Int)*6)=((K*6:Nat):Int):=by rw [IntKind.wrap_i64];omega
 have hsm:¬ (((K*6:Nat):Int)<0):=by omega
 have hv:wrap64 (((t:Int) / 2 ^ (K*6)).tmod 64)=((t / 2 ^ (K*6) % 64:Nat):Int):=by
  rw [jq,← Int.natCast_ediv]
  generalize t / 2 ^ (K*6)=q
  rw [Int.tmod_eq_emod_of_nonneg (by omega)]
  unfold wrap64
  omega
 have hor:bits BinOp.or IntKind.u64 ((t ^^^ now:Nat):Int) 1=(d:Int):=hor
 generalize t ^^^ now=tx at *
 go_enter Tryz.func168,Tryz.ntmps168
 go_upto_region 2 with (go_at_call 200;refine hlen.mono ?_;rintro e w9 ⟨rfl,hw9⟩;rw [hw9];clear hw9 w9)
 clear hx hor horl hlen hc
 go_upto_region 3 with fail
 go_quiet (fail)
 go_wp2
 go_ret2
 refine ⟨?_,below_drewN (Below.refl _ _) _⟩
 show Ending.returned (Value.tuple #[.int .i64 (K:Int),.int .i64 (wrap64 (((t:Int) / 2 ^ (K*6)).tmod 64))])=_
 rw [hv]
end
end Go.Proofs.YtegmoddppafkfaaGreatDoor
