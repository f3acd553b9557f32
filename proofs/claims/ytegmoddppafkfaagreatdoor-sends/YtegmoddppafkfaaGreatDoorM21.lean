import Derived.Test.YtegmoddppafkfaaGreatDoorM00
import Derived.Test.YtegmoddppafkfaaGreatDoorM18
import Derived.Test.YtegmoddppafkfaaGreatDoorM20
import Derived.Maps.Own
import Derived.Maps.OwnSet
import Derived.Maps.OwnOps
import Derived.Maps.Views
import Derived.Deep.AppendLies
import Derived.Shelf.SlicesE.Clone
import Derived.Shelf.SlGeneric
import Derived.Ground.SlgnProg
set_option maxRecDepth 100000
set_option maxHeartbeats 8000000
namespace Go.Proofs.YtegmoddppafkfaaGreatDoor
section
open Go.RowKit
namespace Pro
def ao (s:Ref.State):Int:=if s.word.toList == Ref.bW then 0 else if s.word.toList == Ref.aM then 1 else if s.word.toList == Ref.bV then 2 else if s.deep then 4 else 3
structure DS where
 s:Ref.State
 vp:Ref.Sl
 ve:Ref.Sl
 vl:Ref.Sl
 vm:Ref.Sl
def aK (x:DS):List Value:=[.int .i64 (ao x.s),.string x.s.name,.int .i64 x.s.depth,.int .i64 x.s.up,.slice x.vp.a x.vp.n x.vp.c,.slice x.ve.a x.ve.n x.ve.c,.slice x.vl.a x.vl.n x.vl.c,.slice x.vm.a x.vm.n x.vm.c]
structure PV where
 m:Ref.Move
 v:Ref.Sl
def bk (x:PV):List Value:=[.string x.m.event,.bool x.m.after,.int .u64 x.m.delay,.string x.m.to,.slice x.v.a x.v.n x.v.c]
def gw (p:Int×Int):List Value:=[.int .i64 p.1,.int .i64 p.2]
end Pro
structure Touch (e:TypeId) (w w':World):Prop where
 size:w.heap.size≤w'.heap.size
 block:∀ k,k<w.heap.size→(∀ c fz,w.heap[k]?≠some (.cells c e fz))→w'.heap[k]?=w.heap[k]?
theorem Touch.trans {e:TypeId} {a b c:World} (h:Touch e a b) (k:Touch e b c):Touch e a c :=
 ⟨Nat.le_trans h.size k.size,fun i hi hn=>by
  have h1:=h.block i hi hn
  rw [k.block i (Nat.lt_of_lt_of_le hi h.size) (by rw [h1];exact hn),h1]⟩
theorem bO {e:TypeId} {w w':World} (h:Below w.heap.size w w'):Touch e w w':=⟨h.size,fun k hk _=>h.block k hk⟩
theorem gP {e:TypeId} {w w':World} {g:Nat} {c:Array Value} {fz:Nat×Nat} (h:fQ g w w') (hg:w.heap[g]?=some (.cells c e fz)):Touch e w w' :=
 ⟨by rw [h.size];exact Nat.le_refl _,fun k _ hn=>h.block k (fun e0=>by subst e0;exact hn _ _ hg)⟩
theorem cW {base size n:Nat} {e:TypeId} {v:Value} {xs:List Value} {w:World} (h:w.ownsRow base e size v n xs) (g:Nat) (hg:v.ownBlock=some g):∃ c,w.heap[g]?=some (.cells c e (0,0)):=by
 rcases h.2 with ⟨hv,_⟩ | ⟨k,cap,cur,hv,_,hk,_⟩
 ·rw [hv] at hg;simp [Value.ownBlock] at hg
 ·rw [hv] at hg
  simp [Value.ownBlock] at hg
  subst hg;exact ⟨_,hk⟩
theorem dX {e:TypeId} {base size n:Nat} {v:Value} {xs:List Value} {w w':World} (h:w.ownsRow base e size v n xs) (hg:w.grownBy w' v.ownBlock):Touch e w w' :=
 ⟨hg.size,fun k hk hn=>hg.block k hk (fun e0=>by obtain ⟨c,hc⟩:=cW h k e0.symm;exact hn _ _ hc)⟩
theorem ag {e e':TypeId} {base size n:Nat} {v:Value} {xs:List Value} {w w':World} (h:w.ownsRow base e' size v n xs) (T:Touch e w w') (hne:e'≠e):w'.ownsRow base e' size v n xs:=by
 refine ⟨h.1,?_⟩
 rcases h.2 with h' | ⟨k,cap,cur,hv,hb,hk,r⟩
 ·exact .inl h'
 ·refine .inr ⟨k,cap,cur,hv,hb,?_,r⟩
  rw [T.block k (Array.getElem?_eq_some_iff.1 hk).1 (fun c fz h'=>by rw [hk] at h';simp at h';exact hne h'.2.1)]
  exact hk
theorem bn {H:Type} {e k:TypeId} {P:Program} {R:Value→Option (DataW H×List MemPlace)} {b n:Nat} {D:DataW H} {w w':World} (h:w.ownsMap P k R b n D) (T:Touch e w w'):w'.ownsMap P k R b n D:=by
 obtain ⟨es,clock,hb,r⟩:=h
 refine ⟨es,clock,?_,r⟩
 rw [T.block b (Array.getElem?_eq_some_iff.1 hb).1 (fun c fz h'=>by rw [hb] at h';cases h')]
 exact hb
theorem bA {e e':TypeId} {g:Nat} {c:Array Value} {fz:Nat×Nat} {w w':World} (h:w.heap[g]?=some (.cells c e' fz)) (T:Touch e w w') (hne:e'≠e):w'.heap[g]?=some (.cells c e' fz):=by
 rw [T.block g (Array.getElem?_eq_some_iff.1 h).1 (fun c fz h'=>by rw [h] at h';simp at h';exact hne h'.2.1)]
 exact h
structure tW (w0 w:World) (x:Pro.DS):Prop where
 moves:∃ M:List Pro.PV,M.map (·.m)=x.s.moves∧w.ownsRow w0.heap.size 295 5 x.vm.v M.length (M.flatMap Pro.bk)∧∀ y∈M,w0.ownsRow 0 324 1 y.v.v y.m.aj.length (y.m.aj.map bp)
 enter:w0.ownsRow 0 324 1 x.ve.v x.s.enter.length (x.s.enter.map bp)
 leave:w0.ownsRow 0 324 1 x.vl.v x.s.leave.length (x.s.leave.map bp)
def wQ (sv pv ov:Ref.Sl) (mb:Nat) (tm:Bool):Array Value:=#[.slice sv.a sv.n sv.c,.slice pv.a pv.n pv.c,.slice ov.a ov.n ov.c,.map (some mb),.bool tm]
def apart (a b:Ref.Sl):Prop:=a.v.ownBlock=none∨a.v.ownBlock≠b.v.ownBlock
abbrev iI (w:World) (mb nm:Nat) (D:DataW Nat):Prop:=w.ownsMap Tryz.prog 9 (plainElem Tryz.prog 3) mb nm D
structure al (w0 w:World) (db:Nat) (sv pv ov:Ref.Sl) (mb:Nat) (tm:Bool) (X:List Pro.DS) (SP:List (Int×Int)) (O:List Nat) (PT:Nat→List Nat) (nm:Nat) (D:DataW Nat):Prop where
 bel:Below w0.heap.size w0 w
 hdb:w0.heap.size≤db
 hmb:w0.heap.size≤mb
 draft:w.heap[db]?=some (.cells (wQ sv pv ov mb tm) 230 (0,0))
 states:w.ownsRow w0.heap.size 242 8 sv.v X.length (X.flatMap Pro.aK)
 ir:w.ownsRow w0.heap.size 286 2 pv.v SP.length (SP.flatMap Pro.gw)
 opens:w.ownsRow w0.heap.size 3 1 ov.v O.length (O.flatMap dK)
 parts:∀ i (h:i<X.length),w.ownsRow w0.heap.size 3 1 X[i].vp.v (PT i).length ((PT i).flatMap dK)
 apartO:∀ i (h:i<X.length),apart ov X[i].vp
 apartI:∀ i j (hi:i<X.length) (hj:j<X.length),i≠j→apart X[i].vp X[j].vp
 deep:∀ i (h:i<X.length),tW w0 w X[i]
 apartM:∀ i j (hi:i<X.length) (hj:j<X.length),i≠j→apart X[i].vm X[j].vm
 map:iI w mb nm D
variable {w0 w:World} {db mb nm:Nat} {sv pv ov:Ref.Sl} {tm:Bool} {X:List Pro.DS} {SP:List (Int×Int)} {O:List Nat} {PT:Nat→List Nat} {D:DataW Nat}
theorem tW.fe {w':World} {x:Pro.DS} {e:TypeId} (h:tW w0 w x) (T:Touch e w w') (hne:295≠e):tW w0 w' x :=
 ⟨let ⟨M,h1,h2,h3⟩:=h.moves;⟨M,h1,ag h2 T hne,h3⟩,h.enter,h.leave⟩
theorem al.ay {w':World} (G:al w0 w db sv pv ov mb tm X SP O PT nm D) (hb:Below w.heap.size w w'):al w0 w' db sv pv ov mb tm X SP O PT nm D :=
 have T:Touch 0 w w':=bO hb
 ⟨G.bel.trans (hb.mono G.bel.size),G.hdb,G.hmb,bA G.draft T (by decide),ag G.states T (by decide),ag G.ir T (by decide),ag G.opens T (by decide),fun i h=>ag (G.parts i h) T (by decide),G.apartO,G.apartI,fun i h=>(G.deep i h).fe T (by decide),G.apartM,bn G.map T⟩
theorem al.dlt (G:al w0 w db sv pv ov mb tm X SP O PT nm D):db<w.heap.size:=(Array.getElem?_eq_some_iff.1 G.draft).1
theorem al.ER (G:al w0 w db sv pv ov mb tm X SP O PT nm D):sv.n=X.length:=by
 rcases G.states.2 with ⟨h,h0⟩ | ⟨g,cap,cur,h,_⟩
 ·simp [Ref.Sl.v] at h;rw [h0];exact h.2.1
 ·simp [Ref.Sl.v] at h;exact h.2.1
theorem al.EO (G:al w0 w db sv pv ov mb tm X SP O PT nm D):ov.n=O.length:=by
 rcases G.opens.2 with ⟨h,h0⟩ | ⟨g,cap,cur,h,_⟩
 ·simp [Ref.Sl.v] at h;rw [h0];exact h.2.1
 ·simp [Ref.Sl.v] at h;exact h.2.1
theorem al.Gq (G:al w0 w db sv pv ov mb tm X SP O PT nm D):pv.n=SP.length:=by
 rcases G.ir.2 with ⟨h,h0⟩ | ⟨g,cap,cur,h,_⟩
 ·simp [Ref.Sl.v] at h;rw [h0];exact h.2.1
 ·simp [Ref.Sl.v] at h;exact h.2.1
theorem al.cells (G:al w0 w db sv pv ov mb tm X SP O PT nm D):w.cell? ⟨db,0,none⟩=some (.slice sv.a sv.n sv.c)∧w.cell? ⟨db,1,none⟩=some (.slice pv.a pv.n pv.c)∧w.cell? ⟨db,2,none⟩=some (.slice ov.a ov.n ov.c)∧w.cell? ⟨db,3,none⟩=some (.map (some mb))∧w.cell? ⟨db,4,none⟩=some (.bool tm):=by
 have h:=G.draft
 refine ⟨?_,?_,?_,?_,?_⟩ <;> rw [cell_of_row w _ _ _ _ _ h] <;> rfl
theorem al.frozen (G:al w0 w db sv pv ov mb tm X SP O PT nm D) (j:Nat):w.frozen? ⟨db,j,none⟩=false:=by simp [World.frozen?,G.draft]
theorem al.l7 {w5:World} {j:Nat} {u:Value} {cs:Array Value} (hd:w5.heap[db]?=some (.cells cs 230 (0,0))):(w5.setCell ⟨db,j,none⟩ u).heap[db]?=some (.cells (cs.setIfInBounds j u) 230 (0,0))∧Touch 230 w5 (w5.setCell ⟨db,j,none⟩ u) :=
 ⟨heap_setCell_same w5 db j _ _ u hd,gP (ae _ _ _ _) hd⟩
theorem al.ua {wc w5:World} {sv':Ref.Sl} {x:Pro.DS} (G:al w0 w db sv pv ov mb tm X SP O PT nm D) (hb:Below w.heap.size w wc) (hg:wc.grownBy w5 sv.v.ownBlock)
  (hown:w5.ownsRow w0.heap.size 242 8 sv'.v (X.length+1) (X.flatMap Pro.aK++Pro.aK x)) (hvp:x.vp=Ref.Sl.nil) (hve:x.ve=Ref.Sl.nil) (hvl:x.vl=Ref.Sl.nil) (hvm:x.vm=Ref.Sl.nil) (hE:x.s.enter=[]) (hL:x.s.leave=[]) (hM:x.s.moves=[]) (hPT:PT X.length=[]) :
  al w0 (w5.setCell ⟨db,0,none⟩ sv'.v) db sv' pv ov mb tm (X++[x]) SP O PT nm D:=by
 have Gc:=G.ay hb
 have T1:=dX Gc.states hg
 have d5:=bA Gc.draft T1 (by decide)
 obtain ⟨d6,T2⟩:=al.l7 (j:=0) (u:=sv'.v) d5
 have hlt:=fun k h=>(World.ownsRow.lt Gc.states k h).1
 have nilB:Ref.Sl.nil.v.ownBlock=none:=rfl
 refine ⟨?_,G.hdb,G.hmb,d6,?_,ag (ag Gc.ir T1 (by decide)) T2 (by decide),ag (ag Gc.opens T1 (by decide)) T2 (by decide),?_,?_,?_,?_,?_,bn (bn Gc.map T1) T2⟩
 ·exact (ae w5 db 0 sv'.v).below (Gc.bel.grown hg Gc.bel.size hlt) G.hdb
 ·rw [List.length_append,List.flatMap_append]
  exact ag (by simpa using hown) T2 (by decide)
 ·intro i hi
  by_cases h:i<X.length
  ·rw [List.getElem_append_left h]
   exact ag (ag (Gc.parts i h) T1 (by decide)) T2 (by decide)
  ·have e:i=X.length:=by simp at hi;omega
   subst e
   rw [List.getElem_append_right (Nat.le_refl _)]
   simp only [Nat.sub_self,List.getElem_cons_zero]
   rw [hvp,hPT]
   exact World.ownsRow_nil _ _ _ _
 ·intro i hi
  by_cases h:i<X.length
  ·rw [List.getElem_append_left h];exact G.apartO i h
  ·have e:i=X.length:=by simp at hi;omega
   subst e
   rw [List.getElem_append_right (Nat.le_refl _)]
   simp only [Nat.sub_self,List.getElem_cons_zero]
   rw [hvp]
   unfold apart
   rw [nilB]
   cases ov.v.ownBlock <;> simp
 ·intro i j hi hj hij
  by_cases h:i<X.length
  ·rw [List.getElem_append_left h]
   by_cases h':j<X.length
   ·rw [List.getElem_append_left h'];exact G.apartI i j h h' hij
   ·have e:j=X.length:=by simp at hj;omega
    subst e
    rw [List.getElem_append_right (Nat.le_refl _)]
    simp only [Nat.sub_self,List.getElem_cons_zero]
    rw [hvp]
    unfold apart
    rw [nilB]
    cases X[i].vp.v.ownBlock <;> simp
  ·have e:i=X.length:=by simp at hi;omega
   subst e
   rw [List.getElem_append_right (Nat.le_refl _)]
   simp only [Nat.sub_self,List.getElem_cons_zero]
   rw [hvp]
   exact .inl nilB
 ·intro i hi
  by_cases h:i<X.length
  ·rw [List.getElem_append_left h]
   exact ((Gc.deep i h).fe T1 (by decide)).fe T2 (by decide)
  ·have e:i=X.length:=by simp at hi;omega
   subst e
   rw [List.getElem_append_right (Nat.le_refl _)]
   simp only [Nat.sub_self,List.getElem_cons_zero]
   refine ⟨⟨[],by rw [hM];rfl,by rw [hvm];exact World.ownsRow_nil _ _ _ _,fun y hy=>absurd hy (by simp)⟩,?_,?_⟩
   ·rw [hve,hE];exact World.ownsRow_nil _ _ _ _
   ·rw [hvl,hL];exact World.ownsRow_nil _ _ _ _
 ·intro i j hi hj hij
  by_cases h:i<X.length
  ·rw [List.getElem_append_left h]
   by_cases h':j<X.length
   ·rw [List.getElem_append_left h'];exact G.apartM i j h h' hij
   ·have e:j=X.length:=by simp at hj;omega
    subst e
    rw [List.getElem_append_right (Nat.le_refl _)]
    simp only [Nat.sub_self,List.getElem_cons_zero]
    rw [hvm]
    unfold apart
    rw [nilB]
    cases X[i].vm.v.ownBlock <;> simp
  ·have e:i=X.length:=by simp at hi;omega
   subst e
   rw [List.getElem_append_right (Nat.le_refl _)]
   simp only [Nat.sub_self,List.getElem_cons_zero]
   rw [hvm]
   exact .inl nilB
theorem al.yr {wc w5:World} {pv':Ref.Sl} {q:Int×Int} (G:al w0 w db sv pv ov mb tm X SP O PT nm D) (hb:Below w.heap.size w wc) (hg:wc.grownBy w5 pv.v.ownBlock)
  (hown:w5.ownsRow w0.heap.size 286 2 pv'.v (SP.length+1) (SP.flatMap Pro.gw++Pro.gw q)) :
  al w0 (w5.setCell ⟨db,1,none⟩ pv'.v) db sv pv' ov mb tm X (SP++[q]) O PT nm D:=by
 have Gc:=G.ay hb
 have T1:=dX Gc.ir hg
 have d5:=bA Gc.draft T1 (by decide)
 obtain ⟨d6,T2⟩:=al.l7 (j:=1) (u:=pv'.v) d5
 have hlt:=fun k h=>(World.ownsRow.lt Gc.ir k h).1
 refine ⟨(ae w5 db 1 pv'.v).below (Gc.bel.grown hg Gc.bel.size hlt) G.hdb,G.hdb,G.hmb,d6,ag (ag Gc.states T1 (by decide)) T2 (by decide),?_,ag (ag Gc.opens T1 (by decide)) T2 (by decide),fun i h=>ag (ag (Gc.parts i h) T1 (by decide)) T2 (by decide),G.apartO,G.apartI,fun i h=>((Gc.deep i h).fe T1 (by decide)).fe T2 (by decide),G.apartM,bn (bn Gc.map T1) T2⟩
 rw [List.length_append,List.flatMap_append]
 exact ag (by simpa using hown) T2 (by decide)
theorem al.n7 {wc w5:World} {ov':Ref.Sl} {O':List Nat} (G:al w0 w db sv pv ov mb tm X SP O PT nm D) (hb:Below w.heap.size w wc) (hg:wc.grownBy w5 ov.v.ownBlock)
  (hown:w5.ownsRow w0.heap.size 3 1 ov'.v O'.length (O'.flatMap dK)) (hat:ov'.v.ownBlock=ov.v.ownBlock∨ov'.v.ownBlock=some wc.heap.size) :
  al w0 (w5.setCell ⟨db,2,none⟩ ov'.v) db sv pv ov' mb tm X SP O' PT nm D:=by
 have Gc:=G.ay hb
 have T1:=dX Gc.opens hg
 have d5:=bA Gc.draft T1 (by decide)
 obtain ⟨d6,T2⟩:=al.l7 (j:=2) (u:=ov'.v) d5
 have hlt:=fun k h=>(World.ownsRow.lt Gc.opens k h).1
 refine ⟨(ae w5 db 2 ov'.v).below (Gc.bel.grown hg Gc.bel.size hlt) G.hdb,G.hdb,G.hmb,d6,ag (ag Gc.states T1 (by decide)) T2 (by decide),ag (ag Gc.ir T1 (by decide)) T2 (by decide),ag hown T2 (by decide),fun i h => ?_,fun i h => ?_,G.apartI,fun i h=>((Gc.deep i h).fe T1 (by decide)).fe T2 (by decide),G.apartM,bn (bn Gc.map T1) T2⟩
 ·have hap:=G.apartO i h
  refine ag ((Gc.parts i h).kept hg ?_) T2 (by decide)
  rcases hap with h1 | h1
  ·rw [h1];cases X[i].vp.v.ownBlock <;> simp
  ·exact .inr (fun e=>h1 e.symm)
 ·have hap:=G.apartO i h
  unfold apart at hap ⊢
  rcases hat with e | e
  ·rw [e];exact hap
  ·rw [e]
   refine .inr (fun e2 => ?_)
   have:=(World.ownsRow.lt (Gc.parts i h) _ e2.symm).2
   omega
theorem rG {w5 W:World} {u j:Nat} {v:Value} {x':Pro.DS} {g cap:Nat} (hs:w5.ownsRow w0.heap.size 242 8 (.slice (some ⟨g,0,none⟩) X.length cap) X.length (X.flatMap Pro.aK)) (hu:u<X.length) (hj:j<8)
  (hx:Pro.aK x'=(Pro.aK X[u]).set j v) (hW:W=w5.setCell ⟨g,u*8+j,none⟩ v) :
  W.ownsRow w0.heap.size 242 8 (.slice (some ⟨g,0,none⟩) X.length cap) (X.set u x').length ((X.set u x').flatMap Pro.aK)∧Touch 242 w5 W∧fQ g w5 W∧w0.heap.size≤g:=by
 rcases hs.2 with ⟨h,_⟩ | ⟨g',cap',cur,h,hb,hg,h1,h2,h3,h4⟩
 ·cases h
 ·simp only [Value.slice.injEq,Option.some.injEq,Addr.mk.injEq,and_true,true_and] at h
  obtain ⟨rfl,rfl⟩:=h
  subst hW
  have oo:=ae w5 g (u*8+j) v
  refine ⟨⟨?_,.inr ⟨g,cap,cur.setIfInBounds (u*8+j) v,by rw [List.length_set],hb,heap_setCell_same w5 g _ _ _ v hg,by rw [List.length_set];exact h1,h2,by simpa using h3,?_⟩⟩,gP oo hg,oo,hb⟩
  ·exact Ref.iN (f:=Pro.aK) (n:=8) (fun _=>rfl) _
  ·rw [Array.toList_setIfInBounds,List.length_set,List.take_set,h4]
   exact oJ (f:=Pro.aK) (n:=8) (fun _=>rfl) X u j v x' hj hu hx
theorem al.Cz (G:al w0 w db sv pv ov mb tm X SP O PT nm D) (h:0<X.length):∃ g cap,sv=⟨some ⟨g,0,none⟩,X.length,cap⟩:=by
 obtain ⟨g,cap,e⟩:=Ref.gI G.states h
 refine ⟨g,cap,?_⟩
 cases sv
 simp [Ref.Sl.v] at e
 simp [e.1,e.2.1,e.2.2]
theorem al.addPart {wc w5:World} {u g cap:Nat} {vp':Ref.Sl} {n:Nat} (G:al w0 w db ⟨some ⟨g,0,none⟩,X.length,cap⟩ pv ov mb tm X SP O PT nm D) (hb:Below w.heap.size w wc) (hu:u<X.length) (hg:wc.grownBy w5 X[u].vp.v.ownBlock)
  (hown:w5.ownsRow w0.heap.size 3 1 vp'.v (PT u++[n]).length ((PT u++[n]).flatMap dK)) (hat:vp'.v.ownBlock=X[u].vp.v.ownBlock∨vp'.v.ownBlock=some wc.heap.size) :
  al w0 (w5.setCell ⟨g,u*8+4,none⟩ vp'.v) db ⟨some ⟨g,0,none⟩,X.length,cap⟩ pv ov mb tm (X.set u { X[u] with vp:=vp' }) SP O (fun i=>if i=u then PT u++[n] else PT i) nm D:=by
 have Gc:=G.ay hb
 have T1:=dX (Gc.parts u hu) hg
 have d5:=bA Gc.draft T1 (by decide)
 have hlt:=fun k h=>(World.ownsRow.lt (Gc.parts u hu) k h).1
 obtain ⟨hs,T2,oo,hgw⟩:=rG (x':={ X[u] with vp:=vp' }) (j:=4) (v:=vp'.v) (ag Gc.states T1 (by decide)) hu (by decide) rfl rfl
 have hfresh:∀ (a:Ref.Sl),(∀ k,a.v.ownBlock=some k→k<wc.heap.size)→apart a X[u].vp→apart a vp':=by
  intro a ha hap
  unfold apart at hap ⊢
  rcases hat with e | e
  ·rw [e];exact hap
  ·rw [e]
   refine .inr (fun e2 => ?_)
   have:=ha _ e2;omega
 have hsym:∀ a b:Ref.Sl,apart a b→apart b a:=by
  intro a b h
  unfold apart at h ⊢
  rcases h with h | h
  ·rw [h];cases b.v.ownBlock <;> simp
  ·exact .inr (fun e=>h e.symm)
 refine ⟨oo.below (Gc.bel.grown hg Gc.bel.size hlt) hgw,G.hdb,G.hmb,bA d5 T2 (by decide),hs,ag (ag Gc.ir T1 (by decide)) T2 (by decide),ag (Gc.opens.kept hg (by
   have:=G.apartO u hu;exact this)) T2 (by decide),?_,?_,?_,?_,?_,bn (bn Gc.map T1) T2⟩
 ·intro i hi
  rw [List.length_set] at hi
  rw [List.getElem_set]
  by_cases e:u=i
  ·subst e
   simp only [if_true]
   exact ag hown T2 (by decide)
  ·rw [if_neg e,if_neg (fun h=>e h.symm)]
   exact ag ((Gc.parts i hi).kept hg (G.apartI i u hi hu (fun h=>e h.symm))) T2 (by decide)
 ·intro i hi
  rw [List.length_set] at hi
  rw [List.getElem_set]
  by_cases e:u=i
  ·subst e
   simp only [if_true]
   exact hfresh ov (fun k h=>(World.ownsRow.lt Gc.opens k h).2) (G.apartO u hu)
  ·rw [if_neg e];exact G.apartO i hi
 ·intro i j hi hj hij
  rw [List.length_set] at hi hj
  rw [List.getElem_set,List.getElem_set]
  by_cases e:u=i
  ·subst e
   simp only [if_true]
   rw [if_neg hij]
   exact hsym _ _ (hfresh X[j].vp (fun k h=>(World.ownsRow.lt (Gc.parts j hj) k h).2) (G.apartI j u hj hu (fun h=>hij h.symm)))
  ·rw [if_neg e]
   by_cases e2:u=j
   ·subst e2
    simp only [if_true]
    exact hfresh X[i].vp (fun k h=>(World.ownsRow.lt (Gc.parts i hi) k h).2) (G.apartI i u hi hu hij)
   ·rw [if_neg e2];exact G.apartI i j hi hj hij
 ·intro i hi
  rw [List.length_set] at hi
  rw [List.getElem_set]
  by_cases e:u=i
  ·subst e
   simp only [if_true]
   have:=((Gc.deep u hu).fe T1 (by decide)).fe T2 (by decide)
   exact ⟨this.moves,this.enter,this.leave⟩
  ·rw [if_neg e];exact ((Gc.deep i hi).fe T1 (by decide)).fe T2 (by decide)
 ·intro i j hi hj hij
  rw [List.length_set] at hi hj
  rw [List.getElem_set,List.getElem_set]
  have e1:(if u=i then { X[u] with vp:=vp' } else X[i]).vm=X[i].vm:=by
   split
   ·rename_i e;subst e;rfl
   ·rfl
  have e2:(if u=j then { X[u] with vp:=vp' } else X[j]).vm=X[j].vm:=by
   split
   ·rename_i e;subst e;rfl
   ·rfl
  rw [e1,e2];exact G.apartM i j hi hj hij
variable {w0 w:World} {db mb nm:Nat} {sv pv ov:Ref.Sl} {tm:Bool} {X:List Pro.DS} {SP:List (Int×Int)} {O:List Nat} {PT:Nat→List Nat} {D:DataW Nat}
namespace Pro
def cd (x:DS) (y:PV) (v:Ref.Sl):DS:={ x with s:={ x.s with moves:=x.s.moves++[y.m] },vm:=v }
end Pro
theorem wE {a b:Ref.Sl} (h:apart a b):apart b a:=by
 unfold apart at h ⊢
 rcases h with h | h
 ·rw [h];cases b.v.ownBlock <;> simp
 ·exact .inr (fun e=>h e.symm)
theorem tJ {u i:Nat} (hu:u<X.length) (hi:i<X.length) {x':Pro.DS} (h:x'.vp=X[u].vp):((X.set u x')[i]'(by rw [List.length_set];exact hi)).vp=X[i].vp:=by
 rw [List.getElem_set]
 split
 ·rename_i e;subst e;exact h
 ·rfl
theorem al.addMove {wc w5:World} {u g cap:Nat} {vm':Ref.Sl} {y:Pro.PV} {M:List Pro.PV} (G:al w0 w db ⟨some ⟨g,0,none⟩,X.length,cap⟩ pv ov mb tm X SP O PT nm D) (hb:Below w.heap.size w wc) (hu:u<X.length)
  (hM1:M.map (·.m)=X[u].s.moves) (hM2:w.ownsRow w0.heap.size 295 5 X[u].vm.v M.length (M.flatMap Pro.bk)) (hM3:∀ y∈M,w0.ownsRow 0 324 1 y.v.v y.m.aj.length (y.m.aj.map bp))
  (hg:wc.grownBy w5 X[u].vm.v.ownBlock) (hown:w5.ownsRow w0.heap.size 295 5 vm'.v (M.length+1) (M.flatMap Pro.bk++Pro.bk y)) (hat:vm'.v.ownBlock=X[u].vm.v.ownBlock∨vm'.v.ownBlock=some wc.heap.size)
  (hy:w0.ownsRow 0 324 1 y.v.v y.m.aj.length (y.m.aj.map bp)) :
  al w0 (w5.setCell ⟨g,u*8+7,none⟩ vm'.v) db ⟨some ⟨g,0,none⟩,X.length,cap⟩ pv ov mb tm (X.set u (Pro.cd X[u] y vm')) SP O PT nm D:=by
 have Gc:=G.ay hb
 have hM2c:wc.ownsRow w0.heap.size 295 5 X[u].vm.v M.length (M.flatMap Pro.bk):=ag hM2 (bO (e:=0) hb) (by decide)
 have T1:=dX hM2c hg
 have d5:=bA Gc.draft T1 (by decide)
 have hlt:=fun k h=>(World.ownsRow.lt hM2c k h).1
 obtain ⟨hs,T2,oo,hgw⟩:=rG (x':=Pro.cd X[u] y vm') (j:=7) (v:=vm'.v) (ag Gc.states T1 (by decide)) hu (by decide) rfl rfl
 have hfresh:∀ (a:Ref.Sl),(∀ k,a.v.ownBlock=some k→k<wc.heap.size)→apart a X[u].vm→apart a vm':=by
  intro a ha hap
  unfold apart at hap ⊢
  rcases hat with e | e
  ·rw [e];exact hap
  ·rw [e]
   refine .inr (fun e2 => ?_)
   have:=ha _ e2;omega
 have hltM:∀ i (h:i<X.length) k,X[i].vm.v.ownBlock=some k→k<wc.heap.size:=fun i h k hk=>by
  obtain ⟨M',_,h2,_⟩:=(Gc.deep i h).moves
  exact (World.ownsRow.lt h2 k hk).2
 refine ⟨oo.below (Gc.bel.grown hg Gc.bel.size hlt) hgw,G.hdb,G.hmb,bA d5 T2 (by decide),hs,ag (ag Gc.ir T1 (by decide)) T2 (by decide),ag (ag Gc.opens T1 (by decide)) T2 (by decide),?_,?_,?_,?_,?_,bn (bn Gc.map T1) T2⟩
 ·intro i hi
  rw [List.length_set] at hi
  rw [tJ hu hi (show (Pro.cd X[u] y vm').vp=X[u].vp from rfl)]
  exact ag (ag (Gc.parts i hi) T1 (by decide)) T2 (by decide)
 ·intro i hi
  rw [List.length_set] at hi
  rw [tJ hu hi (show (Pro.cd X[u] y vm').vp=X[u].vp from rfl)]
  exact G.apartO i hi
 ·intro i j hi hj hij
  rw [List.length_set] at hi hj
  rw [tJ hu hi (show (Pro.cd X[u] y vm').vp=X[u].vp from rfl),tJ hu hj (show (Pro.cd X[u] y vm').vp=X[u].vp from rfl)]
  exact G.apartI i j hi hj hij
 ·intro i hi
  rw [List.length_set] at hi
  rw [List.getElem_set]
  by_cases e:u=i
  ·subst e
   simp only [if_true]
   refine ⟨⟨M++[y],?_,?_,?_⟩,(Gc.deep u hu).enter,(Gc.deep u hu).leave⟩
   ·rw [List.map_append,hM1];rfl
   ·rw [List.length_append,List.flatMap_append]
    have h:=ag hown T2 (by decide)
    simpa [Pro.cd] using h
   ·intro z hz
    rcases List.mem_append.1 hz with h | h
    ·exact hM3 z h
    ·rw [List.mem_singleton.1 h];exact hy
  ·rw [if_neg e]
   obtain ⟨M',h1,h2,h3⟩:=(Gc.deep i hi).moves
   exact ⟨⟨M',h1,ag (h2.kept hg (G.apartM i u hi hu (fun h=>e h.symm))) T2 (by decide),h3⟩,(Gc.deep i hi).enter,(Gc.deep i hi).leave⟩
 ·intro i j hi hj hij
  rw [List.length_set] at hi hj
  rw [List.getElem_set,List.getElem_set]
  by_cases e:u=i
  ·subst e
   simp only [if_true]
   rw [if_neg hij]
   exact wE (hfresh X[j].vm (hltM j hj) (G.apartM j u hj hu (fun h=>hij h.symm)))
  ·rw [if_neg e]
   by_cases e2:u=j
   ·subst e2
    simp only [if_true]
    exact hfresh X[i].vm (hltM i hi) (G.apartM i u hi hu hij)
   ·rw [if_neg e2];exact G.apartM i j hi hj hij
theorem al.vO {wc:World} (b:Bool) (G:al w0 w db sv pv ov mb tm X SP O PT nm D) (hb:Below w.heap.size w wc):al w0 (wc.setCell ⟨db,4,none⟩ (.bool b)) db sv pv ov mb b X SP O PT nm D:=by
 have Gc:=G.ay hb
 obtain ⟨d6,T2⟩:=al.l7 (j:=4) (u := .bool b) Gc.draft
 exact ⟨(ae wc db 4 (.bool b)).below Gc.bel G.hdb,G.hdb,G.hmb,d6,ag Gc.states T2 (by decide),ag Gc.ir T2 (by decide),ag Gc.opens T2 (by decide),fun i h=>ag (Gc.parts i h) T2 (by decide),G.apartO,G.apartI,fun i h=>(Gc.deep i h).fe T2 (by decide),G.apartM,bn Gc.map T2⟩
theorem AJ {w w':World} {es:Array MapEntry} {clock:Nat} {b:Nat} (h:w.heap[b]?=some (.map es clock)) (hg:w.grownBy w' (some b)):∀ (k:Nat) (c:Array Value) (e:TypeId) (fz:Nat×Nat),w.heap[k]?=some (.cells c e fz)→w'.heap[k]?=some (.cells c e fz):=by
 intro k c e fz hk
 rw [hg.block k (Array.getElem?_eq_some_iff.1 hk).1 (fun e0=>by cases e0;rw [h] at hk;cases hk)]
 exact hk
theorem lR {base size n:Nat} {e:TypeId} {v:Value} {xs:List Value} {w w':World} (h:w.ownsRow base e size v n xs) (hk:∀ (k:Nat) (c:Array Value) (e:TypeId) (fz:Nat×Nat),w.heap[k]?=some (.cells c e fz)→w'.heap[k]?=some (.cells c e fz)):w'.ownsRow base e size v n xs:=by
 refine ⟨h.1,?_⟩
 rcases h.2 with h' | ⟨k,cap,cur,hv,hb,hg,r⟩
 ·exact .inl h'
 ·exact .inr ⟨k,cap,cur,hv,hb,hk _ _ _ _ hg,r⟩
theorem al.Dm {wc w':World} {nm':Nat} {D':DataW Nat} (G:al w0 w db sv pv ov mb tm X SP O PT nm D) (hb:Below w.heap.size w wc) (hg:wc.grownBy w' (some mb)) (hm:iI w' mb nm' D'):al w0 w' db sv pv ov mb tm X SP O PT nm' D':=by
 have Gc:=G.ay hb
 obtain ⟨es,clock,hmb,_⟩:=Gc.map
 have hk:=AJ hmb hg
 exact ⟨Gc.bel.grown hg Gc.bel.size (fun k h=>by cases h;exact G.hmb),G.hdb,G.hmb,hk _ _ _ _ Gc.draft,lR Gc.states hk,lR Gc.ir hk,lR Gc.opens hk,fun i h=>lR (Gc.parts i h) hk,G.apartO,G.apartI,fun i h=>⟨let ⟨M,h1,h2,h3⟩:=(Gc.deep i h).moves;⟨M,h1,lR h2 hk,h3⟩,(Gc.deep i h).enter,(Gc.deep i h).leave⟩,G.apartM,hm⟩
namespace Ref
def b1:ByteArray:=⟨#[32]⟩
def bDo:ByteArray:=⟨#[32,100,111,32]⟩
def bAs:ByteArray:=⟨#[32,97,115,32]⟩
def Hc (t:ByteArray) (a:Act):ByteArray :=
 if a.how.toList == eG then t++bDo++a.how++b1++a.id
 else if a.how.toList == eh then t++bDo++a.how++b1++a.event
 else if a.id.toList == [] then t++bDo++a.how++b1++a.event++b1++dec a.delay.toNat
 else t++bDo++a.how++b1++a.event++b1++dec a.delay.toNat++bAs++a.id
def yk (A:List Act):Nat→ByteArray
 | 0=>ByteArray.empty
 | i+1=>match A[i]? with
  | some a=>Hc (yk A i) a
  | none=>yk A i
def written (A:List Act):ByteArray:=yk A A.length
end Ref
namespace Ref
def ko:ByteArray:=⟨#[115,101,110,100]⟩
def fZ:ByteArray:=⟨#[99,97,110,99,101,108]⟩
def Fc:ByteArray:=⟨#[32,101,110,116,101,114]⟩
def Fe:ByteArray:=⟨#[32,108,101,97,118,101]⟩
def bOn:ByteArray:=⟨#[32,111,110,32]⟩
def bTo:ByteArray:=⟨#[32,116,111,32]⟩
def EH:ByteArray:=⟨#[32,100,101,101,112]⟩
def bNl:ByteArray:=⟨#[10]⟩
def pad:Nat→ByteArray
 | 0=>ByteArray.empty
 | n+1=>pad n++b1
def Gi (m:Move):Act:=⟨ko,m.event,m.event,m.delay⟩
def FG (m:Move):Act:=⟨fZ,ByteArray.empty,m.event,0⟩
def gS (x:State):Nat→List Act
 | 0=>x.enter
 | j+1=>match x.moves[j]? with
  | some m=>if m.after then gS x j++[Gi m] else gS x j
  | none=>gS x j
def ef (x:State):Nat→List Act
 | 0=>x.leave
 | j+1=>match x.moves[j]? with
  | some m=>if m.after then ef x j++[FG m] else ef x j
  | none=>ef x j
def EK (t:ByteArray) (x:State):ByteArray:=t++pad x.depth.toNat++x.word++b1++x.name
def Gg (t:ByteArray) (x:State):ByteArray:=if x.deep then EK t x++EH else EK t x
def ends (t p h a:ByteArray):ByteArray:=if a.toList.isEmpty then t else t++p++h++a++bNl
def mv0 (p t:ByteArray) (m:Move):ByteArray:=t++p++bOn++m.event
def mv1 (p t:ByteArray) (m:Move):ByteArray:=if m.to.toList.isEmpty then mv0 p t m else mv0 p t m++bTo++m.to
def Fy (p t:ByteArray) (m:Move):ByteArray:=mv1 p t m++written m.aj++bNl
def FA (p t:ByteArray) (ms:List Move):Nat→ByteArray
 | 0=>t
 | j+1=>match ms[j]? with
  | some m=>Fy p (FA p t ms j) m
  | none=>FA p t ms j
def st1 (t:ByteArray) (x:State):ByteArray:=Gg t x++bNl
def st2 (t:ByteArray) (x:State):ByteArray:=ends (st1 t x) (pad x.depth.toNat) Fc (written (gS x x.moves.length))
def st3 (t:ByteArray) (x:State):ByteArray:=ends (st2 t x) (pad x.depth.toNat) Fe (written (ef x x.moves.length))
def CM (t:ByteArray) (x:State):ByteArray:=FA (pad x.depth.toNat) (st3 t x) x.moves x.moves.length
end Ref
end
section
open Go.RowKit Go.Proofs
theorem tz {α:Type} {f:α→List Value} {n:Nat} (hf:∀ x,(f x).length=n) {w:World} {B g cap u j:Nat} {e:TypeId} {v:Value} {X:List α} {x':α} (hs:w.ownsRow B e n (.slice (some ⟨g,0,none⟩) X.length cap) X.length (X.flatMap f)) (hu:u<X.length) (hj:j<n) (hx:f x'=(f X[u]).set j v) :
  (w.setCell ⟨g,u*n+j,none⟩ v).ownsRow B e n (.slice (some ⟨g,0,none⟩) X.length cap) X.length ((X.set u x').flatMap f)∧Touch e w (w.setCell ⟨g,u*n+j,none⟩ v):=by
 rcases hs.2 with ⟨h,_⟩ | ⟨g',cap',cur,h,hb,hg,h1,h2,h3,h4⟩
 ·cases h
 ·simp only [Value.slice.injEq,Option.some.injEq,Addr.mk.injEq,and_true,true_and] at h
  obtain ⟨rfl,rfl⟩:=h
  have oo:=ae w g (u*n+j) v
  refine ⟨⟨?_,.inr ⟨g,cap,cur.setIfInBounds (u*n+j) v,rfl,hb,heap_setCell_same w g _ _ _ v hg,h1,h2,by simpa using h3,?_⟩⟩,gP oo hg⟩
  ·have:=Ref.iN (f:=f) (n:=n) hf (X.set u x')
   rw [List.length_set] at this
   exact this
  ·rw [Array.toList_setIfInBounds,List.take_set,h4]
   exact oJ (f:=f) (n:=n) hf X u j v x' hj hu hx
theorem k8 {g o:Nat} {w w5:World} {v:Value} (h:ai g w w5):ai g w (w5.setCell ⟨g,o,none⟩ v):=h.trans (ae _ _ _ _).ah
structure eX (w wr:World) (B g cap:Nat) (X:List Pro.DS) (u:Nat) (x:Pro.DS) (ve vl vm:Ref.Sl) (E L:List Ref.Act) (Q:List Pro.PV):Prop where
 ah:ai g w wr
 states:wr.ownsRow B 242 8 (.slice (some ⟨g,0,none⟩) X.length cap) X.length ((X.set u { x with ve:=ve,vl:=vl,vm:=vm }).flatMap Pro.aK)
 enter:wr.ownsRow w.heap.size 324 1 ve.v E.length (E.map bp)
 leave:wr.ownsRow w.heap.size 324 1 vl.v L.length (L.map bp)
 moves:wr.ownsRow w.heap.size 295 5 vm.v Q.length (Q.flatMap Pro.bk)
 ap:apart ve vl
section
variable {w wr:World} {B g cap:Nat} {X:List Pro.DS} {u:Nat} {x:Pro.DS} {ve vl vm:Ref.Sl} {E L:List Ref.Act} {Q:List Pro.PV}
theorem eX.ay {wr':World} (G:eX w wr B g cap X u x ve vl vm E L Q) (hb:Below wr.heap.size wr wr'):eX w wr' B g cap X u x ve vl vm E L Q :=
 ⟨G.ah.trans (aH hb),aR G.states hb,aR G.enter hb,aR G.leave hb,aR G.moves hb,G.ap⟩
theorem eX.cell (G:eX w wr B g cap X u x ve vl vm E L Q) (hu:u<X.length) (j:Nat) (hj:j<8):wr.cell? ⟨g,u*8+j,none⟩=(Pro.aK { x with ve:=ve,vl:=vl,vm:=vm })[j]?:=by
 have hlt:u*8+j<X.length*8:=by omega
 have hu':u<(X.set u { x with ve:=ve,vl:=vl,vm:=vm }).length:=by rw [List.length_set];exact hu
 rw [G.states.cellAt (u*8+j) hlt,Ref.lx (f:=Pro.aK) (n:=8) (fun _=>rfl) _ u j hj hu',List.getElem_set_self]
theorem eX.frozen (G:eX w wr B g cap X u x ve vl vm E L Q) (j:Nat):wr.frozen? ⟨g,j,none⟩=false:=World.ownsRow.frozenAt (aI G.states (Nat.zero_le _)) _
theorem eX.glt (G:eX w wr B g cap X u x ve vl vm E L Q):B≤g∧g<wr.heap.size:=World.ownsRow.lt G.states g rfl
theorem eX.begin {w3:World} (hs:w.ownsRow B 242 8 (.slice (some ⟨g,0,none⟩) X.length cap) X.length (X.flatMap Pro.aK)) (hu:u<X.length) (hx:X[u]=x) (hb:Below w.heap.size w w3)
  (he:w3.ownsRow w.heap.size 324 1 ve.v E.length (E.map bp)) (hl:w3.ownsRow w.heap.size 324 1 vl.v L.length (L.map bp)) (hm:w3.ownsRow w.heap.size 295 5 vm.v Q.length (Q.flatMap Pro.bk)) (hap:apart ve vl) :
  eX w (((w3.setCell ⟨g,u*8+5,none⟩ ve.v).setCell ⟨g,u*8+6,none⟩ vl.v).setCell ⟨g,u*8+7,none⟩ vm.v) B g cap X u x ve vl vm E L Q:=by
 have hs3:=aR hs hb
 obtain ⟨r1,T1⟩:=tz (f:=Pro.aK) (n:=8) (fun _=>rfl) (X:=X) (u:=u) (j:=5) (v:=ve.v) (x':={ x with ve:=ve }) hs3 hu (by decide) (by rw [hx];rfl)
 have hu1:u<(X.set u { x with ve:=ve }).length:=by rw [List.length_set];exact hu
 obtain ⟨r2,T2⟩:=tz (f:=Pro.aK) (n:=8) (fun _=>rfl) (X:=X.set u { x with ve:=ve }) (u:=u) (j:=6) (v:=vl.v) (x':={ x with ve:=ve,vl:=vl }) (by rw [List.length_set];exact r1) hu1 (by decide) (by rw [List.getElem_set_self];rfl)
 rw [List.set_set,List.length_set] at r2
 have hu2:u<(X.set u { x with ve:=ve,vl:=vl }).length:=by rw [List.length_set];exact hu
 obtain ⟨r3,T3⟩:=tz (f:=Pro.aK) (n:=8) (fun _=>rfl) (X:=X.set u { x with ve:=ve,vl:=vl }) (u:=u) (j:=7) (v:=vm.v) (x':={ x with ve:=ve,vl:=vl,vm:=vm }) (by rw [List.length_set];exact r2) hu2 (by decide) (by rw [List.getElem_set_self];rfl)
 rw [List.set_set,List.length_set] at r3
 have T:=(T1.trans T2).trans T3
 exact ⟨k8 (k8 (k8 (aH hb))),r3,ag he T (by decide),ag hl T (by decide),ag hm T (by decide),hap⟩
end
namespace Pro
def ic (m:Ref.Move):Ref.Move:=if m.after then { m with after:=false,delay:=0 } else m
def mQ (x:Ref.State):Ref.State:={ x with enter:=Ref.gS x x.moves.length,leave:=Ref.ef x x.moves.length,moves:=x.moves.map ic }
end Pro
def Pro.gF (y:Pro.PV):Pro.PV:={ y with m:=Pro.ic y.m }
def Pro.cT (M:List Pro.PV) (j:Nat):List Pro.PV:=(M.take j).map Pro.gF++M.drop j
theorem Pro.jP (M:List Pro.PV) (j:Nat) (hj:j≤M.length):(Pro.cT M j).length=M.length:=by
 unfold Pro.cT
 simp only [List.length_append,List.length_map,List.length_take,List.length_drop];omega
theorem Pro.kN (M:List Pro.PV) (j i:Nat) (hj:j≤M.length):(Pro.cT M j)[i]?=if i<j then (M[i]?).map Pro.gF else M[i]?:=by
 have hl:((M.take j).map Pro.gF).length=j:=by rw [List.length_map,List.length_take];omega
 unfold Pro.cT
 by_cases c:i<j
 ·rw [if_pos c,List.getElem?_append_left (by rw [hl];exact c),List.getElem?_map,List.getElem?_take_of_lt c]
 ·rw [if_neg c,List.getElem?_append_right (by rw [hl];omega),hl,List.getElem?_drop]
  congr 1;omega
theorem Pro.nA (M:List Pro.PV) (j:Nat) (hj:j<M.length) (h:j<(Pro.cT M j).length):(Pro.cT M j)[j]=M[j]:=by
 have:=Pro.kN M j j (by omega)
 rw [if_neg (by omega),List.getElem?_eq_getElem h,List.getElem?_eq_getElem hj] at this
 exact Option.some.inj this
theorem Pro.sW (M:List Pro.PV) (j:Nat) (hj:j<M.length):Pro.cT M (j+1)=(Pro.cT M j).set j (Pro.gF M[j]):=by
 have hl:=Pro.jP M j (by omega)
 apply List.ext_getElem?
 intro i
 rw [Pro.kN M (j+1) i (by omega),List.getElem?_set,Pro.kN M j i (by omega)]
 by_cases e:j=i
 ·subst e
  rw [if_pos (by omega),if_pos rfl,if_pos (by rw [hl];exact hj),List.getElem?_eq_getElem hj];rfl
 ·rw [if_neg e]
  by_cases c:i<j
  ·rw [if_pos (by omega),if_pos c]
  ·rw [if_neg (by omega),if_neg c]
theorem Pro.sX (M:List Pro.PV) (j:Nat) (hj:j<M.length) (ha:M[j].m.after=false):Pro.cT M (j+1)=Pro.cT M j:=by
 rw [Pro.sW M j hj]
 have e:Pro.gF M[j]=M[j]:=by
  unfold Pro.gF Pro.ic
  rw [ha];rfl
 rw [e,← Pro.nA M j hj (by rw [Pro.jP M j (by omega)];exact hj)]
 exact List.set_getElem_self _
theorem Pro.vw (M:List Pro.PV):Pro.cT M M.length=M.map Pro.gF:=by
 unfold Pro.cT
 simp
end
section
open Go.RowKit Go.Proofs Go.Shelf
def Tryz.xj:Go.Shelf.Ren:=⟨fun | 41=>164 | n=>n,fun | 22=>239 | 23=>324 | 4=>4 | n=>n,fun | n=>n⟩
theorem Tryz.BQ:Go.Proofs.SlLaysE0.n41 Tryz.prog Tryz.xj where
 mixed:=by kernel_rfl
 f41:=⟨Tryz.f164.name,by decide,Tryz.func164.trans (congrArg some (by kernel_rfl))⟩
 t4:=Tryz.underlying4
 a4:=Tryz.isAgg4
 z4:=Tryz.sizeOf4
 v4:=Tryz.zeroValue4
 t22:=Tryz.underlying239
 a22:=Tryz.isAgg239
 z22:=Tryz.sizeOf239
 v22:=Tryz.zeroValue239
def Tryz.xk:Go.Shelf.Ren:=⟨fun | 41=>165 | n=>n,fun | 22=>240 | 23=>295 | 4=>4 | n=>n,fun | n=>n⟩
theorem Tryz.BR:Go.Proofs.SlLaysE0.n41 Tryz.prog Tryz.xk where
 mixed:=by kernel_rfl
 f41:=⟨Tryz.f165.name,by decide,Tryz.func165.trans (congrArg some (by kernel_rfl))⟩
 t4:=Tryz.underlying4
 a4:=Tryz.isAgg4
 z4:=Tryz.sizeOf4
 v4:=Tryz.zeroValue4
 t22:=Tryz.underlying240
 a22:=Tryz.isAgg240
 z22:=Tryz.sizeOf240
 v22:=Tryz.zeroValue240
def Tryz.xm:Go.Shelf.Ren:=⟨fun | 41=>119 | n=>n,fun | 22=>226 | 23=>242 | 4=>4 | n=>n,fun | n=>n⟩
theorem Tryz.BS:Go.Proofs.SlLaysE0.n41 Tryz.prog Tryz.xm where
 mixed:=by kernel_rfl
 f41:=⟨Tryz.f119.name,by decide,Tryz.func119.trans (congrArg some (by kernel_rfl))⟩
 t4:=Tryz.underlying4
 a4:=Tryz.isAgg4
 z4:=Tryz.sizeOf4
 v4:=Tryz.zeroValue4
 t22:=Tryz.underlying226
 a22:=Tryz.isAgg226
 z22:=Tryz.sizeOf226
 v22:=Tryz.zeroValue226
theorem Tryz.zO:(Tryz.prog.info? 295).map (fun i=>(i.zero,i.size,i.bytes))=some (some (.agg #[.string ByteArray.empty,.bool false,.int .u64 0,.string ByteArray.empty,.slice none 0 0]),5,72):=by kernel_rfl
theorem Tryz.xf:(Tryz.prog.info? 242).map (fun i=>(i.zero,i.size,i.bytes))=some (some (.agg #[.int .i64 0,.string ByteArray.empty,.int .i64 0,.int .i64 0,.slice none 0 0,.slice none 0 0,.slice none 0 0,.slice none 0 0]),8,136):=by kernel_rfl
theorem sZ {w:World} {B:Nat} {e:TypeId} {n g cap m:Nat} {xs:List Value} (h:w.ownsRow B e n (.slice (some ⟨g,0,none⟩) m cap) m xs):∀ j u,xs[j]?=some u→w.cell? ⟨g,0+j,none⟩=some u:=by
 intro j u hj
 have hlt:j<m*n:=by rw [← h.1];exact (List.getElem?_eq_some_iff.1 hj).1
 rw [Nat.zero_add,h.cellAt j hlt];exact hj
theorem A8 (a:Ref.Act):(bp a).oneCell'=true:=by
 unfold bp vM
 repeat' split
 all_goals rfl
def wo (e:TypeId) (size n:Nat) (xs:List Value) (w:World) (en:Ending) (w':World):Prop:=∃ s:Ref.Sl,en = .returned (.slice s.a s.n s.c)∧w'.ownsRow w.heap.size e size s.v n xs∧Below w.heap.size w w'
theorem CJ {w:World} {B size n:Nat} {e:TypeId} {v:Value} {xs:List Value} (h:w.ownsRow B e size v n xs):∃ s:Ref.Sl,v=s.v:=by
 obtain ⟨a,k,c,rfl⟩:=Ref.Ai h
 exact ⟨⟨a,k,c⟩,rfl⟩
theorem oD (a:Option Addr) (n c:Nat) (A:List Ref.Act) (w:World) (h:w.ownsRow 0 324 1 (.slice a n c) A.length (A.map bp)) (hl:A.length≤1000000) :
  Calls Tryz.prog 164 #[.slice a n c] w (wo 324 1 A.length (A.map bp) w):=by
 rcases h.2 with ⟨h0,hn⟩ | ⟨g,cap,cur,h0,_⟩
 ·cases h0
  refine (AnyE.slices_Clone_nil Tryz.BQ 0 0 w).mono ?_
  rintro e w' ⟨rfl,rfl⟩
  have e0:A=[]:=List.eq_nil_of_length_eq_zero hn
  subst e0
  exact ⟨Ref.Sl.nil,rfl,World.ownsRow_nil _ _ _ _,Below.refl _ _⟩
 ·obtain ⟨i0,hi,hz0,hz1,hz2⟩:=info_parts Tryz.oQ
  rw [h0] at h ⊢
  refine (AnyE.slices_Clone Tryz.BQ i0 .nilIface 1 16 hi hz0 hz1 hz2 rfl (by decide) (fun w=>by kernel_rfl) g 0 A.length cap (A.map bp) w h.1 (by unfold maxLen;omega) (by omega) (sZ h) ?_).mono ?_
  ·intro u hu
   obtain ⟨x,_,rfl⟩:=List.mem_map.1 hu
   exact A8 x
  ·rintro e w' ⟨v',rfl,ho,_,hb⟩
   obtain ⟨s,rfl⟩:=CJ ho
   exact ⟨s,rfl,ho,hb⟩
theorem wK (a:Option Addr) (n c:Nat) (M:List Pro.PV) (w:World) (h:w.ownsRow 0 295 5 (.slice a n c) M.length (M.flatMap Pro.bk)) (hl:M.length≤1000000) :
  Calls Tryz.prog 165 #[.slice a n c] w (wo 295 5 M.length (M.flatMap Pro.bk) w):=by
 rcases h.2 with ⟨h0,hn⟩ | ⟨g,cap,cur,h0,_⟩
 ·cases h0
  refine (AnyE.slices_Clone_nil Tryz.BR 0 0 w).mono ?_
  rintro e w' ⟨rfl,rfl⟩
  have e0:M=[]:=List.eq_nil_of_length_eq_zero hn
  subst e0
  exact ⟨Ref.Sl.nil,rfl,World.ownsRow_nil _ _ _ _,Below.refl _ _⟩
 ·obtain ⟨i0,hi,hz0,hz1,hz2⟩:=info_parts Tryz.zO
  rw [h0] at h ⊢
  refine (AnyE.slices_Clone Tryz.BR i0 _ 5 72 hi hz0 hz1 hz2 rfl (by decide) (fun w=>by kernel_rfl) g 0 M.length cap (M.flatMap Pro.bk) w h.1 (by unfold maxLen;omega) (by omega) (sZ h) ?_).mono ?_
  ·intro u hu
   obtain ⟨x,_,hx⟩:=List.mem_flatMap.1 hu
   simp only [Pro.bk,List.mem_cons,List.not_mem_nil,or_false] at hx
   rcases hx with rfl | rfl | rfl | rfl | rfl <;> rfl
  ·rintro e w' ⟨v',rfl,ho,_,hb⟩
   obtain ⟨s,rfl⟩:=CJ ho
   exact ⟨s,rfl,ho,hb⟩
theorem wL (a:Option Addr) (n c:Nat) (X:List Pro.DS) (w:World) (h:w.ownsRow 0 242 8 (.slice a n c) X.length (X.flatMap Pro.aK)) (hl:X.length≤1000000) :
  Calls Tryz.prog 119 #[.slice a n c] w (wo 242 8 X.length (X.flatMap Pro.aK) w):=by
 rcases h.2 with ⟨h0,hn⟩ | ⟨g,cap,cur,h0,_⟩
 ·cases h0
  refine (AnyE.slices_Clone_nil Tryz.BS 0 0 w).mono ?_
  rintro e w' ⟨rfl,rfl⟩
  have e0:X=[]:=List.eq_nil_of_length_eq_zero hn
  subst e0
  exact ⟨Ref.Sl.nil,rfl,World.ownsRow_nil _ _ _ _,Below.refl _ _⟩
 ·obtain ⟨i0,hi,hz0,hz1,hz2⟩:=info_parts Tryz.xf
  rw [h0] at h ⊢
  refine (AnyE.slices_Clone Tryz.BS i0 _ 8 136 hi hz0 hz1 hz2 rfl (by decide) (fun w=>by kernel_rfl) g 0 X.length cap (X.flatMap Pro.aK) w h.1 (by unfold maxLen;omega) (by omega) (sZ h) ?_).mono ?_
  ·intro u hu
   obtain ⟨x,_,hx⟩:=List.mem_flatMap.1 hu
   simp only [Pro.aK,List.mem_cons,List.not_mem_nil,or_false] at hx
   rcases hx with rfl | rfl | rfl | rfl | rfl | rfl | rfl | rfl <;> rfl
  ·rintro e w' ⟨v',rfl,ho,_,hb⟩
   obtain ⟨s,rfl⟩:=CJ ho
   exact ⟨s,rfl,ho,hb⟩
end
end Go.Proofs.YtegmoddppafkfaaGreatDoor
