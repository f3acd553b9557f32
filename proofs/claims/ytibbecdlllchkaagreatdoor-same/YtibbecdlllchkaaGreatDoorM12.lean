import Derived.Test.YtibbecdlllchkaaGreatDoorM11
set_option maxRecDepth 100000
set_option maxHeartbeats 8000000
namespace Go.Proofs.YtibbecdlllchkaaGreatDoor
variable {zp:Prop}
theorem zdv(h:zp:=by
 rintro e w1 ⟨hb,b,h4,h5,rfl⟩;dsimp only;refine⟨rfl,?_⟩;exact⟨(RM ((Pq w w).alloc (Po _) _) _).trans (hb.mono zad),b,zaR,h5,rfl⟩):zp:=h
theorem zdx(h:zp:=by
 intro a ha XW;unfold apart at XW⊢
 rcases VJ with e|e
 ·rw[e];exact XW
 ·rw[e];refine .inr (fun e2=>?_);have:=ha _ e2;omega):zp:=h
theorem zdH(h:zp:=by
 unfold apart at h⊢
 rcases h with h|h
 ·rw[h];cases b.v.ownBlock<;>simp
 ·exact .inr (fun e=>h e.symm)):zp:=h
theorem zeL(h:zp:=by
 go_enter func106,ntmps106;go_wp2;go_ret;exact⟨rfl,rfl⟩):zp:=h
theorem zeR(h:zp:=by
 rcases VJ with h|h
 ·exact .inl h.symm
 ·exact .inr zay):zp:=h
theorem zfi(h:zp:=by
 simp[U.Sl.v]at h;rw[h0];exact h.2.1):zp:=h
theorem zfu(h:zp:=by
 simp[U.Sl.v]at h;exact h.2.1):zp:=h
theorem zfz(h:zp:=by
 rw[hc]at Ve;simp at Ve):zp:=h
theorem zay(h:zp:=by rw[h];simp[U.Sl.v,Value.ownBlock]):zp:=h
theorem zaW(h:zp:=by rw[Pt w4 _ _ _ _ _ hbx4];rfl):zp:=h
open Tryz
variable {e e':TypeId}{b g base size n j u cap i:Nat}{c:Array Value}{w' w5 wc:World}{fz:Nat×Nat}{v:Value}{xs:List Value}
section
open Go.RowKit
namespace J
def aj(s:U.State):Int:=if s.word.toList == U.cM then 0 else if s.word.toList == U.aK then 1 else if s.word.toList == U.bK then 2 else if s.deep then 4 else 3
structure DS where
 s:U.State
 vp:U.Sl
 ve:U.Sl
 vl:U.Sl
 vm:U.Sl
def aM(x:DS):List Value:=[.int .i64 (aj x.s),x.s.name,(x.s.depth:Int),(x.s.up:Int),.slice x.vp.a x.vp.n x.vp.c,.slice x.ve.a x.ve.n x.ve.c,.slice x.vl.a x.vl.n x.vl.c,.slice x.vm.a x.vm.n x.vm.c]
structure PV where
 m:U.Move
 v:U.Sl
def aQ(x:PV):List Value:=[x.m.event,x.m.after,.int .u64 x.m.delay,x.m.to,.slice x.v.a x.v.n x.v.c]
def jt(p:Int×Int):List Value:=[(p.1:Int),(p.2:Int)]
end J
structure Touch(e:TypeId)(w w':World):Prop where
 size:w.heap.size<=w'.heap.size
 block:∀k,k<w.heap.size->(∀c fz,w.heap[k]?≠some (.cells c e fz))->w'.heap[k]?=w.heap[k]?
theorem Touch.trans{a b c:World}(h:Touch e a b)(k:Touch e b c):Touch e a c:=
 ⟨Pr h.size k.size,fun i hi hn=>by
  have h1:=h.block i hi hn;rw[k.block i (PY hi h.size) (by rw[h1];exact hn),h1]⟩
theorem cG{w:World}(h:Below w w w'):Touch e w w':=⟨h.size,fun k hk _=>h.block k hk⟩
theorem jM{w:World}(h:iT g w w')(hg:w.heap[g]?=some (.cells c e fz)):Touch e w w':=
 ⟨zbk,fun k _ hn=>h.block k (fun e0=>by subst e0;exact hn _ _ hg)⟩
theorem b8{w:World}(h:w.ownsRow base e size v n xs)(g:Nat)(hg:v.ownBlock=some g):∃c,w.heap[g]?=some (.cells c e (0,0)):=by
 rcases h.2 with⟨hv,_⟩|⟨k,cap,cur,hv,_,hk,_⟩
 ·rw[hv]at hg;simp[Value.ownBlock]at hg
 ·rw[hv]at hg;simp[Value.ownBlock]at hg;subst hg;exact⟨_,hk⟩
theorem dN{w:World}(h:w.ownsRow base e size v n xs)(hg:w.grownBy w' v.ownBlock):Touch e w w':=
 ⟨hg.size,fun k hk hn=>hg.block k hk (fun e0=>by obtain⟨c,hc⟩:=b8 h k e0.symm;exact hn _ _ hc)⟩
theorem ah{w:World}(h:w.ownsRow base e' size v n xs)(T:Touch e w w')(U9:e'≠e):w'.ownsRow base e' size v n xs:=by
 refine⟨h.1,?_⟩
 rcases h.2 with h'|⟨k,cap,cur,hv,hb,hk,r⟩
 ·exact .inl h'
 ·refine .inr ⟨k,cap,cur,hv,hb,?_,r⟩;rw[T.block k (Pn.1 hk).1 (fun c fz h'=>by rw[hk]at h';simp at h';exact U9 h'.2.1)];exact hk
theorem bP{H:Type}{k:TypeId}{P:Program}{R:Value->Option (DataW H×List MemPlace)}{D:DataW H}{w:World}(h:w.ownsMap P k R b n D)(T:Touch e w w'):w'.ownsMap P k R b n D:=by
 obtain⟨es,clock,hb,r⟩:=h;refine⟨es,clock,?_,r⟩;rw[T.block b (Pn.1 hb).1 (fun c fz h'=>by rw[hb]at h';cases h')];exact hb
theorem bZ{w:World}(h:w.heap[g]?=some (.cells c e' fz))(T:Touch e w w')(U9:e'≠e):w'.heap[g]?=some (.cells c e' fz):=by
 rw[T.block g (Pn.1 h).1 (fun c fz h'=>by rw[h]at h';simp at h';exact U9 h'.2.1)];exact h
structure zK(w0 w:World)(x:J.DS):Prop where
 aa:∃M:List J.PV,M.map (·.m)=x.s.aa/\w.ownsRow w0 207 5 x.vm.v M.length (M.flatMap J.aQ)/\∀y∈M,w0.ownsRow 0 275 1 y.v.v y.m.ai.length (y.m.ai.map bo)
 enter:w0.ownsRow 0 275 1 x.ve.v x.s.enter.length (x.s.enter.map bo)
 leave:w0.ownsRow 0 275 1 x.vl.v x.s.leave.length (x.s.leave.map bo)
def CO(sv pv ov:U.Sl)(mb:Nat)(tm:Bool):Array Value:=#[.slice sv.a sv.n sv.c,.slice pv.a pv.n pv.c,.slice ov.a ov.n ov.c,.map (some mb),tm]
def apart(a b:U.Sl):Prop:=a.v.ownBlock=none\/a.v.ownBlock≠b.v.ownBlock
abbrev kB(w:World)(mb nm:Nat)(D:DataW Nat):Prop:=w.ownsMap prog 9 (plainElem prog 3) mb nm D
structure ax(w0 w:World)(db:Nat)(sv pv ov:U.Sl)(mb:Nat)(tm:Bool)(X:List J.DS)(SP:List (Int×Int))(O:List Nat)(PT:Nat->List Nat)(nm:Nat)(D:DataW Nat):Prop where
 bel:Below w0 w0 w
 hdb:w0.heap.size<=db
 hmb:w0.heap.size<=mb
 draft:w.heap[db]?=some (.cells (CO sv pv ov mb tm) 121 (0,0))
 states:w.ownsRow w0 134 8 sv.v X.length (X.flatMap J.aM)
 jK:w.ownsRow w0 198 2 pv.v SP.length (SP.flatMap J.jt)
 opens:w.ownsRow w0 3 1 ov.v O.length (O.flatMap eT)
 parts:∀i (h:i<X.length),w.ownsRow w0 3 1 X[i].vp.v (PT i).length ((PT i).flatMap eT)
 apartO:∀i (h:i<X.length),apart ov X[i].vp
 apartI:∀i j (hi:i<X.length) (hj:j<X.length),i≠j->apart X[i].vp X[j].vp
 deep:∀i (h:i<X.length),zK w0 w X[i]
 apartM:∀i j (hi:i<X.length) (hj:j<X.length),i≠j->apart X[i].vm X[j].vm
 map:kB w mb nm D
variable {w0 w:World}{db mb nm:Nat}{sv pv ov:U.Sl}{tm:Bool}{X:List J.DS}{SP:List (Int×Int)}{O:List Nat}{PT:Nat->List Nat}{D:DataW Nat}
theorem zK.fG{x:J.DS}(h:zK w0 w x)(T:Touch e w w')(U9:207≠e):zK w0 w' x:=
 ⟨let⟨M,h1,h2,h3⟩:=h.aa;⟨M,h1,ah h2 T U9,h3⟩,h.enter,h.leave⟩
theorem ax.aq(G:ax w0 w db sv pv ov mb tm X SP O PT nm D)(hb:Below w w w'):ax w0 w' db sv pv ov mb tm X SP O PT nm D:=
 have T:Touch 0 w w':=cG hb
 ⟨G.bel.trans (hb.mono G.bel.size),G.hdb,G.hmb,bZ G.draft T zac,ah G.states T zac,ah G.jK T zac,ah G.opens T zac,fun i h=>ah (G.parts i h) T zac,G.apartO,G.apartI,fun i h=>(G.deep i h).fG T zac,G.apartM,bP G.map T⟩
theorem ax.dlt(G:ax w0 w db sv pv ov mb tm X SP O PT nm D):db<w.heap.size:=(Pn.1 G.draft).1
theorem ax.M8(G:ax w0 w db sv pv ov mb tm X SP O PT nm D):sv.n=X.length:=by
 rcases G.states.2 with⟨h,h0⟩|⟨g,cap,cur,h,_⟩
 ·exact zfi
 ·exact zfu
theorem ax.M6(G:ax w0 w db sv pv ov mb tm X SP O PT nm D):ov.n=O.length:=by
 rcases G.opens.2 with⟨h,h0⟩|⟨g,cap,cur,h,_⟩
 ·exact zfi
 ·exact zfu
theorem ax.OT(G:ax w0 w db sv pv ov mb tm X SP O PT nm D):pv.n=SP.length:=by
 rcases G.jK.2 with⟨h,h0⟩|⟨g,cap,cur,h,_⟩
 ·exact zfi
 ·exact zfu
theorem ax.cells(G:ax w0 w db sv pv ov mb tm X SP O PT nm D):w.cell? db=some (.slice sv.a sv.n sv.c)/\w.cell? (db,1)=some (.slice pv.a pv.n pv.c)/\w.cell? (db,2)=some (.slice ov.a ov.n ov.c)/\w.cell? (db,3)=some (.map (some mb))/\w.cell? (db,4)=some (.bool tm):=by
 have h:=G.draft;refine⟨?_,?_,?_,?_,?_⟩<;>rw[Pt w _ _ _ _ _ h]<;>rfl
theorem ax.frozen(G:ax w0 w db sv pv ov mb tm X SP O PT nm D)(j:Nat):w.frozen? (db,j)=false:=by simp[World.frozen?,G.draft]
theorem ax.p7{u:Value}{cs:Array Value}(hd:w5.heap[db]?=some (.cells cs 121 (0,0))):(w5.setCell (db,j) u).heap[db]?=some (.cells (cs.setIfInBounds j u) 121 (0,0))/\Touch 121 w5 (w5.setCell (db,j) u):=
 ⟨PR w5 db j _ _ u hd,jM (ag _ _ _ _) hd⟩
theorem ax.zT{sv':U.Sl}{x:J.DS}(G:ax w0 w db sv pv ov mb tm X SP O PT nm D)(hb:Below w w wc)(hg:wc.grownBy w5 sv.v.ownBlock)
  (U2:w5.ownsRow w0 134 8 sv'.v (X.length+1) (X.flatMap J.aM++J.aM x)) (hvp:x.vp=U.Sl.nil) (hve:x.ve=U.Sl.nil) (YL:x.vl=U.Sl.nil) (hvm:x.vm=U.Sl.nil) (hE:x.s.enter=[]) (hL:x.s.leave=[]) (hM:x.s.aa=[]) (hPT:PT X.length=[]):
  ax w0 (w5.setCell db sv'.v) db sv' pv ov mb tm (X++[x]) SP O PT nm D:=by
 have Gc:=G.aq hb;have T1:=dN Gc.states hg;have d5:=bZ Gc.draft T1 zac;obtain⟨d6,T2⟩:=ax.p7 (j:=0) (u:=sv'.v) d5;have Vd:=fun k h=>(Qf Gc.states k h).1;have nilB:U.Sl.nil.v.ownBlock=none:=rfl;refine⟨?_,G.hdb,G.hmb,d6,?_,ah (ah Gc.jK T1 zac) T2 zac,ah (ah Gc.opens T1 zac) T2 zac,?_,?_,?_,?_,?_,bP (bP Gc.map T1) T2⟩
 ·exact(ag w5 db 0 sv'.v).below (Gc.bel.grown hg Gc.bel.size Vd) G.hdb
 ·rw[PI,Qc];exact ah zbr T2 zac
 ·intro i hi;by_cases h:i<X.length
  ·rw[Q1 h];exact ah (ah (Gc.parts i h) T1 zac) T2 zac
  ·have e:i=X.length:=zaQ;subst e;rw[QZ (Po _)];simp only[Nat.sub_self,List.getElem_cons_zero];rw[hvp,hPT];exact QC _ _ _ _
 ·intro i hi;by_cases h:i<X.length
  ·rw[Q1 h];exact G.apartO i h
  ·have e:i=X.length:=zaQ;subst e;rw[QZ (Po _)];simp only[Nat.sub_self,List.getElem_cons_zero];rw[hvp];unfold apart;rw[nilB];cases ov.v.ownBlock<;>simp
 ·intro i j hi hj XH;by_cases h:i<X.length
  ·rw[Q1 h];by_cases h':j<X.length
   ·rw[Q1 h'];exact G.apartI i j h h' XH
   ·have e:j=X.length:=by simp at hj;omega
    subst e;rw[QZ (Po _)];simp only[Nat.sub_self,List.getElem_cons_zero];rw[hvp];unfold apart;rw[nilB];cases X[i].vp.v.ownBlock<;>simp
  ·have e:i=X.length:=zaQ;subst e;rw[QZ (Po _)];simp only[Nat.sub_self,List.getElem_cons_zero];rw[hvp];exact .inl nilB
 ·intro i hi;by_cases h:i<X.length
  ·rw[Q1 h];exact((Gc.deep i h).fG T1 zac).fG T2 zac
  ·have e:i=X.length:=zaQ;subst e;rw[QZ (Po _)];simp only[Nat.sub_self,List.getElem_cons_zero];refine⟨⟨[],by rw[hM];rfl,by rw[hvm];exact QC _ _ _ _,fun y hy=>absurd hy zad⟩,?_,?_⟩
   ·rw[hve,hE];exact QC _ _ _ _
   ·rw[YL,hL];exact QC _ _ _ _
 ·intro i j hi hj XH;by_cases h:i<X.length
  ·rw[Q1 h];by_cases h':j<X.length
   ·rw[Q1 h'];exact G.apartM i j h h' XH
   ·have e:j=X.length:=by simp at hj;omega
    subst e;rw[QZ (Po _)];simp only[Nat.sub_self,List.getElem_cons_zero];rw[hvm];unfold apart;rw[nilB];cases X[i].vm.v.ownBlock<;>simp
  ·have e:i=X.length:=zaQ;subst e;rw[QZ (Po _)];simp only[Nat.sub_self,List.getElem_cons_zero];rw[hvm];exact .inl nilB
theorem ax.Ev{pv':U.Sl}{q:Int×Int}(G:ax w0 w db sv pv ov mb tm X SP O PT nm D)(hb:Below w w wc)(hg:wc.grownBy w5 pv.v.ownBlock)
  (U2:w5.ownsRow w0 198 2 pv'.v (SP.length+1) (SP.flatMap J.jt++J.jt q)):
  ax w0 (w5.setCell (db,1) pv'.v) db sv pv' ov mb tm X (SP++[q]) O PT nm D:=by
 have Gc:=G.aq hb;have T1:=dN Gc.jK hg;have d5:=bZ Gc.draft T1 zac;obtain⟨d6,T2⟩:=ax.p7 (j:=1) (u:=pv'.v) d5;have Vd:=fun k h=>(Qf Gc.jK k h).1;refine⟨(ag w5 db 1 pv'.v).below (Gc.bel.grown hg Gc.bel.size Vd) G.hdb,G.hdb,G.hmb,d6,ah (ah Gc.states T1 zac) T2 zac,?_,ah (ah Gc.opens T1 zac) T2 zac,fun i h=>ah (ah (Gc.parts i h) T1 zac) T2 zac,G.apartO,G.apartI,fun i h=>((Gc.deep i h).fG T1 zac).fG T2 zac,G.apartM,bP (bP Gc.map T1) T2⟩;rw[PI,Qc];exact ah zbr T2 zac
theorem ax.rX{ov':U.Sl}{O':List Nat}(G:ax w0 w db sv pv ov mb tm X SP O PT nm D)(hb:Below w w wc)(hg:wc.grownBy w5 ov.v.ownBlock)
  (U2:w5.ownsRow w0 3 1 ov'.v O'.length (O'.flatMap eT)) (VJ:ov'.v.ownBlock=ov.v.ownBlock\/ov'.v.ownBlock=some wc.heap.size):
  ax w0 (w5.setCell (db,2) ov'.v) db sv pv ov' mb tm X SP O' PT nm D:=by
 have Gc:=G.aq hb;have T1:=dN Gc.opens hg;have d5:=bZ Gc.draft T1 zac;obtain⟨d6,T2⟩:=ax.p7 (j:=2) (u:=ov'.v) d5;have Vd:=fun k h=>(Qf Gc.opens k h).1;refine⟨(ag w5 db 2 ov'.v).below (Gc.bel.grown hg Gc.bel.size Vd) G.hdb,G.hdb,G.hmb,d6,ah (ah Gc.states T1 zac) T2 zac,ah (ah Gc.jK T1 zac) T2 zac,ah U2 T2 zac,fun i h=>?_,fun i h=>?_,G.apartI,fun i h=>((Gc.deep i h).fG T1 zac).fG T2 zac,G.apartM,bP (bP Gc.map T1) T2⟩
 ·have XW:=G.apartO i h;refine ah ((Gc.parts i h).kept hg ?_) T2 zac
  rcases XW with h1|h1
  ·rw[h1];cases X[i].vp.v.ownBlock<;>simp
  ·exact .inr (fun e=>h1 e.symm)
 ·have XW:=G.apartO i h;unfold apart at XW⊢
  rcases VJ with e|e
  ·rw[e];exact XW
  ·rw[e];refine .inr (fun e2=>?_);have:=(Qf (Gc.parts i h) _ e2.symm).2;omega
theorem qN{W:World}{x':J.DS}(hs:w5.ownsRow w0 134 8 (.slice g X.length cap) X.length (X.flatMap J.aM))(hu:u<X.length)(hj:j<8)
  (hx:J.aM x'=(J.aM X[u]).set j v) (hW:W=w5.setCell (g,u*8+j) v):
  W.ownsRow w0 134 8 (.slice g X.length cap) (X.set u x').length ((X.set u x').flatMap J.aM)/\Touch 134 w5 W/\iT g w5 W/\w0.heap.size<=g:=by
 rcases hs.2 with⟨h,_⟩|⟨g',cap',cur,h,hb,hg,h1,h2,h3,h4⟩
 ·cases h
 ·simp only[Value.slice.injEq,Option.some.injEq,Addr.mk.injEq,and_true,true_and]at h;obtain⟨rfl,rfl⟩:=h;subst hW;have oo:=ag w5 g (u*8+j) v;refine⟨⟨?_,.inr ⟨g,cap,cur.setIfInBounds (u*8+j) v,by rw[PO],hb,PR w5 g _ _ _ v hg,by rw[PO];exact h1,h2,za4,?_⟩⟩,jM oo hg,oo,hb⟩
  ·exact U.kK (f:=J.aM) (n:=8) (fun _=>rfl) _
  ·rw[Sy,PO,List.take_set,h4];exact tf (f:=J.aM) (n:=8) (fun _=>rfl) X u j v x' hj hu hx
theorem ax.DV(G:ax w0 w db sv pv ov mb tm X SP O PT nm D)(h:0<X.length):∃g cap,sv=⟨some ⟨g,0,none⟩,X.length,cap⟩:=by
 obtain⟨g,cap,e⟩:=U.dy G.states h;refine⟨g,cap,?_⟩;cases sv
 simp[U.Sl.v]at e;simp[e.1,e.2.1,e.2.2]
theorem ax.addPart{vp':U.Sl}(G:ax w0 w db ⟨some ⟨g,0,none⟩,X.length,cap⟩ pv ov mb tm X SP O PT nm D)(hb:Below w w wc)(hu:u<X.length)(hg:wc.grownBy w5 X[u].vp.v.ownBlock)
  (U2:w5.ownsRow w0 3 1 vp'.v (PT u++[n]).length ((PT u++[n]).flatMap eT)) (VJ:vp'.v.ownBlock=X[u].vp.v.ownBlock\/vp'.v.ownBlock=some wc.heap.size):
  ax w0 (w5.setCell (g,u*8+4) vp'.v) db ⟨some ⟨g,0,none⟩,X.length,cap⟩ pv ov mb tm (X.set u { X[u] with vp:=vp' }) SP O (fun i=>if i=u then PT u++[n] else PT i) nm D:=by
 have Gc:=G.aq hb;have T1:=dN (Gc.parts u hu) hg;have d5:=bZ Gc.draft T1 zac;have Vd:=fun k h=>(Qf (Gc.parts u hu) k h).1;obtain⟨hs,T2,oo,hgw⟩:=qN (x':={ X[u] with vp:=vp' }) (j:=4) (v:=vp'.v) (ah Gc.states T1 zac) hu zac rfl rfl;have Xg:∀(a:U.Sl),(∀k,a.v.ownBlock=some k->k<wc.heap.size)->apart a X[u].vp->apart a vp':=by
  exact zdx
 have hsym:∀a b:U.Sl,apart a b->apart b a:=by
  intro a b h;exact zdH
 refine⟨oo.below (Gc.bel.grown hg Gc.bel.size Vd) hgw,G.hdb,G.hmb,bZ d5 T2 zac,hs,ah (ah Gc.jK T1 zac) T2 zac,ah (Gc.opens.kept hg (by
   have:=G.apartO u hu;exact this)) T2 zac,?_,?_,?_,?_,?_,bP (bP Gc.map T1) T2⟩
 ·intro i hi;rw[PO]at hi;rw[QO];by_cases e:u=i
  ·subst e;simp only[if_true];exact ah U2 T2 zac
  ·rw[Pu e,Pu (fun h=>e h.symm)];exact ah ((Gc.parts i hi).kept hg (G.apartI i u hi hu (fun h=>e h.symm))) T2 zac
 ·intro i hi;rw[PO]at hi;rw[QO];by_cases e:u=i
  ·subst e;simp only[if_true];exact Xg ov (fun k h=>(Qf Gc.opens k h).2) (G.apartO u hu)
  ·rw[Pu e];exact G.apartO i hi
 ·intro i j hi hj XH;rw[PO]at hi hj;rw[QO,QO];by_cases e:u=i
  ·subst e;simp only[if_true];rw[Pu XH];exact hsym _ _ (Xg X[j].vp (fun k h=>(Qf (Gc.parts j hj) k h).2) (G.apartI j u hj hu (fun h=>XH h.symm)))
  ·rw[Pu e];by_cases e2:u=j
   ·subst e2;simp only[if_true];exact Xg X[i].vp (fun k h=>(Qf (Gc.parts i hi) k h).2) (G.apartI i u hi hu XH)
   ·rw[Pu e2];exact G.apartI i j hi hj XH
 ·intro i hi;rw[PO]at hi;rw[QO];by_cases e:u=i
  ·subst e;simp only[if_true];have:=((Gc.deep u hu).fG T1 zac).fG T2 zac;exact⟨this.aa,this.enter,this.leave⟩
  ·rw[Pu e];exact((Gc.deep i hi).fG T1 zac).fG T2 zac
 ·intro i j hi hj XH;rw[PO]at hi hj;rw[QO,QO];have e1:(if u=i then{ X[u] with vp:=vp' } else X[i]).vm=X[i].vm:=by
   split
   ·rename_i e;subst e;rfl
   ·rfl
  have e2:(if u=j then{ X[u] with vp:=vp' } else X[j]).vm=X[j].vm:=by
   split
   ·rename_i e;subst e;rfl
   ·rfl
  rw[e1,e2];exact G.apartM i j hi hj XH
variable {w0 w:World}{db mb nm:Nat}{sv pv ov:U.Sl}{tm:Bool}{X:List J.DS}{SP:List (Int×Int)}{O:List Nat}{PT:Nat->List Nat}{D:DataW Nat}
namespace J
def dx(x:DS)(y:PV)(v:U.Sl):DS:={ x with s:={ x.s with aa:=x.s.aa++[y.m] },vm:=v }
def i6(x:DS)(i:Int)(A:List U.Act)(v:U.Sl):DS:={ x with s:={ x.s with has0:=i,enter:=A },ve:=v }
def ja(x:DS)(i:Int)(A:List U.Act)(v:U.Sl):DS:={ x with s:={ x.s with has1:=i,leave:=A },vl:=v }
end J
theorem Cw{a b:U.Sl}(h:apart a b):apart b a:=by
 exact zdH
theorem ng(hu:u<X.length)(hi:i<X.length){x':J.DS}(h:x'.vp=X[u].vp):((X.set u x')[i]'(by rw[PO];exact hi)).vp=X[i].vp:=by
 rw[QO];split
 ·rename_i e;subst e;exact h
 ·rfl
theorem Kq(hu:u<X.length)(hi:i<X.length){x':J.DS}(h:x'.vm=X[u].vm):((X.set u x')[i]'(by rw[PO];exact hi)).vm=X[i].vm:=by
 rw[QO];split
 ·rename_i e;subst e;exact h
 ·rfl
theorem ax.addMove{vm':U.Sl}{y:J.PV}{M:List J.PV}(G:ax w0 w db ⟨some ⟨g,0,none⟩,X.length,cap⟩ pv ov mb tm X SP O PT nm D)(hb:Below w w wc)(hu:u<X.length)
  (YO:M.map (·.m)=X[u].s.aa) (Ws:w.ownsRow w0 207 5 X[u].vm.v M.length (M.flatMap J.aQ)) (Wt:∀y∈M,w0.ownsRow 0 275 1 y.v.v y.m.ai.length (y.m.ai.map bo))
  (hg:wc.grownBy w5 X[u].vm.v.ownBlock) (U2:w5.ownsRow w0 207 5 vm'.v (M.length+1) (M.flatMap J.aQ++J.aQ y)) (VJ:vm'.v.ownBlock=X[u].vm.v.ownBlock\/vm'.v.ownBlock=some wc.heap.size)
  (hy:w0.ownsRow 0 275 1 y.v.v y.m.ai.length (y.m.ai.map bo)):
  ax w0 (w5.setCell (g,u*8+7) vm'.v) db ⟨some ⟨g,0,none⟩,X.length,cap⟩ pv ov mb tm (X.set u (J.dx X[u] y vm')) SP O PT nm D:=by
 have Gc:=G.aq hb;have hM2c:wc.ownsRow w0 207 5 X[u].vm.v M.length (M.flatMap J.aQ):=ah Ws (cG (e:=0) hb) zac;have T1:=dN hM2c hg;have d5:=bZ Gc.draft T1 zac;have Vd:=fun k h=>(Qf hM2c k h).1;obtain⟨hs,T2,oo,hgw⟩:=qN (x':=J.dx X[u] y vm') (j:=7) (v:=vm'.v) (ah Gc.states T1 zac) hu zac rfl rfl;have Xg:∀(a:U.Sl),(∀k,a.v.ownBlock=some k->k<wc.heap.size)->apart a X[u].vm->apart a vm':=by
  exact zdx
 have hltM:∀i (h:i<X.length) k,X[i].vm.v.ownBlock=some k->k<wc.heap.size:=fun i h k hk=>by
  obtain⟨M',_,h2,_⟩:=(Gc.deep i h).aa;exact(Qf h2 k hk).2
 refine⟨oo.below (Gc.bel.grown hg Gc.bel.size Vd) hgw,G.hdb,G.hmb,bZ d5 T2 zac,hs,ah (ah Gc.jK T1 zac) T2 zac,ah (ah Gc.opens T1 zac) T2 zac,?_,?_,?_,?_,?_,bP (bP Gc.map T1) T2⟩
 ·intro i hi;rw[PO]at hi;rw[ng hu hi (show(J.dx X[u] y vm').vp=X[u].vp from rfl)];exact ah (ah (Gc.parts i hi) T1 zac) T2 zac
 ·intro i hi;rw[PO]at hi;rw[ng hu hi (show(J.dx X[u] y vm').vp=X[u].vp from rfl)];exact G.apartO i hi
 ·intro i j hi hj XH;rw[PO]at hi hj;rw[ng hu hi (show(J.dx X[u] y vm').vp=X[u].vp from rfl),ng hu hj (show(J.dx X[u] y vm').vp=X[u].vp from rfl)];exact G.apartI i j hi hj XH
 ·intro i hi;rw[PO]at hi;rw[QO];by_cases e:u=i
  ·subst e;simp only[if_true];refine⟨⟨M++[y],?_,?_,?_⟩,(Gc.deep u hu).enter,(Gc.deep u hu).leave⟩
   ·rw[Qj,YO];rfl
   ·rw[PI,Qc];have h:=ah U2 T2 zac;simpa[J.dx] using h
   ·intro z hz
    rcases PQ.1 hz with h|h
    ·exact Wt z h
    ·rw[PB.1 h];exact hy
  ·rw[Pu e];obtain⟨M',h1,h2,h3⟩:=(Gc.deep i hi).aa;exact⟨⟨M',h1,ah (h2.kept hg (G.apartM i u hi hu (fun h=>e h.symm))) T2 zac,h3⟩,(Gc.deep i hi).enter,(Gc.deep i hi).leave⟩
 ·intro i j hi hj XH;rw[PO]at hi hj;rw[QO,QO];by_cases e:u=i
  ·subst e;simp only[if_true];rw[Pu XH];exact Cw (Xg X[j].vm (hltM j hj) (G.apartM j u hj hu (fun h=>XH h.symm)))
  ·rw[Pu e];by_cases e2:u=j
   ·subst e2;simp only[if_true];exact Xg X[i].vm (hltM i hi) (G.apartM i u hi hu XH)
   ·rw[Pu e2];exact G.apartM i j hi hj XH
theorem ax.E6{v':U.Sl}{x':J.DS}(G:ax w0 w db ⟨some ⟨g,0,none⟩,X.length,cap⟩ pv ov mb tm X SP O PT nm D)(hb:Below w w wc)(hu:u<X.length)(hj:j<8)
  (hx:J.aM x'=(J.aM X[u]).set j v'.v) (hvp:x'.vp=X[u].vp) (hvm:x'.vm=X[u].vm) (hmv:x'.s.aa=X[u].s.aa)
  (hE:w0.ownsRow 0 275 1 x'.ve.v x'.s.enter.length (x'.s.enter.map bo)) (hL:w0.ownsRow 0 275 1 x'.vl.v x'.s.leave.length (x'.s.leave.map bo)):
  ax w0 (wc.setCell (g,u*8+j) v'.v) db ⟨some ⟨g,0,none⟩,X.length,cap⟩ pv ov mb tm (X.set u x') SP O PT nm D:=by
 have Gc:=G.aq hb;obtain⟨hs,T2,oo,hgw⟩:=qN (x':=x') (j:=j) (v:=v'.v) Gc.states hu hj hx rfl;refine⟨oo.below Gc.bel hgw,G.hdb,G.hmb,bZ Gc.draft T2 zac,hs,ah Gc.jK T2 zac,ah Gc.opens T2 zac,?_,?_,?_,?_,?_,bP Gc.map T2⟩
 ·intro i hi;rw[PO]at hi;rw[ng hu hi hvp];exact ah (Gc.parts i hi) T2 zac
 ·intro i hi;rw[PO]at hi;rw[ng hu hi hvp];exact G.apartO i hi
 ·intro i j hi hj XH;rw[PO]at hi hj;rw[ng hu hi hvp,ng hu hj hvp];exact G.apartI i j hi hj XH
 ·intro i hi;rw[PO]at hi;rw[QO];by_cases e:u=i
  ·subst e;simp only[if_true];have h:=((Gc.deep u hu).fG T2 zac).aa;rw[<- hmv,<- hvm]at h;exact⟨h,hE,hL⟩
  ·rw[Pu e];exact(Gc.deep i hi).fG T2 zac
 ·intro i j hi hj XH;rw[PO]at hi hj;rw[Kq hu hi hvm,Kq hu hj hvm];exact G.apartM i j hi hj XH
theorem ax.BJ(b:Bool)(G:ax w0 w db sv pv ov mb tm X SP O PT nm D)(hb:Below w w wc):ax w0 (wc.setCell (db,4) (.bool b)) db sv pv ov mb b X SP O PT nm D:=by
 have Gc:=G.aq hb;obtain⟨d6,T2⟩:=ax.p7 (j:=4) (u:=.bool b) Gc.draft;exact⟨(ag wc db 4 (.bool b)).below Gc.bel G.hdb,G.hdb,G.hmb,d6,ah Gc.states T2 zac,ah Gc.jK T2 zac,ah Gc.opens T2 zac,fun i h=>ah (Gc.parts i h) T2 zac,G.apartO,G.apartI,fun i h=>(Gc.deep i h).fG T2 zac,G.apartM,bP Gc.map T2⟩
theorem Hf{w:World}{es:Array MapEntry}{clock:Nat}(h:w.heap[b]?=some (.map es clock))(hg:w.grownBy w' (some b)):∀(k:Nat) (c:Array Value) (e:TypeId) (fz:Nat×Nat),w.heap[k]?=some (.cells c e fz)->w'.heap[k]?=some (.cells c e fz):=by
 intro k c e fz hk;rw[hg.block k (Pn.1 hk).1 (fun e0=>by cases e0;rw[h]at hk;cases hk)];exact hk
theorem pR{w:World}(h:w.ownsRow base e size v n xs)(hk:∀(k:Nat) (c:Array Value) (e:TypeId) (fz:Nat×Nat),w.heap[k]?=some (.cells c e fz)->w'.heap[k]?=some (.cells c e fz)):w'.ownsRow base e size v n xs:=by
 refine⟨h.1,?_⟩
 rcases h.2 with h'|⟨k,cap,cur,hv,hb,hg,r⟩
 ·exact .inl h'
 ·exact .inr ⟨k,cap,cur,hv,hb,hk _ _ _ _ hg,r⟩
theorem ax.KW{nm':Nat}{D':DataW Nat}(G:ax w0 w db sv pv ov mb tm X SP O PT nm D)(hb:Below w w wc)(hg:wc.grownBy w' (some mb))(hm:kB w' mb nm' D'):ax w0 w' db sv pv ov mb tm X SP O PT nm' D':=by
 have Gc:=G.aq hb;obtain⟨es,clock,hmb,_⟩:=Gc.map;have hk:=Hf hmb hg;exact⟨Gc.bel.grown hg Gc.bel.size (fun k h=>by cases h;exact G.hmb),G.hdb,G.hmb,hk _ _ _ _ Gc.draft,pR Gc.states hk,pR Gc.jK hk,pR Gc.opens hk,fun i h=>pR (Gc.parts i h) hk,G.apartO,G.apartI,fun i h=>⟨let⟨M,h1,h2,h3⟩:=(Gc.deep i h).aa;⟨M,h1,pR h2 hk,h3⟩,(Gc.deep i h).enter,(Gc.deep i h).leave⟩,G.apartM,hm⟩
variable {w0 w:World}{db mb nm:Nat}{sv pv ov:U.Sl}{tm:Bool}{X:List J.DS}{SP:List (Int×Int)}{O:List Nat}{PT:Nat->List Nat}{D:DataW Nat}
theorem ax.N7(G:ax w0 w db sv pv ov mb tm X SP O PT nm D){k:Nat}(hk:k<O.length):∃g cap,ov=⟨some ⟨g,0,none⟩,O.length,cap⟩/\w.cell? ⟨g,k,none⟩=some (.int .i64 O[k])/\O.length<=cap:=by
 obtain⟨g,cap,e⟩:=U.dy G.opens zaa;have h:=G.opens;rw[e]at h;have hc:=Row.cell (α:=Nat) (n:=1) (j:=0) (f:=eT) (fun _=>rfl) (aJ h (PK _)) zac hk;refine⟨g,cap,?_,?_,?_⟩
 ·cases ov
  simp[U.Sl.v]at e;simp[e.1,e.2.1,e.2.2]
 ·simpa[eT] using hc
 ·rcases h.2 with⟨h,_⟩|⟨g',cap',cur,h,_,_,hle,_⟩
  ·cases h
  ·simp at h;rw[h.2];exact hle
theorem Bl(num:Int)(dep:Nat)(G:ax w0 w db sv pv ov mb tm X SP O PT nm D)(h:dep=0\/O.length<dep)(hd:dep<=1073741824):
  () 350 #[db,.agg #[(num:Int),(dep:Int)]] w (br 3 num w):=by
 obtain⟨c0,c1,c2,c3,c4⟩:=G.cells;have Vd:=G.dlt;rw[G.M6]at c2;by_cases h0:dep=0
 ·subst h0;go_enter func350,ntmps350
  go_upto_region 1 with fail
  go_quiet(fail)
  go_wp2_with fail;refine(ba num 0 3 _).mono ?_;exact zdv
 ·have h1:O.length<dep:=zaa;have hz:((dep:Int) == 0)=false:=zaf;go_enter func350,ntmps350
  go_upto_region 1 with fail
  go_quiet(fail)
  go_wp2_with fail;refine(ba num dep 3 _).mono ?_;exact zdv
theorem wT(num:Int)(dep k:Nat)(G:ax w0 w db sv pv ov mb tm X SP O PT nm D)(hk:k<O.length)(hd:dep=k+1)(hO:O.length<=1073741824):
  () 350 #[db,.agg #[(num:Int),(dep:Int)]] w fun e w'=>e=.returned (.int .i64 O[k])/\Below w w w':=by
 subst hd;obtain⟨c0,c1,c2,c3,c4⟩:=G.cells;obtain⟨g,cap,rfl,cO,Ww⟩:=G.N7 hk;have Vd:=G.dlt;have V5:=PW _ _ cO;have hz:((k:Int)+1 == 0)=false:=zaf;have hgt:decide ((O.length:Int)<(k:Int)+1)=false:=zaf;go_enter func350,ntmps350
 go_upto_region 1 with fail
 go_quiet(fail)
 go_wp2_with fail
 go_quiet(fail)
 go_wp2;go_ret;exact⟨rfl,RM (RM ((Pq w w).alloc (Po _) _) _) _⟩
theorem kh(k:Int)(w:World):() 106 #[(k:Int)] w fun e w'=>e=.returned (.bool (decide (k=3)||decide (k=4)))/\w'=w:=by
 by_cases h3:k=3
 ·subst h3;exact zeL
 ·by_cases h4:k=4
  ·subst h4;exact zeL
  ·have e3:(k == 3)=false:=za4;have e4:(k == 4)=false:=by simpa using h4
   go_enter func106,ntmps106;go_wp2;go_ret;exact⟨by simp[h3,h4],rfl⟩
variable {w0 w:World}{db mb nm:Nat}{sv pv ov:U.Sl}{tm:Bool}{X:List J.DS}{SP:List (Int×Int)}{O:List Nat}{PT:Nat->List Nat}{D:DataW Nat}
theorem cB:(Tryz.prog.info? 134).map (·.size)=some 8:=zab
namespace J
def dF(k:Int):Bool:=decide (k=3)||decide (k=4)
def holds(x:DS)(p:List Nat)(k:Int):Bool:=if aj x.s=0 then !p.isEmpty||!dF k else if aj x.s=1 then !decide (k=2) else false
end J
theorem ax.BE(G:ax w0 w db ⟨some ⟨g,0,none⟩,X.length,cap⟩ pv ov mb tm X SP O PT nm D)(hu:u<X.length):w.rangeAt g (u*8) (J.aM X[u]):=
 Row.range (f:=J.aM) (fun _=>rfl) (aJ G.states (PK _)) hu
theorem ax.Nc(G:ax w0 w db sv pv ov mb tm X SP O PT nm D)(hu:u<X.length):X[u].vp.n=(PT u).length:=by
 rcases(G.parts u hu).2 with⟨h,h0⟩|⟨g,cap,cur,h,_⟩
 ·exact zfi
 ·exact zfu
theorem ax.CF(G:ax w0 w db ⟨some ⟨g,0,none⟩,X.length,cap⟩ pv ov mb tm X SP O PT nm D):X.length<=cap/\g<w.heap.size/\w0.heap.size<=g:=by
 rcases G.states.2 with⟨h,_⟩|⟨g',cap',cur,h,hb,hg,hle,_⟩
 ·cases h
 ·simp[U.Sl.v]at h;obtain⟨rfl,rfl⟩:=h;exact⟨hle,(Pn.1 hg).1,hb⟩
theorem yP(k:Int):() 351 #[db,.int .i64 (-1),(k:Int)] w fun e w'=>e=.returned (.bool (!J.dF k))/\Below w w w':=by
 go_enter func351,ntmps351;go_wp2_with fail;refine(kh k _).mono ?_;rintro e w9 ⟨rfl,U1⟩;rw[U1];clear U1 w9;obtain⟨h,hh⟩:∃h,h=J.dF k:=⟨_,rfl⟩;have hi:(decide (k=3)||decide (k=4))=h:=hh.symm;rw[hi];have HH:Hid _:=hh;clear hh hi;dsimp only;go_wp2;go_ret;exact⟨by rw[<- HH.out];rfl,Pq _ _⟩
theorem yQ(k:Int)(u:Nat)(G:ax w0 w db sv pv ov mb tm X SP O PT nm D)(hu:u<X.length)(hX:X.length<=1073741824):() 351 #[db,(u:Int),(k:Int)] w fun e w'=>e=.returned (.bool (J.holds X[u] (PT u) k))/\Below w w w':=by
 obtain⟨g,cap,rfl⟩:=G.DV zaa;obtain⟨c0,c1,c2,c3,c4⟩:=G.cells;have Va:=G.BE hu;have hvp:=G.Nc hu;obtain⟨Ww,V5,_⟩:=G.CF;have V4:=G.dlt;have hneg:((u:Int) == -1)=false:=zad;obtain⟨x,hx⟩:∃x,x=X[u]:=⟨_,rfl⟩;rw[<- hx]at Va hvp⊢;clear hx G;rw[J.aM,hvp]at Va;by_cases h0:J.aj x.s=0
 ·have HV:Hid (J.holds x (PT u) k=(!(PT u).isEmpty||!J.dF k)):=by unfold Hid J.holds;rw[PC h0]
  rw[h0]at Va;go_enter func351,ntmps351;by_cases hp:0<(PT u).length
  ·go_wp2_with(first
    |(refine QA rfl 134 (.tmp 18) rfl g (u*8) rfl _ _ Va underlying134 rfl cB ?_)
    |(refine aB rfl 134 (.tmp 7) (.tmp 19) rfl 134 _ _ rfl rfl cB rfl rfl ?_))
   go_ret;exact⟨by rw[HV.out];cases hq:PT u with|nil=>simp[hq]at hp|cons a b=>rfl,(Pq _ _).alloc (Po _) _⟩
  ·have hp0:PT u=[]:=RC.1 zaa;rw[hp0]at Va;go_wp2_with(first
    |(refine QA rfl 134 (.tmp 18) rfl g (u*8) rfl _ _ Va underlying134 rfl cB ?_)
    |(refine aB rfl 134 (.tmp 7) (.tmp 19) rfl 134 _ _ rfl rfl cB rfl rfl ?_)
    |(go_at_call 106;refine(kh k _).mono ?_;rintro e w9 ⟨rfl,U1⟩;rw[U1];clear U1 w9))
   go_ret;have e:(!decide (k=3)&&!decide (k=4))=!J.dF k:=by unfold J.dF;cases decide (k=3)<;>rfl
   refine⟨?_,(Pq _ _).alloc (Po _) _⟩;show Ending.returned (Value.bool (!decide (k=3)&&!decide (k=4)))=_;rw[HV.out,hp0,e];rfl
 ·by_cases h1:J.aj x.s=1
  ·have HV:Hid (J.holds x (PT u) k=!decide (k=2)):=by unfold Hid J.holds;rw[Pu h0,PC h1]
   rw[h1]at Va;go_enter func351,ntmps351;go_wp2_with(first
    |(refine QA rfl 134 (.tmp 18) rfl g (u*8) rfl _ _ Va underlying134 rfl cB ?_)
    |(refine aB rfl 134 (.tmp 7) (.tmp 19) rfl 134 _ _ rfl rfl cB rfl rfl ?_))
   go_ret;refine⟨?_,(Pq _ _).alloc (Po _) _⟩;rw[HV.out];by_cases hk:k=2
   ·subst hk;rfl
   ·simp[hk]
  ·have HV:Hid (J.holds x (PT u) k=false):=by unfold Hid J.holds;rw[Pu h0,Pu h1]
   have e0:(J.aj x.s == 0)=false:=by simpa using h0
   have e1:(J.aj x.s == 1)=false:=by simpa using h1
   generalize J.aj x.s=kk at *;go_enter func351,ntmps351;go_wp2_with(first
    |(refine QA rfl 134 (.tmp 18) rfl g (u*8) rfl _ _ Va underlying134 rfl cB ?_)
    |(refine aB rfl 134 (.tmp 7) (.tmp 19) rfl 134 _ _ rfl rfl cB rfl rfl ?_))
   go_ret;exact⟨by rw[HV.out];rfl,(Pq _ _).alloc (Po _) _⟩
theorem DQ(num dep:Int)(a:Option Addr)(n c:Nat)(g o:Nat)(a':Option Addr)(n' c':Nat)(hc:w.cell? (g,o)=some (.slice a' n' c'))(hn:0<n'):
  () 360 #[.agg #[(num:Int),(dep:Int),.slice a n c],(g,o)] w (br 3 num w):=by
 have V5:=PW _ _ hc;go_enter func360,ntmps360;go_wp2_with fail;refine(ba num dep 3 _).mono ?_;rintro e w1 ⟨hb,b,h4,h5,rfl⟩;dsimp only;refine⟨rfl,?_⟩;exact⟨((Pq w w).alloc (Po _) _).trans (hb.mono zad),b,zaR,h5,rfl⟩
theorem Bq(num dep:Int)(a:Option Addr)(n c:Nat)(g o:Nat)(a':Option Addr)(c':Nat)(hc:w.cell? (g,o)=some (.slice a' 0 c'))(hf:w.frozen? (g,o)=false):
  () 360 #[.agg #[(num:Int),(dep:Int),.slice a n c],(g,o)] w fun e w'=>e=.returned (.tuple #[])/\Below w (w.setCell (g,o) (.slice a n c)) w':=by
 have V5:=PW _ _ hc;go_enter func360,ntmps360;go_wp2;go_end0;exact⟨rfl,(Pq w (w.setCell (g,o) (.slice a n c))).alloc zad _⟩
variable {w0 w:World}{db mb nm:Nat}{sv pv ov:U.Sl}{tm:Bool}{X:List J.DS}{SP:List (Int×Int)}{O:List Nat}{PT:Nat->List Nat}{D:DataW Nat}
theorem oh(num:Int)(dep:Nat)(kv:Value)(G:ax w0 w db sv pv ov mb tm X SP O PT nm D)(h:dep=0\/O.length<dep)(hd:dep<=1073741824):
  () 357 #[db,.agg #[(num:Int),(dep:Int)],kv] w (br 3 num w):=by
 obtain⟨c0,c1,c2,c3,c4⟩:=G.cells;have V4:=G.dlt;go_enter func357,ntmps357
 go_upto_region 1 with fail
 have U3:Below w w (w.alloc (.cells #[(num:Int),(dep:Int)] 198)):=(Pq _ _).alloc (Po _) _;have c0':(w.alloc (.cells #[(num:Int),(dep:Int)] 198)).cell? db=some (.slice sv.a sv.n sv.c):=by rw[Qm _ _ ⟨db,0,none⟩ V4];exact c0
 have G1:=(G.aq U3).aq ((Pq _ _).drew);have WW:∀e w1,br 3 num ((w.alloc (.cells #[(num:Int),(dep:Int)] 198)).drew) e w1->br 3 num w e w1:=by
  rintro e w1 ⟨hb,b,h4,h5,h6⟩;exact⟨U3.drew.trans (hb.mono zad),b,zaR,h5,h6⟩
 refine PJ (S:=(fun W=>W.cell? db=some (.slice sv.a sv.n sv.c)/\W.cell? w=some ↑(num:Int)/\W.cell? ⟨w,1,none⟩=some ↑(dep:Int))) zab ⟨c0',zad,zad⟩ (fun Pm=>?_);refine tH 0 db rfl Pm ?_;refine tH 1 db rfl Pm ?_;refine tH 2 db rfl Pm ?_;refine tH 4 db rfl Pm ?_;refine tH 3 (.slice sv.a sv.n sv.c) rfl Pm ?_;refine tH 5 (.agg #[(num:Int),(dep:Int)]) rfl Pm ?_;refine zH 6 rfl fun K hK=>?_;go_simp;refine(Bl num dep G1 h hd).mono ?_;rintro e w4 h4;obtain⟨hb,b,h5,h6,rfl⟩:=WW _ _ h4;dsimp only;exact⟨rfl,hb,b,h5,h6,rfl⟩
def nu(num:Int)(k:Int)(ks:List Int)(p:Addr)(w:World)(e:Ending)(w':World):Prop:=if k∈ks then br 3 num w e w' else e=.returned (.pointer (some p))/\Below w w w'
theorem km(num:Int)(dep k u:Nat)(ks:List Int)(kb:Nat)(g cap:Nat)(G:ax w0 w db ⟨some ⟨g,0,none⟩,X.length,cap⟩ pv ov mb tm X SP O PT nm D)(hk:k<O.length)(hd:dep=k+1)(hO:O.length<=1073741824)(hku:O[k]=u)(hu:u<X.length)
  (Z3:w.heap[kb]?=some (.cells (ks.map (Value.int .i64)).toArray 130 (0,0))) (hks:ks.length<=10):
  () 357 #[db,.agg #[(num:Int),(dep:Int)],.slice kb ks.length ks.length] w (nu num (J.aj X[u].s) ks ⟨g,u*8,none⟩ w):=by
 obtain⟨c0,c1,c2,c3,c4⟩:=G.cells;have V4:=G.dlt;have Va:=G.BE hu;obtain⟨Ww,V5,_⟩:=G.CF;have WN:=(Pn.1 Z3).1;obtain⟨kd,Wj⟩:∃kd,kd=J.aj X[u].s:=⟨_,rfl⟩;have cK:=Va 0 (.int .i64 kd) (by rw[Wj];rfl);rw[UM]at cK;rw[<- Wj];have HO:Hid (∀W:World,W=(w.alloc (.cells #[(num:Int),(dep:Int)] 198)).drew->() 350 #[db,.agg #[(num:Int),(dep:Int)]] W fun e w'=>e=.returned (u:Int)/\Below W W w'):=by
  rintro W rfl;rw[<- hku];exact wT num dep k ((G.aq ((Pq _ _).alloc (Po _) _)).aq ((Pq _ _).drew)) hk hd hO
 clear hd hku hk hO Va Wj G;go_enter func357,ntmps357
 go_upto_region 1 with fail
 have U3:Below w w (w.alloc (.cells #[(num:Int),(dep:Int)] 198)):=(Pq _ _).alloc (Po _) _;have c0':(w.alloc (.cells #[(num:Int),(dep:Int)] 198)).cell? db=some (.slice g X.length cap):=by rw[Qm _ _ ⟨db,0,none⟩ V4];exact c0
 have p0:(w.alloc (.cells #[(num:Int),(dep:Int)] 198)).cell? w=some ↑(num:Int):=zad;have p1:(w.alloc (.cells #[(num:Int),(dep:Int)] 198)).cell? (w,1)=some ↑(dep:Int):=zad;have VI:w.heap.size<(w.alloc (.cells #[(num:Int),(dep:Int)] 198)).heap.size:=zad;obtain⟨W1,Vj⟩:∃y,y=w.alloc (.cells #[(num:Int),(dep:Int)] 198):=⟨_,rfl⟩;change Code.wp _ _ _ _ (w.alloc (.cells #[(num:Int),(dep:Int)] 198));rw[<- Vj]at p0 p1 VI c0' U3 HO⊢;clear Vj;have hdl1:db<W1.heap.size:=PY V4 U3.size;go_region_held3 (fun W=>W.cell? db=some (.slice g X.length cap)/\W.cell? w=some ↑(num:Int)/\W.cell? ⟨w,1,none⟩=some ↑(dep:Int)) (first|go_keep|exact⟨k0,k1,k2⟩)
  ((go_at_call 350;refine(HO.out _ rfl).mono ?_;rintro e w4 ⟨rfl,WH⟩;have k0:=(PN (w:=W1.drew) (w':=w4) (a:=⟨db,0,none⟩) (WH.block db hdl1)).trans c0';have k1:=(PN (w:=W1.drew) (w':=w4) (a:=⟨w,0,none⟩) (WH.block w VI)).trans p0;have k2:=(PN (w:=W1.drew) (w':=w4) (a:=⟨w,1,none⟩) (WH.block w VI)).trans p1;dsimp only))
 have hb4':Below w w w4:=U3.drew.trans (WH.mono U3.size);have cK4:w4.cell? (g,u*8)=some ↑(kd:Int):=(PN (w:=w) (hb4'.block g V5)).trans cK;have kb4:=(hb4'.block kb WN).trans Z3;have HS4:Hid _:=hb4';clear k0 hb4' WH cK Z3 V5 U3 c0' p0 p1 VI HO hdl1 c0 c1 c2 c3 c4;go_wp2
 go_loop[20] (fun i=>∃j:Nat,j<=ks.length/\i=.int .i64 j/\∀q (h:q<ks.length),q<j->¬ks[q]=kd) (fun i=>ks.length-(intOf i).toNat)
 case atStart=>exact⟨0,PK _,rfl,fun _ _ h=>zaa⟩
 case round=>
  obtain⟨j,hj,rfl,WS⟩:=hrel;by_cases YV:j<ks.length
  ·have cj:w4.cell? (kb,j)=some (.int .i64 ks[j]):=by
    rw[Pt w4 _ j _ _ _ kb4];simp[List.getElem?_eq_getElem YV]
   obtain⟨z,hz⟩:∃z,z=ks[j]:=⟨_,rfl⟩;rw[<- hz]at cj;by_cases he:kd=z
   ·have hm:Hid (kd∈ks):=by rw[he,hz];exact P7 YV
    have he':(kd == z)=true:=by simpa using he
    clear he hz WS;go_wp2_with fail;refine(ba num dep 3 _).mono ?_;rintro e w5 ⟨hb,b,h4,h5,rfl⟩;dsimp only;refine⟨rfl,?_⟩;unfold nu;rw[PC hm.out];exact⟨HS4.out.trans (hb.mono HS4.out.size),b,Pr HS4.out.size h4,h5,rfl⟩
   ·have he':(kd == z)=false:=by simpa using he
    have HZ:Hid (¬ks[j]=kd):=by rw[<- hz];exact fun h=>he h.symm
    clear hz he;go_wp2
    go_round
    case rel=>
     refine⟨j+1,zaa,zah,fun q h hq=>?_⟩;by_cases e:q=j
     ·subst e;exact HZ.out
     ·exact WS q h zaa
    case measure=>simp[intOf];omega
  ·have hm:Hid (¬kd∈ks):=by
    intro h;obtain⟨q,hq,e⟩:=RL h;exact WS q hq zaa e
   clear WS;go_wp2;go_ret;unfold nu;rw[Pu hm.out];exact⟨rfl,HS4.out⟩
variable {w0 w:World}{db mb nm:Nat}{sv pv ov:U.Sl}{tm:Bool}{X:List J.DS}{SP:List (Int×Int)}{O:List Nat}{PT:Nat->List Nat}{D:DataW Nat}
theorem F4:(Tryz.prog.info? 207).map (fun i=>(i.zero,i.size,i.bytes))=some (some (.agg #[ByteArray.empty,false,.int .u64 0,ByteArray.empty,.slice none 0 0]),5,72):=zab
def dz(num:Int)(dep:Nat)(y:J.PV):Array Value:=#[(num:Int),(dep:Int),y.m.event,y.m.after,.int .u64 y.m.delay,y.m.to,.slice y.v.a y.v.n y.v.c]
theorem mL(num:Int)(dep:Nat)(y:J.PV)(G:ax w0 w db sv pv ov mb tm X SP O PT nm D)(h:dep=0\/O.length<dep)(hd:dep<=1073741824):
  () 354 #[.agg (dz num dep y),db] w (br 3 num w):=by
 have V4:=G.dlt;have U3:Below w w ((w.alloc (.cells (dz num dep y) 349)).alloc (.cells #[(2:Int),(3:Int),(4:Int)] 130)):=((Pq _ _).alloc (Po _) _).alloc zad _;have HC:Hid _:=oh num dep (.slice (some (w.heap.size+1,0)) 3 3) (G.aq U3) h hd;unfold dz at U3 HC⊢;go_enter func354,ntmps354;go_wp2_with fail;refine Pw HC.out ?_;rintro e w4 ⟨hb,b,h5,h6,rfl⟩;dsimp only;exact⟨rfl,U3.trans (hb.mono U3.size),b,Pr U3.size h5,h6,rfl⟩
theorem vA(num:Int)(dep:Nat)(y:J.PV)(k u g cap:Nat)(G:ax w0 w db ⟨some ⟨g,0,none⟩,X.length,cap⟩ pv ov mb tm X SP O PT nm D)(hk:k<O.length)(hd:dep=k+1)(hO:O.length<=1073741824)(hku:O[k]=u)(hu:u<X.length)(hh:J.aj X[u].s∈([2,3,4]:List Int)):
  () 354 #[.agg (dz num dep y),db] w (br 3 num w):=by
 have V4:=G.dlt;have U3:Below w w ((w.alloc (.cells (dz num dep y) 349)).alloc (.cells #[(2:Int),(3:Int),(4:Int)] 130)):=((Pq _ _).alloc (Po _) _).alloc zad _;have HC:Hid _:=km num dep k u [2,3,4] (w.heap.size+1) g cap (G.aq U3) hk hd hO hku hu (cA _ _ _) zac;clear hd hku hk hO;unfold dz at U3 HC⊢;go_enter func354,ntmps354;go_wp2_with fail;refine Pw HC.out ?_;rintro e w4 h4;unfold nu at h4;rw[PC hh]at h4;obtain⟨hb,b,h5,h6,rfl⟩:=h4;dsimp only;exact⟨rfl,U3.trans (hb.mono U3.size),b,Pr U3.size h5,h6,rfl⟩
theorem vB(num:Int)(dep:Nat)(y:J.PV)(k u g cap:Nat)(G:ax w0 w db ⟨some ⟨g,0,none⟩,X.length,cap⟩ pv ov mb tm X SP O PT nm D)(hk:k<O.length)(hd:dep=k+1)(hO:O.length<=1073741824)(hku:O[k]=u)(hu:u<X.length)(hh:¬J.aj X[u].s∈([2,3,4]:List Int))
  (hy:w0.ownsRow 0 275 1 y.v.v y.m.ai.length (y.m.ai.map bo)) (Wk:X[u].s.aa.length<=1000000):
  () 354 #[.agg (dz num dep y),db] w fun e w'=>e=.returned (.tuple #[])/\∃vm',ax w0 w' db ⟨some ⟨g,0,none⟩,X.length,cap⟩ pv ov mb (tm||y.m.after) (X.set u (J.dx X[u] y vm')) SP O PT nm D:=by
 have V4:=G.dlt;obtain⟨Ww,V5,hg0⟩:=G.CF;have U3:Below w w ((w.alloc (.cells (dz num dep y) 349)).alloc (.cells #[(2:Int),(3:Int),(4:Int)] 130)):=((Pq _ _).alloc (Po _) _).alloc zad _;have HC:Hid _:=km num dep k u [2,3,4] (w.heap.size+1) g cap (G.aq U3) hk hd hO hku hu (cA _ _ _) zac;have VP:((w.alloc (.cells (dz num dep y) 349)).alloc (.cells #[(2:Int),(3:Int),(4:Int)] 130)).heap[w.heap.size]?=some (.cells (dz num dep y) 349 (0,0)):=fx _ _ _;obtain⟨i0,hi,Vv,Vk,Vl⟩:=QV F4;clear hd hku hk hO;have Vc:w.heap.size<((w.alloc (.cells (dz num dep y) 349)).alloc (.cells #[(2:Int),(3:Int),(4:Int)] 130)).heap.size:=zaf;unfold dz at U3 HC VP Vc⊢;go_enter func354,ntmps354;go_wp2_with fail;refine Pw HC.out ?_;rintro e w4 h4;unfold nu at h4;rw[Pu hh]at h4;obtain⟨rfl,WH⟩:=h4;have Vy:=U3.trans (WH.mono U3.size);have G4:=G.aq Vy;have hbx4:=(WH.block _ Vc).trans VP;have VZ:=Vy.size;obtain⟨M,YO,Ws,Wt⟩:=(G4.deep u hu).aa;have hMl:M.length<=1000000:=by rw[<- YO]at Wk;simpa using Wk
 have c7:w4.cell? (g,u*8+7)=some (.slice X[u].vm.a X[u].vm.n X[u].vm.c):=G4.BE hu 7 _ rfl;have f7:w4.frozen? (g,u*8+7)=false:=RI (aJ G4.states (PK _)) _;have e2:w4.cell? (w,2)=some ↑y.m.event:=zaW;have e3:w4.cell? (w,3)=some (.bool y.m.after):=zaW;have e4:w4.cell? (w,4)=some (.int .u64 y.m.delay):=zaW;have e5:w4.cell? (w,5)=some ↑y.m.to:=zaW;have e6:w4.cell? (w,6)=some (.slice y.v.a y.v.n y.v.c):=zaW;have hgl4:g<w4.heap.size:=PY V5 VZ;have hlw4:w.heap.size<w4.heap.size:=(Pn.1 hbx4).1;have hw04:w0.heap.size<=w4.heap.size:=G4.bel.size;have Ys:Hid (some g≠X[u].vm.v.ownBlock):=fun e=>by
  obtain⟨c,hc⟩:=b8 Ws _ e.symm;obtain⟨c',Ve⟩:=b8 G4.states g rfl;exact zfz
 have HB4:Hid _:=hbx4;clear VP hbx4 HC hh Vc U3;dsimp only
 go_upto_region 2 with fail
 go_cut[] (fun wx=>∃vm',ax w0 wx db ⟨some ⟨g,0,none⟩,X.length,cap⟩ pv ov mb tm (X.set u (J.dx X[u] y vm')) SP O PT nm D/\wx.heap[w.heap.size]?=some (.cells (dz num dep y) 349 (0,0)))
 case first=>
  go_region_law
   ((refine step_append_lies _ zae _ _ _ zae w0.heap.size 207 i0 _ 5 72 underlying132 hi Vv Vk Vl rfl zac (.slice X[u].vm.a X[u].vm.n X[u].vm.c) M.length (M.flatMap J.aQ) zae ((RK Ws _).drew) ⟨w4,0,none⟩ 1 1 (J.aQ y) zae zae (World.news_of_block (cs:=(J.aQ y).toArray) (t:=207) (fr:=(0,0)) (PG w4 _)) (by simp[J.aQ,Value.oneCell']) zaa zag zaa zaf (w4.heap.size+1) zad ?_;intro g5 cap5 w5 U6 Pg VJ We;have hfz5:=((Pg.frozen_far ⟨g,u*8+7,none⟩ zaf Ys.out).trans ((((Pq w4 w4).alloc (Po _) _).drew).frozen (p:=(g,u*8+7)) hgl4)).trans f7;have hcc5:=((Pg.cell_far ⟨g,u*8+7,none⟩ zaf Ys.out).trans ((((Pq w4 w4).alloc (Po _) _).drew).cell (p:=(g,u*8+7)) hgl4)).trans c7))
  all_goals(
   go_wp2_with fail;go_meet
   case rel=>
    have VX:Below w4 w4 ((w4.alloc (.cells #[y.m.event,y.m.after,.int .u64 y.m.delay,y.m.to,.slice y.v.a y.v.n y.v.c] 207)).drew):=((Pq _ _).alloc (Po _) _).drew;refine⟨⟨some ⟨g5,0,none⟩,M.length+1,cap5⟩,G4.addMove (vm':=⟨some ⟨g5,0,none⟩,M.length+1,cap5⟩) (y:=y) (M:=M) VX hu YO Ws Wt Pg U6 ?_ hy,?_⟩
    ·exact zeR
    ·have t1:Touch 207 _ w5:=dN (World.ownsRow.drew (RK Ws _)) Pg;have b5:=bZ (bZ HB4.out (cG (e:=207) VX) zac) t1 zac;rw[(ag w5 g (u*8+7) _).block w.heap.size zaa];exact b5)
 case rest=>
  obtain⟨vm',G6,hbx6⟩:=hcut;obtain⟨W6,hW6⟩:∃y:World,y=wc:=⟨wc,rfl⟩;subst hW6;obtain⟨d0,d1,d2,d3,d4⟩:=G6.cells;have fd:=G6.frozen 4;have hl6:=G6.dlt;have e3':W6.cell? (w,3)=some (.bool y.m.after):=by rw[Pt W6 _ _ _ _ _ hbx6];rfl
  have HG:Hid _:=G6;clear e2 e3 e4 e5 e6 c7 f7 hi Vv Vk Vl YO Ws Wt;cases tm with
  |true=>
   go_wp2;go_end0;exact⟨rfl,vm',by simpa using HG.out.BJ true (Pq _ _)⟩
  |false=>
   go_wp2;go_end0;exact⟨rfl,vm',by simpa using HG.out.BJ y.m.after (Pq _ _)⟩
