import Derived.Test.YtpkhcncoildcnaaGreatDoorM12
set_option maxRecDepth 100000
set_option maxHeartbeats 8000000
namespace Go.Proofs.YtpkhcncoildcnaaGreatDoor
variable {zp:Prop}
theorem zdw(h:zp:=by
 go_simp;refine hK _ _ ?_;clear hK K;refine zA 6 rfl fun K hK=>?_;go_simp
 (refine(oZ num dep G1 h hd).mono ?_;rintro e w4 h4;obtain⟨hb,b,h5,h6,rfl⟩:=Vu _ _ h4;dsimp only;exact⟨rfl,hb,b,h5,h6,rfl⟩)):zp:=h
theorem zdR(h:zp:=by
 rintro e w1 ⟨hb,b,h4,h5,rfl⟩;dsimp only;refine⟨rfl,?_⟩;exact⟨(QK ((Oy w w).alloc (Ow _) _) _).trans (hb.mono zad),b,zaS,h5,rfl⟩):zp:=h
theorem zdS(h:zp:=by
 intro a ha Xv;unfold apart at Xv⊢
 rcases Uy with e|e
 ·rw[e];exact Xv
 ·rw[e];refine .inr (fun e2=>?_);have:=ha _ e2;omega):zp:=h
theorem zd3(h:zp:=by
 unfold apart at h⊢
 rcases h with h|h
 ·rw[h];cases b.v.ownBlock<;>simp
 ·exact .inr (fun e=>h e.symm)):zp:=h
theorem zeZ(h:zp:=by
 go_enter func104,ntmps104;go_wp2;go_ret;exact⟨rfl,rfl⟩):zp:=h
theorem ze5(h:zp:=by
 rcases Uy with h|h
 ·exact .inl h.symm
 ·exact .inr zax):zp:=h
theorem zfw(h:zp:=by
 simp[U.Sl.v]at h;rw[h0];exact h.2.1):zp:=h
theorem zfJ(h:zp:=by
 simp[U.Sl.v]at h;exact h.2.1):zp:=h
theorem zfO(h:zp:=by
 rw[hc]at TZ;simp at TZ):zp:=h
theorem zax(h:zp:=by rw[h];simp[U.Sl.v,Value.ownBlock]):zp:=h
theorem zaX(h:zp:=by rw[OA w4 _ _ _ _ _ hbx4];rfl):zp:=h
open Tryz
variable {e e':TypeId}{b g base size n j u cap i:Nat}{c:Array Value}{w' w5 wc:World}{fz:Nat×Nat}{v:Value}{xs:List Value}
section
open Go.RowKit
namespace J
def al(s:U.State):Int:=if s.word.toList == U.cy then 0 else if s.word.toList == U.aE then 1 else if s.word.toList == U.bT then 2 else if s.deep then 4 else 3
structure DS where
 s:U.State
 vp:U.Sl
 ve:U.Sl
 vl:U.Sl
 vm:U.Sl
def aP(x:DS):List Value:=[.int .i64 (al x.s),x.s.name,(x.s.depth:Int),(x.s.up:Int),.slice x.vp.a x.vp.n x.vp.c,.slice x.ve.a x.ve.n x.ve.c,.slice x.vl.a x.vl.n x.vl.c,.slice x.vm.a x.vm.n x.vm.c]
structure PV where
 m:U.Move
 v:U.Sl
def bl(x:PV):List Value:=[x.m.event,x.m.after,.int .u64 x.m.delay,x.m.to,.slice x.v.a x.v.n x.v.c]
def i6(p:Int×Int):List Value:=[(p.1:Int),(p.2:Int)]
end J
structure Touch(e:TypeId)(w w':World):Prop where
 size:w.heap.size<=w'.heap.size
 block:∀k,k<w.heap.size->(∀c fz,w.heap[k]?≠some (.cells c e fz))->w'.heap[k]?=w.heap[k]?
theorem Touch.trans{a b c:World}(h:Touch e a b)(k:Touch e b c):Touch e a c:=
 ⟨Ox h.size k.size,fun i hi hn=>by
  have h1:=h.block i hi hn;rw[k.block i (OS hi h.size) (by rw[h1];exact hn),h1]⟩
theorem cT{w:World}(h:Below w w w'):Touch e w w':=⟨h.size,fun k hk _=>h.block k hk⟩
theorem jm{w:World}(h:iF g w w')(hg:w.heap[g]?=some (.cells c e fz)):Touch e w w':=
 ⟨zbl,fun k _ hn=>h.block k (fun e0=>by subst e0;exact hn _ _ hg)⟩
theorem bS{w:World}(h:w.ownsRow base e size v n xs)(g:Nat)(hg:v.ownBlock=some g):∃c,w.heap[g]?=some (.cells c e (0,0)):=by
 rcases h.2 with⟨hv,_⟩|⟨k,cap,cur,hv,_,hk,_⟩
 ·rw[hv]at hg;simp[Value.ownBlock]at hg
 ·rw[hv]at hg;simp[Value.ownBlock]at hg;subst hg;exact⟨_,hk⟩
theorem dP{w:World}(h:w.ownsRow base e size v n xs)(hg:w.grownBy w' v.ownBlock):Touch e w w':=
 ⟨hg.size,fun k hk hn=>hg.block k hk (fun e0=>by obtain⟨c,hc⟩:=bS h k e0.symm;exact hn _ _ hc)⟩
theorem ag{w:World}(h:w.ownsRow base e' size v n xs)(T:Touch e w w')(TU:e'≠e):w'.ownsRow base e' size v n xs:=by
 refine⟨h.1,?_⟩
 rcases h.2 with h'|⟨k,cap,cur,hv,hb,hk,r⟩
 ·exact .inl h'
 ·refine .inr ⟨k,cap,cur,hv,hb,?_,r⟩;rw[T.block k (Ov.1 hk).1 (fun c fz h'=>by rw[hk]at h';simp at h';exact TU h'.2.1)];exact hk
theorem bM{H:Type}{k:TypeId}{P:Program}{R:Value->Option (DataW H×List MemPlace)}{D:DataW H}{w:World}(h:w.ownsMap P k R b n D)(T:Touch e w w'):w'.ownsMap P k R b n D:=by
 obtain⟨es,clock,hb,r⟩:=h;refine⟨es,clock,?_,r⟩;rw[T.block b (Ov.1 hb).1 (fun c fz h'=>by rw[hb]at h';cases h')];exact hb
theorem bR{w:World}(h:w.heap[g]?=some (.cells c e' fz))(T:Touch e w w')(TU:e'≠e):w'.heap[g]?=some (.cells c e' fz):=by
 rw[T.block g (Ov.1 h).1 (fun c fz h'=>by rw[h]at h';simp at h';exact TU h'.2.1)];exact h
structure yZ(w0 w:World)(x:J.DS):Prop where
 aj:∃M:List J.PV,M.map (·.m)=x.s.aj/\w.ownsRow w0 260 5 x.vm.v M.length (M.flatMap J.bl)/\∀y∈M,w0.ownsRow 0 271 1 y.v.v y.m.aw.length (y.m.aw.map bm)
 enter:w0.ownsRow 0 271 1 x.ve.v x.s.enter.length (x.s.enter.map bm)
 leave:w0.ownsRow 0 271 1 x.vl.v x.s.leave.length (x.s.leave.map bm)
def Cd(sv pv ov:U.Sl)(mb:Nat)(tm:Bool):Array Value:=#[.slice sv.a sv.n sv.c,.slice pv.a pv.n pv.c,.slice ov.a ov.n ov.c,.map (some mb),tm]
def apart(a b:U.Sl):Prop:=a.v.ownBlock=none\/a.v.ownBlock≠b.v.ownBlock
abbrev jV(w:World)(mb nm:Nat)(D:DataW Nat):Prop:=w.ownsMap prog 9 (plainElem prog 3) mb nm D
structure ao(w0 w:World)(db:Nat)(sv pv ov:U.Sl)(mb:Nat)(tm:Bool)(X:List J.DS)(SP:List (Int×Int))(O:List Nat)(PT:Nat->List Nat)(nm:Nat)(D:DataW Nat):Prop where
 bel:Below w0 w0 w
 hdb:w0.heap.size<=db
 hmb:w0.heap.size<=mb
 draft:w.heap[db]?=some (.cells (Cd sv pv ov mb tm) 173 (0,0))
 states:w.ownsRow w0 188 8 sv.v X.length (X.flatMap J.aP)
 jh:w.ownsRow w0 244 2 pv.v SP.length (SP.flatMap J.i6)
 opens:w.ownsRow w0 3 1 ov.v O.length (O.flatMap eM)
 parts:∀i (h:i<X.length),w.ownsRow w0 3 1 X[i].vp.v (PT i).length ((PT i).flatMap eM)
 apartO:∀i (h:i<X.length),apart ov X[i].vp
 apartI:∀i j (hi:i<X.length) (hj:j<X.length),i≠j->apart X[i].vp X[j].vp
 deep:∀i (h:i<X.length),yZ w0 w X[i]
 apartM:∀i j (hi:i<X.length) (hj:j<X.length),i≠j->apart X[i].vm X[j].vm
 map:jV w mb nm D
variable {w0 w:World}{db mb nm:Nat}{sv pv ov:U.Sl}{tm:Bool}{X:List J.DS}{SP:List (Int×Int)}{O:List Nat}{PT:Nat->List Nat}{D:DataW Nat}
theorem yZ.fM{x:J.DS}(h:yZ w0 w x)(T:Touch e w w')(TU:260≠e):yZ w0 w' x:=
 ⟨let⟨M,h1,h2,h3⟩:=h.aj;⟨M,h1,ag h2 T TU,h3⟩,h.enter,h.leave⟩
theorem ao.aq(G:ao w0 w db sv pv ov mb tm X SP O PT nm D)(hb:Below w w w'):ao w0 w' db sv pv ov mb tm X SP O PT nm D:=
 have T:Touch 0 w w':=cT hb
 ⟨G.bel.trans (hb.mono G.bel.size),G.hdb,G.hmb,bR G.draft T zac,ag G.states T zac,ag G.jh T zac,ag G.opens T zac,fun i h=>ag (G.parts i h) T zac,G.apartO,G.apartI,fun i h=>(G.deep i h).fM T zac,G.apartM,bM G.map T⟩
theorem ao.dlt(G:ao w0 w db sv pv ov mb tm X SP O PT nm D):db<w.heap.size:=(Ov.1 G.draft).1
theorem ao.Me(G:ao w0 w db sv pv ov mb tm X SP O PT nm D):sv.n=X.length:=by
 rcases G.states.2 with⟨h,h0⟩|⟨g,cap,cur,h,_⟩
 ·exact zfw
 ·exact zfJ
theorem ao.Mb(G:ao w0 w db sv pv ov mb tm X SP O PT nm D):ov.n=O.length:=by
 rcases G.opens.2 with⟨h,h0⟩|⟨g,cap,cur,h,_⟩
 ·exact zfw
 ·exact zfJ
theorem ao.NV(G:ao w0 w db sv pv ov mb tm X SP O PT nm D):pv.n=SP.length:=by
 rcases G.jh.2 with⟨h,h0⟩|⟨g,cap,cur,h,_⟩
 ·exact zfw
 ·exact zfJ
theorem ao.cells(G:ao w0 w db sv pv ov mb tm X SP O PT nm D):w.cell? db=some (.slice sv.a sv.n sv.c)/\w.cell? (db,1)=some (.slice pv.a pv.n pv.c)/\w.cell? (db,2)=some (.slice ov.a ov.n ov.c)/\w.cell? (db,3)=some (.map (some mb))/\w.cell? (db,4)=some (.bool tm):=by
 have h:=G.draft;refine⟨?_,?_,?_,?_,?_⟩<;>rw[OA w _ _ _ _ _ h]<;>rfl
theorem ao.frozen(G:ao w0 w db sv pv ov mb tm X SP O PT nm D)(j:Nat):w.frozen? (db,j)=false:=by simp[World.frozen?,G.draft]
theorem ao.pB{u:Value}{cs:Array Value}(hd:w5.heap[db]?=some (.cells cs 173 (0,0))):(w5.setCell (db,j) u).heap[db]?=some (.cells (cs.setIfInBounds j u) 173 (0,0))/\Touch 173 w5 (w5.setCell (db,j) u):=
 ⟨OP w5 db j _ _ u hd,jm (aa _ _ _ _) hd⟩
theorem ao.zj{sv':U.Sl}{x:J.DS}(G:ao w0 w db sv pv ov mb tm X SP O PT nm D)(hb:Below w w wc)(hg:wc.grownBy w5 sv.v.ownBlock)
  (TN:w5.ownsRow w0 188 8 sv'.v (X.length+1) (X.flatMap J.aP++J.aP x)) (Zx:x.vp=U.Sl.nil) (hve:x.ve=U.Sl.nil) (Xs:x.vl=U.Sl.nil) (hvm:x.vm=U.Sl.nil) (hE:x.s.enter=[]) (hL:x.s.leave=[]) (hM:x.s.aj=[]) (hPT:PT X.length=[]):
  ao w0 (w5.setCell db sv'.v) db sv' pv ov mb tm (X++[x]) SP O PT nm D:=by
 have Gc:=G.aq hb;have T1:=dP Gc.states hg;have d5:=bR Gc.draft T1 zac;obtain⟨d6,T2⟩:=ao.pB (j:=0) (u:=sv'.v) d5;have TX:=fun k h=>(O8 Gc.states k h).1;have nilB:U.Sl.nil.v.ownBlock=none:=rfl;refine⟨?_,G.hdb,G.hmb,d6,?_,ag (ag Gc.jh T1 zac) T2 zac,ag (ag Gc.opens T1 zac) T2 zac,?_,?_,?_,?_,?_,bM (bM Gc.map T1) T2⟩
 ·exact(aa w5 db 0 sv'.v).below (Gc.bel.grown hg Gc.bel.size TX) G.hdb
 ·rw[OM,Ph];exact ag zbs T2 zac
 ·intro i hi;by_cases h:i<X.length
  ·rw[P9 h];exact ag (ag (Gc.parts i h) T1 zac) T2 zac
  ·have e:i=X.length:=zaR;subst e;rw[P4 (Ow _)];simp only[Nat.sub_self,List.getElem_cons_zero];rw[Zx,hPT];exact Pt _ _ _ _
 ·intro i hi;by_cases h:i<X.length
  ·rw[P9 h];exact G.apartO i h
  ·have e:i=X.length:=zaR;subst e;rw[P4 (Ow _)];simp only[Nat.sub_self,List.getElem_cons_zero];rw[Zx];unfold apart;rw[nilB];cases ov.v.ownBlock<;>simp
 ·intro i j hi hj V9;by_cases h:i<X.length
  ·rw[P9 h];by_cases h':j<X.length
   ·rw[P9 h'];exact G.apartI i j h h' V9
   ·have e:j=X.length:=by simp at hj;omega
    subst e;rw[P4 (Ow _)];simp only[Nat.sub_self,List.getElem_cons_zero];rw[Zx];unfold apart;rw[nilB];cases X[i].vp.v.ownBlock<;>simp
  ·have e:i=X.length:=zaR;subst e;rw[P4 (Ow _)];simp only[Nat.sub_self,List.getElem_cons_zero];rw[Zx];exact .inl nilB
 ·intro i hi;by_cases h:i<X.length
  ·rw[P9 h];exact((Gc.deep i h).fM T1 zac).fM T2 zac
  ·have e:i=X.length:=zaR;subst e;rw[P4 (Ow _)];simp only[Nat.sub_self,List.getElem_cons_zero];refine⟨⟨[],by rw[hM];rfl,by rw[hvm];exact Pt _ _ _ _,fun y hy=>absurd hy zad⟩,?_,?_⟩
   ·rw[hve,hE];exact Pt _ _ _ _
   ·rw[Xs,hL];exact Pt _ _ _ _
 ·intro i j hi hj V9;by_cases h:i<X.length
  ·rw[P9 h];by_cases h':j<X.length
   ·rw[P9 h'];exact G.apartM i j h h' V9
   ·have e:j=X.length:=by simp at hj;omega
    subst e;rw[P4 (Ow _)];simp only[Nat.sub_self,List.getElem_cons_zero];rw[hvm];unfold apart;rw[nilB];cases X[i].vm.v.ownBlock<;>simp
  ·have e:i=X.length:=zaR;subst e;rw[P4 (Ow _)];simp only[Nat.sub_self,List.getElem_cons_zero];rw[hvm];exact .inl nilB
theorem ao.DE{pv':U.Sl}{q:Int×Int}(G:ao w0 w db sv pv ov mb tm X SP O PT nm D)(hb:Below w w wc)(hg:wc.grownBy w5 pv.v.ownBlock)
  (TN:w5.ownsRow w0 244 2 pv'.v (SP.length+1) (SP.flatMap J.i6++J.i6 q)):
  ao w0 (w5.setCell (db,1) pv'.v) db sv pv' ov mb tm X (SP++[q]) O PT nm D:=by
 have Gc:=G.aq hb;have T1:=dP Gc.jh hg;have d5:=bR Gc.draft T1 zac;obtain⟨d6,T2⟩:=ao.pB (j:=1) (u:=pv'.v) d5;have TX:=fun k h=>(O8 Gc.jh k h).1;refine⟨(aa w5 db 1 pv'.v).below (Gc.bel.grown hg Gc.bel.size TX) G.hdb,G.hdb,G.hmb,d6,ag (ag Gc.states T1 zac) T2 zac,?_,ag (ag Gc.opens T1 zac) T2 zac,fun i h=>ag (ag (Gc.parts i h) T1 zac) T2 zac,G.apartO,G.apartI,fun i h=>((Gc.deep i h).fM T1 zac).fM T2 zac,G.apartM,bM (bM Gc.map T1) T2⟩;rw[OM,Ph];exact ag zbs T2 zac
theorem ao.rL{ov':U.Sl}{O':List Nat}(G:ao w0 w db sv pv ov mb tm X SP O PT nm D)(hb:Below w w wc)(hg:wc.grownBy w5 ov.v.ownBlock)
  (TN:w5.ownsRow w0 3 1 ov'.v O'.length (O'.flatMap eM)) (Uy:ov'.v.ownBlock=ov.v.ownBlock\/ov'.v.ownBlock=some wc.heap.size):
  ao w0 (w5.setCell (db,2) ov'.v) db sv pv ov' mb tm X SP O' PT nm D:=by
 have Gc:=G.aq hb;have T1:=dP Gc.opens hg;have d5:=bR Gc.draft T1 zac;obtain⟨d6,T2⟩:=ao.pB (j:=2) (u:=ov'.v) d5;have TX:=fun k h=>(O8 Gc.opens k h).1;refine⟨(aa w5 db 2 ov'.v).below (Gc.bel.grown hg Gc.bel.size TX) G.hdb,G.hdb,G.hmb,d6,ag (ag Gc.states T1 zac) T2 zac,ag (ag Gc.jh T1 zac) T2 zac,ag TN T2 zac,fun i h=>?_,fun i h=>?_,G.apartI,fun i h=>((Gc.deep i h).fM T1 zac).fM T2 zac,G.apartM,bM (bM Gc.map T1) T2⟩
 ·have Xv:=G.apartO i h;refine ag ((Gc.parts i h).kept hg ?_) T2 zac
  rcases Xv with h1|h1
  ·rw[h1];cases X[i].vp.v.ownBlock<;>simp
  ·exact .inr (fun e=>h1 e.symm)
 ·have Xv:=G.apartO i h;unfold apart at Xv⊢
  rcases Uy with e|e
  ·rw[e];exact Xv
  ·rw[e];refine .inr (fun e2=>?_);have:=(O8 (Gc.parts i h) _ e2.symm).2;omega
theorem qq{W:World}{x':J.DS}(hs:w5.ownsRow w0 188 8 (.slice g X.length cap) X.length (X.flatMap J.aP))(hu:u<X.length)(hj:j<8)
  (hx:J.aP x'=(J.aP X[u]).set j v) (hW:W=w5.setCell (g,u*8+j) v):
  W.ownsRow w0 188 8 (.slice g X.length cap) (X.set u x').length ((X.set u x').flatMap J.aP)/\Touch 188 w5 W/\iF g w5 W/\w0.heap.size<=g:=by
 rcases hs.2 with⟨h,_⟩|⟨g',cap',cur,h,hb,hg,h1,h2,h3,h4⟩
 ·cases h
 ·simp only[Value.slice.injEq,Option.some.injEq,Addr.mk.injEq,and_true,true_and]at h;obtain⟨rfl,rfl⟩:=h;subst hW;have oo:=aa w5 g (u*8+j) v;refine⟨⟨?_,.inr ⟨g,cap,cur.setIfInBounds (u*8+j) v,by rw[ON],hb,OP w5 g _ _ _ v hg,by rw[ON];exact h1,h2,zaG,?_⟩⟩,jm oo hg,oo,hb⟩
  ·exact U.kc (f:=J.aP) (n:=8) (fun _=>rfl) _
  ·rw[Rt,ON,List.take_set,h4];exact sH (f:=J.aP) (n:=8) (fun _=>rfl) X u j v x' hj hu hx
theorem ao.C6(G:ao w0 w db sv pv ov mb tm X SP O PT nm D)(h:0<X.length):∃g cap,sv=⟨some ⟨g,0,none⟩,X.length,cap⟩:=by
 obtain⟨g,cap,e⟩:=U.eG G.states h;refine⟨g,cap,?_⟩;cases sv
 simp[U.Sl.v]at e;simp[e.1,e.2.1,e.2.2]
theorem ao.addPart{vp':U.Sl}(G:ao w0 w db ⟨some ⟨g,0,none⟩,X.length,cap⟩ pv ov mb tm X SP O PT nm D)(hb:Below w w wc)(hu:u<X.length)(hg:wc.grownBy w5 X[u].vp.v.ownBlock)
  (TN:w5.ownsRow w0 3 1 vp'.v (PT u++[n]).length ((PT u++[n]).flatMap eM)) (Uy:vp'.v.ownBlock=X[u].vp.v.ownBlock\/vp'.v.ownBlock=some wc.heap.size):
  ao w0 (w5.setCell (g,u*8+4) vp'.v) db ⟨some ⟨g,0,none⟩,X.length,cap⟩ pv ov mb tm (X.set u { X[u] with vp:=vp' }) SP O (fun i=>if i=u then PT u++[n] else PT i) nm D:=by
 have Gc:=G.aq hb;have T1:=dP (Gc.parts u hu) hg;have d5:=bR Gc.draft T1 zac;have TX:=fun k h=>(O8 (Gc.parts u hu) k h).1;obtain⟨hs,T2,oo,hgw⟩:=qq (x':={ X[u] with vp:=vp' }) (j:=4) (v:=vp'.v) (ag Gc.states T1 zac) hu zac rfl rfl;have VM:∀(a:U.Sl),(∀k,a.v.ownBlock=some k->k<wc.heap.size)->apart a X[u].vp->apart a vp':=by
  exact zdS
 have hsym:∀a b:U.Sl,apart a b->apart b a:=by
  intro a b h;exact zd3
 refine⟨oo.below (Gc.bel.grown hg Gc.bel.size TX) hgw,G.hdb,G.hmb,bR d5 T2 zac,hs,ag (ag Gc.jh T1 zac) T2 zac,ag (Gc.opens.kept hg (by
   have:=G.apartO u hu;exact this)) T2 zac,?_,?_,?_,?_,?_,bM (bM Gc.map T1) T2⟩
 ·intro i hi;rw[ON]at hi;rw[PI];by_cases e:u=i
  ·subst e;simp only[if_true];exact ag TN T2 zac
  ·rw[OB e,OB (fun h=>e h.symm)];exact ag ((Gc.parts i hi).kept hg (G.apartI i u hi hu (fun h=>e h.symm))) T2 zac
 ·intro i hi;rw[ON]at hi;rw[PI];by_cases e:u=i
  ·subst e;simp only[if_true];exact VM ov (fun k h=>(O8 Gc.opens k h).2) (G.apartO u hu)
  ·rw[OB e];exact G.apartO i hi
 ·intro i j hi hj V9;rw[ON]at hi hj;rw[PI,PI];by_cases e:u=i
  ·subst e;simp only[if_true];rw[OB V9];exact hsym _ _ (VM X[j].vp (fun k h=>(O8 (Gc.parts j hj) k h).2) (G.apartI j u hj hu (fun h=>V9 h.symm)))
  ·rw[OB e];by_cases e2:u=j
   ·subst e2;simp only[if_true];exact VM X[i].vp (fun k h=>(O8 (Gc.parts i hi) k h).2) (G.apartI i u hi hu V9)
   ·rw[OB e2];exact G.apartI i j hi hj V9
 ·intro i hi;rw[ON]at hi;rw[PI];by_cases e:u=i
  ·subst e;simp only[if_true];have:=((Gc.deep u hu).fM T1 zac).fM T2 zac;exact⟨this.aj,this.enter,this.leave⟩
  ·rw[OB e];exact((Gc.deep i hi).fM T1 zac).fM T2 zac
 ·intro i j hi hj V9;rw[ON]at hi hj;rw[PI,PI];have e1:(if u=i then{ X[u] with vp:=vp' } else X[i]).vm=X[i].vm:=by
   split
   ·rename_i e;subst e;rfl
   ·rfl
  have e2:(if u=j then{ X[u] with vp:=vp' } else X[j]).vm=X[j].vm:=by
   split
   ·rename_i e;subst e;rfl
   ·rfl
  rw[e1,e2];exact G.apartM i j hi hj V9
variable {w0 w:World}{db mb nm:Nat}{sv pv ov:U.Sl}{tm:Bool}{X:List J.DS}{SP:List (Int×Int)}{O:List Nat}{PT:Nat->List Nat}{D:DataW Nat}
namespace J
def dv(x:DS)(y:PV)(v:U.Sl):DS:={ x with s:={ x.s with aj:=x.s.aj++[y.m] },vm:=v }
def ic(x:DS)(i:Int)(A:List U.Act)(v:U.Sl):DS:={ x with s:={ x.s with has0:=i,enter:=A },ve:=v }
def ie(x:DS)(i:Int)(A:List U.Act)(v:U.Sl):DS:={ x with s:={ x.s with has1:=i,leave:=A },vl:=v }
end J
theorem BM{a b:U.Sl}(h:apart a b):apart b a:=by
 exact zd3
theorem mw(hu:u<X.length)(hi:i<X.length){x':J.DS}(h:x'.vp=X[u].vp):((X.set u x')[i]'(by rw[ON];exact hi)).vp=X[i].vp:=by
 rw[PI];split
 ·rename_i e;subst e;exact h
 ·rfl
theorem Jo(hu:u<X.length)(hi:i<X.length){x':J.DS}(h:x'.vm=X[u].vm):((X.set u x')[i]'(by rw[ON];exact hi)).vm=X[i].vm:=by
 rw[PI];split
 ·rename_i e;subst e;exact h
 ·rfl
theorem ao.addMove{vm':U.Sl}{y:J.PV}{M:List J.PV}(G:ao w0 w db ⟨some ⟨g,0,none⟩,X.length,cap⟩ pv ov mb tm X SP O PT nm D)(hb:Below w w wc)(hu:u<X.length)
  (XJ:M.map (·.m)=X[u].s.aj) (Vh:w.ownsRow w0 260 5 X[u].vm.v M.length (M.flatMap J.bl)) (Vi:∀y∈M,w0.ownsRow 0 271 1 y.v.v y.m.aw.length (y.m.aw.map bm))
  (hg:wc.grownBy w5 X[u].vm.v.ownBlock) (TN:w5.ownsRow w0 260 5 vm'.v (M.length+1) (M.flatMap J.bl++J.bl y)) (Uy:vm'.v.ownBlock=X[u].vm.v.ownBlock\/vm'.v.ownBlock=some wc.heap.size)
  (hy:w0.ownsRow 0 271 1 y.v.v y.m.aw.length (y.m.aw.map bm)):
  ao w0 (w5.setCell (g,u*8+7) vm'.v) db ⟨some ⟨g,0,none⟩,X.length,cap⟩ pv ov mb tm (X.set u (J.dv X[u] y vm')) SP O PT nm D:=by
 have Gc:=G.aq hb;have hM2c:wc.ownsRow w0 260 5 X[u].vm.v M.length (M.flatMap J.bl):=ag Vh (cT (e:=0) hb) zac;have T1:=dP hM2c hg;have d5:=bR Gc.draft T1 zac;have TX:=fun k h=>(O8 hM2c k h).1;obtain⟨hs,T2,oo,hgw⟩:=qq (x':=J.dv X[u] y vm') (j:=7) (v:=vm'.v) (ag Gc.states T1 zac) hu zac rfl rfl;have VM:∀(a:U.Sl),(∀k,a.v.ownBlock=some k->k<wc.heap.size)->apart a X[u].vm->apart a vm':=by
  exact zdS
 have hltM:∀i (h:i<X.length) k,X[i].vm.v.ownBlock=some k->k<wc.heap.size:=fun i h k hk=>by
  obtain⟨M',_,h2,_⟩:=(Gc.deep i h).aj;exact(O8 h2 k hk).2
 refine⟨oo.below (Gc.bel.grown hg Gc.bel.size TX) hgw,G.hdb,G.hmb,bR d5 T2 zac,hs,ag (ag Gc.jh T1 zac) T2 zac,ag (ag Gc.opens T1 zac) T2 zac,?_,?_,?_,?_,?_,bM (bM Gc.map T1) T2⟩
 ·intro i hi;rw[ON]at hi;rw[mw hu hi (show(J.dv X[u] y vm').vp=X[u].vp from rfl)];exact ag (ag (Gc.parts i hi) T1 zac) T2 zac
 ·intro i hi;rw[ON]at hi;rw[mw hu hi (show(J.dv X[u] y vm').vp=X[u].vp from rfl)];exact G.apartO i hi
 ·intro i j hi hj V9;rw[ON]at hi hj;rw[mw hu hi (show(J.dv X[u] y vm').vp=X[u].vp from rfl),mw hu hj (show(J.dv X[u] y vm').vp=X[u].vp from rfl)];exact G.apartI i j hi hj V9
 ·intro i hi;rw[ON]at hi;rw[PI];by_cases e:u=i
  ·subst e;simp only[if_true];refine⟨⟨M++[y],?_,?_,?_⟩,(Gc.deep u hu).enter,(Gc.deep u hu).leave⟩
   ·rw[Pk,XJ];rfl
   ·rw[OM,Ph];have h:=ag TN T2 zac;simpa[J.dv] using h
   ·intro z hz
    rcases OT.1 hz with h|h
    ·exact Vi z h
    ·rw[OE.1 h];exact hy
  ·rw[OB e];obtain⟨M',h1,h2,h3⟩:=(Gc.deep i hi).aj;exact⟨⟨M',h1,ag (h2.kept hg (G.apartM i u hi hu (fun h=>e h.symm))) T2 zac,h3⟩,(Gc.deep i hi).enter,(Gc.deep i hi).leave⟩
 ·intro i j hi hj V9;rw[ON]at hi hj;rw[PI,PI];by_cases e:u=i
  ·subst e;simp only[if_true];rw[OB V9];exact BM (VM X[j].vm (hltM j hj) (G.apartM j u hj hu (fun h=>V9 h.symm)))
  ·rw[OB e];by_cases e2:u=j
   ·subst e2;simp only[if_true];exact VM X[i].vm (hltM i hi) (G.apartM i u hi hu V9)
   ·rw[OB e2];exact G.apartM i j hi hj V9
theorem ao.Ei{v':U.Sl}{x':J.DS}(G:ao w0 w db ⟨some ⟨g,0,none⟩,X.length,cap⟩ pv ov mb tm X SP O PT nm D)(hb:Below w w wc)(hu:u<X.length)(hj:j<8)
  (hx:J.aP x'=(J.aP X[u]).set j v'.v) (Zx:x'.vp=X[u].vp) (hvm:x'.vm=X[u].vm) (hmv:x'.s.aj=X[u].s.aj)
  (hE:w0.ownsRow 0 271 1 x'.ve.v x'.s.enter.length (x'.s.enter.map bm)) (hL:w0.ownsRow 0 271 1 x'.vl.v x'.s.leave.length (x'.s.leave.map bm)):
  ao w0 (wc.setCell (g,u*8+j) v'.v) db ⟨some ⟨g,0,none⟩,X.length,cap⟩ pv ov mb tm (X.set u x') SP O PT nm D:=by
 have Gc:=G.aq hb;obtain⟨hs,T2,oo,hgw⟩:=qq (x':=x') (j:=j) (v:=v'.v) Gc.states hu hj hx rfl;refine⟨oo.below Gc.bel hgw,G.hdb,G.hmb,bR Gc.draft T2 zac,hs,ag Gc.jh T2 zac,ag Gc.opens T2 zac,?_,?_,?_,?_,?_,bM Gc.map T2⟩
 ·intro i hi;rw[ON]at hi;rw[mw hu hi Zx];exact ag (Gc.parts i hi) T2 zac
 ·intro i hi;rw[ON]at hi;rw[mw hu hi Zx];exact G.apartO i hi
 ·intro i j hi hj V9;rw[ON]at hi hj;rw[mw hu hi Zx,mw hu hj Zx];exact G.apartI i j hi hj V9
 ·intro i hi;rw[ON]at hi;rw[PI];by_cases e:u=i
  ·subst e;simp only[if_true];have h:=((Gc.deep u hu).fM T2 zac).aj;rw[<- hmv,<- hvm]at h;exact⟨h,hE,hL⟩
  ·rw[OB e];exact(Gc.deep i hi).fM T2 zac
 ·intro i j hi hj V9;rw[ON]at hi hj;rw[Jo hu hi hvm,Jo hu hj hvm];exact G.apartM i j hi hj V9
theorem ao.AX(b:Bool)(G:ao w0 w db sv pv ov mb tm X SP O PT nm D)(hb:Below w w wc):ao w0 (wc.setCell (db,4) (.bool b)) db sv pv ov mb b X SP O PT nm D:=by
 have Gc:=G.aq hb;obtain⟨d6,T2⟩:=ao.pB (j:=4) (u:=.bool b) Gc.draft;exact⟨(aa wc db 4 (.bool b)).below Gc.bel G.hdb,G.hdb,G.hmb,d6,ag Gc.states T2 zac,ag Gc.jh T2 zac,ag Gc.opens T2 zac,fun i h=>ag (Gc.parts i h) T2 zac,G.apartO,G.apartI,fun i h=>(Gc.deep i h).fM T2 zac,G.apartM,bM Gc.map T2⟩
theorem Gf{w:World}{es:Array MapEntry}{clock:Nat}(h:w.heap[b]?=some (.map es clock))(hg:w.grownBy w' (some b)):∀(k:Nat) (c:Array Value) (e:TypeId) (fz:Nat×Nat),w.heap[k]?=some (.cells c e fz)->w'.heap[k]?=some (.cells c e fz):=by
 intro k c e fz hk;rw[hg.block k (Ov.1 hk).1 (fun e0=>by cases e0;rw[h]at hk;cases hk)];exact hk
theorem oY{w:World}(h:w.ownsRow base e size v n xs)(hk:∀(k:Nat) (c:Array Value) (e:TypeId) (fz:Nat×Nat),w.heap[k]?=some (.cells c e fz)->w'.heap[k]?=some (.cells c e fz)):w'.ownsRow base e size v n xs:=by
 refine⟨h.1,?_⟩
 rcases h.2 with h'|⟨k,cap,cur,hv,hb,hg,r⟩
 ·exact .inl h'
 ·exact .inr ⟨k,cap,cur,hv,hb,hk _ _ _ _ hg,r⟩
theorem ao.JW{nm':Nat}{D':DataW Nat}(G:ao w0 w db sv pv ov mb tm X SP O PT nm D)(hb:Below w w wc)(hg:wc.grownBy w' (some mb))(hm:jV w' mb nm' D'):ao w0 w' db sv pv ov mb tm X SP O PT nm' D':=by
 have Gc:=G.aq hb;obtain⟨es,clock,hmb,_⟩:=Gc.map;have hk:=Gf hmb hg;exact⟨Gc.bel.grown hg Gc.bel.size (fun k h=>by cases h;exact G.hmb),G.hdb,G.hmb,hk _ _ _ _ Gc.draft,oY Gc.states hk,oY Gc.jh hk,oY Gc.opens hk,fun i h=>oY (Gc.parts i h) hk,G.apartO,G.apartI,fun i h=>⟨let⟨M,h1,h2,h3⟩:=(Gc.deep i h).aj;⟨M,h1,oY h2 hk,h3⟩,(Gc.deep i h).enter,(Gc.deep i h).leave⟩,G.apartM,hm⟩
variable {w0 w:World}{db mb nm:Nat}{sv pv ov:U.Sl}{tm:Bool}{X:List J.DS}{SP:List (Int×Int)}{O:List Nat}{PT:Nat->List Nat}{D:DataW Nat}
theorem ao.Ng(G:ao w0 w db sv pv ov mb tm X SP O PT nm D){k:Nat}(hk:k<O.length):∃g cap,ov=⟨some ⟨g,0,none⟩,O.length,cap⟩/\w.cell? ⟨g,k,none⟩=some (.int .i64 O[k])/\O.length<=cap:=by
 obtain⟨g,cap,e⟩:=U.eG G.opens zaa;have h:=G.opens;rw[e]at h;have hc:=Row.cell (α:=Nat) (n:=1) (j:=0) (f:=eM) (fun _=>rfl) (aC h (OL _)) zac hk;refine⟨g,cap,?_,?_,?_⟩
 ·cases ov
  simp[U.Sl.v]at e;simp[e.1,e.2.1,e.2.2]
 ·simpa[eM] using hc
 ·rcases h.2 with⟨h,_⟩|⟨g',cap',cur,h,_,_,hle,_⟩
  ·cases h
  ·simp at h;rw[h.2];exact hle
theorem oZ(num:Int)(dep:Nat)(G:ao w0 w db sv pv ov mb tm X SP O PT nm D)(h:dep=0\/O.length<dep)(hd:dep<=1073741824):
  () 349 #[db,.agg #[(num:Int),(dep:Int)]] w (bc 3 num w):=by
 obtain⟨c0,c1,c2,c3,c4⟩:=G.cells;have TX:=G.dlt;rw[G.Mb]at c2;by_cases h0:dep=0
 ·subst h0;go_enter func349,ntmps349
  go_upto_region 1 with fail
  go_quiet(fail)
  go_wp2_with fail;refine(aV num 0 3 _).mono ?_;exact zdR
 ·have h1:O.length<dep:=zaa;have hz:((dep:Int) == 0)=false:=zae;go_enter func349,ntmps349
  go_upto_region 1 with fail
  go_quiet(fail)
  go_wp2_with fail;refine(aV num dep 3 _).mono ?_;exact zdR
theorem wt(num:Int)(dep k:Nat)(G:ao w0 w db sv pv ov mb tm X SP O PT nm D)(hk:k<O.length)(hd:dep=k+1)(hO:O.length<=1073741824):
  () 349 #[db,.agg #[(num:Int),(dep:Int)]] w fun e w'=>e=.returned (.int .i64 O[k])/\Below w w w':=by
 subst hd;obtain⟨c0,c1,c2,c3,c4⟩:=G.cells;obtain⟨g,cap,rfl,cO,UX⟩:=G.Ng hk;have TX:=G.dlt;have UN:=OW _ _ cO;have hz:((k:Int)+1 == 0)=false:=zae;have Zz:decide ((O.length:Int)<(k:Int)+1)=false:=zae;go_enter func349,ntmps349
 go_upto_region 1 with fail
 go_quiet(fail)
 go_wp2_with fail
 go_quiet(fail)
 go_wp2;go_ret;exact⟨rfl,QK (QK ((Oy w w).alloc (Ow _) _) _) _⟩
theorem jL(k:Int)(w:World):() 104 #[(k:Int)] w fun e w'=>e=.returned (.bool (decide (k=3)||decide (k=4)))/\w'=w:=by
 by_cases h3:k=3
 ·subst h3;exact zeZ
 ·by_cases h4:k=4
  ·subst h4;exact zeZ
  ·have e3:(k == 3)=false:=zaG;have e4:(k == 4)=false:=by simpa using h4
   go_enter func104,ntmps104;go_wp2;go_ret;exact⟨by simp[h3,h4],rfl⟩
variable {w0 w:World}{db mb nm:Nat}{sv pv ov:U.Sl}{tm:Bool}{X:List J.DS}{SP:List (Int×Int)}{O:List Nat}{PT:Nat->List Nat}{D:DataW Nat}
theorem cZ:(Tryz.prog.info? 188).map (·.size)=some 8:=zab
namespace J
def du(k:Int):Bool:=decide (k=3)||decide (k=4)
def holds(x:DS)(p:List Nat)(k:Int):Bool:=if al x.s=0 then !p.isEmpty||!du k else if al x.s=1 then !decide (k=2) else false
end J
theorem ao.uX(G:ao w0 w db ⟨some ⟨g,0,none⟩,X.length,cap⟩ pv ov mb tm X SP O PT nm D)(hu:u<X.length):w.rangeAt g (u*8) (J.aP X[u]):=
 Row.range (f:=J.aP) (fun _=>rfl) (aC G.states (OL _)) hu
theorem ao.Mf(G:ao w0 w db sv pv ov mb tm X SP O PT nm D)(hu:u<X.length):X[u].vp.n=(PT u).length:=by
 rcases(G.parts u hu).2 with⟨h,h0⟩|⟨g,cap,cur,h,_⟩
 ·exact zfw
 ·exact zfJ
theorem ao.uI(G:ao w0 w db ⟨some ⟨g,0,none⟩,X.length,cap⟩ pv ov mb tm X SP O PT nm D):X.length<=cap/\g<w.heap.size/\w0.heap.size<=g:=by
 rcases G.states.2 with⟨h,_⟩|⟨g',cap',cur,h,hb,hg,hle,_⟩
 ·cases h
 ·simp[U.Sl.v]at h;obtain⟨rfl,rfl⟩:=h;exact⟨hle,(Ov.1 hg).1,hb⟩
theorem yi(k:Int):() 350 #[db,.int .i64 (-1),(k:Int)] w fun e w'=>e=.returned (.bool (!J.du k))/\Below w w w':=by
 go_enter func350,ntmps350;go_wp2_with fail;refine(jL k _).mono ?_;rintro e w9 ⟨rfl,Pg⟩;rw[Pg];clear Pg w9;obtain⟨h,hh⟩:∃h,h=J.du k:=⟨_,rfl⟩;have hi:(decide (k=3)||decide (k=4))=h:=hh.symm;rw[hi];have HH:Hid _:=hh;clear hh hi;dsimp only;go_wp2;go_ret;exact⟨by rw[<- HH.out];rfl,Oy _ _⟩
theorem yj(k:Int)(u:Nat)(G:ao w0 w db sv pv ov mb tm X SP O PT nm D)(hu:u<X.length)(hX:X.length<=1073741824):() 350 #[db,(u:Int),(k:Int)] w fun e w'=>e=.returned (.bool (J.holds X[u] (PT u) k))/\Below w w w':=by
 obtain⟨g,cap,rfl⟩:=G.C6 zaa;obtain⟨c0,c1,c2,c3,c4⟩:=G.cells;have TS:=G.uX hu;have Zx:=G.Mf hu;obtain⟨UX,UN,_⟩:=G.uI;have UH:=G.dlt;have hneg:((u:Int) == -1)=false:=zad;obtain⟨x,hx⟩:∃x,x=X[u]:=⟨_,rfl⟩;rw[<- hx]at TS Zx⊢;clear hx G;rw[J.aP,Zx]at TS;by_cases h0:J.al x.s=0
 ·have HV:Hid (J.holds x (PT u) k=(!(PT u).isEmpty||!J.du k)):=by unfold Hid J.holds;rw[OD h0]
  rw[h0]at TS;go_enter func350,ntmps350;by_cases hp:0<(PT u).length
  ·go_wp2_with(first
    |(refine PW rfl 188 (.tmp 18) rfl g (u*8) rfl _ _ TS underlying188 rfl cZ ?_)
    |(refine aJ rfl 188 (.tmp 7) (.tmp 19) rfl 188 _ _ rfl rfl cZ rfl rfl ?_))
   go_ret;exact⟨by rw[HV.out];cases hq:PT u with|nil=>simp[hq]at hp|cons a b=>rfl,(Oy _ _).alloc (Ow _) _⟩
  ·have YE:PT u=[]:=Qx.1 zaa;rw[YE]at TS;go_wp2_with(first
    |(refine PW rfl 188 (.tmp 18) rfl g (u*8) rfl _ _ TS underlying188 rfl cZ ?_)
    |(refine aJ rfl 188 (.tmp 7) (.tmp 19) rfl 188 _ _ rfl rfl cZ rfl rfl ?_)
    |(go_at_call 104;refine(jL k _).mono ?_;rintro e w9 ⟨rfl,Pg⟩;rw[Pg];clear Pg w9))
   go_ret;have e:(!decide (k=3)&&!decide (k=4))=!J.du k:=by unfold J.du;cases decide (k=3)<;>rfl
   refine⟨?_,(Oy _ _).alloc (Ow _) _⟩;show Ending.returned (Value.bool (!decide (k=3)&&!decide (k=4)))=_;rw[HV.out,YE,e];rfl
 ·by_cases h1:J.al x.s=1
  ·have HV:Hid (J.holds x (PT u) k=!decide (k=2)):=by unfold Hid J.holds;rw[OB h0,OD h1]
   rw[h1]at TS;go_enter func350,ntmps350;go_wp2_with(first
    |(refine PW rfl 188 (.tmp 18) rfl g (u*8) rfl _ _ TS underlying188 rfl cZ ?_)
    |(refine aJ rfl 188 (.tmp 7) (.tmp 19) rfl 188 _ _ rfl rfl cZ rfl rfl ?_))
   go_ret;refine⟨?_,(Oy _ _).alloc (Ow _) _⟩;rw[HV.out];by_cases hk:k=2
   ·subst hk;rfl
   ·simp[hk]
  ·have HV:Hid (J.holds x (PT u) k=false):=by unfold Hid J.holds;rw[OB h0,OB h1]
   have e0:(J.al x.s == 0)=false:=by simpa using h0
   have e1:(J.al x.s == 1)=false:=by simpa using h1
   generalize J.al x.s=kk at *;go_enter func350,ntmps350;go_wp2_with(first
    |(refine PW rfl 188 (.tmp 18) rfl g (u*8) rfl _ _ TS underlying188 rfl cZ ?_)
    |(refine aJ rfl 188 (.tmp 7) (.tmp 19) rfl 188 _ _ rfl rfl cZ rfl rfl ?_))
   go_ret;exact⟨by rw[HV.out];rfl,(Oy _ _).alloc (Ow _) _⟩
theorem bK(num dep:Int)(a:Option Addr)(n c:Nat)(g o:Nat)(a':Option Addr)(n' c':Nat)(hc:w.cell? (g,o)=some (.slice a' n' c'))(hn:0<n'):
  () 359 #[.agg #[(num:Int),(dep:Int),.slice a n c],(g,o)] w (bc 3 num w):=by
 have UN:=OW _ _ hc;go_enter func359,ntmps359;go_wp2_with fail;refine(aV num dep 3 _).mono ?_;rintro e w1 ⟨hb,b,h4,h5,rfl⟩;dsimp only;refine⟨rfl,?_⟩;exact⟨((Oy w w).alloc (Ow _) _).trans (hb.mono zad),b,zaS,h5,rfl⟩
theorem bA(num dep:Int)(a:Option Addr)(n c:Nat)(g o:Nat)(a':Option Addr)(c':Nat)(hc:w.cell? (g,o)=some (.slice a' 0 c'))(hf:w.frozen? (g,o)=false):
  () 359 #[.agg #[(num:Int),(dep:Int),.slice a n c],(g,o)] w fun e w'=>e=.returned (.tuple #[])/\Below w (w.setCell (g,o) (.slice a n c)) w':=by
 have UN:=OW _ _ hc;go_enter func359,ntmps359;go_wp2;go_end0;exact⟨rfl,(Oy w (w.setCell (g,o) (.slice a n c))).alloc zad _⟩
variable {w0 w:World}{db mb nm:Nat}{sv pv ov:U.Sl}{tm:Bool}{X:List J.DS}{SP:List (Int×Int)}{O:List Nat}{PT:Nat->List Nat}{D:DataW Nat}
theorem aS(num:Int)(dep:Nat)(kv:Value)(G:ao w0 w db sv pv ov mb tm X SP O PT nm D)(h:dep=0\/O.length<dep)(hd:dep<=1073741824):
  () 356 #[db,.agg #[(num:Int),(dep:Int)],kv] w (bc 3 num w):=by
 obtain⟨c0,c1,c2,c3,c4⟩:=G.cells;have UH:=G.dlt;go_enter func356,ntmps356
 go_upto_region 1 with fail
 have TM:Below w w (w.alloc (.cells #[(num:Int),(dep:Int)] 244)):=(Oy _ _).alloc (Ow _) _;have c0':(w.alloc (.cells #[(num:Int),(dep:Int)] 244)).cell? db=some (.slice sv.a sv.n sv.c):=by rw[Pf _ _ ⟨db,0,none⟩ UH];exact c0
 have G1:=(G.aq TM).aq ((Oy _ _).drew);have Vu:∀e w1,bc 3 num ((w.alloc (.cells #[(num:Int),(dep:Int)] 244)).drew) e w1->bc 3 num w e w1:=by
  rintro e w1 ⟨hb,b,h4,h5,h6⟩;exact⟨TM.drew.trans (hb.mono zad),b,zaS,h5,h6⟩
 refine Qh zab ?_;change wpAny _ _ _ _ _ _ _ (World.drew _);refine tA 0 db rfl ?_;refine tA 1 db rfl ?_;refine tA 2 db rfl ?_;refine tA 4 db rfl ?_;refine yA [3,5] ?_;refine OC rfl (fun K hK=>?_) (OC rfl (fun K hK=>?_) OX)
 ·go_simp;refine hK _ _ ?_;clear hK K;refine zA 5 rfl fun K hK=>?_;exact zdw
 ·go_simp;refine hK _ _ ?_;clear hK K;refine yA [3,6] ?_;refine OC rfl (fun K hK=>?_) (OC rfl (fun K hK=>?_) OX)
  ·exact zdw
  ·go_simp
   (refine(oZ num dep G1 h hd).mono ?_;rintro e w4 h4;obtain⟨hb,b,h5,h6,rfl⟩:=Vu _ _ h4;dsimp only;exact⟨rfl,hb,b,h5,h6,rfl⟩)
def aA(num:Int)(k:Int)(ks:List Int)(p:Addr)(w:World)(e:Ending)(w':World):Prop:=if k∈ks then bc 3 num w e w' else e=.returned (.pointer (some p))/\Below w w w'
theorem di(num:Int)(dep k u:Nat)(ks:List Int)(kb:Nat)(g cap:Nat)(G:ao w0 w db ⟨some ⟨g,0,none⟩,X.length,cap⟩ pv ov mb tm X SP O PT nm D)(hk:k<O.length)(hd:dep=k+1)(hO:O.length<=1073741824)(VU:O[k]=u)(hu:u<X.length)
  (Vq:w.heap[kb]?=some (.cells (ks.map (Value.int .i64)).toArray 177 (0,0))) (hks:ks.length<=10):
  () 356 #[db,.agg #[(num:Int),(dep:Int)],.slice kb ks.length ks.length] w (aA num (J.al X[u].s) ks ⟨g,u*8,none⟩ w):=by
 obtain⟨c0,c1,c2,c3,c4⟩:=G.cells;have UH:=G.dlt;have TS:=G.uX hu;obtain⟨UX,UN,_⟩:=G.uI;have Vf:=(Ov.1 Vq).1;obtain⟨kd,U8⟩:∃kd,kd=J.al X[u].s:=⟨_,rfl⟩;have cK:=TS 0 (.int .i64 kd) (by rw[U8];rfl);rw[S9]at cK;rw[<- U8];have HO:Hid (∀W:World,W=(w.alloc (.cells #[(num:Int),(dep:Int)] 244)).drew->() 349 #[db,.agg #[(num:Int),(dep:Int)]] W fun e w'=>e=.returned (u:Int)/\Below W W w'):=by
  rintro W rfl;rw[<- VU];exact wt num dep k ((G.aq ((Oy _ _).alloc (Ow _) _)).aq ((Oy _ _).drew)) hk hd hO
 clear hd VU hk hO TS U8 G;go_enter func356,ntmps356
 go_upto_region 1 with fail
 have TM:Below w w (w.alloc (.cells #[(num:Int),(dep:Int)] 244)):=(Oy _ _).alloc (Ow _) _;have c0':(w.alloc (.cells #[(num:Int),(dep:Int)] 244)).cell? db=some (.slice g X.length cap):=by rw[Pf _ _ ⟨db,0,none⟩ UH];exact c0
 have p0:(w.alloc (.cells #[(num:Int),(dep:Int)] 244)).cell? w=some ↑(num:Int):=zad;have p1:(w.alloc (.cells #[(num:Int),(dep:Int)] 244)).cell? (w,1)=some ↑(dep:Int):=zad;have Uo:w.heap.size<(w.alloc (.cells #[(num:Int),(dep:Int)] 244)).heap.size:=zad;obtain⟨W1,Uj⟩:∃y,y=w.alloc (.cells #[(num:Int),(dep:Int)] 244):=⟨_,rfl⟩;change Code.wp _ _ _ _ (w.alloc (.cells #[(num:Int),(dep:Int)] 244));rw[<- Uj]at p0 p1 Uo c0' TM HO⊢;clear Uj;have hdl1:db<W1.heap.size:=OS UH TM.size;go_region_held3 (fun W=>W.cell? db=some (.slice g X.length cap)/\W.cell? w=some ↑(num:Int)/\W.cell? ⟨w,1,none⟩=some ↑(dep:Int)) (first|go_keep|exact⟨k0,k1,k2⟩)
  ((go_at_call 349;refine(HO.out _ rfl).mono ?_;rintro e w4 ⟨rfl,TY⟩;have k0:=(OO (w:=W1.drew) (w':=w4) (a:=⟨db,0,none⟩) (TY.block db hdl1)).trans c0';have k1:=(OO (w:=W1.drew) (w':=w4) (a:=⟨w,0,none⟩) (TY.block w Uo)).trans p0;have k2:=(OO (w:=W1.drew) (w':=w4) (a:=⟨w,1,none⟩) (TY.block w Uo)).trans p1;dsimp only))
 have hb4':Below w w w4:=TM.drew.trans (TY.mono TM.size);have cK4:w4.cell? (g,u*8)=some ↑(kd:Int):=(OO (w:=w) (hb4'.block g UN)).trans cK;have kb4:=(hb4'.block kb Vf).trans Vq;have HS4:Hid _:=hb4';clear k0 hb4' TY cK Vq UN TM c0' p0 p1 Uo HO hdl1 c0 c1 c2 c3 c4;go_wp2
 go_loop[20] (fun i=>∃j:Nat,j<=ks.length/\i=.int .i64 j/\∀q (h:q<ks.length),q<j->¬ks[q]=kd) (fun i=>ks.length-(intOf i).toNat)
 case atStart=>exact⟨0,OL _,rfl,fun _ _ h=>zaa⟩
 case round=>
  obtain⟨j,hj,rfl,Va⟩:=hrel;by_cases XC:j<ks.length
  ·have cj:w4.cell? (kb,j)=some (.int .i64 ks[j]):=by
    rw[OA w4 _ j _ _ _ kb4];simp[List.getElem?_eq_getElem XC]
   obtain⟨z,hz⟩:∃z,z=ks[j]:=⟨_,rfl⟩;rw[<- hz]at cj;by_cases he:kd=z
   ·have hm:Hid (kd∈ks):=by rw[he,hz];exact Pl XC
    have he':(kd == z)=true:=by simpa using he
    clear he hz Va;go_wp2_with fail;refine(aV num dep 3 _).mono ?_;rintro e w5 ⟨hb,b,h4,h5,rfl⟩;dsimp only;refine⟨rfl,?_⟩;unfold aA;rw[OD hm.out];exact⟨HS4.out.trans (hb.mono HS4.out.size),b,Ox HS4.out.size h4,h5,rfl⟩
   ·have he':(kd == z)=false:=by simpa using he
    have HZ:Hid (¬ks[j]=kd):=by rw[<- hz];exact fun h=>he h.symm
    clear hz he;go_wp2
    go_round
    case rel=>
     refine⟨j+1,zaa,zag,fun q h hq=>?_⟩;by_cases e:q=j
     ·subst e;exact HZ.out
     ·exact Va q h zaa
    case measure=>simp[intOf];omega
  ·have hm:Hid (¬kd∈ks):=by
    intro h;obtain⟨q,hq,e⟩:=QX h;exact Va q hq zaa e
   clear Va;go_wp2;go_ret;unfold aA;rw[OB hm.out];exact⟨rfl,HS4.out⟩
variable {w0 w:World}{db mb nm:Nat}{sv pv ov:U.Sl}{tm:Bool}{X:List J.DS}{SP:List (Int×Int)}{O:List Nat}{PT:Nat->List Nat}{D:DataW Nat}
theorem Fi:(Tryz.prog.info? 260).map (fun i=>(i.zero,i.size,i.bytes))=some (some (.agg #[ByteArray.empty,false,.int .u64 0,ByteArray.empty,.slice none 0 0]),5,72):=zab
def dy(num:Int)(dep:Nat)(y:J.PV):Array Value:=#[(num:Int),(dep:Int),y.m.event,y.m.after,.int .u64 y.m.delay,y.m.to,.slice y.v.a y.v.n y.v.c]
theorem l8(num:Int)(dep:Nat)(y:J.PV)(G:ao w0 w db sv pv ov mb tm X SP O PT nm D)(h:dep=0\/O.length<dep)(hd:dep<=1073741824):
  () 353 #[.agg (dy num dep y),db] w (bc 3 num w):=by
 have UH:=G.dlt;have TM:Below w w ((w.alloc (.cells (dy num dep y) 368)).alloc (.cells #[(2:Int),(3:Int),(4:Int)] 177)):=((Oy _ _).alloc (Ow _) _).alloc zad _;have HC:Hid _:=aS num dep (.slice (some (w.heap.size+1,0)) 3 3) (G.aq TM) h hd;unfold dy at TM HC⊢;go_enter func353,ntmps353;go_wp2_with fail;refine OI HC.out ?_;rintro e w4 ⟨hb,b,h5,h6,rfl⟩;dsimp only;exact⟨rfl,TM.trans (hb.mono TM.size),b,Ox TM.size h5,h6,rfl⟩
theorem uQ(num:Int)(dep:Nat)(y:J.PV)(k u g cap:Nat)(G:ao w0 w db ⟨some ⟨g,0,none⟩,X.length,cap⟩ pv ov mb tm X SP O PT nm D)(hk:k<O.length)(hd:dep=k+1)(hO:O.length<=1073741824)(VU:O[k]=u)(hu:u<X.length)(hh:J.al X[u].s∈([2,3,4]:List Int)):
  () 353 #[.agg (dy num dep y),db] w (bc 3 num w):=by
 have UH:=G.dlt;have TM:Below w w ((w.alloc (.cells (dy num dep y) 368)).alloc (.cells #[(2:Int),(3:Int),(4:Int)] 177)):=((Oy _ _).alloc (Ow _) _).alloc zad _;have HC:Hid _:=di num dep k u [2,3,4] (w.heap.size+1) g cap (G.aq TM) hk hd hO VU hu (bU _ _ _) zac;clear hd VU hk hO;unfold dy at TM HC⊢;go_enter func353,ntmps353;go_wp2_with fail;refine OI HC.out ?_;rintro e w4 h4;unfold aA at h4;rw[OD hh]at h4;obtain⟨hb,b,h5,h6,rfl⟩:=h4;dsimp only;exact⟨rfl,TM.trans (hb.mono TM.size),b,Ox TM.size h5,h6,rfl⟩
theorem uR(num:Int)(dep:Nat)(y:J.PV)(k u g cap:Nat)(G:ao w0 w db ⟨some ⟨g,0,none⟩,X.length,cap⟩ pv ov mb tm X SP O PT nm D)(hk:k<O.length)(hd:dep=k+1)(hO:O.length<=1073741824)(VU:O[k]=u)(hu:u<X.length)(hh:¬J.al X[u].s∈([2,3,4]:List Int))
  (hy:w0.ownsRow 0 271 1 y.v.v y.m.aw.length (y.m.aw.map bm)) (Vd:X[u].s.aj.length<=1000000):
  () 353 #[.agg (dy num dep y),db] w fun e w'=>e=.returned (.tuple #[])/\∃vm',ao w0 w' db ⟨some ⟨g,0,none⟩,X.length,cap⟩ pv ov mb (tm||y.m.after) (X.set u (J.dv X[u] y vm')) SP O PT nm D:=by
 have UH:=G.dlt;obtain⟨UX,UN,hg0⟩:=G.uI;have TM:Below w w ((w.alloc (.cells (dy num dep y) 368)).alloc (.cells #[(2:Int),(3:Int),(4:Int)] 177)):=((Oy _ _).alloc (Ow _) _).alloc zad _;have HC:Hid _:=di num dep k u [2,3,4] (w.heap.size+1) g cap (G.aq TM) hk hd hO VU hu (bU _ _ _) zac;have UI:((w.alloc (.cells (dy num dep y) 368)).alloc (.cells #[(2:Int),(3:Int),(4:Int)] 177)).heap[w.heap.size]?=some (.cells (dy num dep y) 368 (0,0)):=fk _ _ _;obtain⟨i0,hi,Ue,Ub,Uf⟩:=PZ Fi;clear hd VU hk hO;have TW:w.heap.size<((w.alloc (.cells (dy num dep y) 368)).alloc (.cells #[(2:Int),(3:Int),(4:Int)] 177)).heap.size:=zae;unfold dy at TM HC UI TW⊢;go_enter func353,ntmps353;go_wp2_with fail;refine OI HC.out ?_;rintro e w4 h4;unfold aA at h4;rw[OB hh]at h4;obtain⟨rfl,TY⟩:=h4;have Ui:=TM.trans (TY.mono TM.size);have G4:=G.aq Ui;have hbx4:=(TY.block _ TW).trans UI;have U5:=Ui.size;obtain⟨M,XJ,Vh,Vi⟩:=(G4.deep u hu).aj;have hMl:M.length<=1000000:=by rw[<- XJ]at Vd;simpa using Vd
 have c7:w4.cell? (g,u*8+7)=some (.slice X[u].vm.a X[u].vm.n X[u].vm.c):=G4.uX hu 7 _ rfl;have f7:w4.frozen? (g,u*8+7)=false:=P7 (aC G4.states (OL _)) _;have e2:w4.cell? (w,2)=some ↑y.m.event:=zaX;have e3:w4.cell? (w,3)=some (.bool y.m.after):=zaX;have e4:w4.cell? (w,4)=some (.int .u64 y.m.delay):=zaX;have e5:w4.cell? (w,5)=some ↑y.m.to:=zaX;have e6:w4.cell? (w,6)=some (.slice y.v.a y.v.n y.v.c):=zaX;have hgl4:g<w4.heap.size:=OS UN U5;have hlw4:w.heap.size<w4.heap.size:=(Ov.1 hbx4).1;have hw04:w0.heap.size<=w4.heap.size:=G4.bel.size;have Xe:Hid (some g≠X[u].vm.v.ownBlock):=fun e=>by
  obtain⟨c,hc⟩:=bS Vh _ e.symm;obtain⟨c',TZ⟩:=bS G4.states g rfl;exact zfO
 have HB4:Hid _:=hbx4;clear UI hbx4 HC hh TW TM;dsimp only
 go_upto_region 2 with fail
 go_cut[] (fun wx=>∃vm',ao w0 wx db ⟨some ⟨g,0,none⟩,X.length,cap⟩ pv ov mb tm (X.set u (J.dv X[u] y vm')) SP O PT nm D/\wx.heap[w.heap.size]?=some (.cells (dy num dep y) 368 (0,0)))
 case first=>
  go_region_law
   ((refine step_append_lies _ zaf _ _ _ zaf w0.heap.size 260 i0 _ 5 72 underlying186 hi Ue Ub Uf rfl zac (.slice X[u].vm.a X[u].vm.n X[u].vm.c) M.length (M.flatMap J.bl) zaf ((QH Vh _).drew) ⟨w4,0,none⟩ 1 1 (J.bl y) zaf zaf (World.news_of_block (cs:=(J.bl y).toArray) (t:=260) (fr:=(0,0)) (OH w4 _)) (by simp[J.bl,Value.oneCell']) zaa zah zaa zae (w4.heap.size+1) zad ?_;intro g5 cap5 w5 TQ L8 Uy U2;have hfz5:=((L8.frozen_far ⟨g,u*8+7,none⟩ zae Xe.out).trans ((((Oy w4 w4).alloc (Ow _) _).drew).frozen (p:=(g,u*8+7)) hgl4)).trans f7;have hcc5:=((L8.cell_far ⟨g,u*8+7,none⟩ zae Xe.out).trans ((((Oy w4 w4).alloc (Ow _) _).drew).cell (p:=(g,u*8+7)) hgl4)).trans c7))
  all_goals(
   go_wp2_with fail;go_meet
   case rel=>
    have UM:Below w4 w4 ((w4.alloc (.cells #[y.m.event,y.m.after,.int .u64 y.m.delay,y.m.to,.slice y.v.a y.v.n y.v.c] 260)).drew):=((Oy _ _).alloc (Ow _) _).drew;refine⟨⟨some ⟨g5,0,none⟩,M.length+1,cap5⟩,G4.addMove (vm':=⟨some ⟨g5,0,none⟩,M.length+1,cap5⟩) (y:=y) (M:=M) UM hu XJ Vh Vi L8 TQ ?_ hy,?_⟩
    ·exact ze5
    ·have t1:Touch 260 _ w5:=dP (World.ownsRow.drew (QH Vh _)) L8;have b5:=bR (bR HB4.out (cT (e:=260) UM) zac) t1 zac;rw[(aa w5 g (u*8+7) _).block w.heap.size zaa];exact b5)
 case rest=>
  obtain⟨vm',G6,hbx6⟩:=hcut;obtain⟨W6,hW6⟩:∃y:World,y=wc:=⟨wc,rfl⟩;subst hW6;obtain⟨d0,d1,d2,d3,d4⟩:=G6.cells;have fd:=G6.frozen 4;have hl6:=G6.dlt;have e3':W6.cell? (w,3)=some (.bool y.m.after):=by rw[OA W6 _ _ _ _ _ hbx6];rfl
  have HG:Hid _:=G6;clear e2 e3 e4 e5 e6 c7 f7 hi Ue Ub Uf XJ Vh Vi;cases tm with
  |true=>
   go_wp2;go_end0;exact⟨rfl,vm',by simpa using HG.out.AX true (Oy _ _)⟩
  |false=>
   go_wp2;go_end0;exact⟨rfl,vm',by simpa using HG.out.AX y.m.after (Oy _ _)⟩
