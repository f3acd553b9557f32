import Derived.Test.YtkgklodamkkpgaaGreatDoorM11
set_option maxRecDepth 100000
set_option maxHeartbeats 8000000
namespace Go.Proofs.YtkgklodamkkpgaaGreatDoor
variable {zp:Prop}
theorem zdr (h:zp:=by
 go_simp;refine hK _ _ ?_;clear hK K;refine zA 6 rfl fun K hK => ?_;go_simp
 (refine (ox num dep G1 h hd).mono ?_;rintro e w4 h4;obtain ⟨hb,b,h5,h6,rfl⟩:=hend _ _ h4;dsimp only;exact ⟨rfl,hb,b,h5,h6,rfl⟩)):zp:=h
theorem zdL (h:zp:=by
 rintro e w1 ⟨hb,b,h4,h5,rfl⟩;dsimp only;refine ⟨rfl,?_⟩;exact ⟨(Pa ((MY w w).alloc (MR _) _) _).trans (hb.mono zad),b,zaQ,h5,rfl⟩):zp:=h
theorem zdM (h:zp:=by
 intro a ha hap;unfold apart at hap ⊢
 rcases hat with e | e
 ·rw [e];exact hap
 ·rw [e];refine .inr (fun e2 => ?_);have:=ha _ e2;omega):zp:=h
theorem zdX (h:zp:=by
 unfold apart at h ⊢
 rcases h with h | h
 ·rw [h];cases b.v.ownBlock <;> simp
 ·exact .inr (fun e=>h e.symm)):zp:=h
theorem zeS (h:zp:=by
 rcases hat with h | h
 ·exact .inl h.symm
 ·exact .inr zax):zp:=h
theorem zeV (h:zp:=by
 go_enter func98,ntmps98;go_wp2;go_ret;exact ⟨rfl,rfl⟩):zp:=h
theorem zfg (h:zp:=by
 simp [Ref.Sl.v] at h;rw [h0];exact h.2.1):zp:=h
theorem zft (h:zp:=by
 simp [Ref.Sl.v] at h;exact h.2.1):zp:=h
theorem zfy (h:zp:=by
 rw [hc] at hc';simp at hc'):zp:=h
theorem zax (h:zp:=by rw [h];simp [Ref.Sl.v,Value.ownBlock]):zp:=h
theorem zaW (h:zp:=by rw [M0 w4 _ _ _ _ _ hbx4];rfl):zp:=h
open Tryz
variable {e e':TypeId} {b g base size n j u cap i:Nat} {c:Array Value} {w' w5 wc:World} {fz:Nat×Nat} {v:Value} {xs:List Value}
section
open Go.RowKit
namespace Pro
def al (s:Ref.State):Int:=if s.word.toList == Ref.cU then 0 else if s.word.toList == Ref.aM then 1 else if s.word.toList == Ref.b7 then 2 else if s.deep then 4 else 3
structure DS where
 s:Ref.State
 vp:Ref.Sl
 ve:Ref.Sl
 vl:Ref.Sl
 vm:Ref.Sl
def aO (x:DS):List Value:=[.int .i64 (al x.s),x.s.name,(x.s.depth:Int),(x.s.up:Int),.slice x.vp.a x.vp.n x.vp.c,.slice x.ve.a x.ve.n x.ve.c,.slice x.vl.a x.vl.n x.vl.c,.slice x.vm.a x.vm.n x.vm.c]
structure PV where
 m:Ref.Move
 v:Ref.Sl
def bf (x:PV):List Value:=[x.m.event,x.m.after,.int .u64 x.m.delay,x.m.to,.slice x.v.a x.v.n x.v.c]
def iH (p:Int×Int):List Value:=[(p.1:Int),(p.2:Int)]
end Pro
structure Touch (e:TypeId) (w w':World):Prop where
 size:w.heap.size<=w'.heap.size
 block:∀ k,k<w.heap.size->(∀ c fz,w.heap[k]?≠some (.cells c e fz))->w'.heap[k]?=w.heap[k]?
theorem Touch.trans {a b c:World} (h:Touch e a b) (k:Touch e b c):Touch e a c :=
 ⟨MX h.size k.size,fun i hi hn=>by
  have h1:=h.block i hi hn;rw [k.block i (Nq hi h.size) (by rw [h1];exact hn),h1]⟩
theorem cG {w:World} (h:Below w w w'):Touch e w w':=⟨h.size,fun k hk _=>h.block k hk⟩
theorem iU {w:World} (h:gY g w w') (hg:w.heap[g]?=some (.cells c e fz)):Touch e w w' :=
 ⟨zbi,fun k _ hn=>h.block k (fun e0=>by subst e0;exact hn _ _ hg)⟩
theorem bQ {w:World} (h:w.ownsRow base e size v n xs) (g:Nat) (hg:v.ownBlock=some g):∃ c,w.heap[g]?=some (.cells c e (0,0)):=by
 rcases h.2 with ⟨hv,_⟩ | ⟨k,cap,cur,hv,_,hk,_⟩
 ·rw [hv] at hg;simp [Value.ownBlock] at hg
 ·rw [hv] at hg;simp [Value.ownBlock] at hg;subst hg;exact ⟨_,hk⟩
theorem dD {w:World} (h:w.ownsRow base e size v n xs) (hg:w.grownBy w' v.ownBlock):Touch e w w' :=
 ⟨hg.size,fun k hk hn=>hg.block k hk (fun e0=>by obtain ⟨c,hc⟩:=bQ h k e0.symm;exact hn _ _ hc)⟩
theorem ag {w:World} (h:w.ownsRow base e' size v n xs) (T:Touch e w w') (hne:e'≠e):w'.ownsRow base e' size v n xs:=by
 refine ⟨h.1,?_⟩
 rcases h.2 with h' | ⟨k,cap,cur,hv,hb,hk,r⟩
 ·exact .inl h'
 ·refine .inr ⟨k,cap,cur,hv,hb,?_,r⟩;rw [T.block k (MQ.1 hk).1 (fun c fz h'=>by rw [hk] at h';simp at h';exact hne h'.2.1)];exact hk
theorem bJ {H:Type} {k:TypeId} {P:Program} {R:Value->Option (DataW H×List MemPlace)} {D:DataW H} {w:World} (h:w.ownsMap P k R b n D) (T:Touch e w w'):w'.ownsMap P k R b n D:=by
 obtain ⟨es,clock,hb,r⟩:=h;refine ⟨es,clock,?_,r⟩;rw [T.block b (MQ.1 hb).1 (fun c fz h'=>by rw [hb] at h';cases h')];exact hb
theorem bO {w:World} (h:w.heap[g]?=some (.cells c e' fz)) (T:Touch e w w') (hne:e'≠e):w'.heap[g]?=some (.cells c e' fz):=by
 rw [T.block g (MQ.1 h).1 (fun c fz h'=>by rw [h] at h';simp at h';exact hne h'.2.1)];exact h
structure yg (w0 w:World) (x:Pro.DS):Prop where
 aj:∃ M:List Pro.PV,M.map (·.m)=x.s.aj/\w.ownsRow w0 239 5 x.vm.v M.length (M.flatMap Pro.bf)/\∀ y∈M,w0.ownsRow 0 250 1 y.v.v y.m.aw.length (y.m.aw.map bg)
 enter:w0.ownsRow 0 250 1 x.ve.v x.s.enter.length (x.s.enter.map bg)
 leave:w0.ownsRow 0 250 1 x.vl.v x.s.leave.length (x.s.leave.map bg)
def Bh (sv pv ov:Ref.Sl) (mb:Nat) (tm:Bool):Array Value:=#[.slice sv.a sv.n sv.c,.slice pv.a pv.n pv.c,.slice ov.a ov.n ov.c,.map (some mb),tm]
def apart (a b:Ref.Sl):Prop:=a.v.ownBlock=none\/a.v.ownBlock≠b.v.ownBlock
abbrev jz (w:World) (mb nm:Nat) (D:DataW Nat):Prop:=w.ownsMap prog 9 (plainElem prog 3) mb nm D
structure aq (w0 w:World) (db:Nat) (sv pv ov:Ref.Sl) (mb:Nat) (tm:Bool) (X:List Pro.DS) (SP:List (Int×Int)) (O:List Nat) (PT:Nat->List Nat) (nm:Nat) (D:DataW Nat):Prop where
 bel:Below w0 w0 w
 hdb:w0.heap.size<=db
 hmb:w0.heap.size<=mb
 draft:w.heap[db]?=some (.cells (Bh sv pv ov mb tm) 154 (0,0))
 states:w.ownsRow w0 171 8 sv.v X.length (X.flatMap Pro.aO)
 iR:w.ownsRow w0 223 2 pv.v SP.length (SP.flatMap Pro.iH)
 opens:w.ownsRow w0 3 1 ov.v O.length (O.flatMap ep)
 parts:∀ i (h:i<X.length),w.ownsRow w0 3 1 X[i].vp.v (PT i).length ((PT i).flatMap ep)
 apartO:∀ i (h:i<X.length),apart ov X[i].vp
 apartI:∀ i j (hi:i<X.length) (hj:j<X.length),i≠j->apart X[i].vp X[j].vp
 deep:∀ i (h:i<X.length),yg w0 w X[i]
 apartM:∀ i j (hi:i<X.length) (hj:j<X.length),i≠j->apart X[i].vm X[j].vm
 map:jz w mb nm D
variable {w0 w:World} {db mb nm:Nat} {sv pv ov:Ref.Sl} {tm:Bool} {X:List Pro.DS} {SP:List (Int×Int)} {O:List Nat} {PT:Nat->List Nat} {D:DataW Nat}
theorem yg.fh {x:Pro.DS} (h:yg w0 w x) (T:Touch e w w') (hne:239≠e):yg w0 w' x :=
 ⟨let ⟨M,h1,h2,h3⟩:=h.aj;⟨M,h1,ag h2 T hne,h3⟩,h.enter,h.leave⟩
theorem aq.ao (G:aq w0 w db sv pv ov mb tm X SP O PT nm D) (hb:Below w w w'):aq w0 w' db sv pv ov mb tm X SP O PT nm D :=
 have T:Touch 0 w w':=cG hb
 ⟨G.bel.trans (hb.mono G.bel.size),G.hdb,G.hmb,bO G.draft T zac,ag G.states T zac,ag G.iR T zac,ag G.opens T zac,fun i h=>ag (G.parts i h) T zac,G.apartO,G.apartI,fun i h=>(G.deep i h).fh T zac,G.apartM,bJ G.map T⟩
theorem aq.dlt (G:aq w0 w db sv pv ov mb tm X SP O PT nm D):db<w.heap.size:=(MQ.1 G.draft).1
theorem aq.KL (G:aq w0 w db sv pv ov mb tm X SP O PT nm D):sv.n=X.length:=by
 rcases G.states.2 with ⟨h,h0⟩ | ⟨g,cap,cur,h,_⟩
 ·exact zfg
 ·exact zft
theorem aq.KJ (G:aq w0 w db sv pv ov mb tm X SP O PT nm D):ov.n=O.length:=by
 rcases G.opens.2 with ⟨h,h0⟩ | ⟨g,cap,cur,h,_⟩
 ·exact zfg
 ·exact zft
theorem aq.Mn (G:aq w0 w db sv pv ov mb tm X SP O PT nm D):pv.n=SP.length:=by
 rcases G.iR.2 with ⟨h,h0⟩ | ⟨g,cap,cur,h,_⟩
 ·exact zfg
 ·exact zft
theorem aq.cells (G:aq w0 w db sv pv ov mb tm X SP O PT nm D):w.cell? db=some (.slice sv.a sv.n sv.c)/\w.cell? ⟨db,1,none⟩=some (.slice pv.a pv.n pv.c)/\w.cell? ⟨db,2,none⟩=some (.slice ov.a ov.n ov.c)/\w.cell? ⟨db,3,none⟩=some (.map (some mb))/\w.cell? ⟨db,4,none⟩=some (.bool tm):=by
 have h:=G.draft;refine ⟨?_,?_,?_,?_,?_⟩ <;> rw [M0 w _ _ _ _ _ h] <;> rfl
theorem aq.frozen (G:aq w0 w db sv pv ov mb tm X SP O PT nm D) (j:Nat):w.frozen? ⟨db,j,none⟩=false:=by simp [World.frozen?,G.draft]
theorem aq.oK {u:Value} {cs:Array Value} (hd:w5.heap[db]?=some (.cells cs 154 (0,0))):(w5.setCell ⟨db,j,none⟩ u).heap[db]?=some (.cells (cs.setIfInBounds j u) 154 (0,0))/\Touch 154 w5 (w5.setCell ⟨db,j,none⟩ u) :=
 ⟨Nn w5 db j _ _ u hd,iU (aa _ _ _ _) hd⟩
theorem aq.yp {sv':Ref.Sl} {x:Pro.DS} (G:aq w0 w db sv pv ov mb tm X SP O PT nm D) (hb:Below w w wc) (hg:wc.grownBy w5 sv.v.ownBlock)
  (hown:w5.ownsRow w0 171 8 sv'.v (X.length+1) (X.flatMap Pro.aO++Pro.aO x)) (hvp:x.vp=Ref.Sl.nil) (hve:x.ve=Ref.Sl.nil) (hvl:x.vl=Ref.Sl.nil) (hvm:x.vm=Ref.Sl.nil) (hE:x.s.enter=[]) (hL:x.s.leave=[]) (hM:x.s.aj=[]) (hPT:PT X.length=[]) :
  aq w0 (w5.setCell db sv'.v) db sv' pv ov mb tm (X++[x]) SP O PT nm D:=by
 have Gc:=G.ao hb;have T1:=dD Gc.states hg;have d5:=bO Gc.draft T1 zac;obtain ⟨d6,T2⟩:=aq.oK (j:=0) (u:=sv'.v) d5;have hlt:=fun k h=>(ND Gc.states k h).1;have nilB:Ref.Sl.nil.v.ownBlock=none:=rfl;refine ⟨?_,G.hdb,G.hmb,d6,?_,ag (ag Gc.iR T1 zac) T2 zac,ag (ag Gc.opens T1 zac) T2 zac,?_,?_,?_,?_,?_,bJ (bJ Gc.map T1) T2⟩
 ·exact (aa w5 db 0 sv'.v).below (Gc.bel.grown hg Gc.bel.size hlt) G.hdb
 ·rw [Nj,NQ];exact ag zbo T2 zac
 ·intro i hi;by_cases h:i<X.length
  ·rw [OD h];exact ag (ag (Gc.parts i h) T1 zac) T2 zac
  ·have e:i=X.length:=zaP;subst e;rw [Ow (MR _)];simp only [Nat.sub_self,List.getElem_cons_zero];rw [hvp,hPT];exact N4 _ _ _ _
 ·intro i hi;by_cases h:i<X.length
  ·rw [OD h];exact G.apartO i h
  ·have e:i=X.length:=zaP;subst e;rw [Ow (MR _)];simp only [Nat.sub_self,List.getElem_cons_zero];rw [hvp];unfold apart;rw [nilB];cases ov.v.ownBlock <;> simp
 ·intro i j hi hj hij;by_cases h:i<X.length
  ·rw [OD h];by_cases h':j<X.length
   ·rw [OD h'];exact G.apartI i j h h' hij
   ·have e:j=X.length:=by simp at hj;omega
    subst e;rw [Ow (MR _)];simp only [Nat.sub_self,List.getElem_cons_zero];rw [hvp];unfold apart;rw [nilB];cases X[i].vp.v.ownBlock <;> simp
  ·have e:i=X.length:=zaP;subst e;rw [Ow (MR _)];simp only [Nat.sub_self,List.getElem_cons_zero];rw [hvp];exact .inl nilB
 ·intro i hi;by_cases h:i<X.length
  ·rw [OD h];exact ((Gc.deep i h).fh T1 zac).fh T2 zac
  ·have e:i=X.length:=zaP;subst e;rw [Ow (MR _)];simp only [Nat.sub_self,List.getElem_cons_zero];refine ⟨⟨[],by rw [hM];rfl,by rw [hvm];exact N4 _ _ _ _,fun y hy=>absurd hy zad⟩,?_,?_⟩
   ·rw [hve,hE];exact N4 _ _ _ _
   ·rw [hvl,hL];exact N4 _ _ _ _
 ·intro i j hi hj hij;by_cases h:i<X.length
  ·rw [OD h];by_cases h':j<X.length
   ·rw [OD h'];exact G.apartM i j h h' hij
   ·have e:j=X.length:=by simp at hj;omega
    subst e;rw [Ow (MR _)];simp only [Nat.sub_self,List.getElem_cons_zero];rw [hvm];unfold apart;rw [nilB];cases X[i].vm.v.ownBlock <;> simp
  ·have e:i=X.length:=zaP;subst e;rw [Ow (MR _)];simp only [Nat.sub_self,List.getElem_cons_zero];rw [hvm];exact .inl nilB
theorem aq.CN {pv':Ref.Sl} {q:Int×Int} (G:aq w0 w db sv pv ov mb tm X SP O PT nm D) (hb:Below w w wc) (hg:wc.grownBy w5 pv.v.ownBlock)
  (hown:w5.ownsRow w0 223 2 pv'.v (SP.length+1) (SP.flatMap Pro.iH++Pro.iH q)) :
  aq w0 (w5.setCell ⟨db,1,none⟩ pv'.v) db sv pv' ov mb tm X (SP++[q]) O PT nm D:=by
 have Gc:=G.ao hb;have T1:=dD Gc.iR hg;have d5:=bO Gc.draft T1 zac;obtain ⟨d6,T2⟩:=aq.oK (j:=1) (u:=pv'.v) d5;have hlt:=fun k h=>(ND Gc.iR k h).1;refine ⟨(aa w5 db 1 pv'.v).below (Gc.bel.grown hg Gc.bel.size hlt) G.hdb,G.hdb,G.hmb,d6,ag (ag Gc.states T1 zac) T2 zac,?_,ag (ag Gc.opens T1 zac) T2 zac,fun i h=>ag (ag (Gc.parts i h) T1 zac) T2 zac,G.apartO,G.apartI,fun i h=>((Gc.deep i h).fh T1 zac).fh T2 zac,G.apartM,bJ (bJ Gc.map T1) T2⟩;rw [Nj,NQ];exact ag zbo T2 zac
theorem aq.qL {ov':Ref.Sl} {O':List Nat} (G:aq w0 w db sv pv ov mb tm X SP O PT nm D) (hb:Below w w wc) (hg:wc.grownBy w5 ov.v.ownBlock)
  (hown:w5.ownsRow w0 3 1 ov'.v O'.length (O'.flatMap ep)) (hat:ov'.v.ownBlock=ov.v.ownBlock\/ov'.v.ownBlock=some wc.heap.size) :
  aq w0 (w5.setCell ⟨db,2,none⟩ ov'.v) db sv pv ov' mb tm X SP O' PT nm D:=by
 have Gc:=G.ao hb;have T1:=dD Gc.opens hg;have d5:=bO Gc.draft T1 zac;obtain ⟨d6,T2⟩:=aq.oK (j:=2) (u:=ov'.v) d5;have hlt:=fun k h=>(ND Gc.opens k h).1;refine ⟨(aa w5 db 2 ov'.v).below (Gc.bel.grown hg Gc.bel.size hlt) G.hdb,G.hdb,G.hmb,d6,ag (ag Gc.states T1 zac) T2 zac,ag (ag Gc.iR T1 zac) T2 zac,ag hown T2 zac,fun i h => ?_,fun i h => ?_,G.apartI,fun i h=>((Gc.deep i h).fh T1 zac).fh T2 zac,G.apartM,bJ (bJ Gc.map T1) T2⟩
 ·have hap:=G.apartO i h;refine ag ((Gc.parts i h).kept hg ?_) T2 zac
  rcases hap with h1 | h1
  ·rw [h1];cases X[i].vp.v.ownBlock <;> simp
  ·exact .inr (fun e=>h1 e.symm)
 ·have hap:=G.apartO i h;unfold apart at hap ⊢
  rcases hat with e | e
  ·rw [e];exact hap
  ·rw [e];refine .inr (fun e2 => ?_);have:=(ND (Gc.parts i h) _ e2.symm).2;omega
theorem pN {W:World} {x':Pro.DS} (hs:w5.ownsRow w0 171 8 (.slice g X.length cap) X.length (X.flatMap Pro.aO)) (hu:u<X.length) (hj:j<8)
  (hx:Pro.aO x'=(Pro.aO X[u]).set j v) (hW:W=w5.setCell ⟨g,u*8+j,none⟩ v) :
  W.ownsRow w0 171 8 (.slice g X.length cap) (X.set u x').length ((X.set u x').flatMap Pro.aO)/\Touch 171 w5 W/\gY g w5 W/\w0.heap.size<=g:=by
 rcases hs.2 with ⟨h,_⟩ | ⟨g',cap',cur,h,hb,hg,h1,h2,h3,h4⟩
 ·cases h
 ·simp only [Value.slice.injEq,Option.some.injEq,Addr.mk.injEq,and_true,true_and] at h;obtain ⟨rfl,rfl⟩:=h;subst hW;have oo:=aa w5 g (u*8+j) v;refine ⟨⟨?_,.inr ⟨g,cap,cur.setIfInBounds (u*8+j) v,by rw [Nl],hb,Nn w5 g _ _ _ v hg,by rw [Nl];exact h1,h2,za3,?_⟩⟩,iU oo hg,oo,hb⟩
  ·exact Ref.jJ (f:=Pro.aO) (n:=8) (fun _=>rfl) _
  ·rw [P0,Nl,List.take_set,h4];exact rL (f:=Pro.aO) (n:=8) (fun _=>rfl) X u j v x' hj hu hx
theorem aq.Cl (G:aq w0 w db sv pv ov mb tm X SP O PT nm D) (h:0<X.length):∃ g cap,sv=⟨some ⟨g,0,none⟩,X.length,cap⟩:=by
 obtain ⟨g,cap,e⟩:=Ref.eZ G.states h;refine ⟨g,cap,?_⟩;cases sv
 simp [Ref.Sl.v] at e;simp [e.1,e.2.1,e.2.2]
theorem aq.addPart {vp':Ref.Sl} (G:aq w0 w db ⟨some ⟨g,0,none⟩,X.length,cap⟩ pv ov mb tm X SP O PT nm D) (hb:Below w w wc) (hu:u<X.length) (hg:wc.grownBy w5 X[u].vp.v.ownBlock)
  (hown:w5.ownsRow w0 3 1 vp'.v (PT u++[n]).length ((PT u++[n]).flatMap ep)) (hat:vp'.v.ownBlock=X[u].vp.v.ownBlock\/vp'.v.ownBlock=some wc.heap.size) :
  aq w0 (w5.setCell ⟨g,u*8+4,none⟩ vp'.v) db ⟨some ⟨g,0,none⟩,X.length,cap⟩ pv ov mb tm (X.set u { X[u] with vp:=vp' }) SP O (fun i=>if i=u then PT u++[n] else PT i) nm D:=by
 have Gc:=G.ao hb;have T1:=dD (Gc.parts u hu) hg;have d5:=bO Gc.draft T1 zac;have hlt:=fun k h=>(ND (Gc.parts u hu) k h).1;obtain ⟨hs,T2,oo,hgw⟩:=pN (x':={ X[u] with vp:=vp' }) (j:=4) (v:=vp'.v) (ag Gc.states T1 zac) hu zac rfl rfl;have hfresh:∀ (a:Ref.Sl),(∀ k,a.v.ownBlock=some k->k<wc.heap.size)->apart a X[u].vp->apart a vp':=by
  exact zdM
 have hsym:∀ a b:Ref.Sl,apart a b->apart b a:=by
  intro a b h;exact zdX
 refine ⟨oo.below (Gc.bel.grown hg Gc.bel.size hlt) hgw,G.hdb,G.hmb,bO d5 T2 zac,hs,ag (ag Gc.iR T1 zac) T2 zac,ag (Gc.opens.kept hg (by
   have:=G.apartO u hu;exact this)) T2 zac,?_,?_,?_,?_,?_,bJ (bJ Gc.map T1) T2⟩
 ·intro i hi;rw [Nl] at hi;rw [Oh];by_cases e:u=i
  ·subst e;simp only [if_true];exact ag hown T2 zac
  ·rw [M4 e,M4 (fun h=>e h.symm)];exact ag ((Gc.parts i hi).kept hg (G.apartI i u hi hu (fun h=>e h.symm))) T2 zac
 ·intro i hi;rw [Nl] at hi;rw [Oh];by_cases e:u=i
  ·subst e;simp only [if_true];exact hfresh ov (fun k h=>(ND Gc.opens k h).2) (G.apartO u hu)
  ·rw [M4 e];exact G.apartO i hi
 ·intro i j hi hj hij;rw [Nl] at hi hj;rw [Oh,Oh];by_cases e:u=i
  ·subst e;simp only [if_true];rw [M4 hij];exact hsym _ _ (hfresh X[j].vp (fun k h=>(ND (Gc.parts j hj) k h).2) (G.apartI j u hj hu (fun h=>hij h.symm)))
  ·rw [M4 e];by_cases e2:u=j
   ·subst e2;simp only [if_true];exact hfresh X[i].vp (fun k h=>(ND (Gc.parts i hi) k h).2) (G.apartI i u hi hu hij)
   ·rw [M4 e2];exact G.apartI i j hi hj hij
 ·intro i hi;rw [Nl] at hi;rw [Oh];by_cases e:u=i
  ·subst e;simp only [if_true];have:=((Gc.deep u hu).fh T1 zac).fh T2 zac;exact ⟨this.aj,this.enter,this.leave⟩
  ·rw [M4 e];exact ((Gc.deep i hi).fh T1 zac).fh T2 zac
 ·intro i j hi hj hij;rw [Nl] at hi hj;rw [Oh,Oh];have e1:(if u=i then { X[u] with vp:=vp' } else X[i]).vm=X[i].vm:=by
   split
   ·rename_i e;subst e;rfl
   ·rfl
  have e2:(if u=j then { X[u] with vp:=vp' } else X[j]).vm=X[j].vm:=by
   split
   ·rename_i e;subst e;rfl
   ·rfl
  rw [e1,e2];exact G.apartM i j hi hj hij
variable {w0 w:World} {db mb nm:Nat} {sv pv ov:Ref.Sl} {tm:Bool} {X:List Pro.DS} {SP:List (Int×Int)} {O:List Nat} {PT:Nat->List Nat} {D:DataW Nat}
namespace Pro
def dd (x:DS) (y:PV) (v:Ref.Sl):DS:={ x with s:={ x.s with aj:=x.s.aj++[y.m] },vm:=v }
def gH (x:DS) (i:Int) (A:List Ref.Act) (v:Ref.Sl):DS:={ x with s:={ x.s with has0:=i,enter:=A },ve:=v }
def gI (x:DS) (i:Int) (A:List Ref.Act) (v:Ref.Sl):DS:={ x with s:={ x.s with has1:=i,leave:=A },vl:=v }
end Pro
theorem AT {a b:Ref.Sl} (h:apart a b):apart b a:=by
 exact zdX
theorem lM (hu:u<X.length) (hi:i<X.length) {x':Pro.DS} (h:x'.vp=X[u].vp):((X.set u x')[i]'(by rw [Nl];exact hi)).vp=X[i].vp:=by
 rw [Oh];split
 ·rename_i e;subst e;exact h
 ·rfl
theorem Il (hu:u<X.length) (hi:i<X.length) {x':Pro.DS} (h:x'.vm=X[u].vm):((X.set u x')[i]'(by rw [Nl];exact hi)).vm=X[i].vm:=by
 rw [Oh];split
 ·rename_i e;subst e;exact h
 ·rfl
theorem aq.addMove {vm':Ref.Sl} {y:Pro.PV} {M:List Pro.PV} (G:aq w0 w db ⟨some ⟨g,0,none⟩,X.length,cap⟩ pv ov mb tm X SP O PT nm D) (hb:Below w w wc) (hu:u<X.length)
  (hM1:M.map (·.m)=X[u].s.aj) (hM2:w.ownsRow w0 239 5 X[u].vm.v M.length (M.flatMap Pro.bf)) (hM3:∀ y∈M,w0.ownsRow 0 250 1 y.v.v y.m.aw.length (y.m.aw.map bg))
  (hg:wc.grownBy w5 X[u].vm.v.ownBlock) (hown:w5.ownsRow w0 239 5 vm'.v (M.length+1) (M.flatMap Pro.bf++Pro.bf y)) (hat:vm'.v.ownBlock=X[u].vm.v.ownBlock\/vm'.v.ownBlock=some wc.heap.size)
  (hy:w0.ownsRow 0 250 1 y.v.v y.m.aw.length (y.m.aw.map bg)) :
  aq w0 (w5.setCell ⟨g,u*8+7,none⟩ vm'.v) db ⟨some ⟨g,0,none⟩,X.length,cap⟩ pv ov mb tm (X.set u (Pro.dd X[u] y vm')) SP O PT nm D:=by
 have Gc:=G.ao hb;have hM2c:wc.ownsRow w0 239 5 X[u].vm.v M.length (M.flatMap Pro.bf):=ag hM2 (cG (e:=0) hb) zac;have T1:=dD hM2c hg;have d5:=bO Gc.draft T1 zac;have hlt:=fun k h=>(ND hM2c k h).1;obtain ⟨hs,T2,oo,hgw⟩:=pN (x':=Pro.dd X[u] y vm') (j:=7) (v:=vm'.v) (ag Gc.states T1 zac) hu zac rfl rfl;have hfresh:∀ (a:Ref.Sl),(∀ k,a.v.ownBlock=some k->k<wc.heap.size)->apart a X[u].vm->apart a vm':=by
  exact zdM
 have hltM:∀ i (h:i<X.length) k,X[i].vm.v.ownBlock=some k->k<wc.heap.size:=fun i h k hk=>by
  obtain ⟨M',_,h2,_⟩:=(Gc.deep i h).aj;exact (ND h2 k hk).2
 refine ⟨oo.below (Gc.bel.grown hg Gc.bel.size hlt) hgw,G.hdb,G.hmb,bO d5 T2 zac,hs,ag (ag Gc.iR T1 zac) T2 zac,ag (ag Gc.opens T1 zac) T2 zac,?_,?_,?_,?_,?_,bJ (bJ Gc.map T1) T2⟩
 ·intro i hi;rw [Nl] at hi;rw [lM hu hi (show (Pro.dd X[u] y vm').vp=X[u].vp from rfl)];exact ag (ag (Gc.parts i hi) T1 zac) T2 zac
 ·intro i hi;rw [Nl] at hi;rw [lM hu hi (show (Pro.dd X[u] y vm').vp=X[u].vp from rfl)];exact G.apartO i hi
 ·intro i j hi hj hij;rw [Nl] at hi hj;rw [lM hu hi (show (Pro.dd X[u] y vm').vp=X[u].vp from rfl),lM hu hj (show (Pro.dd X[u] y vm').vp=X[u].vp from rfl)];exact G.apartI i j hi hj hij
 ·intro i hi;rw [Nl] at hi;rw [Oh];by_cases e:u=i
  ·subst e;simp only [if_true];refine ⟨⟨M++[y],?_,?_,?_⟩,(Gc.deep u hu).enter,(Gc.deep u hu).leave⟩
   ·rw [NW,hM1];rfl
   ·rw [Nj,NQ];have h:=ag hown T2 zac;simpa [Pro.dd] using h
   ·intro z hz
    rcases Nr.1 hz with h | h
    ·exact hM3 z h
    ·rw [M8.1 h];exact hy
  ·rw [M4 e];obtain ⟨M',h1,h2,h3⟩:=(Gc.deep i hi).aj;exact ⟨⟨M',h1,ag (h2.kept hg (G.apartM i u hi hu (fun h=>e h.symm))) T2 zac,h3⟩,(Gc.deep i hi).enter,(Gc.deep i hi).leave⟩
 ·intro i j hi hj hij;rw [Nl] at hi hj;rw [Oh,Oh];by_cases e:u=i
  ·subst e;simp only [if_true];rw [M4 hij];exact AT (hfresh X[j].vm (hltM j hj) (G.apartM j u hj hu (fun h=>hij h.symm)))
  ·rw [M4 e];by_cases e2:u=j
   ·subst e2;simp only [if_true];exact hfresh X[i].vm (hltM i hi) (G.apartM i u hi hu hij)
   ·rw [M4 e2];exact G.apartM i j hi hj hij
theorem aq.Dl {v':Ref.Sl} {x':Pro.DS} (G:aq w0 w db ⟨some ⟨g,0,none⟩,X.length,cap⟩ pv ov mb tm X SP O PT nm D) (hb:Below w w wc) (hu:u<X.length) (hj:j<8)
  (hx:Pro.aO x'=(Pro.aO X[u]).set j v'.v) (hvp:x'.vp=X[u].vp) (hvm:x'.vm=X[u].vm) (hmv:x'.s.aj=X[u].s.aj)
  (hE:w0.ownsRow 0 250 1 x'.ve.v x'.s.enter.length (x'.s.enter.map bg)) (hL:w0.ownsRow 0 250 1 x'.vl.v x'.s.leave.length (x'.s.leave.map bg)) :
  aq w0 (wc.setCell ⟨g,u*8+j,none⟩ v'.v) db ⟨some ⟨g,0,none⟩,X.length,cap⟩ pv ov mb tm (X.set u x') SP O PT nm D:=by
 have Gc:=G.ao hb;obtain ⟨hs,T2,oo,hgw⟩:=pN (x':=x') (j:=j) (v:=v'.v) Gc.states hu hj hx rfl;refine ⟨oo.below Gc.bel hgw,G.hdb,G.hmb,bO Gc.draft T2 zac,hs,ag Gc.iR T2 zac,ag Gc.opens T2 zac,?_,?_,?_,?_,?_,bJ Gc.map T2⟩
 ·intro i hi;rw [Nl] at hi;rw [lM hu hi hvp];exact ag (Gc.parts i hi) T2 zac
 ·intro i hi;rw [Nl] at hi;rw [lM hu hi hvp];exact G.apartO i hi
 ·intro i j hi hj hij;rw [Nl] at hi hj;rw [lM hu hi hvp,lM hu hj hvp];exact G.apartI i j hi hj hij
 ·intro i hi;rw [Nl] at hi;rw [Oh];by_cases e:u=i
  ·subst e;simp only [if_true];have h:=((Gc.deep u hu).fh T2 zac).aj;rw [<- hmv,<- hvm] at h;exact ⟨h,hE,hL⟩
  ·rw [M4 e];exact (Gc.deep i hi).fh T2 zac
 ·intro i j hi hj hij;rw [Nl] at hi hj;rw [Il hu hi hvm,Il hu hj hvm];exact G.apartM i j hi hj hij
theorem aq.Ad (b:Bool) (G:aq w0 w db sv pv ov mb tm X SP O PT nm D) (hb:Below w w wc):aq w0 (wc.setCell ⟨db,4,none⟩ (.bool b)) db sv pv ov mb b X SP O PT nm D:=by
 have Gc:=G.ao hb;obtain ⟨d6,T2⟩:=aq.oK (j:=4) (u := .bool b) Gc.draft;exact ⟨(aa wc db 4 (.bool b)).below Gc.bel G.hdb,G.hdb,G.hmb,d6,ag Gc.states T2 zac,ag Gc.iR T2 zac,ag Gc.opens T2 zac,fun i h=>ag (Gc.parts i h) T2 zac,G.apartO,G.apartI,fun i h=>(Gc.deep i h).fh T2 zac,G.apartM,bJ Gc.map T2⟩
theorem Fc {w:World} {es:Array MapEntry} {clock:Nat} (h:w.heap[b]?=some (.map es clock)) (hg:w.grownBy w' (some b)):∀ (k:Nat) (c:Array Value) (e:TypeId) (fz:Nat×Nat),w.heap[k]?=some (.cells c e fz)->w'.heap[k]?=some (.cells c e fz):=by
 intro k c e fz hk;rw [hg.block k (MQ.1 hk).1 (fun e0=>by cases e0;rw [h] at hk;cases hk)];exact hk
theorem ou {w:World} (h:w.ownsRow base e size v n xs) (hk:∀ (k:Nat) (c:Array Value) (e:TypeId) (fz:Nat×Nat),w.heap[k]?=some (.cells c e fz)->w'.heap[k]?=some (.cells c e fz)):w'.ownsRow base e size v n xs:=by
 refine ⟨h.1,?_⟩
 rcases h.2 with h' | ⟨k,cap,cur,hv,hb,hg,r⟩
 ·exact .inl h'
 ·exact .inr ⟨k,cap,cur,hv,hb,hk _ _ _ _ hg,r⟩
theorem aq.IS {nm':Nat} {D':DataW Nat} (G:aq w0 w db sv pv ov mb tm X SP O PT nm D) (hb:Below w w wc) (hg:wc.grownBy w' (some mb)) (hm:jz w' mb nm' D'):aq w0 w' db sv pv ov mb tm X SP O PT nm' D':=by
 have Gc:=G.ao hb;obtain ⟨es,clock,hmb,_⟩:=Gc.map;have hk:=Fc hmb hg;exact ⟨Gc.bel.grown hg Gc.bel.size (fun k h=>by cases h;exact G.hmb),G.hdb,G.hmb,hk _ _ _ _ Gc.draft,ou Gc.states hk,ou Gc.iR hk,ou Gc.opens hk,fun i h=>ou (Gc.parts i h) hk,G.apartO,G.apartI,fun i h=>⟨let ⟨M,h1,h2,h3⟩:=(Gc.deep i h).aj;⟨M,h1,ou h2 hk,h3⟩,(Gc.deep i h).enter,(Gc.deep i h).leave⟩,G.apartM,hm⟩
variable {w0 w:World} {db mb nm:Nat} {sv pv ov:Ref.Sl} {tm:Bool} {X:List Pro.DS} {SP:List (Int×Int)} {O:List Nat} {PT:Nat->List Nat} {D:DataW Nat}
theorem aq.LD (G:aq w0 w db sv pv ov mb tm X SP O PT nm D) {k:Nat} (hk:k<O.length):∃ g cap,ov=⟨some ⟨g,0,none⟩,O.length,cap⟩/\w.cell? ⟨g,k,none⟩=some (.int .i64 O[k])/\O.length<=cap:=by
 obtain ⟨g,cap,e⟩:=Ref.eZ G.opens zaa;have h:=G.opens;rw [e] at h;have hc:=Row.cell (α:=Nat) (n:=1) (j:=0) (f:=ep) (fun _=>rfl) (aD h (Ni _)) zac hk;refine ⟨g,cap,?_,?_,?_⟩
 ·cases ov
  simp [Ref.Sl.v] at e;simp [e.1,e.2.1,e.2.2]
 ·simpa [ep] using hc
 ·rcases h.2 with ⟨h,_⟩ | ⟨g',cap',cur,h,_,_,hle,_⟩
  ·cases h
  ·simp at h;rw [h.2];exact hle
theorem ox (num:Int) (dep:Nat) (G:aq w0 w db sv pv ov mb tm X SP O PT nm D) (h:dep=0\/O.length<dep) (hd:dep<=1073741824) :
  () 351 #[db,.agg #[(num:Int),(dep:Int)]] w (aY 3 num w):=by
 obtain ⟨c0,c1,c2,c3,c4⟩:=G.cells;have hlt:=G.dlt;rw [G.KJ] at c2;by_cases h0:dep=0
 ·subst h0;go_enter func351,ntmps351
  go_upto_region 1 with fail
  go_quiet (fail)
  go_wp2_with fail;refine (aU num 0 3 _).mono ?_;exact zdL
 ·have h1:O.length<dep:=zaa;have hz:((dep:Int) == 0)=false:=zae;go_enter func351,ntmps351
  go_upto_region 1 with fail
  go_quiet (fail)
  go_wp2_with fail;refine (aU num dep 3 _).mono ?_;exact zdL
theorem vC (num:Int) (dep k:Nat) (G:aq w0 w db sv pv ov mb tm X SP O PT nm D) (hk:k<O.length) (hd:dep=k+1) (hO:O.length<=1073741824) :
  () 351 #[db,.agg #[(num:Int),(dep:Int)]] w fun e w'=>e = .returned (.int .i64 O[k])/\Below w w w':=by
 subst hd;obtain ⟨c0,c1,c2,c3,c4⟩:=G.cells;obtain ⟨g,cap,rfl,cO,hcap⟩:=G.LD hk;have hlt:=G.dlt;have hgl:=Np _ _ cO;have hz:((k:Int)+1 == 0)=false:=zae;have hgt:decide ((O.length:Int)<(k:Int)+1)=false:=zae;go_enter func351,ntmps351
 go_upto_region 1 with fail
 go_quiet (fail)
 go_wp2_with fail
 go_quiet (fail)
 go_wp2;go_ret;exact ⟨rfl,Pa (Pa ((MY w w).alloc (MR _) _) _) _⟩
theorem jo (k:Int) (w:World):() 98 #[(k:Int)] w fun e w'=>e = .returned (.bool (decide (k=3)||decide (k=4)))/\w'=w:=by
 by_cases h3:k=3
 ·subst h3;exact zeV
 ·by_cases h4:k=4
  ·subst h4;exact zeV
  ·have e3:(k == 3)=false:=za3;have e4:(k == 4)=false:=by simpa using h4
   go_enter func98,ntmps98;go_wp2;go_ret;exact ⟨by simp [h3,h4],rfl⟩
variable {w0 w:World} {db mb nm:Nat} {sv pv ov:Ref.Sl} {tm:Bool} {X:List Pro.DS} {SP:List (Int×Int)} {O:List Nat} {PT:Nat->List Nat} {D:DataW Nat}
theorem cR:(Tryz.prog.info? 171).map (·.size)=some 8:=zab
namespace Pro
def du (k:Int):Bool:=decide (k=3)||decide (k=4)
def holds (x:DS) (p:List Nat) (k:Int):Bool:=if al x.s=0 then !p.isEmpty || !du k else if al x.s=1 then !decide (k=2) else false
end Pro
theorem aq.ui (G:aq w0 w db ⟨some ⟨g,0,none⟩,X.length,cap⟩ pv ov mb tm X SP O PT nm D) (hu:u<X.length):w.rangeAt g (u*8) (Pro.aO X[u]) :=
 Row.range (f:=Pro.aO) (fun _=>rfl) (aD G.states (Ni _)) hu
theorem aq.KN (G:aq w0 w db sv pv ov mb tm X SP O PT nm D) (hu:u<X.length):X[u].vp.n=(PT u).length:=by
 rcases (G.parts u hu).2 with ⟨h,h0⟩ | ⟨g,cap,cur,h,_⟩
 ·exact zfg
 ·exact zft
theorem aq.tN (G:aq w0 w db ⟨some ⟨g,0,none⟩,X.length,cap⟩ pv ov mb tm X SP O PT nm D):X.length<=cap/\g<w.heap.size/\w0.heap.size<=g:=by
 rcases G.states.2 with ⟨h,_⟩ | ⟨g',cap',cur,h,hb,hg,hle,_⟩
 ·cases h
 ·simp [Ref.Sl.v] at h;obtain ⟨rfl,rfl⟩:=h;exact ⟨hle,(MQ.1 hg).1,hb⟩
theorem xp (k:Int):() 352 #[db,.int .i64 (-1),(k:Int)] w fun e w'=>e = .returned (.bool (!Pro.du k))/\Below w w w':=by
 go_enter func352,ntmps352;go_wp2_with fail;refine (jo k _).mono ?_;rintro e w9 ⟨rfl,hw9⟩;rw [hw9];clear hw9 w9;obtain ⟨h,hh⟩:∃ h,h=Pro.du k:=⟨_,rfl⟩;have hi:(decide (k=3)||decide (k=4))=h:=hh.symm;rw [hi];have HH:Hid _:=hh;clear hh hi;dsimp only;go_wp2;go_ret;exact ⟨by rw [<- HH.out];rfl,MY _ _⟩
theorem xq (k:Int) (u:Nat) (G:aq w0 w db sv pv ov mb tm X SP O PT nm D) (hu:u<X.length) (hX:X.length<=1073741824):() 352 #[db,(u:Int),(k:Int)] w fun e w'=>e = .returned (.bool (Pro.holds X[u] (PT u) k))/\Below w w w':=by
 obtain ⟨g,cap,rfl⟩:=G.Cl zaa;obtain ⟨c0,c1,c2,c3,c4⟩:=G.cells;have hrng:=G.ui hu;have hvp:=G.KN hu;obtain ⟨hcap,hgl,_⟩:=G.tN;have hdl:=G.dlt;have hneg:((u:Int) == -1)=false:=zad;obtain ⟨x,hx⟩:∃ x,x=X[u]:=⟨_,rfl⟩;rw [<- hx] at hrng hvp ⊢;clear hx G;rw [Pro.aO,hvp] at hrng;by_cases h0:Pro.al x.s=0
 ·have HV:Hid (Pro.holds x (PT u) k=(!(PT u).isEmpty || !Pro.du k)):=by unfold Hid Pro.holds;rw [M6 h0]
  rw [h0] at hrng;go_enter func352,ntmps352;by_cases hp:0<(PT u).length
  ·go_wp2_with (first
    | (refine Om rfl 171 (.tmp 18) rfl g (u*8) rfl _ _ hrng underlying171 rfl cR ?_)
    | (refine aI rfl 171 (.tmp 7) (.tmp 19) rfl 171 _ _ rfl rfl cR rfl rfl ?_))
   go_ret;exact ⟨by rw [HV.out];cases hq:PT u with | nil=>simp [hq] at hp | cons a b=>rfl,(MY _ _).alloc (MR _) _⟩
  ·have hp0:PT u=[]:=O1.1 zaa;rw [hp0] at hrng;go_wp2_with (first
    | (refine Om rfl 171 (.tmp 18) rfl g (u*8) rfl _ _ hrng underlying171 rfl cR ?_)
    | (refine aI rfl 171 (.tmp 7) (.tmp 19) rfl 171 _ _ rfl rfl cR rfl rfl ?_)
    | (go_at_call 98;refine (jo k _).mono ?_;rintro e w9 ⟨rfl,hw9⟩;rw [hw9];clear hw9 w9))
   go_ret;have e:(!decide (k=3) && !decide (k=4)) = !Pro.du k:=by unfold Pro.du;cases decide (k=3) <;> rfl
   refine ⟨?_,(MY _ _).alloc (MR _) _⟩;show Ending.returned (Value.bool (!decide (k=3) && !decide (k=4)))=_;rw [HV.out,hp0,e];rfl
 ·by_cases h1:Pro.al x.s=1
  ·have HV:Hid (Pro.holds x (PT u) k = !decide (k=2)):=by unfold Hid Pro.holds;rw [M4 h0,M6 h1]
   rw [h1] at hrng;go_enter func352,ntmps352;go_wp2_with (first
    | (refine Om rfl 171 (.tmp 18) rfl g (u*8) rfl _ _ hrng underlying171 rfl cR ?_)
    | (refine aI rfl 171 (.tmp 7) (.tmp 19) rfl 171 _ _ rfl rfl cR rfl rfl ?_))
   go_ret;refine ⟨?_,(MY _ _).alloc (MR _) _⟩;rw [HV.out];by_cases hk:k=2
   ·subst hk;rfl
   ·simp [hk]
  ·have HV:Hid (Pro.holds x (PT u) k=false):=by unfold Hid Pro.holds;rw [M4 h0,M4 h1]
   have e0:(Pro.al x.s == 0)=false:=by simpa using h0
   have e1:(Pro.al x.s == 1)=false:=by simpa using h1
   generalize Pro.al x.s=kk at *;go_enter func352,ntmps352;go_wp2_with (first
    | (refine Om rfl 171 (.tmp 18) rfl g (u*8) rfl _ _ hrng underlying171 rfl cR ?_)
    | (refine aI rfl 171 (.tmp 7) (.tmp 19) rfl 171 _ _ rfl rfl cR rfl rfl ?_))
   go_ret;exact ⟨by rw [HV.out];rfl,(MY _ _).alloc (MR _) _⟩
theorem bH (num dep:Int) (a:Option Addr) (n c:Nat) (g o:Nat) (a':Option Addr) (n' c':Nat) (hc:w.cell? ⟨g,o,none⟩=some (.slice a' n' c')) (hn:0<n') :
  () 361 #[.agg #[(num:Int),(dep:Int),.slice a n c],.pointer (some ⟨g,o,none⟩)] w (aY 3 num w):=by
 have hgl:=Np _ _ hc;go_enter func361,ntmps361;go_wp2_with fail;refine (aU num dep 3 _).mono ?_;rintro e w1 ⟨hb,b,h4,h5,rfl⟩;dsimp only;refine ⟨rfl,?_⟩;exact ⟨((MY w w).alloc (MR _) _).trans (hb.mono zad),b,zaQ,h5,rfl⟩
theorem br (num dep:Int) (a:Option Addr) (n c:Nat) (g o:Nat) (a':Option Addr) (c':Nat) (hc:w.cell? ⟨g,o,none⟩=some (.slice a' 0 c')) (hf:w.frozen? ⟨g,o,none⟩=false) :
  () 361 #[.agg #[(num:Int),(dep:Int),.slice a n c],.pointer (some ⟨g,o,none⟩)] w fun e w'=>e = .returned (.tuple #[])/\Below w (w.setCell ⟨g,o,none⟩ (.slice a n c)) w':=by
 have hgl:=Np _ _ hc;go_enter func361,ntmps361;go_wp2;go_end0;exact ⟨rfl,(MY w (w.setCell ⟨g,o,none⟩ (.slice a n c))).alloc zad _⟩
variable {w0 w:World} {db mb nm:Nat} {sv pv ov:Ref.Sl} {tm:Bool} {X:List Pro.DS} {SP:List (Int×Int)} {O:List Nat} {PT:Nat->List Nat} {D:DataW Nat}
theorem aR (num:Int) (dep:Nat) (kv:Value) (G:aq w0 w db sv pv ov mb tm X SP O PT nm D) (h:dep=0\/O.length<dep) (hd:dep<=1073741824) :
  () 358 #[db,.agg #[(num:Int),(dep:Int)],kv] w (aY 3 num w):=by
 obtain ⟨c0,c1,c2,c3,c4⟩:=G.cells;have hdl:=G.dlt;go_enter func358,ntmps358
 go_upto_region 1 with fail
 have hb1:Below w w (w.alloc (.cells #[(num:Int),(dep:Int)] 223)):=(MY _ _).alloc (MR _) _;have c0':(w.alloc (.cells #[(num:Int),(dep:Int)] 223)).cell? db=some (.slice sv.a sv.n sv.c):=by rw [NN _ _ ⟨db,0,none⟩ hdl];exact c0
 have G1:=(G.ao hb1).ao ((MY _ _).drew);have hend:∀ e w1,aY 3 num ((w.alloc (.cells #[(num:Int),(dep:Int)] 223)).drew) e w1->aY 3 num w e w1:=by
  rintro e w1 ⟨hb,b,h4,h5,h6⟩;exact ⟨hb1.drew.trans (hb.mono zad),b,zaQ,h5,h6⟩
 refine OO zab ?_;change wpAny _ _ _ _ _ _ _ (World.drew _);refine tA 0 db rfl ?_;refine tA 1 db rfl ?_;refine tA 2 db rfl ?_;refine tA 4 db rfl ?_;refine yA [3,5] ?_;refine M5 rfl (fun K hK => ?_) (M5 rfl (fun K hK => ?_) Ns)
 ·go_simp;refine hK _ _ ?_;clear hK K;refine zA 5 rfl fun K hK => ?_;exact zdr
 ·go_simp;refine hK _ _ ?_;clear hK K;refine yA [3,6] ?_;refine M5 rfl (fun K hK => ?_) (M5 rfl (fun K hK => ?_) Ns)
  ·exact zdr
  ·go_simp
   (refine (ox num dep G1 h hd).mono ?_;rintro e w4 h4;obtain ⟨hb,b,h5,h6,rfl⟩:=hend _ _ h4;dsimp only;exact ⟨rfl,hb,b,h5,h6,rfl⟩)
def aA (num:Int) (k:Int) (ks:List Int) (p:Addr) (w:World) (e:Ending) (w':World):Prop:=if k∈ks then aY 3 num w e w' else e = .returned (.pointer (some p))/\Below w w w'
theorem cY (num:Int) (dep k u:Nat) (ks:List Int) (kb:Nat) (g cap:Nat) (G:aq w0 w db ⟨some ⟨g,0,none⟩,X.length,cap⟩ pv ov mb tm X SP O PT nm D) (hk:k<O.length) (hd:dep=k+1) (hO:O.length<=1073741824) (hku:O[k]=u) (hu:u<X.length)
  (hkb:w.heap[kb]?=some (.cells (ks.map (Value.int .i64)).toArray 158 (0,0))) (hks:ks.length<=10) :
  () 358 #[db,.agg #[(num:Int),(dep:Int)],.slice kb ks.length ks.length] w (aA num (Pro.al X[u].s) ks ⟨g,u*8,none⟩ w):=by
 obtain ⟨c0,c1,c2,c3,c4⟩:=G.cells;have hdl:=G.dlt;have hrng:=G.ui hu;obtain ⟨hcap,hgl,_⟩:=G.tN;have hkl:=(MQ.1 hkb).1;obtain ⟨kd,hkd⟩:∃ kd,kd=Pro.al X[u].s:=⟨_,rfl⟩;have cK:=hrng 0 (.int .i64 kd) (by rw [hkd];rfl);rw [Rz] at cK;rw [<- hkd];have HO:Hid (∀ W:World,W=(w.alloc (.cells #[(num:Int),(dep:Int)] 223)).drew->() 351 #[db,.agg #[(num:Int),(dep:Int)]] W fun e w'=>e = .returned (u:Int)/\Below W W w'):=by
  rintro W rfl;rw [<- hku];exact vC num dep k ((G.ao ((MY _ _).alloc (MR _) _)).ao ((MY _ _).drew)) hk hd hO
 clear hd hku hk hO hrng hkd G;go_enter func358,ntmps358
 go_upto_region 1 with fail
 have hb1:Below w w (w.alloc (.cells #[(num:Int),(dep:Int)] 223)):=(MY _ _).alloc (MR _) _;have c0':(w.alloc (.cells #[(num:Int),(dep:Int)] 223)).cell? db=some (.slice g X.length cap):=by rw [NN _ _ ⟨db,0,none⟩ hdl];exact c0
 have p0:(w.alloc (.cells #[(num:Int),(dep:Int)] 223)).cell? w=some ↑(num:Int):=zad;have p1:(w.alloc (.cells #[(num:Int),(dep:Int)] 223)).cell? ⟨w,1,none⟩=some ↑(dep:Int):=zad;have hpl:w.heap.size<(w.alloc (.cells #[(num:Int),(dep:Int)] 223)).heap.size:=zad;obtain ⟨W1,hW1⟩:∃ y,y=w.alloc (.cells #[(num:Int),(dep:Int)] 223):=⟨_,rfl⟩;change Code.wp _ _ _ _ (w.alloc (.cells #[(num:Int),(dep:Int)] 223));rw [<- hW1] at p0 p1 hpl c0' hb1 HO ⊢;clear hW1;have hdl1:db<W1.heap.size:=Nq hdl hb1.size;go_region_held3 (fun W=>W.cell? db=some (.slice g X.length cap)/\W.cell? w=some ↑(num:Int)/\W.cell? ⟨w,1,none⟩=some ↑(dep:Int)) (first | go_keep | exact ⟨k0,k1,k2⟩)
  ((go_at_call 351;refine (HO.out _ rfl).mono ?_;rintro e w4 ⟨rfl,hb4⟩;have k0:=(Nk (w:=W1.drew) (w':=w4) (a:=⟨db,0,none⟩) (hb4.block db hdl1)).trans c0';have k1:=(Nk (w:=W1.drew) (w':=w4) (a:=⟨w,0,none⟩) (hb4.block w hpl)).trans p0;have k2:=(Nk (w:=W1.drew) (w':=w4) (a:=⟨w,1,none⟩) (hb4.block w hpl)).trans p1;dsimp only))
 have hb4':Below w w w4:=hb1.drew.trans (hb4.mono hb1.size);have cK4:w4.cell? ⟨g,u*8,none⟩=some ↑(kd:Int):=(Nk (w:=w) (hb4'.block g hgl)).trans cK;have kb4:=(hb4'.block kb hkl).trans hkb;have HS4:Hid _:=hb4';clear k0 hb4' hb4 cK hkb hgl hb1 c0' p0 p1 hpl HO hdl1 c0 c1 c2 c3 c4;go_wp2
 go_loop [20] (fun i=>∃ j:Nat,j<=ks.length/\i = .int .i64 j/\∀ q (h:q<ks.length),q<j->¬ ks[q]=kd) (fun i=>ks.length-(intOf i).toNat)
 case atStart=>exact ⟨0,Ni _,rfl,fun _ _ h=>zaa⟩
 case round =>
  obtain ⟨j,hj,rfl,hno⟩:=hrel;by_cases hjn:j<ks.length
  ·have cj:w4.cell? ⟨kb,j,none⟩=some (.int .i64 ks[j]):=by
    rw [M0 w4 _ j _ _ _ kb4];simp [List.getElem?_eq_getElem hjn]
   obtain ⟨z,hz⟩:∃ z,z=ks[j]:=⟨_,rfl⟩;rw [<- hz] at cj;by_cases he:kd=z
   ·have hm:Hid (kd∈ks):=by rw [he,hz];exact NS hjn
    have he':(kd == z)=true:=by simpa using he
    clear he hz hno;go_wp2_with fail;refine (aU num dep 3 _).mono ?_;rintro e w5 ⟨hb,b,h4,h5,rfl⟩;dsimp only;refine ⟨rfl,?_⟩;unfold aA;rw [M6 hm.out];exact ⟨HS4.out.trans (hb.mono HS4.out.size),b,MX HS4.out.size h4,h5,rfl⟩
   ·have he':(kd == z)=false:=by simpa using he
    have HZ:Hid (¬ ks[j]=kd):=by rw [<- hz];exact fun h=>he h.symm
    clear hz he;go_wp2
    go_round
    case rel =>
     refine ⟨j+1,zaa,zah,fun q h hq => ?_⟩;by_cases e:q=j
     ·subst e;exact HZ.out
     ·exact hno q h zaa
    case measure=>simp [intOf];omega
  ·have hm:Hid (¬ kd∈ks):=by
    intro h;obtain ⟨q,hq,e⟩:=Pp h;exact hno q hq zaa e
   clear hno;go_wp2;go_ret;unfold aA;rw [M4 hm.out];exact ⟨rfl,HS4.out⟩
variable {w0 w:World} {db mb nm:Nat} {sv pv ov:Ref.Sl} {tm:Bool} {X:List Pro.DS} {SP:List (Int×Int)} {O:List Nat} {PT:Nat->List Nat} {D:DataW Nat}
theorem Eg:(Tryz.prog.info? 239).map (fun i=>(i.zero,i.size,i.bytes))=some (some (.agg #[ByteArray.empty,false,.int .u64 0,ByteArray.empty,.slice none 0 0]),5,72):=zab
def dh (num:Int) (dep:Nat) (y:Pro.PV):Array Value:=#[(num:Int),(dep:Int),y.m.event,y.m.after,.int .u64 y.m.delay,y.m.to,.slice y.v.a y.v.n y.v.c]
theorem lA (num:Int) (dep:Nat) (y:Pro.PV) (G:aq w0 w db sv pv ov mb tm X SP O PT nm D) (h:dep=0\/O.length<dep) (hd:dep<=1073741824) :
  () 355 #[.agg (dh num dep y),db] w (aY 3 num w):=by
 have hdl:=G.dlt;have hb1:Below w w ((w.alloc (.cells (dh num dep y) 355)).alloc (.cells #[(2:Int),(3:Int),(4:Int)] 158)):=((MY _ _).alloc (MR _) _).alloc zad _;have HC:Hid _:=aR num dep (.slice (some ⟨w.heap.size+1,0,none⟩) 3 3) (G.ao hb1) h hd;unfold dh at hb1 HC ⊢;go_enter func355,ntmps355;go_wp2_with fail;refine M7 HC.out ?_;rintro e w4 ⟨hb,b,h5,h6,rfl⟩;dsimp only;exact ⟨rfl,hb1.trans (hb.mono hb1.size),b,MX hb1.size h5,h6,rfl⟩
theorem tY (num:Int) (dep:Nat) (y:Pro.PV) (k u g cap:Nat) (G:aq w0 w db ⟨some ⟨g,0,none⟩,X.length,cap⟩ pv ov mb tm X SP O PT nm D) (hk:k<O.length) (hd:dep=k+1) (hO:O.length<=1073741824) (hku:O[k]=u) (hu:u<X.length) (hh:Pro.al X[u].s∈([2,3,4]:List Int)) :
  () 355 #[.agg (dh num dep y),db] w (aY 3 num w):=by
 have hdl:=G.dlt;have hb1:Below w w ((w.alloc (.cells (dh num dep y) 355)).alloc (.cells #[(2:Int),(3:Int),(4:Int)] 158)):=((MY _ _).alloc (MR _) _).alloc zad _;have HC:Hid _:=cY num dep k u [2,3,4] (w.heap.size+1) g cap (G.ao hb1) hk hd hO hku hu (bR _ _ _) zac;clear hd hku hk hO;unfold dh at hb1 HC ⊢;go_enter func355,ntmps355;go_wp2_with fail;refine M7 HC.out ?_;rintro e w4 h4;unfold aA at h4;rw [M6 hh] at h4;obtain ⟨hb,b,h5,h6,rfl⟩:=h4;dsimp only;exact ⟨rfl,hb1.trans (hb.mono hb1.size),b,MX hb1.size h5,h6,rfl⟩
theorem tZ (num:Int) (dep:Nat) (y:Pro.PV) (k u g cap:Nat) (G:aq w0 w db ⟨some ⟨g,0,none⟩,X.length,cap⟩ pv ov mb tm X SP O PT nm D) (hk:k<O.length) (hd:dep=k+1) (hO:O.length<=1073741824) (hku:O[k]=u) (hu:u<X.length) (hh:¬ Pro.al X[u].s∈([2,3,4]:List Int))
  (hy:w0.ownsRow 0 250 1 y.v.v y.m.aw.length (y.m.aw.map bg)) (hml:X[u].s.aj.length<=1000000) :
  () 355 #[.agg (dh num dep y),db] w fun e w'=>e = .returned (.tuple #[])/\∃ vm',aq w0 w' db ⟨some ⟨g,0,none⟩,X.length,cap⟩ pv ov mb (tm||y.m.after) (X.set u (Pro.dd X[u] y vm')) SP O PT nm D:=by
 have hdl:=G.dlt;obtain ⟨hcap,hgl,hg0⟩:=G.tN;have hb1:Below w w ((w.alloc (.cells (dh num dep y) 355)).alloc (.cells #[(2:Int),(3:Int),(4:Int)] 158)):=((MY _ _).alloc (MR _) _).alloc zad _;have HC:Hid _:=cY num dep k u [2,3,4] (w.heap.size+1) g cap (G.ao hb1) hk hd hO hku hu (bR _ _ _) zac;have hbx:((w.alloc (.cells (dh num dep y) 355)).alloc (.cells #[(2:Int),(3:Int),(4:Int)] 158)).heap[w.heap.size]?=some (.cells (dh num dep y) 355 (0,0)):=eN _ _ _;obtain ⟨i0,hi,hz0,hz1,hz2⟩:=OB Eg;clear hd hku hk hO;have hlw:w.heap.size<((w.alloc (.cells (dh num dep y) 355)).alloc (.cells #[(2:Int),(3:Int),(4:Int)] 158)).heap.size:=zae;unfold dh at hb1 HC hbx hlw ⊢;go_enter func355,ntmps355;go_wp2_with fail;refine M7 HC.out ?_;rintro e w4 h4;unfold aA at h4;rw [M4 hh] at h4;obtain ⟨rfl,hb4⟩:=h4;have hbw:=hb1.trans (hb4.mono hb1.size);have G4:=G.ao hbw;have hbx4:=(hb4.block _ hlw).trans hbx;have hbs:=hbw.size;obtain ⟨M,hM1,hM2,hM3⟩:=(G4.deep u hu).aj;have hMl:M.length<=1000000:=by rw [<- hM1] at hml;simpa using hml
 have c7:w4.cell? ⟨g,u*8+7,none⟩=some (.slice X[u].vm.a X[u].vm.n X[u].vm.c):=G4.ui hu 7 _ rfl;have f7:w4.frozen? ⟨g,u*8+7,none⟩=false:=OC (aD G4.states (Ni _)) _;have e2:w4.cell? ⟨w,2,none⟩=some ↑y.m.event:=zaW;have e3:w4.cell? ⟨w,3,none⟩=some (.bool y.m.after):=zaW;have e4:w4.cell? ⟨w,4,none⟩=some (.int .u64 y.m.delay):=zaW;have e5:w4.cell? ⟨w,5,none⟩=some ↑y.m.to:=zaW;have e6:w4.cell? ⟨w,6,none⟩=some (.slice y.v.a y.v.n y.v.c):=zaW;have hgl4:g<w4.heap.size:=Nq hgl hbs;have hlw4:w.heap.size<w4.heap.size:=(MQ.1 hbx4).1;have hw04:w0.heap.size<=w4.heap.size:=G4.bel.size;have HND:Hid (some g≠X[u].vm.v.ownBlock):=fun e=>by
  obtain ⟨c,hc⟩:=bQ hM2 _ e.symm;obtain ⟨c',hc'⟩:=bQ G4.states g rfl;exact zfy
 have HB4:Hid _:=hbx4;clear hbx hbx4 HC hh hlw hb1;dsimp only
 go_upto_region 2 with fail
 go_cut [] (fun wx=>∃ vm',aq w0 wx db ⟨some ⟨g,0,none⟩,X.length,cap⟩ pv ov mb tm (X.set u (Pro.dd X[u] y vm')) SP O PT nm D/\wx.heap[w.heap.size]?=some (.cells (dh num dep y) 355 (0,0)))
 case first =>
  go_region_law
   ((refine step_append_lies _ zaf _ _ _ zaf w0.heap.size 239 i0 _ 5 72 underlying169 hi hz0 hz1 hz2 rfl zac (.slice X[u].vm.a X[u].vm.n X[u].vm.c) M.length (M.flatMap Pro.bf) zaf ((O7 hM2 _).drew) ⟨w4,0,none⟩ 1 1 (Pro.bf y) zaf zaf (World.news_of_block (cs:=(Pro.bf y).toArray) (t:=239) (fr:=(0,0)) (Na w4 _)) (by simp [Pro.bf,Value.oneCell']) zaa zag zaa zae (w4.heap.size+1) zad ?_;intro g5 cap5 w5 hown5 hgrow hat hlt5;have hfz5:=((hgrow.frozen_far ⟨g,u*8+7,none⟩ zae HND.out).trans ((((MY w4 w4).alloc (MR _) _).drew).frozen (p:=⟨g,u*8+7,none⟩) hgl4)).trans f7;have hcc5:=((hgrow.cell_far ⟨g,u*8+7,none⟩ zae HND.out).trans ((((MY w4 w4).alloc (MR _) _).drew).cell (p:=⟨g,u*8+7,none⟩) hgl4)).trans c7))
  all_goals (
   go_wp2_with fail;go_meet
   case rel =>
    have hbc:Below w4 w4 ((w4.alloc (.cells #[y.m.event,y.m.after,.int .u64 y.m.delay,y.m.to,.slice y.v.a y.v.n y.v.c] 239)).drew):=((MY _ _).alloc (MR _) _).drew;refine ⟨⟨some ⟨g5,0,none⟩,M.length+1,cap5⟩,G4.addMove (vm':=⟨some ⟨g5,0,none⟩,M.length+1,cap5⟩) (y:=y) (M:=M) hbc hu hM1 hM2 hM3 hgrow hown5 ?_ hy,?_⟩
    ·exact zeS
    ·have t1:Touch 239 _ w5:=dD (World.ownsRow.drew (O7 hM2 _)) hgrow;have b5:=bO (bO HB4.out (cG (e:=239) hbc) zac) t1 zac;rw [(aa w5 g (u*8+7) _).block w.heap.size zaa];exact b5)
 case rest =>
  obtain ⟨vm',G6,hbx6⟩:=hcut;obtain ⟨W6,hW6⟩:∃ y:World,y=wc:=⟨wc,rfl⟩;subst hW6;obtain ⟨d0,d1,d2,d3,d4⟩:=G6.cells;have fd:=G6.frozen 4;have hl6:=G6.dlt;have e3':W6.cell? ⟨w,3,none⟩=some (.bool y.m.after):=by rw [M0 W6 _ _ _ _ _ hbx6];rfl
  have HG:Hid _:=G6;clear e2 e3 e4 e5 e6 c7 f7 hi hz0 hz1 hz2 hM1 hM2 hM3;cases tm with
  | true =>
   go_wp2;go_end0;exact ⟨rfl,vm',by simpa using HG.out.Ad true (MY _ _)⟩
  | false =>
   go_wp2;go_end0;exact ⟨rfl,vm',by simpa using HG.out.Ad y.m.after (MY _ _)⟩
