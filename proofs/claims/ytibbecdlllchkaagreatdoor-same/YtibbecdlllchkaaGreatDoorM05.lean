import Derived.Test.YtibbecdlllchkaaGreatDoorM04
set_option maxRecDepth 100000
set_option maxHeartbeats 8000000
namespace Go.Proofs.YtibbecdlllchkaaGreatDoor
variable {zp:Prop}
theorem zcP(h:zp:=by
 by_cases e:k=K
 ·subst e;refine⟨Y.iY h S false,Y.pJ h1 YK,Y.aE _ _ _,fun j hj=>?_⟩;rw[Y.nE YK j hj];by_cases e:j=S
  ·subst e;rw[PC rfl,Y.aE];simp
  ·rw[Pu e,Y.aH _ _ zaa];exact h3 j hj
 ·obtain⟨g,g1,g2,g3⟩:=hW.held k hk;refine⟨g,g1,?_,fun j hj=>?_⟩
  ·show Y.upd (Y.upd s.wh _ _) _ _ _=_;rw[Y.aH _ _ zaa,Y.aH _ _ zaa];exact g2
  ·rw[Y.aH _ _ zaa];exact g3 j hj):zp:=h
theorem zc2(h:zp:=by
 go_enter func189,ntmps189;go_wp2_with(first
  |(go_at_call 185;refine hsp.mono ?_;rintro e w9 ⟨rfl,VW⟩)
  |(go_at_call 230;refine(H.out _ VW).mono ?_;intro e w' h9;obtain⟨rfl,h9⟩:=h9;have H9:Hid _:=h9;clear h9))
 refine Q5 (QD rfl _ _ _) rfl ?_;exact⟨rfl,H9.out⟩):zp:=h
theorem zc6(h:zp:=by
 go_enter func189,ntmps189;go_wp2_with(first
  |(go_at_call 185;refine hsp.mono ?_;rintro e w9 ⟨rfl,VW⟩)
  |(go_at_call 231;refine(H.out _ VW).mono ?_;intro e w' h9;obtain⟨rfl,h9⟩:=h9;have H9:Hid _:=h9;clear h9))
 go_end0;exact⟨rfl,H9.out⟩):zp:=h
theorem zdi(h:zp:=by
 clear VJ;go_enter func373,ntmps373;go_wp2_with(go_at_call 189;refine(H.out _).mono ?_;intro e w' h9;obtain⟨rfl,h9⟩:=h9;have H9:Hid _:=h9;clear h9);go_end0;exact⟨rfl,H9.out⟩):zp:=h
theorem zdm(h:zp:=by
 obtain⟨h,h1,h2,h3⟩:=hW.held k hk;refine⟨h,h1,?_,fun j hj=>?_⟩
 ·show Y.upd s.wh (28+390) _ _=_;rw[Y.aH _ _ zaa];exact h2
 ·rw[Y.aH _ _ zaa];exact h3 j hj):zp:=h
theorem zdn(h:zp:=by
 rcases QH.1 hE with rfl|hE
 ·exact⟨zaa,Vm⟩
 ·obtain⟨e1,e2⟩:=hDs E hE;have e3:=(hW3b.block E (Pn.1 e2).1).trans e2;exact⟨e1,Za.2.same E _ zaa e3 rfl⟩):zp:=h
theorem zdL(h:zp:=by
 rcases WD r with VY|⟨b,VY⟩
 all_goals
  have ZX:=Wy _ VY;rw[VY]at ZX⊢;gi_wp2;exact ZX):zp:=h
theorem zdW(h:zp:=by
 obtain⟨y,hy,e⟩:=P0.1 e;obtain⟨i,hi⟩:=P5.1 hy;exact hM.typ (hW.rgs.nds q hq i y hi) e.symm):zp:=h
theorem zd7(h:zp:=by
 rw[<- hV];exact⟨hI.alloc _ (hI.alloc _ h0),zcc,(QS _ _ _ zad).trans (PG w _)⟩):zp:=h
theorem zeA(h:zp:=by
 exact Sg _ _ _ ((Vq _ _ _ Zb).trans ((Vq _ _ _ ZZ).trans hc))):zp:=h
theorem zfg(h:zp:=by
 gi_wp2;exact hK _ _ (QP _ _) trivial hI rfl):zp:=h
theorem zaI(h:zp:=by cases e):zp:=h
theorem zbg(h:zp:=by have:=(hr k e.symm).1;omega):zp:=h
theorem zbi(h:zp:=by have:=(hDs D hD).1;omega):zp:=h
theorem zb8(h:zp:=by rw[QG];exact(Wn.whc (28+(K*65+S)) (by omega) (by omega)).trans (congrArg some (Wg.ring _ hr))):zp:=h
theorem zca(h:zp:=by rw[QG];exact(Wn.whc (28+(K*65+64)) (by omega) (by omega)).trans (congrArg some h2)):zp:=h
theorem zcc(h:zp:=by have:=PG (w.alloc (.deferred (some []))) (.loop (lp .ready none));simpa using this):zp:=h
theorem zct(h:zp:=by intro h;injection h with h1 h2;exact e h2.symm):zp:=h
theorem zcx(h:zp:=by intro e;injection e with e1;exact hb e1.symm):zp:=h
open Tryz
variable {n k mb pb r c:Nat}{w W W' w0 V V':World}{hv:Nat->Nat}{lo:Y.Lo}{qv:Value}{s s':Y.MSt}{E:TypeId->Prop}{T:List Y.Tn}{R R':Nat->List Y.Nd}{nm0:()}{L xs:List Y.Nd}{x y:Y.Nd}{row:Option Nat}
section
open Go.RowKit
def H6{α:Type}(F:Fence)(n:Nat)(P:Program)(g:Nat)(lb:Array Value)(encs:α->Array Value)(Kp:World->World->Prop)(Nx:List α->α->Prop)(S Sp:List α->Prop)(w:World):Prop:=
 ∀(l:Nat) (J Jx:List α->World->Prop) (W:World),Below w w W->w.heap.size+2<=W.heap.size->OwnFrom W.heap.size J->OwnFrom W.heap.size Jx ->
  (∀xs x V,J xs V->Nx xs x->YieldAt F (n-1) P l (encs x) V fun e V'=>(e=.returned true/\J (xs++[x]) V'/\Kp V V')\/(e=.returned false/\Jx (xs++[x]) V'/\Kp V V'))->J [] W ->
  CallsIn F n P g (#[.func (.yield l) #[] #[]]++lb) W fun e V=>(∃v,e=.returned v)/\((∃xs,S xs/\J xs V)\/∃xs,Sp xs/\Jx xs V)
def Oe{α:Type}(B:Nat)(Kp:World->World->Prop)(I Ix:List α->World->Prop)(xs:List α)(W:World):Exit->Act->World->Prop
 |.normal,_,V=>KeepsFrom B W V/\Kp W V/\I xs V
 |.ret,_,V=>KeepsFrom B W V/\Kp W V/\Ix xs V
 |_,_,_=>False
theorem Br{α:Type}{F:Fence}{P:Program}{g:Operand}{ps:Array Tmp}{assign body:Code}{Q:Exit->Act->World->Prop}{a:Act}(hro:F.round=none)(h1:1<=n){gf:Nat}{lb:Array Value}
  (hg:a.eval g=.func (.func gf) #[] lb) (hF:F.fn gf) (eg:∀args w,(callFunc gf args).run P w=.ok (.enter gf args) w) {encs:α->Array Value} {Kp:World->World->Prop} {Nx:List α->α->Prop} {S Sp:List α->Prop}
  (hseq:H6 F (n-1) P gf lb encs Kp Nx S Sp w)
  (hKt:∀{A B C:World},Kp A B->Kp B C->Kp A C) (hKb:∀(W:World) (o o':Obj),W.heap[w.heap.size+1]?=some o->o.isCells=false->Kp W (W.putObj (w.heap.size+1) o')) (hps:∀x,(encs x).size=ps.size) (I Ix:List α->World->Prop) (hI:OwnFrom w.heap.size I) (hIx:OwnFrom w.heap.size Ix) (h0:I [] w)
  (Ax:α->Act->World->Prop) (hAx:∀x a',OwnFrom w (fun(_:Unit) W=>Ax x a' W))
  (VC:∀(l:Nat) (xs:List α) (x:α) (W:World) (K:Act->World->Prop),I xs W->(∀a' W',KeepsFrom w W W'->Kp W W'->I xs W'->Ax x a' W'->K a' W')->assign.wpIn (F.inRound l) (n-1-1) P (Exit.then K (fun _ _ _=>False)) { tmps:=(ps.zip (encs x)).foldl (fun t (p,v)=>t.setIfInBounds p v) a.tmps,defers:=[] } W)
  (Wp:∀(l:Nat) (xs:List α) (x:α) (a':Act) (W:World),w.heap.size<=l->(∃r,W.heap[l]?=some (.loop r))->Nx xs x->I xs W->Ax x a' W->body.wpIn (F.inRound l) (n-1-1) P (Oe w Kp I Ix (xs++[x]) W) a' W)
  (Wx:∀(D:Nat) (xs:List α) (W:World),w.heap.size<=D->S xs->I xs W->W.heap[D]?=some (.deferred (some []))->Q .normal { a with defers:={ target:=.collected D,args:=#[] }::a.defers } W)
  (WV:∀(D:Nat) (xs:List α) (W:World),w.heap.size<=D->Sp xs->Ix xs W->W.heap[D]?=some (.deferred (some []))->Code.ret.wpIn F n P Q { a with defers:={ target:=.collected D,args:=#[] }::a.defers } W):
  (Code.rangeFunc g ps assign body).wpIn F n P Q a w:=by
 refine wpIn_rangeFunc fun fn YA=>?_;rw[hro];obtain⟨lp,Yg⟩:∃lp:LoopState->Option Code->Loop,lp=fun st pe=>{ state:=st,pending:=pe,fn,tmps:=a.tmps,params:=ps,assign,body,defers:=w.heap.size }:=⟨_,rfl⟩;have XO:=Uh (P:=P) (w:=w) fn a.tmps ps assign body;obtain⟨V,hV⟩:∃V,(w.alloc (.deferred (some []))).alloc (.loop (lp .ready none))=V:=⟨_,rfl⟩;have hb:Below w w V:=hV▸(((Pq _ w).alloc (Po _) _).alloc zad _);have hj:I [] V/\V.heap[w.heap.size+1]?=some (.loop (lp .ready none))/\V.heap[w.heap.size]?=some (.deferred (some [])):=by
  exact zd7
 refine⟨w.heap.size+1,[{ target:=.collected w.heap.size,args:=#[] }],V,{ target:=.fn (.func gf) lb,args:=#[.func (.yield (w.heap.size+1)) #[] #[]] },V,gf,#[.func (.yield (w.heap.size+1)) #[] #[]]++lb,V,
  zbV,zbI,fun f' hf'=>zbE,zbX,fun _=>h1,?_⟩
 have hvs:V.heap.size=w.heap.size+2:=by rw[<- hV];simp
 have U2:∀{K:List α->World->Prop} {ob:Obj} (hob:ob.isCells=false),OwnFrom w K->OwnFrom V.heap.size (fun xs W=>K xs W/\W.heap[w.heap.size+1]?=some ob/\W.heap[w.heap.size]?=some (.deferred (some []))):=fun{K ob} hob hK xs A B row h Xb hr=>by
  obtain⟨hi,hl,hd⟩:=h;refine⟨hK xs A B row hi Xb (fun r e=>⟨zas,(hr r e).2⟩),(Xb.block _ (Pn.1 hl).1 (fun e=>?_)).trans hl,(Xb.block _ (Pn.1 hd).1 (fun e=>?_)).trans hd⟩
  ·exact zfv
  ·exact zfv
 refine(hseq (w.heap.size+1) (fun xs W=>I xs W/\W.heap[w.heap.size+1]?=some (.loop (lp .ready none))/\W.heap[w.heap.size]?=some (.deferred (some []))) (fun xs W=>Ix xs W/\W.heap[w.heap.size+1]?=some (.loop (lp .done (some .ret)))/\W.heap[w.heap.size]?=some (.deferred (some []))) V hb zaa (U2 rfl hI) (U2 rfl hIx) ?_ hj).mono ?_
 ·intro xs x W ⟨hi,hl,hd⟩ hnx;have hy:=run_yield (P:=P) (args:=encs x) hl (by rw[Yg];exact hps x);rw[Yg]at hy;refine⟨fn,_,assign,body,hy,roundIn_of_wpIn YA (VC _ xs x W _ hi fun a' Wa X4 hkp hia hax=>⟨_,run_beginRound (X4.same _ _ zaa hl rfl) (by rw[Yg]),?_⟩)⟩;have hl:=X4.same _ _ zaa hl rfl;have hd:=X4.same _ _ (Po _) hd rfl;have Vd:=(Pn.1 hl).1;have k1:=hKb Wa _ (.loop { lp .ready none with state:=LoopState.busy }) hl rfl;refine wpIn_mono (Wp _ xs x a' _ zaa ⟨_,Rs Vd⟩ hnx (hI.putObj _ hia zaa hl rfl) ((hAx x a').putObj (s:=()) _ hax zaa hl rfl)) ?_;intro e a' W' hp;have VH:∀(jump:Option Code),KeepsFrom w (Wa.putObj (w.heap.size+1) (.loop { lp .ready none with state:=LoopState.busy })) W' ->
    (Instr.endRound (w.heap.size+1) jump).run P W'=.ok (.bool jump.isNone) (W'.putObj (w.heap.size+1) (.loop (lp (if jump.isNone then .ready else .done) jump))) /\
    W'.heap[w.heap.size+1]?=some (.loop { lp .ready none with state:=LoopState.busy }) /\
    (W'.putObj (w.heap.size+1) (.loop (lp (if jump.isNone then .ready else .done) jump))).heap[w.heap.size+1]?=some (.loop (lp (if jump.isNone then .ready else .done) jump)) /\
    (W'.putObj (w.heap.size+1) (.loop (lp (if jump.isNone then .ready else .done) jump))).heap[w.heap.size]?=some (.deferred (some [])):=fun jump hk=>by
   have YS:=hk.same _ _ zaa (Rs Vd) rfl;have hd':=hk.same _ _ (Po _) ((Qs zaa).trans hd) rfl;have hr:=run_endRound (P:=P) jump YS;rw[Yg]at hr⊢;exact⟨hr,by rw[Yg]at YS;exact YS,Rs (Pn.1 YS).1,(Qs zaa).trans hd'⟩
  cases e with
  |normal=>
   obtain⟨hk,k2,XJ⟩:=hp;obtain⟨hr,hl3,hl4,hd4⟩:=VH none hk;exact⟨_,_,hr,.inl ⟨rfl,⟨hI.putObj _ XJ zaa hl3 rfl,hl4,hd4⟩,hKt hkp (hKt k1 (hKt k2 (hKb _ _ _ hl3 rfl)))⟩⟩
  |ret=>
   obtain⟨hk,k2,XJ⟩:=hp;obtain⟨hr,hl3,hl4,hd4⟩:=VH (some .ret) hk;exact⟨_,_,hr,.inr ⟨rfl,⟨hIx.putObj _ XJ zaa hl3 rfl,hl4,hd4⟩,hKt hkp (hKt k1 (hKt k2 (hKb _ _ _ hl3 rfl)))⟩⟩
  |_=>exact hp.elim
 ·rintro e W ⟨⟨v,hv⟩,⟨xs,hS,hi,hl,hd⟩|⟨xs,hSp,hi,hl,hd⟩⟩
  ·exact zdR
  ·subst hv;exact⟨some .ret,_,zaU,WV _ xs _ (Po _) hSp (hIx.putObj _ hi zaa hl rfl) ((Qs zaa).trans hd)⟩
end
section
open Go.RowKit Go.Proofs Go.Shelf
attribute [local go_sem] Qu
namespace Y
theorem rB(hv:Nat->Nat){k:Nat}:∀m,k<=m->kW hv k <+: kW hv m
 |0,h=>by
  obtain rfl:k=0:=zaa;exact UQ
 |m+1,h=>by
  by_cases e:k=m+1
  ·subst e;exact UQ
  ·exact(rB hv m zaa).trans (by rw[ju];exact Ur _ _)
theorem zx(hk:k<6){pre:List (Hu (hv k))}(h:pre.map (·.1) <+: fh (hv k)):kW hv k++pre.map (fun x=>k*65+x.1) <+: gY hv:=by
 have h1:pre.map (fun x=>k*65+x.1) <+: lS hv k:=by
  have:=h.map (fun j=>k*65+j);rw[QW]at this;exact this
 have h2:kW hv k++pre.map (fun x=>k*65+x.1) <+: kW hv (k+1):=by
  rw[ju];exact(Ua _).2 h1
 exact(h2.trans (rB hv 6 zaa)).trans (Ur _ _)
theorem wt(s:Nat):(fh s).length<=64:=by unfold fh;exact Pr (QI _ _) zad
theorem uS(hv:Nat->Nat):∀k,(kW hv k).length<=64*k
 |0=>Po _
 |k+1=>by
  have:=uS hv k;have:=wt (hv k);rw[ju,PI];unfold lS;rw[PE];omega
theorem uR(hv:Nat->Nat):∀k,k<=6->∀q∈kW hv k,isR q
 |0,_,q,hq=>by cases hq
 |k+1,hk,q,hq=>by
  rw[ju]at hq
  rcases PQ.1 hq with hq|hq
  ·exact uR hv k zaa q hq
  ·unfold lS at hq;obtain⟨y,hy,rfl⟩:=P0.1 hq;have:=(gB.1 hy).1;exact .inl zaa
end Y
theorem BD(n:Nat)(hn:4<=n)(Bs mb:Nat)(R:Nat->List Y.Nd)(hv:Nat->Nat)(YL:∀k,k<6->hv k<18446744073709551616)(B:Nat->TypeId->Prop)(w:World)(hR:Y.Cn w Bs mb R hv)(h1:¬B Bs 296)(h2:∀t,¬B mb t)(h3:∀t,¬B 5 t)(hB:∀k t,B k t->k<w.heap.size\/t=163):
  H6 Fence.wide n prog 259 #[Bs] (fun r:Nat=>#[Value.agg #[Y.aN (R r)]]) (KpN B (w.heap.size+2)) (fun rs r=>Y.isR r/\rs.length<=400/\∀q∈rs,Y.isR q) (fun xs=>xs=Y.gY hv) (fun xs=>xs <+: Y.gY hv) w:=fun l J Jx W hW hWs hJ hJx hY h0=>by
 have hRW:=hR.kp (B:=B) (KpM.below hW) h1 h2 h3;have Vj:KpM B W (W.alloc (.cells #[.func (.yield l) #[] #[]] 412)):=KpM.below ((Pq _ W).alloc (Po _) _);have hy1:=P9 W 412 (.func (.yield l) #[] #[]);have hJ1:J [] (W.alloc (.cells #[.func (.yield l) #[] #[]] 412)):=hJ.alloc _ h0;have WR:W.heap.size+1=(W.alloc (.cells #[.func (.yield l) #[] #[]] 412)).heap.size:=zad;refine Qv func259 rfl trivial ?_ rfl;simp only[ntmps259,List.size_toArray,List.length_cons,List.length_nil,Nat.reduceAdd,Nat.reduceSub,Array.replicate_succ,Array.replicate_zero,List.push_toArray,List.append_toArray,List.nil_append,List.cons_append];gi_wp2;have Z6:=hRW.kp Vj h1 h2 h3;generalize W.alloc (.cells #[.func (.yield l) #[] #[]] 412)=W1 at *;refine wpIn_loop (fun a' w'=>∃k Ds,Y.RgF l Bs W k a' Ds/\k<=6/\J (Y.kW hv k) w'/\KpN B (w.heap.size+2) W1 w'/\Ds.Nodup/\∀D∈Ds,W1.heap.size<=D/\w'.heap[D]?=some (.deferred (some []))) (fun a' _=>6-(intOf (a'.tmps.getD 5 undef)).toNat) ?_ ?_
 ·exact⟨0,[],⟨⟨_,_,_,_,_,_,_,_,_,_,_,_,_,_,_,_,_,_,_,_,_,_,_,_,rfl⟩,rfl⟩,zaa,hJ1,KpN.refl _ _ _,UT,fun D hD=>by cases hD⟩
 rintro⟨tm,df⟩ wr ⟨k,Ds,⟨⟨u3,u4,u6,u7,u8,u9,u10,u11,u12,u13,u14,u15,u16,u17,u18,u19,u20,u21,u22,u23,u24,u25,u26,u27,htm⟩,hdf⟩,XS,hJk,hKk,Vi,hDs⟩;dsimp only at htm hdf;subst htm hdf;have hRr:=Z6.kp hKk.1 h1 h2 h3;have hyr:=(Y.KpM.bx hB hKk.1 hy1 hW.size).cell;have hn1:1<=n:=zaa;have Wv:∀V:World,V.grownBy V.drew none:=fun V=>⟨rfl,rfl,rfl,Po _,fun _ _ _=>rfl⟩;have hJd:∀xs V,J xs V->J xs V.drew:=fun xs V h=>hJ xs V V.drew none h (Wv V) (fun r e=>zaI);by_cases hk:k=6
 ·subst hk;have hob:wr.drew.cell? Bs=_:=hRr.box.cell;have hoo:wr.drew.cell? (mb,418)=_:=hRr.out;have hoy:wr.drew.cell? W=_:=hyr;obtain⟨fn,tmps,assign,body,hy,hRo⟩:=hY (Y.kW hv 6) 390 wr.drew (hJd _ _ hJk) ⟨.inr rfl,by have:=Y.uS hv 6;omega,Y.uR hv 6 (Po _)⟩;have VY:∃v,Y.aN (R 390)=v:=⟨_,rfl⟩;obtain⟨rv,VY⟩:=VY;rw[VY]at hoo hy
  (try dsimp only at hy)
  gi_wp2;refine bc nV 5 zab zab zab ?_;simp only[List.take_succ_cons,List.take_zero,List.drop_succ_cons,List.drop_zero]
  repeat still_step
  refine QY ?_;gi_wp2;refine hRo.mono ?_;rintro e V' (⟨rfl,hJ',VB⟩|⟨rfl,hJ',VB⟩)
  ·gi_wp2;refine jb (fun V=>J (Y.gY hv) V) Ds V' Vi (fun D hD=>VB.2.same D _ zbi (hDs D hD).2 rfl) (fun D V hD hV hd=>hJ.putObj _ hV zbi hd rfl) (fun V hV=>?_) hJ';exact⟨_,QD rfl _ _ _,⟨_,rfl⟩,.inl ⟨_,rfl,hV⟩⟩
  ·gi_wp2;refine jb (fun V=>Jx (Y.gY hv) V) Ds V' Vi (fun D hD=>VB.2.same D _ zbi (hDs D hD).2 rfl) (fun D V hD hV hd=>hJx.putObj _ hV zbi hd rfl) (fun V hV=>?_) hJ';exact⟨_,QD rfl _ _ _,⟨_,rfl⟩,.inr ⟨_,UQ,hV⟩⟩
 ·have VN:k<6:=zaa;have Y0:((k:Int)<6):=zaa;have hob:(wr.alloc (.cells #[(k:Int)] 3)).drew.cell? Bs=some ↑(mb,27):=o8 ((Pq _ wr).alloc (Po _) _).drew hRr.box.cell;have Vw:(wr.alloc (.cells #[(k:Int)] 3)).drew.cell? wr=some ↑(k:Int):=Pt _ _ 0 _ _ (0,0) (PG wr _);gi_wp2;refine bc nV 5 zab zab zab ?_;simp only[List.take_succ_cons,List.take_zero,List.drop_succ_cons,List.drop_zero]
  repeat still_step
  refine QY ?_;gi_wp2_with(refine⟨trivial,?_⟩;gi_at_call 260;refine(P8.2 (n9 mb (28+k*65) _)).mono ?_;rintro e w9 ⟨rfl,U1⟩;rw[U1];clear U1 w9);have hW3b:Below wr wr (((wr.alloc (.cells #[(k:Int)] 3)).alloc (.cells #[(mb,28+k*65)] 392)).drew):=(((Pq _ wr).alloc (Po _) _).alloc zad _).drew;have ZW:J (Y.kW hv k) (((wr.alloc (.cells #[(k:Int)] 3)).alloc (.cells #[(mb,28+k*65)] 392)).drew):=hJd _ _ (hJ.alloc _ (hJ.alloc _ hJk));have ck:Boxed (((wr.alloc (.cells #[(k:Int)] 3)).alloc (.cells #[(mb,28+k*65)] 392)).drew) wr.heap.size 3 (.int .i64 k):=(P9 wr 3 _).alloc _;have ch:(((wr.alloc (.cells #[(k:Int)] 3)).alloc (.cells #[(mb,28+k*65)] 392)).drew).cell? ↑(wr.heap.size+1)=some ↑(mb,28+k*65):=by
   have e:(wr.alloc (.cells #[(k:Int)] 3)).heap.size=wr.heap.size+1:=zad;rw[<- e];exact Pt _ _ 0 _ _ (0,0) (show((wr.alloc (.cells #[(k:Int)] 3)).alloc _).heap[(wr.alloc (.cells #[(k:Int)] 3)).heap.size]?=some _ from PG _ _)
  have Xx:(((wr.alloc (.cells #[(k:Int)] 3)).alloc (.cells #[(mb,28+k*65)] 392)).drew).heap.size=wr.heap.size+2:=zad;generalize((wr.alloc (.cells #[(k:Int)] 3)).alloc (.cells #[(mb,28+k*65)] 392)).drew=W3 at *;have hK3:KpN B (w.heap.size+2) W1 W3:=hKk.tr (KpN.below hW3b);have YC:=Z6.kp hK3.1 h1 h2 h3;have hws:=hKk.1.1;have hG3:5<W3.heap.size:=i1 (YC.tab 0 zac);have hmb3:mb<W3.heap.size:=i1 YC.out;refine SN rfl hn1 (gf:=276) rfl trivial (RT func276 zab rfl)
   (th (n-1) zaa (wr.heap.size+1) mb (28+k*65) (hv k) (YL k VN) (fun A C=>TabAt 5 Lib.deBruijn64tab A->TabAt 5 Lib.deBruijn64tab C) (fun _ _ h=>h) W3 zaa hmb3 hG3 ch (YC.held k VN) YC.tab)
   (fun h k x=>k (h x)) (fun V l o o' hl h hc hw x j hj=>((R3 (n₀:=W3.heap.size) (Po _) V l o o' hl h hc hw).cell (p:=⟨5,j,none⟩) hG3).trans (x j hj)) (Pq _ _) (fun _=>rfl)
   (fun ys V=>J (Y.kW hv k++ys.map (fun x=>k*65+x.1)) V/\KpN B (w.heap.size+2) W3 V) (fun c ys V=>c=.ret/\Jx (Y.kW hv k++ys.map (fun x=>k*65+x.1)) V/\KpN B (w.heap.size+2) W3 V)
   (Qi (fun ys A C row h hg hr=>hJ _ A C row h hg (fun r e=>⟨zas,(hr r e).2⟩)) (KpN.own (Po _)))
   (fun c ys A C row h hg hr=>⟨h.1,hJx _ A C row h.2.1 hg (fun r e=>⟨zas,(hr r e).2⟩),KpN.own (Po _) () A C row h.2.2 hg hr⟩) ⟨by simpa using ZW,KpN.refl _ _ _⟩
   (fun x a' _=>a'={ tmps:=#[.func (.yield l) #[] #[],.pointer (some ⟨Bs,0,none⟩),.pointer (some ⟨W.heap.size,0,none⟩),.pointer (some ⟨wr.heap.size,0,none⟩),.int .i64 x.1,.int .i64 k,.bool true,.int .i64 k,.pointer (some ⟨mb,27,none⟩),.int .i64 k,.pointer (some ⟨mb,27,none⟩),.pointer (some ⟨mb,28,none⟩),.pointer (some ⟨mb,28+k*65,none⟩),.func (.func 276) #[] #[.pointer (some ⟨wr.heap.size+1,0,none⟩)],.int .i64 x.1,u15,u16,u17,u18,u19,u20,u21,u22,u23,u24,u25,u26,u27,undef,undef,undef,undef,undef,undef],defers:=[] })
   (fun _ _ _ _ _ _ hs _ _=>hs) ?assign ?body ?done ?stop
  case assign=>
   intro l2 pre x V K hI hK;gi_wp2;exact hK _ _ (QP _ _) (fun h=>h) hI rfl
  case body=>
   rintro l2 pre x a' V hl ⟨rl,Xv⟩ ⟨hJV,Za⟩ rfl VI;obtain⟨hx64,hxb⟩:=Y.gB.1 x.2;have hKV1:=hK3.tr Za;have hRV:=Z6.kp hKV1.1 h1 h2 h3;have Y1:Y.isR (k*65+x.1):=.inl zaa;have vb:V.drew.cell? Bs=_:=hRV.box.cell;have vy:V.drew.cell? W=_:=(Y.KpM.bx hB hKV1.1 hy1 hW.size).cell;have vk:V.drew.cell? wr=_:=(Y.KpM.bx hB Za.1 ck (by have:=hW.size;omega)).cell;have vr:V.drew.cell? (mb,28+k*65+x.1)=_:=hRV.ring k x.1 VN hx64;obtain⟨fn,tmps,assign,body,hy,hRo⟩:=hY _ (k*65+x.1) V.drew (hJd _ _ hJV) ⟨Y1,by rw[PI,PE];have:=Y.uS hv k;have:=Y.wt (hv k);omega,fun q hq=>by
    rcases PQ.1 hq with hq|hq
    ·exact Y.uR hv k XS q hq
    ·obtain⟨y,_,rfl⟩:=P0.1 hq;have:=(Y.gB.1 y.2).1;exact .inl zaa⟩
   obtain⟨rv,VY⟩:∃v,Y.aN (R (k*65+x.1))=v:=⟨_,rfl⟩;rw[VY]at vr hy
   (try dsimp only at hy)
   have hx64':((x.1:Int)<64):=zaa;have ZG:1<=n-1-1:=zaa;gi_wp2;refine bc (dP l2) 10 zab zab zab ?_;simp only[List.take_succ_cons,List.take_zero,List.drop_succ_cons,List.drop_zero]
   repeat still_step
   refine QY ?_;gi_wp2;refine(ur nV (dP l2) hRo).mono ?_;rintro e V' (⟨rfl,hJ',VB⟩|⟨rfl,hJ',VB⟩)
   ·have Wy:KpN B (w.heap.size+2) V V':=(KpN.below (Pq _ V).drew).tr VB;gi_wp2;exact⟨⟨Wy.2.size,fun i o hi ho hc=>Wy.2.same i o zaa ho hc⟩,Y.KpM.tab Wy.1 h3,by rw[Qj,<- Qd];exact hJ',Za.tr Wy⟩
   ·have Wy:KpN B (w.heap.size+2) V V':=(KpN.below (Pq _ V).drew).tr VB;gi_wp2;exact⟨⟨Wy.2.size,fun i o hi ho hc=>Wy.2.same i o zaa ho hc⟩,rfl,by rw[Qj,<- Qd];exact hJ',Za.tr Wy⟩
  case done=>
   rintro D ys V hD WT ⟨hJV,Za⟩ Vm;have hJn:J (Y.kW hv (k+1)) V:=by
    rw[Y.ju];unfold Y.lS;rw[<- WT,QW];exact hJV
   have hK1:=hK3.tr Za;have hnd':(D::Ds).Nodup:=Ta.2 ⟨fun h=>by
    have:=(Pn.1 (hDs D h).2).1;omega,Vi⟩
   have hD':∀E∈D::Ds,W1.heap.size<=E/\V.heap[E]?=some (.deferred (some [])):=fun E hE=>by
    exact zdn
   gi_wp2;refine⟨⟨k+1,D::Ds,⟨⟨_,_,_,_,_,_,_,_,_,_,_,_,_,_,_,_,_,_,_,_,_,_,_,_,rfl⟩,rfl⟩,zaa,hJn,hK1,hnd',hD'⟩,?_⟩;show 6-((k:Int)+1).toNat<6-(k:Int).toNat;omega
  case stop=>
   rintro D c pre V hD hSp ⟨rfl,hJV,Za⟩ Vm;have Xq:=Y.zx (hv:=hv) VN hSp;have hnd':(D::Ds).Nodup:=Ta.2 ⟨fun h=>by
    have:=(Pn.1 (hDs D h).2).1;omega,Vi⟩
   have hD':∀E∈D::Ds,W1.heap.size<=E/\V.heap[E]?=some (.deferred (some [])):=fun E hE=>by
    exact zdn
   gi_wp2;refine jb (fun V=>Jx (Y.kW hv k++pre.map (fun x=>k*65+x.1)) V) (D::Ds) V hnd' (fun E hE=>(hD' E hE).2) (fun E V hE hV hd=>hJx.putObj _ hV (by have:=(hD' E hE).1;omega) hd rfl) (fun V hV=>?_) hJV;exact⟨_,QD rfl _ _ _,⟨_,rfl⟩,.inr ⟨_,Xq,hV⟩⟩
theorem Kf(n:Nat)(hn:4<=n)(Bs mb:Nat)(R:Nat->List Y.Nd)(hv:Nat->Nat)(YL:∀k,k<6->hv k<18446744073709551616)(B:Nat->TypeId->Prop)(w:World)(hR:Y.Cn w Bs mb R hv)(h1:¬B Bs 296)(h2:∀t,¬B mb t)(h3:∀t,¬B 5 t)(hB:∀k t,B k t->k<w.heap.size\/t=163):
  Hz Fence.wide n prog 259 #[Bs] (fun r:Nat=>#[Value.agg #[Y.aN (R r)]]) (KpN B (w.heap.size+2)) (fun _ _=>True) (fun _ r=>Y.isR r) (fun xs=>xs=Y.gY hv) w:=fun l J W hW hWs hJ _ hY h0=>by
 refine(BD n hn Bs mb R hv YL B w hR h1 h2 h3 hB l J (fun _ _=>False) W hW hWs hJ (fun _ _ _ _ h _ _=>h) (fun xs x V hV hx=>?_) h0).mono ?_
 ·obtain⟨fn,tmps,asg,bd,hy,hRo⟩:=hY xs x V hV hx.1;exact⟨fn,tmps,asg,bd,hy,hRo.mono fun e V' h=>.inl h⟩
 ·rintro e V ⟨hv,h|⟨_,_,h⟩⟩
  ·exact⟨hv,h⟩
  ·exact h.elim
theorem xI(w:World)(mb o s:Nat)(l:List Y.Nd)(n:Nat)(x:Y.Tn)(v:Value)(h:Nat)(hs:s<64)(hh:h<18446744073709551616)(hc:w.cell? (mb,o+s)=some (Y.aN l))(Xj:∀i,w.frozen? ⟨mb,i,none⟩=false)(hd:w.cell? (mb,o+64)=some (.int .u64 h))(hR:Y.cV w l)(hn:w.heap[n]?=some (.cells (Y.eU x v) 302 (0,0)))(WC:n ∉ l.map (·.1))(ZZ:mb≠n)(Vu:mb ∉ l.map (·.1)):
  () 231 #[(mb,o),(s:Int),n] w fun e w'=>e=.returned (.tuple #[])/\w'=(Y.eL w ⟨mb,o+s,none⟩ l n).drew.setCell (mb,o+64) (.int .u64 (Y.iY h s false)):=by
 have hp:=nN w mb (o+s) l n x v hc (Xj _) hR hn WC ZZ Vu;have Yy:∀j,(Y.eL w ⟨mb,o+s,none⟩ l n).cell? ⟨mb,j,none⟩=if j=o+s then some (Y.ndP n) else w.cell? ⟨mb,j,none⟩:=fun j=>by
  have Vq:∀(W:World) (b:Nat) (u:Value),mb≠b->(W.setCell ⟨b,3,none⟩ u).cell? (mb,j)=W.cell? (mb,j):=fun W b u hb=>aA zcx;unfold Y.eL;cases hz:l.getLast? with
  |none=>
   dsimp only;by_cases e:j=o+s
   ·subst e;rw[PC rfl];exact Sg _ _ _ ((Vq _ _ _ ZZ).trans hc)
   ·rw[Pu e,aA zct,Vq _ _ _ ZZ]
  |some z=>
   have Zb:mb≠z.1:=fun e=>Vu (P0.2 ⟨z,RD hz,e.symm⟩);dsimp only;by_cases e:j=o+s
   ·subst e;rw[PC rfl];exact zeA
   ·rw[Pu e,aA zct,Vq _ _ _ Zb,Vq _ _ _ ZZ]
 have hr1:=Yy (o+s);rw[PC rfl]at hr1;have ZG:=Yy (o+64);rw[Pu zaa,hd]at ZG;have hf1:(Y.eL w ⟨mb,o+s,none⟩ l n).frozen? (mb,o+64)=false:=by
  unfold Y.eL;cases l.getLast?<;>simp only[World.frozen?_setCell]<;>exact Xj _
 have hm:=tL (Y.eL w ⟨mb,o+s,none⟩ l n) mb o s (l++[(n,x)]) h hs hh (by rw[hr1,Y.oT]) ZG hf1;rw[show(l++[(n,x)]).isEmpty=false by simp]at hm;generalize Y.eL w ⟨mb,o+s,none⟩ l n=W1 at *;clear hR hn WC Vu Yy hr1 ZG hf1 hc hd Xj;go_enter func231,ntmps231;go_wp2_with(first
  |(go_at_call 230;refine hp.mono ?_;rintro e w9 ⟨rfl,U1⟩;rw[U1];clear U1 w9)
  |(go_at_call 226;refine hm.mono ?_;rintro e w9 ⟨rfl,U1⟩;rw[U1];clear U1 w9))
 go_end0;exact⟨rfl,rfl⟩
namespace Y
theorem fs(now t:Nat):aP now t<=6:=Nat.min_le_right _ _
theorem fR(now t:Nat):gF now t<64:=U0 _ zac
def place(now t:Nat):Nat:=if aP now t=6 then 390 else aP now t*65+gF now t
theorem gD(now t:Nat):isR (place now t):=by
 have:=fs now t;have:=fR now t;unfold place isR;split<;>omega
structure WhM(W:World)(lo:Y.Lo)(s:MSt)(R:Nat->List Nd):Prop where
 rgs:du W lo s.wh R
 held:kZ s.wh R
theorem aw.whc(h:aw W lo mb pb qv s)(i:Nat)(h1:28<=i)(h2:i<419):W.cell? (mb,i)=some (s.wh i):=by
 rw[h.cell i zaa];unfold fF;rw[Pu zaa,Pu zaa,Pu zaa,Pu zaa,Pu zaa,PC h2]
end Y
theorem Mm(w:World)(lo:Y.Lo)(mb pb:Nat)(qv:Value)(s:Y.MSt)(R:Nat->List Y.Nd)(n:Nat)(x:Y.Tn)(v:Value)(hM:Y.aw w lo mb pb qv s)(hW:Y.WhM w lo s R)(Vb:lo<=w.heap.size)(Vr:s.now<18446744073709551616)(hxt:x.t<18446744073709551616)(hn:w.heap[n]?=some (.cells (Y.eU x v) 302 (0,0)))(WC:∀q,Y.isR q->∀y∈R q,y.1≠n)(U8:lo.ok n):
  () 189 #[(mb,27),n] w fun e w'=>e=.returned (.tuple #[])/\∃wh',Y.aw w' lo mb pb qv { s with wh:=wh' }/\Y.WhM w' lo { s with wh:=wh' } (Y.upd R (Y.place s.now x.t) (R (Y.place s.now x.t)++[(n,x)]))/\Y.Rw lo w w':=by
 have hn0:w.cell? n=some (.int .u64 x.t):=zaX;have hc27:w.cell? (mb,27)=some (.int .u64 s.now):=hM.cell 27 zac;have hsp:=qb w mb 27 s.now x.t Vr hxt hc27;have hr:=Y.gD s.now x.t;have hmn:=hM.typ hn;have Ym:∀q,Y.isR q->mb ∉ (R q).map (·.1):=fun q hq e=>by
  exact zdW
 have hnr:∀q,Y.isR q->n ∉ (R q).map (·.1):=fun q hq e=>by
  obtain⟨y,hy,e⟩:=P0.1 e;exact WC q hq y hy e
 have hKl:=Y.fs s.now x.t;have YK:=Y.fR s.now x.t;have VI:Y.place s.now x.t=if Y.aP s.now x.t=6 then 390 else Y.aP s.now x.t*65+Y.gF s.now x.t:=rfl;generalize Y.place s.now x.t=r at *;generalize Y.aP s.now x.t=K at *;generalize Y.gF s.now x.t=S at *;by_cases hK:K=6
 ·subst hK;rw[PC rfl]at VI;subst VI;have H:Hid (∀w9,Below w w w9->() 230 #[(mb,418),n] w9 fun e w'=>e=.returned (.tuple #[])/\∃wh',Y.aw w' lo mb pb qv { s with wh:=wh' }/\Y.WhM w' lo { s with wh:=wh' } (Y.upd R 390 (R 390++[(n,x)]))/\Y.Rw lo w w'):=fun w9 hb=>by
   have Wn:=hM.below hb;have Wg:=hW.rgs.below hb;have ZH:=(hb.block n (Pn.1 hn).1).trans hn;refine(nN w9 mb 418 (R 390) n x v ((Wn.whc 418 zaa zaa).trans (congrArg some (Wg.ring 390 hr))) (Wn.frozen _) (Wg.nds 390 hr) ZH (hnr 390 hr) hmn (Ym 390 hr)).mono ?_;rintro e w' ⟨rfl,rfl⟩;obtain⟨a,b,c⟩:=Wg.push (r:=390) Wn hr (Pr Vb hb.size) ZH WC U8;refine⟨rfl,_,a,⟨b,fun k hk=>?_⟩,(Y.RfE.of hb Vb).trans c⟩;exact zdm
  clear hW hM Ym hnr WC hn U8 hr hmn;exact zc2
 ·rw[Pu hK]at VI;subst VI;have hK5:K<6:=zaa;have hKb:((K:Int) == 6)=false:=zaf;have H:Hid (∀w9,Below w w w9->() 231 #[(mb,28+K*65),(S:Int),n] w9 fun e w'=>e=.returned (.tuple #[])/\∃wh',Y.aw w' lo mb pb qv { s with wh:=wh' }/\Y.WhM w' lo { s with wh:=wh' } (Y.upd R (K*65+S) (R (K*65+S)++[(n,x)]))/\Y.Rw lo w w'):=fun w9 hb=>by
   have Wn:=hM.below hb;have Wg:=hW.rgs.below hb;have ZH:=(hb.block n (Pn.1 hn).1).trans hn;obtain⟨h,h1,h2,h3⟩:=hW.held K hK5;refine(xI w9 mb (28+K*65) S (R (K*65+S)) n x v h YK h1 zb8 (fun i=>Wn.frozen i) zca (Wg.nds _ hr) ZH (hnr _ hr) hmn (Ym _ hr)).mono ?_;rintro e w' ⟨rfl,rfl⟩;obtain⟨a,b,c⟩:=Wg.push (r:=K*65+S) Wn hr (Pr Vb hb.size) ZH WC U8;rw[QG 28 (K*65) S];obtain⟨a2,b2,c2⟩:=b.mark a K hK5 (.int .u64 (Y.iY h S false)) (Pr Vb (Pr hb.size c.bel.size));refine⟨rfl,_,a2,⟨b2,fun k hk=>?_⟩,(Y.RfE.of hb Vb).trans (c.trans c2)⟩;exact zcP
  clear hW hM Ym hnr WC hn U8 hr hmn;exact zc6
namespace Y
def ga(W:World)(lo:Y.Lo)(s:MSt)(T:List Tn):Prop:=∃R,WhM W lo s R/\(∀r,isR r->(R r).map (·.2)=T.filter (fun t=>place s.now t.t == r))/\∀t∈T,t.t<18446744073709551616
theorem ga.kd(h:ga W lo s T)(hk:Kd E W W')(hE:¬E 302)(h1:s'.wh=s.wh)(h2:s'.now=s.now):ga W' lo s' T:=by
 obtain⟨R,a,b,c⟩:=h;refine⟨R,⟨by rw[h1];exact a.rgs.kd hk hE,by rw[h1];exact a.held⟩,by rw[h2];exact b,c⟩
theorem ga.below(h:ga W lo s T)(hb:Below W W W'):ga W' lo s T:=h.kd (bB (E:=fun _=>False) hb) (fun h=>h) rfl rfl
theorem ga.rq{lo':Y.Lo}(h:ga W lo s T)(hk:Rq lo' W W')(h1:s'.wh=s.wh)(h2:s'.now=s.now):ga W' lo s' T:=h.kd hk.kd (by unfold OV;decide) h1 h2
def atF(now d:Nat):Nat:=if now+d<18446744073709551616 then now+d else 18446744073709551615
end Y
theorem KX(w:World)(lo:Y.Lo)(mb pb:Nat)(qv:Value)(s:Y.MSt)(T:List Y.Tn)(d:Nat)(ev nm:())(hM:Y.aw w lo mb pb qv s)(hT:Y.ga w lo s T)(Vb:lo<=w.heap.size)(Vr:s.now<18446744073709551616)(hd:d<18446744073709551616):
  () 373 #[(mb,27),.int .u64 d,.agg #[ev,nm]] w fun e w'=>e=.returned (.tuple #[])/\∃wh',Y.aw w' lo mb pb qv { s with wh:=wh' }/\Y.ga w' lo { s with wh:=wh' } (T++[⟨Y.atF s.now d,ev,nm⟩])/\Y.Rw lo w w':=by
 have hc27:w.cell? (mb,27)=some (.int .u64 s.now):=hM.cell 27 zac;have Wk:=hM.lt;have hatl:Y.atF s.now d<18446744073709551616:=by unfold Y.atF;split<;>omega
 have U3:∀(o1 o2:Obj),Below w w ((w.alloc o1).alloc o2):=fun o1 o2=>((Pq _ w).alloc (Po _) _).alloc zad _;have H:Hid (∀o1:Obj,() 189 #[(mb,27),↑(w.heap.size+1)] ((w.alloc o1).alloc (.cells #[.int .u64 (Y.atF s.now d),ev,nm,.pointer none] 302)) fun e w'=>e=.returned (.tuple #[])/\∃wh',Y.aw w' lo mb pb qv { s with wh:=wh' }/\Y.ga w' lo { s with wh:=wh' } (T++[⟨Y.atF s.now d,ev,nm⟩])/\Y.Rw lo w w'):=fun o1=>by
  obtain⟨R,hW,hF,hB⟩:=hT;have hb:=U3 o1 (.cells #[.int .u64 (Y.atF s.now d),ev,nm,.pointer none] 302);have YY:=cA w o1 (.cells #[.int .u64 (Y.atF s.now d),ev,nm,.pointer none] 302);refine(Mm _ lo mb pb qv s R (w.heap.size+1) ⟨Y.atF s.now d,ev,nm⟩ (.pointer none) (hM.below hb) ⟨hW.rgs.below hb,hW.held⟩ (Pr Vb hb.size) Vr hatl YY (fun q hq y hy e=>?_) (lo.new _ (Pr hM.sz zaa))).mono ?_
  ·obtain⟨i,hi⟩:=P5.1 hy;have:=(Pn.1 (hW.rgs.nds q hq i y hi)).1;omega
  ·rintro e w' ⟨rfl,wh',a,b,c⟩;refine⟨rfl,wh',a,⟨_,b,fun r hr=>?_,fun t ht=>?_⟩,(Y.RfE.of hb Vb).trans c⟩
   ·dsimp only;rw[Re];by_cases e:r=Y.place s.now (Y.atF s.now d)
    ·subst e;rw[Y.aE,Qj,hF _ hr];simp
    ·rw[Y.aH _ _ e,hF r hr];have:(Y.place s.now (Y.atF s.now d) == r)=false:=by simpa using fun h=>e h.symm
     simp[this]
   ·rcases PQ.1 ht with ht|ht
    ·exact hB t ht
    ·rw[PB.1 ht];exact hatl
 clear hT hM hatl U3;by_cases Xd:s.now+d<18446744073709551616
 ·have VJ:Y.atF s.now d=s.now+d:=by unfold Y.atF;rw[PC Xd]
  rw[VJ]at H⊢;have hmod:IntKind.u64.wrap ((s.now:Int)+(d:Int))=((s.now+d:Nat):Int):=by rw[SQ];omega
  have Vd:¬(((s.now+d:Nat):Int)<(s.now:Int)):=zaa;exact zdi
 ·have VJ:Y.atF s.now d=18446744073709551615:=by unfold Y.atF;rw[Pu Xd]
  rw[VJ]at H⊢;have hmod:IntKind.u64.wrap ((s.now:Int)+(d:Int))=((s.now+d-18446744073709551616:Nat):Int):=by rw[SQ];omega
  have Vd:((s.now+d-18446744073709551616:Nat):Int)<(s.now:Int):=zaa;generalize s.now+d-18446744073709551616=q at *;exact zdi
attribute [local go_sem] Qu
theorem xg(mb o:Nat)(w:World):() 233 #[(mb,o)] w fun e w'=>e=.returned (.func (.func 259) #[] #[w])/\w'=w.alloc (.cells #[(mb,o)] 296):=by
 go_enter func233,ntmps233;exact zfr
theorem Ci(a:Int):wrap64 (wrap64 a+1)=wrap64 (a+1):=by unfold wrap64;omega
namespace Y
def gI(R:Nat->List Nd)(xs:List Nat):Nat:=(xs.map fun r=>(R r).length).sum
theorem qz(R:Nat->List Nd)(xs:List Nat)(r:Nat):gI R (xs++[r])=gI R xs+(R r).length:=by unfold gI;simp
end Y
theorem Gi(w:World)(mb:Nat)(R:Nat->List Y.Nd)(hv:Nat->Nat)(YL:∀k,k<6->hv k<18446744073709551616)(hR:∀Bs V,Below w w V->Boxed V Bs 296 (mb,27)->Y.Cn V Bs mb R hv)(hN:∀r,Y.isR r->Y.cV w (R r))(Vi:∀r,Y.isR r->((R r).map (·.1)).Nodup)(hmb:mb<w.heap.size)(hg:5<w.heap.size):
  () 347 #[(mb,27)] w fun e w'=>e=.returned (.int .i64 (wrap64 (Y.gI R (Y.gY hv):Nat)))/\Below w w w':=by
 refine(P8 (n:=9)).1 ?_;refine Qv func347 rfl trivial ?_ rfl;simp only[ntmps347,List.size_toArray,List.length_cons,List.length_nil,Nat.reduceAdd,Nat.reduceSub,Array.replicate_succ,Array.replicate_zero,List.push_toArray,List.append_toArray,List.nil_append,List.cons_append];gi_wp2_with(refine⟨trivial,?_⟩;gi_at_call 233;refine(P8.2 (xg mb 27 _)).mono ?_;rintro e w9 ⟨rfl,U1⟩;rw[U1];clear U1 w9);have b0:=(P9 w 3 (.int .i64 0)).alloc (.cells #[(mb,27)] 296);have b1:=P9 (w.alloc (.cells #[(0:Int)] 3)) 296 (mb,27);simp only[World.size_alloc]at b1;have VG:Below w w ((w.alloc (.cells #[(0:Int)] 3)).alloc (.cells #[(mb,27)] 296)):=((Pq _ w).alloc (Po _) _).alloc zad _;have Y2:((w.alloc (.cells #[(0:Int)] 3)).alloc (.cells #[(mb,27)] 296)).heap.size=w.heap.size+2:=zad;generalize(w.alloc (.cells #[(0:Int)] 3)).alloc (.cells #[(mb,27)] 296)=W0 at *;have WD:∀r,Y.aN (R r)=.pointer none\/∃b,Y.aN (R r)=.pointer (some ⟨b,0,none⟩):=fun r=>by
  unfold Y.aN;cases(R r).getLast? with
  |none=>exact .inl rfl
  |some z=>exact .inr ⟨z.1,rfl⟩
 have XZ:wrap64 ((Y.gI R []:Nat):Int)=0:=by unfold Y.gI wrap64;simp
 have b0:Boxed W0 w 3 (.int .i64 (wrap64 ((Y.gI R []:Nat):Int))):=by rw[XZ];exact b0
 clear XZ;refine uj rfl zaa (gf:=259) rfl trivial (RT func259 zab rfl)
  (Kf 8 zaa (w.heap.size+1) mb R hv YL (fun k _=>k=w.heap.size) W0 (hR _ W0 VG b1) zaa (fun _=>zaa) (fun _=>zaa) (fun k _ h=>.inl zaa))
  KpN.tr (fun V o o' h ho=>KpN.put zaa V o o' h ho) (fun _=>rfl)
  (fun xs V=>Boxed V w 3 (.int .i64 (wrap64 (Y.gI R xs:Nat)))/\Below w w V/\W0.heap.size<=V.heap.size)
  (Qi (QU (QM _ _ _) _) (Qi (Ru (Po _) zaa) (fun _ _ _ _ h hg _=>Pr h hg.size)))
  (fun _ _ _=>trivial) ⟨b0,VG,Po _⟩
  (fun r a' V=>∃b,a'={ tmps:=#[.pointer (some ⟨mb,27,none⟩),undef,.int .i64 0,.pointer (some ⟨w.heap.size,0,none⟩),.pointer (some ⟨b,0,none⟩),.pointer (some ⟨mb,27,none⟩),.func (.func 259) #[] #[.pointer (some ⟨w.heap.size+1,0,none⟩)],.agg #[Y.aN (R r)],undef,undef,undef,undef,undef,undef],defers:=[] }/\Boxed V b 172 (Y.aN (R r))/\w.heap.size+2<=b)
  (fun r a' u A C row h hg hr=>by
   obtain⟨b,e,hb,hl⟩:=h;exact⟨b,e,QU (QM (β:=Unit) b 172 (fun _=>Y.aN (R r))) _ () A C row hb hg hr,hl⟩)
  ?assign ?body ?done
 case assign=>
  intro l xs r V K hI hK;have hVs:=hI.2.1.size;have Wy:∀rv:Value,Y.aN (R r)=rv->K _ (V.alloc (.cells #[rv] 172)):=fun rv e=>hK _ _ ((Uz _ _).from _) (KpN.below ((Pq _ V).alloc (Po _) _)) ⟨hI.1.alloc _,hI.2.1.alloc hVs _,by have:=hI.2.2;simp;omega⟩ ⟨V.heap.size,rfl,e▸P9 V _ _,by have:=hI.2.2;omega⟩;exact zdL
 case body=>
  rintro l xs r a' V hl ⟨rl,Xv⟩ Y1 ⟨hc,hB,hsV⟩ ⟨b,rfl,hb,VM⟩;have VX:=hb.cell;have hVs:=hB.size;have ZG:1<=9-1-1:=zaa;obtain⟨rv,VY⟩:∃rv,Y.aN (R r)=rv:=⟨_,rfl⟩;have hshr:=WD r;have WS:=nH rv V (VY▸hshr);rw[VY]at VX⊢;gi_wp2_with(refine⟨trivial,?_⟩;gi_at_call 188;refine(aI WS).mono ?_;rintro e w9 ⟨rfl,U1⟩;rw[U1];clear U1 w9);have hr':(V.alloc (.cells #[rv] 172)).heap[l]?=some (.loop rl):=(QS V _ l (Pn.1 Xv).1).trans Xv;have bx:(V.alloc (.cells #[rv] 172)).cell? V=some rv:=Pt _ _ 0 _ _ (0,0) (PG V _);have hBV:Below V V (V.alloc (.cells #[rv] 172)):=(Pq _ V).alloc (Po _) _;have VK:=hB.trans (hBV.mono hVs);have hca:=hc.alloc (.cells #[rv] 172);have hsa:(V.alloc (.cells #[rv] 172)).heap.size=V.heap.size+1:=zad;generalize V.alloc (.cells #[rv] 172)=V2 at *;have hNl:∀x∈R r,x.1<w.heap.size:=fun x hx=>by
   obtain⟨i,hi⟩:=P5.1 hx;exact(Pn.1 (hN r Y1 i x hi)).1
  have hN2:Y.cV V2 (R r):=fun i x hx=>(VK.block x.1 (hNl x (PD hx))).trans (hN r Y1 i x hx);refine wpIn_rangeFunc_ownN (l₀:=l) (r₀:=rl) rfl hr' ZG (gf:=228) rfl trivial (RT func228 zab rfl)
   ((re (9-1-1-1) zaa V.heap.size (R r) (Vi r Y1) (fun k _=>k=w.heap.size) V2 (bx.trans (congrArg some VY.symm)) hN2 (fun _=>zaa) (fun x hx _=>by have:=hNl x hx;omega)).inRound l)
   KpM.tr (fun V l o o' _ h hc _=>KpM.put V l o o' h hc) (Pq _ _) (fun _=>rfl)
   (fun ys U=>(Boxed U w 3 (.int .i64 (wrap64 ((Y.gI R xs+ys.length:Nat):Int)))/\Below w w U)/\KpN (fun k _=>k=w.heap.size) (W0.heap.size+2) V U/\KeepsFrom W0.heap.size V U) (fun _ _ _=>False)
   (Qi (Qi (QU (QM _ _ _) _) (Ru (Po _) zaa)) (Qi (KpN.own zaa) (Uy zaa)))
   (fun _ _ _ _ _ hs _ _=>hs) ⟨⟨by simpa using hca,VK⟩,KpN.below hBV,(Y.eJ hBV).from _⟩
   (fun x a' _=>a'={ tmps:=#[(mb,27),undef,(0:Int),w,b,(mb,27),.func (.func 259) #[] #[↑(w.heap.size+1)],.agg #[rv],.agg #[rv],.func (.func 228) #[] #[V],.pointer (some ⟨x.1,0,none⟩),undef,undef,undef],defers:=[] })
   (fun _ _ _ _ _ _ hs _ _=>hs) ?assign2 ?body2 ?done2 ?stop2
  case assign2=>
   rintro l2 ys x U K hi hK;gi_wp2;exact hK _ _ (QP _ _) (KpM.refl _ _) hi rfl
  case body2=>
   rintro l2 ys x a' U _ _ ⟨⟨hcU,hBU⟩,hkU,hkf⟩ rfl _;have cc:=hcU.cell;have cf:=hcU.frozen;have Vq:=hcU.set (.int .i64 (wrap64 ((Y.gI R xs+(ys++[x]).length:Nat):Int)));have Xd:=Ci ((Y.gI R xs+ys.length:Nat):Int);rw[show((Y.gI R xs+ys.length:Nat):Int)+1=((Y.gI R xs+(ys++[x]).length:Nat):Int) by simp;omega]at Xd;obtain⟨c2,Zi⟩:∃c,Y.gI R xs+(ys++[x]).length=c:=⟨_,rfl⟩;obtain⟨c1,Yy⟩:∃c,Y.gI R xs+ys.length=c:=⟨_,rfl⟩;rw[Zi]at Vq Xd;rw[Yy]at Xd cc hcU;have HC:Hid _:=Zi;clear Yy Zi;obtain⟨q2,Yn⟩:∃q,wrap64 (c2:Int)=q:=⟨_,rfl⟩;obtain⟨q1,hq1⟩:∃q,wrap64 (c1:Int)=q:=⟨_,rfl⟩;rw[hq1]at Xd cc;rw[Yn]at Xd Vq;rw[hq1]at hcU;have HQ:Hid (wrap64 (c2:Int)=q2):=Yn;clear hq1 Yn;gi_wp2;refine⟨(Qz _ _ _).from _,KpM.set U _ _ (fun _=>rfl),⟨?_,hBU.setCell (p:=w) zad _⟩,hkU.tr (KpN.set U _ _ (fun _=>rfl)),hkf.trans ((Qz _ _ _).from _)⟩;show Boxed _ _ _ (.int .i64 (wrap64 ((Y.gI R xs+(ys++[x]).length:Nat):Int)));rw[HC.out,HQ.out];exact Vq
  case done2=>
   rintro ys U WT ⟨⟨hcU,hBU⟩,hkU,hkf⟩;subst WT;have ZZ:Y.gI R (xs++[r])=Y.gI R xs+(R r).length:=Y.qz R xs r;gi_wp2;exact⟨hkf,hkU,by rw[ZZ];exact hcU,hBU,Pr hsV hkU.1.1⟩
  case stop2=>
   rintro c pre U _ h;exact h.elim
 case done=>
  rintro D xs V hD hS ⟨hc,hB,_⟩ Vm;subst hS;have hc:=hc.cell;gi_wp2;refine⟨zad,.inl ⟨_,_,rfl,Qn Vm,?_⟩⟩;exact⟨_,TX rfl _ _ _,rfl,hB.trans (R3 (w:=w) (Po _) V D _ _ zaa Vm rfl rfl)⟩
namespace Y
theorem rm(f:Nat->Nat)(q:Nat->Bool):∀L:List Nat,(∀s∈L,q s=false->f s=0)->((L.filter q).map f).sum=(L.map f).sum
 |[],_=>rfl
 |s::L,h=>by
  have ih:=rm f q L (fun x hx=>h x (P3 _ hx));cases hq:q s
  ·rw[Rl (by rw[hq];decide),ih,Q7,TS,h s (PZ ..) hq];omega
  ·rw[Rn hq,Q7,TS,ih,Q7,TS]
def cn(k:Nat):List Nat:=(List.range k).flatMap fun k=>(List.range 64).map (k*65+·)
def xV:List Nat:=cn 6++[390]
theorem Ct(k:Nat):cn (k+1)=cn k++(List.range 64).map (k*65+·):=by
 unfold cn;rw[Ty (n:=k),Qc,RH]
theorem Cs:xV.Nodup:=zbx
theorem JI(h:isR r):r∈xV:=by
 unfold xV cn
 rcases h with⟨h1,h2⟩|rfl
 ·refine TZ _ (Rv.2 ⟨r / 65,QF.2 zaa,P0.2 ⟨r % 65,QF.2 zaa,zaa⟩⟩)
 ·exact List.mem_append_right _ (PB.2 rfl)
theorem Fb(x:Nat):∀L:List Nat,L.Nodup->(L.map fun r=>if x == r then 1 else 0).sum=if x∈L then 1 else 0
 |[],_=>rfl
 |r::L,h=>by
  obtain⟨h1,h2⟩:=Ta.1 h;rw[Q7,TS,Fb x L h2];by_cases e:x=r
  ·subst e;simp[h1]
  ·have:(x == r)=false:=by simpa using e
   simp[this,e]
theorem sum_add(f g:Nat->Nat):∀L:List Nat,(L.map fun r=>f r+g r).sum=(L.map f).sum+(L.map g).sum
 |[]=>rfl
 |r::L=>by
  simp only[List.map_cons,List.sum_cons,sum_add f g L];omega
theorem BR:∀L:List Nat,(L.map fun _=>0).sum=0
 |[]=>rfl
 |_::L=>by rw[Q7,TS,BR L]
theorem uE(p:Tn->Nat)(L:List Nat)(hn:L.Nodup):∀T:List Tn,(∀t∈T,p t∈L)->(L.map fun r=>(T.filter fun t=>p t == r).length).sum=T.length
 |[],_=>BR L
 |t::T,h=>by
  have ih:=uE p L hn T (fun x hx=>h x (P3 _ hx));have e:(fun r=>((t::T).filter fun t=>p t == r).length)=fun r=>(if p t == r then 1 else 0)+(T.filter fun t=>p t == r).length:=by
   funext r;cases hp:p t == r
   ·rw[Rl (by rw[hp];decide)];simp
   ·rw[Rn (p:=fun t=>p t == r) hp,Qw,PC rfl];omega
  rw[e,sum_add,ih,Fb _ L hn,PC (h t (PZ ..)),Qw];omega
theorem qT(R:Nat->List Nd)(a b:List Nat):gI R (a++b)=gI R a+gI R b:=by
 unfold gI;rw[Qj,UR]
theorem FM(h:∀s,s<64->(hv k).testBit s=!(R (k*65+s)).isEmpty):gI R (lS hv k)=gI R ((List.range 64).map (k*65+·)):=by
 unfold gI lS fh;rw[QW,QW];refine rm _ _ _ (fun s hs hb=>?_);rw[h s (QF.1 hs)]at hb;show(R (k*65+s)).length=0;simpa using hb
theorem Ag{R:Nat->List Nd}{hv:Nat->Nat}(h:∀k,k<6->∀s,s<64->(hv k).testBit s=!(R (k*65+s)).isEmpty):∀k,k<=6->gI R (kW hv k)=gI R (cn k)
 |0,_=>rfl
 |k+1,hk=>by rw[ju,Ct,qT,qT,Ag h k zaa,FM (h k zaa)]
theorem ga.count(hW:WhM W lo s R)(hF:∀r,isR r->(R r).map (·.2)=T.filter (fun t=>place s.now t.t == r)):∃hv:Nat->Nat,(∀k,k<6->hv k<18446744073709551616)/\(∀k,k<6->s.wh (28+(k*65+64))=.int .u64 (hv k))/\gI R (gY hv)=T.length:=by
 have hh:∀k,∃h:Nat,k<6->h<18446744073709551616/\s.wh (28+(k*65+64))=.int .u64 h/\∀j,j<64->h.testBit j=!(R (k*65+j)).isEmpty:=fun k=>by
  by_cases hk:k<6
  ·obtain⟨h,a⟩:=hW.held k hk;exact⟨h,fun _=>a⟩
  ·exact⟨0,fun h=>absurd h hk⟩
 refine⟨fun k=>(hh k).choose,fun k hk=>((hh k).choose_spec hk).1,fun k hk=>((hh k).choose_spec hk).2.1,?_⟩;have h6:=Ag (R:=R) (hv:=fun k=>(hh k).choose) (fun k hk=>((hh k).choose_spec hk).2.2) 6 zaa;unfold gY;rw[qz,h6,<- qz];have e:gI R (cn 6++[390])=(xV.map fun r=>(T.filter fun t=>place s.now t.t == r).length).sum:=by
  unfold gI xV
  congr 1
  refine SO (fun r hr=>?_);have Y1:isR r:=by
   rcases PQ.1 hr with hr|hr
   ·unfold cn at hr;obtain⟨k,hk,hr⟩:=Rv.1 hr;obtain⟨j,hj,rfl⟩:=P0.1 hr;have:=QF.1 hk;have:=QF.1 hj;exact .inl zaa
   ·exact .inr (PB.1 hr)
  rw[<- hF r Y1,PE]
 rw[e];exact uE (fun t=>place s.now t.t) xV Cs T (fun t _=>JI (gD _ _))
end Y
theorem LW(w:World)(lo:Y.Lo)(mb pb:Nat)(qv:Value)(s:Y.MSt)(T:List Y.Tn)(hM:Y.aw w lo mb pb qv s)(hT:Y.ga w lo s T)(hl:T.length<=1000)(hg:5<w.heap.size)(hG:TabAt 5 Lib.deBruijn64tab w):
  () 347 #[(mb,27)] w fun e w'=>e=.returned (T.length:Int)/\Below w w w':=by
 obtain⟨R,hW,hF,_⟩:=hT;obtain⟨hv,v1,v2,v3⟩:=Y.ga.count hW hF;have h:=Gi w mb R hv v1 (fun Bs V hb hc=>?_) (fun r hr=>hW.rgs.nds r hr) (fun r hr=>hW.rgs.nod r hr) hM.lt hg
 ·rw[v3,show wrap64 (T.length:Int)=(T.length:Int) by unfold wrap64;omega]at h;exact h
 ·have c:∀i,28<=i->i<419->V.cell? ⟨mb,i,none⟩=some (s.wh i):=fun i h1 h2=>(hb.cell (p:=⟨mb,i,none⟩) hM.lt).trans (hM.whc i h1 h2);refine⟨hc,fun k hk=>?_,fun k j hk hj=>?_,?_,fun j hj=>(hb.cell (p:=⟨5,j,none⟩) hg).trans (hG j hj)⟩
  ·rw[QG,c _ zaa zaa,v2 k hk]
  ·rw[QG,c _ zaa zaa,hW.rgs.ring _ (.inl zaa)]
  ·rw[c 418 zaa zaa];exact congrArg some (hW.rgs.ring 390 (.inr rfl))
attribute [local go_sem] Qu
theorem Ae(w:World)(Nb:Nat)(ev nm nm0:())(hN:w.cell? Nb=some ↑nm0):
  () 372 #[.agg #[ev,nm],Nb] w fun e w'=>e=.returned (.bool (nm.toList == nm0.toList))/\w'=w.alloc (.cells #[ev,nm] 227):=by
 have hl:=i1 hN;have hN1:(w.alloc (.cells #[ev,nm] 227)).cell? Nb=some ↑nm0:=o8 ((Pq _ w).alloc (Po _) _) hN;go_enter func372,ntmps372;go_wp2;go_ret;exact⟨rfl,rfl⟩
namespace Y
def bG(nm0:())(L:List Nd):List Nd:=L.filter fun x=>!(x.2.nm.toList == nm0.toList)
theorem tF(nm0:())(L:List Nd)(x:Nd):bG nm0 (L++[x])=if x.2.nm.toList == nm0.toList then bG nm0 L else bG nm0 L++[x]:=by
 unfold bG;rw[Re];cases h:x.2.nm.toList == nm0.toList<;>simp[h]
structure DrI(w0:World)(mb c:Nat)(nm0:())(L:List Nd)(xs:List Nd)(V:World):Prop where
 pre:xs=L.take xs.length
 cell:V.cell? (mb,c)=some (aN (bG nm0 xs))
 ring:cV V (bG nm0 xs)
 rest:∀i x,xs.length<=i->L[i]?=some x->V.heap[x.1]?=some (.cells (eU x.2 (nxt L i)) 302 (0,0))
 nd:∀x∈L,∃v,V.heap[x.1]?=some (.cells (eU x.2 v) 302 (0,0))
 mo:Mo (fun k=>k=mb\/∃x∈L,k=x.1) w0 V
 blk:∃arr arr':Array Value,w0.heap[mb]?=some (.cells arr 180 (0,0))/\V.heap[mb]?=some (.cells arr' 180 (0,0))/\arr'.size=arr.size/\∀j,j≠c->arr'[j]?=arr[j]?
theorem kO(h:x∈bG nm0 L):x∈L:=(Q2.1 h).1
theorem ni(h:x∈L.take n):x∈L:=Si h
theorem mS(Vi:(L.map (·.1)).Nodup){i:Nat}(hi:n<=i)(hy:L[i]?=some y):∀z∈L.take n,z.1≠y.1:=fun z hz e=>by
 obtain⟨j,hj⟩:=P5.1 hz;have YV:j<n:=by
  have:=(Ps.1 hj).1;rw[QN]at this;omega
 rw[QK YV]at hj;have a1:(L.map (·.1))[j]?=some y.1:=by rw[Pv,hj,<- e];rfl
 have a2:(L.map (·.1))[i]?=some y.1:=by rw[Pv,hy];rfl
 have:=(TI (by simp;exact(Ps.1 hj).1) Vi).1 (a1.trans a2.symm);omega
theorem JO(Vi:(L.map (·.1)).Nodup){z:Nd}(hy:y∈L)(hz:z∈L)(e:y.1=z.1):y=z:=by
 obtain⟨i,hi⟩:=P5.1 hy;obtain⟨j,hj⟩:=P5.1 hz;have a1:(L.map (·.1))[i]?=some y.1:=by rw[Pv,hi];rfl
 have a2:(L.map (·.1))[j]?=some y.1:=by rw[Pv,hj,e];rfl
 have:=(TI (by simp;exact(Ps.1 hi).1) Vi).1 (a1.trans a2.symm);subst this;rw[hi]at hj;exact Qh hj
theorem DP{w:World}{mb o n:Nat}{l:List Nd}{v:Value}(hc:w.cell? (mb,o)=some v)(ZZ:mb≠n)(Vu:mb ∉ l.map (·.1)):(eL w ⟨mb,o,none⟩ l n).cell? (mb,o)=some (ndP n):=by
 have Vq:∀(W:World) (b:Nat) (u:Value),mb≠b->(W.setCell ⟨b,3,none⟩ u).cell? (mb,o)=W.cell? (mb,o):=fun W b u hb=>aA zcx;unfold eL;cases hz:l.getLast? with
 |none=>exact Sg _ _ _ ((Vq _ _ _ ZZ).trans hc)
 |some z=>
  have Zb:mb≠z.1:=fun e=>Vu (P0.2 ⟨z,RD hz,e.symm⟩);exact zeA
theorem GL{w:World}{mb o n:Nat}{l:List Nd}{arr:Array Value}{t:TypeId}(hb:w.heap[mb]?=some (.cells arr t (0,0)))(ZZ:mb≠n)(Vu:mb ∉ l.map (·.1)):(eL w ⟨mb,o,none⟩ l n).heap[mb]?=some (.cells (arr.setIfInBounds o (ndP n)) t (0,0)):=by
 have Vq:∀(W:World) (b:Nat) (u:Value),mb≠b->(W.setCell ⟨b,3,none⟩ u).heap[mb]?=W.heap[mb]?:=fun W b u hb=>Qg W _ u mb hb;unfold eL;cases hz:l.getLast? with
 |none=>exact PR _ mb o _ _ _ ((Vq _ _ _ ZZ).trans hb)
 |some z=>
  have Zb:mb≠z.1:=fun e=>Vu (P0.2 ⟨z,RD hz,e.symm⟩);exact PR _ mb o _ _ _ ((Vq _ _ _ Zb).trans ((Vq _ _ _ ZZ).trans hb))
theorem DrI.mo'{P:Nat->Prop}(h:DrI w0 mb c nm0 L xs V)(hm:Mo P V V')(h1:¬P mb)(h2:∀x∈L,¬P x.1)(h3:∀k,k<w0.heap.size->P k->k=mb\/∃x∈L,k=x.1):DrI w0 mb c nm0 L xs V':=by
 obtain⟨arr,arr',a1,a2,a3,a4⟩:=h.blk;have Xr:=(Pn.1 a2).1;have hk:∀(x:Nd) (ob:Obj),x∈L->V.heap[x.1]?=some ob->V'.heap[x.1]?=some ob:=fun x ob hx ho=>(hm.block x.1 (Pn.1 ho).1 (h2 x hx)).trans ho;refine⟨h.pre,(hm.cell (p:=(mb,c)) Xr h1).trans h.cell,fun i x hx=>?_,fun i x hi hx=>hk x _ (PD hx) (h.rest i x hi hx),fun x hx=>?_,h.mo.trans' hm h3,arr,arr',a1,(hm.block mb Xr h1).trans a2,a3,a4⟩
 ·have Xo:x∈L:=ni (h.pre▸kO (PD hx));exact hk x _ Xo (h.ring i x hx)
 ·obtain⟨v,hv⟩:=h.nd x hx;exact⟨v,hk x _ hx hv⟩
theorem DrI.below(h:DrI w0 mb c nm0 L xs V)(hb:Below V V V'):DrI w0 mb c nm0 L xs V':=h.mo' (P:=fun _=>False) (az hb) (fun h=>h) (fun _ _ h=>h) (fun _ _ h=>h.elim)
theorem DrI.own{B:Nat}(hB:w0.heap.size<=B):OwnFrom B (fun xs V=>DrI w0 mb c nm0 L xs V):=fun xs A C row h hg hr=>by
 obtain⟨arr,arr',a1,a2,a3,a4⟩:=h.blk;refine h.mo' (P:=fun k=>some k=row) ⟨hg.os,hg.tape,hg.output,hg.size,fun k hk hn=>hg.block k hk hn⟩ (fun e=>?_) (fun x hx e=>?_) (fun k hk e=>?_)
 ·obtain⟨_,o,ho,hc⟩:=hr _ e.symm;rw[a2]at ho;cases ho
  cases hc
 ·obtain⟨_,o,ho,hc⟩:=hr _ e.symm;obtain⟨v,hv⟩:=h.nd x hx;rw[hv]at ho;cases ho
  cases hc
 ·have:=(hr k e.symm).1;omega
theorem DrI.skip(h:DrI w0 mb c nm0 L xs V)(hx:L[xs.length]?=some x)(hn:(x.2.nm.toList == nm0.toList)=true):DrI w0 mb c nm0 L (xs++[x]) V:=by
 have hk:bG nm0 (xs++[x])=bG nm0 xs:=by rw[tF,PC hn]
 refine⟨?_,by rw[hk];exact h.cell,by rw[hk];exact h.ring,fun i y hi hy=>h.rest i y (by rw[PI]at hi;omega) hy,h.nd,h.mo,h.blk⟩;rw[PI,Q6,<- dM hx,<- h.pre]
theorem DrI.push(h:DrI w0 mb c nm0 L xs V)(Vi:(L.map (·.1)).Nodup)(hx:L[xs.length]?=some x)(hn:(x.2.nm.toList == nm0.toList)=false):
  x.1 ∉ (bG nm0 xs).map (·.1)/\mb≠x.1/\mb ∉ (bG nm0 xs).map (·.1)/\DrI w0 mb c nm0 L (xs++[x]) (eL V ⟨mb,c,none⟩ (bG nm0 xs) x.1):=by
 obtain⟨arr,arr',a1,a2,a3,a4⟩:=h.blk;have hk:bG nm0 (xs++[x])=bG nm0 xs++[x]:=by rw[tF,Pu (by rw[hn];decide)]
 have Vs:∀z∈bG nm0 xs,z∈L.take xs.length:=fun z hz=>h.pre▸kO hz;have Xo:x∈L:=PD hx;have Yo:∀y∈L,mb≠y.1:=fun y hy e=>by
  obtain⟨v,hv⟩:=h.nd y hy;rw[<- e,a2]at hv;simp at hv
 have n1:x.1 ∉ (bG nm0 xs).map (·.1):=fun e=>by
  obtain⟨z,hz,e⟩:=P0.1 e;exact mS Vi (Po _) hx z (Vs z hz) e
 have n3:mb ∉ (bG nm0 xs).map (·.1):=fun e=>by
  obtain⟨z,hz,e⟩:=P0.1 e;exact Yo z (ni (Vs z hz)) e.symm
 have n4:((bG nm0 xs).map (·.1)).Nodup:=by
  have:(bG nm0 xs).Sublist L:=by
   refine List.Sublist.trans List.filter_sublist ?_;rw[h.pre];exact List.take_sublist _ _
  exact(this.map _).nodup Vi
 obtain⟨p1,p2⟩:=h.ring.push (p:=(mb,c)) (x:=x.2) n4 (h.rest _ x (Po _) hx) n1 (Yo x Xo) n3;have hzL:∀z,(bG nm0 xs).getLast?=some z->z∈L.take xs.length:=fun z hz=>Vs z (RD hz);refine⟨n1,Yo x Xo,n3,?_,?_,by rw[hk];exact p1,fun i y hi hy=>?_,fun y hy=>?_,h.mo.trans' p2 (fun k _ e=>?_),arr,_,a1,GL a2 (Yo x Xo) n3,by simp[a3],fun j hj=>?_⟩
 ·rw[PI,Q6,<- dM hx,<- h.pre]
 ·rw[hk,oT];exact DP h.cell (Yo x Xo) n3
 ·rw[PI,Q6]at hi;have hv:=h.rest i y zaa hy;refine(p2.block y.1 (Pn.1 hv).1 (fun e=>?_)).trans hv;have hxt:x∈L.take (xs.length+1):=by rw[<- dM hx];simp
  rcases e with e|e|⟨z,hz,e⟩
  ·exact Yo y (PD hy) e.symm
  ·exact mS Vi hi hy x hxt e.symm
  ·exact mS Vi zaa hy z (hzL z hz) e.symm
 ·by_cases e1:y.1=x.1
  ·obtain rfl:=JO Vi hy Xo e1;have:=p1 (bG nm0 xs).length y zad;exact⟨_,this⟩
  ·by_cases e2:∃z,(bG nm0 xs).getLast?=some z/\y.1=z.1
   ·obtain⟨z,hz,e2⟩:=e2;obtain rfl:=JO Vi hy (ni (hzL z hz)) e2;obtain⟨i,hi⟩:=P5.1 (RD hz);have hi2:(bG nm0 xs++[(x.1,x.2)])[i]?=some y:=by rw[Qo (Ps.1 hi).1];exact hi
    exact⟨_,p1 i y hi2⟩
   ·obtain⟨v,hv⟩:=h.nd y hy;refine⟨v,(p2.block y.1 (Pn.1 hv).1 (fun e=>?_)).trans hv⟩
    rcases e with e|e|e
    ·exact Yo y hy e.symm
    ·exact e1 e
    ·exact e2 e
 ·rcases e with e|e|⟨z,hz,e⟩
  ·exact .inl e
  ·exact .inr ⟨x,Xo,e⟩
  ·exact .inr ⟨z,ni (hzL z hz),e⟩
 ·rw[Q0 (fun e=>hj e.symm)];exact a4 j hj
end Y
theorem GO(w:World)(mb c Nb:Nat)(nm0:())(L:List Y.Nd)(arr:Array Value)(hb:w.heap[mb]?=some (.cells arr 180 (0,0)))(hc:w.cell? (mb,c)=some (Y.aN L))(hR:Y.cV w L)(Vi:(L.map (·.1)).Nodup)(hN:Boxed w Nb 9 (.string nm0)):
  () 375 #[(mb,c),.func (.func 372) #[] #[Nb]] w fun e w'=>e=.returned (.tuple #[])/\Y.DrI w mb c nm0 L L w':=by
 refine(P8 (n:=7)).1 ?_;have Xj:w.frozen? (mb,c)=false:=by simp[World.frozen?,hb]
 have hmb:mb<w.heap.size:=(Pn.1 hb).1;obtain⟨rp,VY⟩:∃rp,Y.aN L=.pointer rp:=by
  unfold Y.aN;cases L.getLast? with
  |none=>exact⟨_,rfl⟩
  |some z=>exact⟨_,rfl⟩
 have WS:=fun V=>nH (Y.aN L) V (by
  unfold Y.aN;cases L.getLast? with
  |none=>exact .inl rfl
  |some z=>exact .inr ⟨z.1,rfl⟩)
 rw[VY]at hc WS;have Xi:∀o1 o2 o3:Obj,Below w w (((w.alloc o1).alloc o2).alloc o3):=fun o1 o2 o3=>(((Pq _ w).alloc (Po _) _).alloc zad _).alloc zaf _;have VA:=(Xi (.cells #[(mb,c)] 411) (.cells #[.func (.func 372) #[] #[Nb]] 297) (.cells #[.pointer rp] 172)).block mb hmb;rw[hb]at VA;have c3:(((w.alloc (.cells #[(mb,c)] 411)).alloc (.cells #[.func (.func 372) #[] #[Nb]] 297)).alloc (.cells #[.pointer rp] 172)).cell? (mb,c)=some (.pointer rp):=by rw[Pt _ _ _ _ _ _ VA,<- Pt w _ _ _ _ _ hb];exact hc
 have f3:(((w.alloc (.cells #[(mb,c)] 411)).alloc (.cells #[.func (.func 372) #[] #[Nb]] 297)).alloc (.cells #[.pointer rp] 172)).frozen? (mb,c)=false:=by simp[World.frozen?,VA]
 refine Qv func375 rfl trivial ?_ rfl;simp only[ntmps375,List.size_toArray,List.length_cons,List.length_nil,Nat.reduceAdd,Nat.reduceSub,Array.replicate_succ,Array.replicate_zero,List.push_toArray,List.append_toArray,List.nil_append,List.cons_append];gi_wp2_with(refine⟨trivial,?_⟩;gi_at_call 188;refine(P8.2 (WS _)).mono ?_;rintro e w9 ⟨rfl,U1⟩;rw[U1];clear U1 w9);have hW3s:(((w.alloc (.cells #[(mb,c)] 411)).alloc (.cells #[.func (.func 372) #[] #[Nb]] 297)).alloc (.cells #[.pointer rp] 172)).heap.size=w.heap.size+3:=zad;have B3:=Xi (.cells #[(mb,c)] 411) (.cells #[.func (.func 372) #[] #[Nb]] 297) (.cells #[.pointer rp] 172);have x0:Boxed (((w.alloc (.cells #[(mb,c)] 411)).alloc (.cells #[.func (.func 372) #[] #[Nb]] 297)).alloc (.cells #[.pointer rp] 172)) w.heap.size 411 (mb,c):=((P9 w _ _).alloc _).alloc _;have x1:Boxed (((w.alloc (.cells #[(mb,c)] 411)).alloc (.cells #[.func (.func 372) #[] #[Nb]] 297)).alloc (.cells #[.pointer rp] 172)) (w.heap.size+1) 297 (.func (.func 372) #[] #[Nb]):=by
  have:=(P9 (w.alloc (.cells #[(mb,c)] 411)) 297 (.func (.func 372) #[] #[Nb])).alloc (.cells #[.pointer rp] 172);rw[QL]at this;exact this
 have xN:Boxed (((w.alloc (.cells #[(mb,c)] 411)).alloc (.cells #[.func (.func 372) #[] #[Nb]] 297)).alloc (.cells #[.pointer rp] 172)) Nb 9 (.string nm0):=aD hN B3 hN.lt;clear c3 f3 Xj Xi;generalize(((w.alloc (.cells #[(mb,c)] 411)).alloc (.cells #[.func (.func 372) #[] #[Nb]] 297)).alloc (.cells #[.pointer rp] 172))=W3 at *;have U9:Nb≠mb:=fun e=>by
  have h:=hN;rw[e]at h;rw[show w.heap[mb]?=_ from h]at hb;simp at hb
 have x3:=P9 (W3.setCell (mb,c) (.pointer none)) 172 (.pointer rp);have hsS:(W3.setCell (mb,c) (.pointer none)).heap.size=w.heap.size+1+1+1:=by simp[hW3s]
 rw[hsS]at x3;have y0:=(bD x0 (p:=(mb,c)) (by show w.heap.size≠mb;omega) (.pointer none)).alloc (.cells #[.pointer rp] 172);have y1:=(bD x1 (p:=(mb,c)) (by show w.heap.size+1≠mb;omega) (.pointer none)).alloc (.cells #[.pointer rp] 172);have yN:=(bD xN (p:=(mb,c)) U9 (.pointer none)).alloc (.cells #[.pointer rp] 172);have hbS:(W3.setCell (mb,c) (.pointer none)).heap[mb]?=some (.cells (arr.setIfInBounds c (.pointer none)) 180 (0,0)):=PR W3 mb c _ _ _ VA;have Yo:∀y∈L,mb≠y.1:=fun y hy e=>by
  obtain⟨i,hi⟩:=P5.1 hy;have:=hR i y hi;rw[<- e,hb]at this;simp at this
 have hRS:∀(i:Nat) (y:Y.Nd),L[i]?=some y->(W3.setCell (mb,c) (.pointer none)).heap[y.1]?=some (.cells (Y.eU y.2 (Y.nxt L i)) 302 (0,0)):=fun i y hy=>(Qg W3 _ _ y.1 (fun e=>Yo y (PD hy) e.symm)).trans ((B3.block y.1 (Pn.1 (hR i y hy)).1).trans (hR i y hy));have Vu:c<arr.size:=by
  rw[Pt w _ _ _ _ _ hb]at hc;exact(Pn.1 hc).1
 have hDS:Y.DrI w mb c nm0 L [] (W3.setCell (mb,c) (.pointer none)):=⟨zad,by rw[cell_of_row _ _ _ _ _ _ hbS];exact Q8 Vu,Y.cV.nil _,fun i y _ hy=>hRS i y hy,fun y hy=>by
  obtain⟨i,hi⟩:=P5.1 hy;exact⟨_,hRS i y hi⟩,(az (B3)).set _ _ (.inl rfl),arr,_,hb,hbS,zad,fun j hj=>Q0 (fun e=>hj e.symm)⟩
 have hD0:=hDS.below (((Pq _ _).alloc (Po _) (.cells #[.pointer rp] 172)));have Y2:((W3.setCell (mb,c) (.pointer none)).alloc (.cells #[.pointer rp] 172)).heap.size=w.heap.size+4:=by simp[hW3s]
 clear hDS hRS hbS hsS x0 x1 xN VA hW3s B3 WS;generalize(W3.setCell (mb,c) (.pointer none)).alloc (.cells #[.pointer rp] 172)=W0 at *;refine uj rfl zaa (gf:=228) rfl trivial (RT func228 zab rfl)
  (Bg 6 zaa (w.heap.size+1+1+1) L Vi W0) (fun _ _=>trivial) (fun _ _ _ _ _=>trivial) (fun _=>rfl)
  (fun xs V=>Y.DrI w mb c nm0 L xs V/\(Boxed V w 411 (mb,c)/\Boxed V (w.heap.size+1) 297 (.func (.func 372) #[] #[Nb]))/\(Boxed V (w.heap.size+1+1+1) 172 (.pointer rp)/\Boxed V Nb 9 (.string nm0)))
  (Qi (Y.DrI.own zaa) (Qi (Qi (QU (QM _ _ _) _) (QU (QM _ _ _) _)) (Qi (QU (QM _ _ _) _) (QU (QM _ _ _) _))))
  (fun xs V hI=>?rd) ⟨hD0,⟨y0,y1⟩,x3,yN⟩
  (fun x a' _=>a'={ tmps:=#[.pointer (some ⟨mb,c,none⟩),.func (.func 372) #[] #[.pointer (some ⟨Nb,0,none⟩)],.pointer (some ⟨w.heap.size,0,none⟩),.pointer (some ⟨w.heap.size+1,0,none⟩),.pointer (some ⟨w.heap.size+1+1,0,none⟩),.pointer (some ⟨x.1,0,none⟩),.pointer (some ⟨mb,c,none⟩),.pointer (some ⟨mb,c,none⟩),.agg #[.pointer rp],.pointer (some ⟨mb,c,none⟩),.pointer (some ⟨mb,c,none⟩),.pointer (some ⟨mb,c,none⟩),.agg #[.pointer rp],.func (.func 228) #[] #[.pointer (some ⟨w.heap.size+1+1+1,0,none⟩)],.pointer (some ⟨x.1,0,none⟩),undef,undef,undef,undef,undef,undef,undef,undef,undef,undef],defers:=[] }) (fun _ _ _ _ _ _ hs _ _=>hs) ?assign ?body ?done
 case rd=>
  obtain⟨hD,_,VP,_⟩:=hI;refine⟨by rw[VY];exact VP.cell,fun x hx=>?_,fun x hx=>?_,fun h0 z hz=>?_⟩
  ·obtain⟨v,hv⟩:=hD.nd x hx;exact⟨_,hv⟩
  ·rw[Pt V _ _ _ _ _ (hD.rest _ x (Po _) hx)];rfl
  ·have Xa:L[L.length-1]?=some z:=zaA;rw[Pt V _ _ _ _ _ (hD.rest _ z zaa Xa)];rfl
 case assign=>
  intro l xs x V K hI hK;exact zfg
 case body=>
  rintro l xs x a' V hl ⟨rl,Xv⟩ ⟨hx,WE⟩ ⟨hD,⟨z0,z1⟩,z3,zN⟩ rfl;have hnx:=hD.rest _ x (Po _) hx;have n1:V.drew.cell? (x.1,1)=some ↑x.2.ev:=by rw[show V.drew.cell? (x.1,1)=V.cell? (x.1,1) from rfl,Pt V _ _ _ _ _ hnx];rfl
  have n2:V.drew.cell? (x.1,2)=some ↑x.2.nm:=by rw[show V.drew.cell? (x.1,2)=V.cell? (x.1,2) from rfl,Pt V _ _ _ _ _ hnx];rfl
  have q1:V.drew.cell? ↑(w.heap.size+1)=_:=z1.cell;have hca:=Ae V.drew Nb x.2.ev x.2.nm nm0 zN.cell;have ZG:1<=7-1-1:=zaa;have hBV:Below V V (V.drew.alloc (.cells #[x.2.ev,x.2.nm] 227)):=(Pq _ V).drew.alloc (Po _) _;obtain⟨bw,Vy⟩:∃bw,(x.2.nm.toList == nm0.toList)=bw:=⟨_,rfl⟩;rw[Vy]at hca;gi_wp2;refine bc (dP l) 5 zab zab zab ?_;simp only[List.take_succ_cons,List.take_zero,List.drop_succ_cons,List.drop_zero]
  repeat still_step
  refine QY ?_;have hca2:=hca.mono (fun e w' h=>(⟨h.1,h.2▸hBV⟩:e=_/\Below V V w'));clear hca hBV;have HZ:Hid (∀w9,Below V V w9->(Boxed w9 w 411 (mb,c)/\Boxed w9 (w.heap.size+1) 297 (.func (.func 372) #[] #[Nb]))/\(Boxed w9 (w.heap.size+1+1+1) 172 (.pointer rp)/\Boxed w9 Nb 9 (.string nm0))):=fun w9 hb=>⟨⟨aD z0 hb z0.lt,aD z1 hb z1.lt⟩,aD z3 hb z3.lt,aD zN hb zN.lt⟩;cases bw
  ·have HP:Hid (∀w9,Below V V w9->() 230 #[(mb,c),x.1] w9 fun e w'=>e=.returned (.tuple #[])/\KeepsFrom W0.heap.size V w'/\True/\Y.DrI w mb c nm0 L (xs++[x]) w'/\(Boxed w' w 411 (mb,c)/\Boxed w' (w.heap.size+1) 297 (.func (.func 372) #[] #[Nb]))/\(Boxed w' (w.heap.size+1+1+1) 172 (.pointer rp)/\Boxed w' Nb 9 (.string nm0))):=fun w9 hb=>by
    have hD9:=hD.below hb;obtain⟨p1,p2,p3,p4⟩:=hD9.push Vi hx Vy;obtain⟨arr0,arr9,g1,g2,g3,g4⟩:=hD9.blk;refine(nN w9 mb c (Y.bG nm0 xs) x.1 x.2 (Y.nxt L xs.length) hD9.cell (by simp[World.frozen?,g2]) hD9.ring (hD9.rest _ x (Po _) hx) p1 p2 p3).mono ?_;rintro e w' ⟨rfl,rfl⟩;obtain⟨⟨r0,r1⟩,r3,rN⟩:=HZ.out w9 hb;have Z8:Mo (fun k=>k=mb\/∃y∈L,k=y.1) w9 (Y.eL w9 ⟨mb,c,none⟩ (Y.bG nm0 xs) x.1):=by
     unfold Y.eL;cases hz:(Y.bG nm0 xs).getLast? with
     |none=>exact((Mo.refl _ w9).set _ _ (.inr ⟨x,PD hx,rfl⟩)).set _ _ (.inl rfl)
     |some z=>exact(((Mo.refl _ w9).set _ _ (.inr ⟨x,PD hx,rfl⟩)).set _ _ (.inr ⟨z,Y.ni (WE▸Y.kO (RD hz)),rfl⟩)).set _ _ (.inl rfl)
    have hno2:∀(B:Nat) (t:TypeId) (v:Value),Boxed w9 B t v->t≠180->t≠302->Boxed (Y.eL w9 ⟨mb,c,none⟩ (Y.bG nm0 xs) x.1) B t v:=fun B t v VP t1 t2=>Boxed.mo VP Z8 (fun e=>by
     rcases e with e|⟨y,hy,e⟩
     ·subst e;rw[show w9.heap[B]?=_ from VP]at g2;simp at g2;exact t1 g2.2
     ·obtain⟨v',WQ⟩:=hD9.nd y hy;subst e;rw[show w9.heap[y.1]?=_ from VP]at WQ;simp at WQ;exact t2 WQ.2)
    refine⟨rfl,((Y.eJ hb).trans ⟨Z8.size,fun k o hk ho=>(Z8.block k (Pn.1 hk).1 (fun e=>?_)).trans hk⟩).from _,trivial,p4,⟨hno2 _ _ _ r0 zac zac,hno2 _ _ _ r1 zac zac⟩,hno2 _ _ _ r3 zac zac,hno2 _ _ _ rN zac zac⟩
    rcases e with e|⟨y,hy,e⟩
    ·subst e;rw[g2]at hk;cases hk
     cases ho
    ·obtain⟨v',WQ⟩:=hD9.nd y hy;subst e;rw[WQ]at hk;cases hk
     cases ho
   gi_wp2_with(first
    |(refine⟨trivial,?_⟩;gi_at_call 372;refine(aI hca2).mono ?_;rintro e w9 ⟨rfl,VW⟩;have q0:w9.cell? ⟨w.heap.size,0,none⟩=_:=(HZ.out w9 VW).1.1.cell)
    |(refine⟨trivial,?_⟩;gi_at_call 230;refine(aI (HP.out w9 VW)).mono ?_;intro e w8 h8;obtain⟨rfl,h8⟩:=h8;have H8:Hid _:=h8;clear h8))
   exact H8.out
  ·gi_wp2_with(refine⟨trivial,?_⟩;gi_at_call 372;refine(aI hca2).mono ?_;rintro e w9 ⟨rfl,VW⟩);exact⟨(Y.eJ VW).from _,trivial,(hD.below VW).skip hx Vy,HZ.out w9 VW⟩
 case done=>
  rintro D xs V hD hS ⟨hDr,_⟩ Vm;subst hS;gi_wp2;refine⟨zad,.inl ⟨_,_,rfl,Qn Vm,?_⟩⟩;exact⟨_,QD rfl _ _ _,rfl,(Y.DrI.own (nm0:=nm0) (show w.heap.size<=W0.heap.size by omega)).putObj _ hDr zaa Vm rfl⟩
attribute [local go_sem] Qu
namespace Y
theorem WhM.congr(h:WhM W lo s R)(e:∀r,isR r->R' r=R r):WhM W lo s R':=
 ⟨⟨fun r hr=>by rw[e r hr];exact h.rgs.ring r hr,fun r hr=>by rw[e r hr];exact h.rgs.nds r hr,fun r hr=>by rw[e r hr];exact h.rgs.low r hr,fun r q hr hq=>by rw[e r hr,e q hq];exact h.rgs.dis r q hr hq,fun r hr=>by rw[e r hr];exact h.rgs.nod r hr⟩,fun k hk=>by
  obtain⟨x,x1,x2,x3⟩:=h.held k hk;exact⟨x,x1,x2,fun j hj=>by rw[e _ (.inl zaa)];exact x3 j hj⟩⟩
theorem Mb(hM:aw W lo mb pb qv s)(Vb:lo<=W.heap.size)(j:Nat)(v:Value):Rw lo W (W.drew.setCell (mb,j) v):=
 (RfE.of (Pq W W).drew Vb).trans (RfE.mo (P:=(·=mb)) ((Mo.refl _ _).set _ _ rfl) (fun j hj=>by
  obtain⟨arr,a1,_⟩:=hM.blk;subst hj;exact⟨hM.lo',arr,_,_,a1,.inl rfl⟩) Vb)
theorem du.drop(hM:aw W lo mb pb qv s)(h:du W lo s.wh R)(hr:isR r)(Vb:lo<=W.heap.size)(hD:DrI W mb (28+r) nm0 (R r) (R r) W'):
  aw W' lo mb pb qv { s with wh:=upd s.wh (28+r) (aN (bG nm0 (R r))) }/\du W' lo (upd s.wh (28+r) (aN (bG nm0 (R r)))) (upd R r (bG nm0 (R r)))/\Rw lo W W':=by
 have Xv:=hr.lt;obtain⟨arr,arr',a1,a2,a3,a4⟩:=hD.blk;obtain⟨arr0,m1,m2,m3⟩:=hM.blk;rw[a1]at m1;have e0:arr=arr0:=by cases m1;rfl
 subst e0;have Ym:∀q,isR q->∀y∈R q,mb≠y.1:=fun q hq y hy=>by
  exact zeO
 have YZ:∀q,isR q->∀y∈R q,∃c,W.heap[y.1]?=some (.cells c 302 (0,0)):=fun q hq y hy=>by
  exact zeP
 have hcr:arr'[28+r]?=some (aN (bG nm0 (R r))):=by rw[<- Pt W' _ _ _ _ _ a2];exact hD.cell
 refine⟨⟨⟨arr',a2,zaa,fun j hj=>?_⟩,hM.que.mo hD.mo (fun g hg e=>?_),hM.lo',hM.qok,Pr hM.sz hD.mo.size⟩,⟨fun q hq=>?_,fun q hq=>?_,fun q hq y hy=>?_,fun q q' hq YI U9 y hy z hz=>?_,fun q hq=>?_⟩,RfE.mo hD.mo (fun k hk=>?_) Vb⟩
 ·by_cases e:j=28+r
  ·subst e;rw[hcr];unfold fF;rw[Pu zaa,Pu zaa,Pu zaa,Pu zaa,Pu zaa,PC zaa];dsimp only;rw[aE]
  ·rw[a4 j e,m3 j hj];unfold fF;dsimp only;rw[aH _ _ e]
 ·obtain⟨c',Ve⟩:=hM.que.kind g hg
  rcases e with e|⟨y,hy,e⟩
  ·rw[e,a1]at Ve;simp at Ve
  ·obtain⟨c,hc⟩:=YZ r hr y hy;rw[e,hc]at Ve;simp at Ve
 ·by_cases e:q=r
  ·subst e;rw[aE,aE]
  ·rw[aH _ _ e,aH _ _ zaa];exact h.ring q hq
 ·by_cases e:q=r
  ·subst e;rw[aE];exact hD.ring
  ·rw[aH _ _ e];refine(h.nds q hq).mo hD.mo (fun y hy hk=>?_)
   rcases hk with hk|⟨z,hz,hk⟩
   ·exact Ym q hq y hy hk.symm
   ·exact h.dis q r hq hr e y hy z hz hk
 ·by_cases e:q=r
  ·subst e;rw[aE]at hy;exact h.low q hq y (kO hy)
  ·rw[aH _ _ e]at hy;exact h.low q hq y hy
 ·have f:∀q y,y∈upd R r (bG nm0 (R r)) q->y∈R q:=fun q y hy=>by
   by_cases e:q=r
   ·subst e;rw[aE]at hy;exact kO hy
   ·rw[aH _ _ e]at hy;exact hy
  exact h.dis q q' hq YI U9 y (f q y hy) z (f q' z hz)
 ·by_cases e:q=r
  ·subst e;rw[aE];exact((List.filter_sublist (l:=R q)).map _).nodup (h.nod q hq)
  ·rw[aH _ _ e];exact h.nod q hq
 ·rcases hk with hk|⟨z,hz,hk⟩
  ·exact zfb
  ·obtain⟨cz,hcz⟩:=YZ r hr z hz;subst hk;exact⟨h.low r hr z hz,_,_,_,hcz,.inr rfl⟩
theorem aw.gr(h:aw W lo mb pb qv s)(hg:W.grownBy W' row)(hr:∀r,row=some r->∃o:Obj,W.heap[r]?=some o/\o.isCells=false):aw W' lo mb pb qv s:=by
 refine h.mo (P:=fun k=>some k=row) ⟨hg.os,hg.tape,hg.output,hg.size,fun k hk hn=>hg.block k hk hn⟩ (fun e=>?_) (fun g hgq e=>?_)
 ·obtain⟨o,ho,hc⟩:=hr _ e.symm;obtain⟨arr,a1,_⟩:=h.blk;rw[a1]at ho;cases ho
  cases hc
 ·obtain⟨o,ho,hc⟩:=hr _ e.symm;obtain⟨c,Zi⟩:=h.que.kind g hgq;rw[Zi]at ho;cases ho
  cases hc
theorem iJ(hg:W.grownBy W' row)(hr:∀r,row=some r->∃o:Obj,W.heap[r]?=some o/\o.isCells=false):Kd E W W':=⟨hg.size,fun k c t f hk _=>hg.block k (Pn.1 hk).1 (fun e=>by
 obtain⟨o,ho,hc⟩:=hr _ e.symm;rw[hk]at ho;cases ho
 cases hc)⟩
theorem WhM.kd(h:WhM W lo s R)(hk:Kd E W W')(hE:¬E 302):WhM W' lo s R:=⟨h.rgs.kd hk hE,h.held⟩
theorem RfE.gr(h:RfE E lo w V)(hl:lo<=w.heap.size)(hg:V.grownBy V' row)(hr:∀r,row=some r->w.heap.size<=r/\∃o:Obj,V.heap[r]?=some o/\o.isCells=false):RfE E lo w V':=
 ⟨h.bel.trans ⟨hg.os,hg.tape,hg.output,hg.size,fun k hk=>hg.block k (by have:=h.bel.size;omega) (fun e=>zbg)⟩,h.kd.trans (iJ hg (fun r e=>(hr r e).2)),⟨Pr h.oth.size hg.size,fun k o hk ho=>by
  have h2:=h.oth.same k o hk ho;exact(hg.block k (Pn.1 h2).1 (fun e=>by have:=(hr k e.symm).1;have:=(Pn.1 hk).1;omega)).trans h2⟩,fun k hk hn=>(hg.block k (PY hk h.bel.size) (fun e=>zbg)).trans (h.own k hk hn)⟩
def MW(w:World)(lo:Y.Lo)(mb pb:Nat)(qv:Value)(s:MSt)(R:Nat->List Nd)(V:World):Prop:=∃wh',aw V lo mb pb qv { s with wh:=wh' }/\WhM V lo { s with wh:=wh' } R/\Rw lo w V
theorem MW.gr(h:MW w lo mb pb qv s R V)(hl:lo<=w.heap.size)(hg:V.grownBy V' row)(hr:∀r,row=some r->w.heap.size<=r/\∃o:Obj,V.heap[r]?=some o/\o.isCells=false):MW w lo mb pb qv s R V':=by
 obtain⟨wh',a,b,c⟩:=h;exact⟨wh',a.gr hg (fun r e=>(hr r e).2),b.kd (iJ (E:=fun _=>False) hg (fun r e=>(hr r e).2)) (fun h=>h),c.gr hl hg hr⟩
theorem MW.below(h:MW w lo mb pb qv s R V)(hl:lo<=w.heap.size)(hb:Below V V V'):MW w lo mb pb qv s R V':=by
 obtain⟨wh',a,b,c⟩:=h;exact⟨wh',a.below hb,⟨b.rgs.below hb,b.held⟩,c.trans (RfE.of hb (Pr hl c.bel.size))⟩
theorem MW.congr(h:MW w lo mb pb qv s R V)(e:∀r,isR r->R' r=R r):MW w lo mb pb qv s R' V:=by
 obtain⟨wh',a,b,c⟩:=h;exact⟨wh',a,b.congr e,c⟩
end Y
theorem wJ(w w0:World)(lo:Y.Lo)(mb pb:Nat)(qv:Value)(s:Y.MSt)(R:Nat->List Y.Nd)(r Nb:Nat)(nm0:())(hr:Y.isR r)(Vb:lo<=w0.heap.size)(h:Y.MW w0 lo mb pb qv s R w)(hN:Boxed w Nb 9 (.string nm0)):
  () 375 #[(mb,28+r),.func (.func 372) #[] #[Nb]] w fun e w'=>e=.returned (.tuple #[])/\∃wh0 wh',Y.kZ wh0 R/\Y.aw w' lo mb pb qv { s with wh:=wh' }/\Y.du w' lo wh' (Y.upd R r (Y.bG nm0 (R r)))/\(∀k,k<6->wh' (28+(k*65+64))=wh0 (28+(k*65+64)))/\Y.Rw lo w0 w'/\Y.Rw lo w w':=by
 obtain⟨wh0,hM,hW,hRf⟩:=h;obtain⟨arr,a1,a2,a3⟩:=hM.blk;have Xv:=hr.lt;refine(GO w mb (28+r) Nb nm0 (R r) arr a1 ((hM.whc (28+r) zaa zaa).trans (congrArg some (hW.rgs.ring r hr))) (hW.rgs.nds r hr) (hW.rgs.nod r hr) hN).mono ?_;rintro e w' ⟨rfl,hD⟩;obtain⟨x1,x2,x3⟩:=hW.rgs.drop hM hr (Pr Vb hRf.bel.size) hD;exact⟨rfl,wh0,_,hW.held,x1,x2,fun k hk=>Y.aH _ _ (by rcases hr with⟨_,hr⟩|hr<;>omega),hRf.trans x3,x3⟩
