import Derived.Test.YtpkhcncoildcnaaGreatDoorM04
set_option maxRecDepth 100000
set_option maxHeartbeats 8000000
namespace Go.Proofs.YtpkhcncoildcnaaGreatDoor
variable {zp:Prop}
theorem zc8(h:zp:=by
 by_cases e:k=K
 ·subst e;refine⟨Y.iJ h S false,Y.oQ h1 ZT,Y.aD _ _ _,fun j hj=>?_⟩;rw[Y.mQ ZT j hj];by_cases e:j=S
  ·subst e;rw[OD rfl,Y.aD];simp
  ·rw[OB e,Y.aG _ _ zaa];exact h3 j hj
 ·obtain⟨g,g1,g2,g3⟩:=hW.held k hk;refine⟨g,g1,?_,fun j hj=>?_⟩
  ·show Y.upd (Y.upd s.wh _ _) _ _ _=_;rw[Y.aG _ _ zaa,Y.aG _ _ zaa];exact g2
  ·rw[Y.aG _ _ zaa];exact g3 j hj):zp:=h
theorem zdn(h:zp:=by
 go_enter func118,ntmps118;go_wp2_with(first
  |(go_at_call 114;refine hsp.mono ?_;rintro e w9 ⟨rfl,UR⟩)
  |(go_at_call 167;refine(H.out _ UR).mono ?_;intro e w' h9;obtain⟨rfl,h9⟩:=h9;have H9:Hid _:=h9;clear h9))
 refine Qb (Pu rfl _ _ _) rfl ?_;exact⟨rfl,H9.out⟩):zp:=h
theorem zdr(h:zp:=by
 go_enter func118,ntmps118;go_wp2_with(first
  |(go_at_call 114;refine hsp.mono ?_;rintro e w9 ⟨rfl,UR⟩)
  |(go_at_call 168;refine(H.out _ UR).mono ?_;intro e w' h9;obtain⟨rfl,h9⟩:=h9;have H9:Hid _:=h9;clear h9))
 go_end0;exact⟨rfl,H9.out⟩):zp:=h
theorem zdD(h:zp:=by
 clear Uy;go_enter func372,ntmps372;go_wp2_with(go_at_call 118;refine(H.out _).mono ?_;intro e w' h9;obtain⟨rfl,h9⟩:=h9;have H9:Hid _:=h9;clear h9);go_end0;exact⟨rfl,H9.out⟩):zp:=h
theorem zdH(h:zp:=by
 obtain⟨h,h1,h2,h3⟩:=hW.held k hk;refine⟨h,h1,?_,fun j hj=>?_⟩
 ·show Y.upd s.wh (28+390) _ _=_;rw[Y.aG _ _ zaa];exact h2
 ·rw[Y.aG _ _ zaa];exact h3 j hj):zp:=h
theorem zdI(h:zp:=by
 rcases P2.1 hE with rfl|hE
 ·exact⟨zaa,T7⟩
 ·obtain⟨e1,e2⟩:=hDs E hE;have e3:=(hW3b.block E (Ov.1 e2).1).trans e2;exact⟨e1,XO.2.same E _ zaa e3 rfl⟩):zp:=h
theorem zd8(h:zp:=by
 rcases VH r with US|⟨b,US⟩
 all_goals
  have hk3:=VN _ US;rw[US]at hk3⊢;gi_wp2;exact hk3):zp:=h
theorem zek(h:zp:=by
 obtain⟨y,hy,e⟩:=O7.1 e;obtain⟨i,hi⟩:=O5.1 hy;exact hM.typ (hW.rgs.nds q hq i y hi) e.symm):zp:=h
theorem zeu(h:zp:=by
 rw[<- hV];exact⟨hI.alloc _ (hI.alloc _ h0),zcd,(Pz _ _ _ zad).trans (OH w _)⟩):zp:=h
theorem zeO(h:zp:=by
 exact Q5 _ _ _ ((T4 _ _ _ XP).trans ((T4 _ _ _ Yn).trans hc))):zp:=h
theorem zfu(h:zp:=by
 gi_wp2;exact hK _ _ (PK _ _) trivial hI rfl):zp:=h
theorem zbg(h:zp:=by have:=(hr k e.symm).1;omega):zp:=h
theorem zbj(h:zp:=by have:=(hDs D hD).1;omega):zp:=h
theorem zb9(h:zp:=by rw[PJ];exact(U7.whc (28+(K*65+S)) (by omega) (by omega)).trans (congrArg some (U4.ring _ hr))):zp:=h
theorem zcb(h:zp:=by rw[PJ];exact(U7.whc (28+(K*65+64)) (by omega) (by omega)).trans (congrArg some h2)):zp:=h
theorem zcd(h:zp:=by have:=OH (w.alloc (.deferred (some []))) (.loop (lp .ready none));simpa using this):zp:=h
theorem zct(h:zp:=by intro h;injection h with h1 h2;exact e h2.symm):zp:=h
theorem zcx(h:zp:=by intro e;injection e with e1;exact hb e1.symm):zp:=h
open Tryz
variable {n k mb pb r c:Nat}{w W W' w0 V V':World}{hv:Nat->Nat}{lo:Y.Lo}{qv:Value}{s s':Y.MSt}{E:TypeId->Prop}{T:List Y.Tn}{R R':Nat->List Y.Nd}{nm0:()}{L xs:List Y.Nd}{x y:Y.Nd}{row:Option Nat}
section
open Go.RowKit
def Gy{α:Type}(F:Fence)(n:Nat)(P:Program)(g:Nat)(lb:Array Value)(encs:α->Array Value)(Kp:World->World->Prop)(Nx:List α->α->Prop)(S Sp:List α->Prop)(w:World):Prop:=
 ∀(l:Nat) (J Jx:List α->World->Prop) (W:World),Below w w W->w.heap.size+2<=W.heap.size->OwnFrom W.heap.size J->OwnFrom W.heap.size Jx ->
  (∀xs x V,J xs V->Nx xs x->YieldAt F (n-1) P l (encs x) V fun e V'=>(e=.returned true/\J (xs++[x]) V'/\Kp V V')\/(e=.returned false/\Jx (xs++[x]) V'/\Kp V V'))->J [] W ->
  CallsIn F n P g (#[.func (.yield l) #[] #[]]++lb) W fun e V=>(∃v,e=.returned v)/\((∃xs,S xs/\J xs V)\/∃xs,Sp xs/\Jx xs V)
def Nl{α:Type}(B:Nat)(Kp:World->World->Prop)(I Ix:List α->World->Prop)(xs:List α)(W:World):Exit->Act->World->Prop
 |.normal,_,V=>KeepsFrom B W V/\Kp W V/\I xs V
 |.ret,_,V=>KeepsFrom B W V/\Kp W V/\Ix xs V
 |_,_,_=>False
theorem AL{α:Type}{F:Fence}{P:Program}{g:Operand}{ps:Array Tmp}{assign body:Code}{Q:Exit->Act->World->Prop}{a:Act}(hro:F.round=none)(h1:1<=n){gf:Nat}{lb:Array Value}
  (hg:a.eval g=.func (.func gf) #[] lb) (hF:F.fn gf) (eg:∀args w,(callFunc gf args).run P w=.ok (.enter gf args) w) {encs:α->Array Value} {Kp:World->World->Prop} {Nx:List α->α->Prop} {S Sp:List α->Prop}
  (ZC:Gy F (n-1) P gf lb encs Kp Nx S Sp w)
  (hKt:∀{A B C:World},Kp A B->Kp B C->Kp A C) (hKb:∀(W:World) (o o':Obj),W.heap[w.heap.size+1]?=some o->o.isCells=false->Kp W (W.putObj (w.heap.size+1) o')) (Zl:∀x,(encs x).size=ps.size) (I Ix:List α->World->Prop) (hI:OwnFrom w.heap.size I) (Zm:OwnFrom w.heap.size Ix) (h0:I [] w)
  (Ax:α->Act->World->Prop) (hAx:∀x a',OwnFrom w (fun(_:Unit) W=>Ax x a' W))
  (Up:∀(l:Nat) (xs:List α) (x:α) (W:World) (K:Act->World->Prop),I xs W->(∀a' W',KeepsFrom w W W'->Kp W W'->I xs W'->Ax x a' W'->K a' W')->assign.wpIn (F.inRound l) (n-1-1) P (Exit.then K (fun _ _ _=>False)) { tmps:=(ps.zip (encs x)).foldl (fun t (p,v)=>t.setIfInBounds p v) a.tmps,defers:=[] } W)
  (Vc:∀(l:Nat) (xs:List α) (x:α) (a':Act) (W:World),w.heap.size<=l->(∃r,W.heap[l]?=some (.loop r))->Nx xs x->I xs W->Ax x a' W->body.wpIn (F.inRound l) (n-1-1) P (Nl w Kp I Ix (xs++[x]) W) a' W)
  (Vn:∀(D:Nat) (xs:List α) (W:World),w.heap.size<=D->S xs->I xs W->W.heap[D]?=some (.deferred (some []))->Q .normal { a with defers:={ target:=.collected D,args:=#[] }::a.defers } W)
  (VB:∀(D:Nat) (xs:List α) (W:World),w.heap.size<=D->Sp xs->Ix xs W->W.heap[D]?=some (.deferred (some []))->Code.ret.wpIn F n P Q { a with defers:={ target:=.collected D,args:=#[] }::a.defers } W):
  (Code.rangeFunc g ps assign body).wpIn F n P Q a w:=by
 refine wpIn_rangeFunc fun fn YP=>?_;rw[hro];obtain⟨lp,WQ⟩:∃lp:LoopState->Option Code->Loop,lp=fun st pe=>{ state:=st,pending:=pe,fn,tmps:=a.tmps,params:=ps,assign,body,defers:=w.heap.size }:=⟨_,rfl⟩;have Ws:=S3 (P:=P) (w:=w) fn a.tmps ps assign body;obtain⟨V,hV⟩:∃V,(w.alloc (.deferred (some []))).alloc (.loop (lp .ready none))=V:=⟨_,rfl⟩;have hb:Below w w V:=hV▸(((Oy _ w).alloc (Ow _) _).alloc zad _);have hj:I [] V/\V.heap[w.heap.size+1]?=some (.loop (lp .ready none))/\V.heap[w.heap.size]?=some (.deferred (some [])):=by
  exact zeu
 refine⟨w.heap.size+1,[{ target:=.collected w.heap.size,args:=#[] }],V,{ target:=.fn (.func gf) lb,args:=#[.func (.yield (w.heap.size+1)) #[] #[]] },V,gf,#[.func (.yield (w.heap.size+1)) #[] #[]]++lb,V,
  zbW,zbI,fun f' hf'=>zbE,zbY,fun _=>h1,?_⟩
 have hvs:V.heap.size=w.heap.size+2:=by rw[<- hV];simp
 have TN:∀{K:List α->World->Prop} {ob:Obj} (hob:ob.isCells=false),OwnFrom w K->OwnFrom V.heap.size (fun xs W=>K xs W/\W.heap[w.heap.size+1]?=some ob/\W.heap[w.heap.size]?=some (.deferred (some []))):=fun{K ob} hob hK xs A B row h VQ hr=>by
  obtain⟨hi,hl,hd⟩:=h;refine⟨hK xs A B row hi VQ (fun r e=>⟨zas,(hr r e).2⟩),(VQ.block _ (Ov.1 hl).1 (fun e=>?_)).trans hl,(VQ.block _ (Ov.1 hd).1 (fun e=>?_)).trans hd⟩
  ·exact zfL
  ·exact zfL
 refine(ZC (w.heap.size+1) (fun xs W=>I xs W/\W.heap[w.heap.size+1]?=some (.loop (lp .ready none))/\W.heap[w.heap.size]?=some (.deferred (some []))) (fun xs W=>Ix xs W/\W.heap[w.heap.size+1]?=some (.loop (lp .done (some .ret)))/\W.heap[w.heap.size]?=some (.deferred (some []))) V hb zaa (TN rfl hI) (TN rfl Zm) ?_ hj).mono ?_
 ·intro xs x W ⟨hi,hl,hd⟩ Yr;have hy:=run_yield (P:=P) (args:=encs x) hl (by rw[WQ];exact Zl x);rw[WQ]at hy;refine⟨fn,_,assign,body,hy,roundIn_of_wpIn YP (Up _ xs x W _ hi fun a' Wa WD hkp hia hax=>⟨_,run_beginRound (WD.same _ _ zaa hl rfl) (by rw[WQ]),?_⟩)⟩;have hl:=WD.same _ _ zaa hl rfl;have hd:=WD.same _ _ (Ow _) hd rfl;have TX:=(Ov.1 hl).1;have k1:=hKb Wa _ (.loop { lp .ready none with state:=LoopState.busy }) hl rfl;refine wpIn_mono (Vc _ xs x a' _ zaa ⟨_,Qp TX⟩ Yr (hI.putObj _ hia zaa hl rfl) ((hAx x a').putObj (s:=()) _ hax zaa hl rfl)) ?_;intro e a' W' hp;have Uu:∀(jump:Option Code),KeepsFrom w (Wa.putObj (w.heap.size+1) (.loop { lp .ready none with state:=LoopState.busy })) W' ->
    (Instr.endRound (w.heap.size+1) jump).run P W'=.ok (.bool jump.isNone) (W'.putObj (w.heap.size+1) (.loop (lp (if jump.isNone then .ready else .done) jump))) /\
    W'.heap[w.heap.size+1]?=some (.loop { lp .ready none with state:=LoopState.busy }) /\
    (W'.putObj (w.heap.size+1) (.loop (lp (if jump.isNone then .ready else .done) jump))).heap[w.heap.size+1]?=some (.loop (lp (if jump.isNone then .ready else .done) jump)) /\
    (W'.putObj (w.heap.size+1) (.loop (lp (if jump.isNone then .ready else .done) jump))).heap[w.heap.size]?=some (.deferred (some [])):=fun jump hk=>by
   have Xy:=hk.same _ _ zaa (Qp TX) rfl;have hd':=hk.same _ _ (Ow _) ((Pn zaa).trans hd) rfl;have hr:=run_endRound (P:=P) jump Xy;rw[WQ]at hr⊢;exact⟨hr,by rw[WQ]at Xy;exact Xy,Qp (Ov.1 Xy).1,(Pn zaa).trans hd'⟩
  cases e with
  |normal=>
   obtain⟨hk,k2,Wn⟩:=hp;obtain⟨hr,hl3,hl4,hd4⟩:=Uu none hk;exact⟨_,_,hr,.inl ⟨rfl,⟨hI.putObj _ Wn zaa hl3 rfl,hl4,hd4⟩,hKt hkp (hKt k1 (hKt k2 (hKb _ _ _ hl3 rfl)))⟩⟩
  |ret=>
   obtain⟨hk,k2,Wn⟩:=hp;obtain⟨hr,hl3,hl4,hd4⟩:=Uu (some .ret) hk;exact⟨_,_,hr,.inr ⟨rfl,⟨Zm.putObj _ Wn zaa hl3 rfl,hl4,hd4⟩,hKt hkp (hKt k1 (hKt k2 (hKb _ _ _ hl3 rfl)))⟩⟩
  |_=>exact hp.elim
 ·rintro e W ⟨⟨v,hv⟩,⟨xs,hS,hi,hl,hd⟩|⟨xs,hSp,hi,hl,hd⟩⟩
  ·exact zed
  ·subst hv;exact⟨some .ret,_,zaW,VB _ xs _ (Ow _) hSp (Zm.putObj _ hi zaa hl rfl) ((Pn zaa).trans hd)⟩
end
section
open Go.RowKit Go.Proofs Go.Shelf
attribute [local go_sem] Pp
namespace Y
theorem qR(hv:Nat->Nat){k:Nat}:∀m,k<=m->kx hv k <+: kx hv m
 |0,h=>by
  obtain rfl:k=0:=zaa;exact TD
 |m+1,h=>by
  by_cases e:k=m+1
  ·subst e;exact TD
  ·exact(qR hv m zaa).trans (by rw[i7];exact Tg _ _)
theorem yO(hk:k<6){pre:List (Gt (hv k))}(h:pre.map (·.1) <+: eX (hv k)):kx hv k++pre.map (fun x=>k*65+x.1) <+: gF hv:=by
 have h1:pre.map (fun x=>k*65+x.1) <+: ld hv k:=by
  have:=h.map (fun j=>k*65+j);rw[Q6]at this;exact this
 have h2:kx hv k++pre.map (fun x=>k*65+x.1) <+: kx hv (k+1):=by
  rw[i7];exact(SZ _).2 h1
 exact(h2.trans (qR hv 6 zaa)).trans (Tg _ _)
theorem vL(s:Nat):(eX s).length<=64:=by unfold eX;exact Ox (PB _ _) zad
theorem ux(hv:Nat->Nat):∀k,(kx hv k).length<=64*k
 |0=>Ow _
 |k+1=>by
  have:=ux hv k;have:=vL (hv k);rw[i7,OM];unfold ld;rw[OK];omega
theorem uw(hv:Nat->Nat):∀k,k<=6->∀q∈kx hv k,isR q
 |0,_,q,hq=>by cases hq
 |k+1,hk,q,hq=>by
  rw[i7]at hq
  rcases OT.1 hq with hq|hq
  ·exact uw hv k zaa q hq
  ·unfold ld at hq;obtain⟨y,hy,rfl⟩:=O7.1 hq;have:=(fZ.1 hy).1;exact .inl zaa
end Y
theorem AR(n:Nat)(hn:4<=n)(Bs mb:Nat)(R:Nat->List Y.Nd)(hv:Nat->Nat)(Xs:∀k,k<6->hv k<18446744073709551616)(B:Nat->TypeId->Prop)(w:World)(hR:Y.BC w Bs mb R hv)(h1:¬B Bs 209)(h2:∀t,¬B mb t)(h3:∀t,¬B 3 t)(hB:∀k t,B k t->k<w.heap.size\/t=157):
  Gy Fence.wide n prog 205 #[Bs] (fun r:Nat=>#[Value.agg #[Y.aM (R r)]]) (KpN B (w.heap.size+2)) (fun rs r=>Y.isR r/\rs.length<=400/\∀q∈rs,Y.isR q) (fun xs=>xs=Y.gF hv) (fun xs=>xs <+: Y.gF hv) w:=fun l J Jx W hW hWs hJ hJx hY h0=>by
 have hRW:=hR.kp (B:=B) (KpM.below hW) h1 h2 h3;have Uj:KpM B W (W.alloc (.cells #[.func (.yield l) #[] #[]] 382)):=KpM.below ((Oy _ W).alloc (Ow _) _);have hy1:=O4 W 382 (.func (.yield l) #[] #[]);have hJ1:J [] (W.alloc (.cells #[.func (.yield l) #[] #[]] 382)):=hJ.alloc _ h0;have Wg:W.heap.size+1=(W.alloc (.cells #[.func (.yield l) #[] #[]] 382)).heap.size:=zad;refine Pq func205 rfl trivial ?_ rfl;simp only[ntmps205,List.size_toArray,List.length_cons,List.length_nil,Nat.reduceAdd,Nat.reduceSub,Array.replicate_succ,Array.replicate_zero,List.push_toArray,List.append_toArray,List.nil_append,List.cons_append];gi_wp2;have Yw:=hRW.kp Uj h1 h2 h3;generalize W.alloc (.cells #[.func (.yield l) #[] #[]] 382)=W1 at *;refine wpIn_loop (fun a' w'=>∃k Ds,Y.RgF l Bs W k a' Ds/\k<=6/\J (Y.kx hv k) w'/\KpN B (w.heap.size+2) W1 w'/\Ds.Nodup/\∀D∈Ds,W1.heap.size<=D/\w'.heap[D]?=some (.deferred (some []))) (fun a' _=>6-(intOf (a'.tmps.getD 5 undef)).toNat) ?_ ?_
 ·exact⟨0,[],⟨⟨_,_,_,_,_,_,_,_,_,_,_,_,_,_,_,_,_,_,_,_,_,_,_,_,rfl⟩,rfl⟩,zaa,hJ1,KpN.refl _ _ _,TH,fun D hD=>by cases hD⟩
 rintro⟨tm,df⟩ wr ⟨k,Ds,⟨⟨u3,u4,u6,u7,u8,u9,u10,u11,u12,u13,u14,u15,u16,u17,u18,u19,u20,u21,u22,u23,u24,u25,u26,u27,htm⟩,hdf⟩,Zs,hJk,hKk,Ua,hDs⟩;dsimp only at htm hdf;subst htm hdf;have YB:=Yw.kp hKk.1 h1 h2 h3;have hyr:=(Y.KpM.bx hB hKk.1 hy1 hW.size).cell;have hn1:1<=n:=zaa;have Vk:∀V:World,V.grownBy V.drew none:=fun V=>⟨rfl,rfl,rfl,Ow _,fun _ _ _=>rfl⟩;have hJd:∀xs V,J xs V->J xs V.drew:=fun xs V h=>hJ xs V V.drew none h (Vk V) (fun r e=>by cases e)
 by_cases hk:k=6
 ·subst hk;have hob:wr.drew.cell? Bs=_:=YB.box.cell;have hoo:wr.drew.cell? (mb,418)=_:=YB.out;have hoy:wr.drew.cell? W=_:=hyr;obtain⟨fn,tmps,assign,body,hy,hRo⟩:=hY (Y.kx hv 6) 390 wr.drew (hJd _ _ hJk) ⟨.inr rfl,by have:=Y.ux hv 6;omega,Y.uw hv 6 (Ow _)⟩;have US:∃v,Y.aM (R 390)=v:=⟨_,rfl⟩;obtain⟨rv,US⟩:=US;rw[US]at hoo hy
  (try dsimp only at hy)
  gi_wp2;refine aW np 5 zab zab zab ?_;simp only[List.take_succ_cons,List.take_zero,List.drop_succ_cons,List.drop_zero]
  repeat still_step
  refine P8 ?_;gi_wp2;refine hRo.mono ?_;rintro e V' (⟨rfl,YC,UD⟩|⟨rfl,YC,UD⟩)
  ·gi_wp2;refine iP (fun V=>J (Y.gF hv) V) Ds V' Ua (fun D hD=>UD.2.same D _ zbj (hDs D hD).2 rfl) (fun D V hD hV hd=>hJ.putObj _ hV zbj hd rfl) (fun V hV=>?_) YC;exact⟨_,Pu rfl _ _ _,⟨_,rfl⟩,.inl ⟨_,rfl,hV⟩⟩
  ·gi_wp2;refine iP (fun V=>Jx (Y.gF hv) V) Ds V' Ua (fun D hD=>UD.2.same D _ zbj (hDs D hD).2 rfl) (fun D V hD hV hd=>hJx.putObj _ hV zbj hd rfl) (fun V hV=>?_) YC;exact⟨_,Pu rfl _ _ _,⟨_,rfl⟩,.inr ⟨_,TD,hV⟩⟩
 ·have VG:k<6:=zaa;have hk5':((k:Int)<6):=zaa;have hob:(wr.alloc (.cells #[(k:Int)] 3)).drew.cell? Bs=some ↑(mb,27):=ou ((Oy _ wr).alloc (Ow _) _).drew YB.box.cell;have Uw:(wr.alloc (.cells #[(k:Int)] 3)).drew.cell? wr=some ↑(k:Int):=OA _ _ 0 _ _ (0,0) (OH wr _);gi_wp2;refine aW np 5 zab zab zab ?_;simp only[List.take_succ_cons,List.take_zero,List.drop_succ_cons,List.drop_zero]
  repeat still_step
  refine P8 ?_;gi_wp2_with(refine⟨trivial,?_⟩;gi_at_call 206;refine(O3.2 (nx mb (28+k*65) _)).mono ?_;rintro e w9 ⟨rfl,Pg⟩;rw[Pg];clear Pg w9);have hW3b:Below wr wr (((wr.alloc (.cells #[(k:Int)] 3)).alloc (.cells #[(mb,28+k*65)] 331)).drew):=(((Oy _ wr).alloc (Ow _) _).alloc zad _).drew;have Yl:J (Y.kx hv k) (((wr.alloc (.cells #[(k:Int)] 3)).alloc (.cells #[(mb,28+k*65)] 331)).drew):=hJd _ _ (hJ.alloc _ (hJ.alloc _ hJk));have ck:Boxed (((wr.alloc (.cells #[(k:Int)] 3)).alloc (.cells #[(mb,28+k*65)] 331)).drew) wr.heap.size 3 (.int .i64 k):=(O4 wr 3 _).alloc _;have ch:(((wr.alloc (.cells #[(k:Int)] 3)).alloc (.cells #[(mb,28+k*65)] 331)).drew).cell? ↑(wr.heap.size+1)=some ↑(mb,28+k*65):=by
   have e:(wr.alloc (.cells #[(k:Int)] 3)).heap.size=wr.heap.size+1:=zad;rw[<- e];exact OA _ _ 0 _ _ (0,0) (show((wr.alloc (.cells #[(k:Int)] 3)).alloc _).heap[(wr.alloc (.cells #[(k:Int)] 3)).heap.size]?=some _ from OH _ _)
  have Wv:(((wr.alloc (.cells #[(k:Int)] 3)).alloc (.cells #[(mb,28+k*65)] 331)).drew).heap.size=wr.heap.size+2:=zad;generalize((wr.alloc (.cells #[(k:Int)] 3)).alloc (.cells #[(mb,28+k*65)] 331)).drew=W3 at *;have hK3:KpN B (w.heap.size+2) W1 W3:=hKk.tr (KpN.below hW3b);have Xn:=Yw.kp hK3.1 h1 h2 h3;have hws:=hKk.1.1;have hG3:3<W3.heap.size:=iM (Xn.tab 0 zac);have hmb3:mb<W3.heap.size:=iM Xn.out;refine RE rfl hn1 (gf:=236) rfl trivial (QN func236 zab rfl)
   (sI (n-1) zaa (wr.heap.size+1) mb (28+k*65) (hv k) (Xs k VG) (fun A C=>TabAt 3 Lib.deBruijn64tab A->TabAt 3 Lib.deBruijn64tab C) (fun _ _ h=>h) W3 zaa hmb3 hG3 ch (Xn.held k VG) Xn.tab)
   (fun h k x=>k (h x)) (fun V l o o' hl h hc hw x j hj=>((QW (n₀:=W3.heap.size) (Ow _) V l o o' hl h hc hw).cell (p:=⟨3,j,none⟩) hG3).trans (x j hj)) (Oy _ _) (fun _=>rfl)
   (fun ys V=>J (Y.kx hv k++ys.map (fun x=>k*65+x.1)) V/\KpN B (w.heap.size+2) W3 V) (fun c ys V=>c=.ret/\Jx (Y.kx hv k++ys.map (fun x=>k*65+x.1)) V/\KpN B (w.heap.size+2) W3 V)
   (Pa (fun ys A C row h hg hr=>hJ _ A C row h hg (fun r e=>⟨zas,(hr r e).2⟩)) (KpN.own (Ow _)))
   (fun c ys A C row h hg hr=>⟨h.1,hJx _ A C row h.2.1 hg (fun r e=>⟨zas,(hr r e).2⟩),KpN.own (Ow _) () A C row h.2.2 hg hr⟩) ⟨by simpa using Yl,KpN.refl _ _ _⟩
   (fun x a' _=>a'={ tmps:=#[.func (.yield l) #[] #[],.pointer (some ⟨Bs,0,none⟩),.pointer (some ⟨W.heap.size,0,none⟩),.pointer (some ⟨wr.heap.size,0,none⟩),.int .i64 x.1,.int .i64 k,.bool true,.int .i64 k,.pointer (some ⟨mb,27,none⟩),.int .i64 k,.pointer (some ⟨mb,27,none⟩),.pointer (some ⟨mb,28,none⟩),.pointer (some ⟨mb,28+k*65,none⟩),.func (.func 236) #[] #[.pointer (some ⟨wr.heap.size+1,0,none⟩)],.int .i64 x.1,u15,u16,u17,u18,u19,u20,u21,u22,u23,u24,u25,u26,u27,undef,undef,undef,undef,undef,undef],defers:=[] })
   (fun _ _ _ _ _ _ hs _ _=>hs) ?assign ?body ?done ?stop
  case assign=>
   intro l2 pre x V K hI hK;gi_wp2;exact hK _ _ (PK _ _) (fun h=>h) hI rfl
  case body=>
   rintro l2 pre x a' V hl ⟨rl,V6⟩ ⟨ZU,XO⟩ rfl Uo;obtain⟨ZV,hxb⟩:=Y.fZ.1 x.2;have hKV1:=hK3.tr XO;have ZW:=Yw.kp hKV1.1 h1 h2 h3;have XI:Y.isR (k*65+x.1):=.inl zaa;have vb:V.drew.cell? Bs=_:=ZW.box.cell;have vy:V.drew.cell? W=_:=(Y.KpM.bx hB hKV1.1 hy1 hW.size).cell;have vk:V.drew.cell? wr=_:=(Y.KpM.bx hB XO.1 ck (by have:=hW.size;omega)).cell;have vr:V.drew.cell? (mb,28+k*65+x.1)=_:=ZW.ring k x.1 VG ZV;obtain⟨fn,tmps,assign,body,hy,hRo⟩:=hY _ (k*65+x.1) V.drew (hJd _ _ ZU) ⟨XI,by rw[OM,OK];have:=Y.ux hv k;have:=Y.vL (hv k);omega,fun q hq=>by
    rcases OT.1 hq with hq|hq
    ·exact Y.uw hv k Zs q hq
    ·obtain⟨y,_,rfl⟩:=O7.1 hq;have:=(Y.fZ.1 y.2).1;exact .inl zaa⟩
   obtain⟨rv,US⟩:∃v,Y.aM (R (k*65+x.1))=v:=⟨_,rfl⟩;rw[US]at vr hy
   (try dsimp only at hy)
   have hx64':((x.1:Int)<64):=zaa;have ZX:1<=n-1-1:=zaa;gi_wp2;refine aW (dQ l2) 10 zab zab zab ?_;simp only[List.take_succ_cons,List.take_zero,List.drop_succ_cons,List.drop_zero]
   repeat still_step
   refine P8 ?_;gi_wp2;refine(tP np (dQ l2) hRo).mono ?_;rintro e V' (⟨rfl,YC,UD⟩|⟨rfl,YC,UD⟩)
   ·have VN:KpN B (w.heap.size+2) V V':=(KpN.below (Oy _ V).drew).tr UD;gi_wp2;exact⟨⟨VN.2.size,fun i o hi ho hc=>VN.2.same i o zaa ho hc⟩,Y.KpM.tab VN.1 h3,by rw[Pk,<- Qn];exact YC,XO.tr VN⟩
   ·have VN:KpN B (w.heap.size+2) V V':=(KpN.below (Oy _ V).drew).tr UD;gi_wp2;exact⟨⟨VN.2.size,fun i o hi ho hc=>VN.2.same i o zaa ho hc⟩,rfl,by rw[Pk,<- Qn];exact YC,XO.tr VN⟩
  case done=>
   rintro D ys V hD VA ⟨ZU,XO⟩ T7;have hJn:J (Y.kx hv (k+1)) V:=by
    rw[Y.i7];unfold Y.ld;rw[<- VA,Q6];exact ZU
   have hK1:=hK3.tr XO;have hnd':(D::Ds).Nodup:=R6.2 ⟨fun h=>by
    have:=(Ov.1 (hDs D h).2).1;omega,Ua⟩
   have hD':∀E∈D::Ds,W1.heap.size<=E/\V.heap[E]?=some (.deferred (some [])):=fun E hE=>by
    exact zdI
   gi_wp2;refine⟨⟨k+1,D::Ds,⟨⟨_,_,_,_,_,_,_,_,_,_,_,_,_,_,_,_,_,_,_,_,_,_,_,_,rfl⟩,rfl⟩,zaa,hJn,hK1,hnd',hD'⟩,?_⟩;show 6-((k:Int)+1).toNat<6-(k:Int).toNat;omega
  case stop=>
   rintro D c pre V hD hSp ⟨rfl,ZU,XO⟩ T7;have VX:=Y.yO (hv:=hv) VG hSp;have hnd':(D::Ds).Nodup:=R6.2 ⟨fun h=>by
    have:=(Ov.1 (hDs D h).2).1;omega,Ua⟩
   have hD':∀E∈D::Ds,W1.heap.size<=E/\V.heap[E]?=some (.deferred (some [])):=fun E hE=>by
    exact zdI
   gi_wp2;refine iP (fun V=>Jx (Y.kx hv k++pre.map (fun x=>k*65+x.1)) V) (D::Ds) V hnd' (fun E hE=>(hD' E hE).2) (fun E V hE hV hd=>hJx.putObj _ hV (by have:=(hD' E hE).1;omega) hd rfl) (fun V hV=>?_) ZU;exact⟨_,Pu rfl _ _ _,⟨_,rfl⟩,.inr ⟨_,VX,hV⟩⟩
theorem Jc(n:Nat)(hn:4<=n)(Bs mb:Nat)(R:Nat->List Y.Nd)(hv:Nat->Nat)(Xs:∀k,k<6->hv k<18446744073709551616)(B:Nat->TypeId->Prop)(w:World)(hR:Y.BC w Bs mb R hv)(h1:¬B Bs 209)(h2:∀t,¬B mb t)(h3:∀t,¬B 3 t)(hB:∀k t,B k t->k<w.heap.size\/t=157):
  Gx Fence.wide n prog 205 #[Bs] (fun r:Nat=>#[Value.agg #[Y.aM (R r)]]) (KpN B (w.heap.size+2)) (fun _ _=>True) (fun _ r=>Y.isR r) (fun xs=>xs=Y.gF hv) w:=fun l J W hW hWs hJ _ hY h0=>by
 refine(AR n hn Bs mb R hv Xs B w hR h1 h2 h3 hB l J (fun _ _=>False) W hW hWs hJ (fun _ _ _ _ h _ _=>h) (fun xs x V hV hx=>?_) h0).mono ?_
 ·obtain⟨fn,tmps,asg,bd,hy,hRo⟩:=hY xs x V hV hx.1;exact⟨fn,tmps,asg,bd,hy,hRo.mono fun e V' h=>.inl h⟩
 ·rintro e V ⟨hv,h|⟨_,_,h⟩⟩
  ·exact⟨hv,h⟩
  ·exact h.elim
theorem xg(w:World)(mb o s:Nat)(l:List Y.Nd)(n:Nat)(x:Y.Tn)(v:Value)(h:Nat)(hs:s<64)(hh:h<18446744073709551616)(hc:w.cell? (mb,o+s)=some (Y.aM l))(Vp:∀i,w.frozen? ⟨mb,i,none⟩=false)(hd:w.cell? (mb,o+64)=some (.int .u64 h))(hR:Y.cH w l)(hn:w.heap[n]?=some (.cells (Y.eN x v) 215 (0,0)))(Vv:n ∉ l.map (·.1))(Yn:mb≠n)(Um:mb ∉ l.map (·.1)):
  () 168 #[(mb,o),(s:Int),n] w fun e w'=>e=.returned (.tuple #[])/\w'=(Y.eH w ⟨mb,o+s,none⟩ l n).drew.setCell (mb,o+64) (.int .u64 (Y.iJ h s false)):=by
 have hp:=mY w mb (o+s) l n x v hc (Vp _) hR hn Vv Yn Um;have Xk:∀j,(Y.eH w ⟨mb,o+s,none⟩ l n).cell? ⟨mb,j,none⟩=if j=o+s then some (Y.ndP n) else w.cell? ⟨mb,j,none⟩:=fun j=>by
  have T4:∀(W:World) (b:Nat) (u:Value),mb≠b->(W.setCell ⟨b,3,none⟩ u).cell? (mb,j)=W.cell? (mb,j):=fun W b u hb=>ay zcx;unfold Y.eH;cases hz:l.getLast? with
  |none=>
   dsimp only;by_cases e:j=o+s
   ·subst e;rw[OD rfl];exact Q5 _ _ _ ((T4 _ _ _ Yn).trans hc)
   ·rw[OB e,ay zct,T4 _ _ _ Yn]
  |some z=>
   have XP:mb≠z.1:=fun e=>Um (O7.2 ⟨z,Qy hz,e.symm⟩);dsimp only;by_cases e:j=o+s
   ·subst e;rw[OD rfl];exact zeO
   ·rw[OB e,ay zct,T4 _ _ _ XP,T4 _ _ _ Yn]
 have ZY:=Xk (o+s);rw[OD rfl]at ZY;have ZX:=Xk (o+64);rw[OB zaa,hd]at ZX;have hf1:(Y.eH w ⟨mb,o+s,none⟩ l n).frozen? (mb,o+64)=false:=by
  unfold Y.eH;cases l.getLast?<;>simp only[World.frozen?_setCell]<;>exact Vp _
 have hm:=tg (Y.eH w ⟨mb,o+s,none⟩ l n) mb o s (l++[(n,x)]) h hs hh (by rw[ZY,Y.n6]) ZX hf1;rw[show(l++[(n,x)]).isEmpty=false by simp]at hm;generalize Y.eH w ⟨mb,o+s,none⟩ l n=W1 at *;clear hR hn Vv Um Xk ZY ZX hf1 hc hd Vp;go_enter func168,ntmps168;go_wp2_with(first
  |(go_at_call 167;refine hp.mono ?_;rintro e w9 ⟨rfl,Pg⟩;rw[Pg];clear Pg w9)
  |(go_at_call 163;refine hm.mono ?_;rintro e w9 ⟨rfl,Pg⟩;rw[Pg];clear Pg w9))
 go_end0;exact⟨rfl,rfl⟩
namespace Y
theorem fg(now t:Nat):aN now t<=6:=Nat.min_le_right _ _
theorem fK(now t:Nat):gh now t<64:=Nat.mod_lt _ zac
def place(now t:Nat):Nat:=if aN now t=6 then 390 else aN now t*65+gh now t
theorem gd(now t:Nat):isR (place now t):=by
 have:=fg now t;have:=fK now t;unfold place isR;split<;>omega
structure WhM(W:World)(lo:Y.Lo)(s:MSt)(R:Nat->List Nd):Prop where
 rgs:dh W lo s.wh R
 held:kB s.wh R
theorem au.whc(h:au W lo mb pb qv s)(i:Nat)(h1:28<=i)(h2:i<419):W.cell? (mb,i)=some (s.wh i):=by
 rw[h.cell i zaa];unfold fw;rw[OB zaa,OB zaa,OB zaa,OB zaa,OB zaa,OD h2]
end Y
theorem Ll(w:World)(lo:Y.Lo)(mb pb:Nat)(qv:Value)(s:Y.MSt)(R:Nat->List Y.Nd)(n:Nat)(x:Y.Tn)(v:Value)(hM:Y.au w lo mb pb qv s)(hW:Y.WhM w lo s R)(TV:lo<=w.heap.size)(Uc:s.now<18446744073709551616)(hxt:x.t<18446744073709551616)(hn:w.heap[n]?=some (.cells (Y.eN x v) 215 (0,0)))(Vv:∀q,Y.isR q->∀y∈R q,y.1≠n)(TT:lo.ok n):
  () 118 #[(mb,27),n] w fun e w'=>e=.returned (.tuple #[])/\∃wh',Y.au w' lo mb pb qv { s with wh:=wh' }/\Y.WhM w' lo { s with wh:=wh' } (Y.upd R (Y.place s.now x.t) (R (Y.place s.now x.t)++[(n,x)]))/\Y.Rw lo w w':=by
 have Xt:w.cell? n=some (.int .u64 x.t):=zaY;have hc27:w.cell? (mb,27)=some (.int .u64 s.now):=hM.cell 27 zac;have hsp:=pE w mb 27 s.now x.t Uc hxt hc27;have hr:=Y.gd s.now x.t;have ZZ:=hM.typ hn;have WX:∀q,Y.isR q->mb ∉ (R q).map (·.1):=fun q hq e=>by
  exact zek
 have Y6:∀q,Y.isR q->n ∉ (R q).map (·.1):=fun q hq e=>by
  obtain⟨y,hy,e⟩:=O7.1 e;exact Vv q hq y hy e
 have hKl:=Y.fg s.now x.t;have ZT:=Y.fK s.now x.t;have Uo:Y.place s.now x.t=if Y.aN s.now x.t=6 then 390 else Y.aN s.now x.t*65+Y.gh s.now x.t:=rfl;generalize Y.place s.now x.t=r at *;generalize Y.aN s.now x.t=K at *;generalize Y.gh s.now x.t=S at *;by_cases hK:K=6
 ·subst hK;rw[OD rfl]at Uo;subst Uo;have H:Hid (∀w9,Below w w w9->() 167 #[(mb,418),n] w9 fun e w'=>e=.returned (.tuple #[])/\∃wh',Y.au w' lo mb pb qv { s with wh:=wh' }/\Y.WhM w' lo { s with wh:=wh' } (Y.upd R 390 (R 390++[(n,x)]))/\Y.Rw lo w w'):=fun w9 hb=>by
   have U7:=hM.below hb;have U4:=hW.rgs.below hb;have Yb:=(hb.block n (Ov.1 hn).1).trans hn;refine(mY w9 mb 418 (R 390) n x v ((U7.whc 418 zaa zaa).trans (congrArg some (U4.ring 390 hr))) (U7.frozen _) (U4.nds 390 hr) Yb (Y6 390 hr) ZZ (WX 390 hr)).mono ?_;rintro e w' ⟨rfl,rfl⟩;obtain⟨a,b,c⟩:=U4.push (r:=390) U7 hr (Ox TV hb.size) Yb Vv TT;refine⟨rfl,_,a,⟨b,fun k hk=>?_⟩,(Y.RfE.of hb TV).trans c⟩;exact zdH
  clear hW hM WX Y6 Vv hn TT hr ZZ;exact zdn
 ·rw[OB hK]at Uo;subst Uo;have hK5:K<6:=zaa;have hKb:((K:Int) == 6)=false:=zae;have H:Hid (∀w9,Below w w w9->() 168 #[(mb,28+K*65),(S:Int),n] w9 fun e w'=>e=.returned (.tuple #[])/\∃wh',Y.au w' lo mb pb qv { s with wh:=wh' }/\Y.WhM w' lo { s with wh:=wh' } (Y.upd R (K*65+S) (R (K*65+S)++[(n,x)]))/\Y.Rw lo w w'):=fun w9 hb=>by
   have U7:=hM.below hb;have U4:=hW.rgs.below hb;have Yb:=(hb.block n (Ov.1 hn).1).trans hn;obtain⟨h,h1,h2,h3⟩:=hW.held K hK5;refine(xg w9 mb (28+K*65) S (R (K*65+S)) n x v h ZT h1 zb9 (fun i=>U7.frozen i) zcb (U4.nds _ hr) Yb (Y6 _ hr) ZZ (WX _ hr)).mono ?_;rintro e w' ⟨rfl,rfl⟩;obtain⟨a,b,c⟩:=U4.push (r:=K*65+S) U7 hr (Ox TV hb.size) Yb Vv TT;rw[PJ 28 (K*65) S];obtain⟨a2,b2,c2⟩:=b.mark a K hK5 (.int .u64 (Y.iJ h S false)) (Ox TV (Ox hb.size c.bel.size));refine⟨rfl,_,a2,⟨b2,fun k hk=>?_⟩,(Y.RfE.of hb TV).trans (c.trans c2)⟩;exact zc8
  clear hW hM WX Y6 Vv hn TT hr ZZ;exact zdr
namespace Y
def fR(W:World)(lo:Y.Lo)(s:MSt)(T:List Tn):Prop:=∃R,WhM W lo s R/\(∀r,isR r->(R r).map (·.2)=T.filter (fun t=>place s.now t.t == r))/\∀t∈T,t.t<18446744073709551616
theorem fR.kd(h:fR W lo s T)(hk:Kd E W W')(hE:¬E 215)(h1:s'.wh=s.wh)(h2:s'.now=s.now):fR W' lo s' T:=by
 obtain⟨R,a,b,c⟩:=h;refine⟨R,⟨by rw[h1];exact a.rgs.kd hk hE,by rw[h1];exact a.held⟩,by rw[h2];exact b,c⟩
theorem fR.below(h:fR W lo s T)(hb:Below W W W'):fR W' lo s T:=h.kd (bE (E:=fun _=>False) hb) (fun h=>h) rfl rfl
theorem fR.rq{lo':Y.Lo}(h:fR W lo s T)(hk:Rq lo' W W')(h1:s'.wh=s.wh)(h2:s'.now=s.now):fR W' lo s' T:=h.kd hk.kd (by unfold NX;decide) h1 h2
def atF(now d:Nat):Nat:=if now+d<18446744073709551616 then now+d else 18446744073709551615
end Y
theorem JX(w:World)(lo:Y.Lo)(mb pb:Nat)(qv:Value)(s:Y.MSt)(T:List Y.Tn)(d:Nat)(ev nm:())(hM:Y.au w lo mb pb qv s)(hT:Y.fR w lo s T)(TV:lo<=w.heap.size)(Uc:s.now<18446744073709551616)(hd:d<18446744073709551616):
  () 372 #[(mb,27),.int .u64 d,.agg #[ev,nm]] w fun e w'=>e=.returned (.tuple #[])/\∃wh',Y.au w' lo mb pb qv { s with wh:=wh' }/\Y.fR w' lo { s with wh:=wh' } (T++[⟨Y.atF s.now d,ev,nm⟩])/\Y.Rw lo w w':=by
 have hc27:w.cell? (mb,27)=some (.int .u64 s.now):=hM.cell 27 zac;have Vd:=hM.lt;have hatl:Y.atF s.now d<18446744073709551616:=by unfold Y.atF;split<;>omega
 have TM:∀(o1 o2:Obj),Below w w ((w.alloc o1).alloc o2):=fun o1 o2=>((Oy _ w).alloc (Ow _) _).alloc zad _;have H:Hid (∀o1:Obj,() 118 #[(mb,27),↑(w.heap.size+1)] ((w.alloc o1).alloc (.cells #[.int .u64 (Y.atF s.now d),ev,nm,.pointer none] 215)) fun e w'=>e=.returned (.tuple #[])/\∃wh',Y.au w' lo mb pb qv { s with wh:=wh' }/\Y.fR w' lo { s with wh:=wh' } (T++[⟨Y.atF s.now d,ev,nm⟩])/\Y.Rw lo w w'):=fun o1=>by
  obtain⟨R,hW,hF,hB⟩:=hT;have hb:=TM o1 (.cells #[.int .u64 (Y.atF s.now d),ev,nm,.pointer none] 215);have XG:=bU w o1 (.cells #[.int .u64 (Y.atF s.now d),ev,nm,.pointer none] 215);refine(Ll _ lo mb pb qv s R (w.heap.size+1) ⟨Y.atF s.now d,ev,nm⟩ (.pointer none) (hM.below hb) ⟨hW.rgs.below hb,hW.held⟩ (Ox TV hb.size) Uc hatl XG (fun q hq y hy e=>?_) (lo.new _ (Ox hM.sz zaa))).mono ?_
  ·obtain⟨i,hi⟩:=O5.1 hy;have:=(Ov.1 (hW.rgs.nds q hq i y hi)).1;omega
  ·rintro e w' ⟨rfl,wh',a,b,c⟩;refine⟨rfl,wh',a,⟨_,b,fun r hr=>?_,fun t ht=>?_⟩,(Y.RfE.of hb TV).trans c⟩
   ·dsimp only;rw[Qg];by_cases e:r=Y.place s.now (Y.atF s.now d)
    ·subst e;rw[Y.aD,Pk,hF _ hr];simp
    ·rw[Y.aG _ _ e,hF r hr];have:(Y.place s.now (Y.atF s.now d) == r)=false:=by simpa using fun h=>e h.symm
     simp[this]
   ·rcases OT.1 ht with ht|ht
    ·exact hB t ht
    ·rw[OE.1 ht];exact hatl
 clear hT hM hatl TM;by_cases Zo:s.now+d<18446744073709551616
 ·have Uy:Y.atF s.now d=s.now+d:=by unfold Y.atF;rw[OD Zo]
  rw[Uy]at H⊢;have hmod:IntKind.u64.wrap ((s.now:Int)+(d:Int))=((s.now+d:Nat):Int):=by rw[RH];omega
  have TX:¬(((s.now+d:Nat):Int)<(s.now:Int)):=zaa;exact zdD
 ·have Uy:Y.atF s.now d=18446744073709551615:=by unfold Y.atF;rw[OB Zo]
  rw[Uy]at H⊢;have hmod:IntKind.u64.wrap ((s.now:Int)+(d:Int))=((s.now+d-18446744073709551616:Nat):Int):=by rw[RH];omega
  have TX:((s.now+d-18446744073709551616:Nat):Int)<(s.now:Int):=zaa;generalize s.now+d-18446744073709551616=q at *;exact zdD
attribute [local go_sem] Pp
theorem wC(mb o:Nat)(w:World):() 170 #[(mb,o)] w fun e w'=>e=.returned (.func (.func 205) #[] #[w])/\w'=w.alloc (.cells #[(mb,o)] 209):=by
 go_enter func170,ntmps170;exact zfG
theorem Br(a:Int):wrap64 (wrap64 a+1)=wrap64 (a+1):=by unfold wrap64;omega
namespace Y
def gj(R:Nat->List Nd)(xs:List Nat):Nat:=(xs.map fun r=>(R r).length).sum
theorem pW(R:Nat->List Nd)(xs:List Nat)(r:Nat):gj R (xs++[r])=gj R xs+(R r).length:=by unfold gj;simp
end Y
theorem Fz(w:World)(mb:Nat)(R:Nat->List Y.Nd)(hv:Nat->Nat)(Xs:∀k,k<6->hv k<18446744073709551616)(hR:∀Bs V,Below w w V->Boxed V Bs 209 (mb,27)->Y.BC V Bs mb R hv)(hN:∀r,Y.isR r->Y.cH w (R r))(Ua:∀r,Y.isR r->((R r).map (·.1)).Nodup)(hmb:mb<w.heap.size)(hg:3<w.heap.size):
  () 335 #[(mb,27)] w fun e w'=>e=.returned (.int .i64 (wrap64 (Y.gj R (Y.gF hv):Nat)))/\Below w w w':=by
 refine(O3 (n:=9)).1 ?_;refine Pq func335 rfl trivial ?_ rfl;simp only[ntmps335,List.size_toArray,List.length_cons,List.length_nil,Nat.reduceAdd,Nat.reduceSub,Array.replicate_succ,Array.replicate_zero,List.push_toArray,List.append_toArray,List.nil_append,List.cons_append];gi_wp2_with(refine⟨trivial,?_⟩;gi_at_call 170;refine(O3.2 (wC mb 27 _)).mono ?_;rintro e w9 ⟨rfl,Pg⟩;rw[Pg];clear Pg w9);have b0:=(O4 w 3 (.int .i64 0)).alloc (.cells #[(mb,27)] 209);have b1:=O4 (w.alloc (.cells #[(0:Int)] 3)) 209 (mb,27);simp only[World.size_alloc]at b1;have Ut:Below w w ((w.alloc (.cells #[(0:Int)] 3)).alloc (.cells #[(mb,27)] 209)):=((Oy _ w).alloc (Ow _) _).alloc zad _;have XR:((w.alloc (.cells #[(0:Int)] 3)).alloc (.cells #[(mb,27)] 209)).heap.size=w.heap.size+2:=zad;generalize(w.alloc (.cells #[(0:Int)] 3)).alloc (.cells #[(mb,27)] 209)=W0 at *;have VH:∀r,Y.aM (R r)=.pointer none\/∃b,Y.aM (R r)=.pointer (some ⟨b,0,none⟩):=fun r=>by
  unfold Y.aM;cases(R r).getLast? with
  |none=>exact .inl rfl
  |some z=>exact .inr ⟨z.1,rfl⟩
 have WC:wrap64 ((Y.gj R []:Nat):Int)=0:=by unfold Y.gj wrap64;simp
 have b0:Boxed W0 w 3 (.int .i64 (wrap64 ((Y.gj R []:Nat):Int))):=by rw[WC];exact b0
 clear WC;refine tI rfl zaa (gf:=205) rfl trivial (QN func205 zab rfl)
  (Jc 8 zaa (w.heap.size+1) mb R hv Xs (fun k _=>k=w.heap.size) W0 (hR _ W0 Ut b1) zaa (fun _=>zaa) (fun _=>zaa) (fun k _ h=>.inl zaa))
  KpN.tr (fun V o o' h ho=>KpN.put zaa V o o' h ho) (fun _=>rfl)
  (fun xs V=>Boxed V w 3 (.int .i64 (wrap64 (Y.gj R xs:Nat)))/\Below w w V/\W0.heap.size<=V.heap.size)
  (Pa (PY (PG _ _ _) _) (Pa (Qr (Ow _) zaa) (fun _ _ _ _ h hg _=>Ox h hg.size)))
  (fun _ _ _=>trivial) ⟨b0,Ut,Ow _⟩
  (fun r a' V=>∃b,a'={ tmps:=#[.pointer (some ⟨mb,27,none⟩),undef,.int .i64 0,.pointer (some ⟨w.heap.size,0,none⟩),.pointer (some ⟨b,0,none⟩),.pointer (some ⟨mb,27,none⟩),.func (.func 205) #[] #[.pointer (some ⟨w.heap.size+1,0,none⟩)],.agg #[Y.aM (R r)],undef,undef,undef,undef,undef,undef],defers:=[] }/\Boxed V b 112 (Y.aM (R r))/\w.heap.size+2<=b)
  (fun r a' u A C row h hg hr=>by
   obtain⟨b,e,hb,hl⟩:=h;exact⟨b,e,PY (PG (β:=Unit) b 112 (fun _=>Y.aM (R r))) _ () A C row hb hg hr,hl⟩)
  ?assign ?body ?done
 case assign=>
  intro l xs r V K hI hK;have YD:=hI.2.1.size;have VN:∀rv:Value,Y.aM (R r)=rv->K _ (V.alloc (.cells #[rv] 112)):=fun rv e=>hK _ _ ((To _ _).from _) (KpN.below ((Oy _ V).alloc (Ow _) _)) ⟨hI.1.alloc _,hI.2.1.alloc YD _,by have:=hI.2.2;simp;omega⟩ ⟨V.heap.size,rfl,e▸O4 V _ _,by have:=hI.2.2;omega⟩;exact zd8
 case body=>
  rintro l xs r a' V hl ⟨rl,V6⟩ XI ⟨hc,hB,hsV⟩ ⟨b,rfl,hb,UE⟩;have UM:=hb.cell;have YD:=hB.size;have ZX:1<=9-1-1:=zaa;obtain⟨rv,US⟩:∃rv,Y.aM (R r)=rv:=⟨_,rfl⟩;have hshr:=VH r;have Va:=mS rv V (US▸hshr);rw[US]at UM⊢;gi_wp2_with(refine⟨trivial,?_⟩;gi_at_call 117;refine(aI Va).mono ?_;rintro e w9 ⟨rfl,Pg⟩;rw[Pg];clear Pg w9);have hr':(V.alloc (.cells #[rv] 112)).heap[l]?=some (.loop rl):=(Pz V _ l (Ov.1 V6).1).trans V6;have bx:(V.alloc (.cells #[rv] 112)).cell? V=some rv:=OA _ _ 0 _ _ (0,0) (OH V _);have hBV:Below V V (V.alloc (.cells #[rv] 112)):=(Oy _ V).alloc (Ow _) _;have UA:=hB.trans (hBV.mono YD);have hca:=hc.alloc (.cells #[rv] 112);have hsa:(V.alloc (.cells #[rv] 112)).heap.size=V.heap.size+1:=zad;generalize V.alloc (.cells #[rv] 112)=V2 at *;have hNl:∀x∈R r,x.1<w.heap.size:=fun x hx=>by
   obtain⟨i,hi⟩:=O5.1 hx;exact(Ov.1 (hN r XI i x hi)).1
  have hN2:Y.cH V2 (R r):=fun i x hx=>(UA.block x.1 (hNl x (OG hx))).trans (hN r XI i x hx);refine wpIn_rangeFunc_ownN (l₀:=l) (r₀:=rl) rfl hr' ZX (gf:=165) rfl trivial (QN func165 zab rfl)
   ((qL (9-1-1-1) zaa V.heap.size (R r) (Ua r XI) (fun k _=>k=w.heap.size) V2 (bx.trans (congrArg some US.symm)) hN2 (fun _=>zaa) (fun x hx _=>by have:=hNl x hx;omega)).inRound l)
   KpM.tr (fun V l o o' _ h hc _=>KpM.put V l o o' h hc) (Oy _ _) (fun _=>rfl)
   (fun ys U=>(Boxed U w 3 (.int .i64 (wrap64 ((Y.gj R xs+ys.length:Nat):Int)))/\Below w w U)/\KpN (fun k _=>k=w.heap.size) (W0.heap.size+2) V U/\KeepsFrom W0.heap.size V U) (fun _ _ _=>False)
   (Pa (Pa (PY (PG _ _ _) _) (Qr (Ow _) zaa)) (Pa (KpN.own zaa) (Tm zaa)))
   (fun _ _ _ _ _ hs _ _=>hs) ⟨⟨by simpa using hca,UA⟩,KpN.below hBV,(Y.eE hBV).from _⟩
   (fun x a' _=>a'={ tmps:=#[(mb,27),undef,(0:Int),w,b,(mb,27),.func (.func 205) #[] #[↑(w.heap.size+1)],.agg #[rv],.agg #[rv],.func (.func 165) #[] #[V],.pointer (some ⟨x.1,0,none⟩),undef,undef,undef],defers:=[] })
   (fun _ _ _ _ _ _ hs _ _=>hs) ?assign2 ?body2 ?done2 ?stop2
  case assign2=>
   rintro l2 ys x U K hi hK;gi_wp2;exact hK _ _ (PK _ _) (KpM.refl _ _) hi rfl
  case body2=>
   rintro l2 ys x a' U _ _ ⟨⟨hcU,hBU⟩,hkU,hkf⟩ rfl _;have cc:=hcU.cell;have cf:=hcU.frozen;have T4:=hcU.set (.int .i64 (wrap64 ((Y.gj R xs+(ys++[x]).length:Nat):Int)));have Zo:=Br ((Y.gj R xs+ys.length:Nat):Int);rw[show((Y.gj R xs+ys.length:Nat):Int)+1=((Y.gj R xs+(ys++[x]).length:Nat):Int) by simp;omega]at Zo;obtain⟨c2,XT⟩:∃c,Y.gj R xs+(ys++[x]).length=c:=⟨_,rfl⟩;obtain⟨c1,Xk⟩:∃c,Y.gj R xs+ys.length=c:=⟨_,rfl⟩;rw[XT]at T4 Zo;rw[Xk]at Zo cc hcU;have HC:Hid _:=XT;clear Xk XT;obtain⟨q2,WY⟩:∃q,wrap64 (c2:Int)=q:=⟨_,rfl⟩;obtain⟨q1,YZ⟩:∃q,wrap64 (c1:Int)=q:=⟨_,rfl⟩;rw[YZ]at Zo cc;rw[WY]at Zo T4;rw[YZ]at hcU;have HQ:Hid (wrap64 (c2:Int)=q2):=WY;clear YZ WY;gi_wp2;refine⟨(Ps _ _ _).from _,KpM.set U _ _ (fun _=>rfl),⟨?_,hBU.setCell (p:=w) zad _⟩,hkU.tr (KpN.set U _ _ (fun _=>rfl)),hkf.trans ((Ps _ _ _).from _)⟩;show Boxed _ _ _ (.int .i64 (wrap64 ((Y.gj R xs+(ys++[x]).length:Nat):Int)));rw[HC.out,HQ.out];exact T4
  case done2=>
   rintro ys U VA ⟨⟨hcU,hBU⟩,hkU,hkf⟩;subst VA;have Yn:Y.gj R (xs++[r])=Y.gj R xs+(R r).length:=Y.pW R xs r;gi_wp2;exact⟨hkf,hkU,by rw[Yn];exact hcU,hBU,Ox hsV hkU.1.1⟩
  case stop2=>
   rintro c pre U _ h;exact h.elim
 case done=>
  rintro D xs V hD hS ⟨hc,hB,_⟩ T7;subst hS;have hc:=hc.cell;gi_wp2;refine⟨zad,.inl ⟨_,_,rfl,Pj T7,?_⟩⟩;exact⟨_,SQ rfl _ _ _,rfl,hB.trans (QW (w:=w) (Ow _) V D _ _ zaa T7 rfl rfl)⟩
namespace Y
theorem qP(f:Nat->Nat)(q:Nat->Bool):∀L:List Nat,(∀s∈L,q s=false->f s=0)->((L.filter q).map f).sum=(L.map f).sum
 |[],_=>rfl
 |s::L,h=>by
  have ih:=qP f q L (fun x hx=>h x (OZ _ hx));cases hq:q s
  ·rw[Qk (by rw[hq];decide),ih,QQ,SM,h s (O1 ..) hq];omega
  ·rw[Ql hq,QQ,SM,ih,QQ,SM]
def ly(k:Nat):List Nat:=(List.range k).flatMap fun k=>(List.range 64).map (k*65+·)
def xw:List Nat:=ly 6++[390]
theorem BJ(k:Nat):ly (k+1)=ly k++(List.range 64).map (k*65+·):=by
 unfold ly;rw[R4 (n:=k),Ph,SD]
theorem BI:xw.Nodup:=zaU
theorem IG(h:isR r):r∈xw:=by
 unfold xw ly
 rcases h with⟨h1,h2⟩|rfl
 ·refine SS _ (Q3.2 ⟨r / 65,PD.2 zaa,O7.2 ⟨r % 65,PD.2 zaa,zaa⟩⟩)
 ·exact List.mem_append_right _ (OE.2 rfl)
theorem Ep(x:Nat):∀L:List Nat,L.Nodup->(L.map fun r=>if x == r then 1 else 0).sum=if x∈L then 1 else 0
 |[],_=>rfl
 |r::L,h=>by
  obtain⟨h1,h2⟩:=R6.1 h;rw[QQ,SM,Ep x L h2];by_cases e:x=r
  ·subst e;simp[h1]
  ·have:(x == r)=false:=by simpa using e
   simp[this,e]
theorem sum_add(f g:Nat->Nat):∀L:List Nat,(L.map fun r=>f r+g r).sum=(L.map f).sum+(L.map g).sum
 |[]=>rfl
 |r::L=>by
  simp only[List.map_cons,List.sum_cons,sum_add f g L];omega
theorem A8:∀L:List Nat,(L.map fun _=>0).sum=0
 |[]=>rfl
 |_::L=>by rw[QQ,SM,A8 L]
theorem ue(p:Tn->Nat)(L:List Nat)(hn:L.Nodup):∀T:List Tn,(∀t∈T,p t∈L)->(L.map fun r=>(T.filter fun t=>p t == r).length).sum=T.length
 |[],_=>A8 L
 |t::T,h=>by
  have ih:=ue p L hn T (fun x hx=>h x (OZ _ hx));have e:(fun r=>((t::T).filter fun t=>p t == r).length)=fun r=>(if p t == r then 1 else 0)+(T.filter fun t=>p t == r).length:=by
   funext r;cases hp:p t == r
   ·rw[Qk (by rw[hp];decide)];simp
   ·rw[Ql (p:=fun t=>p t == r) hp,PR,OD rfl];omega
  rw[e,sum_add,ih,Ep _ L hn,OD (h t (O1 ..)),PR];omega
theorem qD(R:Nat->List Nd)(a b:List Nat):gj R (a++b)=gj R a+gj R b:=by
 unfold gj;rw[Pk,TE]
theorem EZ(h:∀s,s<64->(hv k).testBit s=!(R (k*65+s)).isEmpty):gj R (ld hv k)=gj R ((List.range 64).map (k*65+·)):=by
 unfold gj ld eX;rw[Q6,Q6];refine qP _ _ _ (fun s hs hb=>?_);rw[h s (PD.1 hs)]at hb;show(R (k*65+s)).length=0;simpa using hb
theorem zF{R:Nat->List Nd}{hv:Nat->Nat}(h:∀k,k<6->∀s,s<64->(hv k).testBit s=!(R (k*65+s)).isEmpty):∀k,k<=6->gj R (kx hv k)=gj R (ly k)
 |0,_=>rfl
 |k+1,hk=>by rw[i7,BJ,qD,qD,zF h k zaa,EZ (h k zaa)]
theorem fR.count(hW:WhM W lo s R)(hF:∀r,isR r->(R r).map (·.2)=T.filter (fun t=>place s.now t.t == r)):∃hv:Nat->Nat,(∀k,k<6->hv k<18446744073709551616)/\(∀k,k<6->s.wh (28+(k*65+64))=.int .u64 (hv k))/\gj R (gF hv)=T.length:=by
 have hh:∀k,∃h:Nat,k<6->h<18446744073709551616/\s.wh (28+(k*65+64))=.int .u64 h/\∀j,j<64->h.testBit j=!(R (k*65+j)).isEmpty:=fun k=>by
  by_cases hk:k<6
  ·obtain⟨h,a⟩:=hW.held k hk;exact⟨h,fun _=>a⟩
  ·exact⟨0,fun h=>absurd h hk⟩
 refine⟨fun k=>(hh k).choose,fun k hk=>((hh k).choose_spec hk).1,fun k hk=>((hh k).choose_spec hk).2.1,?_⟩;have h6:=zF (R:=R) (hv:=fun k=>(hh k).choose) (fun k hk=>((hh k).choose_spec hk).2.2) 6 zaa;unfold gF;rw[pW,h6,<- pW];have e:gj R (ly 6++[390])=(xw.map fun r=>(T.filter fun t=>place s.now t.t == r).length).sum:=by
  unfold gj xw
  congr 1
  refine S4 (fun r hr=>?_);have XI:isR r:=by
   rcases OT.1 hr with hr|hr
   ·unfold ly at hr;obtain⟨k,hk,hr⟩:=Q3.1 hr;obtain⟨j,hj,rfl⟩:=O7.1 hr;have:=PD.1 hk;have:=PD.1 hj;exact .inl zaa
   ·exact .inr (OE.1 hr)
  rw[<- hF r XI,OK]
 rw[e];exact ue (fun t=>place s.now t.t) xw BI T (fun t _=>IG (gd _ _))
end Y
theorem KV(w:World)(lo:Y.Lo)(mb pb:Nat)(qv:Value)(s:Y.MSt)(T:List Y.Tn)(hM:Y.au w lo mb pb qv s)(hT:Y.fR w lo s T)(hl:T.length<=1000)(hg:3<w.heap.size)(hG:TabAt 3 Lib.deBruijn64tab w):
  () 335 #[(mb,27)] w fun e w'=>e=.returned (T.length:Int)/\Below w w w':=by
 obtain⟨R,hW,hF,_⟩:=hT;obtain⟨hv,v1,v2,v3⟩:=Y.fR.count hW hF;have h:=Fz w mb R hv v1 (fun Bs V hb hc=>?_) (fun r hr=>hW.rgs.nds r hr) (fun r hr=>hW.rgs.nod r hr) hM.lt hg
 ·rw[v3,show wrap64 (T.length:Int)=(T.length:Int) by unfold wrap64;omega]at h;exact h
 ·have c:∀i,28<=i->i<419->V.cell? ⟨mb,i,none⟩=some (s.wh i):=fun i h1 h2=>(hb.cell (p:=⟨mb,i,none⟩) hM.lt).trans (hM.whc i h1 h2);refine⟨hc,fun k hk=>?_,fun k j hk hj=>?_,?_,fun j hj=>(hb.cell (p:=⟨3,j,none⟩) hg).trans (hG j hj)⟩
  ·rw[PJ,c _ zaa zaa,v2 k hk]
  ·rw[PJ,c _ zaa zaa,hW.rgs.ring _ (.inl zaa)]
  ·rw[c 418 zaa zaa];exact congrArg some (hW.rgs.ring 390 (.inr rfl))
attribute [local go_sem] Pp
theorem zC(w:World)(Nb:Nat)(ev nm nm0:())(hN:w.cell? Nb=some ↑nm0):
  () 371 #[.agg #[ev,nm],Nb] w fun e w'=>e=.returned (.bool (nm.toList == nm0.toList))/\w'=w.alloc (.cells #[ev,nm] 139):=by
 have hl:=iM hN;have hN1:(w.alloc (.cells #[ev,nm] 139)).cell? Nb=some ↑nm0:=ou ((Oy _ w).alloc (Ow _) _) hN;go_enter func371,ntmps371;go_wp2;go_ret;exact⟨rfl,rfl⟩
namespace Y
def bz(nm0:())(L:List Nd):List Nd:=L.filter fun x=>!(x.2.nm.toList == nm0.toList)
theorem sX(nm0:())(L:List Nd)(x:Nd):bz nm0 (L++[x])=if x.2.nm.toList == nm0.toList then bz nm0 L else bz nm0 L++[x]:=by
 unfold bz;rw[Qg];cases h:x.2.nm.toList == nm0.toList<;>simp[h]
structure DrI(w0:World)(mb c:Nat)(nm0:())(L:List Nd)(xs:List Nd)(V:World):Prop where
 pre:xs=L.take xs.length
 cell:V.cell? (mb,c)=some (aM (bz nm0 xs))
 ring:cH V (bz nm0 xs)
 rest:∀i x,xs.length<=i->L[i]?=some x->V.heap[x.1]?=some (.cells (eN x.2 (nxt L i)) 215 (0,0))
 nd:∀x∈L,∃v,V.heap[x.1]?=some (.cells (eN x.2 v) 215 (0,0))
 mo:Mo (fun k=>k=mb\/∃x∈L,k=x.1) w0 V
 blk:∃arr arr':Array Value,w0.heap[mb]?=some (.cells arr 120 (0,0))/\V.heap[mb]?=some (.cells arr' 120 (0,0))/\arr'.size=arr.size/\∀j,j≠c->arr'[j]?=arr[j]?
theorem kh(h:x∈bz nm0 L):x∈L:=(P3.1 h).1
theorem my(h:x∈L.take n):x∈L:=Qz h
theorem mj(Ua:(L.map (·.1)).Nodup){i:Nat}(hi:n<=i)(hy:L[i]?=some y):∀z∈L.take n,z.1≠y.1:=fun z hz e=>by
 obtain⟨j,hj⟩:=O5.1 hz;have XC:j<n:=by
  have:=(Oz.1 hj).1;rw[PH]at this;omega
 rw[PC XC]at hj;have a1:(L.map (·.1))[j]?=some y.1:=by rw[OF,hj,<- e];rfl
 have a2:(L.map (·.1))[i]?=some y.1:=by rw[OF,hy];rfl
 have:=(SB (by simp;exact(Oz.1 hj).1) Ua).1 (a1.trans a2.symm);omega
theorem IM(Ua:(L.map (·.1)).Nodup){z:Nd}(hy:y∈L)(hz:z∈L)(e:y.1=z.1):y=z:=by
 obtain⟨i,hi⟩:=O5.1 hy;obtain⟨j,hj⟩:=O5.1 hz;have a1:(L.map (·.1))[i]?=some y.1:=by rw[OF,hi];rfl
 have a2:(L.map (·.1))[j]?=some y.1:=by rw[OF,hj,e];rfl
 have:=(SB (by simp;exact(Oz.1 hi).1) Ua).1 (a1.trans a2.symm);subst this;rw[hi]at hj;exact Pd hj
theorem C3{w:World}{mb o n:Nat}{l:List Nd}{v:Value}(hc:w.cell? (mb,o)=some v)(Yn:mb≠n)(Um:mb ∉ l.map (·.1)):(eH w ⟨mb,o,none⟩ l n).cell? (mb,o)=some (ndP n):=by
 have T4:∀(W:World) (b:Nat) (u:Value),mb≠b->(W.setCell ⟨b,3,none⟩ u).cell? (mb,o)=W.cell? (mb,o):=fun W b u hb=>ay zcx;unfold eH;cases hz:l.getLast? with
 |none=>exact Q5 _ _ _ ((T4 _ _ _ Yn).trans hc)
 |some z=>
  have XP:mb≠z.1:=fun e=>Um (O7.2 ⟨z,Qy hz,e.symm⟩);exact zeO
theorem FT{w:World}{mb o n:Nat}{l:List Nd}{arr:Array Value}{t:TypeId}(hb:w.heap[mb]?=some (.cells arr t (0,0)))(Yn:mb≠n)(Um:mb ∉ l.map (·.1)):(eH w ⟨mb,o,none⟩ l n).heap[mb]?=some (.cells (arr.setIfInBounds o (ndP n)) t (0,0)):=by
 have T4:∀(W:World) (b:Nat) (u:Value),mb≠b->(W.setCell ⟨b,3,none⟩ u).heap[mb]?=W.heap[mb]?:=fun W b u hb=>O9 W _ u mb hb;unfold eH;cases hz:l.getLast? with
 |none=>exact OP _ mb o _ _ _ ((T4 _ _ _ Yn).trans hb)
 |some z=>
  have XP:mb≠z.1:=fun e=>Um (O7.2 ⟨z,Qy hz,e.symm⟩);exact OP _ mb o _ _ _ ((T4 _ _ _ XP).trans ((T4 _ _ _ Yn).trans hb))
theorem DrI.mo'{P:Nat->Prop}(h:DrI w0 mb c nm0 L xs V)(hm:Mo P V V')(h1:¬P mb)(h2:∀x∈L,¬P x.1)(h3:∀k,k<w0.heap.size->P k->k=mb\/∃x∈L,k=x.1):DrI w0 mb c nm0 L xs V':=by
 obtain⟨arr,arr',a1,a2,a3,a4⟩:=h.blk;have VY:=(Ov.1 a2).1;have hk:∀(x:Nd) (ob:Obj),x∈L->V.heap[x.1]?=some ob->V'.heap[x.1]?=some ob:=fun x ob hx ho=>(hm.block x.1 (Ov.1 ho).1 (h2 x hx)).trans ho;refine⟨h.pre,(hm.cell (p:=(mb,c)) VY h1).trans h.cell,fun i x hx=>?_,fun i x hi hx=>hk x _ (OG hx) (h.rest i x hi hx),fun x hx=>?_,h.mo.trans' hm h3,arr,arr',a1,(hm.block mb VY h1).trans a2,a3,a4⟩
 ·have VI:x∈L:=my (h.pre▸kh (OG hx));exact hk x _ VI (h.ring i x hx)
 ·obtain⟨v,hv⟩:=h.nd x hx;exact⟨v,hk x _ hx hv⟩
theorem DrI.below(h:DrI w0 mb c nm0 L xs V)(hb:Below V V V'):DrI w0 mb c nm0 L xs V':=h.mo' (P:=fun _=>False) (az hb) (fun h=>h) (fun _ _ h=>h) (fun _ _ h=>h.elim)
theorem DrI.own{B:Nat}(hB:w0.heap.size<=B):OwnFrom B (fun xs V=>DrI w0 mb c nm0 L xs V):=fun xs A C row h hg hr=>by
 obtain⟨arr,arr',a1,a2,a3,a4⟩:=h.blk;refine h.mo' (P:=fun k=>some k=row) ⟨hg.os,hg.tape,hg.output,hg.size,fun k hk hn=>hg.block k hk hn⟩ (fun e=>?_) (fun x hx e=>?_) (fun k hk e=>?_)
 ·obtain⟨_,o,ho,hc⟩:=hr _ e.symm;rw[a2]at ho;cases ho
  cases hc
 ·obtain⟨_,o,ho,hc⟩:=hr _ e.symm;obtain⟨v,hv⟩:=h.nd x hx;rw[hv]at ho;cases ho
  cases hc
 ·have:=(hr k e.symm).1;omega
theorem DrI.skip(h:DrI w0 mb c nm0 L xs V)(hx:L[xs.length]?=some x)(hn:(x.2.nm.toList == nm0.toList)=true):DrI w0 mb c nm0 L (xs++[x]) V:=by
 have hk:bz nm0 (xs++[x])=bz nm0 xs:=by rw[sX,OD hn]
 refine⟨?_,by rw[hk];exact h.cell,by rw[hk];exact h.ring,fun i y hi hy=>h.rest i y (by rw[OM]at hi;omega) hy,h.nd,h.mo,h.blk⟩;rw[OM,Qu,<- dO hx,<- h.pre]
theorem DrI.push(h:DrI w0 mb c nm0 L xs V)(Ua:(L.map (·.1)).Nodup)(hx:L[xs.length]?=some x)(hn:(x.2.nm.toList == nm0.toList)=false):
  x.1 ∉ (bz nm0 xs).map (·.1)/\mb≠x.1/\mb ∉ (bz nm0 xs).map (·.1)/\DrI w0 mb c nm0 L (xs++[x]) (eH V ⟨mb,c,none⟩ (bz nm0 xs) x.1):=by
 obtain⟨arr,arr',a1,a2,a3,a4⟩:=h.blk;have hk:bz nm0 (xs++[x])=bz nm0 xs++[x]:=by rw[sX,OB (by rw[hn];decide)]
 have Ud:∀z∈bz nm0 xs,z∈L.take xs.length:=fun z hz=>h.pre▸kh hz;have VI:x∈L:=OG hx;have WZ:∀y∈L,mb≠y.1:=fun y hy e=>by
  obtain⟨v,hv⟩:=h.nd y hy;rw[<- e,a2]at hv;simp at hv
 have n1:x.1 ∉ (bz nm0 xs).map (·.1):=fun e=>by
  obtain⟨z,hz,e⟩:=O7.1 e;exact mj Ua (Ow _) hx z (Ud z hz) e
 have n3:mb ∉ (bz nm0 xs).map (·.1):=fun e=>by
  obtain⟨z,hz,e⟩:=O7.1 e;exact WZ z (my (Ud z hz)) e.symm
 have n4:((bz nm0 xs).map (·.1)).Nodup:=by
  have:(bz nm0 xs).Sublist L:=by
   refine List.Sublist.trans List.filter_sublist ?_;rw[h.pre];exact List.take_sublist _ _
  exact(this.map _).nodup Ua
 obtain⟨p1,p2⟩:=h.ring.push (p:=(mb,c)) (x:=x.2) n4 (h.rest _ x (Ow _) hx) n1 (WZ x VI) n3;have hzL:∀z,(bz nm0 xs).getLast?=some z->z∈L.take xs.length:=fun z hz=>Ud z (Qy hz);refine⟨n1,WZ x VI,n3,?_,?_,by rw[hk];exact p1,fun i y hi hy=>?_,fun y hy=>?_,h.mo.trans' p2 (fun k _ e=>?_),arr,_,a1,FT a2 (WZ x VI) n3,by simp[a3],fun j hj=>?_⟩
 ·rw[OM,Qu,<- dO hx,<- h.pre]
 ·rw[hk,n6];exact C3 h.cell (WZ x VI) n3
 ·rw[OM,Qu]at hi;have hv:=h.rest i y zaa hy;refine(p2.block y.1 (Ov.1 hv).1 (fun e=>?_)).trans hv;have hxt:x∈L.take (xs.length+1):=by rw[<- dO hx];simp
  rcases e with e|e|⟨z,hz,e⟩
  ·exact WZ y (OG hy) e.symm
  ·exact mj Ua hi hy x hxt e.symm
  ·exact mj Ua zaa hy z (hzL z hz) e.symm
 ·by_cases e1:y.1=x.1
  ·obtain rfl:=IM Ua hy VI e1;have:=p1 (bz nm0 xs).length y zad;exact⟨_,this⟩
  ·by_cases e2:∃z,(bz nm0 xs).getLast?=some z/\y.1=z.1
   ·obtain⟨z,hz,e2⟩:=e2;obtain rfl:=IM Ua hy (my (hzL z hz)) e2;obtain⟨i,hi⟩:=O5.1 (Qy hz);have hi2:(bz nm0 xs++[(x.1,x.2)])[i]?=some y:=by rw[Pv (Oz.1 hi).1];exact hi
    exact⟨_,p1 i y hi2⟩
   ·obtain⟨v,hv⟩:=h.nd y hy;refine⟨v,(p2.block y.1 (Ov.1 hv).1 (fun e=>?_)).trans hv⟩
    rcases e with e|e|e
    ·exact WZ y hy e.symm
    ·exact e1 e
    ·exact e2 e
 ·rcases e with e|e|⟨z,hz,e⟩
  ·exact .inl e
  ·exact .inr ⟨x,VI,e⟩
  ·exact .inr ⟨z,my (hzL z hz),e⟩
 ·rw[P6 (fun e=>hj e.symm)];exact a4 j hj
end Y
theorem FW(w:World)(mb c Nb:Nat)(nm0:())(L:List Y.Nd)(arr:Array Value)(hb:w.heap[mb]?=some (.cells arr 120 (0,0)))(hc:w.cell? (mb,c)=some (Y.aM L))(hR:Y.cH w L)(Ua:(L.map (·.1)).Nodup)(hN:Boxed w Nb 9 (.string nm0)):
  () 374 #[(mb,c),.func (.func 371) #[] #[Nb]] w fun e w'=>e=.returned (.tuple #[])/\Y.DrI w mb c nm0 L L w':=by
 refine(O3 (n:=7)).1 ?_;have Vp:w.frozen? (mb,c)=false:=by simp[World.frozen?,hb]
 have hmb:mb<w.heap.size:=(Ov.1 hb).1;obtain⟨rp,US⟩:∃rp,Y.aM L=.pointer rp:=by
  unfold Y.aM;cases L.getLast? with
  |none=>exact⟨_,rfl⟩
  |some z=>exact⟨_,rfl⟩
 have Va:=fun V=>mS (Y.aM L) V (by
  unfold Y.aM;cases L.getLast? with
  |none=>exact .inl rfl
  |some z=>exact .inr ⟨z.1,rfl⟩)
 rw[US]at hc Va;have VP:∀o1 o2 o3:Obj,Below w w (((w.alloc o1).alloc o2).alloc o3):=fun o1 o2 o3=>(((Oy _ w).alloc (Ow _) _).alloc zad _).alloc zae _;have Ug:=(VP (.cells #[(mb,c)] 381) (.cells #[.func (.func 371) #[] #[Nb]] 210) (.cells #[.pointer rp] 112)).block mb hmb;rw[hb]at Ug;have c3:(((w.alloc (.cells #[(mb,c)] 381)).alloc (.cells #[.func (.func 371) #[] #[Nb]] 210)).alloc (.cells #[.pointer rp] 112)).cell? (mb,c)=some (.pointer rp):=by rw[OA _ _ _ _ _ _ Ug,<- OA w _ _ _ _ _ hb];exact hc
 have f3:(((w.alloc (.cells #[(mb,c)] 381)).alloc (.cells #[.func (.func 371) #[] #[Nb]] 210)).alloc (.cells #[.pointer rp] 112)).frozen? (mb,c)=false:=by simp[World.frozen?,Ug]
 refine Pq func374 rfl trivial ?_ rfl;simp only[ntmps374,List.size_toArray,List.length_cons,List.length_nil,Nat.reduceAdd,Nat.reduceSub,Array.replicate_succ,Array.replicate_zero,List.push_toArray,List.append_toArray,List.nil_append,List.cons_append];gi_wp2_with(refine⟨trivial,?_⟩;gi_at_call 117;refine(O3.2 (Va _)).mono ?_;rintro e w9 ⟨rfl,Pg⟩;rw[Pg];clear Pg w9);have hW3s:(((w.alloc (.cells #[(mb,c)] 381)).alloc (.cells #[.func (.func 371) #[] #[Nb]] 210)).alloc (.cells #[.pointer rp] 112)).heap.size=w.heap.size+3:=zad;have B3:=VP (.cells #[(mb,c)] 381) (.cells #[.func (.func 371) #[] #[Nb]] 210) (.cells #[.pointer rp] 112);have x0:Boxed (((w.alloc (.cells #[(mb,c)] 381)).alloc (.cells #[.func (.func 371) #[] #[Nb]] 210)).alloc (.cells #[.pointer rp] 112)) w.heap.size 381 (mb,c):=((O4 w _ _).alloc _).alloc _;have x1:Boxed (((w.alloc (.cells #[(mb,c)] 381)).alloc (.cells #[.func (.func 371) #[] #[Nb]] 210)).alloc (.cells #[.pointer rp] 112)) (w.heap.size+1) 210 (.func (.func 371) #[] #[Nb]):=by
  have:=(O4 (w.alloc (.cells #[(mb,c)] 381)) 210 (.func (.func 371) #[] #[Nb])).alloc (.cells #[.pointer rp] 112);rw[Py]at this;exact this
 have xN:Boxed (((w.alloc (.cells #[(mb,c)] 381)).alloc (.cells #[.func (.func 371) #[] #[Nb]] 210)).alloc (.cells #[.pointer rp] 112)) Nb 9 (.string nm0):=aB hN B3 hN.lt;clear c3 f3 Vp VP;generalize(((w.alloc (.cells #[(mb,c)] 381)).alloc (.cells #[.func (.func 371) #[] #[Nb]] 210)).alloc (.cells #[.pointer rp] 112))=W3 at *;have TU:Nb≠mb:=fun e=>by
  have h:=hN;rw[e]at h;rw[show w.heap[mb]?=_ from h]at hb;simp at hb
 have x3:=O4 (W3.setCell (mb,c) (.pointer none)) 112 (.pointer rp);have hsS:(W3.setCell (mb,c) (.pointer none)).heap.size=w.heap.size+1+1+1:=by simp[hW3s]
 rw[hsS]at x3;have y0:=(bs x0 (p:=(mb,c)) (by show w.heap.size≠mb;omega) (.pointer none)).alloc (.cells #[.pointer rp] 112);have y1:=(bs x1 (p:=(mb,c)) (by show w.heap.size+1≠mb;omega) (.pointer none)).alloc (.cells #[.pointer rp] 112);have yN:=(bs xN (p:=(mb,c)) TU (.pointer none)).alloc (.cells #[.pointer rp] 112);have hbS:(W3.setCell (mb,c) (.pointer none)).heap[mb]?=some (.cells (arr.setIfInBounds c (.pointer none)) 120 (0,0)):=OP W3 mb c _ _ _ Ug;have WZ:∀y∈L,mb≠y.1:=fun y hy e=>by
  obtain⟨i,hi⟩:=O5.1 hy;have:=hR i y hi;rw[<- e,hb]at this;simp at this
 have hRS:∀(i:Nat) (y:Y.Nd),L[i]?=some y->(W3.setCell (mb,c) (.pointer none)).heap[y.1]?=some (.cells (Y.eN y.2 (Y.nxt L i)) 215 (0,0)):=fun i y hy=>(O9 W3 _ _ y.1 (fun e=>WZ y (OG hy) e.symm)).trans ((B3.block y.1 (Ov.1 (hR i y hy)).1).trans (hR i y hy));have Um:c<arr.size:=by
  rw[OA w _ _ _ _ _ hb]at hc;exact(Ov.1 hc).1
 have hDS:Y.DrI w mb c nm0 L [] (W3.setCell (mb,c) (.pointer none)):=⟨zad,by rw[cell_of_row _ _ _ _ _ _ hbS];exact Qd Um,Y.cH.nil _,fun i y _ hy=>hRS i y hy,fun y hy=>by
  obtain⟨i,hi⟩:=O5.1 hy;exact⟨_,hRS i y hi⟩,(az (B3)).set _ _ (.inl rfl),arr,_,hb,hbS,zad,fun j hj=>P6 (fun e=>hj e.symm)⟩
 have hD0:=hDS.below (((Oy _ _).alloc (Ow _) (.cells #[.pointer rp] 112)));have XR:((W3.setCell (mb,c) (.pointer none)).alloc (.cells #[.pointer rp] 112)).heap.size=w.heap.size+4:=by simp[hW3s]
 clear hDS hRS hbS hsS x0 x1 xN Ug hW3s B3 Va;generalize(W3.setCell (mb,c) (.pointer none)).alloc (.cells #[.pointer rp] 112)=W0 at *;refine tI rfl zaa (gf:=165) rfl trivial (QN func165 zab rfl)
  (AF 6 zaa (w.heap.size+1+1+1) L Ua W0) (fun _ _=>trivial) (fun _ _ _ _ _=>trivial) (fun _=>rfl)
  (fun xs V=>Y.DrI w mb c nm0 L xs V/\(Boxed V w 381 (mb,c)/\Boxed V (w.heap.size+1) 210 (.func (.func 371) #[] #[Nb]))/\(Boxed V (w.heap.size+1+1+1) 112 (.pointer rp)/\Boxed V Nb 9 (.string nm0)))
  (Pa (Y.DrI.own zaa) (Pa (Pa (PY (PG _ _ _) _) (PY (PG _ _ _) _)) (Pa (PY (PG _ _ _) _) (PY (PG _ _ _) _))))
  (fun xs V hI=>?rd) ⟨hD0,⟨y0,y1⟩,x3,yN⟩
  (fun x a' _=>a'={ tmps:=#[.pointer (some ⟨mb,c,none⟩),.func (.func 371) #[] #[.pointer (some ⟨Nb,0,none⟩)],.pointer (some ⟨w.heap.size,0,none⟩),.pointer (some ⟨w.heap.size+1,0,none⟩),.pointer (some ⟨w.heap.size+1+1,0,none⟩),.pointer (some ⟨x.1,0,none⟩),.pointer (some ⟨mb,c,none⟩),.pointer (some ⟨mb,c,none⟩),.agg #[.pointer rp],.pointer (some ⟨mb,c,none⟩),.pointer (some ⟨mb,c,none⟩),.pointer (some ⟨mb,c,none⟩),.agg #[.pointer rp],.func (.func 165) #[] #[.pointer (some ⟨w.heap.size+1+1+1,0,none⟩)],.pointer (some ⟨x.1,0,none⟩),undef,undef,undef,undef,undef,undef,undef,undef,undef,undef],defers:=[] }) (fun _ _ _ _ _ _ hs _ _=>hs) ?assign ?body ?done
 case rd=>
  obtain⟨hD,_,UI,_⟩:=hI;refine⟨by rw[US];exact UI.cell,fun x hx=>?_,fun x hx=>?_,fun h0 z hz=>?_⟩
  ·obtain⟨v,hv⟩:=hD.nd x hx;exact⟨_,hv⟩
  ·rw[OA V _ _ _ _ _ (hD.rest _ x (Ow _) hx)];rfl
  ·have VE:L[L.length-1]?=some z:=zaA;rw[OA V _ _ _ _ _ (hD.rest _ z zaa VE)];rfl
 case assign=>
  intro l xs x V K hI hK;exact zfu
 case body=>
  rintro l xs x a' V hl ⟨rl,V6⟩ ⟨hx,VK⟩ ⟨hD,⟨z0,z1⟩,z3,zN⟩ rfl;have Yr:=hD.rest _ x (Ow _) hx;have n1:V.drew.cell? (x.1,1)=some ↑x.2.ev:=by rw[show V.drew.cell? (x.1,1)=V.cell? (x.1,1) from rfl,OA V _ _ _ _ _ Yr];rfl
  have n2:V.drew.cell? (x.1,2)=some ↑x.2.nm:=by rw[show V.drew.cell? (x.1,2)=V.cell? (x.1,2) from rfl,OA V _ _ _ _ _ Yr];rfl
  have q1:V.drew.cell? ↑(w.heap.size+1)=_:=z1.cell;have hca:=zC V.drew Nb x.2.ev x.2.nm nm0 zN.cell;have ZX:1<=7-1-1:=zaa;have hBV:Below V V (V.drew.alloc (.cells #[x.2.ev,x.2.nm] 139)):=(Oy _ V).drew.alloc (Ow _) _;obtain⟨bw,Ui⟩:∃bw,(x.2.nm.toList == nm0.toList)=bw:=⟨_,rfl⟩;rw[Ui]at hca;gi_wp2;refine aW (dQ l) 5 zab zab zab ?_;simp only[List.take_succ_cons,List.take_zero,List.drop_succ_cons,List.drop_zero]
  repeat still_step
  refine P8 ?_;have hca2:=hca.mono (fun e w' h=>(⟨h.1,h.2▸hBV⟩:e=_/\Below V V w'));clear hca hBV;have HZ:Hid (∀w9,Below V V w9->(Boxed w9 w 381 (mb,c)/\Boxed w9 (w.heap.size+1) 210 (.func (.func 371) #[] #[Nb]))/\(Boxed w9 (w.heap.size+1+1+1) 112 (.pointer rp)/\Boxed w9 Nb 9 (.string nm0))):=fun w9 hb=>⟨⟨aB z0 hb z0.lt,aB z1 hb z1.lt⟩,aB z3 hb z3.lt,aB zN hb zN.lt⟩;cases bw
  ·have HP:Hid (∀w9,Below V V w9->() 167 #[(mb,c),x.1] w9 fun e w'=>e=.returned (.tuple #[])/\KeepsFrom W0.heap.size V w'/\True/\Y.DrI w mb c nm0 L (xs++[x]) w'/\(Boxed w' w 381 (mb,c)/\Boxed w' (w.heap.size+1) 210 (.func (.func 371) #[] #[Nb]))/\(Boxed w' (w.heap.size+1+1+1) 112 (.pointer rp)/\Boxed w' Nb 9 (.string nm0))):=fun w9 hb=>by
    have hD9:=hD.below hb;obtain⟨p1,p2,p3,p4⟩:=hD9.push Ua hx Ui;obtain⟨arr0,arr9,g1,g2,g3,g4⟩:=hD9.blk;refine(mY w9 mb c (Y.bz nm0 xs) x.1 x.2 (Y.nxt L xs.length) hD9.cell (by simp[World.frozen?,g2]) hD9.ring (hD9.rest _ x (Ow _) hx) p1 p2 p3).mono ?_;rintro e w' ⟨rfl,rfl⟩;obtain⟨⟨r0,r1⟩,r3,rN⟩:=HZ.out w9 hb;have Yy:Mo (fun k=>k=mb\/∃y∈L,k=y.1) w9 (Y.eH w9 ⟨mb,c,none⟩ (Y.bz nm0 xs) x.1):=by
     unfold Y.eH;cases hz:(Y.bz nm0 xs).getLast? with
     |none=>exact((Mo.refl _ w9).set _ _ (.inr ⟨x,OG hx,rfl⟩)).set _ _ (.inl rfl)
     |some z=>exact(((Mo.refl _ w9).set _ _ (.inr ⟨x,OG hx,rfl⟩)).set _ _ (.inr ⟨z,Y.my (VK▸Y.kh (Qy hz)),rfl⟩)).set _ _ (.inl rfl)
    have hno2:∀(B:Nat) (t:TypeId) (v:Value),Boxed w9 B t v->t≠120->t≠215->Boxed (Y.eH w9 ⟨mb,c,none⟩ (Y.bz nm0 xs) x.1) B t v:=fun B t v UI t1 t2=>Boxed.mo UI Yy (fun e=>by
     rcases e with e|⟨y,hy,e⟩
     ·subst e;rw[show w9.heap[B]?=_ from UI]at g2;simp at g2;exact t1 g2.2
     ·obtain⟨v',VD⟩:=hD9.nd y hy;subst e;rw[show w9.heap[y.1]?=_ from UI]at VD;simp at VD;exact t2 VD.2)
    refine⟨rfl,((Y.eE hb).trans ⟨Yy.size,fun k o hk ho=>(Yy.block k (Ov.1 hk).1 (fun e=>?_)).trans hk⟩).from _,trivial,p4,⟨hno2 _ _ _ r0 zac zac,hno2 _ _ _ r1 zac zac⟩,hno2 _ _ _ r3 zac zac,hno2 _ _ _ rN zac zac⟩
    rcases e with e|⟨y,hy,e⟩
    ·subst e;rw[g2]at hk;cases hk
     cases ho
    ·obtain⟨v',VD⟩:=hD9.nd y hy;subst e;rw[VD]at hk;cases hk
     cases ho
   gi_wp2_with(first
    |(refine⟨trivial,?_⟩;gi_at_call 371;refine(aI hca2).mono ?_;rintro e w9 ⟨rfl,UR⟩;have q0:w9.cell? ⟨w.heap.size,0,none⟩=_:=(HZ.out w9 UR).1.1.cell)
    |(refine⟨trivial,?_⟩;gi_at_call 167;refine(aI (HP.out w9 UR)).mono ?_;intro e w8 h8;obtain⟨rfl,h8⟩:=h8;have H8:Hid _:=h8;clear h8))
   exact H8.out
  ·gi_wp2_with(refine⟨trivial,?_⟩;gi_at_call 371;refine(aI hca2).mono ?_;rintro e w9 ⟨rfl,UR⟩);exact⟨(Y.eE UR).from _,trivial,(hD.below UR).skip hx Ui,HZ.out w9 UR⟩
 case done=>
  rintro D xs V hD hS ⟨hDr,_⟩ T7;subst hS;gi_wp2;refine⟨zad,.inl ⟨_,_,rfl,Pj T7,?_⟩⟩;exact⟨_,Pu rfl _ _ _,rfl,(Y.DrI.own (nm0:=nm0) (show w.heap.size<=W0.heap.size by omega)).putObj _ hDr zaa T7 rfl⟩
attribute [local go_sem] Pp
namespace Y
theorem WhM.congr(h:WhM W lo s R)(e:∀r,isR r->R' r=R r):WhM W lo s R':=
 ⟨⟨fun r hr=>by rw[e r hr];exact h.rgs.ring r hr,fun r hr=>by rw[e r hr];exact h.rgs.nds r hr,fun r hr=>by rw[e r hr];exact h.rgs.low r hr,fun r q hr hq=>by rw[e r hr,e q hq];exact h.rgs.dis r q hr hq,fun r hr=>by rw[e r hr];exact h.rgs.nod r hr⟩,fun k hk=>by
  obtain⟨x,x1,x2,x3⟩:=h.held k hk;exact⟨x,x1,x2,fun j hj=>by rw[e _ (.inl zaa)];exact x3 j hj⟩⟩
theorem K9(hM:au W lo mb pb qv s)(TV:lo<=W.heap.size)(j:Nat)(v:Value):Rw lo W (W.drew.setCell (mb,j) v):=
 (RfE.of (Oy W W).drew TV).trans (RfE.mo (P:=(·=mb)) ((Mo.refl _ _).set _ _ rfl) (fun j hj=>by
  obtain⟨arr,a1,_⟩:=hM.blk;subst hj;exact⟨hM.lo',arr,_,_,a1,.inl rfl⟩) TV)
theorem dh.drop(hM:au W lo mb pb qv s)(h:dh W lo s.wh R)(hr:isR r)(TV:lo<=W.heap.size)(hD:DrI W mb (28+r) nm0 (R r) (R r) W'):
  au W' lo mb pb qv { s with wh:=upd s.wh (28+r) (aM (bz nm0 (R r))) }/\dh W' lo (upd s.wh (28+r) (aM (bz nm0 (R r)))) (upd R r (bz nm0 (R r)))/\Rw lo W W':=by
 have V6:=hr.lt;obtain⟨arr,arr',a1,a2,a3,a4⟩:=hD.blk;obtain⟨arr0,m1,m2,m3⟩:=hM.blk;rw[a1]at m1;have e0:arr=arr0:=by cases m1;rfl
 subst e0;have WX:∀q,isR q->∀y∈R q,mb≠y.1:=fun q hq y hy=>by
  exact ze2
 have XH:∀q,isR q->∀y∈R q,∃c,W.heap[y.1]?=some (.cells c 215 (0,0)):=fun q hq y hy=>by
  exact ze3
 have hcr:arr'[28+r]?=some (aM (bz nm0 (R r))):=by rw[<- OA W' _ _ _ _ _ a2];exact hD.cell
 refine⟨⟨⟨arr',a2,zaa,fun j hj=>?_⟩,hM.que.mo hD.mo (fun g hg e=>?_),hM.lo',hM.qok,Ox hM.sz hD.mo.size⟩,⟨fun q hq=>?_,fun q hq=>?_,fun q hq y hy=>?_,fun q q' hq Xr TU y hy z hz=>?_,fun q hq=>?_⟩,RfE.mo hD.mo (fun k hk=>?_) TV⟩
 ·by_cases e:j=28+r
  ·subst e;rw[hcr];unfold fw;rw[OB zaa,OB zaa,OB zaa,OB zaa,OB zaa,OD zaa];dsimp only;rw[aD]
  ·rw[a4 j e,m3 j hj];unfold fw;dsimp only;rw[aG _ _ e]
 ·obtain⟨c',TZ⟩:=hM.que.kind g hg
  rcases e with e|⟨y,hy,e⟩
  ·rw[e,a1]at TZ;simp at TZ
  ·obtain⟨c,hc⟩:=XH r hr y hy;rw[e,hc]at TZ;simp at TZ
 ·by_cases e:q=r
  ·subst e;rw[aD,aD]
  ·rw[aG _ _ e,aG _ _ zaa];exact h.ring q hq
 ·by_cases e:q=r
  ·subst e;rw[aD];exact hD.ring
  ·rw[aG _ _ e];refine(h.nds q hq).mo hD.mo (fun y hy hk=>?_)
   rcases hk with hk|⟨z,hz,hk⟩
   ·exact WX q hq y hy hk.symm
   ·exact h.dis q r hq hr e y hy z hz hk
 ·by_cases e:q=r
  ·subst e;rw[aD]at hy;exact h.low q hq y (kh hy)
  ·rw[aG _ _ e]at hy;exact h.low q hq y hy
 ·have f:∀q y,y∈upd R r (bz nm0 (R r)) q->y∈R q:=fun q y hy=>by
   by_cases e:q=r
   ·subst e;rw[aD]at hy;exact kh hy
   ·rw[aG _ _ e]at hy;exact hy
  exact h.dis q q' hq Xr TU y (f q y hy) z (f q' z hz)
 ·by_cases e:q=r
  ·subst e;rw[aD];exact((List.filter_sublist (l:=R q)).map _).nodup (h.nod q hq)
  ·rw[aG _ _ e];exact h.nod q hq
 ·rcases hk with hk|⟨z,hz,hk⟩
  ·exact zfo
  ·obtain⟨cz,hcz⟩:=XH r hr z hz;subst hk;exact⟨h.low r hr z hz,_,_,_,hcz,.inr rfl⟩
theorem au.gr(h:au W lo mb pb qv s)(hg:W.grownBy W' row)(hr:∀r,row=some r->∃o:Obj,W.heap[r]?=some o/\o.isCells=false):au W' lo mb pb qv s:=by
 refine h.mo (P:=fun k=>some k=row) ⟨hg.os,hg.tape,hg.output,hg.size,fun k hk hn=>hg.block k hk hn⟩ (fun e=>?_) (fun g hgq e=>?_)
 ·obtain⟨o,ho,hc⟩:=hr _ e.symm;obtain⟨arr,a1,_⟩:=h.blk;rw[a1]at ho;cases ho
  cases hc
 ·obtain⟨o,ho,hc⟩:=hr _ e.symm;obtain⟨c,XT⟩:=h.que.kind g hgq;rw[XT]at ho;cases ho
  cases hc
theorem iz(hg:W.grownBy W' row)(hr:∀r,row=some r->∃o:Obj,W.heap[r]?=some o/\o.isCells=false):Kd E W W':=⟨hg.size,fun k c t f hk _=>hg.block k (Ov.1 hk).1 (fun e=>by
 obtain⟨o,ho,hc⟩:=hr _ e.symm;rw[hk]at ho;cases ho
 cases hc)⟩
theorem WhM.kd(h:WhM W lo s R)(hk:Kd E W W')(hE:¬E 215):WhM W' lo s R:=⟨h.rgs.kd hk hE,h.held⟩
theorem RfE.gr(h:RfE E lo w V)(hl:lo<=w.heap.size)(hg:V.grownBy V' row)(hr:∀r,row=some r->w.heap.size<=r/\∃o:Obj,V.heap[r]?=some o/\o.isCells=false):RfE E lo w V':=
 ⟨h.bel.trans ⟨hg.os,hg.tape,hg.output,hg.size,fun k hk=>hg.block k (by have:=h.bel.size;omega) (fun e=>zbg)⟩,h.kd.trans (iz hg (fun r e=>(hr r e).2)),⟨Ox h.oth.size hg.size,fun k o hk ho=>by
  have h2:=h.oth.same k o hk ho;exact(hg.block k (Ov.1 h2).1 (fun e=>by have:=(hr k e.symm).1;have:=(Ov.1 hk).1;omega)).trans h2⟩,fun k hk hn=>(hg.block k (OS hk h.bel.size) (fun e=>zbg)).trans (h.own k hk hn)⟩
def MW(w:World)(lo:Y.Lo)(mb pb:Nat)(qv:Value)(s:MSt)(R:Nat->List Nd)(V:World):Prop:=∃wh',au V lo mb pb qv { s with wh:=wh' }/\WhM V lo { s with wh:=wh' } R/\Rw lo w V
theorem MW.gr(h:MW w lo mb pb qv s R V)(hl:lo<=w.heap.size)(hg:V.grownBy V' row)(hr:∀r,row=some r->w.heap.size<=r/\∃o:Obj,V.heap[r]?=some o/\o.isCells=false):MW w lo mb pb qv s R V':=by
 obtain⟨wh',a,b,c⟩:=h;exact⟨wh',a.gr hg (fun r e=>(hr r e).2),b.kd (iz (E:=fun _=>False) hg (fun r e=>(hr r e).2)) (fun h=>h),c.gr hl hg hr⟩
theorem MW.below(h:MW w lo mb pb qv s R V)(hl:lo<=w.heap.size)(hb:Below V V V'):MW w lo mb pb qv s R V':=by
 obtain⟨wh',a,b,c⟩:=h;exact⟨wh',a.below hb,⟨b.rgs.below hb,b.held⟩,c.trans (RfE.of hb (Ox hl c.bel.size))⟩
theorem MW.congr(h:MW w lo mb pb qv s R V)(e:∀r,isR r->R' r=R r):MW w lo mb pb qv s R' V:=by
 obtain⟨wh',a,b,c⟩:=h;exact⟨wh',a,b.congr e,c⟩
end Y
theorem vY(w w0:World)(lo:Y.Lo)(mb pb:Nat)(qv:Value)(s:Y.MSt)(R:Nat->List Y.Nd)(r Nb:Nat)(nm0:())(hr:Y.isR r)(TV:lo<=w0.heap.size)(h:Y.MW w0 lo mb pb qv s R w)(hN:Boxed w Nb 9 (.string nm0)):
  () 374 #[(mb,28+r),.func (.func 371) #[] #[Nb]] w fun e w'=>e=.returned (.tuple #[])/\∃wh0 wh',Y.kB wh0 R/\Y.au w' lo mb pb qv { s with wh:=wh' }/\Y.dh w' lo wh' (Y.upd R r (Y.bz nm0 (R r)))/\(∀k,k<6->wh' (28+(k*65+64))=wh0 (28+(k*65+64)))/\Y.Rw lo w0 w'/\Y.Rw lo w w':=by
 obtain⟨wh0,hM,hW,Y7⟩:=h;obtain⟨arr,a1,a2,a3⟩:=hM.blk;have V6:=hr.lt;refine(FW w mb (28+r) Nb nm0 (R r) arr a1 ((hM.whc (28+r) zaa zaa).trans (congrArg some (hW.rgs.ring r hr))) (hW.rgs.nds r hr) (hW.rgs.nod r hr) hN).mono ?_;rintro e w' ⟨rfl,hD⟩;obtain⟨x1,x2,x3⟩:=hW.rgs.drop hM hr (Ox TV Y7.bel.size) hD;exact⟨rfl,wh0,_,hW.held,x1,x2,fun k hk=>Y.aG _ _ (by rcases hr with⟨_,hr⟩|hr<;>omega),Y7.trans x3,x3⟩
