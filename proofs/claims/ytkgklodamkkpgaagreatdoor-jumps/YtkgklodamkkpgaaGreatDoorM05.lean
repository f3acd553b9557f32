import Derived.Test.YtkgklodamkkpgaaGreatDoorM04
set_option maxRecDepth 100000
set_option maxHeartbeats 8000000
namespace Go.Proofs.YtkgklodamkkpgaaGreatDoor
variable {zp:Prop}
theorem zc2 (h:zp:=by
 by_cases e:k=K
 ·subst e;refine ⟨Pg.iq h S false,Pg.n7 h1 hSl,Pg.aC _ _ _,fun j hj => ?_⟩;rw [Pg.l9 hSl j hj];by_cases e:j=S
  ·subst e;rw [M6 rfl,Pg.aC];simp
  ·rw [M4 e,Pg.aG _ _ zaa];exact h3 j hj
 ·obtain ⟨g,g1,g2,g3⟩:=hW.held k hk;refine ⟨g,g1,?_,fun j hj => ?_⟩
  ·show Pg.upd (Pg.upd s.wh _ _) _ _ _=_;rw [Pg.aG _ _ zaa,Pg.aG _ _ zaa];exact g2
  ·rw [Pg.aG _ _ zaa];exact g3 j hj):zp:=h
theorem zdh (h:zp:=by
 go_enter func161,ntmps161;go_wp2_with (first
  | (go_at_call 157;refine hsp.mono ?_;rintro e w9 ⟨rfl,hb9⟩)
  | (go_at_call 202;refine (H.out _ hb9).mono ?_;intro e w' h9;obtain ⟨rfl,h9⟩:=h9;have H9:Hid _:=h9;clear h9))
 refine OI (N5 rfl _ _ _) rfl ?_;exact ⟨rfl,H9.out⟩):zp:=h
theorem zdl (h:zp:=by
 go_enter func161,ntmps161;go_wp2_with (first
  | (go_at_call 157;refine hsp.mono ?_;rintro e w9 ⟨rfl,hb9⟩)
  | (go_at_call 203;refine (H.out _ hb9).mono ?_;intro e w' h9;obtain ⟨rfl,h9⟩:=h9;have H9:Hid _:=h9;clear h9))
 go_end0;exact ⟨rfl,H9.out⟩):zp:=h
theorem zdy (h:zp:=by
 clear hat;go_enter func374,ntmps374;go_wp2_with (go_at_call 161;refine (H.out _).mono ?_;intro e w' h9;obtain ⟨rfl,h9⟩:=h9;have H9:Hid _:=h9;clear h9);go_end0;exact ⟨rfl,H9.out⟩):zp:=h
theorem zdC (h:zp:=by
 obtain ⟨h,h1,h2,h3⟩:=hW.held k hk;refine ⟨h,h1,?_,fun j hj => ?_⟩
 ·show Pg.upd s.wh (28+390) _ _=_;rw [Pg.aG _ _ zaa];exact h2
 ·rw [Pg.aG _ _ zaa];exact h3 j hj):zp:=h
theorem zdD (h:zp:=by
 rcases O5.1 hE with rfl | hE
 ·exact ⟨zaa,hdef⟩
 ·obtain ⟨e1,e2⟩:=hDs E hE;have e3:=(hW3b.block E (MQ.1 e2).1).trans e2;exact ⟨e1,hKV.2.same E _ zaa e3 rfl⟩):zp:=h
theorem zd1 (h:zp:=by
 rcases hsh r with hrv | ⟨b,hrv⟩
 all_goals
  have hk3:=hk2 _ hrv;rw [hrv] at hk3 ⊢;gi_wp2;exact hk3):zp:=h
theorem zeb (h:zp:=by
 obtain ⟨y,hy,e⟩:=NI.1 e;obtain ⟨i,hi⟩:=Nu.1 hy;exact hM.typ (hW.rgs.nds q hq i y hi) e.symm):zp:=h
theorem zel (h:zp:=by
 rw [<- hV];exact ⟨hI.alloc _ (hI.alloc _ h0),zb7,(N9 _ _ _ zad).trans (Na w _)⟩):zp:=h
theorem zeE (h:zp:=by
 exact PB _ _ _ ((hset _ _ _ hzl).trans ((hset _ _ _ hcn).trans hc))):zp:=h
theorem zfe (h:zp:=by
 gi_wp2;exact hK _ _ (Oj _ _) trivial hI rfl):zp:=h
theorem zbe (h:zp:=by have:=(hr k e.symm).1;omega):zp:=h
theorem zbg (h:zp:=by have:=(hDs D hD).1;omega):zp:=h
theorem zb3 (h:zp:=by rw [On];exact (hM9.whc (28+(K*65+S)) (by omega) (by omega)).trans (congrArg some (hR9.ring _ hr))):zp:=h
theorem zb5 (h:zp:=by rw [On];exact (hM9.whc (28+(K*65+64)) (by omega) (by omega)).trans (congrArg some h2)):zp:=h
theorem zb7 (h:zp:=by have:=Na (w.alloc (.deferred (some []))) (.loop (lp .ready none));simpa using this):zp:=h
theorem zcn (h:zp:=by intro h;injection h with h1 h2;exact e h2.symm):zp:=h
theorem zcr (h:zp:=by intro e;injection e with e1;exact hb e1.symm):zp:=h
open Tryz
variable {n k mb pb r c:Nat} {w W W' w0 V V':World} {hv:Nat->Nat} {lo:Pg.Lo} {qv:Value} {s s':Pg.MSt} {E:TypeId->Prop} {T:List Pg.Tn} {R R':Nat->List Pg.Nd} {nm0:ByteArray} {L xs:List Pg.Nd} {x y:Pg.Nd} {row:Option Nat}
section
open Go.RowKit
def Fw {α:Type} (F:Fence) (n:Nat) (P:Program) (g:Nat) (lb:Array Value) (encs:α->Array Value) (Kp:World->World->Prop) (Nx:List α->α->Prop) (S Sp:List α->Prop) (w:World):Prop :=
 ∀ (l:Nat) (J Jx:List α->World->Prop) (W:World),Below w w W->w.heap.size+2<=W.heap.size->OwnFrom W.heap.size J->OwnFrom W.heap.size Jx ->
  (∀ xs x V,J xs V->Nx xs x->YieldAt F (n-1) P l (encs x) V fun e V'=>(e = .returned true/\J (xs++[x]) V'/\Kp V V')\/(e = .returned false/\Jx (xs++[x]) V'/\Kp V V'))->J [] W ->
  CallsIn F n P g (#[.func (.yield l) #[] #[]]++lb) W fun e V=>(∃ v,e = .returned v)/\((∃ xs,S xs/\J xs V)\/∃ xs,Sp xs/\Jx xs V)
def LI {α:Type} (B:Nat) (Kp:World->World->Prop) (I Ix:List α->World->Prop) (xs:List α) (W:World):Exit->Act->World->Prop
 | .normal,_,V=>KeepsFrom B W V/\Kp W V/\I xs V
 | .ret,_,V=>KeepsFrom B W V/\Kp W V/\Ix xs V
 | _,_,_=>False
theorem zV {α:Type} {F:Fence} {P:Program} {g:Operand} {ps:Array Tmp} {assign body:Code} {Q:Exit->Act->World->Prop} {a:Act} (hro:F.round=none) (h1:1<=n) {gf:Nat} {lb:Array Value}
  (hg:a.eval g = .func (.func gf) #[] lb) (hF:F.fn gf) (eg:∀ args w,(callFunc gf args).run P w = .ok (.enter gf args) w) {encs:α->Array Value} {Kp:World->World->Prop} {Nx:List α->α->Prop} {S Sp:List α->Prop}
  (hseq:Fw F (n-1) P gf lb encs Kp Nx S Sp w)
  (hKt:∀ {A B C:World},Kp A B->Kp B C->Kp A C) (hKb:∀ (W:World) (o o':Obj),W.heap[w.heap.size+1]?=some o->o.isCells=false->Kp W (W.putObj (w.heap.size+1) o')) (hps:∀ x,(encs x).size=ps.size) (I Ix:List α->World->Prop) (hI:OwnFrom w.heap.size I) (hIx:OwnFrom w.heap.size Ix) (h0:I [] w)
  (Ax:α->Act->World->Prop) (hAx:∀ x a',OwnFrom w (fun (_:Unit) W=>Ax x a' W))
  (hassign:∀ (l:Nat) (xs:List α) (x:α) (W:World) (K:Act->World->Prop),I xs W->(∀ a' W',KeepsFrom w W W'->Kp W W'->I xs W'->Ax x a' W'->K a' W')->assign.wpIn (F.inRound l) (n-1-1) P (Exit.then K (fun _ _ _=>False)) { tmps:=(ps.zip (encs x)).foldl (fun t (p,v)=>t.setIfInBounds p v) a.tmps,defers:=[] } W)
  (hbody:∀ (l:Nat) (xs:List α) (x:α) (a':Act) (W:World),w.heap.size<=l->(∃ r,W.heap[l]?=some (.loop r))->Nx xs x->I xs W->Ax x a' W->body.wpIn (F.inRound l) (n-1-1) P (LI w Kp I Ix (xs++[x]) W) a' W)
  (hdone:∀ (D:Nat) (xs:List α) (W:World),w.heap.size<=D->S xs->I xs W->W.heap[D]?=some (.deferred (some []))->Q .normal { a with defers:={ target := .collected D,args:=#[] }::a.defers } W)
  (hstop:∀ (D:Nat) (xs:List α) (W:World),w.heap.size<=D->Sp xs->Ix xs W->W.heap[D]?=some (.deferred (some []))->Code.ret.wpIn F n P Q { a with defers:={ target := .collected D,args:=#[] }::a.defers } W) :
  (Code.rangeFunc g ps assign body).wpIn F n P Q a w:=by
 refine wpIn_rangeFunc fun fn hfn => ?_;rw [hro];obtain ⟨lp,hlp⟩:∃ lp:LoopState->Option Code->Loop,lp=fun st pe=>{ state:=st,pending:=pe,fn,tmps:=a.tmps,params:=ps,assign,body,defers:=w.heap.size }:=⟨_,rfl⟩;have hent:=Rr (P:=P) (w:=w) fn a.tmps ps assign body;obtain ⟨V,hV⟩:∃ V,(w.alloc (.deferred (some []))).alloc (.loop (lp .ready none))=V:=⟨_,rfl⟩;have hb:Below w w V:=hV ▸ (((MY _ w).alloc (MR _) _).alloc zad _);have hj:I [] V/\V.heap[w.heap.size+1]?=some (.loop (lp .ready none))/\V.heap[w.heap.size]?=some (.deferred (some [])):=by
  exact zel
 refine ⟨w.heap.size+1,[{ target := .collected w.heap.size,args:=#[] }],V,{ target := .fn (.func gf) lb,args:=#[.func (.yield (w.heap.size+1)) #[] #[]] },V,gf,#[.func (.yield (w.heap.size+1)) #[] #[]]++lb,V,
  zbQ,zbE,fun f' hf'=>zbA,zbS,fun _=>h1,?_⟩
 have hvs:V.heap.size=w.heap.size+2:=by rw [<- hV];simp
 have hown:∀ {K:List α->World->Prop} {ob:Obj} (hob:ob.isCells=false),OwnFrom w K->OwnFrom V.heap.size (fun xs W=>K xs W/\W.heap[w.heap.size+1]?=some ob/\W.heap[w.heap.size]?=some (.deferred (some []))):=fun {K ob} hob hK xs A B row h hg' hr=>by
  obtain ⟨hi,hl,hd⟩:=h;refine ⟨hK xs A B row hi hg' (fun r e=>⟨zas,(hr r e).2⟩),(hg'.block _ (MQ.1 hl).1 (fun e => ?_)).trans hl,(hg'.block _ (MQ.1 hd).1 (fun e => ?_)).trans hd⟩
  ·exact zfu
  ·exact zfu
 refine (hseq (w.heap.size+1) (fun xs W=>I xs W/\W.heap[w.heap.size+1]?=some (.loop (lp .ready none))/\W.heap[w.heap.size]?=some (.deferred (some []))) (fun xs W=>Ix xs W/\W.heap[w.heap.size+1]?=some (.loop (lp .done (some .ret)))/\W.heap[w.heap.size]?=some (.deferred (some []))) V hb zaa (hown rfl hI) (hown rfl hIx) ?_ hj).mono ?_
 ·intro xs x W ⟨hi,hl,hd⟩ hnx;have hy:=run_yield (P:=P) (args:=encs x) hl (by rw [hlp];exact hps x);rw [hlp] at hy;refine ⟨fn,_,assign,body,hy,roundIn_of_wpIn hfn (hassign _ xs x W _ hi fun a' Wa hka hkp hia hax=>⟨_,run_beginRound (hka.same _ _ zaa hl rfl) (by rw [hlp]),?_⟩)⟩;have hl:=hka.same _ _ zaa hl rfl;have hd:=hka.same _ _ (MR _) hd rfl;have hlt:=(MQ.1 hl).1;have k1:=hKb Wa _ (.loop { lp .ready none with state:=LoopState.busy }) hl rfl;refine wpIn_mono (hbody _ xs x a' _ zaa ⟨_,OW hlt⟩ hnx (hI.putObj _ hia zaa hl rfl) ((hAx x a').putObj (s:=()) _ hax zaa hl rfl)) ?_;intro e a' W' hp;have hfin:∀ (jump:Option Code),KeepsFrom w (Wa.putObj (w.heap.size+1) (.loop { lp .ready none with state:=LoopState.busy })) W' ->
    (Instr.endRound (w.heap.size+1) jump).run P W' = .ok (.bool jump.isNone) (W'.putObj (w.heap.size+1) (.loop (lp (if jump.isNone then .ready else .done) jump))) /\
    W'.heap[w.heap.size+1]?=some (.loop { lp .ready none with state:=LoopState.busy }) /\
    (W'.putObj (w.heap.size+1) (.loop (lp (if jump.isNone then .ready else .done) jump))).heap[w.heap.size+1]?=some (.loop (lp (if jump.isNone then .ready else .done) jump)) /\
    (W'.putObj (w.heap.size+1) (.loop (lp (if jump.isNone then .ready else .done) jump))).heap[w.heap.size]?=some (.deferred (some [])):=fun jump hk=>by
   have hl':=hk.same _ _ zaa (OW hlt) rfl;have hd':=hk.same _ _ (MR _) ((NU zaa).trans hd) rfl;have hr:=run_endRound (P:=P) jump hl';rw [hlp] at hr ⊢;exact ⟨hr,by rw [hlp] at hl';exact hl',OW (MQ.1 hl').1,(NU zaa).trans hd'⟩
  cases e with
  | normal =>
   obtain ⟨hk,k2,hi'⟩:=hp;obtain ⟨hr,hl3,hl4,hd4⟩:=hfin none hk;exact ⟨_,_,hr,.inl ⟨rfl,⟨hI.putObj _ hi' zaa hl3 rfl,hl4,hd4⟩,hKt hkp (hKt k1 (hKt k2 (hKb _ _ _ hl3 rfl)))⟩⟩
  | ret =>
   obtain ⟨hk,k2,hi'⟩:=hp;obtain ⟨hr,hl3,hl4,hd4⟩:=hfin (some .ret) hk;exact ⟨_,_,hr,.inr ⟨rfl,⟨hIx.putObj _ hi' zaa hl3 rfl,hl4,hd4⟩,hKt hkp (hKt k1 (hKt k2 (hKb _ _ _ hl3 rfl)))⟩⟩
  | _=>exact hp.elim
 ·rintro e W ⟨⟨v,hv⟩,⟨xs,hS,hi,hl,hd⟩ | ⟨xs,hSp,hi,hl,hd⟩⟩
  ·exact zd6
  ·subst hv;exact ⟨some .ret,_,zaV,hstop _ xs _ (MR _) hSp (hIx.putObj _ hi zaa hl rfl) ((NU zaa).trans hd)⟩
end
section
open Go.RowKit Go.Proofs Go.Shelf
attribute [local go_sem] NR
namespace Pg
theorem qi (hv:Nat->Nat) {k:Nat}:∀ m,k<=m->jU hv k <+: jU hv m
 | 0,h=>by
  obtain rfl:k=0:=zaa;exact R1
 | m+1,h=>by
  by_cases e:k=m+1
  ·subst e;exact R1
  ·exact (qi hv m zaa).trans (by rw [iI];exact RF _ _)
theorem xR (hk:k<6) {pre:List (Fq (hv k))} (h:pre.map (·.1) <+: eE (hv k)):jU hv k++pre.map (fun x=>k*65+x.1) <+: ga hv:=by
 have h1:pre.map (fun x=>k*65+x.1) <+: kE hv k:=by
  have:=h.map (fun j=>k*65+j);rw [PD] at this;exact this
 have h2:jU hv k++pre.map (fun x=>k*65+x.1) <+: jU hv (k+1):=by
  rw [iI];exact (Rl _).2 h1
 exact (h2.trans (qi hv 6 zaa)).trans (RF _ _)
theorem uN (s:Nat):(eE s).length<=64:=by unfold eE;exact MX (Ob _ _) zad
theorem tC (hv:Nat->Nat):∀ k,(jU hv k).length<=64*k
 | 0=>MR _
 | k+1=>by
  have:=tC hv k;have:=uN (hv k);rw [iI,Nj];unfold kE;rw [Ng];omega
theorem tz (hv:Nat->Nat):∀ k,k<=6->∀ q∈jU hv k,isR q
 | 0,_,q,hq=>by cases hq
 | k+1,hk,q,hq=>by
  rw [iI] at hq
  rcases Nr.1 hq with hq | hq
  ·exact tz hv k zaa q hq
  ·unfold kE at hq;obtain ⟨y,hy,rfl⟩:=NI.1 hq;have:=(fG.1 hy).1;exact .inl zaa
end Pg
theorem z7 (n:Nat) (hn:4<=n) (Bs mb:Nat) (R:Nat->List Pg.Nd) (hv:Nat->Nat) (hvl:∀ k,k<6->hv k<18446744073709551616) (B:Nat->TypeId->Prop) (w:World) (hR:Pg.AJ w Bs mb R hv) (h1:¬ B Bs 121) (h2:∀ t,¬ B mb t) (h3:∀ t,¬ B 5 t) (hB:∀ k t,B k t->k<w.heap.size\/t=138) :
  Fw Fence.wide n prog 233 #[Bs] (fun r:Nat=>#[Value.agg #[Pg.aK (R r)]]) (KpN B (w.heap.size+2)) (fun rs r=>Pg.isR r/\rs.length<=400/\∀ q∈rs,Pg.isR q) (fun xs=>xs=Pg.ga hv) (fun xs=>xs <+: Pg.ga hv) w:=fun l J Jx W hW hWs hJ hJx hY h0=>by
 have hRW:=hR.kp (B:=B) (KpM.below hW) h1 h2 h3;have hW1:KpM B W (W.alloc (.cells #[.func (.yield l) #[] #[]] 395)):=KpM.below ((MY _ W).alloc (MR _) _);have hy1:=NA W 395 (.func (.yield l) #[] #[]);have hJ1:J [] (W.alloc (.cells #[.func (.yield l) #[] #[]] 395)):=hJ.alloc _ h0;have hs1:W.heap.size+1=(W.alloc (.cells #[.func (.yield l) #[] #[]] 395)).heap.size:=zad;refine NX func233 rfl trivial ?_ rfl;simp only [ntmps233,List.size_toArray,List.length_cons,List.length_nil,Nat.reduceAdd,Nat.reduceSub,Array.replicate_succ,Array.replicate_zero,List.push_toArray,List.append_toArray,List.nil_append,List.cons_append];gi_wp2;have hR1:=hRW.kp hW1 h1 h2 h3;generalize W.alloc (.cells #[.func (.yield l) #[] #[]] 395)=W1 at *;refine wpIn_loop (fun a' w'=>∃ k Ds,Pg.RgF l Bs W k a' Ds/\k<=6/\J (Pg.jU hv k) w'/\KpN B (w.heap.size+2) W1 w'/\Ds.Nodup/\∀ D∈Ds,W1.heap.size<=D/\w'.heap[D]?=some (.deferred (some []))) (fun a' _=>6-(intOf (a'.tmps.getD 5 undef)).toNat) ?_ ?_
 ·exact ⟨0,[],⟨⟨_,_,_,_,_,_,_,_,_,_,_,_,_,_,_,_,_,_,_,_,_,_,_,_,rfl⟩,rfl⟩,zaa,hJ1,KpN.refl _ _ _,R6,fun D hD=>by cases hD⟩
 rintro ⟨tm,df⟩ wr ⟨k,Ds,⟨⟨u3,u4,u6,u7,u8,u9,u10,u11,u12,u13,u14,u15,u16,u17,u18,u19,u20,u21,u22,u23,u24,u25,u26,u27,htm⟩,hdf⟩,hk6,hJk,hKk,hnd,hDs⟩;dsimp only at htm hdf;subst htm hdf;have hRr:=hR1.kp hKk.1 h1 h2 h3;have hyr:=(Pg.KpM.bx hB hKk.1 hy1 hW.size).cell;have hn1:1<=n:=zaa;have hgr:∀ V:World,V.grownBy V.drew none:=fun V=>⟨rfl,rfl,rfl,MR _,fun _ _ _=>rfl⟩;have hJd:∀ xs V,J xs V->J xs V.drew:=fun xs V h=>hJ xs V V.drew none h (hgr V) (fun r e=>by cases e)
 by_cases hk:k=6
 ·subst hk;have hob:wr.drew.cell? Bs=_:=hRr.box.cell;have hoo:wr.drew.cell? ⟨mb,418,none⟩=_:=hRr.out;have hoy:wr.drew.cell? W=_:=hyr;obtain ⟨fn,tmps,assign,body,hy,hRo⟩:=hY (Pg.jU hv 6) 390 wr.drew (hJd _ _ hJk) ⟨.inr rfl,by have:=Pg.tC hv 6;omega,Pg.tz hv 6 (MR _)⟩;have hrv:∃ v,Pg.aK (R 390)=v:=⟨_,rfl⟩;obtain ⟨rv,hrv⟩:=hrv;rw [hrv] at hoo hy
  (try dsimp only at hy)
  gi_wp2;refine aV mB 5 zab zab zab ?_;simp only [List.take_succ_cons,List.take_zero,List.drop_succ_cons,List.drop_zero]
  repeat still_step
  refine Ov ?_;gi_wp2;refine hRo.mono ?_;rintro e V' (⟨rfl,hJ',hk'⟩ | ⟨rfl,hJ',hk'⟩)
  ·gi_wp2;refine iy (fun V=>J (Pg.ga hv) V) Ds V' hnd (fun D hD=>hk'.2.same D _ zbg (hDs D hD).2 rfl) (fun D V hD hV hd=>hJ.putObj _ hV zbg hd rfl) (fun V hV => ?_) hJ';exact ⟨_,N5 rfl _ _ _,⟨_,rfl⟩,.inl ⟨_,rfl,hV⟩⟩
  ·gi_wp2;refine iy (fun V=>Jx (Pg.ga hv) V) Ds V' hnd (fun D hD=>hk'.2.same D _ zbg (hDs D hD).2 rfl) (fun D V hD hV hd=>hJx.putObj _ hV zbg hd rfl) (fun V hV => ?_) hJ';exact ⟨_,N5 rfl _ _ _,⟨_,rfl⟩,.inr ⟨_,R1,hV⟩⟩
 ·have hk5:k<6:=zaa;have hk5':((k:Int)<6):=zaa;have hob:(wr.alloc (.cells #[(k:Int)] 3)).drew.cell? Bs=some (.pointer (some ⟨mb,27,none⟩)):=nL ((MY _ wr).alloc (MR _) _).drew hRr.box.cell;have hok:(wr.alloc (.cells #[(k:Int)] 3)).drew.cell? wr=some ↑(k:Int):=M0 _ _ 0 _ _ (0,0) (Na wr _);gi_wp2;refine aV mB 5 zab zab zab ?_;simp only [List.take_succ_cons,List.take_zero,List.drop_succ_cons,List.drop_zero]
  repeat still_step
  refine Ov ?_;gi_wp2_with (refine ⟨trivial,?_⟩;gi_at_call 234;refine (Nz.2 (mJ mb (28+k*65) _)).mono ?_;rintro e w9 ⟨rfl,hw9⟩;rw [hw9];clear hw9 w9);have hW3b:Below wr wr (((wr.alloc (.cells #[(k:Int)] 3)).alloc (.cells #[.pointer (some ⟨mb,28+k*65,none⟩)] 369)).drew):=(((MY _ wr).alloc (MR _) _).alloc zad _).drew;have hJ3:J (Pg.jU hv k) (((wr.alloc (.cells #[(k:Int)] 3)).alloc (.cells #[.pointer (some ⟨mb,28+k*65,none⟩)] 369)).drew):=hJd _ _ (hJ.alloc _ (hJ.alloc _ hJk));have ck:Boxed (((wr.alloc (.cells #[(k:Int)] 3)).alloc (.cells #[.pointer (some ⟨mb,28+k*65,none⟩)] 369)).drew) wr.heap.size 3 (.int .i64 k):=(NA wr 3 _).alloc _;have ch:(((wr.alloc (.cells #[(k:Int)] 3)).alloc (.cells #[.pointer (some ⟨mb,28+k*65,none⟩)] 369)).drew).cell? ⟨wr.heap.size+1,0,none⟩=some (.pointer (some ⟨mb,28+k*65,none⟩)):=by
   have e:(wr.alloc (.cells #[(k:Int)] 3)).heap.size=wr.heap.size+1:=zad;rw [<- e];exact M0 _ _ 0 _ _ (0,0) (show ((wr.alloc (.cells #[(k:Int)] 3)).alloc _).heap[(wr.alloc (.cells #[(k:Int)] 3)).heap.size]?=some _ from Na _ _)
  have hs3:(((wr.alloc (.cells #[(k:Int)] 3)).alloc (.cells #[.pointer (some ⟨mb,28+k*65,none⟩)] 369)).drew).heap.size=wr.heap.size+2:=zad;generalize ((wr.alloc (.cells #[(k:Int)] 3)).alloc (.cells #[.pointer (some ⟨mb,28+k*65,none⟩)] 369)).drew=W3 at *;have hK3:KpN B (w.heap.size+2) W1 W3:=hKk.tr (KpN.below hW3b);have hR3:=hR1.kp hK3.1 h1 h2 h3;have hws:=hKk.1.1;have hG3:5<W3.heap.size:=iu (hR3.tab 0 zac);have hmb3:mb<W3.heap.size:=iu hR3.out;refine Qb rfl hn1 (gf:=257) rfl trivial (Pe func257 zab rfl)
   (rM (n-1) zaa (wr.heap.size+1) mb (28+k*65) (hv k) (hvl k hk5) (fun A C=>TabAt 5 Lib.deBruijn64tab A->TabAt 5 Lib.deBruijn64tab C) (fun _ _ h=>h) W3 zaa hmb3 hG3 ch (hR3.held k hk5) hR3.tab)
   (fun h k x=>k (h x)) (fun V l o o' hl h hc hw x j hj=>((Po (n₀:=W3.heap.size) (MR _) V l o o' hl h hc hw).cell (p:=⟨5,j,none⟩) hG3).trans (x j hj)) (MY _ _) (fun _=>rfl)
   (fun ys V=>J (Pg.jU hv k++ys.map (fun x=>k*65+x.1)) V/\KpN B (w.heap.size+2) W3 V) (fun c ys V=>c = .ret/\Jx (Pg.jU hv k++ys.map (fun x=>k*65+x.1)) V/\KpN B (w.heap.size+2) W3 V)
   (NH (fun ys A C row h hg hr=>hJ _ A C row h hg (fun r e=>⟨zas,(hr r e).2⟩)) (KpN.own (MR _)))
   (fun c ys A C row h hg hr=>⟨h.1,hJx _ A C row h.2.1 hg (fun r e=>⟨zas,(hr r e).2⟩),KpN.own (MR _) () A C row h.2.2 hg hr⟩) ⟨by simpa using hJ3,KpN.refl _ _ _⟩
   (fun x a' _=>a'={ tmps:=#[.func (.yield l) #[] #[],.pointer (some ⟨Bs,0,none⟩),.pointer (some ⟨W.heap.size,0,none⟩),.pointer (some ⟨wr.heap.size,0,none⟩),.int .i64 x.1,.int .i64 k,.bool true,.int .i64 k,.pointer (some ⟨mb,27,none⟩),.int .i64 k,.pointer (some ⟨mb,27,none⟩),.pointer (some ⟨mb,28,none⟩),.pointer (some ⟨mb,28+k*65,none⟩),.func (.func 257) #[] #[.pointer (some ⟨wr.heap.size+1,0,none⟩)],.int .i64 x.1,u15,u16,u17,u18,u19,u20,u21,u22,u23,u24,u25,u26,u27,undef,undef,undef,undef,undef,undef],defers:=[] })
   (fun _ _ _ _ _ _ hs _ _=>hs) ?assign ?body ?done ?stop
  case assign =>
   intro l2 pre x V K hI hK;gi_wp2;exact hK _ _ (Oj _ _) (fun h=>h) hI rfl
  case body =>
   rintro l2 pre x a' V hl ⟨rl,hrl⟩ ⟨hJV,hKV⟩ rfl hpl;obtain ⟨hx64,hxb⟩:=Pg.fG.1 x.2;have hKV1:=hK3.tr hKV;have hRV:=hR1.kp hKV1.1 h1 h2 h3;have hir:Pg.isR (k*65+x.1) := .inl zaa;have vb:V.drew.cell? Bs=_:=hRV.box.cell;have vy:V.drew.cell? W=_:=(Pg.KpM.bx hB hKV1.1 hy1 hW.size).cell;have vk:V.drew.cell? wr=_:=(Pg.KpM.bx hB hKV.1 ck (by have:=hW.size;omega)).cell;have vr:V.drew.cell? ⟨mb,28+k*65+x.1,none⟩=_:=hRV.ring k x.1 hk5 hx64;obtain ⟨fn,tmps,assign,body,hy,hRo⟩:=hY _ (k*65+x.1) V.drew (hJd _ _ hJV) ⟨hir,by rw [Nj,Ng];have:=Pg.tC hv k;have:=Pg.uN (hv k);omega,fun q hq=>by
    rcases Nr.1 hq with hq | hq
    ·exact Pg.tz hv k hk6 q hq
    ·obtain ⟨y,_,rfl⟩:=NI.1 hq;have:=(Pg.fG.1 y.2).1;exact .inl zaa⟩
   obtain ⟨rv,hrv⟩:∃ v,Pg.aK (R (k*65+x.1))=v:=⟨_,rfl⟩;rw [hrv] at vr hy
   (try dsimp only at hy)
   have hx64':((x.1:Int)<64):=zaa;have hd1:1<=n-1-1:=zaa;gi_wp2;refine aV (dF l2) 10 zab zab zab ?_;simp only [List.take_succ_cons,List.take_zero,List.drop_succ_cons,List.drop_zero]
   repeat still_step
   refine Ov ?_;gi_wp2;refine (sS mB (dF l2) hRo).mono ?_;rintro e V' (⟨rfl,hJ',hk'⟩ | ⟨rfl,hJ',hk'⟩)
   ·have hk2:KpN B (w.heap.size+2) V V':=(KpN.below (MY _ V).drew).tr hk';gi_wp2;exact ⟨⟨hk2.2.size,fun i o hi ho hc=>hk2.2.same i o zaa ho hc⟩,Pg.KpM.tab hk2.1 h3,by rw [NW,<- OV];exact hJ',hKV.tr hk2⟩
   ·have hk2:KpN B (w.heap.size+2) V V':=(KpN.below (MY _ V).drew).tr hk';gi_wp2;exact ⟨⟨hk2.2.size,fun i o hi ho hc=>hk2.2.same i o zaa ho hc⟩,rfl,by rw [NW,<- OV];exact hJ',hKV.tr hk2⟩
  case done =>
   rintro D ys V hD hys ⟨hJV,hKV⟩ hdef;have hJn:J (Pg.jU hv (k+1)) V:=by
    rw [Pg.iI];unfold Pg.kE;rw [<- hys,PD];exact hJV
   have hK1:=hK3.tr hKV;have hnd':(D::Ds).Nodup:=Qt.2 ⟨fun h=>by
    have:=(MQ.1 (hDs D h).2).1;omega,hnd⟩
   have hD':∀ E∈D::Ds,W1.heap.size<=E/\V.heap[E]?=some (.deferred (some [])):=fun E hE=>by
    exact zdD
   gi_wp2;refine ⟨⟨k+1,D::Ds,⟨⟨_,_,_,_,_,_,_,_,_,_,_,_,_,_,_,_,_,_,_,_,_,_,_,_,rfl⟩,rfl⟩,zaa,hJn,hK1,hnd',hD'⟩,?_⟩;show 6-((k:Int)+1).toNat<6-(k:Int).toNat;omega
  case stop =>
   rintro D c pre V hD hSp ⟨rfl,hJV,hKV⟩ hdef;have hpre:=Pg.xR (hv:=hv) hk5 hSp;have hnd':(D::Ds).Nodup:=Qt.2 ⟨fun h=>by
    have:=(MQ.1 (hDs D h).2).1;omega,hnd⟩
   have hD':∀ E∈D::Ds,W1.heap.size<=E/\V.heap[E]?=some (.deferred (some [])):=fun E hE=>by
    exact zdD
   gi_wp2;refine iy (fun V=>Jx (Pg.jU hv k++pre.map (fun x=>k*65+x.1)) V) (D::Ds) V hnd' (fun E hE=>(hD' E hE).2) (fun E V hE hV hd=>hJx.putObj _ hV (by have:=(hD' E hE).1;omega) hd rfl) (fun V hV => ?_) hJV;exact ⟨_,N5 rfl _ _ _,⟨_,rfl⟩,.inr ⟨_,hpre,hV⟩⟩
theorem H6 (n:Nat) (hn:4<=n) (Bs mb:Nat) (R:Nat->List Pg.Nd) (hv:Nat->Nat) (hvl:∀ k,k<6->hv k<18446744073709551616) (B:Nat->TypeId->Prop) (w:World) (hR:Pg.AJ w Bs mb R hv) (h1:¬ B Bs 121) (h2:∀ t,¬ B mb t) (h3:∀ t,¬ B 5 t) (hB:∀ k t,B k t->k<w.heap.size\/t=138) :
  Fv Fence.wide n prog 233 #[Bs] (fun r:Nat=>#[Value.agg #[Pg.aK (R r)]]) (KpN B (w.heap.size+2)) (fun _ _=>True) (fun _ r=>Pg.isR r) (fun xs=>xs=Pg.ga hv) w:=fun l J W hW hWs hJ _ hY h0=>by
 refine (z7 n hn Bs mb R hv hvl B w hR h1 h2 h3 hB l J (fun _ _=>False) W hW hWs hJ (fun _ _ _ _ h _ _=>h) (fun xs x V hV hx => ?_) h0).mono ?_
 ·obtain ⟨fn,tmps,asg,bd,hy,hRo⟩:=hY xs x V hV hx.1;exact ⟨fn,tmps,asg,bd,hy,hRo.mono fun e V' h => .inl h⟩
 ·rintro e V ⟨hv,h | ⟨_,_,h⟩⟩
  ·exact ⟨hv,h⟩
  ·exact h.elim
theorem wi (w:World) (mb o s:Nat) (l:List Pg.Nd) (n:Nat) (x:Pg.Tn) (v:Value) (h:Nat) (hs:s<64) (hh:h<18446744073709551616) (hc:w.cell? ⟨mb,o+s,none⟩=some (Pg.aK l)) (hfz:∀ i,w.frozen? ⟨mb,i,none⟩=false) (hd:w.cell? ⟨mb,o+64,none⟩=some (.int .u64 h)) (hR:Pg.cA w l) (hn:w.heap[n]?=some (.cells (Pg.et x v) 278 (0,0))) (hnl:n ∉ l.map (·.1)) (hcn:mb≠n) (hcl:mb ∉ l.map (·.1)) :
  () 203 #[.pointer (some ⟨mb,o,none⟩),(s:Int),n] w fun e w'=>e = .returned (.tuple #[])/\w'=(Pg.ef w ⟨mb,o+s,none⟩ l n).drew.setCell ⟨mb,o+64,none⟩ (.int .u64 (Pg.iq h s false)):=by
 have hp:=mq w mb (o+s) l n x v hc (hfz _) hR hn hnl hcn hcl;have hc1:∀ j,(Pg.ef w ⟨mb,o+s,none⟩ l n).cell? ⟨mb,j,none⟩=if j=o+s then some (Pg.ndP n) else w.cell? ⟨mb,j,none⟩:=fun j=>by
  have hset:∀ (W:World) (b:Nat) (u:Value),mb≠b->(W.setCell ⟨b,3,none⟩ u).cell? ⟨mb,j,none⟩=W.cell? ⟨mb,j,none⟩:=fun W b u hb=>az zcr;unfold Pg.ef;cases hz:l.getLast? with
  | none =>
   dsimp only;by_cases e:j=o+s
   ·subst e;rw [M6 rfl];exact PB _ _ _ ((hset _ _ _ hcn).trans hc)
   ·rw [M4 e,az zcn,hset _ _ _ hcn]
  | some z =>
   have hzl:mb≠z.1:=fun e=>hcl (NI.2 ⟨z,O2 hz,e.symm⟩);dsimp only;by_cases e:j=o+s
   ·subst e;rw [M6 rfl];exact zeE
   ·rw [M4 e,az zcn,hset _ _ _ hzl,hset _ _ _ hcn]
 have hr1:=hc1 (o+s);rw [M6 rfl] at hr1;have hd1:=hc1 (o+64);rw [M4 zaa,hd] at hd1;have hf1:(Pg.ef w ⟨mb,o+s,none⟩ l n).frozen? ⟨mb,o+64,none⟩=false:=by
  unfold Pg.ef;cases l.getLast? <;> simp only [World.frozen?_setCell] <;> exact hfz _
 have hm:=so (Pg.ef w ⟨mb,o+s,none⟩ l n) mb o s (l++[(n,x)]) h hs hh (by rw [hr1,Pg.nA]) hd1 hf1;rw [show (l++[(n,x)]).isEmpty=false by simp] at hm;generalize Pg.ef w ⟨mb,o+s,none⟩ l n=W1 at *;clear hR hn hnl hcl hc1 hr1 hd1 hf1 hc hd hfz;go_enter func203,ntmps203;go_wp2_with (first
  | (go_at_call 202;refine hp.mono ?_;rintro e w9 ⟨rfl,hw9⟩;rw [hw9];clear hw9 w9)
  | (go_at_call 198;refine hm.mono ?_;rintro e w9 ⟨rfl,hw9⟩;rw [hw9];clear hw9 w9))
 go_end0;exact ⟨rfl,rfl⟩
namespace Pg
theorem eJ (now t:Nat):aL now t<=6:=Nat.min_le_right _ _
theorem fg (now t:Nat):fK now t<64:=Nat.mod_lt _ zac
def place (now t:Nat):Nat:=if aL now t=6 then 390 else aL now t*65+fK now t
theorem fJ (now t:Nat):isR (place now t):=by
 have:=eJ now t;have:=fg now t;unfold place isR;split <;> omega
structure WhM (W:World) (lo:Pg.Lo) (s:MSt) (R:Nat->List Nd):Prop where
 rgs:cX W lo s.wh R
 held:jX s.wh R
theorem au.whc (h:au W lo mb pb qv s) (i:Nat) (h1:28<=i) (h2:i<419):W.cell? ⟨mb,i,none⟩=some (s.wh i):=by
 rw [h.cell i zaa];unfold eR;rw [M4 zaa,M4 zaa,M4 zaa,M4 zaa,M4 zaa,M6 h2]
end Pg
theorem J7 (w:World) (lo:Pg.Lo) (mb pb:Nat) (qv:Value) (s:Pg.MSt) (R:Nat->List Pg.Nd) (n:Nat) (x:Pg.Tn) (v:Value) (hM:Pg.au w lo mb pb qv s) (hW:Pg.WhM w lo s R) (hls:lo<=w.heap.size) (hnow:s.now<18446744073709551616) (hxt:x.t<18446744073709551616) (hn:w.heap[n]?=some (.cells (Pg.et x v) 278 (0,0))) (hnl:∀ q,Pg.isR q->∀ y∈R q,y.1≠n) (hlo:lo.ok n) :
  () 161 #[.pointer (some ⟨mb,27,none⟩),n] w fun e w'=>e = .returned (.tuple #[])/\∃ wh',Pg.au w' lo mb pb qv { s with wh:=wh' }/\Pg.WhM w' lo { s with wh:=wh' } (Pg.upd R (Pg.place s.now x.t) (R (Pg.place s.now x.t)++[(n,x)]))/\Pg.Rw lo w w':=by
 have hn0:w.cell? n=some (.int .u64 x.t):=zaX;have hc27:w.cell? ⟨mb,27,none⟩=some (.int .u64 s.now):=hM.cell 27 zac;have hsp:=oO w mb 27 s.now x.t hnow hxt hc27;have hr:=Pg.fJ s.now x.t;have hmn:=hM.typ hn;have hty:∀ q,Pg.isR q->mb ∉ (R q).map (·.1):=fun q hq e=>by
  exact zeb
 have hnr:∀ q,Pg.isR q->n ∉ (R q).map (·.1):=fun q hq e=>by
  obtain ⟨y,hy,e⟩:=NI.1 e;exact hnl q hq y hy e
 have hKl:=Pg.eJ s.now x.t;have hSl:=Pg.fg s.now x.t;have hpl:Pg.place s.now x.t=if Pg.aL s.now x.t=6 then 390 else Pg.aL s.now x.t*65+Pg.fK s.now x.t:=rfl;generalize Pg.place s.now x.t=r at *;generalize Pg.aL s.now x.t=K at *;generalize Pg.fK s.now x.t=S at *;by_cases hK:K=6
 ·subst hK;rw [M6 rfl] at hpl;subst hpl;have H:Hid (∀ w9,Below w w w9->() 202 #[.pointer (some ⟨mb,418,none⟩),n] w9 fun e w'=>e = .returned (.tuple #[])/\∃ wh',Pg.au w' lo mb pb qv { s with wh:=wh' }/\Pg.WhM w' lo { s with wh:=wh' } (Pg.upd R 390 (R 390++[(n,x)]))/\Pg.Rw lo w w'):=fun w9 hb=>by
   have hM9:=hM.below hb;have hR9:=hW.rgs.below hb;have hn9:=(hb.block n (MQ.1 hn).1).trans hn;refine (mq w9 mb 418 (R 390) n x v ((hM9.whc 418 zaa zaa).trans (congrArg some (hR9.ring 390 hr))) (hM9.frozen _) (hR9.nds 390 hr) hn9 (hnr 390 hr) hmn (hty 390 hr)).mono ?_;rintro e w' ⟨rfl,rfl⟩;obtain ⟨a,b,c⟩:=hR9.push (r:=390) hM9 hr (MX hls hb.size) hn9 hnl hlo;refine ⟨rfl,_,a,⟨b,fun k hk => ?_⟩,(Pg.RfE.of hb hls).trans c⟩;exact zdC
  clear hW hM hty hnr hnl hn hlo hr hmn;exact zdh
 ·rw [M4 hK] at hpl;subst hpl;have hK5:K<6:=by omega
  have hKb:((K:Int) == 6)=false:=zae;have H:Hid (∀ w9,Below w w w9->() 203 #[.pointer (some ⟨mb,28+K*65,none⟩),(S:Int),n] w9 fun e w'=>e = .returned (.tuple #[])/\∃ wh',Pg.au w' lo mb pb qv { s with wh:=wh' }/\Pg.WhM w' lo { s with wh:=wh' } (Pg.upd R (K*65+S) (R (K*65+S)++[(n,x)]))/\Pg.Rw lo w w'):=fun w9 hb=>by
   have hM9:=hM.below hb;have hR9:=hW.rgs.below hb;have hn9:=(hb.block n (MQ.1 hn).1).trans hn;obtain ⟨h,h1,h2,h3⟩:=hW.held K hK5;refine (wi w9 mb (28+K*65) S (R (K*65+S)) n x v h hSl h1 zb3 (fun i=>hM9.frozen i) zb5 (hR9.nds _ hr) hn9 (hnr _ hr) hmn (hty _ hr)).mono ?_;rintro e w' ⟨rfl,rfl⟩;obtain ⟨a,b,c⟩:=hR9.push (r:=K*65+S) hM9 hr (MX hls hb.size) hn9 hnl hlo;rw [On 28 (K*65) S];obtain ⟨a2,b2,c2⟩:=b.mark a K hK5 (.int .u64 (Pg.iq h S false)) (MX hls (MX hb.size c.bel.size));refine ⟨rfl,_,a2,⟨b2,fun k hk => ?_⟩,(Pg.RfE.of hb hls).trans (c.trans c2)⟩;exact zc2
  clear hW hM hty hnr hnl hn hlo hr hmn;exact zdl
namespace Pg
def fm (W:World) (lo:Pg.Lo) (s:MSt) (T:List Tn):Prop:=∃ R,WhM W lo s R/\(∀ r,isR r->(R r).map (·.2)=T.filter (fun t=>place s.now t.t == r))/\∀ t∈T,t.t<18446744073709551616
theorem fm.kd (h:fm W lo s T) (hk:Kd E W W') (hE:¬ E 278) (h1:s'.wh=s.wh) (h2:s'.now=s.now):fm W' lo s' T:=by
 obtain ⟨R,a,b,c⟩:=h;refine ⟨R,⟨by rw [h1];exact a.rgs.kd hk hE,by rw [h1];exact a.held⟩,by rw [h2];exact b,c⟩
theorem fm.below (h:fm W lo s T) (hb:Below W W W'):fm W' lo s T:=h.kd (bD (E:=fun _=>False) hb) (fun h=>h) rfl rfl
theorem fm.rq {lo':Pg.Lo} (h:fm W lo s T) (hk:Rq lo' W W') (h1:s'.wh=s.wh) (h2:s'.now=s.now):fm W' lo s' T:=h.kd hk.kd (by unfold Mq;decide) h1 h2
def atF (now d:Nat):Nat:=if now+d<18446744073709551616 then now+d else 18446744073709551615
end Pg
theorem IT (w:World) (lo:Pg.Lo) (mb pb:Nat) (qv:Value) (s:Pg.MSt) (T:List Pg.Tn) (d:Nat) (ev nm:ByteArray) (hM:Pg.au w lo mb pb qv s) (hT:Pg.fm w lo s T) (hls:lo<=w.heap.size) (hnow:s.now<18446744073709551616) (hd:d<18446744073709551616) :
  () 374 #[.pointer (some ⟨mb,27,none⟩),.int .u64 d,.agg #[ev,nm]] w fun e w'=>e = .returned (.tuple #[])/\∃ wh',Pg.au w' lo mb pb qv { s with wh:=wh' }/\Pg.fm w' lo { s with wh:=wh' } (T++[⟨Pg.atF s.now d,ev,nm⟩])/\Pg.Rw lo w w':=by
 have hc27:w.cell? ⟨mb,27,none⟩=some (.int .u64 s.now):=hM.cell 27 zac;have hml:=hM.lt;have hatl:Pg.atF s.now d<18446744073709551616:=by unfold Pg.atF;split <;> omega
 have hb1:∀ (o1 o2:Obj),Below w w ((w.alloc o1).alloc o2):=fun o1 o2=>((MY _ w).alloc (MR _) _).alloc zad _;have H:Hid (∀ o1:Obj,() 161 #[.pointer (some ⟨mb,27,none⟩),↑(w.heap.size+1)] ((w.alloc o1).alloc (.cells #[.int .u64 (Pg.atF s.now d),ev,nm,.pointer none] 278)) fun e w'=>e = .returned (.tuple #[])/\∃ wh',Pg.au w' lo mb pb qv { s with wh:=wh' }/\Pg.fm w' lo { s with wh:=wh' } (T++[⟨Pg.atF s.now d,ev,nm⟩])/\Pg.Rw lo w w'):=fun o1=>by
  obtain ⟨R,hW,hF,hB⟩:=hT;have hb:=hb1 o1 (.cells #[.int .u64 (Pg.atF s.now d),ev,nm,.pointer none] 278);have hnew:=bR w o1 (.cells #[.int .u64 (Pg.atF s.now d),ev,nm,.pointer none] 278);refine (J7 _ lo mb pb qv s R (w.heap.size+1) ⟨Pg.atF s.now d,ev,nm⟩ (.pointer none) (hM.below hb) ⟨hW.rgs.below hb,hW.held⟩ (MX hls hb.size) hnow hatl hnew (fun q hq y hy e => ?_) (lo.new _ (MX hM.sz zaa))).mono ?_
  ·obtain ⟨i,hi⟩:=Nu.1 hy;have:=(MQ.1 (hW.rgs.nds q hq i y hi)).1;omega
  ·rintro e w' ⟨rfl,wh',a,b,c⟩;refine ⟨rfl,wh',a,⟨_,b,fun r hr => ?_,fun t ht => ?_⟩,(Pg.RfE.of hb hls).trans c⟩
   ·dsimp only;rw [ON];by_cases e:r=Pg.place s.now (Pg.atF s.now d)
    ·subst e;rw [Pg.aC,NW,hF _ hr];simp
    ·rw [Pg.aG _ _ e,hF r hr];have:(Pg.place s.now (Pg.atF s.now d) == r)=false:=by simpa using fun h=>e h.symm
     simp [this]
   ·rcases Nr.1 ht with ht | ht
    ·exact hB t ht
    ·rw [M8.1 ht];exact hatl
 clear hT hM hatl hb1;by_cases hwr:s.now+d<18446744073709551616
 ·have hat:Pg.atF s.now d=s.now+d:=by unfold Pg.atF;rw [M6 hwr]
  rw [hat] at H ⊢;have hmod:IntKind.u64.wrap ((s.now:Int)+(d:Int))=((s.now+d:Nat):Int):=by rw [Qd];omega
  have hlt:¬ (((s.now+d:Nat):Int)<(s.now:Int)):=zaa;exact zdy
 ·have hat:Pg.atF s.now d=18446744073709551615:=by unfold Pg.atF;rw [M4 hwr]
  rw [hat] at H ⊢;have hmod:IntKind.u64.wrap ((s.now:Int)+(d:Int))=((s.now+d-18446744073709551616:Nat):Int):=by rw [Qd];omega
  have hlt:((s.now+d-18446744073709551616:Nat):Int)<(s.now:Int):=zaa;generalize s.now+d-18446744073709551616=q at *;exact zdy
attribute [local go_sem] NR
theorem vH (mb o:Nat) (w:World):() 205 #[.pointer (some ⟨mb,o,none⟩)] w fun e w'=>e = .returned (.func (.func 233) #[] #[w])/\w'=w.alloc (.cells #[.pointer (some ⟨mb,o,none⟩)] 121):=by
 go_enter func205,ntmps205;exact zfp
theorem AE (a:Int):wrap64 (wrap64 a+1)=wrap64 (a+1):=by unfold wrap64;omega
namespace Pg
def fO (R:Nat->List Nd) (xs:List Nat):Nat:=(xs.map fun r=>(R r).length).sum
theorem ph (R:Nat->List Nd) (xs:List Nat) (r:Nat):fO R (xs++[r])=fO R xs+(R r).length:=by unfold fO;simp
end Pg
theorem Ev (w:World) (mb:Nat) (R:Nat->List Pg.Nd) (hv:Nat->Nat) (hvl:∀ k,k<6->hv k<18446744073709551616) (hR:∀ Bs V,Below w w V->Boxed V Bs 121 (.pointer (some ⟨mb,27,none⟩))->Pg.AJ V Bs mb R hv) (hN:∀ r,Pg.isR r->Pg.cA w (R r)) (hnd:∀ r,Pg.isR r->((R r).map (·.1)).Nodup) (hmb:mb<w.heap.size) (hg:5<w.heap.size) :
  () 323 #[.pointer (some ⟨mb,27,none⟩)] w fun e w'=>e = .returned (.int .i64 (wrap64 (Pg.fO R (Pg.ga hv):Nat)))/\Below w w w':=by
 refine (Nz (n:=9)).1 ?_;refine NX func323 rfl trivial ?_ rfl;simp only [ntmps323,List.size_toArray,List.length_cons,List.length_nil,Nat.reduceAdd,Nat.reduceSub,Array.replicate_succ,Array.replicate_zero,List.push_toArray,List.append_toArray,List.nil_append,List.cons_append];gi_wp2_with (refine ⟨trivial,?_⟩;gi_at_call 205;refine (Nz.2 (vH mb 27 _)).mono ?_;rintro e w9 ⟨rfl,hw9⟩;rw [hw9];clear hw9 w9);have b0:=(NA w 3 (.int .i64 0)).alloc (.cells #[.pointer (some ⟨mb,27,none⟩)] 121);have b1:=NA (w.alloc (.cells #[(0:Int)] 3)) 121 (.pointer (some ⟨mb,27,none⟩));simp only [World.size_alloc] at b1;have hB0:Below w w ((w.alloc (.cells #[(0:Int)] 3)).alloc (.cells #[.pointer (some ⟨mb,27,none⟩)] 121)):=((MY _ w).alloc (MR _) _).alloc zad _;have hs0:((w.alloc (.cells #[(0:Int)] 3)).alloc (.cells #[.pointer (some ⟨mb,27,none⟩)] 121)).heap.size=w.heap.size+2:=zad;generalize (w.alloc (.cells #[(0:Int)] 3)).alloc (.cells #[.pointer (some ⟨mb,27,none⟩)] 121)=W0 at *;have hsh:∀ r,Pg.aK (R r) = .pointer none\/∃ b,Pg.aK (R r) = .pointer (some ⟨b,0,none⟩):=fun r=>by
  unfold Pg.aK;cases (R r).getLast? with
  | none=>exact .inl rfl
  | some z=>exact .inr ⟨z.1,rfl⟩
 have hW0:wrap64 ((Pg.fO R []:Nat):Int)=0:=by unfold Pg.fO wrap64;simp
 have b0:Boxed W0 w 3 (.int .i64 (wrap64 ((Pg.fO R []:Nat):Int))):=by rw [hW0];exact b0
 clear hW0;refine sM rfl zaa (gf:=233) rfl trivial (Pe func233 zab rfl)
  (H6 8 zaa (w.heap.size+1) mb R hv hvl (fun k _=>k=w.heap.size) W0 (hR _ W0 hB0 b1) zaa (fun _=>zaa) (fun _=>zaa) (fun k _ h => .inl zaa))
  KpN.tr (fun V o o' h ho=>KpN.put zaa V o o' h ho) (fun _=>rfl)
  (fun xs V=>Boxed V w 3 (.int .i64 (wrap64 (Pg.fO R xs:Nat)))/\Below w w V/\W0.heap.size<=V.heap.size)
  (NH (Oo (Og _ _ _) _) (NH (OX (MR _) zaa) (fun _ _ _ _ h hg _=>MX h hg.size)))
  (fun _ _ _=>trivial) ⟨b0,hB0,MR _⟩
  (fun r a' V=>∃ b,a'={ tmps:=#[.pointer (some ⟨mb,27,none⟩),undef,.int .i64 0,.pointer (some ⟨w.heap.size,0,none⟩),.pointer (some ⟨b,0,none⟩),.pointer (some ⟨mb,27,none⟩),.func (.func 233) #[] #[.pointer (some ⟨w.heap.size+1,0,none⟩)],.agg #[Pg.aK (R r)],undef,undef,undef,undef,undef,undef],defers:=[] }/\Boxed V b 80 (Pg.aK (R r))/\w.heap.size+2<=b)
  (fun r a' u A C row h hg hr=>by
   obtain ⟨b,e,hb,hl⟩:=h;exact ⟨b,e,Oo (Og (β:=Unit) b 80 (fun _=>Pg.aK (R r))) _ () A C row hb hg hr,hl⟩)
  ?assign ?body ?done
 case assign =>
  intro l xs r V K hI hK;have hVs:=hI.2.1.size;have hk2:∀ rv:Value,Pg.aK (R r)=rv->K _ (V.alloc (.cells #[rv] 80)):=fun rv e=>hK _ _ ((RM _ _).from _) (KpN.below ((MY _ V).alloc (MR _) _)) ⟨hI.1.alloc _,hI.2.1.alloc hVs _,by have:=hI.2.2;simp;omega⟩ ⟨V.heap.size,rfl,e ▸ NA V _ _,by have:=hI.2.2;omega⟩;exact zd1
 case body =>
  rintro l xs r a' V hl ⟨rl,hrl⟩ hir ⟨hc,hB,hsV⟩ ⟨b,rfl,hb,hbl⟩;have hbc:=hb.cell;have hVs:=hB.size;have hd1:1<=9-1-1:=zaa;obtain ⟨rv,hrv⟩:∃ rv,Pg.aK (R r)=rv:=⟨_,rfl⟩;have hshr:=hsh r;have hno:=mg rv V (hrv ▸ hshr);rw [hrv] at hbc ⊢;gi_wp2_with (refine ⟨trivial,?_⟩;gi_at_call 160;refine (aH hno).mono ?_;rintro e w9 ⟨rfl,hw9⟩;rw [hw9];clear hw9 w9);have hr':(V.alloc (.cells #[rv] 80)).heap[l]?=some (.loop rl):=(N9 V _ l (MQ.1 hrl).1).trans hrl;have bx:(V.alloc (.cells #[rv] 80)).cell? V=some rv:=M0 _ _ 0 _ _ (0,0) (Na V _);have hBV:Below V V (V.alloc (.cells #[rv] 80)):=(MY _ V).alloc (MR _) _;have hBa:=hB.trans (hBV.mono hVs);have hca:=hc.alloc (.cells #[rv] 80);have hsa:(V.alloc (.cells #[rv] 80)).heap.size=V.heap.size+1:=zad;generalize V.alloc (.cells #[rv] 80)=V2 at *;have hNl:∀ x∈R r,x.1<w.heap.size:=fun x hx=>by
   obtain ⟨i,hi⟩:=Nu.1 hx;exact (MQ.1 (hN r hir i x hi)).1
  have hN2:Pg.cA V2 (R r):=fun i x hx=>(hBa.block x.1 (hNl x (Nc hx))).trans (hN r hir i x hx);refine wpIn_rangeFunc_ownN (l₀:=l) (r₀:=rl) rfl hr' hd1 (gf:=200) rfl trivial (Pe func200 zab rfl)
   ((p9 (9-1-1-1) zaa V.heap.size (R r) (hnd r hir) (fun k _=>k=w.heap.size) V2 (bx.trans (congrArg some hrv.symm)) hN2 (fun _=>zaa) (fun x hx _=>by have:=hNl x hx;omega)).inRound l)
   KpM.tr (fun V l o o' _ h hc _=>KpM.put V l o o' h hc) (MY _ _) (fun _=>rfl)
   (fun ys U=>(Boxed U w 3 (.int .i64 (wrap64 ((Pg.fO R xs+ys.length:Nat):Int)))/\Below w w U)/\KpN (fun k _=>k=w.heap.size) (W0.heap.size+2) V U/\KeepsFrom W0.heap.size V U) (fun _ _ _=>False)
   (NH (NH (Oo (Og _ _ _) _) (OX (MR _) zaa)) (NH (KpN.own zaa) (RL zaa)))
   (fun _ _ _ _ _ hs _ _=>hs) ⟨⟨by simpa using hca,hBa⟩,KpN.below hBV,(Pg.ed hBV).from _⟩
   (fun x a' _=>a'={ tmps:=#[.pointer (some ⟨mb,27,none⟩),undef,(0:Int),w,b,.pointer (some ⟨mb,27,none⟩),.func (.func 233) #[] #[↑(w.heap.size+1)],.agg #[rv],.agg #[rv],.func (.func 200) #[] #[V],.pointer (some ⟨x.1,0,none⟩),undef,undef,undef],defers:=[] })
   (fun _ _ _ _ _ _ hs _ _=>hs) ?assign2 ?body2 ?done2 ?stop2
  case assign2 =>
   rintro l2 ys x U K hi hK;gi_wp2;exact hK _ _ (Oj _ _) (KpM.refl _ _) hi rfl
  case body2 =>
   rintro l2 ys x a' U _ _ ⟨⟨hcU,hBU⟩,hkU,hkf⟩ rfl _;have cc:=hcU.cell;have cf:=hcU.frozen;have hset:=hcU.set (.int .i64 (wrap64 ((Pg.fO R xs+(ys++[x]).length:Nat):Int)));have hwr:=AE ((Pg.fO R xs+ys.length:Nat):Int);rw [show ((Pg.fO R xs+ys.length:Nat):Int)+1=((Pg.fO R xs+(ys++[x]).length:Nat):Int) by simp;omega] at hwr;obtain ⟨c2,hc2⟩:∃ c,Pg.fO R xs+(ys++[x]).length=c:=⟨_,rfl⟩;obtain ⟨c1,hc1⟩:∃ c,Pg.fO R xs+ys.length=c:=⟨_,rfl⟩;rw [hc2] at hset hwr;rw [hc1] at hwr cc hcU;have HC:Hid _:=hc2;clear hc1 hc2;obtain ⟨q2,hq2⟩:∃ q,wrap64 (c2:Int)=q:=⟨_,rfl⟩;obtain ⟨q1,hq1⟩:∃ q,wrap64 (c1:Int)=q:=⟨_,rfl⟩;rw [hq1] at hwr cc;rw [hq2] at hwr hset;rw [hq1] at hcU;have HQ:Hid (wrap64 (c2:Int)=q2):=hq2;clear hq1 hq2;gi_wp2;refine ⟨(N0 _ _ _).from _,KpM.set U _ _ (fun _=>rfl),⟨?_,hBU.setCell (p:=⟨w,0,none⟩) zad _⟩,hkU.tr (KpN.set U _ _ (fun _=>rfl)),hkf.trans ((N0 _ _ _).from _)⟩;show Boxed _ _ _ (.int .i64 (wrap64 ((Pg.fO R xs+(ys++[x]).length:Nat):Int)));rw [HC.out,HQ.out];exact hset
  case done2 =>
   rintro ys U hys ⟨⟨hcU,hBU⟩,hkU,hkf⟩;subst hys;have hcn:Pg.fO R (xs++[r])=Pg.fO R xs+(R r).length:=Pg.ph R xs r;gi_wp2;exact ⟨hkf,hkU,by rw [hcn];exact hcU,hBU,MX hsV hkU.1.1⟩
  case stop2 =>
   rintro c pre U _ h;exact h.elim
 case done =>
  rintro D xs V hD hS ⟨hc,hB,_⟩ hdef;subst hS;have hc:=hc.cell;gi_wp2;refine ⟨zad,.inl ⟨_,_,rfl,NP hdef,?_⟩⟩;exact ⟨_,Ra rfl _ _ _,rfl,hB.trans (Po (w:=w) (MR _) V D _ _ zaa hdef rfl rfl)⟩
namespace Pg
theorem qg (f:Nat->Nat) (q:Nat->Bool):∀ L:List Nat,(∀ s∈L,q s=false->f s=0)->((L.filter q).map f).sum=(L.map f).sum
 | [],_=>rfl
 | s::L,h=>by
  have ih:=qg f q L (fun x hx=>h x (NL _ hx));cases hq:q s
  ·rw [OS (by rw [hq];decide),ih,Pj,Q7,h s (NK ..) hq];omega
  ·rw [OT hq,Pj,Q7,ih,Pj,Q7]
def kK (k:Nat):List Nat:=(List.range k).flatMap fun k=>(List.range 64).map (k*65 + ·)
def wC:List Nat:=kK 6++[390]
theorem AQ (k:Nat):kK (k+1)=kK k++(List.range 64).map (k*65 + ·):=by
 unfold kK;rw [QO (n:=k),NQ,QY]
theorem AP:wC.Nodup:=zaS
theorem GW (h:isR r):r∈wC:=by
 unfold wC kK
 rcases h with ⟨h1,h2⟩ | rfl
 ·refine Rc _ (Pv.2 ⟨r / 65,Od.2 zaa,NI.2 ⟨r % 65,Od.2 zaa,zaa⟩⟩)
 ·exact List.mem_append_right _ (M8.2 rfl)
theorem Dr (x:Nat):∀ L:List Nat,L.Nodup->(L.map fun r=>if x == r then 1 else 0).sum=if x∈L then 1 else 0
 | [],_=>rfl
 | r::L,h=>by
  obtain ⟨h1,h2⟩:=Qt.1 h;rw [Pj,Q7,Dr x L h2];by_cases e:x=r
  ·subst e;simp [h1]
  ·have:(x == r)=false:=by simpa using e
   simp [this,e]
theorem sum_add (f g:Nat->Nat):∀ L:List Nat,(L.map fun r=>f r+g r).sum=(L.map f).sum+(L.map g).sum
 | []=>rfl
 | r::L=>by
  simp only [List.map_cons,List.sum_cons,sum_add f g L];omega
theorem Aj:∀ L:List Nat,(L.map fun _=>0).sum=0
 | []=>rfl
 | _::L=>by rw [Pj,Q7,Aj L]
theorem tg (p:Tn->Nat) (L:List Nat) (hn:L.Nodup):∀ T:List Tn,(∀ t∈T,p t∈L)->(L.map fun r=>(T.filter fun t=>p t == r).length).sum=T.length
 | [],_=>Aj L
 | t::T,h=>by
  have ih:=tg p L hn T (fun x hx=>h x (NL _ hx));have e:(fun r=>((t::T).filter fun t=>p t == r).length)=fun r=>(if p t == r then 1 else 0)+(T.filter fun t=>p t == r).length:=by
   funext r;cases hp:p t == r
   ·rw [OS (by rw [hp];decide)];simp
   ·rw [OT (p:=fun t=>p t == r) hp,Oa,M6 rfl];omega
  rw [e,sum_add,ih,Dr _ L hn,M6 (h t (NK ..)),Oa];omega
theorem pW (R:Nat->List Nd) (a b:List Nat):fO R (a++b)=fO R a+fO R b:=by
 unfold fO;rw [NW,R3]
theorem DZ (h:∀ s,s<64->(hv k).testBit s = !(R (k*65+s)).isEmpty):fO R (kE hv k)=fO R ((List.range 64).map (k*65 + ·)):=by
 unfold fO kE eE;rw [PD,PD];refine qg _ _ _ (fun s hs hb => ?_);rw [h s (Od.1 hs)] at hb;show (R (k*65+s)).length=0;simpa using hb
theorem yE {R:Nat->List Nd} {hv:Nat->Nat} (h:∀ k,k<6->∀ s,s<64->(hv k).testBit s = !(R (k*65+s)).isEmpty):∀ k,k<=6->fO R (jU hv k)=fO R (kK k)
 | 0,_=>rfl
 | k+1,hk=>by rw [iI,AQ,pW,pW,yE h k zaa,DZ (h k zaa)]
theorem fm.count (hW:WhM W lo s R) (hF:∀ r,isR r->(R r).map (·.2)=T.filter (fun t=>place s.now t.t == r)):∃ hv:Nat->Nat,(∀ k,k<6->hv k<18446744073709551616)/\(∀ k,k<6->s.wh (28+(k*65+64)) = .int .u64 (hv k))/\fO R (ga hv)=T.length:=by
 have hh:∀ k,∃ h:Nat,k<6->h<18446744073709551616/\s.wh (28+(k*65+64)) = .int .u64 h/\∀ j,j<64->h.testBit j = !(R (k*65+j)).isEmpty:=fun k=>by
  by_cases hk:k<6
  ·obtain ⟨h,a⟩:=hW.held k hk;exact ⟨h,fun _=>a⟩
  ·exact ⟨0,fun h=>absurd h hk⟩
 refine ⟨fun k=>(hh k).choose,fun k hk=>((hh k).choose_spec hk).1,fun k hk=>((hh k).choose_spec hk).2.1,?_⟩;have h6:=yE (R:=R) (hv:=fun k=>(hh k).choose) (fun k hk=>((hh k).choose_spec hk).2.2) 6 zaa;unfold ga;rw [ph,h6,<- ph];have e:fO R (kK 6++[390])=(wC.map fun r=>(T.filter fun t=>place s.now t.t == r).length).sum:=by
  unfold fO wC
  congr 1
  refine Rs (fun r hr => ?_);have hir:isR r:=by
   rcases Nr.1 hr with hr | hr
   ·unfold kK at hr;obtain ⟨k,hk,hr⟩:=Pv.1 hr;obtain ⟨j,hj,rfl⟩:=NI.1 hr;have:=Od.1 hk;have:=Od.1 hj;exact .inl zaa
   ·exact .inr (M8.1 hr)
  rw [<- hF r hir,Ng]
 rw [e];exact tg (fun t=>place s.now t.t) wC AP T (fun t _=>GW (fJ _ _))
end Pg
theorem JN (w:World) (lo:Pg.Lo) (mb pb:Nat) (qv:Value) (s:Pg.MSt) (T:List Pg.Tn) (hM:Pg.au w lo mb pb qv s) (hT:Pg.fm w lo s T) (hl:T.length<=1000) (hg:5<w.heap.size) (hG:TabAt 5 Lib.deBruijn64tab w) :
  () 323 #[.pointer (some ⟨mb,27,none⟩)] w fun e w'=>e = .returned (T.length:Int)/\Below w w w':=by
 obtain ⟨R,hW,hF,_⟩:=hT;obtain ⟨hv,v1,v2,v3⟩:=Pg.fm.count hW hF;have h:=Ev w mb R hv v1 (fun Bs V hb hc => ?_) (fun r hr=>hW.rgs.nds r hr) (fun r hr=>hW.rgs.nod r hr) hM.lt hg
 ·rw [v3,show wrap64 (T.length:Int)=(T.length:Int) by unfold wrap64;omega] at h;exact h
 ·have c:∀ i,28<=i->i<419->V.cell? ⟨mb,i,none⟩=some (s.wh i):=fun i h1 h2=>(hb.cell (p:=⟨mb,i,none⟩) hM.lt).trans (hM.whc i h1 h2);refine ⟨hc,fun k hk => ?_,fun k j hk hj => ?_,?_,fun j hj=>(hb.cell (p:=⟨5,j,none⟩) hg).trans (hG j hj)⟩
  ·rw [On,c _ zaa zaa,v2 k hk]
  ·rw [On,c _ zaa zaa,hW.rgs.ring _ (.inl zaa)]
  ·rw [c 418 zaa zaa];exact congrArg some (hW.rgs.ring 390 (.inr rfl))
attribute [local go_sem] NR
theorem yC (w:World) (Nb:Nat) (ev nm nm0:ByteArray) (hN:w.cell? Nb=some ↑nm0) :
  () 373 #[.agg #[ev,nm],Nb] w fun e w'=>e = .returned (.bool (nm.toList == nm0.toList))/\w'=w.alloc (.cells #[ev,nm] 90):=by
 have hl:=iu hN;have hN1:(w.alloc (.cells #[ev,nm] 90)).cell? Nb=some ↑nm0:=nL ((MY _ w).alloc (MR _) _) hN;go_enter func373,ntmps373;go_wp2;go_ret;exact ⟨rfl,rfl⟩
namespace Pg
def bp (nm0:ByteArray) (L:List Nd):List Nd:=L.filter fun x => !(x.2.nm.toList == nm0.toList)
theorem r9 (nm0:ByteArray) (L:List Nd) (x:Nd):bp nm0 (L++[x])=if x.2.nm.toList == nm0.toList then bp nm0 L else bp nm0 L++[x]:=by
 unfold bp;rw [ON];cases h:x.2.nm.toList == nm0.toList <;> simp [h]
structure DrI (w0:World) (mb c:Nat) (nm0:ByteArray) (L:List Nd) (xs:List Nd) (V:World):Prop where
 pre:xs=L.take xs.length
 cell:V.cell? ⟨mb,c,none⟩=some (aK (bp nm0 xs))
 ring:cA V (bp nm0 xs)
 rest:∀ i x,xs.length<=i->L[i]?=some x->V.heap[x.1]?=some (.cells (et x.2 (nxt L i)) 278 (0,0))
 nd:∀ x∈L,∃ v,V.heap[x.1]?=some (.cells (et x.2 v) 278 (0,0))
 mo:Mo (fun k=>k=mb\/∃ x∈L,k=x.1) w0 V
 blk:∃ arr arr':Array Value,w0.heap[mb]?=some (.cells arr 88 (0,0))/\V.heap[mb]?=some (.cells arr' 88 (0,0))/\arr'.size=arr.size/\∀ j,j≠c->arr'[j]?=arr[j]?
theorem jP (h:x∈bp nm0 L):x∈L:=(OE.1 h).1
theorem lO (h:x∈L.take n):x∈L:=PG h
theorem lH (hnd:(L.map (·.1)).Nodup) {i:Nat} (hi:n<=i) (hy:L[i]?=some y):∀ z∈L.take n,z.1≠y.1:=fun z hz e=>by
 obtain ⟨j,hj⟩:=Nu.1 hz;have hjn:j<n:=by
  have:=(MZ.1 hj).1;rw [N8] at this;omega
 rw [Oc hjn] at hj;have a1:(L.map (·.1))[j]?=some y.1:=by rw [Nf,hj,<- e];rfl
 have a2:(L.map (·.1))[i]?=some y.1:=by rw [Nf,hy];rfl
 have:=(QW (by simp;exact (MZ.1 hj).1) hnd).1 (a1.trans a2.symm);omega
theorem G9 (hnd:(L.map (·.1)).Nodup) {z:Nd} (hy:y∈L) (hz:z∈L) (e:y.1=z.1):y=z:=by
 obtain ⟨i,hi⟩:=Nu.1 hy;obtain ⟨j,hj⟩:=Nu.1 hz;have a1:(L.map (·.1))[i]?=some y.1:=by rw [Nf,hi];rfl
 have a2:(L.map (·.1))[j]?=some y.1:=by rw [Nf,hj,e];rfl
 have:=(QW (by simp;exact (MZ.1 hi).1) hnd).1 (a1.trans a2.symm);subst this;rw [hi] at hj;exact NO hj
theorem Ch {w:World} {mb o n:Nat} {l:List Nd} {v:Value} (hc:w.cell? ⟨mb,o,none⟩=some v) (hcn:mb≠n) (hcl:mb ∉ l.map (·.1)):(ef w ⟨mb,o,none⟩ l n).cell? ⟨mb,o,none⟩=some (ndP n):=by
 have hset:∀ (W:World) (b:Nat) (u:Value),mb≠b->(W.setCell ⟨b,3,none⟩ u).cell? ⟨mb,o,none⟩=W.cell? ⟨mb,o,none⟩:=fun W b u hb=>az zcr;unfold ef;cases hz:l.getLast? with
 | none=>exact PB _ _ _ ((hset _ _ _ hcn).trans hc)
 | some z =>
  have hzl:mb≠z.1:=fun e=>hcl (NI.2 ⟨z,O2 hz,e.symm⟩);exact zeE
theorem ER {w:World} {mb o n:Nat} {l:List Nd} {arr:Array Value} {t:TypeId} (hb:w.heap[mb]?=some (.cells arr t (0,0))) (hcn:mb≠n) (hcl:mb ∉ l.map (·.1)):(ef w ⟨mb,o,none⟩ l n).heap[mb]?=some (.cells (arr.setIfInBounds o (ndP n)) t (0,0)):=by
 have hset:∀ (W:World) (b:Nat) (u:Value),mb≠b->(W.setCell ⟨b,3,none⟩ u).heap[mb]?=W.heap[mb]?:=fun W b u hb=>NF W _ u mb hb;unfold ef;cases hz:l.getLast? with
 | none=>exact Nn _ mb o _ _ _ ((hset _ _ _ hcn).trans hb)
 | some z =>
  have hzl:mb≠z.1:=fun e=>hcl (NI.2 ⟨z,O2 hz,e.symm⟩);exact Nn _ mb o _ _ _ ((hset _ _ _ hzl).trans ((hset _ _ _ hcn).trans hb))
theorem DrI.mo' {P:Nat->Prop} (h:DrI w0 mb c nm0 L xs V) (hm:Mo P V V') (h1:¬ P mb) (h2:∀ x∈L,¬ P x.1) (h3:∀ k,k<w0.heap.size->P k->k=mb\/∃ x∈L,k=x.1):DrI w0 mb c nm0 L xs V':=by
 obtain ⟨arr,arr',a1,a2,a3,a4⟩:=h.blk;have hmbl:=(MQ.1 a2).1;have hk:∀ (x:Nd) (ob:Obj),x∈L->V.heap[x.1]?=some ob->V'.heap[x.1]?=some ob:=fun x ob hx ho=>(hm.block x.1 (MQ.1 ho).1 (h2 x hx)).trans ho;refine ⟨h.pre,(hm.cell (p:=⟨mb,c,none⟩) hmbl h1).trans h.cell,fun i x hx => ?_,fun i x hi hx=>hk x _ (Nc hx) (h.rest i x hi hx),fun x hx => ?_,h.mo.trans' hm h3,arr,arr',a1,(hm.block mb hmbl h1).trans a2,a3,a4⟩
 ·have hxl:x∈L:=lO (h.pre ▸ jP (Nc hx));exact hk x _ hxl (h.ring i x hx)
 ·obtain ⟨v,hv⟩:=h.nd x hx;exact ⟨v,hk x _ hx hv⟩
theorem DrI.below (h:DrI w0 mb c nm0 L xs V) (hb:Below V V V'):DrI w0 mb c nm0 L xs V':=h.mo' (P:=fun _=>False) (ay hb) (fun h=>h) (fun _ _ h=>h) (fun _ _ h=>h.elim)
theorem DrI.own {B:Nat} (hB:w0.heap.size<=B):OwnFrom B (fun xs V=>DrI w0 mb c nm0 L xs V):=fun xs A C row h hg hr=>by
 obtain ⟨arr,arr',a1,a2,a3,a4⟩:=h.blk;refine h.mo' (P:=fun k=>some k=row) ⟨hg.os,hg.tape,hg.output,hg.size,fun k hk hn=>hg.block k hk hn⟩ (fun e => ?_) (fun x hx e => ?_) (fun k hk e => ?_)
 ·obtain ⟨_,o,ho,hc⟩:=hr _ e.symm;rw [a2] at ho;cases ho
  cases hc
 ·obtain ⟨_,o,ho,hc⟩:=hr _ e.symm;obtain ⟨v,hv⟩:=h.nd x hx;rw [hv] at ho;cases ho
  cases hc
 ·have:=(hr k e.symm).1;omega
theorem DrI.skip (h:DrI w0 mb c nm0 L xs V) (hx:L[xs.length]?=some x) (hn:(x.2.nm.toList == nm0.toList)=true):DrI w0 mb c nm0 L (xs++[x]) V:=by
 have hk:bp nm0 (xs++[x])=bp nm0 xs:=by rw [r9,M6 hn]
 refine ⟨?_,by rw [hk];exact h.cell,by rw [hk];exact h.ring,fun i y hi hy=>h.rest i y (by rw [Nj] at hi;omega) hy,h.nd,h.mo,h.blk⟩;rw [Nj,OZ,<- dC hx,<- h.pre]
theorem DrI.push (h:DrI w0 mb c nm0 L xs V) (hnd:(L.map (·.1)).Nodup) (hx:L[xs.length]?=some x) (hn:(x.2.nm.toList == nm0.toList)=false) :
  x.1 ∉ (bp nm0 xs).map (·.1)/\mb≠x.1/\mb ∉ (bp nm0 xs).map (·.1)/\DrI w0 mb c nm0 L (xs++[x]) (ef V ⟨mb,c,none⟩ (bp nm0 xs) x.1):=by
 obtain ⟨arr,arr',a1,a2,a3,a4⟩:=h.blk;have hk:bp nm0 (xs++[x])=bp nm0 xs++[x]:=by rw [r9,M4 (by rw [hn];decide)]
 have hmem:∀ z∈bp nm0 xs,z∈L.take xs.length:=fun z hz=>h.pre ▸ jP hz;have hxl:x∈L:=Nc hx;have hmbn:∀ y∈L,mb≠y.1:=fun y hy e=>by
  obtain ⟨v,hv⟩:=h.nd y hy;rw [<- e,a2] at hv;simp at hv
 have n1:x.1 ∉ (bp nm0 xs).map (·.1):=fun e=>by
  obtain ⟨z,hz,e⟩:=NI.1 e;exact lH hnd (MR _) hx z (hmem z hz) e
 have n3:mb ∉ (bp nm0 xs).map (·.1):=fun e=>by
  obtain ⟨z,hz,e⟩:=NI.1 e;exact hmbn z (lO (hmem z hz)) e.symm
 have n4:((bp nm0 xs).map (·.1)).Nodup:=by
  have:(bp nm0 xs).Sublist L:=by
   refine List.Sublist.trans List.filter_sublist ?_;rw [h.pre];exact List.take_sublist _ _
  exact (this.map _).nodup hnd
 obtain ⟨p1,p2⟩:=h.ring.push (p:=⟨mb,c,none⟩) (x:=x.2) n4 (h.rest _ x (MR _) hx) n1 (hmbn x hxl) n3;have hzL:∀ z,(bp nm0 xs).getLast?=some z->z∈L.take xs.length:=fun z hz=>hmem z (O2 hz);refine ⟨n1,hmbn x hxl,n3,?_,?_,by rw [hk];exact p1,fun i y hi hy => ?_,fun y hy => ?_,h.mo.trans' p2 (fun k _ e => ?_),arr,_,a1,ER a2 (hmbn x hxl) n3,by simp [a3],fun j hj => ?_⟩
 ·rw [Nj,OZ,<- dC hx,<- h.pre]
 ·rw [hk,nA];exact Ch h.cell (hmbn x hxl) n3
 ·rw [Nj,OZ] at hi;have hv:=h.rest i y zaa hy;refine (p2.block y.1 (MQ.1 hv).1 (fun e => ?_)).trans hv;have hxt:x∈L.take (xs.length+1):=by rw [<- dC hx];simp
  rcases e with e | e | ⟨z,hz,e⟩
  ·exact hmbn y (Nc hy) e.symm
  ·exact lH hnd hi hy x hxt e.symm
  ·exact lH hnd zaa hy z (hzL z hz) e.symm
 ·by_cases e1:y.1=x.1
  ·obtain rfl:=G9 hnd hy hxl e1;have:=p1 (bp nm0 xs).length y zad;exact ⟨_,this⟩
  ·by_cases e2:∃ z,(bp nm0 xs).getLast?=some z/\y.1=z.1
   ·obtain ⟨z,hz,e2⟩:=e2;obtain rfl:=G9 hnd hy (lO (hzL z hz)) e2;obtain ⟨i,hi⟩:=Nu.1 (O2 hz);have hi2:(bp nm0 xs++[(x.1,x.2)])[i]?=some y:=by rw [N7 (MZ.1 hi).1];exact hi
    exact ⟨_,p1 i y hi2⟩
   ·obtain ⟨v,hv⟩:=h.nd y hy;refine ⟨v,(p2.block y.1 (MQ.1 hv).1 (fun e => ?_)).trans hv⟩
    rcases e with e | e | e
    ·exact hmbn y hy e.symm
    ·exact e1 e
    ·exact e2 e
 ·rcases e with e | e | ⟨z,hz,e⟩
  ·exact .inl e
  ·exact .inr ⟨x,hxl,e⟩
  ·exact .inr ⟨z,lO (hzL z hz),e⟩
 ·rw [OA (fun e=>hj e.symm)];exact a4 j hj
end Pg
theorem EU (w:World) (mb c Nb:Nat) (nm0:ByteArray) (L:List Pg.Nd) (arr:Array Value) (hb:w.heap[mb]?=some (.cells arr 88 (0,0))) (hc:w.cell? ⟨mb,c,none⟩=some (Pg.aK L)) (hR:Pg.cA w L) (hnd:(L.map (·.1)).Nodup) (hN:Boxed w Nb 9 (.string nm0)) :
  () 376 #[.pointer (some ⟨mb,c,none⟩),.func (.func 373) #[] #[Nb]] w fun e w'=>e = .returned (.tuple #[])/\Pg.DrI w mb c nm0 L L w':=by
 refine (Nz (n:=7)).1 ?_;have hfz:w.frozen? ⟨mb,c,none⟩=false:=by simp [World.frozen?,hb]
 have hmb:mb<w.heap.size:=(MQ.1 hb).1;obtain ⟨rp,hrv⟩:∃ rp,Pg.aK L = .pointer rp:=by
  unfold Pg.aK;cases L.getLast? with
  | none=>exact ⟨_,rfl⟩
  | some z=>exact ⟨_,rfl⟩
 have hno:=fun V=>mg (Pg.aK L) V (by
  unfold Pg.aK;cases L.getLast? with
  | none=>exact .inl rfl
  | some z=>exact .inr ⟨z.1,rfl⟩)
 rw [hrv] at hc hno;have hB3:∀ o1 o2 o3:Obj,Below w w (((w.alloc o1).alloc o2).alloc o3):=fun o1 o2 o3=>(((MY _ w).alloc (MR _) _).alloc zad _).alloc zae _;have hb3:=(hB3 (.cells #[.pointer (some ⟨mb,c,none⟩)] 394) (.cells #[.func (.func 373) #[] #[Nb]] 273) (.cells #[.pointer rp] 80)).block mb hmb;rw [hb] at hb3;have c3:(((w.alloc (.cells #[.pointer (some ⟨mb,c,none⟩)] 394)).alloc (.cells #[.func (.func 373) #[] #[Nb]] 273)).alloc (.cells #[.pointer rp] 80)).cell? ⟨mb,c,none⟩=some (.pointer rp):=by rw [M0 _ _ _ _ _ _ hb3,<- M0 w _ _ _ _ _ hb];exact hc
 have f3:(((w.alloc (.cells #[.pointer (some ⟨mb,c,none⟩)] 394)).alloc (.cells #[.func (.func 373) #[] #[Nb]] 273)).alloc (.cells #[.pointer rp] 80)).frozen? ⟨mb,c,none⟩=false:=by simp [World.frozen?,hb3]
 refine NX func376 rfl trivial ?_ rfl;simp only [ntmps376,List.size_toArray,List.length_cons,List.length_nil,Nat.reduceAdd,Nat.reduceSub,Array.replicate_succ,Array.replicate_zero,List.push_toArray,List.append_toArray,List.nil_append,List.cons_append];gi_wp2_with (refine ⟨trivial,?_⟩;gi_at_call 160;refine (Nz.2 (hno _)).mono ?_;rintro e w9 ⟨rfl,hw9⟩;rw [hw9];clear hw9 w9);have hW3s:(((w.alloc (.cells #[.pointer (some ⟨mb,c,none⟩)] 394)).alloc (.cells #[.func (.func 373) #[] #[Nb]] 273)).alloc (.cells #[.pointer rp] 80)).heap.size=w.heap.size+3:=zad;have B3:=hB3 (.cells #[.pointer (some ⟨mb,c,none⟩)] 394) (.cells #[.func (.func 373) #[] #[Nb]] 273) (.cells #[.pointer rp] 80);have x0:Boxed (((w.alloc (.cells #[.pointer (some ⟨mb,c,none⟩)] 394)).alloc (.cells #[.func (.func 373) #[] #[Nb]] 273)).alloc (.cells #[.pointer rp] 80)) w.heap.size 394 (.pointer (some ⟨mb,c,none⟩)):=((NA w _ _).alloc _).alloc _;have x1:Boxed (((w.alloc (.cells #[.pointer (some ⟨mb,c,none⟩)] 394)).alloc (.cells #[.func (.func 373) #[] #[Nb]] 273)).alloc (.cells #[.pointer rp] 80)) (w.heap.size+1) 273 (.func (.func 373) #[] #[Nb]):=by
  have:=(NA (w.alloc (.cells #[.pointer (some ⟨mb,c,none⟩)] 394)) 273 (.func (.func 373) #[] #[Nb])).alloc (.cells #[.pointer rp] 80);rw [Of] at this;exact this
 have xN:Boxed (((w.alloc (.cells #[.pointer (some ⟨mb,c,none⟩)] 394)).alloc (.cells #[.func (.func 373) #[] #[Nb]] 273)).alloc (.cells #[.pointer rp] 80)) Nb 9 (.string nm0):=aB hN B3 hN.lt;clear c3 f3 hfz hB3;generalize (((w.alloc (.cells #[.pointer (some ⟨mb,c,none⟩)] 394)).alloc (.cells #[.func (.func 373) #[] #[Nb]] 273)).alloc (.cells #[.pointer rp] 80))=W3 at *;have hne:Nb≠mb:=fun e=>by
  have h:=hN;rw [e] at h;rw [show w.heap[mb]?=_ from h] at hb;simp at hb
 have x3:=NA (W3.setCell ⟨mb,c,none⟩ (.pointer none)) 80 (.pointer rp);have hsS:(W3.setCell ⟨mb,c,none⟩ (.pointer none)).heap.size=w.heap.size+1+1+1:=by simp [hW3s]
 rw [hsS] at x3;have y0:=(bm x0 (p:=⟨mb,c,none⟩) (by show w.heap.size≠mb;omega) (.pointer none)).alloc (.cells #[.pointer rp] 80);have y1:=(bm x1 (p:=⟨mb,c,none⟩) (by show w.heap.size+1≠mb;omega) (.pointer none)).alloc (.cells #[.pointer rp] 80);have yN:=(bm xN (p:=⟨mb,c,none⟩) hne (.pointer none)).alloc (.cells #[.pointer rp] 80);have hbS:(W3.setCell ⟨mb,c,none⟩ (.pointer none)).heap[mb]?=some (.cells (arr.setIfInBounds c (.pointer none)) 88 (0,0)):=Nn W3 mb c _ _ _ hb3;have hmbn:∀ y∈L,mb≠y.1:=fun y hy e=>by
  obtain ⟨i,hi⟩:=Nu.1 hy;have:=hR i y hi;rw [<- e,hb] at this;simp at this
 have hRS:∀ (i:Nat) (y:Pg.Nd),L[i]?=some y->(W3.setCell ⟨mb,c,none⟩ (.pointer none)).heap[y.1]?=some (.cells (Pg.et y.2 (Pg.nxt L i)) 278 (0,0)):=fun i y hy=>(NF W3 _ _ y.1 (fun e=>hmbn y (Nc hy) e.symm)).trans ((B3.block y.1 (MQ.1 (hR i y hy)).1).trans (hR i y hy));have hcl:c<arr.size:=by
  rw [M0 w _ _ _ _ _ hb] at hc;exact (MQ.1 hc).1
 have hDS:Pg.DrI w mb c nm0 L [] (W3.setCell ⟨mb,c,none⟩ (.pointer none)):=⟨zad,by rw [cell_of_row _ _ _ _ _ _ hbS];exact OK hcl,Pg.cA.nil _,fun i y _ hy=>hRS i y hy,fun y hy=>by
  obtain ⟨i,hi⟩:=Nu.1 hy;exact ⟨_,hRS i y hi⟩,(ay (B3)).set _ _ (.inl rfl),arr,_,hb,hbS,zad,fun j hj=>OA (fun e=>hj e.symm)⟩
 have hD0:=hDS.below (((MY _ _).alloc (MR _) (.cells #[.pointer rp] 80)));have hs0:((W3.setCell ⟨mb,c,none⟩ (.pointer none)).alloc (.cells #[.pointer rp] 80)).heap.size=w.heap.size+4:=by simp [hW3s]
 clear hDS hRS hbS hsS x0 x1 xN hb3 hW3s B3 hno;generalize (W3.setCell ⟨mb,c,none⟩ (.pointer none)).alloc (.cells #[.pointer rp] 80)=W0 at *;refine sM rfl zaa (gf:=200) rfl trivial (Pe func200 zab rfl)
  (zP 6 zaa (w.heap.size+1+1+1) L hnd W0) (fun _ _=>trivial) (fun _ _ _ _ _=>trivial) (fun _=>rfl)
  (fun xs V=>Pg.DrI w mb c nm0 L xs V/\(Boxed V w 394 (.pointer (some ⟨mb,c,none⟩))/\Boxed V (w.heap.size+1) 273 (.func (.func 373) #[] #[Nb]))/\(Boxed V (w.heap.size+1+1+1) 80 (.pointer rp)/\Boxed V Nb 9 (.string nm0)))
  (NH (Pg.DrI.own zaa) (NH (NH (Oo (Og _ _ _) _) (Oo (Og _ _ _) _)) (NH (Oo (Og _ _ _) _) (Oo (Og _ _ _) _))))
  (fun xs V hI => ?rd) ⟨hD0,⟨y0,y1⟩,x3,yN⟩
  (fun x a' _=>a'={ tmps:=#[.pointer (some ⟨mb,c,none⟩),.func (.func 373) #[] #[.pointer (some ⟨Nb,0,none⟩)],.pointer (some ⟨w.heap.size,0,none⟩),.pointer (some ⟨w.heap.size+1,0,none⟩),.pointer (some ⟨w.heap.size+1+1,0,none⟩),.pointer (some ⟨x.1,0,none⟩),.pointer (some ⟨mb,c,none⟩),.pointer (some ⟨mb,c,none⟩),.agg #[.pointer rp],.pointer (some ⟨mb,c,none⟩),.pointer (some ⟨mb,c,none⟩),.pointer (some ⟨mb,c,none⟩),.agg #[.pointer rp],.func (.func 200) #[] #[.pointer (some ⟨w.heap.size+1+1+1,0,none⟩)],.pointer (some ⟨x.1,0,none⟩),undef,undef,undef,undef,undef,undef,undef,undef,undef,undef],defers:=[] }) (fun _ _ _ _ _ _ hs _ _=>hs) ?assign ?body ?done
 case rd =>
  obtain ⟨hD,_,hbx,_⟩:=hI;refine ⟨by rw [hrv];exact hbx.cell,fun x hx => ?_,fun x hx => ?_,fun h0 z hz => ?_⟩
  ·obtain ⟨v,hv⟩:=hD.nd x hx;exact ⟨_,hv⟩
  ·rw [M0 V _ _ _ _ _ (hD.rest _ x (MR _) hx)];rfl
  ·have hlz:L[L.length-1]?=some z:=zaA;rw [M0 V _ _ _ _ _ (hD.rest _ z zaa hlz)];rfl
 case assign =>
  intro l xs x V K hI hK;exact zfe
 case body =>
  rintro l xs x a' V hl ⟨rl,hrl⟩ ⟨hx,hxs⟩ ⟨hD,⟨z0,z1⟩,z3,zN⟩ rfl;have hnx:=hD.rest _ x (MR _) hx;have n1:V.drew.cell? ⟨x.1,1,none⟩=some ↑x.2.ev:=by rw [show V.drew.cell? ⟨x.1,1,none⟩=V.cell? ⟨x.1,1,none⟩ from rfl,M0 V _ _ _ _ _ hnx];rfl
  have n2:V.drew.cell? ⟨x.1,2,none⟩=some ↑x.2.nm:=by rw [show V.drew.cell? ⟨x.1,2,none⟩=V.cell? ⟨x.1,2,none⟩ from rfl,M0 V _ _ _ _ _ hnx];rfl
  have q1:V.drew.cell? ⟨w.heap.size+1,0,none⟩=_:=z1.cell;have hca:=yC V.drew Nb x.2.ev x.2.nm nm0 zN.cell;have hd1:1<=7-1-1:=zaa;have hBV:Below V V (V.drew.alloc (.cells #[x.2.ev,x.2.nm] 90)):=(MY _ V).drew.alloc (MR _) _;obtain ⟨bw,hbw⟩:∃ bw,(x.2.nm.toList == nm0.toList)=bw:=⟨_,rfl⟩;rw [hbw] at hca;gi_wp2;refine aV (dF l) 5 zab zab zab ?_;simp only [List.take_succ_cons,List.take_zero,List.drop_succ_cons,List.drop_zero]
  repeat still_step
  refine Ov ?_;have hca2:=hca.mono (fun e w' h=>(⟨h.1,h.2 ▸ hBV⟩:e=_/\Below V V w'));clear hca hBV;have HZ:Hid (∀ w9,Below V V w9->(Boxed w9 w 394 (.pointer (some ⟨mb,c,none⟩))/\Boxed w9 (w.heap.size+1) 273 (.func (.func 373) #[] #[Nb]))/\(Boxed w9 (w.heap.size+1+1+1) 80 (.pointer rp)/\Boxed w9 Nb 9 (.string nm0))):=fun w9 hb=>⟨⟨aB z0 hb z0.lt,aB z1 hb z1.lt⟩,aB z3 hb z3.lt,aB zN hb zN.lt⟩;cases bw
  ·have HP:Hid (∀ w9,Below V V w9->() 202 #[.pointer (some ⟨mb,c,none⟩),x.1] w9 fun e w'=>e = .returned (.tuple #[])/\KeepsFrom W0.heap.size V w'/\True/\Pg.DrI w mb c nm0 L (xs++[x]) w'/\(Boxed w' w 394 (.pointer (some ⟨mb,c,none⟩))/\Boxed w' (w.heap.size+1) 273 (.func (.func 373) #[] #[Nb]))/\(Boxed w' (w.heap.size+1+1+1) 80 (.pointer rp)/\Boxed w' Nb 9 (.string nm0))):=fun w9 hb=>by
    have hD9:=hD.below hb;obtain ⟨p1,p2,p3,p4⟩:=hD9.push hnd hx hbw;obtain ⟨arr0,arr9,g1,g2,g3,g4⟩:=hD9.blk;refine (mq w9 mb c (Pg.bp nm0 xs) x.1 x.2 (Pg.nxt L xs.length) hD9.cell (by simp [World.frozen?,g2]) hD9.ring (hD9.rest _ x (MR _) hx) p1 p2 p3).mono ?_;rintro e w' ⟨rfl,rfl⟩;obtain ⟨⟨r0,r1⟩,r3,rN⟩:=HZ.out w9 hb;have hms:Mo (fun k=>k=mb\/∃ y∈L,k=y.1) w9 (Pg.ef w9 ⟨mb,c,none⟩ (Pg.bp nm0 xs) x.1):=by
     unfold Pg.ef;cases hz:(Pg.bp nm0 xs).getLast? with
     | none=>exact ((Mo.refl _ w9).set _ _ (.inr ⟨x,Nc hx,rfl⟩)).set _ _ (.inl rfl)
     | some z=>exact (((Mo.refl _ w9).set _ _ (.inr ⟨x,Nc hx,rfl⟩)).set _ _ (.inr ⟨z,Pg.lO (hxs ▸ Pg.jP (O2 hz)),rfl⟩)).set _ _ (.inl rfl)
    have hno2:∀ (B:Nat) (t:TypeId) (v:Value),Boxed w9 B t v->t≠88->t≠278->Boxed (Pg.ef w9 ⟨mb,c,none⟩ (Pg.bp nm0 xs) x.1) B t v:=fun B t v hbx t1 t2=>Boxed.mo hbx hms (fun e=>by
     rcases e with e | ⟨y,hy,e⟩
     ·subst e;rw [show w9.heap[B]?=_ from hbx] at g2;simp at g2;exact t1 g2.2
     ·obtain ⟨v',hv'⟩:=hD9.nd y hy;subst e;rw [show w9.heap[y.1]?=_ from hbx] at hv';simp at hv';exact t2 hv'.2)
    refine ⟨rfl,((Pg.ed hb).trans ⟨hms.size,fun k o hk ho=>(hms.block k (MQ.1 hk).1 (fun e => ?_)).trans hk⟩).from _,trivial,p4,⟨hno2 _ _ _ r0 zac zac,hno2 _ _ _ r1 zac zac⟩,hno2 _ _ _ r3 zac zac,hno2 _ _ _ rN zac zac⟩
    rcases e with e | ⟨y,hy,e⟩
    ·subst e;rw [g2] at hk;cases hk
     cases ho
    ·obtain ⟨v',hv'⟩:=hD9.nd y hy;subst e;rw [hv'] at hk;cases hk
     cases ho
   gi_wp2_with (first
    | (refine ⟨trivial,?_⟩;gi_at_call 373;refine (aH hca2).mono ?_;rintro e w9 ⟨rfl,hb9⟩;have q0:w9.cell? ⟨w.heap.size,0,none⟩=_:=(HZ.out w9 hb9).1.1.cell)
    | (refine ⟨trivial,?_⟩;gi_at_call 202;refine (aH (HP.out w9 hb9)).mono ?_;intro e w8 h8;obtain ⟨rfl,h8⟩:=h8;have H8:Hid _:=h8;clear h8))
   exact H8.out
  ·gi_wp2_with (refine ⟨trivial,?_⟩;gi_at_call 373;refine (aH hca2).mono ?_;rintro e w9 ⟨rfl,hb9⟩);exact ⟨(Pg.ed hb9).from _,trivial,(hD.below hb9).skip hx hbw,HZ.out w9 hb9⟩
 case done =>
  rintro D xs V hD hS ⟨hDr,_⟩ hdef;subst hS;gi_wp2;refine ⟨zad,.inl ⟨_,_,rfl,NP hdef,?_⟩⟩;exact ⟨_,N5 rfl _ _ _,rfl,(Pg.DrI.own (nm0:=nm0) (show w.heap.size<=W0.heap.size by omega)).putObj _ hDr zaa hdef rfl⟩
attribute [local go_sem] NR
namespace Pg
theorem WhM.congr (h:WhM W lo s R) (e:∀ r,isR r->R' r=R r):WhM W lo s R' :=
 ⟨⟨fun r hr=>by rw [e r hr];exact h.rgs.ring r hr,fun r hr=>by rw [e r hr];exact h.rgs.nds r hr,fun r hr=>by rw [e r hr];exact h.rgs.low r hr,fun r q hr hq=>by rw [e r hr,e q hq];exact h.rgs.dis r q hr hq,fun r hr=>by rw [e r hr];exact h.rgs.nod r hr⟩,fun k hk=>by
  obtain ⟨x,x1,x2,x3⟩:=h.held k hk;exact ⟨x,x1,x2,fun j hj=>by rw [e _ (.inl zaa)];exact x3 j hj⟩⟩
theorem JZ (hM:au W lo mb pb qv s) (hls:lo<=W.heap.size) (j:Nat) (v:Value):Rw lo W (W.drew.setCell ⟨mb,j,none⟩ v) :=
 (RfE.of (MY W W).drew hls).trans (RfE.mo (P:=(· = mb)) ((Mo.refl _ _).set _ _ rfl) (fun j hj=>by
  obtain ⟨arr,a1,_⟩:=hM.blk;subst hj;exact ⟨hM.lo',arr,_,_,a1,.inl rfl⟩) hls)
theorem cX.drop (hM:au W lo mb pb qv s) (h:cX W lo s.wh R) (hr:isR r) (hls:lo<=W.heap.size) (hD:DrI W mb (28+r) nm0 (R r) (R r) W') :
  au W' lo mb pb qv { s with wh:=upd s.wh (28+r) (aK (bp nm0 (R r))) }/\cX W' lo (upd s.wh (28+r) (aK (bp nm0 (R r)))) (upd R r (bp nm0 (R r)))/\Rw lo W W':=by
 have hrl:=hr.lt;obtain ⟨arr,arr',a1,a2,a3,a4⟩:=hD.blk;obtain ⟨arr0,m1,m2,m3⟩:=hM.blk;rw [a1] at m1;have e0:arr=arr0:=by cases m1;rfl
 subst e0;have hty:∀ q,isR q->∀ y∈R q,mb≠y.1:=fun q hq y hy=>by
  exact zeP
 have hnode:∀ q,isR q->∀ y∈R q,∃ c,W.heap[y.1]?=some (.cells c 278 (0,0)):=fun q hq y hy=>by
  exact zeQ
 have hcr:arr'[28+r]?=some (aK (bp nm0 (R r))):=by rw [<- M0 W' _ _ _ _ _ a2];exact hD.cell
 refine ⟨⟨⟨arr',a2,zaa,fun j hj => ?_⟩,hM.que.mo hD.mo (fun g hg e => ?_),hM.lo',hM.qok,MX hM.sz hD.mo.size⟩,⟨fun q hq => ?_,fun q hq => ?_,fun q hq y hy => ?_,fun q q' hq hq' hne y hy z hz => ?_,fun q hq => ?_⟩,RfE.mo hD.mo (fun k hk => ?_) hls⟩
 ·by_cases e:j=28+r
  ·subst e;rw [hcr];unfold eR;rw [M4 zaa,M4 zaa,M4 zaa,M4 zaa,M4 zaa,M6 zaa];dsimp only;rw [aC]
  ·rw [a4 j e,m3 j hj];unfold eR;dsimp only;rw [aG _ _ e]
 ·obtain ⟨c',hc'⟩:=hM.que.kind g hg
  rcases e with e | ⟨y,hy,e⟩
  ·rw [e,a1] at hc';simp at hc'
  ·obtain ⟨c,hc⟩:=hnode r hr y hy;rw [e,hc] at hc';simp at hc'
 ·by_cases e:q=r
  ·subst e;rw [aC,aC]
  ·rw [aG _ _ e,aG _ _ zaa];exact h.ring q hq
 ·by_cases e:q=r
  ·subst e;rw [aC];exact hD.ring
  ·rw [aG _ _ e];refine (h.nds q hq).mo hD.mo (fun y hy hk => ?_)
   rcases hk with hk | ⟨z,hz,hk⟩
   ·exact hty q hq y hy hk.symm
   ·exact h.dis q r hq hr e y hy z hz hk
 ·by_cases e:q=r
  ·subst e;rw [aC] at hy;exact h.low q hq y (jP hy)
  ·rw [aG _ _ e] at hy;exact h.low q hq y hy
 ·have f:∀ q y,y∈upd R r (bp nm0 (R r)) q->y∈R q:=fun q y hy=>by
   by_cases e:q=r
   ·subst e;rw [aC] at hy;exact jP hy
   ·rw [aG _ _ e] at hy;exact hy
  exact h.dis q q' hq hq' hne y (f q y hy) z (f q' z hz)
 ·by_cases e:q=r
  ·subst e;rw [aC];exact ((List.filter_sublist (l:=R q)).map _).nodup (h.nod q hq)
  ·rw [aG _ _ e];exact h.nod q hq
 ·rcases hk with hk | ⟨z,hz,hk⟩
  ·exact ze9
  ·obtain ⟨cz,hcz⟩:=hnode r hr z hz;subst hk;exact ⟨h.low r hr z hz,_,_,_,hcz,.inr rfl⟩
theorem au.gr (h:au W lo mb pb qv s) (hg:W.grownBy W' row) (hr:∀ r,row=some r->∃ o:Obj,W.heap[r]?=some o/\o.isCells=false):au W' lo mb pb qv s:=by
 refine h.mo (P:=fun k=>some k=row) ⟨hg.os,hg.tape,hg.output,hg.size,fun k hk hn=>hg.block k hk hn⟩ (fun e => ?_) (fun g hgq e => ?_)
 ·obtain ⟨o,ho,hc⟩:=hr _ e.symm;obtain ⟨arr,a1,_⟩:=h.blk;rw [a1] at ho;cases ho
  cases hc
 ·obtain ⟨o,ho,hc⟩:=hr _ e.symm;obtain ⟨c,hc2⟩:=h.que.kind g hgq;rw [hc2] at ho;cases ho
  cases hc
theorem gR (hg:W.grownBy W' row) (hr:∀ r,row=some r->∃ o:Obj,W.heap[r]?=some o/\o.isCells=false):Kd E W W':=⟨hg.size,fun k c t f hk _=>hg.block k (MQ.1 hk).1 (fun e=>by
 obtain ⟨o,ho,hc⟩:=hr _ e.symm;rw [hk] at ho;cases ho
 cases hc)⟩
theorem WhM.kd (h:WhM W lo s R) (hk:Kd E W W') (hE:¬ E 278):WhM W' lo s R:=⟨h.rgs.kd hk hE,h.held⟩
theorem RfE.gr (h:RfE E lo w V) (hl:lo<=w.heap.size) (hg:V.grownBy V' row) (hr:∀ r,row=some r->w.heap.size<=r/\∃ o:Obj,V.heap[r]?=some o/\o.isCells=false):RfE E lo w V' :=
 ⟨h.bel.trans ⟨hg.os,hg.tape,hg.output,hg.size,fun k hk=>hg.block k (by have:=h.bel.size;omega) (fun e=>zbe)⟩,h.kd.trans (gR hg (fun r e=>(hr r e).2)),⟨MX h.oth.size hg.size,fun k o hk ho=>by
  have h2:=h.oth.same k o hk ho;exact (hg.block k (MQ.1 h2).1 (fun e=>by have:=(hr k e.symm).1;have:=(MQ.1 hk).1;omega)).trans h2⟩,fun k hk hn=>(hg.block k (Nq hk h.bel.size) (fun e=>zbe)).trans (h.own k hk hn)⟩
def MW (w:World) (lo:Pg.Lo) (mb pb:Nat) (qv:Value) (s:MSt) (R:Nat->List Nd) (V:World):Prop:=∃ wh',au V lo mb pb qv { s with wh:=wh' }/\WhM V lo { s with wh:=wh' } R/\Rw lo w V
theorem MW.gr (h:MW w lo mb pb qv s R V) (hl:lo<=w.heap.size) (hg:V.grownBy V' row) (hr:∀ r,row=some r->w.heap.size<=r/\∃ o:Obj,V.heap[r]?=some o/\o.isCells=false):MW w lo mb pb qv s R V':=by
 obtain ⟨wh',a,b,c⟩:=h;exact ⟨wh',a.gr hg (fun r e=>(hr r e).2),b.kd (gR (E:=fun _=>False) hg (fun r e=>(hr r e).2)) (fun h=>h),c.gr hl hg hr⟩
theorem MW.below (h:MW w lo mb pb qv s R V) (hl:lo<=w.heap.size) (hb:Below V V V'):MW w lo mb pb qv s R V':=by
 obtain ⟨wh',a,b,c⟩:=h;exact ⟨wh',a.below hb,⟨b.rgs.below hb,b.held⟩,c.trans (RfE.of hb (MX hl c.bel.size))⟩
theorem MW.congr (h:MW w lo mb pb qv s R V) (e:∀ r,isR r->R' r=R r):MW w lo mb pb qv s R' V:=by
 obtain ⟨wh',a,b,c⟩:=h;exact ⟨wh',a,b.congr e,c⟩
end Pg
theorem vf (w w0:World) (lo:Pg.Lo) (mb pb:Nat) (qv:Value) (s:Pg.MSt) (R:Nat->List Pg.Nd) (r Nb:Nat) (nm0:ByteArray) (hr:Pg.isR r) (hls:lo<=w0.heap.size) (h:Pg.MW w0 lo mb pb qv s R w) (hN:Boxed w Nb 9 (.string nm0)) :
  () 376 #[.pointer (some ⟨mb,28+r,none⟩),.func (.func 373) #[] #[Nb]] w fun e w'=>e = .returned (.tuple #[])/\∃ wh0 wh',Pg.jX wh0 R/\Pg.au w' lo mb pb qv { s with wh:=wh' }/\Pg.cX w' lo wh' (Pg.upd R r (Pg.bp nm0 (R r)))/\(∀ k,k<6->wh' (28+(k*65+64))=wh0 (28+(k*65+64)))/\Pg.Rw lo w0 w'/\Pg.Rw lo w w':=by
 obtain ⟨wh0,hM,hW,hRf⟩:=h;obtain ⟨arr,a1,a2,a3⟩:=hM.blk;have hrl:=hr.lt;refine (EU w mb (28+r) Nb nm0 (R r) arr a1 ((hM.whc (28+r) zaa zaa).trans (congrArg some (hW.rgs.ring r hr))) (hW.rgs.nds r hr) (hW.rgs.nod r hr) hN).mono ?_;rintro e w' ⟨rfl,hD⟩;obtain ⟨x1,x2,x3⟩:=hW.rgs.drop hM hr (MX hls hRf.bel.size) hD;exact ⟨rfl,wh0,_,hW.held,x1,x2,fun k hk=>Pg.aG _ _ (by rcases hr with ⟨_,hr⟩ | hr <;> omega),hRf.trans x3,x3⟩
