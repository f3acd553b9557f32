import Derived.Test.YtegmoddppafkfaaGreatDoorM00
import Derived.Test.YtegmoddppafkfaaGreatDoorM03
import Derived.Test.YtegmoddppafkfaaGreatDoorM08
set_option maxRecDepth 100000
set_option maxHeartbeats 8000000
namespace Go.Proofs.YtegmoddppafkfaaGreatDoor
section
open Go.RowKit
def AY {α:Type} (F:Fence) (n:Nat) (P:Program) (g:Nat) (lb:Array Value) (encs:α→Array Value) (Kp:World→World→Prop) (Nx:List α→α→Prop) (S Sp:List α→Prop) (w:World):Prop :=
 ∀ (l:Nat) (J Jx:List α→World→Prop) (W:World),Below w.heap.size w W→w.heap.size+2≤W.heap.size→OwnFrom W.heap.size J→OwnFrom W.heap.size Jx →
  (∀ xs x V,J xs V→Nx xs x→YieldAt F (n-1) P l (encs x) V fun e V'=>(e = .returned (.bool true)∧J (xs++[x]) V'∧Kp V V')∨(e = .returned (.bool false)∧Jx (xs++[x]) V'∧Kp V V'))→J [] W →
  CallsIn F n P g (#[.func (.yield l) #[] #[]]++lb) W fun e V=>(∃ v,e = .returned v)∧((∃ xs,S xs∧J xs V)∨∃ xs,Sp xs∧Jx xs V)
def FL {α:Type} (B:Nat) (Kp:World→World→Prop) (I Ix:List α→World→Prop) (xs:List α) (W:World):Exit→Act→World→Prop
 | .normal,_,V=>KeepsFrom B W V∧Kp W V∧I xs V
 | .ret,_,V=>KeepsFrom B W V∧Kp W V∧Ix xs V
 | _,_,_=>False
theorem vI {α:Type} {F:Fence} {n:Nat} {P:Program} {g:Operand} {ps:Array Tmp} {assign body:Code} {Q:Exit→Act→World→Prop} {a:Act} {w:World} (hro:F.round=none) (h1:1≤n) {gf:Nat} {lb:Array Value}
  (hg:a.eval g = .func (.func gf) #[] lb) (hF:F.fn gf) (eg:∀ args w,(callFunc gf args).run P w = .ok (.enter gf args) w) {encs:α→Array Value} {Kp:World→World→Prop} {Nx:List α→α→Prop} {S Sp:List α→Prop}
  (hseq:AY F (n-1) P gf lb encs Kp Nx S Sp w)
  (hKt:∀ {A B C:World},Kp A B→Kp B C→Kp A C) (hKb:∀ (W:World) (o o':Obj),W.heap[w.heap.size+1]?=some o→o.isCells=false→Kp W (W.putObj (w.heap.size+1) o')) (hps:∀ x,(encs x).size=ps.size) (I Ix:List α→World→Prop) (hI:OwnFrom w.heap.size I) (hIx:OwnFrom w.heap.size Ix) (h0:I [] w)
  (Ax:α→Act→World→Prop) (hAx:∀ x a',OwnFrom w.heap.size (fun (_:Unit) W=>Ax x a' W))
  (hassign:∀ (l:Nat) (xs:List α) (x:α) (W:World) (K:Act→World→Prop),I xs W→(∀ a' W',KeepsFrom w.heap.size W W'→Kp W W'→I xs W'→Ax x a' W'→K a' W')→assign.wpIn (F.inRound l) (n-1-1) P (Exit.then K (fun _ _ _=>False)) { tmps:=(ps.zip (encs x)).foldl (fun t (p,v)=>t.setIfInBounds p v) a.tmps,defers:=[] } W)
  (hbody:∀ (l:Nat) (xs:List α) (x:α) (a':Act) (W:World),w.heap.size≤l→(∃ r,W.heap[l]?=some (.loop r))→Nx xs x→I xs W→Ax x a' W→body.wpIn (F.inRound l) (n-1-1) P (FL w.heap.size Kp I Ix (xs++[x]) W) a' W)
  (hdone:∀ (D:Nat) (xs:List α) (W:World),w.heap.size≤D→S xs→I xs W→W.heap[D]?=some (.deferred (some []))→Q .normal { a with defers:={ target := .collected D,args:=#[] }::a.defers } W)
  (hstop:∀ (D:Nat) (xs:List α) (W:World),w.heap.size≤D→Sp xs→Ix xs W→W.heap[D]?=some (.deferred (some []))→Code.ret.wpIn F n P Q { a with defers:={ target := .collected D,args:=#[] }::a.defers } W) :
  (Code.rangeFunc g ps assign body).wpIn F n P Q a w:=by
 refine wpIn_rangeFunc fun fn hfn => ?_
 rw [hro]
 obtain ⟨lp,hlp⟩:∃ lp:LoopState→Option Code→Loop,lp=fun st pe=>{ state:=st,pending:=pe,fn,tmps:=a.tmps,params:=ps,assign,body,defers:=w.heap.size }:=⟨_,rfl⟩
 have hent:=run_enterLoop_outer (P:=P) (w:=w) fn a.tmps ps assign body
 obtain ⟨V,hV⟩:∃ V,(w.alloc (.deferred (some []))).alloc (.loop (lp .ready none))=V:=⟨_,rfl⟩
 have hb:Below w.heap.size w V:=hV ▸ (((Below.refl _ w).alloc (Nat.le_refl _) _).alloc (by simp) _)
 have hj:I [] V∧V.heap[w.heap.size+1]?=some (.loop (lp .ready none))∧V.heap[w.heap.size]?=some (.deferred (some [])):=by
  rw [← hV]
  exact ⟨hI.alloc _ (hI.alloc _ h0),by have:=heap_alloc_new (w.alloc (.deferred (some []))) (.loop (lp .ready none));simpa using this,(Below.heap_alloc _ _ _ (by simp)).trans (heap_alloc_new w _)⟩
 refine ⟨w.heap.size+1,[{ target := .collected w.heap.size,args:=#[] }],V,{ target := .fn (.func gf) lb,args:=#[.func (.yield (w.heap.size+1)) #[] #[]] },V,gf,#[.func (.yield (w.heap.size+1)) #[] #[]]++lb,V,
  by rw [← hV,hlp];exact hent,by simp only [resolve,hg];simp [go_sem],fun f' hf'=>by simp [Target.leads] at hf';exact hf' ▸ hF,by simp [invoke,go_sem,eg],fun _=>h1,?_⟩
 have hvs:V.heap.size=w.heap.size+2:=by rw [← hV];simp
 have hown:∀ {K:List α→World→Prop} {ob:Obj} (hob:ob.isCells=false),OwnFrom w.heap.size K→OwnFrom V.heap.size (fun xs W=>K xs W∧W.heap[w.heap.size+1]?=some ob∧W.heap[w.heap.size]?=some (.deferred (some []))):=fun {K ob} hob hK xs A B row h hg' hr=>by
  obtain ⟨hi,hl,hd⟩:=h
  refine ⟨hK xs A B row hi hg' (fun r e=>⟨by have:=(hr r e).1;omega,(hr r e).2⟩),(hg'.block _ (Array.getElem?_eq_some_iff.1 hl).1 (fun e => ?_)).trans hl,(hg'.block _ (Array.getElem?_eq_some_iff.1 hd).1 (fun e => ?_)).trans hd⟩
  ·have:=(hr _ e.symm).1;omega
  ·have:=(hr _ e.symm).1;omega
 refine (hseq (w.heap.size+1) (fun xs W=>I xs W∧W.heap[w.heap.size+1]?=some (.loop (lp .ready none))∧W.heap[w.heap.size]?=some (.deferred (some []))) (fun xs W=>Ix xs W∧W.heap[w.heap.size+1]?=some (.loop (lp .done (some .ret)))∧W.heap[w.heap.size]?=some (.deferred (some []))) V hb (by omega) (hown rfl hI) (hown rfl hIx) ?_ hj).mono ?_
 ·intro xs x W ⟨hi,hl,hd⟩ hnx
  have hy:=run_yield (P:=P) (args:=encs x) hl (by rw [hlp];exact hps x)
  rw [hlp] at hy
  refine ⟨fn,_,assign,body,hy,roundIn_of_wpIn hfn (hassign _ xs x W _ hi fun a' Wa hka hkp hia hax=>⟨_,run_beginRound (hka.same _ _ (by omega) hl rfl) (by rw [hlp]),?_⟩)⟩
  have hl:=hka.same _ _ (by omega) hl rfl
  have hd:=hka.same _ _ (Nat.le_refl _) hd rfl
  have hlt:=(Array.getElem?_eq_some_iff.1 hl).1
  have k1:=hKb Wa _ (.loop { lp .ready none with state:=LoopState.busy }) hl rfl
  refine wpIn_mono (hbody _ xs x a' _ (by omega) ⟨_,World.putObj_heap_same hlt⟩ hnx (hI.putObj _ hia (by omega) hl rfl) ((hAx x a').putObj (s:=()) _ hax (by omega) hl rfl)) ?_
  intro e a' W' hp
  have hfin:∀ (jump:Option Code),KeepsFrom w.heap.size (Wa.putObj (w.heap.size+1) (.loop { lp .ready none with state:=LoopState.busy })) W' →
    (Instr.endRound (w.heap.size+1) jump).run P W' = .ok (.bool jump.isNone) (W'.putObj (w.heap.size+1) (.loop (lp (if jump.isNone then .ready else .done) jump))) ∧
    W'.heap[w.heap.size+1]?=some (.loop { lp .ready none with state:=LoopState.busy }) ∧
    (W'.putObj (w.heap.size+1) (.loop (lp (if jump.isNone then .ready else .done) jump))).heap[w.heap.size+1]?=some (.loop (lp (if jump.isNone then .ready else .done) jump)) ∧
    (W'.putObj (w.heap.size+1) (.loop (lp (if jump.isNone then .ready else .done) jump))).heap[w.heap.size]?=some (.deferred (some [])):=fun jump hk=>by
   have hl':=hk.same _ _ (by omega) (World.putObj_heap_same hlt) rfl
   have hd':=hk.same _ _ (Nat.le_refl _) ((World.putObj_heap_other (by omega)).trans hd) rfl
   have hr:=run_endRound (P:=P) jump hl'
   rw [hlp] at hr ⊢
   exact ⟨hr,by rw [hlp] at hl';exact hl',World.putObj_heap_same (Array.getElem?_eq_some_iff.1 hl').1,(World.putObj_heap_other (by omega)).trans hd'⟩
  cases e with
  | normal =>
   obtain ⟨hk,k2,hi'⟩:=hp
   obtain ⟨hr,hl3,hl4,hd4⟩:=hfin none hk
   exact ⟨_,_,hr,.inl ⟨rfl,⟨hI.putObj _ hi' (by omega) hl3 rfl,hl4,hd4⟩,hKt hkp (hKt k1 (hKt k2 (hKb _ _ _ hl3 rfl)))⟩⟩
  | ret =>
   obtain ⟨hk,k2,hi'⟩:=hp
   obtain ⟨hr,hl3,hl4,hd4⟩:=hfin (some .ret) hk
   exact ⟨_,_,hr,.inr ⟨rfl,⟨hIx.putObj _ hi' (by omega) hl3 rfl,hl4,hd4⟩,hKt hkp (hKt k1 (hKt k2 (hKb _ _ _ hl3 rfl)))⟩⟩
  | _=>exact hp.elim
 ·rintro e W ⟨⟨v,hv⟩,⟨xs,hS,hi,hl,hd⟩ | ⟨xs,hSp,hi,hl,hd⟩⟩
  ·subst hv
   exact ⟨none,_,by have:=run_endLoop (P:=P) hl (by rw [hlp];simp);rw [hlp] at this;exact this,hdone _ xs _ (Nat.le_refl _) hS (hI.putObj _ hi (by omega) hl rfl) ((World.putObj_heap_other (by omega)).trans hd)⟩
  ·subst hv
   exact ⟨some .ret,_,by have:=run_endLoop (P:=P) hl (by rw [hlp];simp);rw [hlp] at this;exact this,hstop _ xs _ (Nat.le_refl _) hSp (hIx.putObj _ hi (by omega) hl rfl) ((World.putObj_heap_other (by omega)).trans hd)⟩
end
section
open Go.RowKit Go.Proofs Go.Shelf
attribute [local go_sem] Oper.semAt_some
namespace Pg
theorem nF (hv:Nat→Nat) {k:Nat}:∀ m,k≤m→gQ hv k <+: gQ hv m
 | 0,h=>by
  obtain rfl:k=0:=by omega
  exact List.prefix_rfl
 | m+1,h=>by
  by_cases e:k=m+1
  ·subst e;exact List.prefix_rfl
  ·exact (nF hv m (by omega)).trans (by rw [iU];exact List.prefix_append _ _)
theorem tK {hv:Nat→Nat} {k:Nat} (hk:k<6) {pre:List (AU (hv k))} (h:pre.map (·.1) <+: eu (hv k)):gQ hv k++pre.map (fun x=>k*65+x.1) <+: eU hv:=by
 have h1:pre.map (fun x=>k*65+x.1) <+: jV hv k:=by
  have:=h.map (fun j=>k*65+j)
  rw [List.map_map] at this
  exact this
 have h2:gQ hv k++pre.map (fun x=>k*65+x.1) <+: gQ hv (k+1):=by
  rw [iU]
  exact (List.prefix_append_right_inj _).2 h1
 exact (h2.trans (nF hv 6 (by omega))).trans (List.prefix_append _ _)
end Pg
theorem Cx (n:Nat) (hn:4≤n) (Bs mb:Nat) (R:Nat→List Pg.Nd) (hv:Nat→Nat) (hvl:∀ k,k<6→hv k<18446744073709551616) (B:Nat→Prop) (w:World) (hR:Pg.wu w Bs mb R hv) (h1:¬ B Bs) (h2:¬ B mb) (h3:¬ B 2) (hB:∀ k,B k→k<w.heap.size) :
  AY Fence.wide n Tryz.prog 182 #[.pointer (some ⟨Bs,0,none⟩)] (fun r:Nat=>#[Value.agg #[Pg.aD (R r)]]) (KpN B (w.heap.size+2)) (fun _ r=>Pg.isR r) (fun xs=>xs=Pg.eU hv) (fun xs=>xs <+: Pg.eU hv) w:=fun l J Jx W hW hWs hJ hJx hY h0=>by
 have hRW:=hR.kp (B:=B) (KpM.below hW) h1 h2 h3
 have hW1:KpM B W (W.alloc (.cells #[.func (.yield l) #[] #[]] 350)):=KpM.below ((Below.refl _ W).alloc (Nat.le_refl _) _)
 have hy1:(W.alloc (.cells #[.func (.yield l) #[] #[]] 350)).cell? ⟨W.heap.size,0,none⟩=some (.func (.yield l) #[] #[]):=cell_of_row _ _ 0 _ _ (0,0) (heap_alloc_new W _)
 have hJ1:J [] (W.alloc (.cells #[.func (.yield l) #[] #[]] 350)):=hJ.alloc _ h0
 have hs1:W.heap.size+1=(W.alloc (.cells #[.func (.yield l) #[] #[]] 350)).heap.size:=by simp
 refine callsIn_of_wp_marks Tryz.func182 rfl trivial ?_ rfl
 simp only [Tryz.ntmps182,List.size_toArray,List.length_cons,List.length_nil,Nat.reduceAdd,Nat.reduceSub,Array.replicate_succ,Array.replicate_zero,List.push_toArray,List.append_toArray,List.nil_append,List.cons_append]
 gi_wp2
 have hR1:=hRW.kp hW1 h1 h2 h3
 generalize W.alloc (.cells #[.func (.yield l) #[] #[]] 350)=W1 at *
 refine wpIn_loop (fun a' w'=>∃ k Ds,Pg.RgF l Bs W.heap.size k a' Ds∧k≤6∧J (Pg.gQ hv k) w'∧KpN B (w.heap.size+2) W1 w'∧Ds.Nodup∧∀ D∈Ds,W1.heap.size≤D∧w'.heap[D]?=some (.deferred (some []))) (fun a' _=>6-(intOf (a'.tmps.getD 5 undef)).toNat) ?_ ?_
 ·exact ⟨0,[],⟨⟨_,_,_,_,_,_,_,_,_,_,_,_,_,_,_,_,_,_,_,_,_,_,_,_,rfl⟩,rfl⟩,by omega,hJ1,KpN.refl _ _ _,List.nodup_nil,fun D hD=>by cases hD⟩
 rintro ⟨tm,df⟩ wr ⟨k,Ds,⟨⟨u3,u4,u6,u7,u8,u9,u10,u11,u12,u13,u14,u15,u16,u17,u18,u19,u20,u21,u22,u23,u24,u25,u26,u27,htm⟩,hdf⟩,hk6,hJk,hKk,hnd,hDs⟩
 dsimp only at htm hdf
 subst htm hdf
 have hRr:=hR1.kp hKk.1 h1 h2 h3
 have hyr:=hKk.1.cell hy1 (fun h=>by have:=hB W.heap.size h;omega)
 have hn1:1≤n:=by omega
 have hgr:∀ V:World,V.grownBy V.drew none:=fun V=>⟨rfl,rfl,rfl,Nat.le_refl _,fun _ _ _=>rfl⟩
 have hJd:∀ xs V,J xs V→J xs V.drew:=fun xs V h=>hJ xs V V.drew none h (hgr V) (fun r e=>by cases e)
 by_cases hk:k=6
 ·subst hk
  have hob:wr.drew.cell? ⟨Bs,0,none⟩=_:=hRr.box
  have hoo:wr.drew.cell? ⟨mb,418,none⟩=_:=hRr.out
  have hoy:wr.drew.cell? ⟨W.heap.size,0,none⟩=_:=hyr
  obtain ⟨fn,tmps,assign,body,hy,hRo⟩:=hY (Pg.gQ hv 6) 390 wr.drew (hJd _ _ hJk) (.inr rfl)
  have hrv:∃ v,Pg.aD (R 390)=v:=⟨_,rfl⟩
  obtain ⟨rv,hrv⟩:=hrv
  rw [hrv] at hoo hy
  (try dsimp only at hy)
  gi_wp2
  refine aE gi 5 (by kernel_rfl) (by kernel_rfl) (by kernel_rfl) ?_
  simp only [List.take_succ_cons,List.take_zero,List.drop_succ_cons,List.drop_zero]
  repeat still_step
  refine wpStill_nil ?_
  gi_wp2
  refine hRo.mono ?_
  rintro e V' (⟨rfl,hJ',hk'⟩ | ⟨rfl,hJ',hk'⟩)
  ·gi_wp2
   refine eZ (fun V=>J (Pg.eU hv) V) Ds V' hnd (fun D hD=>hk'.2.same D _ (by have:=(hDs D hD).1;omega) (hDs D hD).2 rfl) (fun D V hD hV hd=>hJ.putObj _ hV (by have:=(hDs D hD).1;omega) hd rfl) (fun V hV => ?_) hJ'
   exact ⟨_,results_none rfl _ _ _,⟨_,rfl⟩,.inl ⟨_,rfl,hV⟩⟩
  ·gi_wp2
   refine eZ (fun V=>Jx (Pg.eU hv) V) Ds V' hnd (fun D hD=>hk'.2.same D _ (by have:=(hDs D hD).1;omega) (hDs D hD).2 rfl) (fun D V hD hV hd=>hJx.putObj _ hV (by have:=(hDs D hD).1;omega) hd rfl) (fun V hV => ?_) hJ'
   exact ⟨_,results_none rfl _ _ _,⟨_,rfl⟩,.inr ⟨_,List.prefix_rfl,hV⟩⟩
 ·have hk5:k<6:=by omega
  have hk5':((k:Int)<6):=by omega
  have hob:(wr.alloc (.cells #[.int .i64 k] 3)).drew.cell? ⟨Bs,0,none⟩=some (.pointer (some ⟨mb,27,none⟩)):=(KpM.below (B:=fun _=>False) ((Below.refl _ wr).alloc (Nat.le_refl _) _)).cell hRr.box (fun h=>h)
  have hok:(wr.alloc (.cells #[.int .i64 k] 3)).drew.cell? ⟨wr.heap.size,0,none⟩=some (.int .i64 k):=cell_of_row _ _ 0 _ _ (0,0) (heap_alloc_new wr _)
  gi_wp2
  refine aE gi 5 (by kernel_rfl) (by kernel_rfl) (by kernel_rfl) ?_
  simp only [List.take_succ_cons,List.take_zero,List.drop_succ_cons,List.drop_zero]
  repeat still_step
  refine wpStill_nil ?_
  gi_wp2_with (refine ⟨trivial,?_⟩;gi_at_call 183;refine (callsIn_wide.2 (iA mb (28+k*65) _)).mono ?_;rintro e w9 ⟨rfl,hw9⟩;rw [hw9];clear hw9 w9)
  have hW3b:Below wr.heap.size wr (((wr.alloc (.cells #[.int .i64 k] 3)).alloc (.cells #[.pointer (some ⟨mb,28+k*65,none⟩)] 363)).drew):=(((Below.refl _ wr).alloc (Nat.le_refl _) _).alloc (by simp) _).drew
  have hJ3:J (Pg.gQ hv k) (((wr.alloc (.cells #[.int .i64 k] 3)).alloc (.cells #[.pointer (some ⟨mb,28+k*65,none⟩)] 363)).drew):=hJd _ _ (hJ.alloc _ (hJ.alloc _ hJk))
  have ck:(((wr.alloc (.cells #[.int .i64 k] 3)).alloc (.cells #[.pointer (some ⟨mb,28+k*65,none⟩)] 363)).drew).cell? ⟨wr.heap.size,0,none⟩=some (.int .i64 k):=cell_of_row _ _ 0 _ _ (0,0) (show ((wr.alloc (.cells #[.int .i64 k] 3)).alloc _).heap[wr.heap.size]?=some _ from (Below.heap_alloc _ _ _ (by simp)).trans (heap_alloc_new wr _))
  have ch:(((wr.alloc (.cells #[.int .i64 k] 3)).alloc (.cells #[.pointer (some ⟨mb,28+k*65,none⟩)] 363)).drew).cell? ⟨wr.heap.size+1,0,none⟩=some (.pointer (some ⟨mb,28+k*65,none⟩)):=by
   have e:(wr.alloc (.cells #[.int .i64 k] 3)).heap.size=wr.heap.size+1:=by simp
   rw [← e]
   exact cell_of_row _ _ 0 _ _ (0,0) (show ((wr.alloc (.cells #[.int .i64 k] 3)).alloc _).heap[(wr.alloc (.cells #[.int .i64 k] 3)).heap.size]?=some _ from heap_alloc_new _ _)
  have hs3:(((wr.alloc (.cells #[.int .i64 k] 3)).alloc (.cells #[.pointer (some ⟨mb,28+k*65,none⟩)] 363)).drew).heap.size=wr.heap.size+2:=by simp
  generalize ((wr.alloc (.cells #[.int .i64 k] 3)).alloc (.cells #[.pointer (some ⟨mb,28+k*65,none⟩)] 363)).drew=W3 at *
  have hK3:KpN B (w.heap.size+2) W1 W3:=hKk.tr (KpN.below hW3b)
  have hR3:=hR1.kp hK3.1 h1 h2 h3
  have hy3:=hK3.1.cell hy1 (fun h=>by have:=hB W.heap.size h;omega)
  have hws:=hKk.1.1
  have hG3:2<W3.heap.size:=fB (hR3.tab 0 (by decide))
  have hmb3:mb<W3.heap.size:=fB hR3.out
  refine wpIn_rangeFunc_ownH rfl hn1 (gf:=229) rfl trivial (enters_of Tryz.func229 (by kernel_rfl) rfl)
   (kJ (n-1) (by omega) (wr.heap.size+1) mb (28+k*65) (hv k) (hvl k hk5) (fun A C=>TabAt 2 Lib.deBruijn64tab A→TabAt 2 Lib.deBruijn64tab C) (fun _ _ h=>h) W3 (by omega) hmb3 hG3 ch (hR3.held k hk5) hR3.tab)
   (fun h k x=>k (h x)) (fun V l o o' hl h hc hw x j hj=>((belowK_b (n₀:=W3.heap.size) (Nat.le_refl _) V l o o' hl h hc hw).cell (p:=⟨2,j,none⟩) hG3).trans (x j hj)) (Below.refl _ _) (fun _=>rfl)
   (fun ys V=>J (Pg.gQ hv k++ys.map (fun x=>k*65+x.1)) V∧KpN B (w.heap.size+2) W3 V) (fun c ys V=>c = .ret∧Jx (Pg.gQ hv k++ys.map (fun x=>k*65+x.1)) V∧KpN B (w.heap.size+2) W3 V)
   (OwnFrom.and (fun ys A C row h hg hr=>hJ _ A C row h hg (fun r e=>⟨by have:=(hr r e).1;omega,(hr r e).2⟩)) (KpN.own (Nat.le_refl _)))
   (fun c ys A C row h hg hr=>⟨h.1,hJx _ A C row h.2.1 hg (fun r e=>⟨by have:=(hr r e).1;omega,(hr r e).2⟩),KpN.own (Nat.le_refl _) () A C row h.2.2 hg hr⟩) ⟨by simpa using hJ3,KpN.refl _ _ _⟩
   (fun x a' _=>a'={ tmps:=#[.func (.yield l) #[] #[],.pointer (some ⟨Bs,0,none⟩),.pointer (some ⟨W.heap.size,0,none⟩),.pointer (some ⟨wr.heap.size,0,none⟩),.int .i64 x.1,.int .i64 k,.bool true,.int .i64 k,.pointer (some ⟨mb,27,none⟩),.int .i64 k,.pointer (some ⟨mb,27,none⟩),.pointer (some ⟨mb,28,none⟩),.pointer (some ⟨mb,28+k*65,none⟩),.func (.func 229) #[] #[.pointer (some ⟨wr.heap.size+1,0,none⟩)],.int .i64 x.1,u15,u16,u17,u18,u19,u20,u21,u22,u23,u24,u25,u26,u27,undef,undef,undef,undef,undef,undef],defers:=[] })
   (fun _ _ _ _ _ _ hs _ _=>hs) ?assign ?body ?done ?stop
  case assign =>
   intro l2 pre x V K hI hK
   gi_wp2
   exact hK _ _ (KeepsFrom.refl _ _) (fun h=>h) hI rfl
  case body =>
   rintro l2 pre x a' V hl ⟨rl,hrl⟩ ⟨hJV,hKV⟩ rfl hpl
   obtain ⟨hx64,hxb⟩:=Pg.fu.1 x.2
   have hKV1:=hK3.tr hKV
   have hRV:=hR1.kp hKV1.1 h1 h2 h3
   have hir:Pg.isR (k*65+x.1) := .inl (by omega)
   have vb:V.drew.cell? ⟨Bs,0,none⟩=_:=hRV.box
   have vy:V.drew.cell? ⟨W.heap.size,0,none⟩=_:=hKV1.1.cell hy1 (fun h=>by have:=hB W.heap.size h;omega)
   have vk:V.drew.cell? ⟨wr.heap.size,0,none⟩=_:=hKV.1.cell ck (fun h=>by have:=hB wr.heap.size h;omega)
   have vr:V.drew.cell? ⟨mb,28+k*65+x.1,none⟩=_:=hRV.ring k x.1 hk5 hx64
   obtain ⟨fn,tmps,assign,body,hy,hRo⟩:=hY _ (k*65+x.1) V.drew (hJd _ _ hJV) hir
   obtain ⟨rv,hrv⟩:∃ v,Pg.aD (R (k*65+x.1))=v:=⟨_,rfl⟩
   rw [hrv] at vr hy
   (try dsimp only at hy)
   have hx64':((x.1:Int)<64):=by omega
   have hd1:1≤n-1-1:=by omega
   gi_wp2
   refine aE (bU l2) 10 (by kernel_rfl) (by kernel_rfl) (by kernel_rfl) ?_
   simp only [List.take_succ_cons,List.take_zero,List.drop_succ_cons,List.drop_zero]
   repeat still_step
   refine wpStill_nil ?_
   gi_wp2
   refine (kX gi (bU l2) hRo).mono ?_
   rintro e V' (⟨rfl,hJ',hk'⟩ | ⟨rfl,hJ',hk'⟩)
   ·have hk2:KpN B (w.heap.size+2) V V':=(KpN.below (Below.refl _ V).drew).tr hk'
    gi_wp2
    exact ⟨⟨hk2.2.size,fun i o hi ho hc=>hk2.2.same i o (by omega) ho hc⟩,Pg.KpM.tab hk2.1 h3,by rw [List.map_append,← List.append_assoc];exact hJ',hKV.tr hk2⟩
   ·have hk2:KpN B (w.heap.size+2) V V':=(KpN.below (Below.refl _ V).drew).tr hk'
    gi_wp2
    exact ⟨⟨hk2.2.size,fun i o hi ho hc=>hk2.2.same i o (by omega) ho hc⟩,rfl,by rw [List.map_append,← List.append_assoc];exact hJ',hKV.tr hk2⟩
  case done =>
   rintro D ys V hD hys ⟨hJV,hKV⟩ hdef
   have hJn:J (Pg.gQ hv (k+1)) V:=by
    rw [Pg.iU]
    unfold Pg.jV
    rw [← hys,List.map_map]
    exact hJV
   have hK1:=hK3.tr hKV
   have hnd':(D::Ds).Nodup:=List.nodup_cons.2 ⟨fun h=>by
    have:=(Array.getElem?_eq_some_iff.1 (hDs D h).2).1
    omega,hnd⟩
   have hD':∀ E∈D::Ds,W1.heap.size≤E∧V.heap[E]?=some (.deferred (some [])):=fun E hE=>by
    rcases List.mem_cons.1 hE with rfl | hE
    ·exact ⟨by omega,hdef⟩
    ·obtain ⟨e1,e2⟩:=hDs E hE
     have e3:=(hW3b.block E (Array.getElem?_eq_some_iff.1 e2).1).trans e2
     exact ⟨e1,hKV.2.same E _ (by omega) e3 rfl⟩
   gi_wp2
   refine ⟨⟨k+1,D::Ds,⟨⟨_,_,_,_,_,_,_,_,_,_,_,_,_,_,_,_,_,_,_,_,_,_,_,_,rfl⟩,rfl⟩,by omega,hJn,hK1,hnd',hD'⟩,?_⟩
   show 6-((k:Int)+1).toNat<6-(k:Int).toNat
   omega
  case stop =>
   rintro D c pre V hD hSp ⟨rfl,hJV,hKV⟩ hdef
   have hpre:=Pg.tK (hv:=hv) hk5 hSp
   have hnd':(D::Ds).Nodup:=List.nodup_cons.2 ⟨fun h=>by
    have:=(Array.getElem?_eq_some_iff.1 (hDs D h).2).1
    omega,hnd⟩
   have hD':∀ E∈D::Ds,W1.heap.size≤E∧V.heap[E]?=some (.deferred (some [])):=fun E hE=>by
    rcases List.mem_cons.1 hE with rfl | hE
    ·exact ⟨by omega,hdef⟩
    ·obtain ⟨e1,e2⟩:=hDs E hE
     have e3:=(hW3b.block E (Array.getElem?_eq_some_iff.1 e2).1).trans e2
     exact ⟨e1,hKV.2.same E _ (by omega) e3 rfl⟩
   gi_wp2
   refine eZ (fun V=>Jx (Pg.gQ hv k++pre.map (fun x=>k*65+x.1)) V) (D::Ds) V hnd' (fun E hE=>(hD' E hE).2) (fun E V hE hV hd=>hJx.putObj _ hV (by have:=(hD' E hE).1;omega) hd rfl) (fun V hV => ?_) hJV
   exact ⟨_,results_none rfl _ _ _,⟨_,rfl⟩,.inr ⟨_,hpre,hV⟩⟩
end
end Go.Proofs.YtegmoddppafkfaaGreatDoor
