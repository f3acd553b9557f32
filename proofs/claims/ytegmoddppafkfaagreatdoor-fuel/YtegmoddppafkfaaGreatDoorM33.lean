import Derived.Test.YtegmoddppafkfaaGreatDoorM00
import Derived.Test.YtegmoddppafkfaaGreatDoorM03
import Derived.Test.YtegmoddppafkfaaGreatDoorM08
import Derived.Test.YtegmoddppafkfaaGreatDoorM15
import Derived.Test.YtegmoddppafkfaaGreatDoorM32
set_option maxRecDepth 100000
set_option maxHeartbeats 8000000
namespace Go.Proofs.YtegmoddppafkfaaGreatDoor
section
open Go.RowKit
def EC {σ α:Type} (F:Fence) (n:Nat) (P:Program) (g:Nat) (lb:Array Value) (encs:α→Array Value) (Rd:σ→World→Prop) (Tk:σ→α→World→World→Prop) (En:σ→World→World→Prop) (Nx:σ→σ→Prop) (w:World):Prop :=
 ∀ (l:Nat) (J:σ→World→Prop) (Jt:σ→α→World→Prop) (Jx Je:World→Prop) (W:World),Below w.heap.size w W→w.heap.size+2≤W.heap.size →
  (∀ s V,J s V→Rd s V)→(∀ s x V V',J s V→Tk s x V V'→Jt s x V')→(∀ s V V',J s V→En s V V'→Je V') →
  (∀ s x V,Jt s x V→YieldAt F (n-1) P l (encs x) V fun e V'=>(e = .returned (.bool true)∧∃ s',Nx s s'∧J s' V')∨(e = .returned (.bool false)∧Jx V')) →
  ∀ s,J s W→CallsIn F n P g (#[.func (.yield l) #[] #[]]++lb) W fun e V=>(∃ v,e = .returned v)∧(Je V∨Jx V)
def FJ {σ:Type} (B:Nat) (Nx:σ→σ→Prop) (I:σ→World→Prop) (Ix:World→Prop) (id:Nat) (s:σ) (W:World):Exit→Act→World→Prop
 | .normal,_,V=>KeepsFrom B W V∧∃ s',Nx s s'∧I s' V
 | .exit i,_,V=>i=id∧KeepsFrom B W V∧Ix V
 | _,_,_=>False
theorem Cd {σ α:Type} {F:Fence} {n:Nat} {P:Program} {g:Operand} {ps:Array Tmp} {assign body:Code} {Q:Exit→Act→World→Prop} {a:Act} {w:World} (hro:F.round=none) (h1:1≤n) {gf:Nat} {lb:Array Value}
  (hg:a.eval g = .func (.func gf) #[] lb) (hF:F.fn gf) (eg:∀ args w,(callFunc gf args).run P w = .ok (.enter gf args) w) {encs:α→Array Value} {Rd:σ→World→Prop} {Tk:σ→α→World→World→Prop} {En:σ→World→World→Prop} {Nx:σ→σ→Prop}
  (hseq:EC F (n-1) P gf lb encs Rd Tk En Nx w) (hps:∀ x,(encs x).size=ps.size) (I:σ→World→Prop) (It:σ→α→World→Prop) (Ix Ie:World→Prop) (Bx:σ→α→Act→World→Prop) (id:Nat)
  (hI:OwnFrom w.heap.size I) (hIx:OwnFrom w.heap.size (fun (_:Unit)=>Ix)) (hIe:OwnFrom w.heap.size (fun (_:Unit)=>Ie)) (hBx:∀ s x a',OwnFrom w.heap.size (fun (_:Unit)=>Bx s x a'))
  (hRd:∀ s V,I s V→Rd s V) (hTk:∀ s x V V',I s V→Tk s x V V'→It s x V') (hEn:∀ s V V',I s V→En s V V'→Ie V') (hTko:∀ s x V V',Tk s x V V'→KeepsFrom w.heap.size V V') (hEno:∀ s V V',En s V V'→KeepsFrom w.heap.size V V') (s0:σ) (h0:I s0 w)
  (hassign:∀ (l:Nat) (s:σ) (x:α) (W:World) (K:Act→World→Prop),It s x W→(∀ a' W',KeepsFrom w.heap.size W W'→Bx s x a' W'→K a' W')→assign.wpIn (F.inRound l) (n-1-1) P (Exit.then K (fun _ _ _=>False)) { tmps:=(ps.zip (encs x)).foldl (fun t (p,v)=>t.setIfInBounds p v) a.tmps,defers:=[] } W)
  (hbody:∀ (l:Nat) (s:σ) (x:α) (a':Act) (W:World),w.heap.size≤l→Bx s x a' W→body.wpIn (F.inRound l) (n-1-1) P (FJ w.heap.size Nx I Ix id s W) a' W)
  (hdone:∀ (D:Nat) (W:World),w.heap.size≤D→Ie W→W.heap[D]?=some (.deferred (some []))→Q .normal { a with defers:={ target := .collected D,args:=#[] }::a.defers } W)
  (hstop:∀ (D:Nat) (W:World),w.heap.size≤D→Ix W→W.heap[D]?=some (.deferred (some []))→(Code.exit id).wpIn F n P Q { a with defers:={ target := .collected D,args:=#[] }::a.defers } W) :
  (Code.rangeFunc g ps assign body).wpIn F n P Q a w:=by
 refine wpIn_rangeFunc fun fn hfn => ?_
 rw [hro]
 obtain ⟨lp,hlp⟩:∃ lp:LoopState→Option Code→Loop,lp=fun st pe=>{ state:=st,pending:=pe,fn,tmps:=a.tmps,params:=ps,assign,body,defers:=w.heap.size }:=⟨_,rfl⟩
 have hent:=run_enterLoop_outer (P:=P) (w:=w) fn a.tmps ps assign body
 obtain ⟨V,hV⟩:∃ V,(w.alloc (.deferred (some []))).alloc (.loop (lp .ready none))=V:=⟨_,rfl⟩
 have hb:Below w.heap.size w V:=hV ▸ (((Below.refl _ w).alloc (Nat.le_refl _) _).alloc (by simp) _)
 have hj:I s0 V∧V.heap[w.heap.size+1]?=some (.loop (lp .ready none))∧V.heap[w.heap.size]?=some (.deferred (some [])):=by
  rw [← hV]
  exact ⟨hI.alloc _ (hI.alloc _ h0),by have:=heap_alloc_new (w.alloc (.deferred (some []))) (.loop (lp .ready none));simpa using this,(Below.heap_alloc _ _ _ (by simp)).trans (heap_alloc_new w _)⟩
 refine ⟨w.heap.size+1,[{ target := .collected w.heap.size,args:=#[] }],V,{ target := .fn (.func gf) lb,args:=#[.func (.yield (w.heap.size+1)) #[] #[]] },V,gf,#[.func (.yield (w.heap.size+1)) #[] #[]]++lb,V,
  by rw [← hV,hlp];exact hent,by simp only [resolve,hg];simp [go_sem],fun f' hf'=>by simp [Target.leads] at hf';exact hf' ▸ hF,by simp [invoke,go_sem,eg],fun _=>h1,?_⟩
 have hvs:V.heap.size=w.heap.size+2:=by rw [← hV];simp
 refine (hseq (w.heap.size+1) (fun s W=>I s W∧W.heap[w.heap.size+1]?=some (.loop (lp .ready none))∧W.heap[w.heap.size]?=some (.deferred (some []))) (fun s x W=>It s x W∧W.heap[w.heap.size+1]?=some (.loop (lp .ready none))∧W.heap[w.heap.size]?=some (.deferred (some [])))
  (fun W=>Ix W∧W.heap[w.heap.size+1]?=some (.loop (lp .done (some (.exit id))))∧W.heap[w.heap.size]?=some (.deferred (some []))) (fun W=>Ie W∧W.heap[w.heap.size+1]?=some (.loop (lp .ready none))∧W.heap[w.heap.size]?=some (.deferred (some []))) V hb (by omega) (fun s W h=>hRd s W h.1) (fun s x A B h k => ?_) (fun s A B h k => ?_) ?_ s0 hj).mono ?_
 ·have hk:=hTko s x A B k
  exact ⟨hTk s x A B h.1 k,hk.same _ _ (by omega) h.2.1 rfl,hk.same _ _ (Nat.le_refl _) h.2.2 rfl⟩
 ·have hk:=hEno s A B k
  exact ⟨hEn s A B h.1 k,hk.same _ _ (by omega) h.2.1 rfl,hk.same _ _ (Nat.le_refl _) h.2.2 rfl⟩
 ·intro s x W ⟨hi,hl,hd⟩
  have hy:=run_yield (P:=P) (args:=encs x) hl (by rw [hlp];exact hps x)
  rw [hlp] at hy
  refine ⟨fn,_,assign,body,hy,roundIn_of_wpIn hfn (hassign _ s x W _ hi fun a' Wa hka hia=>⟨_,run_beginRound (hka.same _ _ (by omega) hl rfl) (by rw [hlp]),?_⟩)⟩
  have hl:=hka.same _ _ (by omega) hl rfl
  have hd:=hka.same _ _ (Nat.le_refl _) hd rfl
  have hlt:=(Array.getElem?_eq_some_iff.1 hl).1
  refine wpIn_mono (hbody _ s x a' _ (by omega) ((hBx s x a').putObj (s:=()) _ hia (by omega) hl rfl)) ?_
  intro e a' W' hp
  have hfin:∀ (jump:Option Code),KeepsFrom w.heap.size (Wa.putObj (w.heap.size+1) (.loop { lp .ready none with state:=LoopState.busy })) W' →
    (Instr.endRound (w.heap.size+1) jump).run P W' = .ok (.bool jump.isNone) (W'.putObj (w.heap.size+1) (.loop (lp (if jump.isNone then .ready else .done) jump))) ∧
    W'.heap[w.heap.size+1]?=some (.loop { lp .ready none with state:=LoopState.busy }) ∧
    (W'.putObj (w.heap.size+1) (.loop (lp (if jump.isNone then .ready else .done) jump))).heap[w.heap.size+1]?=some (.loop (lp (if jump.isNone then .ready else .done) jump)) ∧
    (W'.putObj (w.heap.size+1) (.loop (lp (if jump.isNone then .ready else .done) jump))).heap[w.heap.size]?=some (.deferred (some [])):=fun jump hk=>by
   have hl':=hk.same _ _ (by omega) (World.putObj_heap_same hlt) rfl
   have hd':=hk.same _ _ (Nat.le_refl _) ((World.putObj_heap_other (by omega)).trans hd) rfl
   have hr:=run_endRound (P:=P) jump hl'
   rw [hlp] at hr ⊢
   exact ⟨hr,by rw [hlp] at hl';exact hl',World.putObj_heap_same (Array.getElem?_eq_some_iff.1 hl').1,(World.putObj_heap_other (by omega)).trans hd'⟩
  cases e with
  | normal =>
   obtain ⟨hk,s',hn,hi'⟩:=hp
   obtain ⟨hr,hl3,hl4,hd4⟩:=hfin none hk
   exact ⟨_,_,hr,.inl ⟨rfl,s',hn,hI.putObj _ hi' (by omega) hl3 rfl,hl4,hd4⟩⟩
  | exit i =>
   obtain ⟨rfl,hk,hi'⟩:=hp
   obtain ⟨hr,hl3,hl4,hd4⟩:=hfin (some (.exit i)) hk
   exact ⟨_,_,hr,.inr ⟨rfl,hIx.putObj (s:=()) _ hi' (by omega) hl3 rfl,hl4,hd4⟩⟩
  | _=>exact hp.elim
 ·rintro e W ⟨⟨v,hv⟩,⟨hi,hl,hd⟩ | ⟨hi,hl,hd⟩⟩
  ·subst hv
   exact ⟨none,_,by have:=run_endLoop (P:=P) hl (by rw [hlp];simp);rw [hlp] at this;exact this,hdone _ _ (Nat.le_refl _) (hIe.putObj (s:=()) _ hi (by omega) hl rfl) ((World.putObj_heap_other (by omega)).trans hd)⟩
  ·subst hv
   exact ⟨some (.exit id),_,by have:=run_endLoop (P:=P) hl (by rw [hlp];simp);rw [hlp] at this;exact this,hstop _ _ (Nat.le_refl _) (hIx.putObj (s:=()) _ hi (by omega) hl rfl) ((World.putObj_heap_other (by omega)).trans hd)⟩
end
section
open Go.RowKit Go.Proofs Go.Shelf
attribute [local go_sem] Oper.semAt_some
theorem least {σ:Type} (J:σ→World→Prop) (m:σ→Nat):∃ μ:World→Nat,∀ W s,J s W→μ W≤m s∧∃ s',J s' W∧m s'=μ W:=by
 have h:∀ W:World,∃ k,∀ s,J s W→k≤m s∧∃ s',J s' W∧m s'=k:=fun W=>by
  by_cases h:∃ s,J s W
  ·obtain ⟨s,hs⟩:=h
   have:∀ n s,J s W→m s=n→∃ k,∀ s,J s W→k≤m s∧∃ s',J s' W∧m s'=k:=by
    intro n
    induction n using Nat.strongRecOn with
    | _ n ih =>
     intro s hs hn
     by_cases hl:∃ s',J s' W∧m s'<n
     ·obtain ⟨s',h1,h2⟩:=hl
      exact ih _ h2 s' h1 rfl
     ·exact ⟨n,fun x hx=>⟨Nat.le_of_not_lt (fun e=>hl ⟨x,hx,e⟩),s,hs,hn⟩⟩
   exact this _ s hs rfl
  ·exact ⟨0,fun s hs=>(h ⟨s,hs⟩).elim⟩
 exact ⟨fun W=>Classical.choose (h W),fun W=>Classical.choose_spec (h W)⟩
namespace Pg
def gQ (r:RSt) (f:Tn):RSt:={ r with now:=f.t,tm:=r.tm.eraseP (fun x=>x.t == f.t) }
end Pg
section
variable (w:World) (lo mb pb:Nat) (r:Pg.RSt) (hl:Pg.Lw lo) (h:Pg.MT w lo mb pb r) (hk:Pg.TOK r.now r.tm)
theorem xH (hl:Pg.Lw lo) (h:Pg.MT w lo mb pb r) (u:Nat) (hu:u<18446744073709551616) (h1:r.now≤u) (h2:∀ x∈r.tm,u≤x.t):Calls Tryz.prog 137 #[.pointer (some ⟨mb,27,none⟩),.int .u64 u] w fun e w'=>e = .returned (.tuple #[])∧Hid (Pg.MT w' lo mb pb { r with now:=u }∧Pg.Rf lo w w'):=by
 obtain ⟨qv,wh,a,b⟩:=h.ex
 refine Calls.mono (rE w lo mb pb qv (r.m wh) r.tm u a b h.lo' h.now hu h1 h2) ?_
 rintro e w' ⟨rfl,h3⟩
 obtain ⟨wh',a2,b2,c2⟩:=h3.out
 exact ⟨rfl,⟨⟨qv,wh',a2,b2⟩,Nat.le_trans h.lo' c2.bel.size,h.act,hu,h.tml,Pg.fq hl c2.bel h.tab,Pg.bT hl c2.bel h.tab5⟩,c2⟩
theorem mY (hl:Pg.Lw lo) (h:Pg.MT w lo mb pb r) (hk:Pg.TOK r.now r.tm) (t:Nat):Calls Tryz.prog 104 #[.pointer (some ⟨mb,27,none⟩),.int .u64 t] w fun e w'=>e = .returned (.bool (Pg.bD r.now t r.tm))∧Below w.heap.size w w':=by
 obtain ⟨qv,wh,a,b⟩:=h.ex
 exact wB w lo mb pb qv (r.m wh) r.tm t a b (Nat.le_trans h.tml (by decide)) h.now (fun x hx=>(hk.2 x hx).1) (Nat.lt_of_lt_of_le hl.g h.lo') h.tab
theorem xG (hl:Pg.Lw lo) (h:Pg.MT w lo mb pb r) (hk:Pg.TOK r.now r.tm) (f:Pg.Tn) (hf:(Pg.srt (fun x:Pg.Tn=>x.t) r.tm).head?=some f):Calls Tryz.prog 136 #[.pointer (some ⟨mb,27,none⟩)] w fun e w'=>e = .returned (.agg #[.string f.ev,.string f.nm])∧Hid (Pg.MT w' lo mb pb (Pg.gQ r f)∧Pg.Rf lo w w'):=by
 obtain ⟨qv,wh,a,b⟩:=h.ex
 have hft:f.t<18446744073709551616:=by
  obtain ⟨_,_,_,hb⟩:=b
  exact hb f (Pg.jC hf).1
 refine Calls.mono (As w lo mb pb qv (r.m wh) r.tm f a b h.lo' (Nat.le_trans h.tml (by decide)) h.now (fun x hx=>(hk.2 x hx).1) (Nat.lt_of_lt_of_le hl.g h.lo') h.tab hf) ?_
 rintro e w' ⟨rfl,h2⟩
 obtain ⟨wh',a2,b2,c2⟩:=h2.out
 exact ⟨rfl,⟨⟨qv,wh',a2,b2⟩,Nat.le_trans h.lo' c2.bel.size,h.act,hft,Nat.le_trans (List.length_eraseP_le ..) h.tml,Pg.fq hl c2.bel h.tab,Pg.bT hl c2.bel h.tab5⟩,c2⟩
end
namespace Pg
theorem uA {now t:Nat} {T:List Tn} (h:bD now t T=true):∃ f,(srt (fun x:Tn=>x.t) T).head?=some f∧f.t≤max t now:=by
 unfold bD at h
 cases hh:(srt (fun x:Tn=>x.t) T).head? with
 | none=>rw [hh] at h;cases h
 | some f=>rw [hh] at h;exact ⟨f,rfl,of_decide_eq_true h⟩
theorem mZ {now t:Nat} {T:List Tn} (h:bD now t T=false):∀ x∈T,max t now≤x.t:=fun x hx=>by
 unfold bD at h
 cases hh:(srt (fun x:Tn=>x.t) T).head? with
 | none =>
  have:x∈srt (fun x:Tn=>x.t) T:=jc.2 hx
  rw [List.head?_eq_none_iff.1 hh] at this
  cases this
 | some f =>
  rw [hh] at h
  have h1:=of_decide_eq_false h
  have h2:=(jC hh).2.1 x hx
  omega
def Gj (lo mb pb Bw Bt t:Nat) (s:Nat×RSt) (V:World):Prop:=s.1≤200∧MT V lo mb pb s.2∧TOK s.2.now s.2.tm∧V.cell? ⟨Bw,0,none⟩=some (.pointer (some ⟨mb,27,none⟩))∧V.cell? ⟨Bt,0,none⟩=some (.int .u64 t)
def FP (lo mb pb t:Nat) (s:Nat×RSt) (f:Tn) (V V':World):Prop:=bD s.2.now t s.2.tm=true∧(srt (fun x:Tn=>x.t) s.2.tm).head?=some f∧MT V' lo mb pb (gQ s.2 f)∧Rf lo V V'
def FO (lo mb pb t:Nat) (s:Nat×RSt) (V V':World):Prop:=bD s.2.now t s.2.tm=false∧MT V' lo mb pb { s.2 with now:=max t s.2.now }∧Rf lo V V'
def tnV (x:Tn):Array Value:=#[.agg #[.string x.ev,.string x.nm]]
end Pg
theorem Ff (n:Nat) (hn:1≤n) (w:World) (lo mb pb Bw Bt t:Nat) (ht:t<18446744073709551616) (hl:Pg.Lw lo) :
  EC Fence.wide n Tryz.prog 135 #[.pointer (some ⟨Bw,0,none⟩),.pointer (some ⟨Bt,0,none⟩)] Pg.tnV (fun s V=>Pg.Gj lo mb pb Bw Bt t s V∧∀ V':World,Below V.heap.size V V'→V'.cell? ⟨Bw,0,none⟩=some (.pointer (some ⟨mb,27,none⟩))∧V'.cell? ⟨Bt,0,none⟩=some (.int .u64 t)) (Pg.FP lo mb pb t) (Pg.FO lo mb pb t) (fun s s'=>s'.1=s.1+1) w:=by
 intro l J Jt Jx Je W _ _ hRd hTk hEn hY s hs
 obtain ⟨μ,hμ⟩:=least J (fun s=>201-s.1)
 have HRd:Hid _:=hRd
 have HTk:Hid _:=hTk
 have HEn:Hid _:=hEn
 have HY:Hid _:=hY
 have HM:Hid _:=hμ
 clear hRd hTk hEn hY hμ
 refine callsIn_of_wp Tryz.func135 rfl trivial ?_ rfl
 simp only [Tryz.ntmps135,List.size_toArray,List.length_cons,List.length_nil,Nat.reduceAdd,Nat.reduceSub,Array.replicate_succ,Array.replicate_zero,List.push_toArray,List.append_toArray,List.nil_append,List.cons_append]
 gi_wp2
 gi_loopw [] (fun wr=>Hid (∃ s,J s wr)) (fun wr=>μ wr)
 case atStart=>exact ⟨s,hs⟩
 case round =>
  obtain ⟨s1,hs1⟩:=hrel.out
  obtain ⟨_,⟨k,r⟩,hJ,hm⟩:=HM.out wr s1 hs1
  obtain ⟨⟨hk,hMT,hTO,cw,ct⟩,hbc⟩:=HRd.out _ _ hJ
  have HJ:Hid _:=hJ
  have HMm:Hid _:=hm
  dsimp only at hk hMT hTO
  have HH:Hid _:=mY wr lo mb pb r hl hMT hTO t
  clear hs1 hrel hJ hm
  cases hd:Pg.bD r.now t r.tm with
  | false =>
   rw [hd] at HH
   have hle:=hMT.now
   have HT:Hid (∀ V,Below wr.heap.size wr V→Calls Tryz.prog 137 #[.pointer (some ⟨mb,27,none⟩),.int .u64 (max (t:Int) (r.now:Int))] V fun e w'=>e = .returned (.tuple #[])∧Hid (Je w')):=fun V hV=>by
    rw [show max (t:Int) (r.now:Int)=((max t r.now:Nat):Int) by omega]
    refine Calls.mono (xH V lo mb pb r hl (hMT.below hl hV) (max t r.now) (by omega) (by omega) (Pg.mZ hd)) ?_
    rintro e w' ⟨rfl,h⟩
    exact ⟨rfl,HEn.out (k,r) wr w' HJ.out ⟨hd,h.out.1,(Pg.RfE.of hV hMT.lo').trans h.out.2⟩⟩
   have HB:Hid (∀ V,Below wr.heap.size wr V→V.cell? ⟨mb,27,none⟩=some (.int .u64 r.now)∧V.cell? ⟨Bw,0,none⟩=some (.pointer (some ⟨mb,27,none⟩))∧V.cell? ⟨Bt,0,none⟩=some (.int .u64 t)):=fun V hV=>by
    obtain ⟨qv,wh,a,b⟩:=(hMT.below hl hV).ex
    exact ⟨a.cell 27 (by decide),hbc V hV⟩
   clear hMT hTO hd hbc
   gi_wp2_with (refine ⟨trivial,?_⟩;gi_at_call 104;refine (callsIn_wide.2 HH.out).mono ?_;rintro e w1 ⟨rfl,hb1⟩;have hb1d:=hb1.drew;obtain ⟨c0,c1,c2⟩:=HB.out _ hb1d)
   refine aF gb 7 (by kernel_rfl) (by kernel_rfl) (by kernel_rfl) ?_
   simp only [List.take_succ_cons,List.take_zero,List.drop_succ_cons,List.drop_zero]
   repeat still_step
   refine wpStill_nil ?_
   gi_wp2_with (refine ⟨trivial,?_⟩;gi_at_call 137;refine (callsIn_wide.2 (HT.out _ hb1d)).mono ?_;rintro e w2 ⟨rfl,h2⟩)
   go_end0
   exact ⟨⟨_,rfl⟩,.inl h2.out⟩
  | true =>
   rw [hd] at HH
   obtain ⟨f,hf,_⟩:=Pg.uA hd
   have HT:Hid (∀ V,Below wr.heap.size wr V→Calls Tryz.prog 136 #[.pointer (some ⟨mb,27,none⟩)] V fun e w'=>e = .returned (.agg #[.string f.ev,.string f.nm])∧YieldAt Fence.wide (n-1) Tryz.prog l #[.agg #[.string f.ev,.string f.nm]] w' fun e V'=>(e = .returned (.bool true)∧∃ s',s'.1=k+1∧J s' V')∨(e = .returned (.bool false)∧Jx V')):=fun V hV=>by
    refine Calls.mono (xG V lo mb pb r hl (hMT.below hl hV) hTO f hf) ?_
    rintro e w' ⟨rfl,h⟩
    exact ⟨rfl,HY.out (k,r) f w' (HTk.out (k,r) f wr w' HJ.out ⟨hd,hf,h.out.1,(Pg.RfE.of hV hMT.lo').trans h.out.2⟩)⟩
   have HB:Hid (∀ V,Below wr.heap.size wr V→V.cell? ⟨Bw,0,none⟩=some (.pointer (some ⟨mb,27,none⟩))):=fun V hV=>(hbc V hV).1
   clear hMT hTO hd hbc hf
   gi_wp2_with (refine ⟨trivial,?_⟩;gi_at_call 104;refine (callsIn_wide.2 HH.out).mono ?_;rintro e w1 ⟨rfl,hb1⟩;have c1:=HB.out _ hb1)
   refine ⟨trivial,?_⟩
   gi_at_call 136
   refine (callsIn_wide.2 (HT.out _ hb1)).mono ?_
   rintro e w2 ⟨rfl,hy0⟩
   obtain ⟨fn,tmps,assign,body,hy,hR⟩:=hy0
   gi_wp2
   refine hR.mono ?_
   rintro e W3 (⟨rfl,s',hs',hJ'⟩ | ⟨rfl,hJx⟩)
   ·gi_wp2
    go_roundw
    case rel=>exact ⟨s',hJ'⟩
    case measure =>
     have h1:=(HM.out W3 s' hJ').1
     have h2:=HMm.out
     omega
   ·gi_wp2
    refine bodyPost_ret (results_none rfl _ _ _) rfl ?_
    exact ⟨⟨_,rfl⟩,.inr hJx⟩
namespace Pg
def dr (an:RSt→ByteArray→RSt) (t:Nat):Nat→Nat→RSt→List (ByteArray×RSt)×RSt
 | 0,_,r=>([],r)
 | n+1,k,r=>if bD r.now t r.tm=true then match (srt (fun x:Tn=>x.t) r.tm).head? with
   | none=>([],r)
   | some f=>if (bm an (gQ r f) f.ev).fin=0 then
     if k+1=200∧bD (bm an (gQ r f) f.ev).now t (bm an (gQ r f) f.ev).tm=true then ([(f.ev,bm an (gQ r f) f.ev)],{ bm an (gQ r f) f.ev with fin:=6 })
     else ((f.ev,bm an (gQ r f) f.ev)::(dr an t n (k+1) (bm an (gQ r f) f.ev)).1,(dr an t n (k+1) (bm an (gQ r f) f.ev)).2)
    else ([(f.ev,bm an (gQ r f) f.ev)],bm an (gQ r f) f.ev)
  else ([],{ r with now:=max t r.now })
section
variable {an:RSt→ByteArray→RSt} {t n k:Nat} {r:RSt} {f:Tn}
theorem yW (h:bD r.now t r.tm=false):dr an t (n+1) k r=([],{ r with now:=max t r.now }):=by
 unfold dr
 rw [if_neg (by rw [h];decide)]
theorem r9 (h:bD r.now t r.tm=true) (hf:(srt (fun x:Tn=>x.t) r.tm).head?=some f) {r2:RSt} (h2:bm an (gQ r f) f.ev=r2):dr an t (n+1) k r=if r2.fin=0 then (if k+1=200∧bD r2.now t r2.tm=true then ([(f.ev,r2)],{ r2 with fin:=6 }) else ((f.ev,r2)::(dr an t n (k+1) r2).1,(dr an t n (k+1) r2).2)) else ([(f.ev,r2)],r2):=by
 conv=>lhs;unfold dr
 rw [if_pos h,hf]
 dsimp only
 rw [h2]
end
def stC (x:(ByteArray×RSt)×Value):List Value:=[.string x.1.1,.int .u64 x.1.2.now,x.2]
def rQ (W:World) (base:Nat) (sv:Value) (L:List (ByteArray×RSt)):Prop:=∃ vs:List Value,vs.length=L.length∧W.ownsRow base 63 3 sv L.length ((L.zip vs).flatMap stC)
theorem rQ.kd {E:TypeId→Prop} {W W':World} {base:Nat} {sv:Value} {L:List (ByteArray×RSt)} (h:rQ W base sv L) (hk:Kd E W W') (hE:¬ E 63):rQ W' base sv L:=by
 obtain ⟨vs,a,b⟩:=h
 exact ⟨vs,a,Kd.row hk b hE⟩
theorem rQ.n {W:World} {base:Nat} {sv:Value} {L:List (ByteArray×RSt)} (h:rQ W base sv L):∃ a c,sv = .slice a L.length c:=by
 obtain ⟨vs,_,h⟩:=h
 rcases h.2 with ⟨a,b⟩ | ⟨g,cap,cur,a,_⟩
 ·exact ⟨none,0,by rw [a,b]⟩
 ·exact ⟨_,_,a⟩
theorem rQ.kind {W:World} {base:Nat} {sv:Value} {L:List (ByteArray×RSt)} (h:rQ W base sv L):∀ k,sv.ownBlock=some k→base≤k∧∃ c,W.heap[k]?=some (.cells c 63 (0,0)):=fun k hk=>by
 obtain ⟨vs,_,h⟩:=h
 rcases h.2 with ⟨a,b⟩ | ⟨g,cap,cur,a,b,c,_⟩
 ·subst a;cases hk
 ·subst a
  cases hk
  exact ⟨b,cur,c⟩
structure CkS (w W:World) (mb t:Nat) (sv:Value) (L:List (ByteArray×RSt)):Prop where
 b0:Boxed W w.heap.size 92 (.pointer (some ⟨mb,0,none⟩))
 b1:Boxed W (w.heap.size+1) 37 (.int .u64 t)
 b2:Boxed W (w.heap.size+2) 53 sv
 b3:Boxed W (w.heap.size+3) 198 (.pointer (some ⟨mb,27,none⟩))
 b4:Boxed W (w.heap.size+4) 37 (.int .u64 t)
 st:rQ W w.heap.size sv L
theorem CkS.kd {E:TypeId→Prop} {w W W':World} {mb t:Nat} {sv:Value} {L:List (ByteArray×RSt)} (h:CkS w W mb t sv L) (hk:Kd E W W') (h0:¬ E 92) (h1:¬ E 37) (h2:¬ E 53) (h3:¬ E 198) (h4:¬ E 63):CkS w W' mb t sv L :=
 ⟨hk.boxed h.b0 h0,hk.boxed h.b1 h1,hk.boxed h.b2 h2,hk.boxed h.b3 h3,hk.boxed h.b4 h1,h.st.kd hk h4⟩
theorem CkS.rf {lo:Nat} {w W W':World} {mb t:Nat} {sv:Value} {L:List (ByteArray×RSt)} (h:CkS w W mb t sv L) (hk:Rf lo W W'):CkS w W' mb t sv L:=h.kd hk.kd (by unfold b8;decide) (by unfold b8;decide) (by unfold b8;decide) (by unfold b8;decide) (by unfold b8;decide)
theorem CkS.no {w W W':World} {mb t:Nat} {sv:Value} {L:List (ByteArray×RSt)} (h:CkS w W mb t sv L) (hk:Kd (fun _=>False) W W'):CkS w W' mb t sv L:=h.kd hk (fun h=>h) (fun h=>h) (fun h=>h) (fun h=>h) (fun h=>h)
theorem CkS.below {w W W':World} {mb t:Nat} {sv:Value} {L:List (ByteArray×RSt)} (h:CkS w W mb t sv L) (hb:Below W.heap.size W W'):CkS w W' mb t sv L:=h.no (dd hb)
structure CkL (w W:World) (lo mb pb:Nat) (ps:List PS) (r:RSt):Prop where
 mt:MT W lo mb pb r
 rf:Rf lo w W
 ok:ROK ps r
 qk:QOK r
 q0:r.q=[]
section
variable {w W W':World} {lo mb pb:Nat} {ps:List PS} {r:RSt}
theorem CkL.gr {row:Option Nat} (h:CkL w W lo mb pb ps r) (hl:Lw lo) (hlo:lo≤w.heap.size) (hg:W.grownBy W' row) (hr:∀ r,row=some r→w.heap.size≤r∧∃ o:Obj,W.heap[r]?=some o∧o.isCells=false):CkL w W' lo mb pb ps r :=
 ⟨h.mt.gr hl hg (fun r e=>⟨Nat.le_trans hlo (hr r e).1,(hr r e).2⟩),h.rf.gr hlo hg hr,h.ok,h.qk,h.q0⟩
theorem CkL.below (h:CkL w W lo mb pb ps r) (hl:Lw lo) (hb:Below W.heap.size W W'):CkL w W' lo mb pb ps r:=⟨h.mt.below hl hb,h.rf.trans (RfE.of hb h.mt.lo'),h.ok,h.qk,h.q0⟩
theorem CkL.take {f:Tn} (h:CkL w W lo mb pb ps r) (hf:(srt (fun x:Tn=>x.t) r.tm).head?=some f) (hm:MT W' lo mb pb (gQ r f)) (hr:Rf lo W W'):CkL w W' lo mb pb ps (gQ r f) :=
 ⟨hm,h.rf.trans hr,⟨h.ok.act,h.ok.kept⟩,⟨h.qk.q,h.qk.fin,hm.now,fun x hx=>⟨(jC hf).2.1 x (List.mem_of_mem_eraseP hx),(h.qk.tm.2 x (List.mem_of_mem_eraseP hx)).2⟩⟩,h.q0⟩
theorem CkL.ah {t:Nat} (h:CkL w W lo mb pb ps r) (hd:bD r.now t r.tm=false) (hm:MT W' lo mb pb { r with now:=max t r.now }) (hr:Rf lo W W'):CkL w W' lo mb pb ps { r with now:=max t r.now } :=
 ⟨hm,h.rf.trans hr,⟨h.ok.act,h.ok.kept⟩,⟨h.qk.q,h.qk.fin,hm.now,fun x hx=>⟨mZ hd x hx,(h.qk.tm.2 x hx).2⟩⟩,h.q0⟩
theorem CkL.own {P:Nat→Prop} (h:CkL w W lo mb pb ps r) (hl:Lw lo) (hlo:lo≤w.heap.size) (hm:Mo P W W') (hP:∀ k,P k→w.heap.size≤k∧∃ c t,W.heap[k]?=some (.cells c t (0,0))∧¬ b8 t):CkL w W' lo mb pb ps r :=
 ⟨h.mt.moU hl hm (fun k hk=>⟨Nat.le_trans hlo (hP k hk).1,(hP k hk).2⟩),RfE.BQ h.rf hlo (hm.mono (fun k _ hk=>(hP k hk).1)),h.ok,h.qk,h.q0⟩
end
section
variable (w:World) (lo mb pb:Nat) (ps:List PS) (an:RSt→ByteArray→RSt) (t:Nat) (r0:RSt)
def CkI (s:Nat×RSt) (W:World):Prop:=∃ L sv,L.length=s.1∧s.1≤200∧(s.1=200→bD s.2.now t s.2.tm=false)∧s.2.fin=0∧CkL w W lo mb pb ps s.2∧CkS w W mb t sv L∧dr an t 201 0 r0=(L++(dr an t (201-s.1) s.1 s.2).1,(dr an t (201-s.1) s.1 s.2).2)
def CkT (s:Nat×RSt) (f:Tn) (W:World):Prop:=∃ L sv,L.length=s.1∧s.1<200∧f.ev.size≤1000000∧bD s.2.now t s.2.tm=true∧(srt (fun x:Tn=>x.t) s.2.tm).head?=some f∧CkL w W lo mb pb ps (gQ s.2 f)∧CkS w W mb t sv L∧dr an t 201 0 r0=(L++(dr an t (201-s.1) s.1 s.2).1,(dr an t (201-s.1) s.1 s.2).2)
def CkF (W:World):Prop:=∃ L sv r,L.length≤200∧CkL w W lo mb pb ps r∧CkS w W mb t sv L∧dr an t 201 0 r0=(L,r)
variable {w lo mb pb ps an t r0}
theorem CkI.Eu {s:Nat×RSt} {f:Tn} {V V':World} (h:CkI w lo mb pb ps an t r0 s V) (k:FP lo mb pb t s f V V'):CkT w lo mb pb ps an t r0 s f V':=by
 obtain ⟨L,sv,a,b,c,_,d,e,g⟩:=h
 obtain ⟨k1,k2,k3,k4⟩:=k
 have hb:s.1<200:=by
  rcases Nat.lt_or_ge s.1 200 with h | h
  ·exact h
  ·have:=c (Nat.le_antisymm b h)
   rw [k1] at this
   cases this
 exact ⟨L,sv,a,hb,(d.qk.tm.2 f (jC k2).1).2,k1,k2,d.take k2 k3 k4,e.rf k4,g⟩
theorem CkI.FI {s:Nat×RSt} {V V':World} (h:CkI w lo mb pb ps an t r0 s V) (k:FO lo mb pb t s V V'):CkF w lo mb pb ps an t r0 V':=by
 obtain ⟨L,sv,a,b,c,_,d,e,g⟩:=h
 obtain ⟨k1,k2,k3⟩:=k
 refine ⟨L,sv,_,by omega,d.ah k1 k2 k3,e.rf k3,?_⟩
 rw [show 201-s.1=(200-s.1)+1 by omega,yW k1,List.append_nil] at g
 exact g
theorem CkI.gr {s:Nat×RSt} {V V':World} {row:Option Nat} (h:CkI w lo mb pb ps an t r0 s V) (hl:Lw lo) (hlo:lo≤w.heap.size) (hg:V.grownBy V' row) (hr:∀ r,row=some r→w.heap.size≤r∧∃ o:Obj,V.heap[r]?=some o∧o.isCells=false):CkI w lo mb pb ps an t r0 s V':=by
 obtain ⟨L,sv,a,b,c,i,d,e,g⟩:=h
 exact ⟨L,sv,a,b,c,i,d.gr hl hlo hg hr,e.no (jH hg (fun r e=>(hr r e).2)),g⟩
theorem CkT.gr {s:Nat×RSt} {f:Tn} {V V':World} {row:Option Nat} (h:CkT w lo mb pb ps an t r0 s f V) (hl:Lw lo) (hlo:lo≤w.heap.size) (hg:V.grownBy V' row) (hr:∀ r,row=some r→w.heap.size≤r∧∃ o:Obj,V.heap[r]?=some o∧o.isCells=false):CkT w lo mb pb ps an t r0 s f V':=by
 obtain ⟨L,sv,a,b,c,i,j,d,e,g⟩:=h
 exact ⟨L,sv,a,b,c,i,j,d.gr hl hlo hg hr,e.no (jH hg (fun r e=>(hr r e).2)),g⟩
theorem CkT.below {s:Nat×RSt} {f:Tn} {V V':World} (h:CkT w lo mb pb ps an t r0 s f V) (hl:Lw lo) (hb:Below V.heap.size V V'):CkT w lo mb pb ps an t r0 s f V':=by
 obtain ⟨L,sv,a,b,c,i,j,d,e,g⟩:=h
 exact ⟨L,sv,a,b,c,i,j,d.below hl hb,e.below hb,g⟩
theorem CkF.gr {V V':World} {row:Option Nat} (h:CkF w lo mb pb ps an t r0 V) (hl:Lw lo) (hlo:lo≤w.heap.size) (hg:V.grownBy V' row) (hr:∀ r,row=some r→w.heap.size≤r∧∃ o:Obj,V.heap[r]?=some o∧o.isCells=false):CkF w lo mb pb ps an t r0 V':=by
 obtain ⟨L,sv,r,a,d,e,g⟩:=h
 exact ⟨L,sv,r,a,d.gr hl hlo hg hr,e.no (jH hg (fun r e=>(hr r e).2)),g⟩
theorem Bb {L:List (ByteArray×RSt)} {k:Nat} {r:RSt} {f:Tn} (hk:k<200) (h:bD r.now t r.tm=true) (hf:(srt (fun x:Tn=>x.t) r.tm).head?=some f) (g:dr an t 201 0 r0=(L++(dr an t (201-k) k r).1,(dr an t (201-k) k r).2)) {r2:RSt} (h2:bm an (gQ r f) f.ev=r2) :
  (r2.fin≠0→dr an t 201 0 r0=(L++[(f.ev,r2)],r2))∧(r2.fin=0→k+1=200→bD r2.now t r2.tm=true→dr an t 201 0 r0=(L++[(f.ev,r2)],{ r2 with fin:=6 }))∧(r2.fin=0→¬ (k+1=200∧bD r2.now t r2.tm=true)→dr an t 201 0 r0=((L++[(f.ev,r2)])++(dr an t (201-(k+1)) (k+1) r2).1,(dr an t (201-(k+1)) (k+1) r2).2)):=by
 rw [show 201-k=(201-(k+1))+1 by omega,r9 h hf h2] at g
 refine ⟨fun e => ?_,fun e e2 e3 => ?_,fun e e2 => ?_⟩
 ·rw [if_neg e] at g;exact g
 ·rw [if_pos e,if_pos ⟨e2,e3⟩] at g;exact g
 ·rw [if_pos e,if_neg e2] at g
  rw [g,List.append_assoc]
  rfl
end
end Pg
end
end Go.Proofs.YtegmoddppafkfaaGreatDoor
