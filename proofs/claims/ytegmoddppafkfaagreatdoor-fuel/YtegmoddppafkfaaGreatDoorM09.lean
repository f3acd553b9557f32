import Derived.Test.YtegmoddppafkfaaGreatDoorM00
import Derived.Test.YtegmoddppafkfaaGreatDoorM08
set_option maxRecDepth 100000
set_option maxHeartbeats 8000000
namespace Go.Proofs.YtegmoddppafkfaaGreatDoor
section
open Go.RowKit Go.Proofs Go.Shelf
theorem rL (w:World) (mb o s:Nat) (l:List Pg.Nd) (n:Nat) (x:Pg.Tn) (v:Value) (h:Nat) (hs:s<64) (hh:h<18446744073709551616) (hc:w.cell? ⟨mb,o+s,none⟩=some (Pg.aG l)) (hfz:∀ i,w.frozen? ⟨mb,i,none⟩=false) (hd:w.cell? ⟨mb,o+64,none⟩=some (.int .u64 h)) (hR:Pg.bX w l) (hn:w.heap[n]?=some (.cells (Pg.eh x v) 250 (0,0))) (hnl:n ∉ l.map (·.1)) (hcn:mb≠n) (hcl:mb ∉ l.map (·.1)) :
  Calls Tryz.prog 207 #[.pointer (some ⟨mb,o,none⟩),.int .i64 s,.pointer (some ⟨n,0,none⟩)] w fun e w'=>e = .returned (.tuple #[])∧w'=(Pg.fJ w ⟨mb,o+s,none⟩ l n).drew.setCell ⟨mb,o+64,none⟩ (.int .u64 (Pg.gW h s false)):=by
 have hp:=mN w mb (o+s) l n x v hc (hfz _) hR hn hnl hcn hcl
 have hc1:∀ j,(Pg.fJ w ⟨mb,o+s,none⟩ l n).cell? ⟨mb,j,none⟩=if j=o+s then some (Pg.ndP n) else w.cell? ⟨mb,j,none⟩:=fun j=>by
  have hset:∀ (W:World) (b:Nat) (u:Value),mb≠b→(W.setCell ⟨b,3,none⟩ u).cell? ⟨mb,j,none⟩=W.cell? ⟨mb,j,none⟩:=fun W b u hb=>au (by intro e;injection e with e1;exact hb e1.symm)
  unfold Pg.fJ
  cases hz:l.getLast? with
  | none =>
   dsimp only
   by_cases e:j=o+s
   ·subst e
    rw [if_pos rfl]
    exact World.cell?_setCell_same _ _ _ ((hset _ _ _ hcn).trans hc)
   ·rw [if_neg e,au (by intro h;injection h with h1 h2;exact e h2.symm),hset _ _ _ hcn]
  | some z =>
   have hzl:mb≠z.1:=fun e=>hcl (List.mem_map.2 ⟨z,List.mem_of_getLast? hz,e.symm⟩)
   dsimp only
   by_cases e:j=o+s
   ·subst e
    rw [if_pos rfl]
    exact World.cell?_setCell_same _ _ _ ((hset _ _ _ hzl).trans ((hset _ _ _ hcn).trans hc))
   ·rw [if_neg e,au (by intro h;injection h with h1 h2;exact e h2.symm),hset _ _ _ hzl,hset _ _ _ hcn]
 have hr1:=hc1 (o+s)
 rw [if_pos rfl] at hr1
 have hd1:=hc1 (o+64)
 rw [if_neg (by omega),hd] at hd1
 have hf1:(Pg.fJ w ⟨mb,o+s,none⟩ l n).frozen? ⟨mb,o+64,none⟩=false:=by
  unfold Pg.fJ
  cases l.getLast? <;> simp only [World.frozen?_setCell] <;> exact hfz _
 have hm:=uQ (Pg.fJ w ⟨mb,o+s,none⟩ l n) mb o s (l++[(n,x)]) h hs hh (by rw [hr1,Pg.pk]) hd1 hf1
 rw [show (l++[(n,x)]).isEmpty=false by simp] at hm
 generalize Pg.fJ w ⟨mb,o+s,none⟩ l n=W1 at *
 clear hR hn hnl hcl hc1 hr1 hd1 hf1 hc hd hfz
 go_enter Tryz.func207,Tryz.ntmps207
 go_wp2_with (first
  | (go_at_call 206;refine hp.mono ?_;rintro e w9 ⟨rfl,hw9⟩;rw [hw9];clear hw9 w9)
  | (go_at_call 202;refine hm.mono ?_;rintro e w9 ⟨rfl,hw9⟩;rw [hw9];clear hw9 w9))
 go_end0
 exact ⟨rfl,rfl⟩
namespace Pg
theorem dS (now t:Nat):aC now t≤6:=Nat.min_le_right _ _
theorem ep (now t:Nat):eM now t<64:=Nat.mod_lt _ (by decide)
def place (now t:Nat):Nat:=if aC now t=6 then 390 else aC now t*65+eM now t
theorem eK (now t:Nat):isR (place now t):=by
 have:=dS now t
 have:=ep now t
 unfold place isR
 split <;> omega
structure WhM (W:World) (lo:Nat) (s:MSt) (R:Nat→List Nd):Prop where
 rgs:cZ W lo s.wh R
 held:kC s.wh R
theorem aw.whc {W:World} {lo mb pb:Nat} {qv:Value} {s:MSt} (h:aw W lo mb pb qv s) (i:Nat) (h1:28≤i) (h2:i<419):W.cell? ⟨mb,i,none⟩=some (s.wh i):=by
 rw [h.cell i (by omega)]
 unfold fE
 rw [if_neg (by omega),if_neg (by omega),if_neg (by omega),if_neg (by omega),if_neg (by omega),if_pos h2]
end Pg
theorem Ef (w:World) (lo mb pb:Nat) (qv:Value) (s:Pg.MSt) (R:Nat→List Pg.Nd) (n:Nat) (x:Pg.Tn) (v:Value) (hM:Pg.aw w lo mb pb qv s) (hW:Pg.WhM w lo s R) (hls:lo≤w.heap.size) (hnow:s.now<18446744073709551616) (hxt:x.t<18446744073709551616) (hn:w.heap[n]?=some (.cells (Pg.eh x v) 250 (0,0))) (hnl:∀ q,Pg.isR q→∀ y∈R q,y.1≠n) (hlo:lo≤n) :
  Calls Tryz.prog 172 #[.pointer (some ⟨mb,27,none⟩),.pointer (some ⟨n,0,none⟩)] w fun e w'=>e = .returned (.tuple #[])∧∃ wh',Pg.aw w' lo mb pb qv { s with wh:=wh' }∧Pg.WhM w' lo { s with wh:=wh' } (Pg.upd R (Pg.place s.now x.t) (R (Pg.place s.now x.t)++[(n,x)]))∧Pg.Rf lo w w':=by
 have hn0:w.cell? ⟨n,0,none⟩=some (.int .u64 x.t):=by rw [cell_of_row w _ _ _ _ _ hn];rfl
 have hc27:w.cell? ⟨mb,27,none⟩=some (.int .u64 s.now):=hM.cell 27 (by decide)
 have hsp:=l6 w mb 27 s.now x.t hnow hxt hc27
 have hr:=Pg.eK s.now x.t
 have hmn:=hM.typ hn
 have hty:∀ q,Pg.isR q→mb ∉ (R q).map (·.1):=fun q hq e=>by
  obtain ⟨y,hy,e⟩:=List.mem_map.1 e
  obtain ⟨i,hi⟩:=List.mem_iff_getElem?.1 hy
  exact hM.typ (hW.rgs.nds q hq i y hi) e.symm
 have hnr:∀ q,Pg.isR q→n ∉ (R q).map (·.1):=fun q hq e=>by
  obtain ⟨y,hy,e⟩:=List.mem_map.1 e
  exact hnl q hq y hy e
 have hKl:=Pg.dS s.now x.t
 have hSl:=Pg.ep s.now x.t
 have hpl:Pg.place s.now x.t=if Pg.aC s.now x.t=6 then 390 else Pg.aC s.now x.t*65+Pg.eM s.now x.t:=rfl
 generalize Pg.place s.now x.t=r at *
 generalize Pg.aC s.now x.t=K at *
 generalize Pg.eM s.now x.t=S at *
 by_cases hK:K=6
 ·subst hK
  rw [if_pos rfl] at hpl
  subst hpl
  have H:Hid (∀ w9,Below w.heap.size w w9→Calls Tryz.prog 206 #[.pointer (some ⟨mb,418,none⟩),.pointer (some ⟨n,0,none⟩)] w9 fun e w'=>e = .returned (.tuple #[])∧∃ wh',Pg.aw w' lo mb pb qv { s with wh:=wh' }∧Pg.WhM w' lo { s with wh:=wh' } (Pg.upd R 390 (R 390++[(n,x)]))∧Pg.Rf lo w w'):=fun w9 hb=>by
   have hM9:=hM.below hb
   have hR9:=hW.rgs.below hb
   have hn9:=(hb.block n (Array.getElem?_eq_some_iff.1 hn).1).trans hn
   refine (mN w9 mb 418 (R 390) n x v ((hM9.whc 418 (by omega) (by omega)).trans (congrArg some (hR9.ring 390 hr))) (hM9.frozen _) (hR9.nds 390 hr) hn9 (hnr 390 hr) hmn (hty 390 hr)).mono ?_
   rintro e w' ⟨rfl,rfl⟩
   obtain ⟨a,b,c⟩:=hR9.push (r:=390) hM9 hr (Nat.le_trans hls hb.size) hn9 hnl hlo
   refine ⟨rfl,_,a,⟨b,fun k hk => ?_⟩,(Pg.RfE.of hb hls).trans c⟩
   obtain ⟨h,h1,h2,h3⟩:=hW.held k hk
   refine ⟨h,h1,?_,fun j hj => ?_⟩
   ·show Pg.upd s.wh (28+390) _ _=_
    rw [Pg.aL _ _ (by omega)];exact h2
   ·rw [Pg.aL _ _ (by omega)];exact h3 j hj
  clear hW hM hty hnr hnl hn hlo hr hmn
  go_enter Tryz.func172,Tryz.ntmps172
  go_wp2_with (first
   | (go_at_call 168;refine hsp.mono ?_;rintro e w9 ⟨rfl,hb9⟩)
   | (go_at_call 206;refine (H.out _ hb9).mono ?_;intro e w' h9;obtain ⟨rfl,h9⟩:=h9;have H9:Hid _:=h9;clear h9))
  refine bodyPost_ret (results_none rfl _ _ _) rfl ?_
  exact ⟨rfl,H9.out⟩
 ·rw [if_neg hK] at hpl
  subst hpl
  have hK5:K<6:=by omega
  have hKb:((K:Int) == 6)=false:=by simp;omega
  have H:Hid (∀ w9,Below w.heap.size w w9→Calls Tryz.prog 207 #[.pointer (some ⟨mb,28+K*65,none⟩),.int .i64 S,.pointer (some ⟨n,0,none⟩)] w9 fun e w'=>e = .returned (.tuple #[])∧∃ wh',Pg.aw w' lo mb pb qv { s with wh:=wh' }∧Pg.WhM w' lo { s with wh:=wh' } (Pg.upd R (K*65+S) (R (K*65+S)++[(n,x)]))∧Pg.Rf lo w w'):=fun w9 hb=>by
   have hM9:=hM.below hb
   have hR9:=hW.rgs.below hb
   have hn9:=(hb.block n (Array.getElem?_eq_some_iff.1 hn).1).trans hn
   obtain ⟨h,h1,h2,h3⟩:=hW.held K hK5
   refine (rL w9 mb (28+K*65) S (R (K*65+S)) n x v h hSl h1 (by rw [Nat.add_assoc];exact (hM9.whc (28+(K*65+S)) (by omega) (by omega)).trans (congrArg some (hR9.ring _ hr))) (fun i=>hM9.frozen i) (by rw [Nat.add_assoc];exact (hM9.whc (28+(K*65+64)) (by omega) (by omega)).trans (congrArg some h2)) (hR9.nds _ hr) hn9 (hnr _ hr) hmn (hty _ hr)).mono ?_
   rintro e w' ⟨rfl,rfl⟩
   obtain ⟨a,b,c⟩:=hR9.push (r:=K*65+S) hM9 hr (Nat.le_trans hls hb.size) hn9 hnl hlo
   rw [Nat.add_assoc 28 (K*65) S]
   obtain ⟨a2,b2,c2⟩:=b.mark a K hK5 (.int .u64 (Pg.gW h S false)) (Nat.le_trans hls (Nat.le_trans hb.size c.bel.size))
   refine ⟨rfl,_,a2,⟨b2,fun k hk => ?_⟩,(Pg.RfE.of hb hls).trans (c.trans c2)⟩
   by_cases e:k=K
   ·subst e
    refine ⟨Pg.gW h S false,Pg.oT h1 hSl,Pg.aJ _ _ _,fun j hj => ?_⟩
    rw [Pg.mI hSl j hj]
    by_cases e:j=S
    ·subst e
     rw [if_pos rfl,Pg.aJ]
     simp
    ·rw [if_neg e,Pg.aL _ _ (by omega)]
     exact h3 j hj
   ·obtain ⟨g,g1,g2,g3⟩:=hW.held k hk
    refine ⟨g,g1,?_,fun j hj => ?_⟩
    ·show Pg.upd (Pg.upd s.wh _ _) _ _ _=_
     rw [Pg.aL _ _ (by omega),Pg.aL _ _ (by omega)];exact g2
    ·rw [Pg.aL _ _ (by omega)];exact g3 j hj
  clear hW hM hty hnr hnl hn hlo hr hmn
  go_enter Tryz.func172,Tryz.ntmps172
  go_wp2_with (first
   | (go_at_call 168;refine hsp.mono ?_;rintro e w9 ⟨rfl,hb9⟩)
   | (go_at_call 207;refine (H.out _ hb9).mono ?_;intro e w' h9;obtain ⟨rfl,h9⟩:=h9;have H9:Hid _:=h9;clear h9))
  go_end0
  exact ⟨rfl,H9.out⟩
namespace Pg
def eX (W:World) (lo:Nat) (s:MSt) (T:List Tn):Prop:=∃ R,WhM W lo s R∧(∀ r,isR r→(R r).map (·.2)=T.filter (fun t=>place s.now t.t == r))∧∀ t∈T,t.t<18446744073709551616
theorem eX.kd {E:TypeId→Prop} {W W':World} {lo:Nat} {s s':MSt} {T:List Tn} (h:eX W lo s T) (hk:Kd E W W') (hE:¬ E 250) (h1:s'.wh=s.wh) (h2:s'.now=s.now):eX W' lo s' T:=by
 obtain ⟨R,a,b,c⟩:=h
 refine ⟨R,⟨by rw [h1];exact a.rgs.kd hk hE,by rw [h1];exact a.held⟩,by rw [h2];exact b,c⟩
theorem eX.below {W W':World} {lo:Nat} {s:MSt} {T:List Tn} (h:eX W lo s T) (hb:Below W.heap.size W W'):eX W' lo s T:=h.kd (dd (E:=fun _=>False) hb) (fun h=>h) rfl rfl
theorem eX.rq {W W':World} {lo lo':Nat} {s s':MSt} {T:List Tn} (h:eX W lo s T) (hk:Rq lo' W W') (h1:s'.wh=s.wh) (h2:s'.now=s.now):eX W' lo s' T:=h.kd hk.kd (by unfold Cp;decide) h1 h2
def atF (now d:Nat):Nat:=if now+d<18446744073709551616 then now+d else 18446744073709551615
end Pg
theorem C4 (w:World) (lo mb pb:Nat) (qv:Value) (s:Pg.MSt) (T:List Pg.Tn) (d:Nat) (ev nm:ByteArray) (hM:Pg.aw w lo mb pb qv s) (hT:Pg.eX w lo s T) (hls:lo≤w.heap.size) (hnow:s.now<18446744073709551616) (hd:d<18446744073709551616) :
  Calls Tryz.prog 383 #[.pointer (some ⟨mb,27,none⟩),.int .u64 d,.agg #[.string ev,.string nm]] w fun e w'=>e = .returned (.tuple #[])∧∃ wh',Pg.aw w' lo mb pb qv { s with wh:=wh' }∧Pg.eX w' lo { s with wh:=wh' } (T++[⟨Pg.atF s.now d,ev,nm⟩])∧Pg.Rf lo w w':=by
 have hc27:w.cell? ⟨mb,27,none⟩=some (.int .u64 s.now):=hM.cell 27 (by decide)
 have hml:=hM.lt
 have hatl:Pg.atF s.now d<18446744073709551616:=by unfold Pg.atF;split <;> omega
 have hb1:∀ (o1 o2:Obj),Below w.heap.size w ((w.alloc o1).alloc o2):=fun o1 o2=>((Below.refl _ w).alloc (Nat.le_refl _) _).alloc (by simp) _
 have H:Hid (∀ o1:Obj,Calls Tryz.prog 172 #[.pointer (some ⟨mb,27,none⟩),.pointer (some ⟨w.heap.size+1,0,none⟩)] ((w.alloc o1).alloc (.cells #[.int .u64 (Pg.atF s.now d),.string ev,.string nm,.pointer none] 250)) fun e w'=>e = .returned (.tuple #[])∧∃ wh',Pg.aw w' lo mb pb qv { s with wh:=wh' }∧Pg.eX w' lo { s with wh:=wh' } (T++[⟨Pg.atF s.now d,ev,nm⟩])∧Pg.Rf lo w w'):=fun o1=>by
  obtain ⟨R,hW,hF,hB⟩:=hT
  have hb:=hb1 o1 (.cells #[.int .u64 (Pg.atF s.now d),.string ev,.string nm,.pointer none] 250)
  have hnew:=bE w o1 (.cells #[.int .u64 (Pg.atF s.now d),.string ev,.string nm,.pointer none] 250)
  refine (Ef _ lo mb pb qv s R (w.heap.size+1) ⟨Pg.atF s.now d,ev,nm⟩ (.pointer none) (hM.below hb) ⟨hW.rgs.below hb,hW.held⟩ (Nat.le_trans hls hb.size) hnow hatl hnew (fun q hq y hy e => ?_) (by omega)).mono ?_
  ·obtain ⟨i,hi⟩:=List.mem_iff_getElem?.1 hy
   have:=(Array.getElem?_eq_some_iff.1 (hW.rgs.nds q hq i y hi)).1
   omega
  ·rintro e w' ⟨rfl,wh',a,b,c⟩
   refine ⟨rfl,wh',a,⟨_,b,fun r hr => ?_,fun t ht => ?_⟩,(Pg.RfE.of hb hls).trans c⟩
   ·dsimp only
    rw [List.filter_append]
    by_cases e:r=Pg.place s.now (Pg.atF s.now d)
    ·subst e
     rw [Pg.aJ,List.map_append,hF _ hr]
     simp
    ·rw [Pg.aL _ _ e,hF r hr]
     have:(Pg.place s.now (Pg.atF s.now d) == r)=false:=by simpa using fun h=>e h.symm
     simp [this]
   ·rcases List.mem_append.1 ht with ht | ht
    ·exact hB t ht
    ·rw [List.mem_singleton.1 ht];exact hatl
 clear hT hM hatl hb1
 by_cases hwr:s.now+d<18446744073709551616
 ·have hat:Pg.atF s.now d=s.now+d:=by unfold Pg.atF;rw [if_pos hwr]
  rw [hat] at H ⊢
  have hmod:IntKind.u64.wrap ((s.now:Int)+(d:Int))=((s.now+d:Nat):Int):=by rw [IntKind.wrap_u64];omega
  have hlt:¬ (((s.now+d:Nat):Int)<(s.now:Int)):=by omega
  clear hat
  go_enter Tryz.func383,Tryz.ntmps383
  go_wp2_with (go_at_call 172;refine (H.out _).mono ?_;intro e w' h9;obtain ⟨rfl,h9⟩:=h9;have H9:Hid _:=h9;clear h9)
  go_end0
  exact ⟨rfl,H9.out⟩
 ·have hat:Pg.atF s.now d=18446744073709551615:=by unfold Pg.atF;rw [if_neg hwr]
  rw [hat] at H ⊢
  have hmod:IntKind.u64.wrap ((s.now:Int)+(d:Int))=((s.now+d-18446744073709551616:Nat):Int):=by rw [IntKind.wrap_u64];omega
  have hlt:((s.now+d-18446744073709551616:Nat):Int)<(s.now:Int):=by omega
  generalize s.now+d-18446744073709551616=q at *
  clear hat
  go_enter Tryz.func383,Tryz.ntmps383
  go_wp2_with (go_at_call 172;refine (H.out _).mono ?_;intro e w' h9;obtain ⟨rfl,h9⟩:=h9;have H9:Hid _:=h9;clear h9)
  go_end0
  exact ⟨rfl,H9.out⟩
attribute [local go_sem] Oper.semAt_some
theorem rh (mb o:Nat) (w:World):Calls Tryz.prog 148 #[.pointer (some ⟨mb,o,none⟩)] w fun e w'=>e = .returned (.func (.func 182) #[] #[.pointer (some ⟨w.heap.size,0,none⟩)])∧w'=w.alloc (.cells #[.pointer (some ⟨mb,o,none⟩)] 198):=by
 go_enter Tryz.func148,Tryz.ntmps148
 go_wp2
 go_ret
 exact ⟨rfl,rfl⟩
theorem vP (a:Int):wrap64 (wrap64 a+1)=wrap64 (a+1):=by unfold wrap64;omega
namespace Pg
def eN (R:Nat→List Nd) (xs:List Nat):Nat:=(xs.map fun r=>(R r).length).sum
theorem mx (R:Nat→List Nd) (xs:List Nat) (r:Nat):eN R (xs++[r])=eN R xs+(R r).length:=by unfold eN;simp
end Pg
theorem zJ (w:World) (mb:Nat) (R:Nat→List Pg.Nd) (hv:Nat→Nat) (hvl:∀ k,k<6→hv k<18446744073709551616) (hR:∀ Bs V,Below w.heap.size w V→V.cell? ⟨Bs,0,none⟩=some (.pointer (some ⟨mb,27,none⟩))→Pg.vS V Bs mb R hv) (hN:∀ r,Pg.isR r→Pg.bX w (R r)) (hnd:∀ r,Pg.isR r→((R r).map (·.1)).Nodup) (hmb:mb<w.heap.size) (hg:2<w.heap.size) :
  Calls Tryz.prog 332 #[.pointer (some ⟨mb,27,none⟩)] w fun e w'=>e = .returned (.int .i64 (wrap64 (Pg.eN R (Pg.eL hv):Nat)))∧Below w.heap.size w w':=by
 refine (callsIn_wide (n:=9)).1 ?_
 refine callsIn_of_wp_marks Tryz.func332 rfl trivial ?_ rfl
 simp only [Tryz.ntmps332,List.size_toArray,List.length_cons,List.length_nil,Nat.reduceAdd,Nat.reduceSub,Array.replicate_succ,Array.replicate_zero,List.push_toArray,List.append_toArray,List.nil_append,List.cons_append]
 gi_wp2_with (refine ⟨trivial,?_⟩;gi_at_call 148;refine (callsIn_wide.2 (rh mb 27 _)).mono ?_;rintro e w9 ⟨rfl,hw9⟩;rw [hw9];clear hw9 w9)
 have b0:=(Boxed.new w 3 (.int .i64 0)).alloc (.cells #[.pointer (some ⟨mb,27,none⟩)] 198)
 have b1:=Boxed.new (w.alloc (.cells #[.int .i64 0] 3)) 198 (.pointer (some ⟨mb,27,none⟩))
 simp only [World.size_alloc] at b1
 have hB0:Below w.heap.size w ((w.alloc (.cells #[.int .i64 0] 3)).alloc (.cells #[.pointer (some ⟨mb,27,none⟩)] 198)):=((Below.refl _ w).alloc (Nat.le_refl _) _).alloc (by simp) _
 have hs0:((w.alloc (.cells #[.int .i64 0] 3)).alloc (.cells #[.pointer (some ⟨mb,27,none⟩)] 198)).heap.size=w.heap.size+2:=by simp
 generalize (w.alloc (.cells #[.int .i64 0] 3)).alloc (.cells #[.pointer (some ⟨mb,27,none⟩)] 198)=W0 at *
 have hsh:∀ r,Pg.aG (R r) = .pointer none∨∃ b,Pg.aG (R r) = .pointer (some ⟨b,0,none⟩):=fun r=>by
  unfold Pg.aG
  cases (R r).getLast? with
  | none=>exact .inl rfl
  | some z=>exact .inr ⟨z.1,rfl⟩
 have hW0:wrap64 ((Pg.eN R []:Nat):Int)=0:=by unfold Pg.eN wrap64;simp
 have b0:Boxed W0 w.heap.size 3 (.int .i64 (wrap64 ((Pg.eN R []:Nat):Int))):=by rw [hW0];exact b0
 clear hW0
 refine vf rfl (by omega) (gf:=182) rfl trivial (enters_of Tryz.func182 (by kernel_rfl) rfl)
  (Cj 8 (by omega) (w.heap.size+1) mb R hv hvl (· = w.heap.size) W0 (hR _ W0 hB0 b1.cell) (by omega) (by omega) (by omega) (fun k h=>by omega))
  KpN.tr (fun V o o' h ho=>KpN.put (by omega) V o o' h ho) (fun _=>rfl)
  (fun xs V=>Boxed V w.heap.size 3 (.int .i64 (wrap64 (Pg.eN R xs:Nat)))∧Below w.heap.size w V∧W0.heap.size≤V.heap.size)
  (OwnFrom.and (Own.from (boxed_own _ _ _) _) (OwnFrom.and (ownFrom_below (Nat.le_refl _) (by omega)) (fun _ _ _ _ h hg _=>Nat.le_trans h hg.size)))
  (fun _ _ _=>trivial) ⟨b0,hB0,Nat.le_refl _⟩
  (fun r a' V=>∃ b,a'={ tmps:=#[.pointer (some ⟨mb,27,none⟩),undef,.int .i64 0,.pointer (some ⟨w.heap.size,0,none⟩),.pointer (some ⟨b,0,none⟩),.pointer (some ⟨mb,27,none⟩),.func (.func 182) #[] #[.pointer (some ⟨w.heap.size+1,0,none⟩)],.agg #[Pg.aG (R r)],undef,undef,undef,undef,undef,undef],defers:=[] }∧Boxed V b 144 (Pg.aG (R r))∧w.heap.size+2≤b)
  (fun r a' u A C row h hg hr=>by
   obtain ⟨b,e,hb,hl⟩:=h
   exact ⟨b,e,Own.from (boxed_own (β:=Unit) b 144 (fun _=>Pg.aG (R r))) _ () A C row hb hg hr,hl⟩)
  ?assign ?body ?done
 case assign =>
  intro l xs r V K hI hK
  have hVs:=hI.2.1.size
  have hk2:∀ rv:Value,Pg.aG (R r)=rv→K _ (V.alloc (.cells #[rv] 144)):=fun rv e=>hK _ _ ((KeepsOthers.alloc _ _).from _) (KpN.below ((Below.refl _ V).alloc (Nat.le_refl _) _)) ⟨hI.1.alloc _,hI.2.1.alloc hVs _,by have:=hI.2.2;simp;omega⟩ ⟨V.heap.size,rfl,e ▸ Boxed.new V _ _,by have:=hI.2.2;omega⟩
  rcases hsh r with hrv | ⟨b,hrv⟩
  all_goals
   have hk3:=hk2 _ hrv
   rw [hrv] at hk3 ⊢
   gi_wp2
   exact hk3
 case body =>
  rintro l xs r a' V hl ⟨rl,hrl⟩ hir ⟨hc,hB,hsV⟩ ⟨b,rfl,hb,hbl⟩
  have hbc:=hb.cell
  have hVs:=hB.size
  have hd1:1≤9-1-1:=by omega
  obtain ⟨rv,hrv⟩:∃ rv,Pg.aG (R r)=rv:=⟨_,rfl⟩
  have hshr:=hsh r
  have hno:=mJ rv V (hrv ▸ hshr)
  rw [hrv] at hbc ⊢
  gi_wp2_with (refine ⟨trivial,?_⟩;gi_at_call 171;refine (aU hno).mono ?_;rintro e w9 ⟨rfl,hw9⟩;rw [hw9];clear hw9 w9)
  have hr':(V.alloc (.cells #[rv] 144)).heap[l]?=some (.loop rl):=(Below.heap_alloc V _ l (Array.getElem?_eq_some_iff.1 hrl).1).trans hrl
  have bx:(V.alloc (.cells #[rv] 144)).cell? ⟨V.heap.size,0,none⟩=some rv:=cell_of_row _ _ 0 _ _ (0,0) (heap_alloc_new V _)
  have hBV:Below V.heap.size V (V.alloc (.cells #[rv] 144)):=(Below.refl _ V).alloc (Nat.le_refl _) _
  have hBa:=hB.trans (hBV.mono hVs)
  have hca:=hc.alloc (.cells #[rv] 144)
  have hsa:(V.alloc (.cells #[rv] 144)).heap.size=V.heap.size+1:=by simp
  generalize V.alloc (.cells #[rv] 144)=V2 at *
  have hNl:∀ x∈R r,x.1<w.heap.size:=fun x hx=>by
   obtain ⟨i,hi⟩:=List.mem_iff_getElem?.1 hx
   exact (Array.getElem?_eq_some_iff.1 (hN r hir i x hi)).1
  have hN2:Pg.bX V2 (R r):=fun i x hx=>(hBa.block x.1 (hNl x (List.mem_of_getElem? hx))).trans (hN r hir i x hx)
  refine wpIn_rangeFunc_ownN (l₀:=l) (r₀:=rl) rfl hr' hd1 (gf:=204) rfl trivial (enters_of Tryz.func204 (by kernel_rfl) rfl)
   ((nj (9-1-1-1) (by omega) V.heap.size (R r) (hnd r hir) (· = w.heap.size) V2 (bx.trans (congrArg some hrv.symm)) hN2 (by omega) (fun x hx=>by have:=hNl x hx;omega)).inRound l)
   KpM.tr (fun V l o o' _ h hc _=>KpM.put V l o o' h hc) (Below.refl _ _) (fun _=>rfl)
   (fun ys U=>(Boxed U w.heap.size 3 (.int .i64 (wrap64 ((Pg.eN R xs+ys.length:Nat):Int)))∧Below w.heap.size w U)∧KpN (· = w.heap.size) (W0.heap.size+2) V U∧KeepsFrom W0.heap.size V U) (fun _ _ _=>False)
   (OwnFrom.and (OwnFrom.and (Own.from (boxed_own _ _ _) _) (ownFrom_below (Nat.le_refl _) (by omega))) (OwnFrom.and (KpN.own (by omega)) (ownFrom_keepsFrom (by omega))))
   (fun _ _ _ _ _ hs _ _=>hs) ⟨⟨by simpa using hca,hBa⟩,KpN.below hBV,(Pg.fC hBV).from _⟩
   (fun x a' _=>a'={ tmps:=#[.pointer (some ⟨mb,27,none⟩),undef,.int .i64 0,.pointer (some ⟨w.heap.size,0,none⟩),.pointer (some ⟨b,0,none⟩),.pointer (some ⟨mb,27,none⟩),.func (.func 182) #[] #[.pointer (some ⟨w.heap.size+1,0,none⟩)],.agg #[rv],.agg #[rv],.func (.func 204) #[] #[.pointer (some ⟨V.heap.size,0,none⟩)],.pointer (some ⟨x.1,0,none⟩),undef,undef,undef],defers:=[] })
   (fun _ _ _ _ _ _ hs _ _=>hs) ?assign2 ?body2 ?done2 ?stop2
  case assign2 =>
   rintro l2 ys x U K hi hK
   gi_wp2
   exact hK _ _ (KeepsFrom.refl _ _) (KpM.refl _ _) hi rfl
  case body2 =>
   rintro l2 ys x a' U _ _ ⟨⟨hcU,hBU⟩,hkU,hkf⟩ rfl _
   have cc:=hcU.cell
   have cf:=hcU.frozen
   have hset:=hcU.set (.int .i64 (wrap64 ((Pg.eN R xs+(ys++[x]).length:Nat):Int)))
   have hwr:=vP ((Pg.eN R xs+ys.length:Nat):Int)
   rw [show ((Pg.eN R xs+ys.length:Nat):Int)+1=((Pg.eN R xs+(ys++[x]).length:Nat):Int) by simp;omega] at hwr
   obtain ⟨c2,hc2⟩:∃ c,Pg.eN R xs+(ys++[x]).length=c:=⟨_,rfl⟩
   obtain ⟨c1,hc1⟩:∃ c,Pg.eN R xs+ys.length=c:=⟨_,rfl⟩
   rw [hc2] at hset hwr
   rw [hc1] at hwr cc hcU
   have HC:Hid _:=hc2
   clear hc1 hc2
   obtain ⟨q2,hq2⟩:∃ q,wrap64 (c2:Int)=q:=⟨_,rfl⟩
   obtain ⟨q1,hq1⟩:∃ q,wrap64 (c1:Int)=q:=⟨_,rfl⟩
   rw [hq1] at hwr cc
   rw [hq2] at hwr hset
   rw [hq1] at hcU
   have HQ:Hid (wrap64 (c2:Int)=q2):=hq2
   clear hq1 hq2
   gi_wp2
   refine ⟨(KeepsOthers.setCell _ _ _).from _,KpM.set U _ _ rfl,⟨?_,hBU.setCell (p:=⟨w.heap.size,0,none⟩) (by simp) _⟩,hkU.tr (KpN.set U _ _ rfl),hkf.trans ((KeepsOthers.setCell _ _ _).from _)⟩
   show Boxed _ _ _ (.int .i64 (wrap64 ((Pg.eN R xs+(ys++[x]).length:Nat):Int)))
   rw [HC.out,HQ.out]
   exact hset
  case done2 =>
   rintro ys U hys ⟨⟨hcU,hBU⟩,hkU,hkf⟩
   subst hys
   have hcn:Pg.eN R (xs++[r])=Pg.eN R xs+(R r).length:=Pg.mx R xs r
   gi_wp2
   exact ⟨hkf,hkU,by rw [hcn];exact hcU,hBU,Nat.le_trans hsV hkU.1.1⟩
  case stop2 =>
   rintro c pre U _ h
   exact h.elim
 case done =>
  rintro D xs V hD hS ⟨hc,hB,_⟩ hdef
  subst hS
  have hc:=hc.cell
  gi_wp2
  refine ⟨by simp,.inl ⟨_,_,rfl,run_takeDeferred hdef,?_⟩⟩
  exact ⟨_,results_tmp rfl _ _ _,rfl,hB.trans (belowK_b (w:=w) (Nat.le_refl _) V D _ _ (by omega) hdef rfl rfl)⟩
namespace Pg
theorem nr (f:Nat→Nat) (q:Nat→Bool):∀ L:List Nat,(∀ s∈L,q s=false→f s=0)→((L.filter q).map f).sum=(L.map f).sum
 | [],_=>rfl
 | s::L,h=>by
  have ih:=nr f q L (fun x hx=>h x (List.mem_cons_of_mem _ hx))
  cases hq:q s
  ·rw [List.filter_cons_of_neg (by rw [hq];decide),ih,List.map_cons,List.sum_cons,h s (List.mem_cons_self ..) hq]
   omega
  ·rw [List.filter_cons_of_pos hq,List.map_cons,List.sum_cons,ih,List.map_cons,List.sum_cons]
def jo (k:Nat):List Nat:=(List.range k).flatMap fun k=>(List.range 64).map (k*65 + ·)
def rU:List Nat:=jo 6++[390]
theorem vX (k:Nat):jo (k+1)=jo k++(List.range 64).map (k*65 + ·):=by
 unfold jo
 rw [List.range_succ (n:=k),List.flatMap_append,List.flatMap_singleton]
theorem vW:rU.Nodup:=by decide +kernel
theorem BO {r:Nat} (h:isR r):r∈rU:=by
 unfold rU jo
 rcases h with ⟨h1,h2⟩ | rfl
 ·refine List.mem_append_left _ (List.mem_flatMap.2 ⟨r / 65,List.mem_range.2 (by omega),List.mem_map.2 ⟨r % 65,List.mem_range.2 (by omega),by omega⟩⟩)
 ·exact List.mem_append_right _ (List.mem_singleton.2 rfl)
theorem yB (x:Nat):∀ L:List Nat,L.Nodup→(L.map fun r=>if x == r then 1 else 0).sum=if x∈L then 1 else 0
 | [],_=>rfl
 | r::L,h=>by
  obtain ⟨h1,h2⟩:=List.nodup_cons.1 h
  rw [List.map_cons,List.sum_cons,yB x L h2]
  by_cases e:x=r
  ·subst e
   simp [h1]
  ·have:(x == r)=false:=by simpa using e
   simp [this,e]
theorem sum_add (f g:Nat→Nat):∀ L:List Nat,(L.map fun r=>f r+g r).sum=(L.map f).sum+(L.map g).sum
 | []=>rfl
 | r::L=>by
  simp only [List.map_cons,List.sum_cons,sum_add f g L]
  omega
theorem vz:∀ L:List Nat,(L.map fun _=>0).sum=0
 | []=>rfl
 | _::L=>by rw [List.map_cons,List.sum_cons,vz L]
theorem pE (p:Tn→Nat) (L:List Nat) (hn:L.Nodup):∀ T:List Tn,(∀ t∈T,p t∈L)→(L.map fun r=>(T.filter fun t=>p t == r).length).sum=T.length
 | [],_=>vz L
 | t::T,h=>by
  have ih:=pE p L hn T (fun x hx=>h x (List.mem_cons_of_mem _ hx))
  have e:(fun r=>((t::T).filter fun t=>p t == r).length)=fun r=>(if p t == r then 1 else 0)+(T.filter fun t=>p t == r).length:=by
   funext r
   cases hp:p t == r
   ·rw [List.filter_cons_of_neg (by rw [hp];decide)]
    simp
   ·rw [List.filter_cons_of_pos (p:=fun t=>p t == r) hp,List.length_cons,if_pos rfl]
    omega
  rw [e,sum_add,ih,yB _ L hn,if_pos (h t (List.mem_cons_self ..)),List.length_cons]
  omega
theorem mU (R:Nat→List Nd) (a b:List Nat):eN R (a++b)=eN R a+eN R b:=by
 unfold eN
 rw [List.map_append,List.sum_append]
theorem yZ {R:Nat→List Nd} {hv:Nat→Nat} {k:Nat} (h:∀ s,s<64→(hv k).testBit s = !(R (k*65+s)).isEmpty):eN R (jV hv k)=eN R ((List.range 64).map (k*65 + ·)):=by
 unfold eN jV eG
 rw [List.map_map,List.map_map]
 refine nr _ _ _ (fun s hs hb => ?_)
 rw [h s (List.mem_range.1 hs)] at hb
 show (R (k*65+s)).length=0
 simpa using hb
theorem tZ {R:Nat→List Nd} {hv:Nat→Nat} (h:∀ k,k<6→∀ s,s<64→(hv k).testBit s = !(R (k*65+s)).isEmpty):∀ k,k≤6→eN R (gN hv k)=eN R (jo k)
 | 0,_=>rfl
 | k+1,hk=>by rw [iR,vX,mU,mU,tZ h k (by omega),yZ (h k (by omega))]
theorem eX.count {W:World} {lo:Nat} {s:MSt} {T:List Tn} {R:Nat→List Nd} (hW:WhM W lo s R) (hF:∀ r,isR r→(R r).map (·.2)=T.filter (fun t=>place s.now t.t == r)):∃ hv:Nat→Nat,(∀ k,k<6→hv k<18446744073709551616)∧(∀ k,k<6→s.wh (28+(k*65+64)) = .int .u64 (hv k))∧eN R (eL hv)=T.length:=by
 have hh:∀ k,∃ h:Nat,k<6→h<18446744073709551616∧s.wh (28+(k*65+64)) = .int .u64 h∧∀ j,j<64→h.testBit j = !(R (k*65+j)).isEmpty:=fun k=>by
  by_cases hk:k<6
  ·obtain ⟨h,a⟩:=hW.held k hk
   exact ⟨h,fun _=>a⟩
  ·exact ⟨0,fun h=>absurd h hk⟩
 refine ⟨fun k=>(hh k).choose,fun k hk=>((hh k).choose_spec hk).1,fun k hk=>((hh k).choose_spec hk).2.1,?_⟩
 have h6:=tZ (R:=R) (hv:=fun k=>(hh k).choose) (fun k hk=>((hh k).choose_spec hk).2.2) 6 (by omega)
 unfold eL
 rw [mx,h6,← mx]
 have e:eN R (jo 6++[390])=(rU.map fun r=>(T.filter fun t=>place s.now t.t == r).length).sum:=by
  unfold eN rU
  congr 1
  refine List.map_congr_left (fun r hr => ?_)
  have hir:isR r:=by
   rcases List.mem_append.1 hr with hr | hr
   ·unfold jo at hr
    obtain ⟨k,hk,hr⟩:=List.mem_flatMap.1 hr
    obtain ⟨j,hj,rfl⟩:=List.mem_map.1 hr
    have:=List.mem_range.1 hk
    have:=List.mem_range.1 hj
    exact .inl (by omega)
   ·exact .inr (List.mem_singleton.1 hr)
  rw [← hF r hir,List.length_map]
 rw [e]
 exact pE (fun t=>place s.now t.t) rU vW T (fun t _=>BO (eK _ _))
end Pg
theorem DV (w:World) (lo mb pb:Nat) (qv:Value) (s:Pg.MSt) (T:List Pg.Tn) (hM:Pg.aw w lo mb pb qv s) (hT:Pg.eX w lo s T) (hl:T.length≤1000) (hg:2<w.heap.size) (hG:TabAt 2 Lib.deBruijn64tab w) :
  Calls Tryz.prog 332 #[.pointer (some ⟨mb,27,none⟩)] w fun e w'=>e = .returned (.int .i64 T.length)∧Below w.heap.size w w':=by
 obtain ⟨R,hW,hF,_⟩:=hT
 obtain ⟨hv,v1,v2,v3⟩:=Pg.eX.count hW hF
 have h:=zJ w mb R hv v1 (fun Bs V hb hc => ?_) (fun r hr=>hW.rgs.nds r hr) (fun r hr=>hW.rgs.nod r hr) hM.lt hg
 ·rw [v3,show wrap64 (T.length:Int)=(T.length:Int) by unfold wrap64;omega] at h
  exact h
 ·have c:∀ i,28≤i→i<419→V.cell? ⟨mb,i,none⟩=some (s.wh i):=fun i h1 h2=>(hb.cell (p:=⟨mb,i,none⟩) hM.lt).trans (hM.whc i h1 h2)
  refine ⟨hc,fun k hk => ?_,fun k j hk hj => ?_,?_,fun j hj=>(hb.cell (p:=⟨2,j,none⟩) hg).trans (hG j hj)⟩
  ·rw [Nat.add_assoc,c _ (by omega) (by omega),v2 k hk]
  ·rw [Nat.add_assoc,c _ (by omega) (by omega),hW.rgs.ring _ (.inl (by omega))]
  ·rw [c 418 (by omega) (by omega)]
   exact congrArg some (hW.rgs.ring 390 (.inr rfl))
attribute [local go_sem] Oper.semAt_some
namespace Pg
def F7 (nm0:ByteArray) (L:List Nd):List Nd:=L.filter fun x => !(x.2.nm.toList == nm0.toList)
theorem uU {L:List Nd} (hnd:(L.map (·.1)).Nodup) {n i:Nat} {y:Nd} (hi:n≤i) (hy:L[i]?=some y):∀ z∈L.take n,z.1≠y.1:=fun z hz e=>by
 obtain ⟨j,hj⟩:=List.mem_iff_getElem?.1 hz
 have hjn:j<n:=by
  have:=(List.getElem?_eq_some_iff.1 hj).1
  rw [List.length_take] at this
  omega
 rw [List.getElem?_take_of_lt hjn] at hj
 have a1:(L.map (·.1))[j]?=some y.1:=by rw [List.getElem?_map,hj,← e];rfl
 have a2:(L.map (·.1))[i]?=some y.1:=by rw [List.getElem?_map,hy];rfl
 have:=(List.getElem?_inj (by simp;exact (List.getElem?_eq_some_iff.1 hj).1) hnd).1 (a1.trans a2.symm)
 omega
end Pg
attribute [local go_sem] Oper.semAt_some
namespace Pg
theorem WhM.congr {W:World} {lo:Nat} {s:MSt} {R R':Nat→List Nd} (h:WhM W lo s R) (e:∀ r,isR r→R' r=R r):WhM W lo s R' :=
 ⟨⟨fun r hr=>by rw [e r hr];exact h.rgs.ring r hr,fun r hr=>by rw [e r hr];exact h.rgs.nds r hr,fun r hr=>by rw [e r hr];exact h.rgs.low r hr,fun r q hr hq=>by rw [e r hr,e q hq];exact h.rgs.dis r q hr hq,fun r hr=>by rw [e r hr];exact h.rgs.nod r hr⟩,fun k hk=>by
  obtain ⟨x,x1,x2,x3⟩:=h.held k hk
  exact ⟨x,x1,x2,fun j hj=>by rw [e _ (.inl (by omega))];exact x3 j hj⟩⟩
theorem aw.gr {W W':World} {row:Option Nat} {lo mb pb:Nat} {qv:Value} {s:MSt} (h:aw W lo mb pb qv s) (hg:W.grownBy W' row) (hr:∀ r,row=some r→∃ o:Obj,W.heap[r]?=some o∧o.isCells=false):aw W' lo mb pb qv s:=by
 refine h.mo (P:=fun k=>some k=row) ⟨hg.os,hg.tape,hg.output,hg.size,fun k hk hn=>hg.block k hk hn⟩ (fun e => ?_) (fun g hgq e => ?_)
 ·obtain ⟨o,ho,hc⟩:=hr _ e.symm
  obtain ⟨arr,a1,_⟩:=h.blk
  rw [a1] at ho
  cases ho
  cases hc
 ·obtain ⟨o,ho,hc⟩:=hr _ e.symm
  obtain ⟨c,hc2⟩:=h.que.kind g hgq
  rw [hc2] at ho
  cases ho
  cases hc
theorem jH {E:TypeId→Prop} {W W':World} {row:Option Nat} (hg:W.grownBy W' row) (hr:∀ r,row=some r→∃ o:Obj,W.heap[r]?=some o∧o.isCells=false):Kd E W W':=⟨hg.size,fun k c t f hk _=>hg.block k (Array.getElem?_eq_some_iff.1 hk).1 (fun e=>by
 obtain ⟨o,ho,hc⟩:=hr _ e.symm
 rw [hk] at ho
 cases ho
 cases hc)⟩
theorem WhM.kd {E:TypeId→Prop} {W W':World} {lo:Nat} {s:MSt} {R:Nat→List Nd} (h:WhM W lo s R) (hk:Kd E W W') (hE:¬ E 250):WhM W' lo s R:=⟨h.rgs.kd hk hE,h.held⟩
theorem RfE.gr {E:TypeId→Prop} {lo:Nat} {w V V':World} {row:Option Nat} (h:RfE E lo w V) (hl:lo≤w.heap.size) (hg:V.grownBy V' row) (hr:∀ r,row=some r→w.heap.size≤r∧∃ o:Obj,V.heap[r]?=some o∧o.isCells=false):RfE E lo w V' :=
 ⟨h.bel.trans ⟨hg.os,hg.tape,hg.output,hg.size,fun k hk=>hg.block k (by have:=h.bel.size;omega) (fun e=>by have:=(hr k e.symm).1;omega)⟩,h.kd.trans (jH hg (fun r e=>(hr r e).2)),⟨Nat.le_trans h.oth.size hg.size,fun k o hk ho=>by
  have h2:=h.oth.same k o hk ho
  exact (hg.block k (Array.getElem?_eq_some_iff.1 h2).1 (fun e=>by have:=(hr k e.symm).1;have:=(Array.getElem?_eq_some_iff.1 hk).1;omega)).trans h2⟩⟩
end Pg
attribute [local go_sem] Oper.semAt_some
namespace Pg
def rk (nm0:ByteArray) (k:Nat) (R:Nat→List Nd) (ys:List Nat):Nat→List Nd:=fun r=>if r∈ys.map (k*65 + ·) then F7 nm0 (R r) else R r
end Pg
end
end Go.Proofs.YtegmoddppafkfaaGreatDoor
namespace Go.Proofs.YtegmoddppafkfaaGreatDoor
section
open Go.RowKit Go.Proofs Go.Shelf
namespace Pg
structure RSt where
 act:Nat
 kept:Nat→Nat
 q:List ByteArray
 now:Nat
 tm:List Tn
 fin:Nat
def RSt.m (r:RSt) (wh:Nat→Value):MSt:=⟨r.act,r.kept,r.q,r.now,wh,eP r.fin⟩
structure MT (W:World) (lo mb pb:Nat) (r:RSt):Prop where
 ex:∃ qv wh,aw W lo mb pb qv (r.m wh)∧eX W lo (r.m wh) r.tm
 lo':lo≤W.heap.size
 act:r.act<4294967296
 now:r.now<18446744073709551616
 tml:r.tm.length≤12
 tab:TabAt 2 Lib.deBruijn64tab W
 tab5:TabAt 1 Lib.deBruijn32tab W
structure Lw (lo:Nat):Prop where
 g:2<lo
 g5:1<lo
theorem fq {lo:Nat} {W W':World} (hl:Lw lo) (h:Below lo W W') (hT:TabAt 2 Lib.deBruijn64tab W):TabAt 2 Lib.deBruijn64tab W':=fun j hj=>(h.cell (p:=⟨2,j,none⟩) hl.g).trans (hT j hj)
theorem bT {lo:Nat} {W W':World} (hl:Lw lo) (h:Below lo W W') (hT:TabAt 1 Lib.deBruijn32tab W):TabAt 1 Lib.deBruijn32tab W':=fun j hj=>(h.cell (p:=⟨1,j,none⟩) hl.g5).trans (hT j hj)
theorem MT.rq {W W':World} {lo mb pb:Nat} {r r':RSt} {qv':Value} {wh:Nat→Value} (hl:Lw lo) (h:MT W lo mb pb r) (hT:eX W lo (r.m wh) r.tm) (hM:aw W' lo mb pb qv' (r'.m wh)) (hR:Rq lo W W') (h1:r'.tm=r.tm) (h2:r'.now=r.now) (h3:r'.act<4294967296):MT W' lo mb pb r' :=
 ⟨⟨qv',wh,hM,by rw [h1];exact hT.rq hR rfl h2⟩,Nat.le_trans h.lo' hR.bel.size,h3,by rw [h2];exact h.now,by rw [h1];exact h.tml,fq hl hR.bel h.tab,bT hl hR.bel h.tab5⟩
theorem MT.below {W W':World} {lo mb pb:Nat} {r:RSt} (h:MT W lo mb pb r) (hl:Lw lo) (hb:Below W.heap.size W W'):MT W' lo mb pb r:=by
 obtain ⟨qv,wh,a,b⟩:=h.ex
 have hlo:=h.lo'
 exact ⟨⟨qv,wh,a.below hb,b.below hb⟩,Nat.le_trans hlo hb.size,h.act,h.now,h.tml,fq hl (hb.mono hlo) h.tab,bT hl (hb.mono hlo) h.tab5⟩
theorem MT.lt {W:World} {lo mb pb:Nat} {r:RSt} (h:MT W lo mb pb r):mb<W.heap.size:=by
 obtain ⟨qv,wh,a,b⟩:=h.ex
 exact a.lt
def FU:ByteArray:=⟨#[102,117,108,108]⟩
def ig (r:RSt) (ev nm:ByteArray) (d:Nat):RSt:=if r.tm.length=12 then { r with q:=r.q++[FU] } else { r with tm:=r.tm++[⟨atF r.now d,ev,nm⟩] }
inductive PA where
 | raise (ev:ByteArray)
 | send (ev:ByteArray) (d:Nat)
 | sendAs (ev:ByteArray) (d:Nat) (id:ByteArray)
 | cancel (id:ByteArray)
def PA.v:PA→Value
 | .raise ev => .iface 435 (.agg #[.string ev])
 | .send ev d => .iface 329 (.agg #[.string ev,.int .u64 d])
 | .sendAs ev d id => .iface 331 (.agg #[.string ev,.int .u64 d,.string id])
 | .cancel id => .iface 333 (.agg #[.string id])
def PA.ok:PA→Prop
 | .raise _=>True
 | .send _ d=>d<18446744073709551616
 | _=>False
def iT (r:RSt):PA→RSt
 | .raise ev=>{ r with q:=r.q++[ev] }
 | .send ev d=>ig r ev ⟨#[]⟩ d
 | .sendAs ev d id=>ig r ev id d
 | .cancel id=>{ r with tm:=r.tm.filter fun t => !(t.nm.toList == id.toList) }
theorem Ek (r:RSt) (ev nm:ByteArray) (d:Nat):(ig r ev nm d).q.length≤r.q.length+1:=by
 unfold ig
 split <;> simp
theorem E0 (r:RSt) (a:PA):(iT r a).q.length≤r.q.length+1:=by
 cases a <;> simp only [iT] <;> first | exact Ek _ _ _ _ | simp
end Pg
theorem kU (w:World) (lo mb pb:Nat) (r:Pg.RSt) (ev:ByteArray) (hl:Pg.Lw lo) (h:Pg.MT w lo mb pb r) (hql:r.q.length≤4398046511104) :
  Calls Tryz.prog 131 #[.pointer (some ⟨mb,0,none⟩),.string ev] w fun e w'=>e = .returned (.tuple #[])∧Pg.MT w' lo mb pb { r with q:=r.q++[ev] }∧Pg.Rf lo w w':=by
 obtain ⟨qv,wh,a,b⟩:=h.ex
 refine (Ab w lo mb pb qv (r.m wh) ev a h.lo' hql).mono ?_
 rintro e w' ⟨rfl,qv',a',c⟩
 exact ⟨rfl,h.rq hl b (r':={ r with q:=r.q++[ev] }) a' c rfl rfl h.act,Pg.pq c⟩
theorem Aj (w:World) (lo mb pb:Nat) (r:Pg.RSt) (ev nm:ByteArray) (d:Nat) (hl:Pg.Lw lo) (h:Pg.MT w lo mb pb r) (hql:r.q.length≤4398046511104) (hd:d<18446744073709551616) :
  Calls Tryz.prog 380 #[.pointer (some ⟨mb,0,none⟩),.string ev,.string nm,.int .u64 d] w fun e w'=>e = .returned (.tuple #[])∧Pg.MT w' lo mb pb (Pg.ig r ev nm d)∧Pg.Rf lo w w':=by
 have hlen:Calls Tryz.prog 332 #[.pointer (some ⟨mb,27,none⟩)] w fun e w'=>e = .returned (.int .i64 r.tm.length)∧Below w.heap.size w w':=by
  obtain ⟨qv,wh,a,b⟩:=h.ex
  exact DV w lo mb pb qv (r.m wh) r.tm a b (by have:=h.tml;omega) (Nat.lt_of_lt_of_le hl.g h.lo') h.tab
 by_cases h12:r.tm.length=12
 ·have HR:Hid (∀ w9,Below w.heap.size w w9→Calls Tryz.prog 131 #[.pointer (some ⟨mb,0,none⟩),.string ⟨#[102,117,108,108]⟩] w9 fun e w'=>e = .returned (.tuple #[])∧Pg.MT w' lo mb pb (Pg.ig r ev nm d)∧Pg.Rf lo w w'):=fun w9 hb=>by
   refine (kU w9 lo mb pb r ⟨#[102,117,108,108]⟩ hl (h.below hl hb) hql).mono ?_
   rintro e w' ⟨rfl,a,c⟩
   refine ⟨rfl,?_,(Pg.RfE.of hb h.lo').trans c⟩
   unfold Pg.ig
   rw [if_pos h12]
   exact a
  rw [h12] at hlen
  clear h
  go_enter Tryz.func380,Tryz.ntmps380
  go_wp2_with (first
   | (go_at_call 332;refine hlen.mono ?_;rintro e w9 ⟨rfl,hb9⟩)
   | (go_at_call 131;refine (HR.out w9 hb9).mono ?_;intro e w8 h8;obtain ⟨rfl,h8⟩:=h8;have H8:Hid _:=h8;clear h8))
  refine bodyPost_ret (results_none rfl _ _ _) rfl ?_
  exact ⟨rfl,H8.out⟩
 ·have HA:Hid (∀ w9,Below w.heap.size w w9→Calls Tryz.prog 383 #[.pointer (some ⟨mb,27,none⟩),.int .u64 d,.agg #[.string ev,.string nm]] w9 fun e w'=>e = .returned (.tuple #[])∧Pg.MT w' lo mb pb (Pg.ig r ev nm d)∧Pg.Rf lo w w'):=fun w9 hb=>by
   have h9:=h.below hl hb
   obtain ⟨qv,wh,a,b⟩:=h9.ex
   refine (C4 w9 lo mb pb qv (r.m wh) r.tm d ev nm a b h9.lo' h.now hd).mono ?_
   rintro e w' ⟨rfl,wh',a',b',c⟩
   refine ⟨rfl,?_,(Pg.RfE.of hb h.lo').trans c⟩
   unfold Pg.ig
   rw [if_neg h12]
   exact ⟨⟨qv,wh',a',b'⟩,Nat.le_trans h9.lo' c.bel.size,h.act,h.now,by have:=h.tml;simp;omega,Pg.fq hl c.bel h9.tab,Pg.bT hl c.bel h9.tab5⟩
  have h12':((r.tm.length:Int) == 12)=false:=by simp;omega
  clear h
  go_enter Tryz.func380,Tryz.ntmps380
  go_wp2_with (first
   | (go_at_call 332;refine hlen.mono ?_;rintro e w9 ⟨rfl,hb9⟩)
   | (go_at_call 383;refine (HA.out w9 hb9).mono ?_;intro e w8 h8;obtain ⟨rfl,h8⟩:=h8;have H8:Hid _:=h8;clear h8))
  go_end0
  exact ⟨rfl,H8.out⟩
theorem Tryz.Gx (a:Value) (w:World):(method 599 435 (.agg #[a]) "Do").run Tryz.prog w = .ok (372,.agg #[a]) w:=by kernel_rfl
theorem Tryz.Gy (a b:Value) (w:World):(method 599 329 (.agg #[a, b]) "Do").run Tryz.prog w = .ok (349,.agg #[a,b]) w:=by kernel_rfl
theorem Tryz.Gz (p:Option Addr) (w:World):(method 599 92 (.pointer p) "Raise").run Tryz.prog w = .ok (131,.pointer p) w:=by kernel_rfl
theorem Tryz.GA (p:Option Addr) (w:World):(method 599 92 (.pointer p) "Send").run Tryz.prog w = .ok (380,.pointer p) w:=by kernel_rfl
theorem uj (w:World) (lo mb pb:Nat) (r:Pg.RSt) (ev:ByteArray) (hl:Pg.Lw lo) (h:Pg.MT w lo mb pb r) (hql:r.q.length≤4398046511104) :
  Calls Tryz.prog 372 #[.agg #[.string ev],.iface 92 (.pointer (some ⟨mb,0,none⟩))] w fun e w'=>e = .returned (.tuple #[])∧Pg.MT w' lo mb pb (Pg.iT r (.raise ev))∧Pg.Rf lo w w':=by
 have hb:Below w.heap.size w (w.alloc (.cells #[.string ev] 435)):=(Below.refl _ w).alloc (Nat.le_refl _) _
 have hra:=(kU _ lo mb pb r ev hl (h.below hl hb) hql).mono (fun e w' x=>(⟨x.1,x.2.1,(Pg.RfE.of hb h.lo').trans x.2.2⟩:e = .returned (.tuple #[])∧Pg.MT w' lo mb pb { r with q:=r.q++[ev] }∧Pg.Rf lo w w'))
 have hm:=Tryz.Gz
 clear h hb
 go_enter Tryz.func372,Tryz.ntmps372
 go_wp2_with (go_at_call 131;refine hra.mono ?_;intro e w8 h8;obtain ⟨rfl,h8⟩:=h8;have H8:Hid _:=h8;clear h8)
 go_end0
 exact ⟨rfl,H8.out⟩
theorem wm (w:World) (lo mb pb:Nat) (r:Pg.RSt) (ev:ByteArray) (d:Nat) (hl:Pg.Lw lo) (h:Pg.MT w lo mb pb r) (hql:r.q.length≤4398046511104) (hd:d<18446744073709551616) :
  Calls Tryz.prog 349 #[.agg #[.string ev,.int .u64 d],.iface 92 (.pointer (some ⟨mb,0,none⟩))] w fun e w'=>e = .returned (.tuple #[])∧Pg.MT w' lo mb pb (Pg.iT r (.send ev d))∧Pg.Rf lo w w':=by
 have hb:Below w.heap.size w (w.alloc (.cells #[.string ev,.int .u64 d] 329)):=(Below.refl _ w).alloc (Nat.le_refl _) _
 have hra:=(Aj _ lo mb pb r ev ⟨#[]⟩ d hl (h.below hl hb) hql hd).mono (fun e w' x=>(⟨x.1,x.2.1,(Pg.RfE.of hb h.lo').trans x.2.2⟩:e = .returned (.tuple #[])∧Pg.MT w' lo mb pb (Pg.iT r (.send ev d))∧Pg.Rf lo w w'))
 have hm:=Tryz.GA
 clear h hb
 go_enter Tryz.func349,Tryz.ntmps349
 go_wp2_with (go_at_call 380;refine hra.mono ?_;intro e w8 h8;obtain ⟨rfl,h8⟩:=h8;have H8:Hid _:=h8;clear h8)
 go_end0
 exact ⟨rfl,H8.out⟩
namespace Pg
structure dx (W:World) (lo:Nat) (v:Ref.Sl) (L:List PA):Prop where
 n:v.n=L.length
 cap:L.length≤v.c
 cell:∀ (k:Nat) (x:PA),L[k]?=some x→∃ ab,v.a=some ⟨ab,0,none⟩∧ab<lo∧W.cell? ⟨ab,k,none⟩=some x.v
 ok:∀ x∈L,x.ok
 len:L.length≤1048576
theorem dx.below {W W':World} {lo:Nat} {v:Ref.Sl} {L:List PA} (h:dx W lo v L) (hb:Below lo W W'):dx W' lo v L:=⟨h.n,h.cap,fun k x hx=>by
 obtain ⟨ab,a,b,c⟩:=h.cell k x hx
 exact ⟨ab,a,b,(hb.cell (p:=⟨ab,k,none⟩) b).trans c⟩,h.ok,h.len⟩
def doL (r:RSt) (L:List PA):RSt:=L.foldl iT r
theorem Bi (r:RSt) (L:List PA) (x:PA):doL r (L++[x])=iT (doL r L) x:=by unfold doL;rw [List.foldl_append];rfl
theorem qI (r:RSt):∀ L:List PA,(doL r L).q.length≤r.q.length+L.length:=fun L=>by
 induction L generalizing r with
 | nil=>exact Nat.le_refl _
 | cons x L ih =>
  have h1:=ih (iT r x)
  have h2:=E0 r x
  show (doL (iT r x) L).q.length≤_
  rw [List.length_cons]
  omega
end Pg
theorem wo (w:World) (lo mb pb:Nat) (r:Pg.RSt) (v:Ref.Sl) (L:List Pg.PA) (hl:Pg.Lw lo) (h:Pg.MT w lo mb pb r) (hA:Pg.dx w lo v L) (hql:r.q.length≤4398000000000) :
  Calls Tryz.prog 152 #[.pointer (some ⟨mb,0,none⟩),v.v] w fun e w'=>e = .returned (.tuple #[])∧Pg.MT w' lo mb pb (Pg.doL r L)∧Pg.Rf lo w w':=by
 obtain ⟨va,vn,vc⟩:=v
 have hn:vn=L.length:=hA.n
 have hcap:L.length≤vc:=hA.cap
 have hlen:=hA.len
 subst hn
 have HA:Hid _:=hA
 have H0:Hid _:=h
 clear hA h
 unfold Ref.Sl.v
 dsimp only
 go_enter Tryz.func152,Tryz.ntmps152
 go_wp2
 go_loopw [8] (fun i wr=>∃ k:Nat,i = .int .i64 k∧k≤L.length∧Hid (Pg.MT wr lo mb pb (Pg.doL r (L.take k))∧Pg.Rf lo w wr)) (fun i _=>L.length-(intOf i).toNat)
 case atStart=>exact ⟨0,rfl,by omega,H0.out,Pg.RfE.refl _ _⟩
 case round =>
  obtain ⟨k,rfl,hkl,HM⟩:=hrel
  by_cases hk:k<L.length
  ·obtain ⟨x,hx⟩:∃ x,L[k]?=some x:=⟨_,List.getElem?_eq_getElem hk⟩
   have hxok:=HA.out.ok x (List.mem_of_getElem? hx)
   obtain ⟨ab,ha,hab,hc⟩:=(HA.out.below HM.out.2.bel).cell k x hx
   dsimp only at ha
   subst ha
   have hq:=Pg.qI r (L.take k)
   have hq2:(Pg.doL r (L.take k)).q.length≤4398046511104:=by rw [List.length_take] at hq;omega
   have HN:Hid (Pg.doL r (L.take (k+1))=Pg.iT (Pg.doL r (L.take k)) x):=by
    unfold Hid
    rw [List.take_add_one,hx]
    exact Pg.Bi _ _ _
   have hres:Hid (∀ w8,Pg.MT w8 lo mb pb (Pg.iT (Pg.doL r (L.take k)) x)→Pg.Rf lo wr w8→Pg.MT w8 lo mb pb (Pg.doL r (L.take (k+1)))∧Pg.Rf lo w w8):=fun w8 a b=>⟨by rw [HN.out];exact a,HM.out.2.trans b⟩
   have hki:((k:Int)<(L.length:Int)):=by omega
   clear hq hx
   cases x with
   | raise ev =>
    have hd:=uj wr lo mb pb _ ev hl HM.out.1 hq2
    have hm:=Tryz.Gx
    unfold Pg.PA.v at hc
    dsimp only at hc
    go_wp2_with (go_at_call 372;refine hd.mono ?_;intro e w8 h8;obtain ⟨rfl,h8,g8⟩:=h8;have H8:Hid _:=hres.out w8 h8 g8;clear h8 g8)
    go_roundw
    case rel=>exact ⟨k+1,by simp,by omega,H8⟩
    case measure=>simp only [intOf];omega
   | send ev d =>
    have hd:=wm wr lo mb pb _ ev d hl HM.out.1 hq2 hxok
    have hm:=Tryz.Gy
    unfold Pg.PA.v at hc
    dsimp only at hc
    go_wp2_with (go_at_call 349;refine hd.mono ?_;intro e w8 h8;obtain ⟨rfl,h8,g8⟩:=h8;have H8:Hid _:=hres.out w8 h8 g8;clear h8 g8)
    go_roundw
    case rel=>exact ⟨k+1,by simp,by omega,H8⟩
    case measure=>simp only [intOf];omega
   | sendAs ev d id=>exact False.elim hxok
   | cancel id=>exact False.elim hxok
  ·obtain rfl:k=L.length:=by omega
   have HF:=HM.out
   rw [List.take_length] at HF
   have HF2:Hid _:=HF
   clear HF
   go_wp2
   go_end0
   exact ⟨rfl,HF2.out⟩
end
end Go.Proofs.YtegmoddppafkfaaGreatDoor
