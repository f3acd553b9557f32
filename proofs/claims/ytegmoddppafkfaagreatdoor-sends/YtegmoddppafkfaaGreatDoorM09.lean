import Derived.Test.YtegmoddppafkfaaGreatDoorM00
import Derived.Test.YtegmoddppafkfaaGreatDoorM08
set_option maxRecDepth 100000
set_option maxHeartbeats 8000000
namespace Go.Proofs.YtegmoddppafkfaaGreatDoor
section
open Go.RowKit Go.Proofs Go.Shelf
theorem rW (w:World) (mb o s:Nat) (l:List Pg.Nd) (n:Nat) (x:Pg.Tn) (v:Value) (h:Nat) (hs:s<64) (hh:h<18446744073709551616) (hc:w.cell? ⟨mb,o+s,none⟩=some (Pg.aD l)) (hfz:∀ i,w.frozen? ⟨mb,i,none⟩=false) (hd:w.cell? ⟨mb,o+64,none⟩=some (.int .u64 h)) (hR:Pg.bI w l) (hn:w.heap[n]?=some (.cells (Pg.dL x v) 250 (0,0))) (hnl:n ∉ l.map (·.1)) (hcn:mb≠n) (hcl:mb ∉ l.map (·.1)) :
  Calls Tryz.prog 207 #[.pointer (some ⟨mb,o,none⟩),.int .i64 s,.pointer (some ⟨n,0,none⟩)] w fun e w'=>e = .returned (.tuple #[])∧w'=(Pg.dD w ⟨mb,o+s,none⟩ l n).drew.setCell ⟨mb,o+64,none⟩ (.int .u64 (Pg.fT h s false)):=by
 have hp:=ke w mb (o+s) l n x v hc (hfz _) hR hn hnl hcn hcl
 have hc1:∀ j,(Pg.dD w ⟨mb,o+s,none⟩ l n).cell? ⟨mb,j,none⟩=if j=o+s then some (Pg.ndP n) else w.cell? ⟨mb,j,none⟩:=fun j=>by
  have hset:∀ (W:World) (b:Nat) (u:Value),mb≠b→(W.setCell ⟨b,3,none⟩ u).cell? ⟨mb,j,none⟩=W.cell? ⟨mb,j,none⟩:=fun W b u hb=>ax (by intro e;injection e with e1;exact hb e1.symm)
  unfold Pg.dD
  cases hz:l.getLast? with
  | none =>
   dsimp only
   by_cases e:j=o+s
   ·subst e
    rw [if_pos rfl]
    exact World.cell?_setCell_same _ _ _ ((hset _ _ _ hcn).trans hc)
   ·rw [if_neg e,ax (by intro h;injection h with h1 h2;exact e h2.symm),hset _ _ _ hcn]
  | some z =>
   have hzl:mb≠z.1:=fun e=>hcl (List.mem_map.2 ⟨z,List.mem_of_getLast? hz,e.symm⟩)
   dsimp only
   by_cases e:j=o+s
   ·subst e
    rw [if_pos rfl]
    exact World.cell?_setCell_same _ _ _ ((hset _ _ _ hzl).trans ((hset _ _ _ hcn).trans hc))
   ·rw [if_neg e,ax (by intro h;injection h with h1 h2;exact e h2.symm),hset _ _ _ hzl,hset _ _ _ hcn]
 have hr1:=hc1 (o+s)
 rw [if_pos rfl] at hr1
 have hd1:=hc1 (o+64)
 rw [if_neg (by omega),hd] at hd1
 have hf1:(Pg.dD w ⟨mb,o+s,none⟩ l n).frozen? ⟨mb,o+64,none⟩=false:=by
  unfold Pg.dD
  cases l.getLast? <;> simp only [World.frozen?_setCell] <;> exact hfz _
 have hm:=o6 (Pg.dD w ⟨mb,o+s,none⟩ l n) mb o s (l++[(n,x)]) h hs hh (by rw [hr1,Pg.kW]) hd1 hf1
 rw [show (l++[(n,x)]).isEmpty=false by simp] at hm
 generalize Pg.dD w ⟨mb,o+s,none⟩ l n=W1 at *
 clear hR hn hnl hcl hc1 hr1 hd1 hf1 hc hd hfz
 go_enter Tryz.func207,Tryz.ntmps207
 go_wp2_with (first
  | (go_at_call 206;refine hp.mono ?_;rintro e w9 ⟨rfl,hw9⟩;rw [hw9];clear hw9 w9)
  | (go_at_call 202;refine hm.mono ?_;rintro e w9 ⟨rfl,hw9⟩;rw [hw9];clear hw9 w9))
 go_end0
 exact ⟨rfl,rfl⟩
namespace Pg
theorem dU (now t:Nat):aF now t≤6:=Nat.min_le_right _ _
theorem eE (now t:Nat):eV now t<64:=Nat.mod_lt _ (by decide)
def place (now t:Nat):Nat:=if aF now t=6 then 390 else aF now t*65+eV now t
theorem eT (now t:Nat):isR (place now t):=by
 have:=dU now t
 have:=eE now t
 unfold place isR
 split <;> omega
structure WhM (W:World) (lo:Nat) (s:MSt) (R:Nat→List Nd):Prop where
 rgs:b7 W lo s.wh R
 held:iV s.wh R
theorem ak.whc {W:World} {lo mb pb:Nat} {qv:Value} {s:MSt} (h:ak W lo mb pb qv s) (i:Nat) (h1:28≤i) (h2:i<419):W.cell? ⟨mb,i,none⟩=some (s.wh i):=by
 rw [h.cell i (by omega)]
 unfold e8
 rw [if_neg (by omega),if_neg (by omega),if_neg (by omega),if_neg (by omega),if_neg (by omega),if_pos h2]
end Pg
theorem Ei (w:World) (lo mb pb:Nat) (qv:Value) (s:Pg.MSt) (R:Nat→List Pg.Nd) (n:Nat) (x:Pg.Tn) (v:Value) (hM:Pg.ak w lo mb pb qv s) (hW:Pg.WhM w lo s R) (hls:lo≤w.heap.size) (hnow:s.now<18446744073709551616) (hxt:x.t<18446744073709551616) (hn:w.heap[n]?=some (.cells (Pg.dL x v) 250 (0,0))) (hnl:∀ q,Pg.isR q→∀ y∈R q,y.1≠n) (hlo:lo≤n) :
  Calls Tryz.prog 172 #[.pointer (some ⟨mb,27,none⟩),.pointer (some ⟨n,0,none⟩)] w fun e w'=>e = .returned (.tuple #[])∧∃ wh',Pg.ak w' lo mb pb qv { s with wh:=wh' }∧Pg.WhM w' lo { s with wh:=wh' } (Pg.upd R (Pg.place s.now x.t) (R (Pg.place s.now x.t)++[(n,x)]))∧Pg.Rw lo w w':=by
 have hn0:w.cell? ⟨n,0,none⟩=some (.int .u64 x.t):=by rw [cell_of_row w _ _ _ _ _ hn];rfl
 have hc27:w.cell? ⟨mb,27,none⟩=some (.int .u64 s.now):=hM.cell 27 (by decide)
 have hsp:=me w mb 27 s.now x.t hnow hxt hc27
 have hr:=Pg.eT s.now x.t
 have hmn:=hM.typ hn
 have hty:∀ q,Pg.isR q→mb ∉ (R q).map (·.1):=fun q hq e=>by
  obtain ⟨y,hy,e⟩:=List.mem_map.1 e
  obtain ⟨i,hi⟩:=List.mem_iff_getElem?.1 hy
  exact hM.typ (hW.rgs.nds q hq i y hi) e.symm
 have hnr:∀ q,Pg.isR q→n ∉ (R q).map (·.1):=fun q hq e=>by
  obtain ⟨y,hy,e⟩:=List.mem_map.1 e
  exact hnl q hq y hy e
 have hKl:=Pg.dU s.now x.t
 have hSl:=Pg.eE s.now x.t
 have hpl:Pg.place s.now x.t=if Pg.aF s.now x.t=6 then 390 else Pg.aF s.now x.t*65+Pg.eV s.now x.t:=rfl
 generalize Pg.place s.now x.t=r at *
 generalize Pg.aF s.now x.t=K at *
 generalize Pg.eV s.now x.t=S at *
 by_cases hK:K=6
 ·subst hK
  rw [if_pos rfl] at hpl
  subst hpl
  have H:Hid (∀ w9,Below w.heap.size w w9→Calls Tryz.prog 206 #[.pointer (some ⟨mb,418,none⟩),.pointer (some ⟨n,0,none⟩)] w9 fun e w'=>e = .returned (.tuple #[])∧∃ wh',Pg.ak w' lo mb pb qv { s with wh:=wh' }∧Pg.WhM w' lo { s with wh:=wh' } (Pg.upd R 390 (R 390++[(n,x)]))∧Pg.Rw lo w w'):=fun w9 hb=>by
   have hM9:=hM.below hb
   have hR9:=hW.rgs.below hb
   have hn9:=(hb.block n (Array.getElem?_eq_some_iff.1 hn).1).trans hn
   refine (ke w9 mb 418 (R 390) n x v ((hM9.whc 418 (by omega) (by omega)).trans (congrArg some (hR9.ring 390 hr))) (hM9.frozen _) (hR9.nds 390 hr) hn9 (hnr 390 hr) hmn (hty 390 hr)).mono ?_
   rintro e w' ⟨rfl,rfl⟩
   obtain ⟨a,b,c⟩:=hR9.push (r:=390) hM9 hr (Nat.le_trans hls hb.size) hn9 hnl hlo
   refine ⟨rfl,_,a,⟨b,fun k hk => ?_⟩,(Pg.RfE.of hb hls).trans c⟩
   obtain ⟨h,h1,h2,h3⟩:=hW.held k hk
   refine ⟨h,h1,?_,fun j hj => ?_⟩
   ·show Pg.upd s.wh (28+390) _ _=_
    rw [Pg.aB _ _ (by omega)];exact h2
   ·rw [Pg.aB _ _ (by omega)];exact h3 j hj
  clear hW hM hty hnr hnl hn hlo hr hmn
  go_enter Tryz.func172,Tryz.ntmps172
  go_wp2_with (first
   | (go_at_call 168;refine hsp.mono ?_;rintro e w9 ⟨rfl,hb9⟩)
   | (go_at_call 206;refine (H.out _ hb9).mono ?_;intro e w' h9;obtain ⟨rfl,h9⟩:=h9;have H9:Hid _:=h9;clear h9))
  refine bodyPost_ret (results_none rfl _ _ _) rfl ?_
  exact ⟨rfl,H9.out⟩
 ·rw [if_neg hK] at hpl
  subst hpl
  have hK5:K<6:=by omega
  have hKb:((K:Int) == 6)=false:=by simp;omega
  have H:Hid (∀ w9,Below w.heap.size w w9→Calls Tryz.prog 207 #[.pointer (some ⟨mb,28+K*65,none⟩),.int .i64 S,.pointer (some ⟨n,0,none⟩)] w9 fun e w'=>e = .returned (.tuple #[])∧∃ wh',Pg.ak w' lo mb pb qv { s with wh:=wh' }∧Pg.WhM w' lo { s with wh:=wh' } (Pg.upd R (K*65+S) (R (K*65+S)++[(n,x)]))∧Pg.Rw lo w w'):=fun w9 hb=>by
   have hM9:=hM.below hb
   have hR9:=hW.rgs.below hb
   have hn9:=(hb.block n (Array.getElem?_eq_some_iff.1 hn).1).trans hn
   obtain ⟨h,h1,h2,h3⟩:=hW.held K hK5
   refine (rW w9 mb (28+K*65) S (R (K*65+S)) n x v h hSl h1 (by rw [Nat.add_assoc];exact (hM9.whc (28+(K*65+S)) (by omega) (by omega)).trans (congrArg some (hR9.ring _ hr))) (fun i=>hM9.frozen i) (by rw [Nat.add_assoc];exact (hM9.whc (28+(K*65+64)) (by omega) (by omega)).trans (congrArg some h2)) (hR9.nds _ hr) hn9 (hnr _ hr) hmn (hty _ hr)).mono ?_
   rintro e w' ⟨rfl,rfl⟩
   obtain ⟨a,b,c⟩:=hR9.push (r:=K*65+S) hM9 hr (Nat.le_trans hls hb.size) hn9 hnl hlo
   rw [Nat.add_assoc 28 (K*65) S]
   obtain ⟨a2,b2,c2⟩:=b.mark a K hK5 (.int .u64 (Pg.fT h S false)) (Nat.le_trans hls (Nat.le_trans hb.size c.bel.size))
   refine ⟨rfl,_,a2,⟨b2,fun k hk => ?_⟩,(Pg.RfE.of hb hls).trans (c.trans c2)⟩
   by_cases e:k=K
   ·subst e
    refine ⟨Pg.fT h S false,Pg.lJ h1 hSl,Pg.aw _ _ _,fun j hj => ?_⟩
    rw [Pg.j5 hSl j hj]
    by_cases e:j=S
    ·subst e
     rw [if_pos rfl,Pg.aw]
     simp
    ·rw [if_neg e,Pg.aB _ _ (by omega)]
     exact h3 j hj
   ·obtain ⟨g,g1,g2,g3⟩:=hW.held k hk
    refine ⟨g,g1,?_,fun j hj => ?_⟩
    ·show Pg.upd (Pg.upd s.wh _ _) _ _ _=_
     rw [Pg.aB _ _ (by omega),Pg.aB _ _ (by omega)];exact g2
    ·rw [Pg.aB _ _ (by omega)];exact g3 j hj
  clear hW hM hty hnr hnl hn hlo hr hmn
  go_enter Tryz.func172,Tryz.ntmps172
  go_wp2_with (first
   | (go_at_call 168;refine hsp.mono ?_;rintro e w9 ⟨rfl,hb9⟩)
   | (go_at_call 207;refine (H.out _ hb9).mono ?_;intro e w' h9;obtain ⟨rfl,h9⟩:=h9;have H9:Hid _:=h9;clear h9))
  go_end0
  exact ⟨rfl,H9.out⟩
namespace Pg
def eI (W:World) (lo:Nat) (s:MSt) (T:List Tn):Prop:=∃ R,WhM W lo s R∧(∀ r,isR r→(R r).map (·.2)=T.filter (fun t=>place s.now t.t == r))∧∀ t∈T,t.t<18446744073709551616
theorem eI.kd {E:TypeId→Prop} {W W':World} {lo:Nat} {s s':MSt} {T:List Tn} (h:eI W lo s T) (hk:Kd E W W') (hE:¬ E 250) (h1:s'.wh=s.wh) (h2:s'.now=s.now):eI W' lo s' T:=by
 obtain ⟨R,a,b,c⟩:=h
 refine ⟨R,⟨by rw [h1];exact a.rgs.kd hk hE,by rw [h1];exact a.held⟩,by rw [h2];exact b,c⟩
theorem eI.below {W W':World} {lo:Nat} {s:MSt} {T:List Tn} (h:eI W lo s T) (hb:Below W.heap.size W W'):eI W' lo s T:=h.kd (bC (E:=fun _=>False) hb) (fun h=>h) rfl rfl
theorem eI.rq {W W':World} {lo lo':Nat} {s s':MSt} {T:List Tn} (h:eI W lo s T) (hk:Rq lo' W W') (h1:s'.wh=s.wh) (h2:s'.now=s.now):eI W' lo s' T:=h.kd hk.kd (by unfold Gt;decide) h1 h2
def atF (now d:Nat):Nat:=if now+d<18446744073709551616 then now+d else 18446744073709551615
end Pg
theorem Dn (w:World) (lo mb pb:Nat) (qv:Value) (s:Pg.MSt) (T:List Pg.Tn) (d:Nat) (ev nm:ByteArray) (hM:Pg.ak w lo mb pb qv s) (hT:Pg.eI w lo s T) (hls:lo≤w.heap.size) (hnow:s.now<18446744073709551616) (hd:d<18446744073709551616) :
  Calls Tryz.prog 383 #[.pointer (some ⟨mb,27,none⟩),.int .u64 d,.agg #[.string ev,.string nm]] w fun e w'=>e = .returned (.tuple #[])∧∃ wh',Pg.ak w' lo mb pb qv { s with wh:=wh' }∧Pg.eI w' lo { s with wh:=wh' } (T++[⟨Pg.atF s.now d,ev,nm⟩])∧Pg.Rw lo w w':=by
 have hc27:w.cell? ⟨mb,27,none⟩=some (.int .u64 s.now):=hM.cell 27 (by decide)
 have hml:=hM.lt
 have hatl:Pg.atF s.now d<18446744073709551616:=by unfold Pg.atF;split <;> omega
 have hb1:∀ (o1 o2:Obj),Below w.heap.size w ((w.alloc o1).alloc o2):=fun o1 o2=>((Below.refl _ w).alloc (Nat.le_refl _) _).alloc (by simp) _
 have H:Hid (∀ o1:Obj,Calls Tryz.prog 172 #[.pointer (some ⟨mb,27,none⟩),.pointer (some ⟨w.heap.size+1,0,none⟩)] ((w.alloc o1).alloc (.cells #[.int .u64 (Pg.atF s.now d),.string ev,.string nm,.pointer none] 250)) fun e w'=>e = .returned (.tuple #[])∧∃ wh',Pg.ak w' lo mb pb qv { s with wh:=wh' }∧Pg.eI w' lo { s with wh:=wh' } (T++[⟨Pg.atF s.now d,ev,nm⟩])∧Pg.Rw lo w w'):=fun o1=>by
  obtain ⟨R,hW,hF,hB⟩:=hT
  have hb:=hb1 o1 (.cells #[.int .u64 (Pg.atF s.now d),.string ev,.string nm,.pointer none] 250)
  have hnew:=b8 w o1 (.cells #[.int .u64 (Pg.atF s.now d),.string ev,.string nm,.pointer none] 250)
  refine (Ei _ lo mb pb qv s R (w.heap.size+1) ⟨Pg.atF s.now d,ev,nm⟩ (.pointer none) (hM.below hb) ⟨hW.rgs.below hb,hW.held⟩ (Nat.le_trans hls hb.size) hnow hatl hnew (fun q hq y hy e => ?_) (by omega)).mono ?_
  ·obtain ⟨i,hi⟩:=List.mem_iff_getElem?.1 hy
   have:=(Array.getElem?_eq_some_iff.1 (hW.rgs.nds q hq i y hi)).1
   omega
  ·rintro e w' ⟨rfl,wh',a,b,c⟩
   refine ⟨rfl,wh',a,⟨_,b,fun r hr => ?_,fun t ht => ?_⟩,(Pg.RfE.of hb hls).trans c⟩
   ·dsimp only
    rw [List.filter_append]
    by_cases e:r=Pg.place s.now (Pg.atF s.now d)
    ·subst e
     rw [Pg.aw,List.map_append,hF _ hr]
     simp
    ·rw [Pg.aB _ _ e,hF r hr]
     have:(Pg.place s.now (Pg.atF s.now d) == r)=false:=by simpa using fun h=>e h.symm
     simp [this]
   ·rcases List.mem_append.1 ht with ht | ht
    ·exact hB t ht
    ·rw [List.mem_singleton.1 ht];exact hatl
 clear hT hM hatl hb1
 by_cases hwr:s.now+d<18446744073709551616
 ·have hat:Pg.atF s.now d=s.now+d:=by unfold Pg.atF;rw [if_pos hwr]
  rw [hat] at H ⊢
  have hmod:IntKind.u64.wrap ((s.now:Int)+(d:Int))=((s.now+d:Nat):Int):=by rw [IntKind.wrap_u64];omega
  have hlt:¬ (((s.now+d:Nat):Int)<(s.now:Int)):=by omega
  clear hat
  go_enter Tryz.func383,Tryz.ntmps383
  go_wp2_with (go_at_call 172;refine (H.out _).mono ?_;intro e w' h9;obtain ⟨rfl,h9⟩:=h9;have H9:Hid _:=h9;clear h9)
  go_end0
  exact ⟨rfl,H9.out⟩
 ·have hat:Pg.atF s.now d=18446744073709551615:=by unfold Pg.atF;rw [if_neg hwr]
  rw [hat] at H ⊢
  have hmod:IntKind.u64.wrap ((s.now:Int)+(d:Int))=((s.now+d-18446744073709551616:Nat):Int):=by rw [IntKind.wrap_u64];omega
  have hlt:((s.now+d-18446744073709551616:Nat):Int)<(s.now:Int):=by omega
  generalize s.now+d-18446744073709551616=q at *
  clear hat
  go_enter Tryz.func383,Tryz.ntmps383
  go_wp2_with (go_at_call 172;refine (H.out _).mono ?_;intro e w' h9;obtain ⟨rfl,h9⟩:=h9;have H9:Hid _:=h9;clear h9)
  go_end0
  exact ⟨rfl,H9.out⟩
attribute [local go_sem] Oper.semAt_some
theorem ry (mb o:Nat) (w:World):Calls Tryz.prog 148 #[.pointer (some ⟨mb,o,none⟩)] w fun e w'=>e = .returned (.func (.func 182) #[] #[.pointer (some ⟨w.heap.size,0,none⟩)])∧w'=w.alloc (.cells #[.pointer (some ⟨mb,o,none⟩)] 198):=by
 go_enter Tryz.func148,Tryz.ntmps148
 go_wp2
 go_ret
 exact ⟨rfl,rfl⟩
theorem wk (a:Int):wrap64 (wrap64 a+1)=wrap64 (a+1):=by unfold wrap64;omega
namespace Pg
def eW (R:Nat→List Nd) (xs:List Nat):Nat:=(xs.map fun r=>(R r).length).sum
theorem mF (R:Nat→List Nd) (xs:List Nat) (r:Nat):eW R (xs++[r])=eW R xs+(R r).length:=by unfold eW;simp
end Pg
theorem z8 (w:World) (mb:Nat) (R:Nat→List Pg.Nd) (hv:Nat→Nat) (hvl:∀ k,k<6→hv k<18446744073709551616) (hR:∀ Bs V,Below w.heap.size w V→V.cell? ⟨Bs,0,none⟩=some (.pointer (some ⟨mb,27,none⟩))→Pg.wu V Bs mb R hv) (hN:∀ r,Pg.isR r→Pg.bI w (R r)) (hnd:∀ r,Pg.isR r→((R r).map (·.1)).Nodup) (hmb:mb<w.heap.size) (hg:2<w.heap.size) :
  Calls Tryz.prog 332 #[.pointer (some ⟨mb,27,none⟩)] w fun e w'=>e = .returned (.int .i64 (wrap64 (Pg.eW R (Pg.eU hv):Nat)))∧Below w.heap.size w w':=by
 refine (callsIn_wide (n:=9)).1 ?_
 refine callsIn_of_wp_marks Tryz.func332 rfl trivial ?_ rfl
 simp only [Tryz.ntmps332,List.size_toArray,List.length_cons,List.length_nil,Nat.reduceAdd,Nat.reduceSub,Array.replicate_succ,Array.replicate_zero,List.push_toArray,List.append_toArray,List.nil_append,List.cons_append]
 gi_wp2_with (refine ⟨trivial,?_⟩;gi_at_call 148;refine (callsIn_wide.2 (ry mb 27 _)).mono ?_;rintro e w9 ⟨rfl,hw9⟩;rw [hw9];clear hw9 w9)
 have b0:=(Boxed.new w 3 (.int .i64 0)).alloc (.cells #[.pointer (some ⟨mb,27,none⟩)] 198)
 have b1:=Boxed.new (w.alloc (.cells #[.int .i64 0] 3)) 198 (.pointer (some ⟨mb,27,none⟩))
 simp only [World.size_alloc] at b1
 have hB0:Below w.heap.size w ((w.alloc (.cells #[.int .i64 0] 3)).alloc (.cells #[.pointer (some ⟨mb,27,none⟩)] 198)):=((Below.refl _ w).alloc (Nat.le_refl _) _).alloc (by simp) _
 have hs0:((w.alloc (.cells #[.int .i64 0] 3)).alloc (.cells #[.pointer (some ⟨mb,27,none⟩)] 198)).heap.size=w.heap.size+2:=by simp
 generalize (w.alloc (.cells #[.int .i64 0] 3)).alloc (.cells #[.pointer (some ⟨mb,27,none⟩)] 198)=W0 at *
 have hsh:∀ r,Pg.aD (R r) = .pointer none∨∃ b,Pg.aD (R r) = .pointer (some ⟨b,0,none⟩):=fun r=>by
  unfold Pg.aD
  cases (R r).getLast? with
  | none=>exact .inl rfl
  | some z=>exact .inr ⟨z.1,rfl⟩
 have hW0:wrap64 ((Pg.eW R []:Nat):Int)=0:=by unfold Pg.eW wrap64;simp
 have b0:Boxed W0 w.heap.size 3 (.int .i64 (wrap64 ((Pg.eW R []:Nat):Int))):=by rw [hW0];exact b0
 clear hW0
 refine pq rfl (by omega) (gf:=182) rfl trivial (enters_of Tryz.func182 (by kernel_rfl) rfl)
  (Cw 8 (by omega) (w.heap.size+1) mb R hv hvl (· = w.heap.size) W0 (hR _ W0 hB0 b1.cell) (by omega) (by omega) (by omega) (fun k h=>by omega))
  KpN.tr (fun V o o' h ho=>KpN.put (by omega) V o o' h ho) (fun _=>rfl)
  (fun xs V=>Boxed V w.heap.size 3 (.int .i64 (wrap64 (Pg.eW R xs:Nat)))∧Below w.heap.size w V∧W0.heap.size≤V.heap.size)
  (OwnFrom.and (Own.from (boxed_own _ _ _) _) (OwnFrom.and (ownFrom_below (Nat.le_refl _) (by omega)) (fun _ _ _ _ h hg _=>Nat.le_trans h hg.size)))
  (fun _ _ _=>trivial) ⟨b0,hB0,Nat.le_refl _⟩
  (fun r a' V=>∃ b,a'={ tmps:=#[.pointer (some ⟨mb,27,none⟩),undef,.int .i64 0,.pointer (some ⟨w.heap.size,0,none⟩),.pointer (some ⟨b,0,none⟩),.pointer (some ⟨mb,27,none⟩),.func (.func 182) #[] #[.pointer (some ⟨w.heap.size+1,0,none⟩)],.agg #[Pg.aD (R r)],undef,undef,undef,undef,undef,undef],defers:=[] }∧Boxed V b 144 (Pg.aD (R r))∧w.heap.size+2≤b)
  (fun r a' u A C row h hg hr=>by
   obtain ⟨b,e,hb,hl⟩:=h
   exact ⟨b,e,Own.from (boxed_own (β:=Unit) b 144 (fun _=>Pg.aD (R r))) _ () A C row hb hg hr,hl⟩)
  ?assign ?body ?done
 case assign =>
  intro l xs r V K hI hK
  have hVs:=hI.2.1.size
  have hk2:∀ rv:Value,Pg.aD (R r)=rv→K _ (V.alloc (.cells #[rv] 144)):=fun rv e=>hK _ _ ((KeepsOthers.alloc _ _).from _) (KpN.below ((Below.refl _ V).alloc (Nat.le_refl _) _)) ⟨hI.1.alloc _,hI.2.1.alloc hVs _,by have:=hI.2.2;simp;omega⟩ ⟨V.heap.size,rfl,e ▸ Boxed.new V _ _,by have:=hI.2.2;omega⟩
  rcases hsh r with hrv | ⟨b,hrv⟩
  all_goals
   have hk3:=hk2 _ hrv
   rw [hrv] at hk3 ⊢
   gi_wp2
   exact hk3
 case body =>
  rintro l xs r a' V hl ⟨rl,hrl⟩ hir ⟨hc,hB,hsV⟩ ⟨b,rfl,hb,hbl⟩
  have hbc:=hb.cell
  have hVs:=hB.size
  have hd1:1≤9-1-1:=by omega
  obtain ⟨rv,hrv⟩:∃ rv,Pg.aD (R r)=rv:=⟨_,rfl⟩
  have hshr:=hsh r
  have hno:=j8 rv V (hrv ▸ hshr)
  rw [hrv] at hbc ⊢
  gi_wp2_with (refine ⟨trivial,?_⟩;gi_at_call 171;refine (aC hno).mono ?_;rintro e w9 ⟨rfl,hw9⟩;rw [hw9];clear hw9 w9)
  have hr':(V.alloc (.cells #[rv] 144)).heap[l]?=some (.loop rl):=(Below.heap_alloc V _ l (Array.getElem?_eq_some_iff.1 hrl).1).trans hrl
  have bx:(V.alloc (.cells #[rv] 144)).cell? ⟨V.heap.size,0,none⟩=some rv:=cell_of_row _ _ 0 _ _ (0,0) (heap_alloc_new V _)
  have hBV:Below V.heap.size V (V.alloc (.cells #[rv] 144)):=(Below.refl _ V).alloc (Nat.le_refl _) _
  have hBa:=hB.trans (hBV.mono hVs)
  have hca:=hc.alloc (.cells #[rv] 144)
  have hsa:(V.alloc (.cells #[rv] 144)).heap.size=V.heap.size+1:=by simp
  generalize V.alloc (.cells #[rv] 144)=V2 at *
  have hNl:∀ x∈R r,x.1<w.heap.size:=fun x hx=>by
   obtain ⟨i,hi⟩:=List.mem_iff_getElem?.1 hx
   exact (Array.getElem?_eq_some_iff.1 (hN r hir i x hi)).1
  have hN2:Pg.bI V2 (R r):=fun i x hx=>(hBa.block x.1 (hNl x (List.mem_of_getElem? hx))).trans (hN r hir i x hx)
  refine wpIn_rangeFunc_ownN (l₀:=l) (r₀:=rl) rfl hr' hd1 (gf:=204) rfl trivial (enters_of Tryz.func204 (by kernel_rfl) rfl)
   ((nB (9-1-1-1) (by omega) V.heap.size (R r) (hnd r hir) (· = w.heap.size) V2 (bx.trans (congrArg some hrv.symm)) hN2 (by omega) (fun x hx=>by have:=hNl x hx;omega)).inRound l)
   KpM.tr (fun V l o o' _ h hc _=>KpM.put V l o o' h hc) (Below.refl _ _) (fun _=>rfl)
   (fun ys U=>(Boxed U w.heap.size 3 (.int .i64 (wrap64 ((Pg.eW R xs+ys.length:Nat):Int)))∧Below w.heap.size w U)∧KpN (· = w.heap.size) (W0.heap.size+2) V U∧KeepsFrom W0.heap.size V U) (fun _ _ _=>False)
   (OwnFrom.and (OwnFrom.and (Own.from (boxed_own _ _ _) _) (ownFrom_below (Nat.le_refl _) (by omega))) (OwnFrom.and (KpN.own (by omega)) (ownFrom_keepsFrom (by omega))))
   (fun _ _ _ _ _ hs _ _=>hs) ⟨⟨by simpa using hca,hBa⟩,KpN.below hBV,(Pg.ew hBV).from _⟩
   (fun x a' _=>a'={ tmps:=#[.pointer (some ⟨mb,27,none⟩),undef,.int .i64 0,.pointer (some ⟨w.heap.size,0,none⟩),.pointer (some ⟨b,0,none⟩),.pointer (some ⟨mb,27,none⟩),.func (.func 182) #[] #[.pointer (some ⟨w.heap.size+1,0,none⟩)],.agg #[rv],.agg #[rv],.func (.func 204) #[] #[.pointer (some ⟨V.heap.size,0,none⟩)],.pointer (some ⟨x.1,0,none⟩),undef,undef,undef],defers:=[] })
   (fun _ _ _ _ _ _ hs _ _=>hs) ?assign2 ?body2 ?done2 ?stop2
  case assign2 =>
   rintro l2 ys x U K hi hK
   gi_wp2
   exact hK _ _ (KeepsFrom.refl _ _) (KpM.refl _ _) hi rfl
  case body2 =>
   rintro l2 ys x a' U _ _ ⟨⟨hcU,hBU⟩,hkU,hkf⟩ rfl _
   have cc:=hcU.cell
   have cf:=hcU.frozen
   have hset:=hcU.set (.int .i64 (wrap64 ((Pg.eW R xs+(ys++[x]).length:Nat):Int)))
   have hwr:=wk ((Pg.eW R xs+ys.length:Nat):Int)
   rw [show ((Pg.eW R xs+ys.length:Nat):Int)+1=((Pg.eW R xs+(ys++[x]).length:Nat):Int) by simp;omega] at hwr
   obtain ⟨c2,hc2⟩:∃ c,Pg.eW R xs+(ys++[x]).length=c:=⟨_,rfl⟩
   obtain ⟨c1,hc1⟩:∃ c,Pg.eW R xs+ys.length=c:=⟨_,rfl⟩
   rw [hc2] at hset hwr
   rw [hc1] at hwr cc hcU
   have HC:Hid _:=hc2
   clear hc1 hc2
   obtain ⟨q2,hq2⟩:∃ q,wrap64 (c2:Int)=q:=⟨_,rfl⟩
   obtain ⟨q1,hq1⟩:∃ q,wrap64 (c1:Int)=q:=⟨_,rfl⟩
   rw [hq1] at hwr cc
   rw [hq2] at hwr hset
   rw [hq1] at hcU
   have HQ:Hid (wrap64 (c2:Int)=q2):=hq2
   clear hq1 hq2
   gi_wp2
   refine ⟨(KeepsOthers.setCell _ _ _).from _,KpM.set U _ _ rfl,⟨?_,hBU.setCell (p:=⟨w.heap.size,0,none⟩) (by simp) _⟩,hkU.tr (KpN.set U _ _ rfl),hkf.trans ((KeepsOthers.setCell _ _ _).from _)⟩
   show Boxed _ _ _ (.int .i64 (wrap64 ((Pg.eW R xs+(ys++[x]).length:Nat):Int)))
   rw [HC.out,HQ.out]
   exact hset
  case done2 =>
   rintro ys U hys ⟨⟨hcU,hBU⟩,hkU,hkf⟩
   subst hys
   have hcn:Pg.eW R (xs++[r])=Pg.eW R xs+(R r).length:=Pg.mF R xs r
   gi_wp2
   exact ⟨hkf,hkU,by rw [hcn];exact hcU,hBU,Nat.le_trans hsV hkU.1.1⟩
  case stop2 =>
   rintro c pre U _ h
   exact h.elim
 case done =>
  rintro D xs V hD hS ⟨hc,hB,_⟩ hdef
  subst hS
  have hc:=hc.cell
  gi_wp2
  refine ⟨by simp,.inl ⟨_,_,rfl,run_takeDeferred hdef,?_⟩⟩
  exact ⟨_,results_tmp rfl _ _ _,rfl,hB.trans (belowK_b (w:=w) (Nat.le_refl _) V D _ _ (by omega) hdef rfl rfl)⟩
namespace Pg
theorem nE (f:Nat→Nat) (q:Nat→Bool):∀ L:List Nat,(∀ s∈L,q s=false→f s=0)→((L.filter q).map f).sum=(L.map f).sum
 | [],_=>rfl
 | s::L,h=>by
  have ih:=nE f q L (fun x hx=>h x (List.mem_cons_of_mem _ hx))
  cases hq:q s
  ·rw [List.filter_cons_of_neg (by rw [hq];decide),ih,List.map_cons,List.sum_cons,h s (List.mem_cons_self ..) hq]
   omega
  ·rw [List.filter_cons_of_pos hq,List.map_cons,List.sum_cons,ih,List.map_cons,List.sum_cons]
def jt (k:Nat):List Nat:=(List.range k).flatMap fun k=>(List.range 64).map (k*65 + ·)
def sg:List Nat:=jt 6++[390]
theorem wC (k:Nat):jt (k+1)=jt k++(List.range 64).map (k*65 + ·):=by
 unfold jt
 rw [List.range_succ (n:=k),List.flatMap_append,List.flatMap_singleton]
theorem wB:sg.Nodup:=by decide +kernel
theorem BZ {r:Nat} (h:isR r):r∈sg:=by
 unfold sg jt
 rcases h with ⟨h1,h2⟩ | rfl
 ·refine List.mem_append_left _ (List.mem_flatMap.2 ⟨r / 65,List.mem_range.2 (by omega),List.mem_map.2 ⟨r % 65,List.mem_range.2 (by omega),by omega⟩⟩)
 ·exact List.mem_append_right _ (List.mem_singleton.2 rfl)
theorem yY (x:Nat):∀ L:List Nat,L.Nodup→(L.map fun r=>if x == r then 1 else 0).sum=if x∈L then 1 else 0
 | [],_=>rfl
 | r::L,h=>by
  obtain ⟨h1,h2⟩:=List.nodup_cons.1 h
  rw [List.map_cons,List.sum_cons,yY x L h2]
  by_cases e:x=r
  ·subst e
   simp [h1]
  ·have:(x == r)=false:=by simpa using e
   simp [this,e]
theorem sum_add (f g:Nat→Nat):∀ L:List Nat,(L.map fun r=>f r+g r).sum=(L.map f).sum+(L.map g).sum
 | []=>rfl
 | r::L=>by
  simp only [List.map_cons,List.sum_cons,sum_add f g L]
  omega
theorem vR:∀ L:List Nat,(L.map fun _=>0).sum=0
 | []=>rfl
 | _::L=>by rw [List.map_cons,List.sum_cons,vR L]
theorem pL (p:Tn→Nat) (L:List Nat) (hn:L.Nodup):∀ T:List Tn,(∀ t∈T,p t∈L)→(L.map fun r=>(T.filter fun t=>p t == r).length).sum=T.length
 | [],_=>vR L
 | t::T,h=>by
  have ih:=pL p L hn T (fun x hx=>h x (List.mem_cons_of_mem _ hx))
  have e:(fun r=>((t::T).filter fun t=>p t == r).length)=fun r=>(if p t == r then 1 else 0)+(T.filter fun t=>p t == r).length:=by
   funext r
   cases hp:p t == r
   ·rw [List.filter_cons_of_neg (by rw [hp];decide)]
    simp
   ·rw [List.filter_cons_of_pos (p:=fun t=>p t == r) hp,List.length_cons,if_pos rfl]
    omega
  rw [e,sum_add,ih,yY _ L hn,if_pos (h t (List.mem_cons_self ..)),List.length_cons]
  omega
theorem np (R:Nat→List Nd) (a b:List Nat):eW R (a++b)=eW R a+eW R b:=by
 unfold eW
 rw [List.map_append,List.sum_append]
theorem zu {R:Nat→List Nd} {hv:Nat→Nat} {k:Nat} (h:∀ s,s<64→(hv k).testBit s = !(R (k*65+s)).isEmpty):eW R (jV hv k)=eW R ((List.range 64).map (k*65 + ·)):=by
 unfold eW jV eu
 rw [List.map_map,List.map_map]
 refine nE _ _ _ (fun s hs hb => ?_)
 rw [h s (List.mem_range.1 hs)] at hb
 show (R (k*65+s)).length=0
 simpa using hb
theorem uk {R:Nat→List Nd} {hv:Nat→Nat} (h:∀ k,k<6→∀ s,s<64→(hv k).testBit s = !(R (k*65+s)).isEmpty):∀ k,k≤6→eW R (gQ hv k)=eW R (jt k)
 | 0,_=>rfl
 | k+1,hk=>by rw [iU,wC,np,np,uk h k (by omega),zu (h k (by omega))]
theorem eI.count {W:World} {lo:Nat} {s:MSt} {T:List Tn} {R:Nat→List Nd} (hW:WhM W lo s R) (hF:∀ r,isR r→(R r).map (·.2)=T.filter (fun t=>place s.now t.t == r)):∃ hv:Nat→Nat,(∀ k,k<6→hv k<18446744073709551616)∧(∀ k,k<6→s.wh (28+(k*65+64)) = .int .u64 (hv k))∧eW R (eU hv)=T.length:=by
 have hh:∀ k,∃ h:Nat,k<6→h<18446744073709551616∧s.wh (28+(k*65+64)) = .int .u64 h∧∀ j,j<64→h.testBit j = !(R (k*65+j)).isEmpty:=fun k=>by
  by_cases hk:k<6
  ·obtain ⟨h,a⟩:=hW.held k hk
   exact ⟨h,fun _=>a⟩
  ·exact ⟨0,fun h=>absurd h hk⟩
 refine ⟨fun k=>(hh k).choose,fun k hk=>((hh k).choose_spec hk).1,fun k hk=>((hh k).choose_spec hk).2.1,?_⟩
 have h6:=uk (R:=R) (hv:=fun k=>(hh k).choose) (fun k hk=>((hh k).choose_spec hk).2.2) 6 (by omega)
 unfold eU
 rw [mF,h6,← mF]
 have e:eW R (jt 6++[390])=(sg.map fun r=>(T.filter fun t=>place s.now t.t == r).length).sum:=by
  unfold eW sg
  congr 1
  refine List.map_congr_left (fun r hr => ?_)
  have hir:isR r:=by
   rcases List.mem_append.1 hr with hr | hr
   ·unfold jt at hr
    obtain ⟨k,hk,hr⟩:=List.mem_flatMap.1 hr
    obtain ⟨j,hj,rfl⟩:=List.mem_map.1 hr
    have:=List.mem_range.1 hk
    have:=List.mem_range.1 hj
    exact .inl (by omega)
   ·exact .inr (List.mem_singleton.1 hr)
  rw [← hF r hir,List.length_map]
 rw [e]
 exact pL (fun t=>place s.now t.t) sg wB T (fun t _=>BZ (eT _ _))
end Pg
theorem DY (w:World) (lo mb pb:Nat) (qv:Value) (s:Pg.MSt) (T:List Pg.Tn) (hM:Pg.ak w lo mb pb qv s) (hT:Pg.eI w lo s T) (hl:T.length≤1000) (hg:2<w.heap.size) (hG:TabAt 2 Lib.deBruijn64tab w) :
  Calls Tryz.prog 332 #[.pointer (some ⟨mb,27,none⟩)] w fun e w'=>e = .returned (.int .i64 T.length)∧Below w.heap.size w w':=by
 obtain ⟨R,hW,hF,_⟩:=hT
 obtain ⟨hv,v1,v2,v3⟩:=Pg.eI.count hW hF
 have h:=z8 w mb R hv v1 (fun Bs V hb hc => ?_) (fun r hr=>hW.rgs.nds r hr) (fun r hr=>hW.rgs.nod r hr) hM.lt hg
 ·rw [v3,show wrap64 (T.length:Int)=(T.length:Int) by unfold wrap64;omega] at h
  exact h
 ·have c:∀ i,28≤i→i<419→V.cell? ⟨mb,i,none⟩=some (s.wh i):=fun i h1 h2=>(hb.cell (p:=⟨mb,i,none⟩) hM.lt).trans (hM.whc i h1 h2)
  refine ⟨hc,fun k hk => ?_,fun k j hk hj => ?_,?_,fun j hj=>(hb.cell (p:=⟨2,j,none⟩) hg).trans (hG j hj)⟩
  ·rw [Nat.add_assoc,c _ (by omega) (by omega),v2 k hk]
  ·rw [Nat.add_assoc,c _ (by omega) (by omega),hW.rgs.ring _ (.inl (by omega))]
  ·rw [c 418 (by omega) (by omega)]
   exact congrArg some (hW.rgs.ring 390 (.inr rfl))
end
end Go.Proofs.YtegmoddppafkfaaGreatDoor
