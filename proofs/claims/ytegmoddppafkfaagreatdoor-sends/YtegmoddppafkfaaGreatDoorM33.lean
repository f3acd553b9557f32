import Derived.Test.YtegmoddppafkfaaGreatDoorM00
import Derived.Test.YtegmoddppafkfaaGreatDoorM01
import Derived.Test.YtegmoddppafkfaaGreatDoorM09
import Derived.Test.YtegmoddppafkfaaGreatDoorM31
import Derived.Test.YtegmoddppafkfaaGreatDoorM32
set_option maxRecDepth 100000
set_option maxHeartbeats 8000000
namespace Go.Proofs.YtegmoddppafkfaaGreatDoor
section
open Go.RowKit Go.Proofs Go.Shelf
attribute [local go_sem] Oper.semAt_some
theorem zD (w:World) (lo mb pb:Nat) (qv:Value) (s:Pg.MSt) (R:Nat→List Pg.Nd) (t:Nat) (hM:Pg.ak w lo mb pb qv s) (hW:Pg.WhM w lo s R) (hls:lo≤w.heap.size) :
  Calls Tryz.prog 170 #[.pointer (some ⟨mb,27,none⟩),.int .i64 (Pg.aF s.now t:Nat),.int .i64 (Pg.eV s.now t:Nat)] w fun e w'=>e = .returned (.agg #[Pg.aD (R (Pg.place s.now t))])∧Hid (Pg.Emp w w w' lo mb pb qv s R (Pg.place s.now t)):=by
 have h6:=Pg.dU s.now t
 have hs:=Pg.eE s.now t
 unfold Pg.place
 by_cases h:Pg.aF s.now t=6
 ·rw [if_pos h,h]
  exact wS w lo mb pb qv s R _ hM hW hls
 ·rw [if_neg h]
  exact wT w lo mb pb qv s R _ _ hM hW hls (by omega) hs
namespace Pg
structure TuJ (w:World) (lo mb pb:Nat) (qv:Value) (s:MSt) (R:Nat→List Nd) (r:Nat) (rp:Option Addr) (Bs:Nat) (V:World):Prop where
 ex:∃ wh',ak V lo mb pb qv { s with wh:=wh' }∧WhM V lo { s with wh:=wh' } (upd R r [])
 rf:Rw lo w V
 nds:bI V (R r)
 bx:Boxed V w.heap.size 198 (.pointer (some ⟨mb,27,none⟩))
 rg:Boxed V Bs 144 (.pointer rp)
 lt:w.heap.size<Bs
theorem TuJ.of {w w2 w3:World} {lo mb pb:Nat} {qv:Value} {s:MSt} {R:Nat→List Nd} {r:Nat} (hM:ak w lo mb pb qv s) (hn:bI w (R r)) (hls:lo≤w.heap.size) (hb:Below w.heap.size w w2) (bx:Boxed w2 w.heap.size 198 (.pointer (some ⟨mb,27,none⟩))) (hE:Emp w2 w2 w3 lo mb pb qv s R r):Rw lo w w3∧bI w3 (R r)∧Boxed w3 w.heap.size 198 (.pointer (some ⟨mb,27,none⟩)):=by
 have hml:=hM.lt
 refine ⟨(RfE.of hb hls).trans hE.rf,fun i x hx => ?_,?_⟩
 ·have h0:=hn i x hx
  have hl:=(Array.getElem?_eq_some_iff.1 h0).1
  exact (hE.mo.block x.1 (Nat.lt_of_lt_of_le hl hb.size) (fun e=>hM.typ h0 e.symm)).trans ((hb.block x.1 hl).trans h0)
 ·exact (hE.mo.block _ bx.lt (by omega)).trans bx
theorem TuJ.new {w w2 w3:World} {lo mb pb:Nat} {qv:Value} {s:MSt} {R:Nat→List Nd} {r:Nat} {rp:Option Addr} (hM:ak w lo mb pb qv s) (hn:bI w (R r)) (hls:lo≤w.heap.size) (hb:Below w.heap.size w w2) (bx:Boxed w2 w.heap.size 198 (.pointer (some ⟨mb,27,none⟩))) (hE:Emp w2 w2 w3 lo mb pb qv s R r):TuJ w lo mb pb qv s R r rp w3.heap.size (w3.alloc (.cells #[.pointer rp] 144)):=by
 obtain ⟨a,b,c⟩:=TuJ.of hM hn hls hb bx hE
 obtain ⟨wh',a1,a2⟩:=hE.ex
 have hB:Below w3.heap.size w3 (w3.alloc (.cells #[.pointer rp] 144)):=(Below.refl _ w3).alloc (Nat.le_refl _) _
 refine ⟨⟨wh',a1.below hB,a2.rgs.below hB,a2.held⟩,a.trans (RfE.of hB (Nat.le_trans hls a.bel.size)),fun i x hx => ?_,au c hB c.lt,Boxed.new _ _ _,c.lt⟩
 have h0:=b i x hx
 exact (hB.block x.1 (Array.getElem?_eq_some_iff.1 h0).1).trans h0
theorem TuJ.old {w w2 w3:World} {lo mb pb:Nat} {qv:Value} {s:MSt} {R:Nat→List Nd} {r:Nat} {rp:Option Addr} {Bs:Nat} (hM:ak w lo mb pb qv s) (hn:bI w (R r)) (hls:lo≤w.heap.size) (hb:Below w.heap.size w w2) (bx:Boxed w2 w.heap.size 198 (.pointer (some ⟨mb,27,none⟩))) (hE:Emp w2 w2 w3 lo mb pb qv s R r) (hBs:w.heap.size<Bs) (hq:w3.heap[Bs]?=some (.cells #[.pointer none] 144 (0,0))):TuJ w lo mb pb qv s R r rp Bs (w3.setCell ⟨Bs,0,none⟩ (.pointer rp)):=by
 obtain ⟨a,b,c⟩:=TuJ.of hM hn hls hb bx hE
 have hE2:Emp w w2 w3 lo mb pb qv s R r:=⟨hE.ex,a,hE.mo⟩
 have h3:=hE2.box (u := .pointer rp) hls hq (by omega) (.inr trivial) hb
 refine ⟨h3.ex,h3.rf,fun i x hx => ?_,bm c (p:=⟨Bs,0,none⟩) (by show w.heap.size≠Bs;omega) _,heap_setCell_same w3 Bs 0 _ _ _ hq,hBs⟩
 have h0:=hn i x hx
 exact (h3.mo.block x.1 (Array.getElem?_eq_some_iff.1 h0).1 (fun e=>hM.typ h0 e.symm)).trans h0
theorem ak.FN {W:World} {lo mb pb:Nat} {qv:Value} {s:MSt} (h:ak W lo mb pb qv s) (t:Nat):ak (W.setCell ⟨mb,27,none⟩ (.int .u64 t)) lo mb pb qv { s with now:=t } :=
 h.set 27 _ _ (by omega) rfl fun j hj=>by
  by_cases e:j=27
  ·subst e
   rw [if_pos rfl]
   rfl
  ·rw [if_neg e]
   unfold e8
   dsimp only
   by_cases e0:j=0
   ·rw [if_pos e0,if_pos e0]
   ·rw [if_neg e0,if_neg e0,if_neg e,if_neg e]
theorem TuJ.start {w V:World} {lo mb pb:Nat} {qv:Value} {s:MSt} {R:Nat→List Nd} {r:Nat} {rp:Option Addr} {Bs:Nat} (h:TuJ w lo mb pb qv s R r rp Bs V) (hls:lo≤w.heap.size) (hml:mb<w.heap.size) (t:Nat) (o:Obj):TuI w lo mb pb qv { s with now:=t } R r [] ((V.setCell ⟨mb,27,none⟩ (.int .u64 t)).alloc o)∧Boxed ((V.setCell ⟨mb,27,none⟩ (.int .u64 t)).alloc o) w.heap.size 198 (.pointer (some ⟨mb,27,none⟩)):=by
 obtain ⟨wh',a,b⟩:=h.ex
 have hm:Mo (· = mb) V (V.setCell ⟨mb,27,none⟩ (.int .u64 t)):=(Mo.refl _ _).set _ _ rfl
 have hlV:=Nat.le_trans hls h.rf.bel.size
 have hR:Rm lo V (V.setCell ⟨mb,27,none⟩ (.int .u64 t)):=RfE.mo hm (fun j hj=>by
  obtain ⟨arr,a1,_⟩:=a.blk
  subst hj
  exact ⟨a.lo',arr,_,_,a1,rfl⟩) hlV
 have hB:Below (V.setCell ⟨mb,27,none⟩ (.int .u64 t)).heap.size (V.setCell ⟨mb,27,none⟩ (.int .u64 t)) ((V.setCell ⟨mb,27,none⟩ (.int .u64 t)).alloc o):=(Below.refl _ _).alloc (Nat.le_refl _) _
 have b2:WhM (V.setCell ⟨mb,27,none⟩ (.int .u64 t)) lo { s with now:=t,wh:=wh' } (upd R r []):=⟨b.rgs.kd hR.kd (by unfold Eb;decide),b.held⟩
 refine ⟨⟨by simp,⟨wh',(a.FN t).below hB,(WhM.congr ⟨b2.rgs.below hB,b2.held⟩ (fun q _=>by unfold eo;simp))⟩,fun i x _ hx => ?_,h.rf.trans ((Cy hR).trans (RfE.of hB (by simp;exact hlV)))⟩,(bm h.bx (p:=⟨mb,27,none⟩) (by show w.heap.size≠mb;omega) _).alloc _⟩
 have h0:=h.nds i x hx
 have hl:=(Array.getElem?_eq_some_iff.1 h0).1
 exact (hB.block x.1 (by simp;exact hl)).trans ((hm.block x.1 hl (fun e=>a.typ h0 e.symm)).trans h0)
end Pg
theorem AR (w:World) (lo mb pb:Nat) (qv:Value) (s:Pg.MSt) (R:Nat→List Pg.Nd) (t:Nat) (hM:Pg.ak w lo mb pb qv s) (hW:Pg.WhM w lo s R) (hls:lo≤w.heap.size) (hnow:s.now<18446744073709551616) (ht:t<18446744073709551616) (hRt:∀ r,Pg.isR r→∀ x∈R r,x.2.t<18446744073709551616) :
  Calls Tryz.prog 137 #[.pointer (some ⟨mb,27,none⟩),.int .u64 t] w fun e w'=>e = .returned (.tuple #[])∧Hid (∃ wh',Pg.ak w' lo mb pb qv { s with now:=t,wh:=wh' }∧Pg.WhM w' lo { s with now:=t,wh:=wh' } (Pg.eo R (Pg.place s.now t) t (R (Pg.place s.now t)))∧Pg.Rw lo w w'):=by
 have hr:=Pg.eT s.now t
 have hn:=hW.rgs.nds _ hr
 have hD:=hW.rgs.rgD
 have hml:=hM.lt
 obtain ⟨rp,hrv⟩:∃ rp,Pg.aD (R (Pg.place s.now t)) = .pointer rp:=by
  unfold Pg.aD
  cases (R (Pg.place s.now t)).getLast? with
  | none=>exact ⟨_,rfl⟩
  | some z=>exact ⟨_,rfl⟩
 have hno:=fun V=>j8 (Pg.aD (R (Pg.place s.now t))) V (Pg.lV _)
 rw [hrv] at hno
 refine (callsIn_wide (n:=7)).1 ?_
 refine callsIn_of_wp_marks Tryz.func137 rfl trivial ?_ rfl
 simp only [Tryz.ntmps137,List.size_toArray,List.length_cons,List.length_nil,Nat.reduceAdd,Nat.reduceSub,Array.replicate_succ,Array.replicate_zero,List.push_toArray,List.append_toArray,List.nil_append,List.cons_append]
 gi_wp2
 have bx1:=Boxed.new w 198 (.pointer (some ⟨mb,27,none⟩))
 have hB1:Below w.heap.size w (w.alloc (.cells #[.pointer (some ⟨mb,27,none⟩)] 198)):=(Below.refl _ w).alloc (Nat.le_refl _) _
 have hs1:(w.alloc (.cells #[.pointer (some ⟨mb,27,none⟩)] 198)).heap.size=w.heap.size+1:=by simp
 generalize w.alloc (.cells #[.pointer (some ⟨mb,27,none⟩)] 198)=W1 at *
 have hw1:∀ V,Below W1.heap.size W1 V→Below w.heap.size w V∧Boxed V w.heap.size 198 (.pointer (some ⟨mb,27,none⟩)):=fun V hV=>⟨hB1.trans (hV.mono hB1.size),au bx1 hV bx1.lt⟩
 obtain ⟨r,hre⟩:∃ r,Pg.place s.now t=r:=⟨_,rfl⟩
 have HSP:Hid (∀ V,Below W1.heap.size W1 V→Calls Tryz.prog 168 #[.pointer (some ⟨mb,27,none⟩),.int .u64 t] V fun e w'=>e = .returned (.tuple #[.int .i64 ((Pg.aF s.now t:Nat):Int),.int .i64 ((Pg.eV s.now t:Nat):Int)])∧Below V.heap.size V w'):=fun V hV=>me V mb 27 s.now t hnow ht ((hM.below (hw1 V hV).1).cell 27 (by decide))
 have HEM:Hid (∀ V,Below W1.heap.size W1 V→Calls Tryz.prog 170 #[.pointer (some ⟨mb,27,none⟩),.int .i64 ((Pg.aF s.now t:Nat):Int),.int .i64 ((Pg.eV s.now t:Nat):Int)] V fun e w'=>e = .returned (.agg #[.pointer rp])∧Hid (Pg.Emp V V w' lo mb pb qv s R r)):=fun V hV=>by
  have h:=zD V lo mb pb qv s R t (hM.below (hw1 V hV).1) ⟨hW.rgs.below (hw1 V hV).1,hW.held⟩ (Nat.le_trans hls (hw1 V hV).1.size)
  rw [hrv,hre] at h
  exact h
 rw [hre] at hrv hn hr
 have HS:Hid (∀ V,Below W1.heap.size W1 V→V.cell? ⟨w.heap.size,0,none⟩=some (.pointer (some ⟨mb,27,none⟩))):=fun V hV=>(hw1 V hV).2.cell
 have HS3:Hid (∀ V w',Below W1.heap.size W1 V→Pg.Emp V V w' lo mb pb qv s R r→w'.cell? ⟨w.heap.size,0,none⟩=some (.pointer (some ⟨mb,27,none⟩))∧(∀ o,(w'.alloc o).cell? ⟨w.heap.size,0,none⟩=some (.pointer (some ⟨mb,27,none⟩)))∧∀ Bs u,w.heap.size<Bs→(w'.setCell ⟨Bs,0,none⟩ u).cell? ⟨w.heap.size,0,none⟩=some (.pointer (some ⟨mb,27,none⟩))):=fun V w' hV hE=>by
  have c:=(Pg.TuJ.of hM hn hls (hw1 V hV).1 (hw1 V hV).2 hE).2.2
  exact ⟨c.cell,fun o=>(c.alloc o).cell,fun Bs u h=>(bm c (p:=⟨Bs,0,none⟩) (by show w.heap.size≠Bs;omega) u).cell⟩
 have HQ:Hid (∀ V w' Bs,Pg.Emp V V w' lo mb pb qv s R r→V.heap[Bs]?=some (.cells #[.pointer none] 144 (0,0))→w.heap.size<Bs→w'.heap[Bs]?=some (.cells #[.pointer none] 144 (0,0))):=fun V w' Bs hE hq h=>(hE.mo.block Bs (Array.getElem?_eq_some_iff.1 hq).1 (by omega)).trans hq
 have HF1:Hid (∀ V w',Below W1.heap.size W1 V→Pg.Emp V V w' lo mb pb qv s R r→Pg.TuJ w lo mb pb qv s R r rp w'.heap.size (w'.alloc (.cells #[.pointer rp] 144))):=fun V w' hV hE=>Pg.TuJ.new hM hn hls (hw1 V hV).1 (hw1 V hV).2 hE
 have HF2:Hid (∀ V w' Bs,Below W1.heap.size W1 V→Pg.Emp V V w' lo mb pb qv s R r→w.heap.size<Bs→w'.heap[Bs]?=some (.cells #[.pointer none] 144 (0,0))→Pg.TuJ w lo mb pb qv s R r rp Bs (w'.setCell ⟨Bs,0,none⟩ (.pointer rp))):=fun V w' Bs hV hE hB hq=>Pg.TuJ.old hM hn hls (hw1 V hV).1 (hw1 V hV).2 hE hB hq
 have hBd:Below W1.heap.size W1 W1.drew:=(Below.refl _ W1).drew
 have hBd1:∀ o:Obj,Below W1.heap.size W1 (W1.alloc o).drew:=fun o=>((Below.refl _ W1).alloc (Nat.le_refl _) _).drew
 have hg1:∀ o:Obj,(W1.alloc o).drew.heap[W1.heap.size]?=some o:=fun o=>heap_alloc_new W1 o
 have hsd:∀ o:Obj,W1.heap.size<(W1.alloc o).drew.heap.size:=fun o=>by show W1.heap.size<(W1.alloc o).heap.size;simp
 generalize hkk:Pg.aF s.now t=kk at HSP HEM
 generalize hss:Pg.eV s.now t=ss at HSP HEM
 have HKS:Hid (Pg.aF s.now t=kk∧Pg.eV s.now t=ss):=⟨hkk,hss⟩
 have HRE:Hid _:=hre
 have HRV:Hid _:=hrv
 have HM:Hid _:=hM
 have HW:Hid _:=hW
 have HN:Hid _:=hn
 have HD:Hid _:=hD
 clear hkk hss hM hW hn hD hw1 hrv hre
 have hc1:=bx1.cell
 refine wpIn_mono (Q:=qZ (fun _ a' V=>∃ Bs,a'={ tmps:=#[.pointer (some ⟨mb,27,none⟩),.int .u64 t,.pointer (some ⟨w.heap.size,0,none⟩),undef,.pointer (some ⟨Bs,0,none⟩),undef,.pointer (some ⟨mb,27,none⟩),.pointer (some ⟨mb,27,none⟩),.int .u64 t,.tuple #[.int .i64 kk,.int .i64 ss],.int .i64 kk,.int .i64 ss,.agg #[.pointer rp],undef,undef,undef,undef,undef,undef,undef,undef,undef,undef],defers:=[] }∧Pg.TuJ w lo mb pb qv s R r rp Bs V)) (wpIn_wide.2 ?reg) ?rest
 case reg =>
  refine wp_region_held_drew (S:=(fun V=>V.cell? ⟨w.heap.size,0,none⟩=some (.pointer (some ⟨mb,27,none⟩)))) (by kernel_rfl) hc1 (fun hHeld => ?_)
  refine tD (some 6) 0 (.pointer (some ⟨mb,27,none⟩)) rfl hHeld ?_
  refine tD (some 7) 1 (.pointer (some ⟨mb,27,none⟩)) rfl hHeld ?_
  refine tD (some 8) 2 (.int .u64 t) rfl hHeld ?_
  refine yH [3,7] ?_
  refine AllReadyH.cons rfl (fun K hK => ?rg1) (AllReadyH.cons rfl (fun K hK => ?rg2) AllReadyH.nil)
  case' rg1 =>
   go_simp
   refine (HSP.out _ (by first | exact hBd | exact hBd1 _)).mono ?_
   rintro e w2 ⟨rfl,hB2⟩
   have hG2:Below W1.heap.size W1 w2:=(by first | exact hBd.trans hB2 | exact (hBd1 _).trans (hB2.mono (Nat.le_of_lt (hsd _))))
   refine hK.out _ _ (HS.out w2 hG2) (fun hHeld => ?_)
   clear hK K
   refine tD (some 10) 4 (.int .i64 kk) rfl hHeld ?_
   refine tD (some 11) 5 (.int .i64 ss) rfl hHeld ?_
   refine yH [6,7] ?_
   refine AllReadyH.cons rfl (fun K hK => ?rg3) (AllReadyH.cons rfl (fun K hK => ?rg4) AllReadyH.nil)
   case' rg3 =>
    go_simp
    refine (HEM.out _ (by first | exact hG2 | exact hG2.alloc hG2.size _)).mono ?_
    rintro e w3 ⟨rfl,hE⟩
    refine hK.out _ _ (HS3.out _ w3 (by first | exact hG2 | exact hG2.alloc hG2.size _) hE.out).1 (fun hHeld => ?_)
    clear hK K
    refine zH 7 rfl fun K hK => ?_
    go_simp
    refine hK.out _ _ (by first | exact HS.out _ (hBd1 _) | exact HS.out _ (hG2.alloc hG2.size _) | exact (HS3.out _ w3 hG2 hE.out).2.1 _) (fun hHeld => ?_)
    clear hK K
    refine zH 8 rfl fun K hK => ?_
    go_simp
    refine hK.out _ _ ((HS3.out _ w3 hG2 hE.out).2.1 _) (fun hHeld => ?_)
    clear hK K hHeld
    refine wpAnyH_done (by kernel_rfl) ?_ _
    exact ⟨_,rfl,HF1.out _ _ hG2 hE.out⟩
   case' rg4 =>
    go_simp
    refine hK.out _ _ (by first | exact HS.out _ (hBd1 _) | exact HS.out _ (hG2.alloc hG2.size _) | exact (HS3.out _ w3 hG2 hE.out).2.1 _) (fun hHeld => ?_)
    clear hK K
    refine zH 6 rfl fun K hK => ?_
    go_simp
    refine (HEM.out _ (by first | exact hG2 | exact hG2.alloc hG2.size _)).mono ?_
    rintro e w3 ⟨rfl,hE⟩
    refine hK.out _ _ (HS3.out _ w3 (by first | exact hG2 | exact hG2.alloc hG2.size _) hE.out).1 (fun hHeld => ?_)
    clear hK K
    refine zH 8 rfl fun K hK => ?_
    have q0:=HQ.out _ _ _ hE.out (heap_alloc_new w2 _) (by have:=hG2.size;omega)
    have k0:=cell_of_row w3 _ 0 _ _ _ q0
    have z0:w3.frozen? ⟨w2.heap.size,0,none⟩=false:=by simp [World.frozen?,q0]
    have hlB:w.heap.size<w2.heap.size:=by have:=hG2.size;omega
    go_simp
    refine hK.out _ _ ((HS3.out _ w3 (hG2.alloc hG2.size _) hE.out).2.2 _ _ hlB) (fun hHeld => ?_)
    clear hK K hHeld
    refine wpAnyH_done (by kernel_rfl) ?_ _
    exact ⟨_,rfl,HF2.out _ _ _ (hG2.alloc hG2.size _) hE.out hlB q0⟩
  case' rg2 =>
   go_simp
   refine hK.out _ _ (by first | exact HS.out _ (hBd1 _) | exact HS.out _ (hG2.alloc hG2.size _) | exact (HS3.out _ w3 hG2 hE.out).2.1 _) (fun hHeld => ?_)
   clear hK K
   refine zH 3 rfl fun K hK => ?_
   go_simp
   refine (HSP.out _ (by first | exact hBd | exact hBd1 _)).mono ?_
   rintro e w2 ⟨rfl,hB2⟩
   have hG2:Below W1.heap.size W1 w2:=(by first | exact hBd.trans hB2 | exact (hBd1 _).trans (hB2.mono (Nat.le_of_lt (hsd _))))
   refine hK.out _ _ (HS.out w2 hG2) (fun hHeld => ?_)
   clear hK K
   refine tD (some 10) 4 (.int .i64 kk) rfl hHeld ?_
   refine tD (some 11) 5 (.int .i64 ss) rfl hHeld ?_
   refine zH 6 rfl fun K hK => ?_
   go_simp
   refine (HEM.out _ (by first | exact hG2 | exact hG2.alloc hG2.size _)).mono ?_
   rintro e w3 ⟨rfl,hE⟩
   refine hK.out _ _ (HS3.out _ w3 (by first | exact hG2 | exact hG2.alloc hG2.size _) hE.out).1 (fun hHeld => ?_)
   clear hK K
   refine zH 8 rfl fun K hK => ?_
   have hlB:w.heap.size<w.heap.size+1:=Nat.lt_succ_self _
   have q0:w3.heap[w.heap.size+1]?=some (.cells #[.pointer none] 144 (0,0)):=by
    rw [← hs1]
    exact HQ.out _ _ W1.heap.size hE.out ((hB2.block _ (hsd _)).trans (hg1 _)) (by omega)
   have k0:=cell_of_row w3 _ 0 _ _ _ q0
   have z0:w3.frozen? ⟨w.heap.size+1,0,none⟩=false:=by simp [World.frozen?,q0]
   go_simp
   refine hK.out _ _ ((HS3.out _ w3 hG2 hE.out).2.2 _ _ hlB) (fun hHeld => ?_)
   clear hK K hHeld
   refine wpAnyH_done (by kernel_rfl) ?_ _
   exact ⟨_,rfl,HF2.out _ _ _ hG2 hE.out hlB q0⟩
 case rest =>
  rintro e a' V h
  cases e with
  | normal =>
   obtain ⟨Bs,rfl,hJ⟩:=h
   have HR:Hid _:=hJ.ex
   obtain ⟨wh',a,b⟩:=HR.out
   have c0:=hJ.bx.cell
   have c27:V.cell? ⟨mb,27,none⟩=some (.int .u64 s.now):=a.cell 27 (by decide)
   have f27:V.frozen? ⟨mb,27,none⟩=false:=a.frozen 27
   have hBm:Bs≠mb:=by have:=hJ.lt;omega
   have hrg:=bm hJ.rg (p:=⟨mb,27,none⟩) hBm (.int .u64 t)
   have hrc:=hrg.cell
   obtain ⟨hT0,y0⟩:=hJ.start hls hml t (.cells #[.pointer rp] 144)
   have y1:=Boxed.new (V.setCell ⟨mb,27,none⟩ (.int .u64 t)) 144 (.pointer rp)
   have hsV:(V.setCell ⟨mb,27,none⟩ (.int .u64 t)).heap.size=V.heap.size:=by simp
   rw [hsV] at y1
   have hlV:w.heap.size<V.heap.size:=hJ.bx.lt
   have hs0:((V.setCell ⟨mb,27,none⟩ (.int .u64 t)).alloc (.cells #[.pointer rp] 144)).heap.size=V.heap.size+1:=by simp
   clear a b HR hJ hrg
   gi_wp2_with (refine ⟨trivial,?_⟩;gi_at_call 171;refine (callsIn_wide.2 (hno _)).mono ?_;rintro e w9 ⟨rfl,hw9⟩;rw [hw9];clear hw9 w9)
   generalize (V.setCell ⟨mb,27,none⟩ (.int .u64 t)).alloc (.cells #[.pointer rp] 144)=W0 at *
   have hnd:=HD.out.nod r hr
   refine pq rfl (by omega) (gf:=204) rfl trivial (enters_of Tryz.func204 (by kernel_rfl) rfl)
    (vz 6 (by omega) V.heap.size (R r) hnd W0) (fun _ _=>trivial) (fun _ _ _ _ _=>trivial) (fun _=>rfl)
    (fun xs U=>Pg.TuI w lo mb pb qv { s with now:=t } R r xs U∧(Boxed U w.heap.size 198 (.pointer (some ⟨mb,27,none⟩))∧Boxed U V.heap.size 144 (.pointer rp)))
    (OwnFrom.and (fun xs A C row h hg hrw=>h.gr hls hg (fun j e=>⟨by have:=(hrw j e).1;omega,(hrw j e).2⟩)) (OwnFrom.and (Own.from (boxed_own _ _ _) _) (Own.from (boxed_own _ _ _) _)))
    (fun xs U hI=>hI.1.rd (fun _ _=>Pg.eT _ _) (by rw [HRV.out];exact hI.2.2.cell)) ⟨hT0,y0,y1⟩
    (fun x a' _=>a'={ tmps:=#[.pointer (some ⟨mb,27,none⟩),.int .u64 t,.pointer (some ⟨w.heap.size,0,none⟩),undef,.pointer (some ⟨Bs,0,none⟩),.pointer (some ⟨x.1,0,none⟩),.pointer (some ⟨mb,27,none⟩),.pointer (some ⟨mb,27,none⟩),.int .u64 t,.tuple #[.int .i64 kk,.int .i64 ss],.int .i64 kk,.int .i64 ss,.agg #[.pointer rp],.pointer (some ⟨mb,27,none⟩),.int .u64 t,.pointer (some ⟨mb,27,none⟩),.pointer (some ⟨mb,27,none⟩),.agg #[.pointer rp],.func (.func 204) #[] #[.pointer (some ⟨V.heap.size,0,none⟩)],.pointer (some ⟨x.1,0,none⟩),undef,undef,undef],defers:=[] }) (fun _ _ _ _ _ _ hs _ _=>hs) ?assign ?body ?done
   case assign =>
    intro l xs x U K hI hK
    gi_wp2
    exact hK _ _ (KeepsFrom.refl _ _) trivial hI rfl
   case body =>
    rintro l xs x a' U hl _ ⟨hx,hxs⟩ ⟨hT,z0,z1⟩ rfl
    obtain ⟨wh2,a2,b2⟩:=hT.ex
    have hput:=Cp U lo mb pb qv _ _ x.1 x.2 _ a2 b2 (Nat.le_trans hls hT.rf.bel.size) ht (hRt r hr x (List.mem_of_getElem? hx)) (hT.rest _ x (Nat.le_refl _) hx) (hT.far HD.out hr (Nat.le_refl _) hx) (HD.out.low r hr x (List.mem_of_getElem? hx))
    have hput2:=Calls.mono hput (R':=fun e w'=>e = .returned (.tuple #[])∧Hid (KeepsFrom W0.heap.size U w'∧True∧Pg.TuI w lo mb pb qv { s with now:=t } R r (xs++[x]) w'∧(Boxed w' w.heap.size 198 (.pointer (some ⟨mb,27,none⟩))∧Boxed w' V.heap.size 144 (.pointer rp)))) (by
     rintro e w' ⟨rfl,wh3,a3,b3,c3,d3⟩
     exact ⟨rfl,c3.oth.from _,trivial,hT.step HD.out hr hx ⟨wh3,a3,b3⟩ c3 d3,c3.kd.boxed z0 (by unfold Pg.lZ;decide),c3.kd.boxed z1 (by unfold Pg.lZ;decide)⟩)
    have q0:=z0.cell
    clear hput a2 b2
    gi_wp2_with (refine ⟨trivial,?_⟩;gi_at_call 172;refine (aC hput2).mono ?_;intro e w8 h8;obtain ⟨rfl,h8⟩:=h8)
    exact h8.out
   case done =>
    rintro D xs U hD hS ⟨hT,_⟩ hdef
    subst hS
    gi_wp2
    refine ⟨by simp,.inl ⟨_,_,rfl,run_takeDeferred hdef,?_⟩⟩
    have hT2:=hT.gr hls (grownBy_putObj' U D (.deferred none)) (fun j e=>by cases e;exact ⟨by omega,_,hdef,rfl⟩)
    obtain ⟨wh4,a4,b4⟩:=hT2.ex
    refine ⟨_,results_none rfl _ _ _,rfl,wh4,a4,?_,hT2.rf⟩
    rw [HRE.out]
    exact b4
  | _=>exact h.elim
namespace Pg
theorem eI.bound {s:MSt} {T:List Tn} {R:Nat→List Nd} (hF:∀ r,isR r→(R r).map (·.2)=T.filter (fun t=>place s.now t.t == r)) (hb:∀ t∈T,t.t<18446744073709551616):∀ r,isR r→∀ x∈R r,x.2.t<18446744073709551616:=fun r hr x hx=>by
 have:x.2∈(R r).map (·.2):=List.mem_map.2 ⟨x,hx,rfl⟩
 rw [hF r hr] at this
 exact hb _ (List.mem_filter.1 this).1
theorem oI {α:Type} (p:α→Bool):∀ T:List α,(T.eraseP p).filter p=(T.filter p).tail
 | []=>rfl
 | x::T=>by
  by_cases h:p x
  ·rw [List.eraseP_cons_of_pos h,List.filter_cons_of_pos h];rfl
  ·rw [List.eraseP_cons_of_neg h,List.filter_cons_of_neg h,List.filter_cons_of_neg h]
   exact oI p T
theorem nr {α:Type} (p q:α→Bool) (h:∀ x,p x=true→q x=false):∀ T:List α,(T.eraseP p).filter q=T.filter q
 | []=>rfl
 | x::T=>by
  by_cases hx:p x
  ·rw [List.eraseP_cons_of_pos hx,List.filter_cons_of_neg (by rw [h x hx];simp)]
  ·rw [List.eraseP_cons_of_neg hx,List.filter_cons,List.filter_cons,nr p q h T]
theorem kS {t:Nat} (ht:t<18446744073709551616):aF t t=0∧eV t t=t % 64∧place t t=t % 64:=by
 have h0:aF t t=0:=by
  have:=(aO ht ht (k:=0) (by decide)).2 rfl
  omega
 have h1:eV t t=t % 64:=by rw [eD,h0];simp
 refine ⟨h0,h1,?_⟩
 unfold place
 rw [if_neg (by omega),h0,h1]
 omega
theorem qp {t x:Nat} (ht:t<18446744073709551616) (hx:x<18446744073709551616):place t x=place t t↔x=t:=by
 refine ⟨fun h => ?_,fun h=>by rw [h]⟩
 obtain ⟨h0,h1,h2⟩:=kS ht
 rw [h2] at h
 have s1:=eE t x
 have h6:=dU t x
 unfold place at h
 by_cases hk:aF t x=6
 ·rw [if_pos hk] at h;omega
 ·rw [if_neg hk] at h
  have hk0:aF t x=0:=by omega
  have hd:=(aO ht hx (k:=0) (by decide)).1 (by omega)
  rw [hk0,eD,hk0] at h
  simp at h hd
  omega
end Pg
theorem rP (w:World) (lo mb pb:Nat) (qv:Value) (s:Pg.MSt) (T:List Pg.Tn) (t:Nat) (hM:Pg.ak w lo mb pb qv s) (hT:Pg.eI w lo s T) (hls:lo≤w.heap.size) (hnow:s.now<18446744073709551616) (ht:t<18446744073709551616) (hle:s.now≤t) (hTt:∀ x∈T,t≤x.t) :
  Calls Tryz.prog 137 #[.pointer (some ⟨mb,27,none⟩),.int .u64 t] w fun e w'=>e = .returned (.tuple #[])∧Hid (∃ wh',Pg.ak w' lo mb pb qv { s with now:=t,wh:=wh' }∧Pg.eI w' lo { s with now:=t,wh:=wh' } T∧Pg.Rw lo w w'):=by
 obtain ⟨R,hW,hF,hb⟩:=hT
 refine Calls.mono (AR w lo mb pb qv s R t hM hW hls hnow ht (Pg.eI.bound hF hb)) ?_
 rintro e w' ⟨rfl,h⟩
 obtain ⟨wh',a,b,c⟩:=h.out
 exact ⟨rfl,wh',a,⟨_,b,fun r hr=>Pg.v7 hnow ht hle (fun x hx=>⟨hTt x hx,hb x hx⟩) hF hr,hb⟩,c⟩
theorem C0 (w:World) (lo mb pb:Nat) (qv:Value) (s:Pg.MSt) (T:List Pg.Tn) (f:Pg.Tn) (m:List Pg.Tn) (hM:Pg.ak w lo mb pb qv s) (hT:Pg.eI w lo s T) (hls:lo≤w.heap.size) (hnow:s.now<18446744073709551616) (hf:T.filter (fun x=>x.t == s.now)=f::m) :
  Calls Tryz.prog 169 #[.pointer (some ⟨mb,28,none⟩),.int .i64 ((s.now % 64:Nat):Int)] w fun e w'=>∃ b,e = .returned (Pg.ndP b)∧Hid (∃ wh',Pg.ak w' lo mb pb qv { s with wh:=wh' }∧Pg.eI w' lo { s with wh:=wh' } (T.eraseP (fun x=>x.t == s.now))∧Pg.Rw lo w w'∧∃ v,w'.heap[b]?=some (.cells (Pg.dL f v) 250 (0,0))):=by
 obtain ⟨R,hW,hF,hb⟩:=hT
 obtain ⟨h0,h1,h2⟩:=Pg.kS hnow
 have hr:Pg.isR (s.now % 64) := .inl (by omega)
 have hq:∀ x∈T,(Pg.place s.now x.t == s.now % 64)=(x.t == s.now):=fun x hx=>by
  have:=Pg.qp hnow (hb x hx)
  rw [h2] at this
  by_cases e:x.t=s.now
  ·rw [beq_iff_eq.2 (this.2 e),beq_iff_eq.2 e]
  ·rw [beq_eq_false_iff_ne.2 (fun h=>e (this.1 h)),beq_eq_false_iff_ne.2 e]
 have hRr:(R (s.now % 64)).map (·.2)=f::m:=by
  rw [hF _ hr,List.filter_congr hq]
  exact hf
 obtain ⟨nf,nm,hn,e1,e2⟩:∃ nf nm,R (s.now % 64)=nf::nm∧nf.2=f∧nm.map (·.2)=m:=by
  cases hh:R (s.now % 64) with
  | nil=>rw [hh] at hRr;cases hRr
  | cons a l =>
   rw [hh,List.map_cons] at hRr
   injection hRr with p1 p2
   exact ⟨a,l,rfl,p1,p2⟩
 have hp:=Db w lo mb pb qv s R 0 (s.now % 64) nf nm hM hW hls (by decide) (by omega) (by rw [Nat.zero_mul,Nat.zero_add];exact hn)
 rw [Nat.zero_mul,Nat.zero_add,Nat.add_zero] at hp
 refine Calls.mono hp ?_
 rintro e w' ⟨rfl,h⟩
 obtain ⟨wh',a,b,c,v,hv⟩:=h.out
 rw [e1] at hv
 refine ⟨nf.1,rfl,wh',a,⟨_,b,fun r hr' => ?_,fun x hx=>hb x (List.mem_of_mem_eraseP hx)⟩,c,v,hv⟩
 by_cases er:r=s.now % 64
 ·subst er
  rw [Pg.aw,e2]
  have:m=(T.filter (fun x=>x.t == s.now)).tail:=by rw [hf];rfl
  rw [this,← Pg.oI]
  exact (List.filter_congr fun x hx=>hq x (List.mem_of_mem_eraseP hx)).symm
 ·rw [Pg.aB _ _ er,hF r hr']
  refine (Pg.nr _ _ (fun x hx => ?_) T).symm
  have ex:x.t=s.now:=by simpa using hx
  show (Pg.place s.now x.t == r)=false
  rw [ex,h2]
  exact beq_eq_false_iff_ne.2 (fun h=>er h.symm)
namespace Pg
theorem uI {α β:Type} {f g:α→List β} (h:∀ x,(f x).Sublist (g x)):∀ l:List α,(l.flatMap f).Sublist (l.flatMap g)
 | []=>List.Sublist.slnil
 | x::l=>by
  rw [List.flatMap_cons,List.flatMap_cons]
  exact (h x).append (uI h l)
theorem Dp:sg.Pairwise (· < ·):=by decide +kernel
theorem Aw (hv:Nat→Nat):(eU hv).Sublist sg:=by
 unfold eU sg gQ jt
 refine List.Sublist.append (uI (fun k => ?_) _) (List.Sublist.refl _)
 unfold jV eu
 exact List.filter_sublist.map _
theorem vJ (hv:Nat→Nat):(eU hv).Pairwise (· < ·):=Dp.sublist (Aw hv)
theorem ru {hv:Nat→Nat} {r:Nat} (h:r∈eU hv):isR r:=by
 rcases List.mem_append.1 h with h | h
 ·obtain ⟨k,hk,hr⟩:=List.mem_flatMap.1 h
  obtain ⟨j,hj,rfl⟩:=List.mem_map.1 hr
  have h1:=List.mem_range.1 hk
  have h2:=(fu.1 hj).1
  exact .inl (by omega)
 ·exact .inr (by simpa using h)
theorem Af {hv:Nat→Nat} {R:Nat→List Nd} (hh:∀ k,k<6→∀ s,s<64→(hv k).testBit s = !(R (k*65+s)).isEmpty) {r:Nat} (hr:isR r) (hne:R r≠[]):r∈eU hv:=by
 rcases hr with ⟨h1,h2⟩ | rfl
 ·refine List.mem_append.2 (.inl (List.mem_flatMap.2 ⟨r / 65,List.mem_range.2 (by omega),List.mem_map.2 ⟨r % 65,fu.2 ⟨by omega,?_⟩,by omega⟩⟩))
  rw [hh _ (by omega) _ (by omega),show r / 65*65+r % 65=r by omega]
  cases e:R r with
  | nil=>exact absurd e hne
  | cons a l=>rfl
 ·exact List.mem_append.2 (.inr (by simp))
theorem uF {β:Type} (p:Nat) (X:List β):∀ l:List Nat,l.Pairwise (· < ·)→(l.flatMap fun r=>if r=p then X else [])=if p∈l then X else []
 | [],_=>by simp
 | x::l,h=>by
  have h1:=List.pairwise_cons.1 h
  rw [List.flatMap_cons,uF p X l h1.2]
  by_cases e:x=p
  ·subst e
   have:x ∉ l:=fun hx=>by have:=h1.1 x hx;omega
   simp [this]
  ·have e':¬ p=x:=fun h=>e h.symm
   simp [e,e']
theorem Ba {R:Nat→List Nd} {hv:Nat→Nat} {now:Nat} {T:List Tn} (hnow:now<18446744073709551616) (hT:∀ x∈T,now≤x.t∧x.t<18446744073709551616) (hF:∀ r,isR r→(R r).map (·.2)=T.filter (fun x=>place now x.t == r)) (hh:∀ k,k<6→∀ s,s<64→(hv k).testBit s = !(R (k*65+s)).isEmpty):(uc R hv).map (·.2)=srt (fun x:Tn=>x.t) T:=by
 have e1:(uc R hv).map (·.2)=(eU hv).flatMap (fun r=>srt (fun x:Tn=>x.t) (T.filter (fun x=>place now x.t == r))):=by
  unfold uc
  rw [List.map_flatMap]
  have:∀ l:List Nat,(∀ r∈l,isR r)→(l.flatMap fun r=>(byT R r).map (·.2))=l.flatMap (fun r=>srt (fun x:Tn=>x.t) (T.filter (fun x=>place now x.t == r))):=fun l hl=>by
   induction l with
   | nil=>rfl
   | cons r l ih =>
    rw [List.flatMap_cons,List.flatMap_cons,ih (fun q hq=>hl q (List.mem_cons_of_mem _ hq))]
    congr 1
    unfold byT
    rw [yX (fun y:Nd=>y.2) (fun x:Tn=>x.t),hF r (hl r (List.mem_cons_self ..))]
  exact this _ (fun r hr=>ru hr)
 rw [e1]
 refine xV ?_ fun k => ?_
 ·refine List.pairwise_flatMap.2 ⟨fun r _=>mg _ _,(vJ hv).imp fun {a b} hab x hx y hy => ?_⟩
  have hx':=List.mem_filter.1 (jf.1 hx)
  have hy':=List.mem_filter.1 (jf.1 hy)
  have px:place now x.t=a:=by simpa using hx'.2
  have py:place now y.t=b:=by simpa using hy'.2
  rcases Nat.le_total x.t y.t with h | h
  ·exact h
  ·have:=pj hnow (hT y hy'.1).2 (hT x hx'.1).2 (hT y hy'.1).1 h
   omega
 ·rw [List.filter_flatMap]
  have e2:((eU hv).flatMap fun r=>(srt (fun x:Tn=>x.t) (T.filter (fun x=>place now x.t == r))).filter (fun x=>x.t == k))=(eU hv).flatMap (fun r=>if r=place now k then T.filter (fun x=>x.t == k) else []):=by
   congr 1
   funext r
   rw [jn (fun x:Tn=>x.t) _ k,List.filter_filter]
   by_cases e:r=place now k
   ·rw [if_pos e]
    refine List.filter_congr fun x _ => ?_
    by_cases ex:x.t=k
    ·subst ex;simp [e]
    ·simp [ex]
   ·rw [if_neg e]
    refine List.filter_eq_nil_iff.2 fun x _ => ?_
    by_cases ex:x.t=k
    ·subst ex
     have:¬ place now x.t=r:=fun h=>e h.symm
     simp [this]
    ·simp [ex]
  rw [e2,uF _ _ _ (vJ hv)]
  by_cases hm:place now k∈eU hv
  ·rw [if_pos hm]
  ·rw [if_neg hm]
   symm
   refine List.filter_eq_nil_iff.2 fun x hx hxk => ?_
   have ex:x.t=k:=by simpa using hxk
   refine hm (Af hh (eT now k) (fun h => ?_))
   have:=hF _ (eT now k)
   rw [h] at this
   have hmem:x∈T.filter (fun x=>place now x.t == place now k):=List.mem_filter.2 ⟨hx,by rw [ex];simp⟩
   rw [← this] at hmem
   cases hmem
end Pg
theorem Tryz.kf:(Tryz.prog.info? 154).map (·.size)=some 2:=by kernel_rfl
theorem Tryz.tv:Tryz.f136.results=#[.cell 2 154]:=rfl
namespace Pg
def fg:Obj := .cells #[.string ⟨#[]⟩,.string ⟨#[]⟩] 154
theorem td:¬ cG 154:=fun h=>by rcases h with h | h | h <;> exact absurd h (by decide)
theorem EM:¬ lZ 154:=fun h=>td (h.elim .inl (fun h => .inr (.inr h)))
theorem kM (W:World) (s:Nat) (cs:Array Value):Mo (· = s) W (W.setRow s cs):=⟨rfl,rfl,rfl,Nat.le_of_eq (setRow_size W s cs).symm,fun k _ hk=>setRow_other W s k cs hk⟩
def E0 (mb:Nat) (x:Tn) (V:World):Prop:=Calls Tryz.prog 138 #[.pointer (some ⟨mb,27,none⟩)] V fun e w'=>∃ b,e = .returned (ndP b)∧w'.cell? ⟨b,0,none⟩=some (.int .u64 x.t)∧Below V.heap.size V w'
def AW (w:World) (lo mb pb:Nat) (qv:Value) (s:MSt) (T:List Tn) (V:World):Prop:=∃ wh',ak V lo mb pb qv { s with wh:=wh' }∧eI V lo { s with wh:=wh' } T∧Rw lo w V
end Pg
theorem qw (w:World) (lo mb pb:Nat) (qv:Value) (s:Pg.MSt) (T:List Pg.Tn) (f:Pg.Tn) (m:List Pg.Tn) (hM:Pg.ak w lo mb pb qv s) (hT:Pg.eI w lo s T) (hls:lo≤w.heap.size) (hnow:s.now<18446744073709551616) (hle:s.now≤f.t) (hft:f.t<18446744073709551616) (hTt:∀ x∈T,f.t≤x.t) (hf:T.filter (fun x=>x.t == f.t)=f::m) (hF:Pg.E0 mb f (w.alloc Pg.fg)) :
  Calls Tryz.prog 136 #[.pointer (some ⟨mb,27,none⟩)] w fun e w'=>e = .returned (.agg #[.string f.ev,.string f.nm])∧Hid (Pg.AW w lo mb pb qv { s with now:=f.t } (T.eraseP (fun x=>x.t == f.t)) w'):=by
 have hB1:Below w.heap.size w (w.alloc Pg.fg):=(Below.refl _ w).alloc (Nat.le_refl _) _
 have hz1:(w.alloc Pg.fg).heap[w.heap.size]?=some Pg.fg:=heap_alloc_new _ _
 have hs1:(w.alloc Pg.fg).heap.size=w.heap.size+1:=by simp
 obtain ⟨k0,k1,_⟩:=Pg.kS hft
 generalize hW1:w.alloc Pg.fg=W1 at *
 have HFI:Hid _:=hF
 have HTU:Hid (∀ V,Below W1.heap.size W1 V→Calls Tryz.prog 137 #[.pointer (some ⟨mb,27,none⟩),.int .u64 f.t] V fun e w'=>e = .returned (.tuple #[])∧w'.cell? ⟨mb,27,none⟩=some (.int .u64 f.t)∧Hid (Pg.AW w lo mb pb qv { s with now:=f.t } T w'∧w'.heap[w.heap.size]?=some Pg.fg)):=fun V hV=>by
  have hV':Below w.heap.size w V:=hB1.trans (hV.mono hB1.size)
  refine Calls.mono (rP V lo mb pb qv s T f.t (hM.below hV') (hT.below hV') (Nat.le_trans hls hV'.size) hnow hft hle hTt) ?_
  rintro e w' ⟨rfl,h⟩
  obtain ⟨wh',a,b,c⟩:=h.out
  have hzV:V.heap[w.heap.size]?=some Pg.fg:=(hV.block _ (by omega)).trans hz1
  exact ⟨rfl,a.cell 27 (by decide),⟨wh',a,b,(Pg.RfE.of hV' hls).trans c⟩,(c.kd.ay _ _ _ _ hzV Pg.EM).trans hzV⟩
 have HSP:Hid (∀ V,V.cell? ⟨mb,27,none⟩=some (.int .u64 f.t)→Calls Tryz.prog 168 #[.pointer (some ⟨mb,27,none⟩),.int .u64 f.t] V fun e w'=>e = .returned (.tuple #[.int .i64 0,.int .i64 ((f.t % 64:Nat):Int)])∧Below V.heap.size V w'):=fun V hV=>by
  have h:=me V mb 27 f.t f.t hft hft hV
  rw [k0,k1] at h
  exact h
 have HPO:Hid (∀ V U,Hid (Pg.AW w lo mb pb qv { s with now:=f.t } T V∧V.heap[w.heap.size]?=some Pg.fg)→Below V.heap.size V U→Calls Tryz.prog 169 #[.pointer (some ⟨mb,28,none⟩),.int .i64 ((f.t % 64:Nat):Int)] U fun e w'=>∃ b,e = .returned (Pg.ndP b)∧w'.rangeAt b 1 [.string f.ev,.string f.nm]∧w'.heap[w.heap.size]?=some Pg.fg∧Hid (∀ cs,Pg.AW w lo mb pb qv { s with now:=f.t } (T.eraseP (fun x=>x.t == f.t)) (w'.setRow w.heap.size cs))):=fun V U hV hU=>by
  obtain ⟨⟨wh',a,b,c⟩,hz⟩:=hV.out
  have hlU:=Nat.le_trans hls (Nat.le_trans c.bel.size hU.size)
  refine Calls.mono (C0 U lo mb pb qv { s with now:=f.t,wh:=wh' } T f m (a.below hU) (b.below hU) hlU hft hf) ?_
  rintro e w' ⟨nb,rfl,h⟩
  obtain ⟨wh2,a2,b2,c2,v,hv⟩:=h.out
  have hzU:U.heap[w.heap.size]?=some Pg.fg:=(hU.block _ (Array.getElem?_eq_some_iff.1 hz).1).trans hz
  have hz2:w'.heap[w.heap.size]?=some Pg.fg:=(c2.kd.ay _ _ _ _ hzU Pg.EM).trans hzU
  refine ⟨nb,rfl,fun j u hj => ?_,hz2,fun cs => ?_⟩
  ·rw [cell_of_row w' _ _ _ _ _ hv]
   match j,hj with
   | 0,hj=>exact hj
   | 1,hj=>exact hj
   | (n+2),hj=>simp at hj
  ·have hk:Kd (fun t=>¬ Pg.cG t) w' (w'.setRow w.heap.size cs):=gE (Pg.kM w' w.heap.size cs) (fun k c t fz hp hc=>by subst hp;rw [hz2] at hc;cases hc;exact Pg.td)
   refine ⟨wh2,a2.mo (Pg.kM w' w.heap.size cs) (fun e => ?_) (fun g hg e => ?_),b2.kd hk (fun h=>h (.inr (.inr rfl))) rfl rfl,Pg.RfE.B2 (c.trans ((Pg.RfE.of hU (Nat.le_trans hls c.bel.size)).trans c2)) hls ((Pg.kM w' w.heap.size cs).mono (fun k _ hk=>by omega))⟩
   ·have:=hM.lt;omega
   ·obtain ⟨c',hc'⟩:=a2.que.kind g hg
    rw [e,hz2] at hc'
    cases hc'
 have HMB:Hid (Pg.ak w lo mb pb qv s):=hM
 clear hM hT hF hf hTt hz1 hs1 k0 k1 hB1
 have HW1:Hid _:=hW1
 clear hW1
 unfold Pg.fg at HW1
 go_enter Tryz.func136,Tryz.ntmps136
 go_wp2_with (first
  | (go_at_call 138;rw [HW1.out];refine Calls.mono HFI.out ?_;rintro e w2 ⟨b,rfl,hc2,hb2⟩;unfold Pg.ndP)
  | (go_at_call 137;refine Calls.mono (HTU.out _ hb2) ?_;rintro e w3 ⟨rfl,hc3,h3⟩)
  | (go_at_call 168;refine Calls.mono (HSP.out _ hc3) ?_;rintro e w4 ⟨rfl,hb4⟩)
  | (go_at_call 169;refine Calls.mono (HPO.out _ _ h3 hb4) ?_;rintro e w5 ⟨nb,rfl,hrng,hz5,h5⟩;unfold Pg.ndP)
  | (show wpList _ _ _ (Oper.mk (some 29) _ _ _ _ _::_) _ _;refine wpList_load_mid rfl 154 (.tmp 28) rfl nb 1 rfl _ _ hrng Tryz.underlying154 rfl Tryz.kf ?_)
  | (show wpList _ _ _ (Oper.mk none _ _ _ _ _::_) _ _;refine ee rfl 154 (.tmp 2) (.tmp 29) rfl w.heap.size 154 _ _ rfl rfl hz5 Tryz.kf rfl rfl ?_))
 refine dt Tryz.tv w.heap.size _ _ _ _ rfl (setRow_heap w5 w.heap.size _ _ _ _ hz5) Tryz.underlying154 rfl Tryz.kf rfl ?_
 exact ⟨rfl,h5.out _⟩
namespace Pg
theorem iV.get {wh:Nat→Value} {R:Nat→List Nd} (h:iV wh R):∃ hv:Nat→Nat,(∀ k,k<6→hv k<18446744073709551616)∧(∀ k,k<6→wh (28+(k*65+64)) = .int .u64 (hv k))∧∀ k,k<6→∀ s,s<64→(hv k).testBit s = !(R (k*65+s)).isEmpty:=by
 refine ⟨fun k=>if hk:k<6 then Classical.choose (h k hk) else 0,fun k hk => ?_,fun k hk => ?_,fun k hk => ?_⟩
 all_goals
  have hs:=Classical.choose_spec (h k hk)
  simp only [dif_pos hk]
 ·exact hs.1
 ·exact hs.2.1
 ·exact hs.2.2
def E2 (w:World) (T:List Tn) (e:Ending) (w':World):Prop:=Below w.heap.size w w'∧match (srt (fun x:Tn=>x.t) T).head? with
 | none=>e = .returned (.pointer none)
 | some x=>∃ b,e = .returned (ndP b)∧w'.cell? ⟨b,0,none⟩=some (.int .u64 x.t)
end Pg
theorem pP (w:World) (lo mb pb:Nat) (qv:Value) (s:Pg.MSt) (T:List Pg.Tn) (hM:Pg.ak w lo mb pb qv s) (hT:Pg.eI w lo s T) (hl:T.length≤19) (hnow:s.now<18446744073709551616) (hge:∀ x∈T,s.now≤x.t) (hg:2<w.heap.size) (hG:TabAt 2 Lib.deBruijn64tab w) :
  Calls Tryz.prog 138 #[.pointer (some ⟨mb,27,none⟩)] w (Pg.E2 w T):=by
 obtain ⟨R,hW,hF,hb⟩:=hT
 obtain ⟨hv,hv1,hv2,hv3⟩:=hW.held.get
 have hml:=hM.lt
 have hnl:∀ r,Pg.isR r→∀ x∈R r,x.1<w.heap.size:=fun r hr x hx=>by
  obtain ⟨i,hi⟩:=List.mem_iff_getElem?.1 hx
  exact (Array.getElem?_eq_some_iff.1 (hW.rgs.nds r hr i x hi)).1
 refine Calls.mono (zG w mb R hv hv1 (fun W0 hB hs => ?_)) ?_
 ·have hM0:=hM.below hB
  have hR0:=hW.rgs.below hB
  have hG0:TabAt 2 Lib.deBruijn64tab W0:=fun j hj=>(hB.cell (p:=⟨2,j,none⟩) hg).trans (hG j hj)
  refine ⟨fun Bs V hk hc=>⟨hc,fun k hk6 => ?_,fun k j hk6 hj => ?_,?_,Pg.KpM.tab hk (by omega) hG0⟩,hR0.nds,hR0.nod,fun r hr => ?_,fun r hr x hx=>by have:=hnl r hr x hx;omega,by omega,by omega,fun k e=>by omega⟩
  ·rw [show 28+k*65+64=28+(k*65+64) by omega]
   exact hk.cell ((hM0.whc (28+(k*65+64)) (by omega) (by omega)).trans (congrArg some (hv2 k hk6))) (by show ¬ mb=w.heap.size;omega)
  ·rw [Nat.add_assoc]
   exact hk.cell ((hM0.whc (28+(k*65+j)) (by omega) (by omega)).trans (congrArg some (hR0.ring _ (.inl (by omega))))) (by show ¬ mb=w.heap.size;omega)
  ·exact hk.cell ((hM0.whc 418 (by omega) (by omega)).trans (congrArg some (hR0.ring 390 (.inr rfl)))) (by show ¬ mb=w.heap.size;omega)
  ·have:((R r).map (·.2)).length≤T.length:=by rw [hF r hr];exact List.length_filter_le _ _
   rw [List.length_map] at this
   omega
 ·rintro e w' ⟨rfl,hB⟩
  refine ⟨hB,?_⟩
  have hs:=Pg.Ba hnow (fun x hx=>⟨hge x hx,hb x hx⟩) hF hv3
  rw [← hs]
  have hmem:∀ x∈Pg.uc R hv,∃ r,Pg.isR r∧x∈R r:=fun x hx=>by
   obtain ⟨r,hr,hx⟩:=List.mem_flatMap.1 hx
   exact ⟨r,Pg.ru hr,Pg.jf.1 hx⟩
  unfold Pg.wV
  cases hA:Pg.uc R hv with
  | nil=>rfl
  | cons x l =>
   obtain ⟨r,hr,hx⟩:=hmem x (by rw [hA];exact List.mem_cons_self ..)
   obtain ⟨i,hi⟩:=List.mem_iff_getElem?.1 hx
   have h0:=hW.rgs.nds r hr i x hi
   refine ⟨x.1,rfl,?_⟩
   rw [hB.cell (p:=⟨x.1,0,none⟩) (hnl r hr x hx),cell_of_row w _ _ _ _ _ h0]
   rfl
namespace Pg
def bj (now t:Nat) (T:List Tn):Bool:=match (srt (fun x:Tn=>x.t) T).head? with | none=>false | some x=>decide (x.t≤max t now)
end Pg
theorem wW (w:World) (lo mb pb:Nat) (qv:Value) (s:Pg.MSt) (T:List Pg.Tn) (t:Nat) (hM:Pg.ak w lo mb pb qv s) (hT:Pg.eI w lo s T) (hl:T.length≤19) (hnow:s.now<18446744073709551616) (hge:∀ x∈T,s.now≤x.t) (hg:2<w.heap.size) (hG:TabAt 2 Lib.deBruijn64tab w) :
  Calls Tryz.prog 104 #[.pointer (some ⟨mb,27,none⟩),.int .u64 t] w fun e w'=>e = .returned (.bool (Pg.bj s.now t T))∧Below w.heap.size w w':=by
 have hf:=pP w lo mb pb qv s T hM hT hl hnow hge hg hG
 have HN:Hid (∀ V,Below w.heap.size w V→V.cell? ⟨mb,27,none⟩=some (.int .u64 s.now)):=fun V hV=>(hM.below hV).cell 27 (by decide)
 clear hM hT hge hG
 cases hh:(Pg.srt (fun x:Pg.Tn=>x.t) T).head? with
 | none =>
  have HF:Hid (Calls Tryz.prog 138 #[.pointer (some ⟨mb,27,none⟩)] w fun e w'=>e = .returned (.pointer none)∧Below w.heap.size w w'):=Calls.mono hf (by
   rintro e w' ⟨h1,h2⟩
   rw [hh] at h2
   exact ⟨h2,h1⟩)
  have HD:Hid (Pg.bj s.now t T=false):=by unfold Hid Pg.bj;rw [hh]
  clear hf hh
  go_enter Tryz.func104,Tryz.ntmps104
  go_wp2_with (go_at_call 138;refine Calls.mono HF.out ?_;rintro e w1 ⟨rfl,hB⟩)
  go_quiet (fail)
  go_wp2
  go_ret
  exact ⟨by rw [HD.out];rfl,below_drewN hB _⟩
 | some x =>
  have HF:Hid (Calls Tryz.prog 138 #[.pointer (some ⟨mb,27,none⟩)] w fun e w'=>∃ b,e = .returned (.pointer (some ⟨b,0,none⟩))∧w'.cell? ⟨b,0,none⟩=some (.int .u64 x.t)∧Below w.heap.size w w'):=Calls.mono hf (by
   rintro e w' ⟨h1,h2⟩
   rw [hh] at h2
   obtain ⟨b,e1,e2⟩:=h2
   exact ⟨b,e1,e2,h1⟩)
  have HD:Hid (Pg.bj s.now t T=decide ((x.t:Int)≤max (t:Int) (s.now:Int))):=by
   unfold Hid Pg.bj
   rw [hh]
   exact decide_eq_decide.2 (by omega)
  clear hf hh
  go_enter Tryz.func104,Tryz.ntmps104
  go_wp2_with (go_at_call 138;refine Calls.mono HF.out ?_;rintro e w1 ⟨b,rfl,hc,hB⟩;have h27:=HN.out w1 hB)
  go_quiet (fail)
  go_wp2
  go_ret
  exact ⟨by rw [HD.out];rfl,below_drewN hB _⟩
namespace Pg
theorem jF {T:List Tn} {f:Tn} (h:(srt (fun x:Tn=>x.t) T).head?=some f):f∈T∧(∀ x∈T,f.t≤x.t)∧∃ m,T.filter (fun x=>x.t == f.t)=f::m:=by
 cases hs:srt (fun x:Tn=>x.t) T with
 | nil=>rw [hs] at h;cases h
 | cons a l =>
  rw [hs] at h
  obtain rfl:a=f:=by simpa using h
  have h1:=mg (fun x:Tn=>x.t) T
  rw [hs] at h1
  have h2:=List.pairwise_cons.1 h1
  refine ⟨jf.1 (by rw [hs];exact List.mem_cons_self ..),fun x hx => ?_,l.filter (fun x=>x.t == a.t),?_⟩
  ·have:=jf (f:=fun x:Tn=>x.t).2 hx
   rw [hs] at this
   rcases List.mem_cons.1 this with e | e
   ·rw [e];exact Nat.le_refl _
   ·exact h2.1 x e
  ·rw [← jn (fun x:Tn=>x.t) T a.t,hs,List.filter_cons_of_pos (by simp)]
end Pg
theorem AM (w:World) (lo mb pb:Nat) (qv:Value) (s:Pg.MSt) (T:List Pg.Tn) (f:Pg.Tn) (hM:Pg.ak w lo mb pb qv s) (hT:Pg.eI w lo s T) (hls:lo≤w.heap.size) (hl:T.length≤19) (hnow:s.now<18446744073709551616) (hge:∀ x∈T,s.now≤x.t) (hg:2<w.heap.size) (hG:TabAt 2 Lib.deBruijn64tab w) (hf:(Pg.srt (fun x:Pg.Tn=>x.t) T).head?=some f) :
  Calls Tryz.prog 136 #[.pointer (some ⟨mb,27,none⟩)] w fun e w'=>e = .returned (.agg #[.string f.ev,.string f.nm])∧Hid (Pg.AW w lo mb pb qv { s with now:=f.t } (T.eraseP (fun x=>x.t == f.t)) w'):=by
 obtain ⟨h1,h2,m,h3⟩:=Pg.jF hf
 have hft:f.t<18446744073709551616:=by
  obtain ⟨_,_,_,hb⟩:=hT
  exact hb f h1
 have hB:Below w.heap.size w (w.alloc Pg.fg):=(Below.refl _ w).alloc (Nat.le_refl _) _
 have hs:=hB.size
 refine qw w lo mb pb qv s T f m hM hT hls hnow (hge f h1) hft h2 h3 ?_
 refine Calls.mono (pP _ lo mb pb qv s T (hM.below hB) (hT.below hB) hl hnow hge (Nat.lt_of_lt_of_le hg hs) (fun j hj=>(hB.cell (p:=⟨2,j,none⟩) hg).trans (hG j hj))) ?_
 rintro e w' ⟨a,b⟩
 rw [hf] at b
 obtain ⟨nb,e1,e2⟩:=b
 exact ⟨nb,e1,e2,a⟩
end
end Go.Proofs.YtegmoddppafkfaaGreatDoor
