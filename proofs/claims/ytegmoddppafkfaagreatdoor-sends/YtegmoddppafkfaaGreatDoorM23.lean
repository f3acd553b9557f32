import Derived.Test.YtegmoddppafkfaaGreatDoorM00
import Derived.Test.YtegmoddppafkfaaGreatDoorM22
import Derived.Deep.AppendLies
import Derived.Deep.RegionLaw
set_option maxRecDepth 100000
set_option maxHeartbeats 8000000
namespace Go.Proofs.YtegmoddppafkfaaGreatDoor
section
open Go.RowKit
variable {w0 w:World} {db mb nm:Nat} {sv pv ov:Ref.Sl} {tm:Bool} {X:List Pro.DS} {SP:List (Int×Int)} {O:List Nat} {PT:Nat→List Nat} {D:DataW Nat}
theorem Tryz.zM:(Tryz.prog.info? 295).map (fun i=>(i.zero,i.size,i.bytes))=some (some (.agg #[.string ByteArray.empty,.bool false,.int .u64 0,.string ByteArray.empty,.slice none 0 0]),5,72):=by kernel_rfl
def cA (num:Int) (dep:Nat) (y:Pro.PV):Array Value:=#[.int .i64 num,.int .i64 dep,.string y.m.event,.bool y.m.after,.int .u64 y.m.delay,.string y.m.to,.slice y.v.a y.v.n y.v.c]
theorem jO (num:Int) (dep:Nat) (y:Pro.PV) (G:al w0 w db sv pv ov mb tm X SP O PT nm D) (h:dep=0∨O.length<dep) (hd:dep≤1073741824) :
  Calls Tryz.prog 364 #[.agg (cA num dep y),.pointer (some ⟨db,0,none⟩)] w (aY 3 num w):=by
 have hdl:=G.dlt
 have hb1:Below w.heap.size w ((w.alloc (.cells (cA num dep y) 380)).alloc (.cells #[.int .i64 2,.int .i64 3,.int .i64 4] 238)):=((Below.refl _ _).alloc (Nat.le_refl _) _).alloc (by simp) _
 have HC:Hid _:=qn num dep (.slice (some ⟨w.heap.size+1,0,none⟩) 3 3) (G.ay hb1) h hd
 unfold cA at hb1 HC ⊢
 go_enter Tryz.func364,Tryz.ntmps364
 go_wp2_with fail
 refine Calls.mono HC.out ?_
 rintro e w4 ⟨hb,b,h5,h6,rfl⟩
 dsimp only
 exact ⟨rfl,hb1.trans (hb.mono hb1.size),b,Nat.le_trans hb1.size h5,h6,rfl⟩
theorem qe (num:Int) (dep:Nat) (y:Pro.PV) (k u g cap:Nat) (G:al w0 w db ⟨some ⟨g,0,none⟩,X.length,cap⟩ pv ov mb tm X SP O PT nm D) (hk:k<O.length) (hd:dep=k+1) (hO:O.length≤1073741824) (hku:O[k]=u) (hu:u<X.length) (hh:Pro.ao X[u].s∈([2,3,4]:List Int)) :
  Calls Tryz.prog 364 #[.agg (cA num dep y),.pointer (some ⟨db,0,none⟩)] w (aY 3 num w):=by
 have hdl:=G.dlt
 have hb1:Below w.heap.size w ((w.alloc (.cells (cA num dep y) 380)).alloc (.cells #[.int .i64 2,.int .i64 3,.int .i64 4] 238)):=((Below.refl _ _).alloc (Nat.le_refl _) _).alloc (by simp) _
 have HC:Hid _:=kt num dep k u [2,3,4] (w.heap.size+1) g cap (G.ay hb1) hk hd hO hku hu (b8 _ _ _) (by decide)
 clear hd hku hk hO
 unfold cA at hb1 HC ⊢
 go_enter Tryz.func364,Tryz.ntmps364
 go_wp2_with fail
 refine Calls.mono HC.out ?_
 rintro e w4 h4
 unfold ld at h4
 rw [if_pos hh] at h4
 obtain ⟨hb,b,h5,h6,rfl⟩:=h4
 dsimp only
 exact ⟨rfl,hb1.trans (hb.mono hb1.size),b,Nat.le_trans hb1.size h5,h6,rfl⟩
theorem qg (num:Int) (dep:Nat) (y:Pro.PV) (k u g cap:Nat) (G:al w0 w db ⟨some ⟨g,0,none⟩,X.length,cap⟩ pv ov mb tm X SP O PT nm D) (hk:k<O.length) (hd:dep=k+1) (hO:O.length≤1073741824) (hku:O[k]=u) (hu:u<X.length) (hh:¬ Pro.ao X[u].s∈([2,3,4]:List Int))
  (hy:w0.ownsRow 0 324 1 y.v.v y.m.aj.length (y.m.aj.map bp)) (hml:X[u].s.moves.length≤1000000) :
  Calls Tryz.prog 364 #[.agg (cA num dep y),.pointer (some ⟨db,0,none⟩)] w fun e w'=>e = .returned (.tuple #[])∧∃ vm',al w0 w' db ⟨some ⟨g,0,none⟩,X.length,cap⟩ pv ov mb (tm||y.m.after) (X.set u (Pro.cd X[u] y vm')) SP O PT nm D:=by
 have hdl:=G.dlt
 obtain ⟨hcap,hgl,hg0⟩:=G.zn
 have hb1:Below w.heap.size w ((w.alloc (.cells (cA num dep y) 380)).alloc (.cells #[.int .i64 2,.int .i64 3,.int .i64 4] 238)):=((Below.refl _ _).alloc (Nat.le_refl _) _).alloc (by simp) _
 have HC:Hid _:=kt num dep k u [2,3,4] (w.heap.size+1) g cap (G.ay hb1) hk hd hO hku hu (b8 _ _ _) (by decide)
 have hbx:((w.alloc (.cells (cA num dep y) 380)).alloc (.cells #[.int .i64 2,.int .i64 3,.int .i64 4] 238)).heap[w.heap.size]?=some (.cells (cA num dep y) 380 (0,0)):=gn _ _ _
 obtain ⟨i0,hi,hz0,hz1,hz2⟩:=info_parts Tryz.zM
 clear hd hku hk hO
 have hlw:w.heap.size<((w.alloc (.cells (cA num dep y) 380)).alloc (.cells #[.int .i64 2,.int .i64 3,.int .i64 4] 238)).heap.size:=by simp;omega
 unfold cA at hb1 HC hbx hlw ⊢
 go_enter Tryz.func364,Tryz.ntmps364
 go_wp2_with fail
 refine Calls.mono HC.out ?_
 rintro e w4 h4
 unfold ld at h4
 rw [if_neg hh] at h4
 obtain ⟨rfl,hb4⟩:=h4
 have hbw:=hb1.trans (hb4.mono hb1.size)
 have G4:=G.ay hbw
 have hbx4:=(hb4.block _ hlw).trans hbx
 have hbs:=hbw.size
 obtain ⟨M,hM1,hM2,hM3⟩:=(G4.deep u hu).moves
 have hMl:M.length≤1000000:=by rw [← hM1] at hml;simpa using hml
 have c7:w4.cell? ⟨g,u*8+7,none⟩=some (.slice X[u].vm.a X[u].vm.n X[u].vm.c):=G4.Az hu 7 _ rfl
 have f7:w4.frozen? ⟨g,u*8+7,none⟩=false:=World.ownsRow.frozenAt (aI G4.states (Nat.zero_le _)) _
 have e2:w4.cell? ⟨w.heap.size,2,none⟩=some (.string y.m.event):=by rw [cell_of_row w4 _ _ _ _ _ hbx4];rfl
 have e3:w4.cell? ⟨w.heap.size,3,none⟩=some (.bool y.m.after):=by rw [cell_of_row w4 _ _ _ _ _ hbx4];rfl
 have e4:w4.cell? ⟨w.heap.size,4,none⟩=some (.int .u64 y.m.delay):=by rw [cell_of_row w4 _ _ _ _ _ hbx4];rfl
 have e5:w4.cell? ⟨w.heap.size,5,none⟩=some (.string y.m.to):=by rw [cell_of_row w4 _ _ _ _ _ hbx4];rfl
 have e6:w4.cell? ⟨w.heap.size,6,none⟩=some (.slice y.v.a y.v.n y.v.c):=by rw [cell_of_row w4 _ _ _ _ _ hbx4];rfl
 have hgl4:g<w4.heap.size:=Nat.lt_of_lt_of_le hgl hbs
 have hlw4:w.heap.size<w4.heap.size:=(Array.getElem?_eq_some_iff.1 hbx4).1
 have hw04:w0.heap.size≤w4.heap.size:=G4.bel.size
 have HND:Hid (some g≠X[u].vm.v.ownBlock):=fun e=>by
  obtain ⟨c,hc⟩:=cW hM2 _ e.symm
  obtain ⟨c',hc'⟩:=cW G4.states g rfl
  rw [hc] at hc';simp at hc'
 have HB4:Hid _:=hbx4
 clear hbx hbx4 HC hh hlw hb1
 dsimp only
 go_upto_region 2 with fail
 go_cut [] (fun wx=>∃ vm',al w0 wx db ⟨some ⟨g,0,none⟩,X.length,cap⟩ pv ov mb tm (X.set u (Pro.cd X[u] y vm')) SP O PT nm D∧wx.heap[w.heap.size]?=some (.cells (cA num dep y) 380 (0,0)))
 case first =>
  go_region_law
   ((refine step_append_lies _ (by rfl) _ _ _ (by rfl) w0.heap.size 295 i0 _ 5 72 Tryz.underlying240 hi hz0 hz1 hz2 rfl (by decide) (.slice X[u].vm.a X[u].vm.n X[u].vm.c) M.length (M.flatMap Pro.bk) (by rfl) ((World.ownsRow.alloc hM2 _).drew) ⟨w4.heap.size,0,none⟩ 1 1 (Pro.bk y) (by rfl) (by rfl) (World.news_of_block (cs:=(Pro.bk y).toArray) (t:=295) (fr:=(0,0)) (heap_alloc_new w4 _)) (by simp [Pro.bk,Value.oneCell']) (by omega) (by unfold maxLen;omega) (by omega) (by simp;omega) (w4.heap.size+1) (by simp) ?_;intro g5 cap5 w5 hown5 hgrow hat hlt5;have hfz5:=((hgrow.frozen_far ⟨g,u*8+7,none⟩ (by simp;omega) HND.out).trans ((((Below.refl w4.heap.size w4).alloc (Nat.le_refl _) _).drew).frozen (p:=⟨g,u*8+7,none⟩) hgl4)).trans f7;have hcc5:=((hgrow.cell_far ⟨g,u*8+7,none⟩ (by simp;omega) HND.out).trans ((((Below.refl w4.heap.size w4).alloc (Nat.le_refl _) _).drew).cell (p:=⟨g,u*8+7,none⟩) hgl4)).trans c7))
  all_goals (
   go_wp2_with fail
   go_meet
   case rel =>
    have hbc:Below w4.heap.size w4 ((w4.alloc (.cells #[.string y.m.event,.bool y.m.after,.int .u64 y.m.delay,.string y.m.to,.slice y.v.a y.v.n y.v.c] 295)).drew):=((Below.refl _ _).alloc (Nat.le_refl _) _).drew
    refine ⟨⟨some ⟨g5,0,none⟩,M.length+1,cap5⟩,G4.addMove (vm':=⟨some ⟨g5,0,none⟩,M.length+1,cap5⟩) (y:=y) (M:=M) hbc hu hM1 hM2 hM3 hgrow hown5 ?_ hy,?_⟩
    ·rcases hat with h | h
     ·exact .inl h.symm
     ·exact .inr (by rw [h];simp [Ref.Sl.v,Value.ownBlock])
    ·have t1:Touch 295 _ w5:=dX (World.ownsRow.drew (World.ownsRow.alloc hM2 _)) hgrow
     have b5:=bA (bA HB4.out (bO (e:=295) hbc) (by decide)) t1 (by decide)
     rw [(ae w5 g (u*8+7) _).block w.heap.size (by omega)]
     exact b5)
 case rest =>
  obtain ⟨vm',G6,hbx6⟩:=hcut
  obtain ⟨W6,hW6⟩:∃ y:World,y=wc:=⟨wc,rfl⟩
  subst hW6
  obtain ⟨d0,d1,d2,d3,d4⟩:=G6.cells
  have fd:=G6.frozen 4
  have hl6:=G6.dlt
  have e3':W6.cell? ⟨w.heap.size,3,none⟩=some (.bool y.m.after):=by rw [cell_of_row W6 _ _ _ _ _ hbx6];rfl
  have HG:Hid _:=G6
  clear e2 e3 e4 e5 e6 c7 f7 hi hz0 hz1 hz2 hM1 hM2 hM3
  cases tm with
  | true =>
   go_wp2
   go_end0
   exact ⟨rfl,vm',by simpa using HG.out.vO true (Below.refl _ _)⟩
  | false =>
   go_wp2
   go_end0
   exact ⟨rfl,vm',by simpa using HG.out.vO y.m.after (Below.refl _ _)⟩
end
end Go.Proofs.YtegmoddppafkfaaGreatDoor
