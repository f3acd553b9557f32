import Derived.Test.YtegmoddppafkfaaGreatDoorM00
import Derived.Test.YtegmoddppafkfaaGreatDoorM23
import Derived.Deep.RegionHeldLaw
set_option maxRecDepth 100000
set_option maxHeartbeats 8000000
namespace Go.Proofs.YtegmoddppafkfaaGreatDoor
section
open Go.RowKit
variable {w0 w:World} {db mb nm:Nat} {sv pv ov:Ref.Sl} {tm:Bool} {X:List Pro.DS} {SP:List (Int×Int)} {O:List Nat} {PT:Nat→List Nat} {D:DataW Nat}
theorem Tryz.xd:(Tryz.prog.info? 242).map (fun i=>(i.zero,i.size,i.bytes))=some (some (.agg #[.int .i64 0,.string ByteArray.empty,.int .i64 0,.int .i64 0,.slice none 0 0,.slice none 0 0,.slice none 0 0,.slice none 0 0]),8,136):=by kernel_rfl
theorem Tryz.zR:(Tryz.prog.info? 286).map (fun i=>(i.zero,i.size,i.bytes))=some (some (.agg #[.int .i64 0,.int .i64 0]),2,16):=by kernel_rfl
theorem Tryz.uQ:(Tryz.prog.info? 3).map (fun i=>(i.zero,i.size,i.bytes))=some (some (.int .i64 0),1,8):=by kernel_rfl
theorem Aj {base n n' cap go:Nat} {e:TypeId} {xs:List Value} {w:World} (h:w.ownsRow base e 1 (.slice (some ⟨go,0,none⟩) n cap) n xs) (hn:n'≤n):w.ownsRow base e 1 (.slice (some ⟨go,0,none⟩) n' cap) n' (xs.take n'):=by
 rcases h.2 with ⟨h',_⟩ | ⟨g,cap',cur,hv,hb,hg,h1,h2,h3,h4⟩
 ·cases h'
 ·simp only [Value.slice.injEq,Option.some.injEq,Addr.mk.injEq,and_true,true_and] at hv
  obtain ⟨rfl,rfl⟩:=hv
  have hl:=h.1
  refine ⟨by rw [List.length_take,hl];omega,.inr ⟨go,cap,cur,rfl,hb,hg,by omega,h2,h3,?_⟩⟩
  rw [← h4,List.take_take]
  congr 1
  omega
theorem zI (O:List Nat) (d:Nat):(O.flatMap dK).take d=(O.take d).flatMap dK:=by
 induction O generalizing d with
 | nil=>simp
 | cons a O ih =>
  cases d with
  | zero=>simp
  | succ d=>simp only [List.flatMap_cons,List.take_succ_cons];rw [show dK a=[.int .i64 a] from rfl];simp [ih]
def dM (num:Int) (dep:Nat) (kd:Int) (nme:ByteArray):Array Value:=#[.int .i64 num,.int .i64 dep,.int .i64 kd,.string nme]
structure n9 (B:Nat) (bx:Array Value) (w0 w:World) (db:Nat) (sv pv ov:Ref.Sl) (mb:Nat) (tm:Bool) (X:List Pro.DS) (SP:List (Int×Int)) (O:List Nat) (PT:Nat→List Nat) (nm:Nat) (D:DataW Nat):Prop where
 G:al w0 w db sv pv ov mb tm X SP O PT nm D
 box:w.heap[B]?=some (.cells bx 376 (0,0))
theorem bD {base size n:Nat} {e:TypeId} {v:Value} {xs:List Value} {w:World} (h:w.ownsRow base e size v n xs) (o:Obj):((w.alloc o).drew).ownsRow base e size v n xs:=(World.ownsRow.alloc h o).drew
theorem eY {B:Nat} {bx:Array Value} {e:TypeId} {base size n:Nat} {v:Value} {xs:List Value} {w wc w5:World} (hb:w.heap[B]?=some (.cells bx 376 (0,0))) (hbc:Below w.heap.size w wc) (ho:wc.ownsRow base e size v n xs) (hg:wc.grownBy w5 v.ownBlock) (hne:376≠e):w5.heap[B]?=some (.cells bx 376 (0,0)) :=
 bA (bA hb (bO (e:=e) hbc) hne) (dX ho hg) hne
theorem wz (num:Int) (dep:Nat) (kd ow:Int) (nme:ByteArray) (ns:Ref.State) (G:al w0 w db sv pv ov mb tm X SP O PT nm D) (hX:X.length≤1000) (hSP:SP.length≤1000) (hO:O.length≤1000) (hPTl:∀ i,(PT i).length≤1000) (hnm:nm≤1000)
  (hkd:Pro.ao ns=kd) (hnme:ns.name=nme) (hdep:ns.depth=dep) (hup:ns.up=ow) (hm:ns.moves=[]) (he:ns.enter=[]) (hl:ns.leave=[]) (hd:dep≤O.length) (hsz:nme.size≤1000000) (hnum:(Lit.int .i64 num).wf=true)
  (how:ow = -1∨∃ u:Nat,ow=u∧u<X.length) (hPT:PT X.length=[]) :
  Calls Tryz.prog 362 #[.pointer (some ⟨db,0,none⟩),.agg (dM num dep kd nme),.int .i64 ow] w fun e w'=>e = .returned (.tuple #[])∧∃ sv' pv' ov' X',X'.map (·.s)=X.map (·.s)++[ns] ∧
   al w0 w' db sv' pv' ov' mb tm X' (SP++[(num,(dep:Int))]) (O.take dep++[X.length]) (fun i=>if (i:Int)=ow then PT i++[X.length] else PT i) (nm+1) (if Go.Maps.has D (.string nme.data.toList) then D else D.put (.string nme.data.toList) (.lit (.int .i64 num))):=by
 have hsn:=G.ER
 have hdl:=G.dlt
 have hb1:Below w.heap.size w (w.alloc (.cells (dM num dep kd nme) 376)):=(Below.refl _ _).alloc (Nat.le_refl _) _
 have A1:n9 w.heap.size (dM num dep kd nme) w0 (w.alloc (.cells (dM num dep kd nme) 376)) db sv pv ov mb tm X SP O PT nm D:=⟨G.ay hb1,heap_alloc_new _ _⟩
 obtain ⟨c0,c1,c2,c3,c4⟩:=A1.G.cells
 rw [hsn] at c0
 obtain ⟨W1,hW1⟩:∃ y,y=w.alloc (.cells (dM num dep kd nme) 376):=⟨_,rfl⟩
 obtain ⟨B,hB⟩:∃ B,B=w.heap.size:=⟨_,rfl⟩
 obtain ⟨i0,hi,hz0,hz1,hz2⟩:=info_parts Tryz.uQ
 have HE:Hid (Pro.ao ns=kd∧ns.name=nme∧ns.depth=dep∧ns.up=ow∧ns.moves=[]∧ns.enter=[]∧ns.leave=[]):=⟨hkd,hnme,hdep,hup,hm,he,hl⟩
 clear hkd hnme hdep hup hm he hl
 have HPT:Hid _:=hPT
 have HPTl:Hid _:=hPTl
 have HD:Hid (dep≤O.length):=hd
 clear hPT hPTl hd hsn
 unfold dM at A1 c0 c1 c2 c3 c4 hW1 ⊢
 go_enter Tryz.func362,Tryz.ntmps362
 go_upto_if 15 with fail
 change Code.wp _ _ _ _ (w.alloc (.cells #[.int .i64 num,.int .i64 dep,.int .i64 kd,.string nme] 376))
 rw [← hW1] at A1 c0 c1 c2 c3 c4 ⊢
 rw [← hB] at A1 ⊢
 have hBW:B<W1.heap.size:=(Array.getElem?_eq_some_iff.1 A1.box).1
 clear hW1 hb1 G hdl hB
 go_cut [] (fun wx=>∃ sv1 X1,X1.map (·.s)=X.map (·.s)∧n9 B #[.int .i64 num,.int .i64 dep,.int .i64 kd,.string nme] w0 wx db sv1 pv ov mb tm X1 SP O (fun i=>if (i:Int)=ow then PT i++[X.length] else PT i) nm D)
 case first =>
  rcases how with how | ⟨u,how,hu⟩
  ·subst how
   go_wp2
   go_meet
   case rel =>
    refine ⟨sv,X,rfl,?_⟩
    have e:(fun i:Nat=>if (i:Int) = -1 then PT i++[X.length] else PT i)=PT:=by
     funext i;rw [if_neg (by omega)]
    rw [e];exact A1
  ·subst how
   obtain ⟨g,cap,rfl⟩:=A1.G.Cz (by omega)
   obtain ⟨hcap,hgl,hg0⟩:=A1.G.zn
   have cP:W1.cell? ⟨g,u*8+4,none⟩=some (.slice X[u].vp.a X[u].vp.n X[u].vp.c):=A1.G.Az hu 4 _ rfl
   have fP:W1.frozen? ⟨g,u*8+4,none⟩=false:=World.ownsRow.frozenAt (aI A1.G.states (Nat.zero_le _)) _
   have hown:=A1.G.parts u hu
   have hpl:=HPTl.out u
   have hdl:=A1.G.dlt
   have hw01:=A1.G.bel.size
   have hneg:((u:Int) == -1)=false:=by simp
   have HND:Hid (some g≠X[u].vp.v.ownBlock):=fun e=>by
    obtain ⟨c,hc⟩:=cW hown _ e.symm
    obtain ⟨c',hc'⟩:=cW A1.G.states g rfl
    rw [hc] at hc';simp at hc'
   have HNDd:Hid (some db≠X[u].vp.v.ownBlock):=fun e=>by
    obtain ⟨c,hc⟩:=cW hown _ e.symm
    have hc':=A1.G.draft
    rw [hc] at hc';simp at hc'
   go_upto_region 3 with fail
   go_region_law
    ((refine step_append_lies _ (by rfl) _ _ _ (by rfl) w0.heap.size 3 i0 _ 1 8 Tryz.underlying35 hi hz0 hz1 hz2 rfl (by decide) (.slice X[u].vp.a X[u].vp.n X[u].vp.c) (PT u).length ((PT u).flatMap dK) (by rfl) (bD hown _) ⟨W1.heap.size,0,none⟩ 1 1 [.int .i64 X.length] (by rfl) (by rfl) (World.news_of_block (cs:=#[.int .i64 X.length]) (t:=3) (fr:=(0,0)) (heap_alloc_new W1 _)) (by simp [Value.oneCell']) (by omega) (by unfold maxLen;omega) (by omega) (by simp;omega) (W1.heap.size+1) (by simp) ?_;intro g5 cap5 w5 hown5 hgrow hat hlt5;have hfz5:=((hgrow.frozen_far ⟨g,u*8+4,none⟩ (by simp;omega) HND.out).trans ((((Below.refl W1.heap.size W1).alloc (Nat.le_refl _) _).drew).frozen (p:=⟨g,u*8+4,none⟩) hgl)).trans fP;have hcc5:=((hgrow.cell_far ⟨g,u*8+4,none⟩ (by simp;omega) HND.out).trans ((((Below.refl W1.heap.size W1).alloc (Nat.le_refl _) _).drew).cell (p:=⟨g,u*8+4,none⟩) hgl)).trans cP;have hcd5:=((hgrow.cell_far ⟨db,0,none⟩ (by simp;omega) HNDd.out).trans ((((Below.refl W1.heap.size W1).alloc (Nat.le_refl _) _).drew).cell (p:=⟨db,0,none⟩) hdl)).trans c0))
   all_goals (
    go_wp2_with fail
    go_meet
    case rel =>
     have hbc:Below W1.heap.size W1 ((W1.alloc (.cells #[.int .i64 X.length] 3)).drew):=((Below.refl _ _).alloc (Nat.le_refl _) _).drew
     have GP:=A1.G.addPart (vp':=⟨some ⟨g5,0,none⟩,(PT u).length+1,cap5⟩) (n:=X.length) hbc hu hgrow (by rw [List.length_append,List.flatMap_append];exact hown5) (by
      rcases hat with h | h
      ·exact .inl h.symm
      ·exact .inr (by rw [h];simp [Ref.Sl.v,Value.ownBlock]))
     refine ⟨⟨some ⟨g,0,none⟩,X.length,cap⟩,X.set u { X[u] with vp:=⟨some ⟨g5,0,none⟩,(PT u).length+1,cap5⟩ },?_,?_,?_⟩
     ·rw [List.map_set]
      apply List.ext_getElem?
      intro i
      rw [List.getElem?_set]
      split
      ·rename_i h;subst h;simp [hu]
      ·rfl
     ·have e:(fun i:Nat=>if (i:Int)=(u:Int) then PT i++[X.length] else PT i)=fun i=>if i=u then PT u++[X.length] else PT i:=by
       funext i
       by_cases h:i=u
       ·subst h;simp
       ·rw [if_neg h,if_neg (by omega)]
      rw [e];exact GP
     ·rw [(ae w5 g (u*8+4) _).block B (fun h=>by
       have b1:=A1.box
       obtain ⟨c',hc'⟩:=cW A1.G.states g rfl
       rw [h,hc'] at b1;simp at b1)]
      exact eY A1.box hbc (bD hown _) hgrow (by decide))
 case rest =>
  obtain ⟨sv1,X1,hX1,A2⟩:=hcut
  obtain ⟨W2,hW2⟩:∃ y:World,y=wc:=⟨wc,rfl⟩
  subst hW2
  clear A1 c0 c1 c2 c3 c4 hBW hi hz0 hz1 hz2 i0
  have hXl:X1.length=X.length:=by
   have:=congrArg List.length hX1
   simpa using this
  obtain ⟨PT1,hPT1⟩:∃ P:Nat→List Nat,P=fun i:Nat=>if (i:Int)=ow then PT i++[X.length] else PT i:=⟨_,rfl⟩
  have HPT1:Hid (PT1 X1.length=[]):=by
   unfold Hid
   rw [hPT1,hXl]
   simp only
   rw [if_neg,HPT.out]
   rcases how with h | ⟨u,h,hu⟩ <;> omega
  rw [← hPT1] at A2
  have HPd:Hid _:=hPT1
  have HX1:Hid _:=hX1
  have HXl:Hid _:=hXl
  have hX1b:X1.length≤1000:=by omega
  clear hPT1 hX1 hXl
  obtain ⟨i0,hi,hz0,hz1,hz2⟩:=info_parts Tryz.xd
  have hdl:=A2.G.dlt
  have hw02:=A2.G.bel.size
  have hbl:B<W2.heap.size:=(Array.getElem?_eq_some_iff.1 A2.box).1
  have hown:=A2.G.states
  obtain ⟨c0,c1,c2,c3,c4⟩:=A2.G.cells
  have f0:=A2.G.frozen 0
  have b1:W2.cell? ⟨B,1,none⟩=some (.int .i64 dep):=by rw [cell_of_row W2 _ _ _ _ _ A2.box];rfl
  have b2:W2.cell? ⟨B,2,none⟩=some (.int .i64 kd):=by rw [cell_of_row W2 _ _ _ _ _ A2.box];rfl
  have b3:W2.cell? ⟨B,3,none⟩=some (.string nme):=by rw [cell_of_row W2 _ _ _ _ _ A2.box];rfl
  have HND:Hid (some db≠sv1.v.ownBlock):=fun e=>by
   obtain ⟨c,hc⟩:=cW hown _ e.symm
   have hc':=A2.G.draft
   rw [hc] at hc';simp at hc'
  have HDS:Hid (Pro.aK ⟨ns,Ref.Sl.nil,Ref.Sl.nil,Ref.Sl.nil,Ref.Sl.nil⟩=[.int .i64 kd,.string nme,.int .i64 dep,.int .i64 ow,.slice none 0 0,.slice none 0 0,.slice none 0 0,.slice none 0 0]):=by
   unfold Hid Pro.aK
   rw [HE.out.1,HE.out.2.1,HE.out.2.2.1,HE.out.2.2.2.1];rfl
  go_upto_region 4 with fail
  go_cut [] (fun wx=>∃ sv2,n9 B #[.int .i64 num,.int .i64 dep,.int .i64 kd,.string nme] w0 wx db sv2 pv ov mb tm (X1++[⟨ns,Ref.Sl.nil,Ref.Sl.nil,Ref.Sl.nil,Ref.Sl.nil⟩]) SP O PT1 nm D)
  case first =>
   have hnb:¬ db=B:=fun h=>by
    have b1:=A2.box
    rw [← h,A2.G.draft] at b1;simp at b1
   have hnb2:¬ B=db:=fun h=>hnb h.symm
   have HNB:Hid (some B≠sv1.v.ownBlock):=fun e=>by
    obtain ⟨c,hc⟩:=cW hown _ e.symm
    have hc':=A2.box
    rw [hc] at hc';simp at hc'
   refine wp_region_held_drew (S:=(fun W=>W.cell? ⟨B,1,none⟩=some (.int .i64 dep)∧W.cell? ⟨B,2,none⟩=some (.int .i64 kd)∧W.cell? ⟨B,3,none⟩=some (.string nme))) (by kernel_rfl) ⟨b1,b2,b3⟩ (fun hHeld => ?_)
   refine tH 0 (.pointer (some ⟨db,0,none⟩)) rfl hHeld ?_
   refine tH 1 (.pointer (some ⟨db,0,none⟩)) rfl hHeld ?_
   refine tH 2 (.pointer (some ⟨db,0,none⟩)) rfl hHeld ?_
   refine tH 3 (.pointer (some ⟨db,0,none⟩)) rfl hHeld ?_
   refine tH 5 (.pointer (some ⟨B,2,none⟩)) rfl hHeld ?_
   refine tH 6 (.int .i64 kd) rfl hHeld ?_
   refine tH 7 (.pointer (some ⟨B,3,none⟩)) rfl hHeld ?_
   refine tH 8 (.string nme) rfl hHeld ?_
   refine tH 9 (.pointer (some ⟨B,0,none⟩)) rfl hHeld ?_
   refine tH 10 (.pointer (some ⟨B,1,none⟩)) rfl hHeld ?_
   refine tH 11 (.int .i64 dep) rfl hHeld ?_
   refine tH 12 (.int .i64 ow) rfl hHeld ?_
   refine tH 13 (.agg #[.int .i64 kd,.string nme,.int .i64 dep,.int .i64 ow,.slice none 0 0,.slice none 0 0,.slice none 0 0,.slice none 0 0]) rfl hHeld ?_
   refine yH [4,14] ?_
   refine AllReadyH.cons rfl (fun K hK => ?_) (AllReadyH.cons rfl (fun K hK => ?_) AllReadyH.nil)
   ·skip
    go_simp
    refine hK.out _ _ hHeld (fun hHeld => ?_)
    clear hK K
    refine zH 14 rfl fun K hK => ?_
    go_simp
    refine hK.out _ _ (by (try dsimp only);go_keep) (fun hHeld => ?_)
    clear hK K
    refine zH 15 rfl fun K hK => ?_
    refine step_append_lies _ (by rfl) _ _ _ (by rfl) w0.heap.size 242 i0 _ 8 136 Tryz.underlying226 hi hz0 hz1 hz2 rfl (by decide) (.slice sv1.a sv1.n sv1.c) X1.length (X1.flatMap Pro.aK) (by rfl) (bD hown _) ⟨W2.heap.size,0,none⟩ 1 1 [.int .i64 kd,.string nme,.int .i64 dep,.int .i64 ow,.slice none 0 0,.slice none 0 0,.slice none 0 0,.slice none 0 0] (by rfl) (by rfl) (World.news_of_block (cs:=#[.int .i64 kd,.string nme,.int .i64 dep,.int .i64 ow,.slice none 0 0,.slice none 0 0,.slice none 0 0,.slice none 0 0]) (t:=242) (fr:=(0,0)) (heap_alloc_new W2 _)) (by simp [Value.oneCell']) (by omega) (by unfold maxLen;omega) (by omega) (by simp;omega) (W2.heap.size+1) (by simp) ?_;intro g5 cap5 w5 hown5 hgrow hat hlt5;have hfz5:=((hgrow.frozen_far ⟨db,0,none⟩ (by simp;omega) HND.out).trans ((((Below.refl W2.heap.size W2).alloc (Nat.le_refl _) _).drew).frozen (p:=⟨db,0,none⟩) hdl)).trans f0;have hcc5:=((hgrow.cell_far ⟨db,0,none⟩ (by simp;omega) HND.out).trans ((((Below.refl W2.heap.size W2).alloc (Nat.le_refl _) _).drew).cell (p:=⟨db,0,none⟩) hdl)).trans c0;have k1:=((hgrow.cell_far ⟨B,1,none⟩ (by simp;omega) HNB.out).trans ((((Below.refl W2.heap.size W2).alloc (Nat.le_refl _) _).drew).cell (p:=⟨B,1,none⟩) hbl)).trans b1;have k2:=((hgrow.cell_far ⟨B,2,none⟩ (by simp;omega) HNB.out).trans ((((Below.refl W2.heap.size W2).alloc (Nat.le_refl _) _).drew).cell (p:=⟨B,2,none⟩) hbl)).trans b2;have k3:=((hgrow.cell_far ⟨B,3,none⟩ (by simp;omega) HNB.out).trans ((((Below.refl W2.heap.size W2).alloc (Nat.le_refl _) _).drew).cell (p:=⟨B,3,none⟩) hbl)).trans b3
    refine hK.out _ _ ⟨k1,k2,k3⟩ (fun hHeld => ?_)
    clear hK K
    refine tH 16 (.pointer (some ⟨db,0,none⟩)) rfl hHeld ?_
    refine tH 17 (.pointer (some ⟨db,0,none⟩)) rfl hHeld ?_
    refine zH 18 rfl fun K hK => ?_
    go_simp
    refine hK.out _ _ (by (try dsimp only);go_keep) (fun hHeld => ?_)
    clear hK K
    refine wpAnyH_done (by kernel_rfl) ?_ _
    go_wp2_with fail
    go_meet
    case rel =>
     have hbc:Below W2.heap.size W2 ((W2.alloc (.cells #[.int .i64 kd,.string nme,.int .i64 dep,.int .i64 ow,.slice none 0 0,.slice none 0 0,.slice none 0 0,.slice none 0 0] 242)).drew):=((Below.refl _ _).alloc (Nat.le_refl _) _).drew
     rw [← HDS.out] at hown5
     refine ⟨⟨some ⟨g5,0,none⟩,X1.length+1,cap5⟩,A2.G.ua (sv':=⟨some ⟨g5,0,none⟩,X1.length+1,cap5⟩) hbc hgrow hown5 rfl rfl rfl rfl HE.out.2.2.2.2.2.1 HE.out.2.2.2.2.2.2 HE.out.2.2.2.2.1 HPT1.out,?_⟩
     rw [(ae w5 db 0 _).block B (fun h=>by
      have b1:=A2.box
      have hc':=A2.G.draft
      rw [h,hc'] at b1;simp at b1)]
     exact eY A2.box hbc (bD hown _) hgrow (by decide)
   ·skip
    go_simp
    refine hK.out _ _ (by (try dsimp only);go_keep) (fun hHeld => ?_)
    clear hK K
    refine zH 4 rfl fun K hK => ?_
    go_simp
    refine hK.out _ _ hHeld (fun hHeld => ?_)
    clear hK K
    refine zH 15 rfl fun K hK => ?_
    refine step_append_lies _ (by rfl) _ _ _ (by rfl) w0.heap.size 242 i0 _ 8 136 Tryz.underlying226 hi hz0 hz1 hz2 rfl (by decide) (.slice sv1.a sv1.n sv1.c) X1.length (X1.flatMap Pro.aK) (by rfl) (bD hown _) ⟨W2.heap.size,0,none⟩ 1 1 [.int .i64 kd,.string nme,.int .i64 dep,.int .i64 ow,.slice none 0 0,.slice none 0 0,.slice none 0 0,.slice none 0 0] (by rfl) (by rfl) (World.news_of_block (cs:=#[.int .i64 kd,.string nme,.int .i64 dep,.int .i64 ow,.slice none 0 0,.slice none 0 0,.slice none 0 0,.slice none 0 0]) (t:=242) (fr:=(0,0)) (heap_alloc_new W2 _)) (by simp [Value.oneCell']) (by omega) (by unfold maxLen;omega) (by omega) (by simp;omega) (W2.heap.size+1) (by simp) ?_;intro g5 cap5 w5 hown5 hgrow hat hlt5;have hfz5:=((hgrow.frozen_far ⟨db,0,none⟩ (by simp;omega) HND.out).trans ((((Below.refl W2.heap.size W2).alloc (Nat.le_refl _) _).drew).frozen (p:=⟨db,0,none⟩) hdl)).trans f0;have hcc5:=((hgrow.cell_far ⟨db,0,none⟩ (by simp;omega) HND.out).trans ((((Below.refl W2.heap.size W2).alloc (Nat.le_refl _) _).drew).cell (p:=⟨db,0,none⟩) hdl)).trans c0;have k1:=((hgrow.cell_far ⟨B,1,none⟩ (by simp;omega) HNB.out).trans ((((Below.refl W2.heap.size W2).alloc (Nat.le_refl _) _).drew).cell (p:=⟨B,1,none⟩) hbl)).trans b1;have k2:=((hgrow.cell_far ⟨B,2,none⟩ (by simp;omega) HNB.out).trans ((((Below.refl W2.heap.size W2).alloc (Nat.le_refl _) _).drew).cell (p:=⟨B,2,none⟩) hbl)).trans b2;have k3:=((hgrow.cell_far ⟨B,3,none⟩ (by simp;omega) HNB.out).trans ((((Below.refl W2.heap.size W2).alloc (Nat.le_refl _) _).drew).cell (p:=⟨B,3,none⟩) hbl)).trans b3
    refine hK.out _ _ ⟨k1,k2,k3⟩ (fun hHeld => ?_)
    clear hK K
    refine tH 16 (.pointer (some ⟨db,0,none⟩)) rfl hHeld ?_
    refine tH 17 (.pointer (some ⟨db,0,none⟩)) rfl hHeld ?_
    refine zH 18 rfl fun K hK => ?_
    go_simp
    refine hK.out _ _ (by (try dsimp only);go_keep) (fun hHeld => ?_)
    clear hK K
    refine wpAnyH_done (by kernel_rfl) ?_ _
    go_wp2_with fail
    go_meet
    case rel =>
     have hbc:Below W2.heap.size W2 ((W2.alloc (.cells #[.int .i64 kd,.string nme,.int .i64 dep,.int .i64 ow,.slice none 0 0,.slice none 0 0,.slice none 0 0,.slice none 0 0] 242)).drew):=((Below.refl _ _).alloc (Nat.le_refl _) _).drew
     rw [← HDS.out] at hown5
     refine ⟨⟨some ⟨g5,0,none⟩,X1.length+1,cap5⟩,A2.G.ua (sv':=⟨some ⟨g5,0,none⟩,X1.length+1,cap5⟩) hbc hgrow hown5 rfl rfl rfl rfl HE.out.2.2.2.2.2.1 HE.out.2.2.2.2.2.2 HE.out.2.2.2.2.1 HPT1.out,?_⟩
     rw [(ae w5 db 0 _).block B (fun h=>by
      have b1:=A2.box
      have hc':=A2.G.draft
      rw [h,hc'] at b1;simp at b1)]
     exact eY A2.box hbc (bD hown _) hgrow (by decide)
  case rest =>
   obtain ⟨sv2,A3⟩:=hcut
   obtain ⟨W3,hW⟩:∃ y:World,y=wc:=⟨wc,rfl⟩
   subst hW
   clear A2 c0 c1 c2 c3 c4 hi hz0 hz1 hz2 i0 hdl hw02 hbl hown b1 b2 b3 f0 HND
   obtain ⟨i0,hi,hz0,hz1,hz2⟩:=info_parts Tryz.zR
   have hdl:=A3.G.dlt
   have hw0:=A3.G.bel.size
   have hbl:B<W3.heap.size:=(Array.getElem?_eq_some_iff.1 A3.box).1
   have hown:=A3.G.ir
   obtain ⟨c0,c1,c2,c3,c4⟩:=A3.G.cells
   have b0:W3.cell? ⟨B,0,none⟩=some (.int .i64 num):=by rw [cell_of_row W3 _ _ _ _ _ A3.box];rfl
   have b1:W3.cell? ⟨B,1,none⟩=some (.int .i64 dep):=by rw [cell_of_row W3 _ _ _ _ _ A3.box];rfl
   have b3:W3.cell? ⟨B,3,none⟩=some (.string nme):=by rw [cell_of_row W3 _ _ _ _ _ A3.box];rfl
   have hnb:¬ db=B:=fun h=>by
    have b1:=A3.box
    rw [← h,A3.G.draft] at b1;simp at b1
   have hnb2:¬ B=db:=fun h=>hnb h.symm
   have HND:Hid (some db≠pv.v.ownBlock):=fun e=>by
    obtain ⟨c,hc⟩:=cW hown _ e.symm
    have hc':=A3.G.draft
    rw [hc] at hc';simp at hc'
   have HNB:Hid (some B≠pv.v.ownBlock):=fun e=>by
    obtain ⟨c,hc⟩:=cW hown _ e.symm
    have hc':=A3.box
    rw [hc] at hc';simp at hc'
   have f1:=A3.G.frozen 1
   go_upto_region 5 with fail
   go_cut [] (fun wx=>∃ pv2,n9 B #[.int .i64 num,.int .i64 dep,.int .i64 kd,.string nme] w0 wx db sv2 pv2 ov mb tm (X1++[⟨ns,Ref.Sl.nil,Ref.Sl.nil,Ref.Sl.nil,Ref.Sl.nil⟩]) (SP++[(num,(dep:Int))]) O PT1 nm D)
   case first =>
    refine wp_region_held_drew (S:=(fun W=>W.cell? ⟨B,0,none⟩=some (.int .i64 num)∧W.cell? ⟨B,1,none⟩=some (.int .i64 dep))) (by kernel_rfl) ⟨b0,b1⟩ (fun hHeld => ?_)
    refine tH 0 (.pointer (some ⟨db,0,none⟩)) rfl hHeld ?_
    refine tH 1 (.pointer (some ⟨db,0,none⟩)) rfl hHeld ?_
    refine tH 2 (.pointer (some ⟨db,0,none⟩)) rfl hHeld ?_
    refine tH 3 (.pointer (some ⟨db,1,none⟩)) rfl hHeld ?_
    refine tH 5 (.pointer (some ⟨B,0,none⟩)) rfl hHeld ?_
    refine tH 6 (.agg #[.int .i64 num,.int .i64 dep]) rfl hHeld ?_
    refine yH [4,7] ?_
    refine AllReadyH.cons rfl (fun K hK => ?_) (AllReadyH.cons rfl (fun K hK => ?_) AllReadyH.nil)
    ·skip
     go_simp
     refine hK.out _ _ hHeld (fun hHeld => ?_)
     clear hK K
     refine zH 7 rfl fun K hK => ?_
     go_simp
     refine hK.out _ _ (by (try dsimp only);go_keep) (fun hHeld => ?_)
     clear hK K
     refine zH 8 rfl fun K hK => ?_
     refine step_append_lies _ (by rfl) _ _ _ (by rfl) w0.heap.size 286 i0 _ 2 16 Tryz.underlying227 hi hz0 hz1 hz2 rfl (by decide) (.slice pv.a pv.n pv.c) SP.length (SP.flatMap Pro.gw) (by rfl) (bD hown _) ⟨W3.heap.size,0,none⟩ 1 1 [.int .i64 num,.int .i64 dep] (by rfl) (by rfl) (World.news_of_block (cs:=#[.int .i64 num,.int .i64 dep]) (t:=286) (fr:=(0,0)) (heap_alloc_new W3 _)) (by simp [Value.oneCell']) (by omega) (by unfold maxLen;omega) (by omega) (by simp;omega) (W3.heap.size+1) (by simp) ?_;intro g5 cap5 w5 hown5 hgrow hat hlt5;have hfz5:=((hgrow.frozen_far ⟨db,1,none⟩ (by simp;omega) HND.out).trans ((((Below.refl W3.heap.size W3).alloc (Nat.le_refl _) _).drew).frozen (p:=⟨db,1,none⟩) hdl)).trans f1;have hcc5:=((hgrow.cell_far ⟨db,1,none⟩ (by simp;omega) HND.out).trans ((((Below.refl W3.heap.size W3).alloc (Nat.le_refl _) _).drew).cell (p:=⟨db,1,none⟩) hdl)).trans c1;have k0:=((hgrow.cell_far ⟨B,0,none⟩ (by simp;omega) HNB.out).trans ((((Below.refl W3.heap.size W3).alloc (Nat.le_refl _) _).drew).cell (p:=⟨B,0,none⟩) hbl)).trans b0;have k1:=((hgrow.cell_far ⟨B,1,none⟩ (by simp;omega) HNB.out).trans ((((Below.refl W3.heap.size W3).alloc (Nat.le_refl _) _).drew).cell (p:=⟨B,1,none⟩) hbl)).trans b1
     refine hK.out _ _ ⟨k0,k1⟩ (fun hHeld => ?_)
     clear hK K
     refine tH 9 (.pointer (some ⟨db,0,none⟩)) rfl hHeld ?_
     refine tH 10 (.pointer (some ⟨db,1,none⟩)) rfl hHeld ?_
     refine zH 11 rfl fun K hK => ?_
     go_simp
     refine hK.out _ _ (by (try dsimp only);go_keep) (fun hHeld => ?_)
     clear hK K
     refine wpAnyH_done (by kernel_rfl) ?_ _
     go_wp2_with fail
     go_meet
     case rel =>
      have hbc:Below W3.heap.size W3 ((W3.alloc (.cells #[.int .i64 num,.int .i64 dep] 286)).drew):=((Below.refl _ _).alloc (Nat.le_refl _) _).drew
      refine ⟨⟨some ⟨g5,0,none⟩,SP.length+1,cap5⟩,A3.G.yr (pv':=⟨some ⟨g5,0,none⟩,SP.length+1,cap5⟩) (q:=(num,(dep:Int))) hbc hgrow hown5,?_⟩
      rw [(ae w5 db 1 _).block B hnb2]
      exact eY A3.box hbc (bD hown _) hgrow (by decide)
    ·skip
     go_simp
     refine hK.out _ _ (by (try dsimp only);go_keep) (fun hHeld => ?_)
     clear hK K
     refine zH 4 rfl fun K hK => ?_
     go_simp
     refine hK.out _ _ hHeld (fun hHeld => ?_)
     clear hK K
     refine zH 8 rfl fun K hK => ?_
     refine step_append_lies _ (by rfl) _ _ _ (by rfl) w0.heap.size 286 i0 _ 2 16 Tryz.underlying227 hi hz0 hz1 hz2 rfl (by decide) (.slice pv.a pv.n pv.c) SP.length (SP.flatMap Pro.gw) (by rfl) (bD hown _) ⟨W3.heap.size,0,none⟩ 1 1 [.int .i64 num,.int .i64 dep] (by rfl) (by rfl) (World.news_of_block (cs:=#[.int .i64 num,.int .i64 dep]) (t:=286) (fr:=(0,0)) (heap_alloc_new W3 _)) (by simp [Value.oneCell']) (by omega) (by unfold maxLen;omega) (by omega) (by simp;omega) (W3.heap.size+1) (by simp) ?_;intro g5 cap5 w5 hown5 hgrow hat hlt5;have hfz5:=((hgrow.frozen_far ⟨db,1,none⟩ (by simp;omega) HND.out).trans ((((Below.refl W3.heap.size W3).alloc (Nat.le_refl _) _).drew).frozen (p:=⟨db,1,none⟩) hdl)).trans f1;have hcc5:=((hgrow.cell_far ⟨db,1,none⟩ (by simp;omega) HND.out).trans ((((Below.refl W3.heap.size W3).alloc (Nat.le_refl _) _).drew).cell (p:=⟨db,1,none⟩) hdl)).trans c1;have k0:=((hgrow.cell_far ⟨B,0,none⟩ (by simp;omega) HNB.out).trans ((((Below.refl W3.heap.size W3).alloc (Nat.le_refl _) _).drew).cell (p:=⟨B,0,none⟩) hbl)).trans b0;have k1:=((hgrow.cell_far ⟨B,1,none⟩ (by simp;omega) HNB.out).trans ((((Below.refl W3.heap.size W3).alloc (Nat.le_refl _) _).drew).cell (p:=⟨B,1,none⟩) hbl)).trans b1
     refine hK.out _ _ ⟨k0,k1⟩ (fun hHeld => ?_)
     clear hK K
     refine tH 9 (.pointer (some ⟨db,0,none⟩)) rfl hHeld ?_
     refine tH 10 (.pointer (some ⟨db,1,none⟩)) rfl hHeld ?_
     refine zH 11 rfl fun K hK => ?_
     go_simp
     refine hK.out _ _ (by (try dsimp only);go_keep) (fun hHeld => ?_)
     clear hK K
     refine wpAnyH_done (by kernel_rfl) ?_ _
     go_wp2_with fail
     go_meet
     case rel =>
      have hbc:Below W3.heap.size W3 ((W3.alloc (.cells #[.int .i64 num,.int .i64 dep] 286)).drew):=((Below.refl _ _).alloc (Nat.le_refl _) _).drew
      refine ⟨⟨some ⟨g5,0,none⟩,SP.length+1,cap5⟩,A3.G.yr (pv':=⟨some ⟨g5,0,none⟩,SP.length+1,cap5⟩) (q:=(num,(dep:Int))) hbc hgrow hown5,?_⟩
      rw [(ae w5 db 1 _).block B hnb2]
      exact eY A3.box hbc (bD hown _) hgrow (by decide)
   case rest =>
    obtain ⟨pv2,A4⟩:=hcut
    obtain ⟨W4,hW⟩:∃ y:World,y=wc:=⟨wc,rfl⟩
    subst hW
    clear A3 c0 c1 c2 c3 c4 hi hz0 hz1 hz2 i0 hdl hw0 hbl hown b0 b1 b3 f1 HND HNB hnb hnb2
    obtain ⟨i0,hi,hz0,hz1,hz2⟩:=info_parts Tryz.uQ
    have hdl:=A4.G.dlt
    have hw0:=A4.G.bel.size
    have hbl:B<W4.heap.size:=(Array.getElem?_eq_some_iff.1 A4.box).1
    have hown:=A4.G.opens
    obtain ⟨c0,c1,c2,c3,c4⟩:=A4.G.cells
    have b0:W4.cell? ⟨B,0,none⟩=some (.int .i64 num):=by rw [cell_of_row W4 _ _ _ _ _ A4.box];rfl
    have b1:W4.cell? ⟨B,1,none⟩=some (.int .i64 dep):=by rw [cell_of_row W4 _ _ _ _ _ A4.box];rfl
    have b3:W4.cell? ⟨B,3,none⟩=some (.string nme):=by rw [cell_of_row W4 _ _ _ _ _ A4.box];rfl
    have hnb:¬ db=B:=fun h=>by
     have b1:=A4.box
     rw [← h,A4.G.draft] at b1;simp at b1
    have hnb2:¬ B=db:=fun h=>hnb h.symm
    have HND:Hid (some db≠ov.v.ownBlock):=fun e=>by
     obtain ⟨c,hc⟩:=cW hown _ e.symm
     have hc':=A4.G.draft
     rw [hc] at hc';simp at hc'
    have HNB:Hid (some B≠ov.v.ownBlock):=fun e=>by
     obtain ⟨c,hc⟩:=cW hown _ e.symm
     have hc':=A4.box
     rw [hc] at hc';simp at hc'
    have f2:=A4.G.frozen 2
    go_upto_region 6 with fail
    go_cut [] (fun wx=>∃ ov2,n9 B #[.int .i64 num,.int .i64 dep,.int .i64 kd,.string nme] w0 wx db sv2 pv2 ov2 mb tm (X1++[⟨ns,Ref.Sl.nil,Ref.Sl.nil,Ref.Sl.nil,Ref.Sl.nil⟩]) (SP++[(num,(dep:Int))]) (O.take dep++[X.length]) PT1 nm D)
    case first =>
     have hov:=A4.G.EO
     cases hova:ov.a with
     | none =>
      have hnil:ov.v = .slice none 0 0∧O.length=0:=by
       rcases hown.2 with h | ⟨g,cap,cur,h,_⟩
       ·exact h
       ·simp [Ref.Sl.v,hova] at h
      have hO0:O=[]:=List.length_eq_zero_iff.1 hnil.2
      have hd0:dep=0:=by have:=HD.out;rw [hnil.2] at this;omega
      have hov0:ov=⟨none,0,0⟩:=by
       have h:=hnil.1
       cases ov
       simp [Ref.Sl.v] at h
       simp [h.1,h.2.1,h.2.2]
      subst hO0 hd0 hov0
      clear hnil hov hova
      have b1':W4.cell? ⟨B,1,none⟩=some (.int .i64 0):=by simpa using b1
      have hownN:W4.ownsRow w0.heap.size 3 1 (.slice none 0 0) 0 []:=World.ownsRow_nil _ _ _ _
      refine wp_region_held_drew (S:=(fun W=>W.cell? ⟨B,1,none⟩=some (.int .i64 0))) (by kernel_rfl) b1' (fun hHeld => ?_)
      refine tH 0 (.pointer (some ⟨db,0,none⟩)) rfl hHeld ?_
      refine tH 1 (.pointer (some ⟨db,0,none⟩)) rfl hHeld ?_
      refine tH 2 (.pointer (some ⟨db,0,none⟩)) rfl hHeld ?_
      refine tH 3 (.pointer (some ⟨db,2,none⟩)) rfl hHeld ?_
      refine tH 5 (.pointer (some ⟨B,0,none⟩)) rfl hHeld ?_
      refine tH 6 (.pointer (some ⟨B,1,none⟩)) rfl hHeld ?_
      refine tH 7 (.int .i64 0) rfl hHeld ?_
      refine tH 9 (.int .i64 X.length) rfl hHeld ?_
      refine yH [4,10] ?_
      refine AllReadyH.cons rfl (fun K hK => ?_) (AllReadyH.cons rfl (fun K hK => ?_) AllReadyH.nil)
      ·skip
       go_simp
       refine hK.out _ _ hHeld (fun hHeld => ?_)
       clear hK K
       refine tH 8 (.slice none 0 0) rfl hHeld ?_
       refine zH 10 rfl fun K hK => ?_
       go_simp
       refine hK.out _ _ (by (try dsimp only);go_keep) (fun hHeld => ?_)
       clear hK K
       refine zH 11 rfl fun K hK => ?_
       refine step_append_lies _ (by rfl) _ _ _ (by rfl) w0.heap.size 3 i0 _ 1 8 Tryz.underlying35 hi hz0 hz1 hz2 rfl (by decide) (.slice none 0 0) 0 [] (by rfl) (bD hownN _) ⟨W4.heap.size,0,none⟩ 1 1 [.int .i64 X.length] (by rfl) (by rfl) (World.news_of_block (cs:=#[.int .i64 X.length]) (t:=3) (fr:=(0,0)) (heap_alloc_new W4 _)) (by simp [Value.oneCell']) (by omega) (by unfold maxLen;omega) (by omega) (by simp;omega) (W4.heap.size+1) (by simp) ?_;intro g5 cap5 w5 hown5 hgrow hat hlt5;have hfz5:=((hgrow.frozen_far ⟨db,2,none⟩ (by simp;omega) HND.out).trans ((((Below.refl W4.heap.size W4).alloc (Nat.le_refl _) _).drew).frozen (p:=⟨db,2,none⟩) hdl)).trans f2;have hcc5:=((hgrow.cell_far ⟨db,2,none⟩ (by simp;omega) HND.out).trans ((((Below.refl W4.heap.size W4).alloc (Nat.le_refl _) _).drew).cell (p:=⟨db,2,none⟩) hdl)).trans c2;have k1:=((hgrow.cell_far ⟨B,1,none⟩ (by simp;omega) HNB.out).trans ((((Below.refl W4.heap.size W4).alloc (Nat.le_refl _) _).drew).cell (p:=⟨B,1,none⟩) hbl)).trans b1'
       refine hK.out _ _ k1 (fun hHeld => ?_)
       clear hK K
       refine tH 12 (.pointer (some ⟨db,0,none⟩)) rfl hHeld ?_
       refine tH 13 (.pointer (some ⟨db,2,none⟩)) rfl hHeld ?_
       refine zH 14 rfl fun K hK => ?_
       go_simp
       refine hK.out _ _ (by (try dsimp only);go_keep) (fun hHeld => ?_)
       clear hK K
       refine wpAnyH_done (by kernel_rfl) ?_ _
       go_wp2_with fail
       go_meet
       case rel =>
        have hbc:Below W4.heap.size W4 ((W4.alloc (.cells #[.int .i64 X.length] 3)).drew):=((Below.refl _ _).alloc (Nat.le_refl _) _).drew
        refine ⟨⟨some ⟨g5,0,none⟩,0+1,cap5⟩,A4.G.n7 (ov':=⟨some ⟨g5,0,none⟩,0+1,cap5⟩) (O':=([]:List Nat).take 0++[X.length]) hbc hgrow (by
         rw [List.length_append,List.length_take,Nat.min_eq_left HD.out,List.flatMap_append];exact hown5) (by
         rcases hat with h | h
         ·exact .inl h.symm
         ·exact .inr (by rw [h];simp [Ref.Sl.v,Value.ownBlock])),?_⟩
        rw [(ae w5 db 2 _).block B hnb2]
        exact eY A4.box hbc (bD hownN _) hgrow (by decide)
      ·skip
       go_simp
       refine hK.out _ _ (by (try dsimp only);go_keep) (fun hHeld => ?_)
       clear hK K
       refine zH 4 rfl fun K hK => ?_
       go_simp
       refine hK.out _ _ hHeld (fun hHeld => ?_)
       clear hK K
       refine tH 8 (.slice none 0 0) rfl hHeld ?_
       refine zH 11 rfl fun K hK => ?_
       refine step_append_lies _ (by rfl) _ _ _ (by rfl) w0.heap.size 3 i0 _ 1 8 Tryz.underlying35 hi hz0 hz1 hz2 rfl (by decide) (.slice none 0 0) 0 [] (by rfl) (bD hownN _) ⟨W4.heap.size,0,none⟩ 1 1 [.int .i64 X.length] (by rfl) (by rfl) (World.news_of_block (cs:=#[.int .i64 X.length]) (t:=3) (fr:=(0,0)) (heap_alloc_new W4 _)) (by simp [Value.oneCell']) (by omega) (by unfold maxLen;omega) (by omega) (by simp;omega) (W4.heap.size+1) (by simp) ?_;intro g5 cap5 w5 hown5 hgrow hat hlt5;have hfz5:=((hgrow.frozen_far ⟨db,2,none⟩ (by simp;omega) HND.out).trans ((((Below.refl W4.heap.size W4).alloc (Nat.le_refl _) _).drew).frozen (p:=⟨db,2,none⟩) hdl)).trans f2;have hcc5:=((hgrow.cell_far ⟨db,2,none⟩ (by simp;omega) HND.out).trans ((((Below.refl W4.heap.size W4).alloc (Nat.le_refl _) _).drew).cell (p:=⟨db,2,none⟩) hdl)).trans c2;have k1:=((hgrow.cell_far ⟨B,1,none⟩ (by simp;omega) HNB.out).trans ((((Below.refl W4.heap.size W4).alloc (Nat.le_refl _) _).drew).cell (p:=⟨B,1,none⟩) hbl)).trans b1'
       refine hK.out _ _ k1 (fun hHeld => ?_)
       clear hK K
       refine tH 12 (.pointer (some ⟨db,0,none⟩)) rfl hHeld ?_
       refine tH 13 (.pointer (some ⟨db,2,none⟩)) rfl hHeld ?_
       refine zH 14 rfl fun K hK => ?_
       go_simp
       refine hK.out _ _ (by (try dsimp only);go_keep) (fun hHeld => ?_)
       clear hK K
       refine wpAnyH_done (by kernel_rfl) ?_ _
       go_wp2_with fail
       go_meet
       case rel =>
        have hbc:Below W4.heap.size W4 ((W4.alloc (.cells #[.int .i64 X.length] 3)).drew):=((Below.refl _ _).alloc (Nat.le_refl _) _).drew
        refine ⟨⟨some ⟨g5,0,none⟩,0+1,cap5⟩,A4.G.n7 (ov':=⟨some ⟨g5,0,none⟩,0+1,cap5⟩) (O':=([]:List Nat).take 0++[X.length]) hbc hgrow (by
         rw [List.length_append,List.length_take,Nat.min_eq_left HD.out,List.flatMap_append];exact hown5) (by
         rcases hat with h | h
         ·exact .inl h.symm
         ·exact .inr (by rw [h];simp [Ref.Sl.v,Value.ownBlock])),?_⟩
        rw [(ae w5 db 2 _).block B hnb2]
        exact eY A4.box hbc (bD hownN _) hgrow (by decide)
     | some oa =>
      obtain ⟨go,oc,hov1⟩:∃ go oc,ov=⟨some ⟨go,0,none⟩,O.length,oc⟩:=by
       rcases hown.2 with ⟨h,_⟩ | ⟨g,cap,cur,h,_⟩
       ·simp [Ref.Sl.v,hova] at h
       ·refine ⟨g,cap,?_⟩
        cases ov
        simp [Ref.Sl.v] at h
        simp [h.1,h.2.1,h.2.2]
      subst hov1
      have hcapO:O.length≤oc:=by
       rcases hown.2 with ⟨h,_⟩ | ⟨g,cap,cur,h,_,_,hle,_⟩
       ·cases h
       ·simp [Ref.Sl.v] at h;rw [h.2];exact hle
      have hdle:=HD.out
      have hdc:¬ oc<dep:=by omega
      have hownT:=Aj hown hdle
      rw [zI] at hownT
      refine wp_region_held_drew (S:=(fun W=>W.cell? ⟨B,1,none⟩=some (.int .i64 dep))) (by kernel_rfl) b1 (fun hHeld => ?_)
      refine tH 0 (.pointer (some ⟨db,0,none⟩)) rfl hHeld ?_
      refine tH 1 (.pointer (some ⟨db,0,none⟩)) rfl hHeld ?_
      refine tH 2 (.pointer (some ⟨db,0,none⟩)) rfl hHeld ?_
      refine tH 3 (.pointer (some ⟨db,2,none⟩)) rfl hHeld ?_
      refine tH 5 (.pointer (some ⟨B,0,none⟩)) rfl hHeld ?_
      refine tH 6 (.pointer (some ⟨B,1,none⟩)) rfl hHeld ?_
      refine tH 7 (.int .i64 dep) rfl hHeld ?_
      refine tH 9 (.int .i64 X.length) rfl hHeld ?_
      refine yH [4,10] ?_
      refine AllReadyH.cons rfl (fun K hK => ?_) (AllReadyH.cons rfl (fun K hK => ?_) AllReadyH.nil)
      ·skip
       go_simp
       refine hK.out _ _ hHeld (fun hHeld => ?_)
       clear hK K
       refine tH 8 (.slice (some ⟨go,0,none⟩) dep oc) rfl hHeld ?_
       refine zH 10 rfl fun K hK => ?_
       go_simp
       refine hK.out _ _ (by (try dsimp only);go_keep) (fun hHeld => ?_)
       clear hK K
       refine zH 11 rfl fun K hK => ?_
       refine step_append_lies _ (by rfl) _ _ _ (by rfl) w0.heap.size 3 i0 _ 1 8 Tryz.underlying35 hi hz0 hz1 hz2 rfl (by decide) (.slice (some ⟨go,0,none⟩) dep oc) dep ((O.take dep).flatMap dK) (by rfl) (bD hownT _) ⟨W4.heap.size,0,none⟩ 1 1 [.int .i64 X.length] (by rfl) (by rfl) (World.news_of_block (cs:=#[.int .i64 X.length]) (t:=3) (fr:=(0,0)) (heap_alloc_new W4 _)) (by simp [Value.oneCell']) (by omega) (by unfold maxLen;omega) (by omega) (by simp;omega) (W4.heap.size+1) (by simp) ?_;intro g5 cap5 w5 hown5 hgrow hat hlt5;have hfz5:=((hgrow.frozen_far ⟨db,2,none⟩ (by simp;omega) HND.out).trans ((((Below.refl W4.heap.size W4).alloc (Nat.le_refl _) _).drew).frozen (p:=⟨db,2,none⟩) hdl)).trans f2;have hcc5:=((hgrow.cell_far ⟨db,2,none⟩ (by simp;omega) HND.out).trans ((((Below.refl W4.heap.size W4).alloc (Nat.le_refl _) _).drew).cell (p:=⟨db,2,none⟩) hdl)).trans c2;have k1:=((hgrow.cell_far ⟨B,1,none⟩ (by simp;omega) HNB.out).trans ((((Below.refl W4.heap.size W4).alloc (Nat.le_refl _) _).drew).cell (p:=⟨B,1,none⟩) hbl)).trans b1
       refine hK.out _ _ k1 (fun hHeld => ?_)
       clear hK K
       refine tH 12 (.pointer (some ⟨db,0,none⟩)) rfl hHeld ?_
       refine tH 13 (.pointer (some ⟨db,2,none⟩)) rfl hHeld ?_
       refine zH 14 rfl fun K hK => ?_
       go_simp
       refine hK.out _ _ (by (try dsimp only);go_keep) (fun hHeld => ?_)
       clear hK K
       refine wpAnyH_done (by kernel_rfl) ?_ _
       go_wp2_with fail
       go_meet
       case rel =>
        have hbc:Below W4.heap.size W4 ((W4.alloc (.cells #[.int .i64 X.length] 3)).drew):=((Below.refl _ _).alloc (Nat.le_refl _) _).drew
        refine ⟨⟨some ⟨g5,0,none⟩,dep+1,cap5⟩,A4.G.n7 (ov':=⟨some ⟨g5,0,none⟩,dep+1,cap5⟩) (O':=O.take dep++[X.length]) hbc hgrow (by
         rw [List.length_append,List.length_take,Nat.min_eq_left HD.out,List.flatMap_append];exact hown5) (by
         rcases hat with h | h
         ·exact .inl h.symm
         ·exact .inr (by rw [h];simp [Ref.Sl.v,Value.ownBlock])),?_⟩
        rw [(ae w5 db 2 _).block B hnb2]
        exact eY A4.box hbc (bD hownT _) hgrow (by decide)
      ·skip
       go_simp
       refine hK.out _ _ (by (try dsimp only);go_keep) (fun hHeld => ?_)
       clear hK K
       refine zH 4 rfl fun K hK => ?_
       go_simp
       refine hK.out _ _ hHeld (fun hHeld => ?_)
       clear hK K
       refine tH 8 (.slice (some ⟨go,0,none⟩) dep oc) rfl hHeld ?_
       refine zH 11 rfl fun K hK => ?_
       refine step_append_lies _ (by rfl) _ _ _ (by rfl) w0.heap.size 3 i0 _ 1 8 Tryz.underlying35 hi hz0 hz1 hz2 rfl (by decide) (.slice (some ⟨go,0,none⟩) dep oc) dep ((O.take dep).flatMap dK) (by rfl) (bD hownT _) ⟨W4.heap.size,0,none⟩ 1 1 [.int .i64 X.length] (by rfl) (by rfl) (World.news_of_block (cs:=#[.int .i64 X.length]) (t:=3) (fr:=(0,0)) (heap_alloc_new W4 _)) (by simp [Value.oneCell']) (by omega) (by unfold maxLen;omega) (by omega) (by simp;omega) (W4.heap.size+1) (by simp) ?_;intro g5 cap5 w5 hown5 hgrow hat hlt5;have hfz5:=((hgrow.frozen_far ⟨db,2,none⟩ (by simp;omega) HND.out).trans ((((Below.refl W4.heap.size W4).alloc (Nat.le_refl _) _).drew).frozen (p:=⟨db,2,none⟩) hdl)).trans f2;have hcc5:=((hgrow.cell_far ⟨db,2,none⟩ (by simp;omega) HND.out).trans ((((Below.refl W4.heap.size W4).alloc (Nat.le_refl _) _).drew).cell (p:=⟨db,2,none⟩) hdl)).trans c2;have k1:=((hgrow.cell_far ⟨B,1,none⟩ (by simp;omega) HNB.out).trans ((((Below.refl W4.heap.size W4).alloc (Nat.le_refl _) _).drew).cell (p:=⟨B,1,none⟩) hbl)).trans b1
       refine hK.out _ _ k1 (fun hHeld => ?_)
       clear hK K
       refine tH 12 (.pointer (some ⟨db,0,none⟩)) rfl hHeld ?_
       refine tH 13 (.pointer (some ⟨db,2,none⟩)) rfl hHeld ?_
       refine zH 14 rfl fun K hK => ?_
       go_simp
       refine hK.out _ _ (by (try dsimp only);go_keep) (fun hHeld => ?_)
       clear hK K
       refine wpAnyH_done (by kernel_rfl) ?_ _
       go_wp2_with fail
       go_meet
       case rel =>
        have hbc:Below W4.heap.size W4 ((W4.alloc (.cells #[.int .i64 X.length] 3)).drew):=((Below.refl _ _).alloc (Nat.le_refl _) _).drew
        refine ⟨⟨some ⟨g5,0,none⟩,dep+1,cap5⟩,A4.G.n7 (ov':=⟨some ⟨g5,0,none⟩,dep+1,cap5⟩) (O':=O.take dep++[X.length]) hbc hgrow (by
         rw [List.length_append,List.length_take,Nat.min_eq_left HD.out,List.flatMap_append];exact hown5) (by
         rcases hat with h | h
         ·exact .inl h.symm
         ·exact .inr (by rw [h];simp [Ref.Sl.v,Value.ownBlock])),?_⟩
        rw [(ae w5 db 2 _).block B hnb2]
        exact eY A4.box hbc (bD hownT _) hgrow (by decide)
    case rest =>
     obtain ⟨ov2,A5⟩:=hcut
     obtain ⟨W5,hW⟩:∃ y:World,y=wc:=⟨wc,rfl⟩
     subst hW
     clear A4 c0 c1 c2 c3 c4 hi hz0 hz1 hz2 i0 hdl hw0 hbl hown b0 b1 b3 f2 HND HNB hnb hnb2
     have hdl:=A5.G.dlt
     have hbl:B<W5.heap.size:=(Array.getElem?_eq_some_iff.1 A5.box).1
     obtain ⟨c0,c1,c2,c3,c4⟩:=A5.G.cells
     have b0:W5.cell? ⟨B,0,none⟩=some (.int .i64 num):=by rw [cell_of_row W5 _ _ _ _ _ A5.box];rfl
     have b3:W5.cell? ⟨B,3,none⟩=some (.string nme):=by rw [cell_of_row W5 _ _ _ _ _ A5.box];rfl
     have law:Go.Maps.Keyed Tryz.prog 9:=Go.Maps.string_keyed Tryz.underlying9
     have zeroE:∀ w:World,(zeroValue 3).run Tryz.prog w = .ok (.int .i64 0) w:=fun w=>by kernel_rfl
     have hkey:keyOf Tryz.prog 9 (.string nme)=some (.string nme.data.toList):=Go.WideMaps.keyOf_string_mk Tryz.underlying9 (by unfold maxLen;omega)
     have hmap:=A5.G.map
     have hmapd:iI W5.drew mb nm D:=bn (e:=0) hmap (bO (Below.refl _ _).drew)
     have hmapd2:iI W5.drew.drew mb nm D:=bn (e:=0) hmapd (bO (Below.refl _ _).drew)
     have HFin:Hid (∀ w' D',al w0 w' db sv2 pv2 ov2 mb tm (X1++[⟨ns,Ref.Sl.nil,Ref.Sl.nil,Ref.Sl.nil,Ref.Sl.nil⟩]) (SP++[(num,(dep:Int))]) (O.take dep++[X.length]) PT1 (nm+1) D'→∃ sv' pv' ov' X',X'.map (·.s)=X.map (·.s)++[ns]∧al w0 w' db sv' pv' ov' mb tm X' (SP++[(num,(dep:Int))]) (O.take dep++[X.length]) (fun i=>if (i:Int)=ow then PT i++[X.length] else PT i) (nm+1) D'):=by
      intro w' D' h
      refine ⟨sv2,pv2,ov2,X1++[⟨ns,Ref.Sl.nil,Ref.Sl.nil,Ref.Sl.nil,Ref.Sl.nil⟩],?_,?_⟩
      ·rw [List.map_append,HX1.out];rfl
      ·rw [← HPd.out];exact h
     go_upto_region 7 with fail
     obtain ⟨vv,ps,hrun,hvv⟩:=hmapd.look_ok law Tryz.underlying228 (zeroE _) (plainElem_int Tryz.underlying3 (by decide)) hkey
     obtain ⟨cc,rfl,_,_⟩:=plainElem_int_inv Tryz.underlying3 hvv
     clear hvv
     refine wp_region_held_drew (S:=(fun W=>W.cell? ⟨db,3,none⟩=some (.map (some mb))∧W.cell? ⟨B,3,none⟩=some (.string nme))) (by kernel_rfl) ⟨c3,b3⟩ (fun hHeld => ?_)
     refine tH 0 (.pointer (some ⟨db,0,none⟩)) rfl hHeld ?_
     refine tH 1 (.pointer (some ⟨db,0,none⟩)) rfl hHeld ?_
     refine tH 2 (.pointer (some ⟨db,3,none⟩)) rfl hHeld ?_
     refine tH 3 (.map (some mb)) rfl hHeld ?_
     refine tH 4 (.pointer (some ⟨B,3,none⟩)) rfl hHeld ?_
     refine tH 5 (.string nme) rfl hHeld ?_
     refine zH 6 rfl fun K hK => ?_
     go_simp
     refine hK.out _ _ hHeld (fun hHeld => ?_)
     clear hK K
     refine tH 7 (.tuple #[.int .i64 cc,.bool (Go.Maps.has D (.string nme.data.toList))]) rfl hHeld ?_
     refine tH 8 (.int .i64 cc) rfl hHeld ?_
     refine tH 9 (.bool (Go.Maps.has D (.string nme.data.toList))) rfl hHeld ?_
     refine tH 10 (.int .i64 cc) rfl hHeld ?_
     refine tH 11 (.bool (Go.Maps.has D (.string nme.data.toList))) rfl hHeld ?_
     refine wpAnyH_done (by kernel_rfl) ?_ _
     clear hrun
     cases hh:Go.Maps.has D (.string nme.data.toList)
     case true =>
      go_wp2
      go_end0
      refine ⟨rfl,?_⟩
      have G6:=A5.G.ay (w':=W5.drew) (Below.refl _ _).drew
      exact HFin.out _ _ { G6 with map:=G6.map.mono (by omega) }
     case false =>
      go_upto_region 9 with fail
      refine dS 9 (by kernel_rfl) (by kernel_rfl) ?_
      simp only [List.take_succ_cons,List.take_zero,List.drop_succ_cons,List.drop_zero]
      repeat still_step
      refine wpStill_nil ?_
      refine wpList_mapUpdate_own _ rfl _ _ _ 228 rfl 9 3 law Tryz.underlying228 _ mb nm _ rfl hmapd2 (by unfold maxLen;omega) _ _ _ rfl rfl hkey _ [] (plainElem_int Tryz.underlying3 hnum) ?_
      intro w6 hown6 hgrow6
      go_wp2
      go_end0
      refine ⟨rfl,?_⟩
      exact HFin.out _ _ (A5.G.Dm (Below.refl _ _).drew.drew hgrow6 hown6)
end
end Go.Proofs.YtegmoddppafkfaaGreatDoor
