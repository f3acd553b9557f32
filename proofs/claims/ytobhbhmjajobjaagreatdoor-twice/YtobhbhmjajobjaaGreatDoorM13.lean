import Derived.Test.YtobhbhmjajobjaaGreatDoorM12
import Derived.Deep.RegionHeldLaw
set_option maxRecDepth 100000
set_option maxHeartbeats 8000000
namespace Go.Proofs.YtobhbhmjajobjaaGreatDoor
variable {zp:Prop}
theorem zfu (h:zp:=by
 go_simp;refine hK _ _ ?_;clear hK K;refine zA 6 rfl fun K hK => ?_
 ·go_simp;refine hK _ _ ?_;clear hK K;refine zA 7 rfl fun K hK => ?_
  ·go_simp;refine HC.out.mono ?_;rintro e w4 h4;unfold aA at h4;rw [MB hh] at h4;obtain ⟨hb,b,h5,h6,rfl⟩:=h4;dsimp only;exact ⟨rfl,hb1.trans (hb.mono hb1.size),b,Mv hb1.size h5,h6,rfl⟩):zp:=h
theorem zfv (h:zp:=by
 go_simp;refine hK _ _ ?_;clear hK K;refine zA 6 rfl fun K hK => ?_
 ·go_simp;refine hK _ _ ?_;clear hK K;refine zA 7 rfl fun K hK => ?_
  ·go_simp;refine (aR num dep _ G1 h hd).mono ?_;rintro e w4 ⟨hb,b,h5,h6,rfl⟩;dsimp only;exact ⟨rfl,hb1.trans (hb.mono hb1.size),b,Mv hb1.size h5,h6,rfl⟩):zp:=h
theorem zfy (h:zp:=by
 go_simp;refine hK _ _ ?_;clear hK K;refine zA 7 rfl fun K hK => ?_
 ·go_simp;refine HC.out.mono ?_;rintro e w4 h4;unfold aA at h4;rw [MB hh] at h4;obtain ⟨hb,b,h5,h6,rfl⟩:=h4;dsimp only;exact ⟨rfl,hb1.trans (hb.mono hb1.size),b,Mv hb1.size h5,h6,rfl⟩):zp:=h
theorem zfz (h:zp:=by
 go_simp;refine hK _ _ ?_;clear hK K;refine zA 7 rfl fun K hK => ?_
 ·go_simp;refine (aR num dep _ G1 h hd).mono ?_;rintro e w4 ⟨hb,b,h5,h6,rfl⟩;dsimp only;exact ⟨rfl,hb1.trans (hb.mono hb1.size),b,Mv hb1.size h5,h6,rfl⟩):zp:=h
theorem zfA (h:zp:=by
 rintro e w5 ⟨hb,b,h5,h6,rfl⟩;dsimp only;exact ⟨rfl,(hb1.trans (hb4.mono hb1.size)).trans (hb.mono (Mv hb1.size hb4.size)),b,Mv (Mv hb1.size hb4.size) h5,h6,rfl⟩):zp:=h
theorem zfB (h:zp:=by
 rintro e w5 ⟨rfl,hb5⟩;have G5:=HG.out w4 w5 hb4 hb5;dsimp only;refine hK _ _ ?_;clear hK K;refine NY zab ?_ _;go_wp2;go_end0;exact ⟨rfl,G5⟩):zp:=h
theorem zcu (h:zp:=by
 clear hK K;refine zH 15 rfl fun K hK => ?_;refine step_append_lies _ zae _ _ _ zae w0.heap.size 172 i0 _ 8 136 underlying151 hi hz0 hz1 hz2 rfl zac (.slice sv1.a sv1.n sv1.c) X1.length (X1.flatMap Pro.aO) zae (bV hown _) ⟨W2,0,none⟩ 1 1 [(kd:Int),nme,(dep:Int),(ow:Int),.slice none 0 0,.slice none 0 0,.slice none 0 0,.slice none 0 0] zae zae (World.news_of_block (cs:=#[(kd:Int),nme,(dep:Int),(ow:Int),.slice none 0 0,.slice none 0 0,.slice none 0 0,.slice none 0 0]) (t:=172) (fr:=(0,0)) (MD W2 _)) zap zaa zag zaa zaf (W2.heap.size+1) zad ?_;intro g5 cap5 w5 hown5 hgrow hat hlt5;have hfz5:=((hgrow.frozen_far ⟨db,0,none⟩ zaf HND.out).trans ((((Mw W2 W2).alloc (Mt _) _).drew).frozen (p:=⟨db,0,none⟩) hdl)).trans f0;have hcc5:=((hgrow.cell_far ⟨db,0,none⟩ zaf HND.out).trans ((((Mw W2 W2).alloc (Mt _) _).drew).cell (p:=⟨db,0,none⟩) hdl)).trans c0;have k1:=((hgrow.cell_far ⟨B,1,none⟩ zaf HNB.out).trans ((((Mw W2 W2).alloc (Mt _) _).drew).cell (p:=⟨B,1,none⟩) hbl)).trans b1;have k2:=((hgrow.cell_far ⟨B,2,none⟩ zaf HNB.out).trans ((((Mw W2 W2).alloc (Mt _) _).drew).cell (p:=⟨B,2,none⟩) hbl)).trans b2;have k3:=((hgrow.cell_far ⟨B,3,none⟩ zaf HNB.out).trans ((((Mw W2 W2).alloc (Mt _) _).drew).cell (p:=⟨B,3,none⟩) hbl)).trans b3;refine hK.out _ _ ⟨k1,k2,k3⟩ (fun u0 => ?_);clear hK K;refine tH 16 db rfl u0 ?_;refine tH 17 db rfl u0 ?_;refine zH 18 rfl fun K hK => ?_;go_simp;refine hK.out _ _ zal (fun u0 => ?_);clear hK K;refine MY zab ?_ _;go_wp2_with fail;go_meet
 case rel =>
  have hbc:Below W2 W2 ((W2.alloc (.cells #[(kd:Int),nme,(dep:Int),(ow:Int),.slice none 0 0,.slice none 0 0,.slice none 0 0,.slice none 0 0] 172)).drew):=((Mw _ _).alloc (Mt _) _).drew;rw [<- HDS.out] at hown5;refine ⟨⟨some ⟨g5,0,none⟩,X1.length+1,cap5⟩,A2.G.xW (sv':=⟨some ⟨g5,0,none⟩,X1.length+1,cap5⟩) hbc hgrow hown5 rfl rfl rfl rfl HE.out.2.2.2.2.2.1 HE.out.2.2.2.2.2.2 HE.out.2.2.2.2.1 HPT1.out,?_⟩;rw [(aa w5 db 0 _).block B (fun h=>by
   have b1:=A2.box;have hc':=A2.G.draft;rw [h,hc'] at b1;simp at b1)]
  exact fT A2.box hbc (bV hown _) hgrow zac):zp:=h
theorem zcv (h:zp:=by
 clear hK K;refine zH 8 rfl fun K hK => ?_;refine step_append_lies _ zae _ _ _ zae w0.heap.size 224 i0 _ 2 16 underlying152 hi hz0 hz1 hz2 rfl zac (.slice pv.a pv.n pv.c) SP.length (SP.flatMap Pro.iD) zae (bV hown _) ⟨W3,0,none⟩ 1 1 [(num:Int),(dep:Int)] zae zae (World.news_of_block (cs:=#[(num:Int),(dep:Int)]) (t:=224) (fr:=(0,0)) (MD W3 _)) zap zaa zag zaa zaf (W3.heap.size+1) zad ?_;intro g5 cap5 w5 hown5 hgrow hat hlt5;have hfz5:=((hgrow.frozen_far ⟨db,1,none⟩ zaf HND.out).trans ((((Mw W3 W3).alloc (Mt _) _).drew).frozen (p:=⟨db,1,none⟩) hdl)).trans f1;have hcc5:=((hgrow.cell_far ⟨db,1,none⟩ zaf HND.out).trans ((((Mw W3 W3).alloc (Mt _) _).drew).cell (p:=⟨db,1,none⟩) hdl)).trans c1;have k0:=((hgrow.cell_far ⟨B,0,none⟩ zaf HNB.out).trans ((((Mw W3 W3).alloc (Mt _) _).drew).cell (p:=⟨B,0,none⟩) hbl)).trans b0;have k1:=((hgrow.cell_far ⟨B,1,none⟩ zaf HNB.out).trans ((((Mw W3 W3).alloc (Mt _) _).drew).cell (p:=⟨B,1,none⟩) hbl)).trans b1;refine hK.out _ _ ⟨k0,k1⟩ (fun u0 => ?_);clear hK K;refine tH 9 db rfl u0 ?_;refine tH 10 (.pointer (some ⟨db,1,none⟩)) rfl u0 ?_;refine zH 11 rfl fun K hK => ?_;go_simp;refine hK.out _ _ zal (fun u0 => ?_);clear hK K;refine MY zab ?_ _;go_wp2_with fail;go_meet
 case rel =>
  have hbc:Below W3 W3 ((W3.alloc (.cells #[(num:Int),(dep:Int)] 224)).drew):=((Mw _ _).alloc (Mt _) _).drew;refine ⟨⟨some ⟨g5,0,none⟩,SP.length+1,cap5⟩,A3.G.Cy (pv':=⟨some ⟨g5,0,none⟩,SP.length+1,cap5⟩) (q:=(num,(dep:Int))) hbc hgrow hown5,?_⟩;rw [(aa w5 db 1 _).block B hnb2];exact fT A3.box hbc (bV hown _) hgrow zac):zp:=h
theorem zcw (h:zp:=by
 refine zH 11 rfl fun K hK => ?_;refine step_append_lies _ zae _ _ _ zae w0.heap.size 3 i0 _ 1 8 underlying23 hi hz0 hz1 hz2 rfl zac (.slice go dep oc) dep ((O.take dep).flatMap eo) zae (bV hownT _) ⟨W4,0,none⟩ 1 1 [(X.length:Int)] zae zae (World.news_of_block (cs:=#[(X.length:Int)]) (t:=3) (fr:=(0,0)) (MD W4 _)) zap zaa zag zaa zaf (W4.heap.size+1) zad ?_;intro g5 cap5 w5 hown5 hgrow hat hlt5;have hfz5:=((hgrow.frozen_far ⟨db,2,none⟩ zaf HND.out).trans ((((Mw W4 W4).alloc (Mt _) _).drew).frozen (p:=⟨db,2,none⟩) hdl)).trans f2;have hcc5:=((hgrow.cell_far ⟨db,2,none⟩ zaf HND.out).trans ((((Mw W4 W4).alloc (Mt _) _).drew).cell (p:=⟨db,2,none⟩) hdl)).trans c2;have k1:=((hgrow.cell_far ⟨B,1,none⟩ zaf HNB.out).trans ((((Mw W4 W4).alloc (Mt _) _).drew).cell (p:=⟨B,1,none⟩) hbl)).trans b1;refine hK.out _ _ k1 (fun u0 => ?_);clear hK K;refine tH 12 db rfl u0 ?_;refine tH 13 (.pointer (some ⟨db,2,none⟩)) rfl u0 ?_;refine zH 14 rfl fun K hK => ?_;go_simp;refine hK.out _ _ zal (fun u0 => ?_);clear hK K;refine MY zab ?_ _;go_wp2_with fail;go_meet
 case rel =>
  have hbc:Below W4 W4 ((W4.alloc (.cells #[(X.length:Int)] 3)).drew):=((Mw _ _).alloc (Mt _) _).drew;refine ⟨⟨some ⟨g5,0,none⟩,dep+1,cap5⟩,A4.G.qC (ov':=⟨some ⟨g5,0,none⟩,dep+1,cap5⟩) (O':=O.take dep++[X.length]) hbc hgrow (by
   rw [MN,NP,QO HD.out,Nr];exact hown5) (by
   rcases hat with h | h
   ·exact .inl h.symm
   ·exact .inr zax),?_⟩
  rw [(aa w5 db 2 _).block B hnb2];exact fT A4.box hbc (bV hownT _) hgrow zac):zp:=h
theorem zcx (h:zp:=by
 refine zH 11 rfl fun K hK => ?_;refine step_append_lies _ zae _ _ _ zae w0.heap.size 3 i0 _ 1 8 underlying23 hi hz0 hz1 hz2 rfl zac (.slice none 0 0) 0 [] zae (bV hownN _) ⟨W4,0,none⟩ 1 1 [(X.length:Int)] zae zae (World.news_of_block (cs:=#[(X.length:Int)]) (t:=3) (fr:=(0,0)) (MD W4 _)) zap zaa zag zaa zaf (W4.heap.size+1) zad ?_;intro g5 cap5 w5 hown5 hgrow hat hlt5;have hfz5:=((hgrow.frozen_far ⟨db,2,none⟩ zaf HND.out).trans ((((Mw W4 W4).alloc (Mt _) _).drew).frozen (p:=⟨db,2,none⟩) hdl)).trans f2;have hcc5:=((hgrow.cell_far ⟨db,2,none⟩ zaf HND.out).trans ((((Mw W4 W4).alloc (Mt _) _).drew).cell (p:=⟨db,2,none⟩) hdl)).trans c2;have k1:=((hgrow.cell_far ⟨B,1,none⟩ zaf HNB.out).trans ((((Mw W4 W4).alloc (Mt _) _).drew).cell (p:=⟨B,1,none⟩) hbl)).trans b1';refine hK.out _ _ k1 (fun u0 => ?_);clear hK K;refine tH 12 db rfl u0 ?_;refine tH 13 (.pointer (some ⟨db,2,none⟩)) rfl u0 ?_;refine zH 14 rfl fun K hK => ?_;go_simp;refine hK.out _ _ zal (fun u0 => ?_);clear hK K;refine MY zab ?_ _;go_wp2_with fail;go_meet
 case rel =>
  have hbc:Below W4 W4 ((W4.alloc (.cells #[(X.length:Int)] 3)).drew):=((Mw _ _).alloc (Mt _) _).drew;refine ⟨⟨some ⟨g5,0,none⟩,0+1,cap5⟩,A4.G.qC (ov':=⟨some ⟨g5,0,none⟩,0+1,cap5⟩) (O':=([]:List Nat).take 0++[X.length]) hbc hgrow (by
   rw [MN,NP,QO HD.out,Nr];exact hown5) (by
   rcases hat with h | h
   ·exact .inl h.symm
   ·exact .inr zax),?_⟩
  rw [(aa w5 db 2 _).block B hnb2];exact fT A4.box hbc (bV hownN _) hgrow zac):zp:=h
theorem zcy (h:zp:=by
 go_simp;refine hK _ _ ?_;clear hK K;refine yA [1,7] ?_;refine MA rfl (fun K hK => ?_) (MA rfl (fun K hK => ?_) MX)
 ·go_simp;refine hK _ _ ?_;clear hK K;refine zA 7 rfl fun K hK => ?_
  ·go_simp;refine HC.out.mono ?_;rintro e w4 h4;unfold aA at h4;rw [Mz hh] at h4;obtain ⟨rfl,hb4⟩:=h4;obtain ⟨cx,fx,q0,q1,q2⟩:=HF.out w4 hb4;dsimp only;refine hK _ _ ?_;clear hK K;refine tA 8 (.pointer (some ⟨g,u*8,none⟩)) rfl ?_;refine tA 9 (.pointer (some ⟨g,u*8+5,none⟩)) rfl ?_;refine zA 10 rfl fun K hK => ?_;go_simp;refine (bG num dep a n c g (u*8+5) _ _ _ cx h2).mono ?_;exact zfA
 ·go_simp;refine HC.out.mono ?_;rintro e w4 h4;unfold aA at h4;rw [Mz hh] at h4;obtain ⟨rfl,hb4⟩:=h4;obtain ⟨cx,fx,q0,q1,q2⟩:=HF.out w4 hb4;dsimp only;refine hK _ _ ?_;clear hK K;refine tA 8 (.pointer (some ⟨g,u*8,none⟩)) rfl ?_;refine tA 9 (.pointer (some ⟨g,u*8+5,none⟩)) rfl ?_;refine zA 1 rfl fun K hK => ?_;go_simp;refine hK _ _ ?_;clear hK K;refine zA 10 rfl fun K hK => ?_;go_simp;refine (bG num dep a n c g (u*8+5) _ _ _ cx h2).mono ?_;rintro e w5 ⟨hb,b,h5,h6,rfl⟩;dsimp only;exact ⟨rfl,(hb1.trans (hb4.mono hb1.size)).trans (hb.mono (Mv hb1.size hb4.size)),b,Mv (Mv hb1.size hb4.size) h5,h6,rfl⟩):zp:=h
theorem zcA (h:zp:=by
 go_simp;refine hK _ _ ?_;clear hK K;refine yA [1,7] ?_;refine MA rfl (fun K hK => ?_) (MA rfl (fun K hK => ?_) MX)
 ·go_simp;refine hK _ _ ?_;clear hK K;refine zA 7 rfl fun K hK => ?_
  ·go_simp;refine HC.out.mono ?_;rintro e w4 h4;unfold aA at h4;rw [Mz hh] at h4;obtain ⟨rfl,hb4⟩:=h4;obtain ⟨cx,fx,q0,q1,q2⟩:=HF.out w4 hb4;dsimp only;refine hK _ _ ?_;clear hK K;refine tA 8 (.pointer (some ⟨g,u*8,none⟩)) rfl ?_;refine tA 9 (.pointer (some ⟨g,u*8+5,none⟩)) rfl ?_;refine zA 10 rfl fun K hK => ?_;go_simp;refine (bs num dep a n c g (u*8+5) _ _ cx fx).mono ?_;exact zfB
 ·go_simp;refine HC.out.mono ?_;rintro e w4 h4;unfold aA at h4;rw [Mz hh] at h4;obtain ⟨rfl,hb4⟩:=h4;obtain ⟨cx,fx,q0,q1,q2⟩:=HF.out w4 hb4;dsimp only;refine hK _ _ ?_;clear hK K;refine tA 8 (.pointer (some ⟨g,u*8,none⟩)) rfl ?_;refine tA 9 (.pointer (some ⟨g,u*8+5,none⟩)) rfl ?_;refine zA 1 rfl fun K hK => ?_;go_simp;refine hK _ _ ?_;clear hK K;refine zA 10 rfl fun K hK => ?_;go_simp;refine (bs num dep a n c g (u*8+5) _ _ cx fx).mono ?_;rintro e w5 ⟨rfl,hb5⟩;have G5:=HG.out w4 w5 hb4 hb5;dsimp only;refine hK _ _ ?_;clear hK K;refine NY zab ?_ _;go_wp2;go_end0;exact ⟨rfl,G5⟩):zp:=h
theorem zcD (h:zp:=by
 go_simp;refine hK _ _ ?_;clear hK K;refine yA [1,5] ?_;refine MA rfl (fun K hK => ?_) (MA rfl (fun K hK => ?_) MX)
 ·go_simp;refine hK _ _ ?_;clear hK K;refine zA 5 rfl fun K hK => ?_
  ·exact zfy
 ·go_simp;refine hK _ _ ?_;clear hK K;refine yA [1,7] ?_;refine MA rfl (fun K hK => ?_) (MA rfl (fun K hK => ?_) MX)
  ·exact zfy
  ·go_simp;refine HC.out.mono ?_;rintro e w4 h4;unfold aA at h4;rw [MB hh] at h4;obtain ⟨hb,b,h5,h6,rfl⟩:=h4;dsimp only;exact ⟨rfl,hb1.trans (hb.mono hb1.size),b,Mv hb1.size h5,h6,rfl⟩):zp:=h
theorem zcE (h:zp:=by
 go_simp;refine hK _ _ ?_;clear hK K;refine yA [1,6] ?_;refine MA rfl (fun K hK => ?_) (MA rfl (fun K hK => ?_) MX)
 ·exact zfu
 ·go_simp;refine hK _ _ ?_;clear hK K;refine yA [1,7] ?_;refine MA rfl (fun K hK => ?_) (MA rfl (fun K hK => ?_) MX)
  ·exact zfy
  ·go_simp;refine HC.out.mono ?_;rintro e w4 h4;unfold aA at h4;rw [MB hh] at h4;obtain ⟨hb,b,h5,h6,rfl⟩:=h4;dsimp only;exact ⟨rfl,hb1.trans (hb.mono hb1.size),b,Mv hb1.size h5,h6,rfl⟩):zp:=h
theorem zcH (h:zp:=by
 go_simp;refine hK _ _ ?_;clear hK K;refine yA [1,5] ?_;refine MA rfl (fun K hK => ?_) (MA rfl (fun K hK => ?_) MX)
 ·go_simp;refine hK _ _ ?_;clear hK K;refine zA 5 rfl fun K hK => ?_
  ·exact zfz
 ·go_simp;refine hK _ _ ?_;clear hK K;refine yA [1,7] ?_;refine MA rfl (fun K hK => ?_) (MA rfl (fun K hK => ?_) MX)
  ·exact zfz
  ·go_simp;refine (aR num dep _ G1 h hd).mono ?_;rintro e w4 ⟨hb,b,h5,h6,rfl⟩;dsimp only;exact ⟨rfl,hb1.trans (hb.mono hb1.size),b,Mv hb1.size h5,h6,rfl⟩):zp:=h
theorem zcI (h:zp:=by
 go_simp;refine hK _ _ ?_;clear hK K;refine yA [1,6] ?_;refine MA rfl (fun K hK => ?_) (MA rfl (fun K hK => ?_) MX)
 ·exact zfv
 ·go_simp;refine hK _ _ ?_;clear hK K;refine yA [1,7] ?_;refine MA rfl (fun K hK => ?_) (MA rfl (fun K hK => ?_) MX)
  ·exact zfz
  ·go_simp;refine (aR num dep _ G1 h hd).mono ?_;rintro e w4 ⟨hb,b,h5,h6,rfl⟩;dsimp only;exact ⟨rfl,hb1.trans (hb.mono hb1.size),b,Mv hb1.size h5,h6,rfl⟩):zp:=h
theorem zcJ (h:zp:=by
 go_simp;refine hK _ _ ?_;clear hK K;refine yA [5,6] ?_;refine MA rfl (fun K hK => ?_) (MA rfl (fun K hK => ?_) MX)
 ·exact zfu
 ·go_simp;refine hK _ _ ?_;clear hK K;refine zA 5 rfl fun K hK => ?_
  ·go_simp;refine hK _ _ ?_;clear hK K;refine zA 7 rfl fun K hK => ?_
   ·go_simp;refine HC.out.mono ?_;rintro e w4 h4;unfold aA at h4;rw [MB hh] at h4;obtain ⟨hb,b,h5,h6,rfl⟩:=h4;dsimp only;exact ⟨rfl,hb1.trans (hb.mono hb1.size),b,Mv hb1.size h5,h6,rfl⟩):zp:=h
theorem zcK (h:zp:=by
 go_simp;refine hK _ _ ?_;clear hK K;refine yA [5,6] ?_;refine MA rfl (fun K hK => ?_) (MA rfl (fun K hK => ?_) MX)
 ·exact zfv
 ·go_simp;refine hK _ _ ?_;clear hK K;refine zA 5 rfl fun K hK => ?_
  ·go_simp;refine hK _ _ ?_;clear hK K;refine zA 7 rfl fun K hK => ?_
   ·go_simp;refine (aR num dep _ G1 h hd).mono ?_;rintro e w4 ⟨hb,b,h5,h6,rfl⟩;dsimp only;exact ⟨rfl,hb1.trans (hb.mono hb1.size),b,Mv hb1.size h5,h6,rfl⟩):zp:=h
theorem zcL (h:zp:=by
 go_simp;refine hK _ _ ?_;clear hK K;refine zA 5 rfl fun K hK => ?_
 ·go_simp;refine hK _ _ ?_;clear hK K;refine zA 7 rfl fun K hK => ?_
  ·go_simp;refine HC.out.mono ?_;rintro e w4 h4;unfold aA at h4;rw [Mz hh] at h4;obtain ⟨rfl,hb4⟩:=h4;obtain ⟨cx,fx,q0,q1,q2⟩:=HF.out w4 hb4;dsimp only;refine hK _ _ ?_;clear hK K;refine tA 8 (.pointer (some ⟨g,u*8,none⟩)) rfl ?_;refine tA 9 (.pointer (some ⟨g,u*8+5,none⟩)) rfl ?_;refine zA 10 rfl fun K hK => ?_;go_simp;refine (bG num dep a n c g (u*8+5) _ _ _ cx h2).mono ?_;rintro e w5 ⟨hb,b,h5,h6,rfl⟩;dsimp only;exact ⟨rfl,(hb1.trans (hb4.mono hb1.size)).trans (hb.mono (Mv hb1.size hb4.size)),b,Mv (Mv hb1.size hb4.size) h5,h6,rfl⟩):zp:=h
theorem zcN (h:zp:=by
 go_simp;refine hK _ _ ?_;clear hK K;refine zA 6 rfl fun K hK => ?_
 ·go_simp;refine hK _ _ ?_;clear hK K;refine zA 7 rfl fun K hK => ?_
  ·go_simp;refine HC.out.mono ?_;rintro e w4 h4;unfold aA at h4;rw [Mz hh] at h4;obtain ⟨rfl,hb4⟩:=h4;obtain ⟨cx,fx,q0,q1,q2⟩:=HF.out w4 hb4;dsimp only;refine hK _ _ ?_;clear hK K;refine tA 8 (.pointer (some ⟨g,u*8,none⟩)) rfl ?_;refine tA 9 (.pointer (some ⟨g,u*8+5,none⟩)) rfl ?_;refine zA 10 rfl fun K hK => ?_;go_simp;refine (bG num dep a n c g (u*8+5) _ _ _ cx h2).mono ?_;rintro e w5 ⟨hb,b,h5,h6,rfl⟩;dsimp only;exact ⟨rfl,(hb1.trans (hb4.mono hb1.size)).trans (hb.mono (Mv hb1.size hb4.size)),b,Mv (Mv hb1.size hb4.size) h5,h6,rfl⟩):zp:=h
theorem zcR (h:zp:=by
 go_simp;refine hK _ _ ?_;clear hK K;refine zA 5 rfl fun K hK => ?_
 ·go_simp;refine hK _ _ ?_;clear hK K;refine zA 7 rfl fun K hK => ?_
  ·go_simp;refine HC.out.mono ?_;rintro e w4 h4;unfold aA at h4;rw [Mz hh] at h4;obtain ⟨rfl,hb4⟩:=h4;obtain ⟨cx,fx,q0,q1,q2⟩:=HF.out w4 hb4;dsimp only;refine hK _ _ ?_;clear hK K;refine tA 8 (.pointer (some ⟨g,u*8,none⟩)) rfl ?_;refine tA 9 (.pointer (some ⟨g,u*8+5,none⟩)) rfl ?_;refine zA 10 rfl fun K hK => ?_;go_simp;refine (bs num dep a n c g (u*8+5) _ _ cx fx).mono ?_;rintro e w5 ⟨rfl,hb5⟩;have G5:=HG.out w4 w5 hb4 hb5;dsimp only;refine hK _ _ ?_;clear hK K;refine NY zab ?_ _;go_wp2;go_end0;exact ⟨rfl,G5⟩):zp:=h
theorem zcT (h:zp:=by
 go_simp;refine hK _ _ ?_;clear hK K;refine zA 6 rfl fun K hK => ?_
 ·go_simp;refine hK _ _ ?_;clear hK K;refine zA 7 rfl fun K hK => ?_
  ·go_simp;refine HC.out.mono ?_;rintro e w4 h4;unfold aA at h4;rw [Mz hh] at h4;obtain ⟨rfl,hb4⟩:=h4;obtain ⟨cx,fx,q0,q1,q2⟩:=HF.out w4 hb4;dsimp only;refine hK _ _ ?_;clear hK K;refine tA 8 (.pointer (some ⟨g,u*8,none⟩)) rfl ?_;refine tA 9 (.pointer (some ⟨g,u*8+5,none⟩)) rfl ?_;refine zA 10 rfl fun K hK => ?_;go_simp;refine (bs num dep a n c g (u*8+5) _ _ cx fx).mono ?_;rintro e w5 ⟨rfl,hb5⟩;have G5:=HG.out w4 w5 hb4 hb5;dsimp only;refine hK _ _ ?_;clear hK K;refine NY zab ?_ _;go_wp2;go_end0;exact ⟨rfl,G5⟩):zp:=h
theorem zc9 (h:zp:=by
 intro w4 hb4;have hbg:=(hb1.trans (hb4.mono hb1.size)).block g hgl;have hbw:w4.heap[w.heap.size]?=some (.cells #[(num:Int),(dep:Int),.slice a n c] 363 (0,0)):=by
  rw [hb4.block w hlw,NI _ _ _ zad];exact MD w _
 refine ⟨(MK hbg).trans cv,(Pk hbg).trans hfz,?_,?_,?_⟩ <;> rw [My w4 _ _ _ _ _ hbw] <;> rfl):zp:=h
theorem zdu (h:zp:=by
 clear h24;go_wp2_with fail;refine (aU num dep 3 _).mono ?_;rintro e w3 ⟨hb,b,h5,h6,rfl⟩;dsimp only;refine ⟨rfl,?_⟩;rw [HF.out];exact ⟨hbw.trans (hb.mono hbs),b,Mv hbs h5,h6,rfl⟩):zp:=h
theorem zdO (h:zp:=by
 have:=MD ((w.alloc (.cells #[(num:Int),(dep:Int),.slice a n c] 363)).drew) (.cells #[(3:Int),(4:Int)] 159);simpa using this):zp:=h
theorem zeX (h:zp:=by
 cases ov
 simp [Ref.Sl.v] at h;simp [h.1,h.2.1,h.2.2]):zp:=h
theorem zal (h:zp:=by (try dsimp only);go_keep):zp:=h
theorem zba (h:zp:=by rw [My W2 _ _ _ _ _ hbx2];rfl):zp:=h
theorem zbb (h:zp:=by rw [My w3 _ _ _ _ _ hbx3];rfl):zp:=h
theorem zbE (h:zp:=by rw [My W2 _ _ _ _ _ A2.box];rfl):zp:=h
theorem zbF (h:zp:=by rw [My W3 _ _ _ _ _ A3.box];rfl):zp:=h
theorem zbG (h:zp:=by rw [My W4 _ _ _ _ _ A4.box];rfl):zp:=h
open Tryz
variable {base n size:Nat} {e:TypeId} {xs:List Value} {v:Value}
section
open Go.RowKit
variable {w0 w:World} {db mb nm:Nat} {sv pv ov:Ref.Sl} {tm:Bool} {X:List Pro.DS} {SP:List (Int×Int)} {O:List Nat} {PT:Nat->List Nat} {D:DataW Nat}
theorem Be:(Tryz.prog.info? 172).map (fun i=>(i.zero,i.size,i.bytes))=some (some (.agg #[(0:Int),ByteArray.empty,(0:Int),(0:Int),.slice none 0 0,.slice none 0 0,.slice none 0 0,.slice none 0 0]),8,136):=zab
theorem DX:(Tryz.prog.info? 224).map (fun i=>(i.zero,i.size,i.bytes))=some (some (.agg #[(0:Int),(0:Int)]),2,16):=zab
theorem yW:(Tryz.prog.info? 3).map (fun i=>(i.zero,i.size,i.bytes))=some (some ↑(0:Int),1,8):=zab
theorem Ek {n' cap go:Nat} {w:World} (h:w.ownsRow base e 1 (.slice go n cap) n xs) (hn:n'<=n):w.ownsRow base e 1 (.slice go n' cap) n' (xs.take n'):=by
 rcases h.2 with ⟨h',_⟩ | ⟨g,cap',cur,hv,hb,hg,h1,h2,h3,h4⟩
 ·cases h'
 ·simp only [Value.slice.injEq,Option.some.injEq,Addr.mk.injEq,and_true,true_and] at hv;obtain ⟨rfl,rfl⟩:=hv;have hl:=h.1;refine ⟨by rw [NP,hl];omega,.inr ⟨go,cap,cur,rfl,hb,hg,zaa,h2,h3,?_⟩⟩;rw [<- h4,List.take_take]
  congr 1
  omega
theorem DO (O:List Nat) (d:Nat):(O.flatMap eo).take d=(O.take d).flatMap eo:=by
 induction O generalizing d with
 | nil=>simp
 | cons a O ih =>
  cases d with
  | zero=>simp
  | succ d=>simp only [List.flatMap_cons,List.take_succ_cons];rw [show eo a=[.int .i64 a] from rfl];simp [ih]
def eu (num:Int) (dep:Nat) (kd:Int) (nme:ByteArray):Array Value:=#[(num:Int),(dep:Int),(kd:Int),nme]
structure qH (B:Nat) (bx:Array Value) (w0 w:World) (db:Nat) (sv pv ov:Ref.Sl) (mb:Nat) (tm:Bool) (X:List Pro.DS) (SP:List (Int×Int)) (O:List Nat) (PT:Nat->List Nat) (nm:Nat) (D:DataW Nat):Prop where
 G:aq w0 w db sv pv ov mb tm X SP O PT nm D
 box:w.heap[B]?=some (.cells bx 352 (0,0))
theorem bV {w:World} (h:w.ownsRow base e size v n xs) (o:Obj):((w.alloc o).drew).ownsRow base e size v n xs:=(OG h o).drew
theorem fT {B:Nat} {bx:Array Value} {w wc w5:World} (hb:w.heap[B]?=some (.cells bx 352 (0,0))) (hbc:Below w w wc) (ho:wc.ownsRow base e size v n xs) (hg:wc.grownBy w5 v.ownBlock) (hne:352≠e):w5.heap[B]?=some (.cells bx 352 (0,0)) :=
 bM (bM hb (cD (e:=e) hbc) hne) (dD ho hg) hne
theorem Az (num:Int) (dep:Nat) (kd ow:Int) (nme:ByteArray) (ns:Ref.State) (G:aq w0 w db sv pv ov mb tm X SP O PT nm D) (hX:X.length<=1000) (hSP:SP.length<=1000) (hO:O.length<=1000) (hPTl:∀ i,(PT i).length<=1000) (hnm:nm<=1000)
  (hkd:Pro.ao ns=kd) (hnme:ns.name=nme) (hdep:ns.depth=dep) (hup:ns.up=ow) (hm:ns.aj=[]) (he:ns.enter=[]) (hl:ns.leave=[]) (hd:dep<=O.length) (hsz:nme.size<=1000000) (hnum:(Lit.int .i64 num).wf=true)
  (how:ow = -1\/∃ u:Nat,ow=u/\u<X.length) (hPT:PT X.length=[]) :
  () 354 #[db,.agg (eu num dep kd nme),(ow:Int)] w fun e w'=>e = .returned (.tuple #[])/\∃ sv' pv' ov' X',X'.map (·.s)=X.map (·.s)++[ns] /\
   aq w0 w' db sv' pv' ov' mb tm X' (SP++[(num,(dep:Int))]) (O.take dep++[X.length]) (fun i=>if (i:Int)=ow then PT i++[X.length] else PT i) (nm+1) (if Go.Maps.has D (.string nme.data.toList) then D else D.put (.string nme.data.toList) (.lit (.int .i64 num))):=by
 have hsn:=G.Kn;have hdl:=G.dlt;have hb1:Below w w (w.alloc (.cells (eu num dep kd nme) 352)):=(Mw _ _).alloc (Mt _) _;have A1:qH w.heap.size (eu num dep kd nme) w0 (w.alloc (.cells (eu num dep kd nme) 352)) db sv pv ov mb tm X SP O PT nm D:=⟨G.ak hb1,MD _ _⟩;obtain ⟨c0,c1,c2,c3,c4⟩:=A1.G.cells;rw [hsn] at c0;obtain ⟨W1,hW1⟩:∃ y,y=w.alloc (.cells (eu num dep kd nme) 352):=⟨_,rfl⟩;obtain ⟨B,hB⟩:∃ B,B=w.heap.size:=⟨_,rfl⟩;obtain ⟨i0,hi,hz0,hz1,hz2⟩:=N4 yW;have HE:Hid (Pro.ao ns=kd/\ns.name=nme/\ns.depth=dep/\ns.up=ow/\ns.aj=[]/\ns.enter=[]/\ns.leave=[]):=⟨hkd,hnme,hdep,hup,hm,he,hl⟩;clear hkd hnme hdep hup hm he hl;have HPT:Hid _:=hPT;have HPTl:Hid _:=hPTl;have HD:Hid (dep<=O.length):=hd;clear hPT hPTl hd hsn;unfold eu at A1 c0 c1 c2 c3 c4 hW1 ⊢;go_enter func354,ntmps354
 go_upto_if 15 with fail
 change Code.wp _ _ _ _ (w.alloc (.cells #[(num:Int),(dep:Int),(kd:Int),nme] 352));rw [<- hW1] at A1 c0 c1 c2 c3 c4 ⊢;rw [<- hB] at A1 ⊢;have hBW:B<W1.heap.size:=(Ms.1 A1.box).1;clear hW1 hb1 G hdl hB
 go_cut [] (fun wx=>∃ sv1 X1,X1.map (·.s)=X.map (·.s)/\qH B #[(num:Int),(dep:Int),(kd:Int),nme] w0 wx db sv1 pv ov mb tm X1 SP O (fun i=>if (i:Int)=ow then PT i++[X.length] else PT i) nm D)
 case first =>
  rcases how with how | ⟨u,how,hu⟩
  ·subst how;go_wp2;go_meet
   case rel =>
    refine ⟨sv,X,rfl,?_⟩;have e:(fun i:Nat=>if (i:Int) = -1 then PT i++[X.length] else PT i)=PT:=by
     funext i;rw [Mz zaa]
    rw [e];exact A1
  ·subst how;obtain ⟨g,cap,rfl⟩:=A1.G.BZ zaa;obtain ⟨hcap,hgl,hg0⟩:=A1.G.tz;have cP:W1.cell? ⟨g,u*8+4,none⟩=some (.slice X[u].vp.a X[u].vp.n X[u].vp.c):=A1.G.tW hu 4 _ rfl;have fP:W1.frozen? ⟨g,u*8+4,none⟩=false:=N5 (aD A1.G.states (MJ _)) _;have hown:=A1.G.parts u hu;have hpl:=HPTl.out u;have hdl:=A1.G.dlt;have hw01:=A1.G.bel.size;have hneg:((u:Int) == -1)=false:=zad;have HND:Hid (some g≠X[u].vp.v.ownBlock):=fun e=>by
    obtain ⟨c,hc⟩:=bP hown _ e.symm;obtain ⟨c',hc'⟩:=bP A1.G.states g rfl;exact zft
   have HNDd:Hid (some db≠X[u].vp.v.ownBlock):=fun e=>by
    obtain ⟨c,hc⟩:=bP hown _ e.symm;have hc':=A1.G.draft;exact zft
   go_upto_region 3 with fail
   go_region_law
    ((refine step_append_lies _ zae _ _ _ zae w0.heap.size 3 i0 _ 1 8 underlying23 hi hz0 hz1 hz2 rfl zac (.slice X[u].vp.a X[u].vp.n X[u].vp.c) (PT u).length ((PT u).flatMap eo) zae (bV hown _) ⟨W1,0,none⟩ 1 1 [(X.length:Int)] zae zae (World.news_of_block (cs:=#[(X.length:Int)]) (t:=3) (fr:=(0,0)) (MD W1 _)) zap zaa zag zaa zaf (W1.heap.size+1) zad ?_;intro g5 cap5 w5 hown5 hgrow hat hlt5;have hfz5:=((hgrow.frozen_far ⟨g,u*8+4,none⟩ zaf HND.out).trans ((((Mw W1 W1).alloc (Mt _) _).drew).frozen (p:=⟨g,u*8+4,none⟩) hgl)).trans fP;have hcc5:=((hgrow.cell_far ⟨g,u*8+4,none⟩ zaf HND.out).trans ((((Mw W1 W1).alloc (Mt _) _).drew).cell (p:=⟨g,u*8+4,none⟩) hgl)).trans cP;have hcd5:=((hgrow.cell_far ⟨db,0,none⟩ zaf HNDd.out).trans ((((Mw W1 W1).alloc (Mt _) _).drew).cell (p:=⟨db,0,none⟩) hdl)).trans c0))
   all_goals (
    go_wp2_with fail;go_meet
    case rel =>
     have hbc:Below W1 W1 ((W1.alloc (.cells #[(X.length:Int)] 3)).drew):=((Mw _ _).alloc (Mt _) _).drew;have GP:=A1.G.addPart (vp':=⟨some ⟨g5,0,none⟩,(PT u).length+1,cap5⟩) (n:=X.length) hbc hu hgrow (by rw [MN,Nr];exact hown5) (by
      rcases hat with h | h
      ·exact .inl h.symm
      ·exact .inr zax)
     refine ⟨⟨some ⟨g,0,none⟩,X.length,cap⟩,X.set u { X[u] with vp:=⟨some ⟨g5,0,none⟩,(PT u).length+1,cap5⟩ },?_,?_,?_⟩
     ·rw [Ow];apply OL
      intro i;rw [OK];split
      ·rename_i h;subst h;simp [hu]
      ·rfl
     ·have e:(fun i:Nat=>if (i:Int)=(u:Int) then PT i++[X.length] else PT i)=fun i=>if i=u then PT u++[X.length] else PT i:=by
       funext i;by_cases h:i=u
       ·subst h;simp
       ·rw [Mz h,Mz zaa]
      rw [e];exact GP
     ·rw [(aa w5 g (u*8+4) _).block B (fun h=>by
       have b1:=A1.box;obtain ⟨c',hc'⟩:=bP A1.G.states g rfl;rw [h,hc'] at b1;simp at b1)]
      exact fT A1.box hbc (bV hown _) hgrow zac)
 case rest =>
  obtain ⟨sv1,X1,hX1,A2⟩:=hcut;obtain ⟨W2,hW2⟩:∃ y:World,y=wc:=⟨wc,rfl⟩;subst hW2;clear A1 c0 c1 c2 c3 c4 hBW hi hz0 hz1 hz2 i0;have hXl:X1.length=X.length:=by
   have:=congrArg List.length hX1;simpa using this
  obtain ⟨PT1,hPT1⟩:∃ P:Nat->List Nat,P=fun i:Nat=>if (i:Int)=ow then PT i++[X.length] else PT i:=⟨_,rfl⟩;have HPT1:Hid (PT1 X1.length=[]):=by
   unfold Hid;rw [hPT1,hXl];simp only;rw [Mz,HPT.out]
   rcases how with h | ⟨u,h,hu⟩ <;> omega
  rw [<- hPT1] at A2;have HPd:Hid _:=hPT1;have HX1:Hid _:=hX1;have HXl:Hid _:=hXl;have hX1b:X1.length<=1000:=zaa;clear hPT1 hX1 hXl;obtain ⟨i0,hi,hz0,hz1,hz2⟩:=N4 Be;have hdl:=A2.G.dlt;have hw02:=A2.G.bel.size;have hbl:B<W2.heap.size:=(Ms.1 A2.box).1;have hown:=A2.G.states;obtain ⟨c0,c1,c2,c3,c4⟩:=A2.G.cells;have f0:=A2.G.frozen 0;have b1:W2.cell? ⟨B,1,none⟩=some ↑(dep:Int):=zbE;have b2:W2.cell? ⟨B,2,none⟩=some ↑(kd:Int):=zbE;have b3:W2.cell? ⟨B,3,none⟩=some ↑nme:=zbE;have HND:Hid (some db≠sv1.v.ownBlock):=fun e=>by
   obtain ⟨c,hc⟩:=bP hown _ e.symm;have hc':=A2.G.draft;exact zft
  have HDS:Hid (Pro.aO ⟨ns,Ref.Sl.nil,Ref.Sl.nil,Ref.Sl.nil,Ref.Sl.nil⟩=[.int .i64 kd,.string nme,.int .i64 dep,.int .i64 ow,.slice none 0 0,.slice none 0 0,.slice none 0 0,.slice none 0 0]):=by
   unfold Hid Pro.aO;rw [HE.out.1,HE.out.2.1,HE.out.2.2.1,HE.out.2.2.2.1];rfl
  go_upto_region 4 with fail
  go_cut [] (fun wx=>∃ sv2,qH B #[(num:Int),(dep:Int),(kd:Int),nme] w0 wx db sv2 pv ov mb tm (X1++[⟨ns,Ref.Sl.nil,Ref.Sl.nil,Ref.Sl.nil,Ref.Sl.nil⟩]) SP O PT1 nm D)
  case first =>
   have hnb:¬ db=B:=fun h=>by
    have b1:=A2.box;rw [<- h,A2.G.draft] at b1;simp at b1
   have hnb2:¬ B=db:=fun h=>hnb h.symm;have HNB:Hid (some B≠sv1.v.ownBlock):=fun e=>by
    obtain ⟨c,hc⟩:=bP hown _ e.symm;have hc':=A2.box;exact zft
   refine MP (S:=(fun W=>W.cell? ⟨B,1,none⟩=some ↑(dep:Int)/\W.cell? ⟨B,2,none⟩=some ↑(kd:Int)/\W.cell? ⟨B,3,none⟩=some ↑nme)) zab ⟨b1,b2,b3⟩ (fun u0 => ?_);refine tH 0 db rfl u0 ?_;refine tH 1 db rfl u0 ?_;refine tH 2 db rfl u0 ?_;refine tH 3 db rfl u0 ?_;refine tH 5 (.pointer (some ⟨B,2,none⟩)) rfl u0 ?_;refine tH 6 (.int .i64 kd) rfl u0 ?_;refine tH 7 (.pointer (some ⟨B,3,none⟩)) rfl u0 ?_;refine tH 8 (.string nme) rfl u0 ?_;refine tH 9 B rfl u0 ?_;refine tH 10 (.pointer (some ⟨B,1,none⟩)) rfl u0 ?_;refine tH 11 (.int .i64 dep) rfl u0 ?_;refine tH 12 (.int .i64 ow) rfl u0 ?_;refine tH 13 (.agg #[(kd:Int),nme,(dep:Int),(ow:Int),.slice none 0 0,.slice none 0 0,.slice none 0 0,.slice none 0 0]) rfl u0 ?_;refine yH [4,14] ?_;refine Nj rfl (fun K hK => ?_) (Nj rfl (fun K hK => ?_) N0)
   ·skip
    go_simp;refine hK.out _ _ u0 (fun u0 => ?_);clear hK K;refine zH 14 rfl fun K hK => ?_;go_simp;refine hK.out _ _ zal (fun u0 => ?_);exact zcu
   ·skip
    go_simp;refine hK.out _ _ zal (fun u0 => ?_);clear hK K;refine zH 4 rfl fun K hK => ?_;go_simp;refine hK.out _ _ u0 (fun u0 => ?_);exact zcu
  case rest =>
   obtain ⟨sv2,A3⟩:=hcut;obtain ⟨W3,hW⟩:∃ y:World,y=wc:=⟨wc,rfl⟩;subst hW;clear A2 c0 c1 c2 c3 c4 hi hz0 hz1 hz2 i0 hdl hw02 hbl hown b1 b2 b3 f0 HND;obtain ⟨i0,hi,hz0,hz1,hz2⟩:=N4 DX;have hdl:=A3.G.dlt;have hw0:=A3.G.bel.size;have hbl:B<W3.heap.size:=(Ms.1 A3.box).1;have hown:=A3.G.iN;obtain ⟨c0,c1,c2,c3,c4⟩:=A3.G.cells;have b0:W3.cell? B=some ↑(num:Int):=zbF;have b1:W3.cell? ⟨B,1,none⟩=some ↑(dep:Int):=zbF;have b3:W3.cell? ⟨B,3,none⟩=some ↑nme:=zbF;have hnb:¬ db=B:=fun h=>by
    have b1:=A3.box;rw [<- h,A3.G.draft] at b1;simp at b1
   have hnb2:¬ B=db:=fun h=>hnb h.symm;have HND:Hid (some db≠pv.v.ownBlock):=fun e=>by
    obtain ⟨c,hc⟩:=bP hown _ e.symm;have hc':=A3.G.draft;exact zft
   have HNB:Hid (some B≠pv.v.ownBlock):=fun e=>by
    obtain ⟨c,hc⟩:=bP hown _ e.symm;have hc':=A3.box;exact zft
   have f1:=A3.G.frozen 1
   go_upto_region 5 with fail
   go_cut [] (fun wx=>∃ pv2,qH B #[(num:Int),(dep:Int),(kd:Int),nme] w0 wx db sv2 pv2 ov mb tm (X1++[⟨ns,Ref.Sl.nil,Ref.Sl.nil,Ref.Sl.nil,Ref.Sl.nil⟩]) (SP++[(num,(dep:Int))]) O PT1 nm D)
   case first =>
    refine MP (S:=(fun W=>W.cell? B=some ↑(num:Int)/\W.cell? ⟨B,1,none⟩=some ↑(dep:Int))) zab ⟨b0,b1⟩ (fun u0 => ?_);refine tH 0 db rfl u0 ?_;refine tH 1 db rfl u0 ?_;refine tH 2 db rfl u0 ?_;refine tH 3 (.pointer (some ⟨db,1,none⟩)) rfl u0 ?_;refine tH 5 B rfl u0 ?_;refine tH 6 (.agg #[(num:Int),(dep:Int)]) rfl u0 ?_;refine yH [4,7] ?_;refine Nj rfl (fun K hK => ?_) (Nj rfl (fun K hK => ?_) N0)
    ·skip
     go_simp;refine hK.out _ _ u0 (fun u0 => ?_);clear hK K;refine zH 7 rfl fun K hK => ?_;go_simp;refine hK.out _ _ zal (fun u0 => ?_);exact zcv
    ·skip
     go_simp;refine hK.out _ _ zal (fun u0 => ?_);clear hK K;refine zH 4 rfl fun K hK => ?_;go_simp;refine hK.out _ _ u0 (fun u0 => ?_);exact zcv
   case rest =>
    obtain ⟨pv2,A4⟩:=hcut;obtain ⟨W4,hW⟩:∃ y:World,y=wc:=⟨wc,rfl⟩;subst hW;clear A3 c0 c1 c2 c3 c4 hi hz0 hz1 hz2 i0 hdl hw0 hbl hown b0 b1 b3 f1 HND HNB hnb hnb2;obtain ⟨i0,hi,hz0,hz1,hz2⟩:=N4 yW;have hdl:=A4.G.dlt;have hw0:=A4.G.bel.size;have hbl:B<W4.heap.size:=(Ms.1 A4.box).1;have hown:=A4.G.opens;obtain ⟨c0,c1,c2,c3,c4⟩:=A4.G.cells;have b0:W4.cell? B=some ↑(num:Int):=zbG;have b1:W4.cell? ⟨B,1,none⟩=some ↑(dep:Int):=zbG;have b3:W4.cell? ⟨B,3,none⟩=some ↑nme:=zbG;have hnb:¬ db=B:=fun h=>by
     have b1:=A4.box;rw [<- h,A4.G.draft] at b1;simp at b1
    have hnb2:¬ B=db:=fun h=>hnb h.symm;have HND:Hid (some db≠ov.v.ownBlock):=fun e=>by
     obtain ⟨c,hc⟩:=bP hown _ e.symm;have hc':=A4.G.draft;exact zft
    have HNB:Hid (some B≠ov.v.ownBlock):=fun e=>by
     obtain ⟨c,hc⟩:=bP hown _ e.symm;have hc':=A4.box;exact zft
    have f2:=A4.G.frozen 2
    go_upto_region 6 with fail
    go_cut [] (fun wx=>∃ ov2,qH B #[(num:Int),(dep:Int),(kd:Int),nme] w0 wx db sv2 pv2 ov2 mb tm (X1++[⟨ns,Ref.Sl.nil,Ref.Sl.nil,Ref.Sl.nil,Ref.Sl.nil⟩]) (SP++[(num,(dep:Int))]) (O.take dep++[X.length]) PT1 nm D)
    case first =>
     have hov:=A4.G.Kk;cases hova:ov.a with
     | none =>
      have hnil:ov.v = .slice none 0 0/\O.length=0:=by
       rcases hown.2 with h | ⟨g,cap,cur,h,_⟩
       ·exact h
       ·simp [Ref.Sl.v,hova] at h
      have hO0:O=[]:=OA.1 hnil.2;have hd0:dep=0:=by have:=HD.out;rw [hnil.2] at this;omega
      have hov0:ov=⟨none,0,0⟩:=by
       have h:=hnil.1;exact zeX
      subst hO0 hd0 hov0;clear hnil hov hova;have b1':W4.cell? ⟨B,1,none⟩=some ↑(0:Int):=by simpa using b1
      have hownN:W4.ownsRow w0 3 1 (.slice none 0 0) 0 []:=ND _ _ _ _;refine MP (S:=(fun W=>W.cell? ⟨B,1,none⟩=some ↑(0:Int))) zab b1' (fun u0 => ?_);refine tH 0 db rfl u0 ?_;refine tH 1 db rfl u0 ?_;refine tH 2 db rfl u0 ?_;refine tH 3 (.pointer (some ⟨db,2,none⟩)) rfl u0 ?_;refine tH 5 B rfl u0 ?_;refine tH 6 (.pointer (some ⟨B,1,none⟩)) rfl u0 ?_;refine tH 7 (.int .i64 0) rfl u0 ?_;refine tH 9 (.int .i64 X.length) rfl u0 ?_;refine yH [4,10] ?_;refine Nj rfl (fun K hK => ?_) (Nj rfl (fun K hK => ?_) N0)
      ·skip
       go_simp;refine hK.out _ _ u0 (fun u0 => ?_);clear hK K;refine tH 8 (.slice none 0 0) rfl u0 ?_;refine zH 10 rfl fun K hK => ?_;go_simp;refine hK.out _ _ zal (fun u0 => ?_);clear hK K;exact zcx
      ·skip
       go_simp;refine hK.out _ _ zal (fun u0 => ?_);clear hK K;refine zH 4 rfl fun K hK => ?_;go_simp;refine hK.out _ _ u0 (fun u0 => ?_);clear hK K;refine tH 8 (.slice none 0 0) rfl u0 ?_;exact zcx
     | some oa =>
      obtain ⟨go,oc,hov1⟩:∃ go oc,ov=⟨some ⟨go,0,none⟩,O.length,oc⟩:=by
       rcases hown.2 with ⟨h,_⟩ | ⟨g,cap,cur,h,_⟩
       ·simp [Ref.Sl.v,hova] at h
       ·refine ⟨g,cap,?_⟩;exact zeX
      subst hov1;have hcapO:O.length<=oc:=by
       rcases hown.2 with ⟨h,_⟩ | ⟨g,cap,cur,h,_,_,hle,_⟩
       ·cases h
       ·simp [Ref.Sl.v] at h;rw [h.2];exact hle
      have hdle:=HD.out;have hdc:¬ oc<dep:=zaa;have hownT:=Ek hown hdle;rw [DO] at hownT;refine MP (S:=(fun W=>W.cell? ⟨B,1,none⟩=some ↑(dep:Int))) zab b1 (fun u0 => ?_);refine tH 0 db rfl u0 ?_;refine tH 1 db rfl u0 ?_;refine tH 2 db rfl u0 ?_;refine tH 3 (.pointer (some ⟨db,2,none⟩)) rfl u0 ?_;refine tH 5 B rfl u0 ?_;refine tH 6 (.pointer (some ⟨B,1,none⟩)) rfl u0 ?_;refine tH 7 (.int .i64 dep) rfl u0 ?_;refine tH 9 (.int .i64 X.length) rfl u0 ?_;refine yH [4,10] ?_;refine Nj rfl (fun K hK => ?_) (Nj rfl (fun K hK => ?_) N0)
      ·skip
       go_simp;refine hK.out _ _ u0 (fun u0 => ?_);clear hK K;refine tH 8 (.slice go dep oc) rfl u0 ?_;refine zH 10 rfl fun K hK => ?_;go_simp;refine hK.out _ _ zal (fun u0 => ?_);clear hK K;exact zcw
      ·skip
       go_simp;refine hK.out _ _ zal (fun u0 => ?_);clear hK K;refine zH 4 rfl fun K hK => ?_;go_simp;refine hK.out _ _ u0 (fun u0 => ?_);clear hK K;refine tH 8 (.slice go dep oc) rfl u0 ?_;exact zcw
    case rest =>
     obtain ⟨ov2,A5⟩:=hcut;obtain ⟨W5,hW⟩:∃ y:World,y=wc:=⟨wc,rfl⟩;subst hW;clear A4 c0 c1 c2 c3 c4 hi hz0 hz1 hz2 i0 hdl hw0 hbl hown b0 b1 b3 f2 HND HNB hnb hnb2;have hdl:=A5.G.dlt;have hbl:B<W5.heap.size:=(Ms.1 A5.box).1;obtain ⟨c0,c1,c2,c3,c4⟩:=A5.G.cells;have b0:W5.cell? B=some ↑(num:Int):=by rw [My W5 _ _ _ _ _ A5.box];rfl
     have b3:W5.cell? ⟨B,3,none⟩=some ↑nme:=by rw [My W5 _ _ _ _ _ A5.box];rfl
     have law:Go.Maps.Keyed prog 9:=P7 underlying9;have zeroE:∀ w:World,(zeroValue 3).run prog w = .ok (.int .i64 0) w:=fun w=>zab;have hkey:keyOf prog 9 (.string nme)=some (.string nme.data.toList):=Pj underlying9 zag;have hmap:=A5.G.map;have hmapd:ju W5.drew mb nm D:=bI (e:=0) hmap (cD (Mw _ _).drew);have hmapd2:ju W5.drew.drew mb nm D:=bI (e:=0) hmapd (cD (Mw _ _).drew);have HFin:Hid (∀ w' D',aq w0 w' db sv2 pv2 ov2 mb tm (X1++[⟨ns,Ref.Sl.nil,Ref.Sl.nil,Ref.Sl.nil,Ref.Sl.nil⟩]) (SP++[(num,(dep:Int))]) (O.take dep++[X.length]) PT1 (nm+1) D'->∃ sv' pv' ov' X',X'.map (·.s)=X.map (·.s)++[ns]/\aq w0 w' db sv' pv' ov' mb tm X' (SP++[(num,(dep:Int))]) (O.take dep++[X.length]) (fun i=>if (i:Int)=ow then PT i++[X.length] else PT i) (nm+1) D'):=by
      intro w' D' h;refine ⟨sv2,pv2,ov2,X1++[⟨ns,Ref.Sl.nil,Ref.Sl.nil,Ref.Sl.nil,Ref.Sl.nil⟩],?_,?_⟩
      ·rw [Ny,HX1.out];rfl
      ·rw [<- HPd.out];exact h
     go_upto_region 7 with fail
     obtain ⟨vv,ps,hrun,hvv⟩:=hmapd.look_ok law underlying153 (zeroE _) (Re underlying3 zac) hkey;obtain ⟨cc,rfl,_,_⟩:=plainElem_int_inv underlying3 hvv;clear hvv;refine MP (S:=(fun W=>W.cell? ⟨db,3,none⟩=some (.map (some mb))/\W.cell? ⟨B,3,none⟩=some ↑nme)) zab ⟨c3,b3⟩ (fun u0 => ?_);refine tH 0 db rfl u0 ?_;refine tH 1 db rfl u0 ?_;refine tH 2 (.pointer (some ⟨db,3,none⟩)) rfl u0 ?_;refine tH 3 (.map (some mb)) rfl u0 ?_;refine tH 4 (.pointer (some ⟨B,3,none⟩)) rfl u0 ?_;refine tH 5 (.string nme) rfl u0 ?_;refine zH 6 rfl fun K hK => ?_;go_simp;refine hK.out _ _ u0 (fun u0 => ?_);clear hK K;refine tH 7 (.tuple #[(cc:Int),.bool (Go.Maps.has D (.string nme.data.toList))]) rfl u0 ?_;refine tH 8 (.int .i64 cc) rfl u0 ?_;refine tH 9 (.bool (Go.Maps.has D (.string nme.data.toList))) rfl u0 ?_;refine tH 10 (.int .i64 cc) rfl u0 ?_;refine tH 11 (.bool (Go.Maps.has D (.string nme.data.toList))) rfl u0 ?_;refine MY zab ?_ _;clear hrun;cases hh:Go.Maps.has D (.string nme.data.toList)
     case true =>
      go_wp2;go_end0;refine ⟨rfl,?_⟩;have G6:=A5.G.ak (w':=W5.drew) (Mw _ _).drew;exact HFin.out _ _ { G6 with map:=G6.map.mono zaa }
     case false =>
      go_upto_region 9 with fail
      refine dU 9 zab zab ?_;simp only [List.take_succ_cons,List.take_zero,List.drop_succ_cons,List.drop_zero]
      repeat still_step
      refine N1 ?_;refine wpList_mapUpdate_own _ rfl _ _ _ 153 rfl 9 3 law underlying153 _ mb nm _ rfl hmapd2 zag _ _ _ rfl rfl hkey _ [] (Re underlying3 hnum) ?_;intro w6 hown6 hgrow6;go_wp2;go_end0;refine ⟨rfl,?_⟩;exact HFin.out _ _ (A5.G.Ir (Mw _ _).drew.drew hgrow6 hown6)
variable {w0 w:World} {db mb nm:Nat} {sv pv ov:Ref.Sl} {tm:Bool} {X:List Pro.DS} {SP:List (Int×Int)} {O:List Nat} {PT:Nat->List Nat} {D:DataW Nat}
def Kb (num:Int) (dep:Nat) (nme:ByteArray) (ow:Int) (ns:Ref.State) (w0:World) (db mb:Nat) (tm:Bool) (X:List Pro.DS) (SP:List (Int×Int)) (O:List Nat) (PT:Nat->List Nat) (nm:Nat) (D:DataW Nat) (w':World):Prop :=
 ∃ sv' pv' ov' X',X'.map (·.s)=X.map (·.s)++[ns]/\aq w0 w' db sv' pv' ov' mb tm X' (SP++[(num,(dep:Int))]) (O.take dep++[X.length]) (fun i=>if (i:Int)=ow then PT i++[X.length] else PT i) (nm+1) (if Go.Maps.has D (.string nme.data.toList) then D else D.put (.string nme.data.toList) (.lit (.int .i64 num)))
theorem qn (num:Int) (dep:Nat) (kd:Int) (nme:ByteArray) (G:aq w0 w db sv pv ov mb tm X SP O PT nm D) (h0:0<dep) (h:O.length<dep) (hd:dep<=1073741824) :
  () 351 #[.agg (eu num dep kd nme),db] w (aY 3 num w):=by
 have hb1:Below w w (w.alloc (.cells (eu num dep kd nme) 352)):=(Mw _ _).alloc (Mt _) _;have HC:Hid _:=om num dep (G.ak hb1) (.inr h) hd;unfold eu at hb1 HC ⊢;go_enter func351,ntmps351;go_wp2_with fail;refine MC HC.out ?_;rintro e w4 ⟨hb,b,h5,h6,rfl⟩;dsimp only;exact ⟨rfl,hb1.trans (hb.mono hb1.size),b,Mv hb1.size h5,h6,rfl⟩
def iT (X:List Pro.DS) (PT:Nat->List Nat) (dep:Nat) (ow kd:Int):Bool :=
 !decide (X.length=24)&&(!decide (5<dep)&&(if ow<0 then !Pro.du kd else match X[ow.toNat]? with | some x=>Pro.holds x (PT ow.toNat) kd | none=>false))
theorem sP (num:Int) (dep:Nat) (kd ow:Int) (nme:ByteArray) (ns:Ref.State) (G:aq w0 w db sv pv ov mb tm X SP O PT nm D) (hX:X.length<=1000) (hSP:SP.length<=1000) (hO:O.length<=1000) (hPTl:∀ i,(PT i).length<=1000) (hnm:nm<=1000)
  (hkd:Pro.ao ns=kd) (hnme:ns.name=nme) (hdep:ns.depth=dep) (hup:ns.up=ow) (hm:ns.aj=[]) (he:ns.enter=[]) (hl:ns.leave=[]) (hd:dep<=O.length) (hsz:nme.size<=1000000) (hnum:(Lit.int .i64 num).wf=true)
  (how:(dep=0/\ow = -1)\/∃ (k u:Nat) (hk:k<O.length),dep=k+1/\O[k]=u/\ow=u/\u<X.length) (hPT:PT X.length=[]) :
  () 351 #[.agg (eu num dep kd nme),db] w fun e w'=>if iT X PT dep ow kd then e = .returned (.tuple #[])/\Kb num dep nme ow ns w0 db mb tm X SP O PT nm D w' else aY 3 num w e w':=by
 have hb1:Below w w (w.alloc (.cells (eu num dep kd nme) 352)):=(Mw _ _).alloc (Mt _) _;have HG:Hid _:=G;have how':ow = -1\/∃ u:Nat,ow=u/\u<X.length:=by
  rcases how with ⟨_,h⟩ | ⟨k,u,_,_,_,h,hu⟩
  ·exact .inl h
  ·exact .inr ⟨u,h,hu⟩
 have HAdd:Hid (∀ w',Below w w w'->() 354 #[db,.agg (eu num dep kd nme),(ow:Int)] w' fun e w'=>e = .returned (.tuple #[])/\Kb num dep nme ow ns w0 db mb tm X SP O PT nm D w') :=
  fun w' hb=>Az num dep kd ow nme ns (G.ak hb) hX hSP hO hPTl hnm hkd hnme hdep hup hm he hl hd hsz hnum how' hPT
 have HHold:Hid (∀ w',Below w w w'->() 353 #[db,(ow:Int),(kd:Int)] w' fun e w''=>e = .returned (.bool (if ow<0 then !Pro.du kd else match X[ow.toNat]? with | some x=>Pro.holds x (PT ow.toNat) kd | none=>false))/\Below w'.heap.size w' w''):=by
  intro w' hb
  rcases how' with h | ⟨u,h,hu⟩
  ·subst h;rw [MB zac];exact wV kd
  ·subst h;rw [Mz zaa];have e:X[((u:Int)).toNat]?=some X[u]:=by simp [hu]
   rw [e];exact wW kd u (G.ak hb) hu zaa
 have HOwn:Hid (0<dep->∀ w',Below w w w'->() 352 #[db,.agg #[(num:Int),(dep:Int)]] w' fun e w''=>e = .returned (ow:Int)/\Below w'.heap.size w' w''):=by
  intro h0 w' hb
  rcases how with ⟨h,_⟩ | ⟨k,u,hk,h1,h2,h3,_⟩
  ·omega
  ·rw [h3,<- h2];exact uY num dep k (G.ak hb) hk h1 zaa
 have HO0:Hid (dep=0->ow = -1):=by
  intro h0
  rcases how with ⟨_,h⟩ | ⟨k,u,hk,h1,_⟩
  ·exact h
  ·omega
 have hsn:=G.Kn;have hdb:=G.dlt;obtain ⟨c0,_,_,_,_⟩:=G.cells;rw [hsn] at c0;have HOk:Hid (iT X PT dep ow kd=(!decide (X.length=24)&&(!decide (5<dep)&&(if ow<0 then !Pro.du kd else match X[ow.toNat]? with | some x=>Pro.holds x (PT ow.toNat) kd | none=>false)))):=rfl;generalize hq:(if ow<0 then !Pro.du kd else match X[ow.toNat]? with | some x=>Pro.holds x (PT ow.toNat) kd | none=>false)=hold at *;clear hq how how' hkd hnme hdep hup hm he hl hd hPT hPTl hsz hnum hsn G;have hxl:X.length<=1000:=hX;unfold eu at hb1 HAdd ⊢;go_enter func351,ntmps351
 go_upto_if 8 with fail
 change Code.wp _ _ _ _ (w.alloc (.cells #[(num:Int),(dep:Int),(kd:Int),nme] 352));obtain ⟨W1,hW1⟩:∃ y,y=w.alloc (.cells #[(num:Int),(dep:Int),(kd:Int),nme] 352):=⟨_,rfl⟩;obtain ⟨B,hB⟩:∃ B,B=w.heap.size:=⟨_,rfl⟩;have hbx:W1.heap[B]?=some (.cells #[(num:Int),(dep:Int),(kd:Int),nme] 352 (0,0)):=by rw [hW1,hB];exact MD _ _
 rw [<- hW1] at hb1 ⊢;have HBl:Hid (B=w.heap.size):=hB;rw [<- hB];clear hW1 hB
 go_cut [4] (fun v wx=>v = .int .i64 ow/\Below w w wx/\wx.heap[B]?=some (.cells #[(num:Int),(dep:Int),(kd:Int),nme] 352 (0,0)))
 case first =>
  have b0:W1.cell? B=some ↑(num:Int):=by rw [My W1 _ _ _ _ _ hbx];rfl
  have b1:W1.cell? ⟨B,1,none⟩=some ↑(dep:Int):=by rw [My W1 _ _ _ _ _ hbx];rfl
  by_cases h0:0<dep
  ·go_wp2_with fail;refine (HOwn.out h0 _ hb1).mono ?_;rintro e w2 ⟨rfl,hb2⟩;dsimp only;go_wp2;go_meet
   case rel=>exact ⟨rfl,hb1.trans (hb2.mono hb1.size),(hb2.block _ (Ms.1 hbx).1).trans hbx⟩
  ·have hd0:dep=0:=zaa;have how0:=HO0.out hd0;go_wp2;go_meet
   case rel=>exact ⟨by rw [how0],hb1,hbx⟩
 case rest =>
  obtain ⟨rfl,hbw,hbx2⟩:=hcut;obtain ⟨W2,hW⟩:∃ y:World,y=wc:=⟨wc,rfl⟩;subst hW;clear hb1 hbx;have b0:W2.cell? B=some ↑(num:Int):=zba;have b1:W2.cell? ⟨B,1,none⟩=some ↑(dep:Int):=zba;have b2:W2.cell? ⟨B,2,none⟩=some ↑(kd:Int):=zba;have b3:W2.cell? ⟨B,3,none⟩=some ↑nme:=zba;have d0:W2.cell? db=some (.slice sv.a X.length sv.c):=(MK (w:=w) (hbw.block db hdb)).trans c0;have hbs:=hbw.size;by_cases h24:X.length=24
  ·have HF:Hid (iT X PT dep ow kd=false):=by unfold Hid;rw [HOk.out,NC h24];rfl
   have h24':((X.length:Int) == 24)=true:=by rw [h24];rfl
   exact zdu
  ·have h24':((X.length:Int) == 24)=false:=zaf;by_cases h5:5<dep
   ·have HF:Hid (iT X PT dep ow kd=false):=by unfold Hid;rw [HOk.out,NC h5];simp
    exact zdu
   ·have HF:Hid (iT X PT dep ow kd=hold):=by unfold Hid;rw [HOk.out,No h24,No h5];rfl
    clear h24;go_wp2_with fail;refine (HHold.out _ hbw).mono ?_;rintro e w3 ⟨rfl,hb3⟩;have hbw3:=hbw.trans (hb3.mono hbs);have hbx3:=(hb3.block _ (Ms.1 hbx2).1).trans hbx2;have a0:w3.cell? B=some ↑(num:Int):=zbb;have a1:w3.cell? ⟨B,1,none⟩=some ↑(dep:Int):=zbb;have a2:w3.cell? ⟨B,2,none⟩=some ↑(kd:Int):=zbb;have a3:w3.cell? ⟨B,3,none⟩=some ↑nme:=zbb;clear b0 b1 b2 b3 d0 hb3;cases hold with
    | false =>
     dsimp only;go_wp2_with fail;refine (aU num dep 3 _).mono ?_;rintro e w4 ⟨hb,b,h5,h6,rfl⟩;dsimp only;refine ⟨rfl,?_⟩;rw [HF.out];exact ⟨hbw3.trans (hb.mono hbw3.size),b,Mv hbw3.size h5,h6,rfl⟩
    | true =>
     dsimp only;go_wp2_with fail;refine (HAdd.out _ hbw3).mono ?_;rintro e w4 ⟨rfl,hadd⟩;dsimp only;go_wp2;go_end0;exact ⟨rfl,hadd⟩
variable {w0 w:World} {db mb nm:Nat} {sv pv ov:Ref.Sl} {tm:Bool} {X:List Pro.DS} {SP:List (Int×Int)} {O:List Nat} {PT:Nat->List Nat} {D:DataW Nat}
theorem kI (num:Int) (dep:Nat) (a:Option Addr) (n c:Nat) (G:aq w0 w db sv pv ov mb tm X SP O PT nm D) (h:dep=0\/O.length<dep) (hd:dep<=1073741824) :
  () 361 #[.agg #[(num:Int),(dep:Int),.slice a n c],db] w (aY 3 num w):=by
 have hdl:=G.dlt;go_enter func361,ntmps361
 go_upto_region 1 with fail
 have hb1:Below w w (((w.alloc (.cells #[(num:Int),(dep:Int),.slice a n c] 363)).drew).alloc (.cells #[(3:Int),(4:Int)] 159)):=((Mw _ _).alloc (Mt _) _).drew.alloc zad _;have G1:=G.ak hb1;refine Oh zab ?_;change wpAny _ _ _ _ _ _ _ (World.drew _);refine tA 0 w rfl ?_;refine tA 2 db rfl ?_;refine tA 3 w rfl ?_;refine tA 4 w rfl ?_;refine yA [1,5,6] ?_;refine MA rfl (fun K hK => ?_) (MA rfl (fun K hK => ?_) (MA rfl (fun K hK => ?_) MX))
 ·exact zcK
 ·exact zcI
 ·exact zcH
theorem qb (num:Int) (dep:Nat) (a:Option Addr) (n c:Nat) (k u g cap:Nat) (G:aq w0 w db ⟨some ⟨g,0,none⟩,X.length,cap⟩ pv ov mb tm X SP O PT nm D) (hk:k<O.length) (hd:dep=k+1) (hO:O.length<=1073741824) (hku:O[k]=u) (hu:u<X.length) (hh:Pro.ao X[u].s∈([3,4]:List Int)) :
  () 361 #[.agg #[(num:Int),(dep:Int),.slice a n c],db] w (aY 3 num w):=by
 have hdl:=G.dlt;have hb1:Below w w (((w.alloc (.cells #[(num:Int),(dep:Int),.slice a n c] 363)).drew).alloc (.cells #[(3:Int),(4:Int)] 159)):=((Mw _ _).alloc (Mt _) _).drew.alloc zad _;have hkb:(((w.alloc (.cells #[(num:Int),(dep:Int),.slice a n c] 363)).drew).alloc (.cells #[(3:Int),(4:Int)] 159)).heap[w.heap.size+1]?=some (.cells (([3,4]:List Int).map (Value.int .i64)).toArray 159 (0,0)):=by
  exact zdO
 have HC:Hid (() 359 #[db,.agg #[(num:Int),(dep:Int)],.slice (some ⟨w.heap.size+1,0,none⟩) 2 2] (((w.alloc (.cells #[(num:Int),(dep:Int),.slice a n c] 363)).drew).alloc (.cells #[(3:Int),(4:Int)] 159)) (aA num (Pro.ao X[u].s) [3,4] ⟨g,u*8,none⟩ (((w.alloc (.cells #[(num:Int),(dep:Int),.slice a n c] 363)).drew).alloc (.cells #[(3:Int),(4:Int)] 159)))):=cX num dep k u [3,4] (w.heap.size+1) g cap (G.ak hb1) hk hd hO hku hu hkb zac;clear hd hku hk hO hkb;go_enter func361,ntmps361
 go_upto_region 1 with fail
 refine Oh zab ?_;change wpAny _ _ _ _ _ _ _ (World.drew _);refine tA 0 w rfl ?_;refine tA 2 db rfl ?_;refine tA 3 w rfl ?_;refine tA 4 w rfl ?_;refine yA [1,5,6] ?_;refine MA rfl (fun K hK => ?_) (MA rfl (fun K hK => ?_) (MA rfl (fun K hK => ?_) MX))
 ·exact zcJ
 ·exact zcE
 ·exact zcD
theorem ph (num:Int) (dep:Nat) (a:Option Addr) (n c:Nat) (k u g cap:Nat) (G:aq w0 w db ⟨some ⟨g,0,none⟩,X.length,cap⟩ pv ov mb tm X SP O PT nm D) (hk:k<O.length) (hd:dep=k+1) (hO:O.length<=1073741824) (hku:O[k]=u) (hu:u<X.length) (hh:¬ Pro.ao X[u].s∈([3,4]:List Int)) (h2:0<X[u].ve.n) :
  () 361 #[.agg #[(num:Int),(dep:Int),.slice a n c],db] w (aY 3 num w):=by
 have hdl:=G.dlt;have hb1:Below w w (((w.alloc (.cells #[(num:Int),(dep:Int),.slice a n c] 363)).drew).alloc (.cells #[(3:Int),(4:Int)] 159)):=((Mw _ _).alloc (Mt _) _).drew.alloc zad _;have hkb:(((w.alloc (.cells #[(num:Int),(dep:Int),.slice a n c] 363)).drew).alloc (.cells #[(3:Int),(4:Int)] 159)).heap[w.heap.size+1]?=some (.cells (([3,4]:List Int).map (Value.int .i64)).toArray 159 (0,0)):=by
  exact zdO
 have HC:Hid (() 359 #[db,.agg #[(num:Int),(dep:Int)],.slice (some ⟨w.heap.size+1,0,none⟩) 2 2] (((w.alloc (.cells #[(num:Int),(dep:Int),.slice a n c] 363)).drew).alloc (.cells #[(3:Int),(4:Int)] 159)) (aA num (Pro.ao X[u].s) [3,4] ⟨g,u*8,none⟩ (((w.alloc (.cells #[(num:Int),(dep:Int),.slice a n c] 363)).drew).alloc (.cells #[(3:Int),(4:Int)] 159)))):=cX num dep k u [3,4] (w.heap.size+1) g cap (G.ak hb1) hk hd hO hku hu hkb zac;obtain ⟨hcap,hgl,hg0⟩:=G.tz;have hrng:=G.tW hu;have hfz:w.frozen? ⟨g,u*8+5,none⟩=false:=N5 (aD G.states (MJ _)) _;have cv:w.cell? ⟨g,u*8+5,none⟩=some (.slice X[u].ve.a X[u].ve.n X[u].ve.c):=hrng 5 _ rfl;have hlw:w.heap.size<(((w.alloc (.cells #[(num:Int),(dep:Int),.slice a n c] 363)).drew).alloc (.cells #[(3:Int),(4:Int)] 159)).heap.size:=zaf;have HF:Hid (∀ w4,Below (((w.alloc (.cells #[(num:Int),(dep:Int),.slice a n c] 363)).drew).alloc (.cells #[(3:Int),(4:Int)] 159)).heap.size (((w.alloc (.cells #[(num:Int),(dep:Int),.slice a n c] 363)).drew).alloc (.cells #[(3:Int),(4:Int)] 159)) w4->w4.cell? ⟨g,u*8+5,none⟩=some (.slice X[u].ve.a X[u].ve.n X[u].ve.c)/\w4.frozen? ⟨g,u*8+5,none⟩=false/\w4.cell? w=some ↑(num:Int)/\w4.cell? ⟨w,1,none⟩=some ↑(dep:Int)/\w4.cell? ⟨w,2,none⟩=some (.slice a n c)):=by
  exact zc9
 clear cv hfz hrng;clear hd hku hk hO hkb;go_enter func361,ntmps361
 go_upto_region 1 with fail
 refine Oh zab ?_;change wpAny _ _ _ _ _ _ _ (World.drew _);refine tA 0 w rfl ?_;refine tA 2 db rfl ?_;refine tA 3 w rfl ?_;refine tA 4 w rfl ?_;refine yA [1,5,6] ?_;refine MA rfl (fun K hK => ?_) (MA rfl (fun K hK => ?_) (MA rfl (fun K hK => ?_) MX))
 ·go_simp;refine hK _ _ ?_;clear hK K;refine yA [5,6] ?_;refine MA rfl (fun K hK => ?_) (MA rfl (fun K hK => ?_) MX)
  ·exact zcN
  ·exact zcL
 ·go_simp;refine hK _ _ ?_;clear hK K;refine yA [1,6] ?_;refine MA rfl (fun K hK => ?_) (MA rfl (fun K hK => ?_) MX)
  ·exact zcN
  ·exact zcy
 ·go_simp;refine hK _ _ ?_;clear hK K;refine yA [1,5] ?_;refine MA rfl (fun K hK => ?_) (MA rfl (fun K hK => ?_) MX)
  ·exact zcL
  ·exact zcy
theorem rA (num:Int) (dep:Nat) (a:Option Addr) (n c:Nat) (k u g cap:Nat) (G:aq w0 w db ⟨some ⟨g,0,none⟩,X.length,cap⟩ pv ov mb tm X SP O PT nm D) (hk:k<O.length) (hd:dep=k+1) (hO:O.length<=1073741824) (hku:O[k]=u) (hu:u<X.length) (hh:¬ Pro.ao X[u].s∈([3,4]:List Int)) (h2:X[u].ve.n=0) (A:List Ref.Act) (hA:w0.ownsRow 0 251 1 (.slice a n c) A.length (A.map bh)) :
  () 361 #[.agg #[(num:Int),(dep:Int),.slice a n c],db] w fun e w'=>e = .returned (.tuple #[])/\aq w0 w' db ⟨some ⟨g,0,none⟩,X.length,cap⟩ pv ov mb tm (X.set u (Pro.gD X[u] num A ⟨a,n,c⟩)) SP O PT nm D:=by
 have hdl:=G.dlt;have hb1:Below w w (((w.alloc (.cells #[(num:Int),(dep:Int),.slice a n c] 363)).drew).alloc (.cells #[(3:Int),(4:Int)] 159)):=((Mw _ _).alloc (Mt _) _).drew.alloc zad _;have hkb:(((w.alloc (.cells #[(num:Int),(dep:Int),.slice a n c] 363)).drew).alloc (.cells #[(3:Int),(4:Int)] 159)).heap[w.heap.size+1]?=some (.cells (([3,4]:List Int).map (Value.int .i64)).toArray 159 (0,0)):=by
  exact zdO
 have HC:Hid (() 359 #[db,.agg #[(num:Int),(dep:Int)],.slice (some ⟨w.heap.size+1,0,none⟩) 2 2] (((w.alloc (.cells #[(num:Int),(dep:Int),.slice a n c] 363)).drew).alloc (.cells #[(3:Int),(4:Int)] 159)) (aA num (Pro.ao X[u].s) [3,4] ⟨g,u*8,none⟩ (((w.alloc (.cells #[(num:Int),(dep:Int),.slice a n c] 363)).drew).alloc (.cells #[(3:Int),(4:Int)] 159)))):=cX num dep k u [3,4] (w.heap.size+1) g cap (G.ak hb1) hk hd hO hku hu hkb zac;obtain ⟨hcap,hgl,hg0⟩:=G.tz;have hrng:=G.tW hu;have hfz:w.frozen? ⟨g,u*8+5,none⟩=false:=N5 (aD G.states (MJ _)) _;have cv:w.cell? ⟨g,u*8+5,none⟩=some (.slice X[u].ve.a X[u].ve.n X[u].ve.c):=hrng 5 _ rfl;have hlw:w.heap.size<(((w.alloc (.cells #[(num:Int),(dep:Int),.slice a n c] 363)).drew).alloc (.cells #[(3:Int),(4:Int)] 159)).heap.size:=zaf;have HF:Hid (∀ w4,Below (((w.alloc (.cells #[(num:Int),(dep:Int),.slice a n c] 363)).drew).alloc (.cells #[(3:Int),(4:Int)] 159)).heap.size (((w.alloc (.cells #[(num:Int),(dep:Int),.slice a n c] 363)).drew).alloc (.cells #[(3:Int),(4:Int)] 159)) w4->w4.cell? ⟨g,u*8+5,none⟩=some (.slice X[u].ve.a X[u].ve.n X[u].ve.c)/\w4.frozen? ⟨g,u*8+5,none⟩=false/\w4.cell? w=some ↑(num:Int)/\w4.cell? ⟨w,1,none⟩=some ↑(dep:Int)/\w4.cell? ⟨w,2,none⟩=some (.slice a n c)):=by
  exact zc9
 have HG:Hid (∀ w4 w5,Below (((w.alloc (.cells #[(num:Int),(dep:Int),.slice a n c] 363)).drew).alloc (.cells #[(3:Int),(4:Int)] 159)).heap.size (((w.alloc (.cells #[(num:Int),(dep:Int),.slice a n c] 363)).drew).alloc (.cells #[(3:Int),(4:Int)] 159)) w4->Below w4.heap.size (w4.setCell ⟨g,u*8+5,none⟩ (.slice a n c)) w5->aq w0 w5 db ⟨some ⟨g,0,none⟩,X.length,cap⟩ pv ov mb tm (X.set u (Pro.gD X[u] num A ⟨a,n,c⟩)) SP O PT nm D):=by
  intro w4 w5 hb4 hb5;have hw4:=hb1.trans (hb4.mono hb1.size);have h:=G.CZ (v':=⟨a,n,c⟩) (x':=Pro.gD X[u] num A ⟨a,n,c⟩) (j:=5) hw4 hu zac rfl rfl rfl rfl hA (G.deep u hu).leave;exact h.ak (hb5.mono zad)
 rw [h2] at HF;clear cv hfz hrng h2;clear hd hku hk hO hkb;go_enter func361,ntmps361
 go_upto_region 1 with fail
 refine Oh zab ?_;change wpAny _ _ _ _ _ _ _ (World.drew _);refine tA 0 w rfl ?_;refine tA 2 db rfl ?_;refine tA 3 w rfl ?_;refine tA 4 w rfl ?_;refine yA [1,5,6] ?_;refine MA rfl (fun K hK => ?_) (MA rfl (fun K hK => ?_) (MA rfl (fun K hK => ?_) MX))
 ·go_simp;refine hK _ _ ?_;clear hK K;refine yA [5,6] ?_;refine MA rfl (fun K hK => ?_) (MA rfl (fun K hK => ?_) MX)
  ·exact zcT
  ·exact zcR
 ·go_simp;refine hK _ _ ?_;clear hK K;refine yA [1,6] ?_;refine MA rfl (fun K hK => ?_) (MA rfl (fun K hK => ?_) MX)
  ·exact zcT
  ·exact zcA
 ·go_simp;refine hK _ _ ?_;clear hK K;refine yA [1,5] ?_;refine MA rfl (fun K hK => ?_) (MA rfl (fun K hK => ?_) MX)
  ·exact zcR
  ·exact zcA
