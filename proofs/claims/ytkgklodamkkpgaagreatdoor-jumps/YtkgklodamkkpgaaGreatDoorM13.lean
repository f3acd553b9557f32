import Derived.Test.YtkgklodamkkpgaaGreatDoorM12
import Derived.Deep.RegionHeldLaw
set_option maxRecDepth 100000
set_option maxHeartbeats 8000000
namespace Go.Proofs.YtkgklodamkkpgaaGreatDoor
variable {zp:Prop}
theorem zfz (h:zp:=by
 go_simp;refine hK _ _ ?_;clear hK K;refine zA 6 rfl fun K hK => ?_
 ·go_simp;refine hK _ _ ?_;clear hK K;refine zA 7 rfl fun K hK => ?_
  ·go_simp;refine HC.out.mono ?_;rintro e w4 h4;unfold aA at h4;rw [M6 hh] at h4;obtain ⟨hb,b,h5,h6,rfl⟩:=h4;dsimp only;exact ⟨rfl,hb1.trans (hb.mono hb1.size),b,MX hb1.size h5,h6,rfl⟩):zp:=h
theorem zfA (h:zp:=by
 go_simp;refine hK _ _ ?_;clear hK K;refine zA 6 rfl fun K hK => ?_
 ·go_simp;refine hK _ _ ?_;clear hK K;refine zA 7 rfl fun K hK => ?_
  ·go_simp;refine (aR num dep _ G1 h hd).mono ?_;rintro e w4 ⟨hb,b,h5,h6,rfl⟩;dsimp only;exact ⟨rfl,hb1.trans (hb.mono hb1.size),b,MX hb1.size h5,h6,rfl⟩):zp:=h
theorem zfD (h:zp:=by
 go_simp;refine hK _ _ ?_;clear hK K;refine zA 7 rfl fun K hK => ?_
 ·go_simp;refine HC.out.mono ?_;rintro e w4 h4;unfold aA at h4;rw [M6 hh] at h4;obtain ⟨hb,b,h5,h6,rfl⟩:=h4;dsimp only;exact ⟨rfl,hb1.trans (hb.mono hb1.size),b,MX hb1.size h5,h6,rfl⟩):zp:=h
theorem zfE (h:zp:=by
 go_simp;refine hK _ _ ?_;clear hK K;refine zA 7 rfl fun K hK => ?_
 ·go_simp;refine (aR num dep _ G1 h hd).mono ?_;rintro e w4 ⟨hb,b,h5,h6,rfl⟩;dsimp only;exact ⟨rfl,hb1.trans (hb.mono hb1.size),b,MX hb1.size h5,h6,rfl⟩):zp:=h
theorem zfF (h:zp:=by
 rintro e w5 ⟨hb,b,h5,h6,rfl⟩;dsimp only;exact ⟨rfl,(hb1.trans (hb4.mono hb1.size)).trans (hb.mono (MX hb1.size hb4.size)),b,MX (MX hb1.size hb4.size) h5,h6,rfl⟩):zp:=h
theorem zfG (h:zp:=by
 rintro e w5 ⟨rfl,hb5⟩;have G5:=HG.out w4 w5 hb4 hb5;dsimp only;refine hK _ _ ?_;clear hK K;refine Oq zab ?_ _;go_wp2;go_end0;exact ⟨rfl,G5⟩):zp:=h
theorem zcw (h:zp:=by
 clear hK K;refine zH 15 rfl fun K hK => ?_;refine step_append_lies _ zaf _ _ _ zaf w0.heap.size 171 i0 _ 8 136 underlying150 hi hz0 hz1 hz2 rfl zac (.slice sv1.a sv1.n sv1.c) X1.length (X1.flatMap Pro.aO) zaf (bY hown _) ⟨W2,0,none⟩ 1 1 [(kd:Int),nme,(dep:Int),(ow:Int),.slice none 0 0,.slice none 0 0,.slice none 0 0,.slice none 0 0] zaf zaf (World.news_of_block (cs:=#[(kd:Int),nme,(dep:Int),(ow:Int),.slice none 0 0,.slice none 0 0,.slice none 0 0,.slice none 0 0]) (t:=171) (fr:=(0,0)) (Na W2 _)) zao zaa zag zaa zae (W2.heap.size+1) zad ?_;intro g5 cap5 w5 hown5 hgrow hat hlt5;have hfz5:=((hgrow.frozen_far ⟨db,0,none⟩ zae HND.out).trans ((((MY W2 W2).alloc (MR _) _).drew).frozen (p:=⟨db,0,none⟩) hdl)).trans f0;have hcc5:=((hgrow.cell_far ⟨db,0,none⟩ zae HND.out).trans ((((MY W2 W2).alloc (MR _) _).drew).cell (p:=⟨db,0,none⟩) hdl)).trans c0;have k1:=((hgrow.cell_far ⟨B,1,none⟩ zae HNB.out).trans ((((MY W2 W2).alloc (MR _) _).drew).cell (p:=⟨B,1,none⟩) hbl)).trans b1;have k2:=((hgrow.cell_far ⟨B,2,none⟩ zae HNB.out).trans ((((MY W2 W2).alloc (MR _) _).drew).cell (p:=⟨B,2,none⟩) hbl)).trans b2;have k3:=((hgrow.cell_far ⟨B,3,none⟩ zae HNB.out).trans ((((MY W2 W2).alloc (MR _) _).drew).cell (p:=⟨B,3,none⟩) hbl)).trans b3;refine hK.out _ _ ⟨k1,k2,k3⟩ (fun u0 => ?_);clear hK K;refine tH 16 db rfl u0 ?_;refine tH 17 db rfl u0 ?_;refine zH 18 rfl fun K hK => ?_;go_simp;refine hK.out _ _ zam (fun u0 => ?_);clear hK K;refine Nt zab ?_ _;go_wp2_with fail;go_meet
 case rel =>
  have hbc:Below W2 W2 ((W2.alloc (.cells #[(kd:Int),nme,(dep:Int),(ow:Int),.slice none 0 0,.slice none 0 0,.slice none 0 0,.slice none 0 0] 171)).drew):=((MY _ _).alloc (MR _) _).drew;rw [<- HDS.out] at hown5;refine ⟨⟨some ⟨g5,0,none⟩,X1.length+1,cap5⟩,A2.G.yp (sv':=⟨some ⟨g5,0,none⟩,X1.length+1,cap5⟩) hbc hgrow hown5 rfl rfl rfl rfl HE.out.2.2.2.2.2.1 HE.out.2.2.2.2.2.2 HE.out.2.2.2.2.1 HPT1.out,?_⟩;rw [(aa w5 db 0 _).block B (fun h=>by
   have b1:=A2.box;have hc':=A2.G.draft;rw [h,hc'] at b1;simp at b1)]
  exact fV A2.box hbc (bY hown _) hgrow zac):zp:=h
theorem zcx (h:zp:=by
 clear hK K;refine zH 8 rfl fun K hK => ?_;refine step_append_lies _ zaf _ _ _ zaf w0.heap.size 223 i0 _ 2 16 underlying151 hi hz0 hz1 hz2 rfl zac (.slice pv.a pv.n pv.c) SP.length (SP.flatMap Pro.iH) zaf (bY hown _) ⟨W3,0,none⟩ 1 1 [(num:Int),(dep:Int)] zaf zaf (World.news_of_block (cs:=#[(num:Int),(dep:Int)]) (t:=223) (fr:=(0,0)) (Na W3 _)) zao zaa zag zaa zae (W3.heap.size+1) zad ?_;intro g5 cap5 w5 hown5 hgrow hat hlt5;have hfz5:=((hgrow.frozen_far ⟨db,1,none⟩ zae HND.out).trans ((((MY W3 W3).alloc (MR _) _).drew).frozen (p:=⟨db,1,none⟩) hdl)).trans f1;have hcc5:=((hgrow.cell_far ⟨db,1,none⟩ zae HND.out).trans ((((MY W3 W3).alloc (MR _) _).drew).cell (p:=⟨db,1,none⟩) hdl)).trans c1;have k0:=((hgrow.cell_far ⟨B,0,none⟩ zae HNB.out).trans ((((MY W3 W3).alloc (MR _) _).drew).cell (p:=⟨B,0,none⟩) hbl)).trans b0;have k1:=((hgrow.cell_far ⟨B,1,none⟩ zae HNB.out).trans ((((MY W3 W3).alloc (MR _) _).drew).cell (p:=⟨B,1,none⟩) hbl)).trans b1;refine hK.out _ _ ⟨k0,k1⟩ (fun u0 => ?_);clear hK K;refine tH 9 db rfl u0 ?_;refine tH 10 (.pointer (some ⟨db,1,none⟩)) rfl u0 ?_;refine zH 11 rfl fun K hK => ?_;go_simp;refine hK.out _ _ zam (fun u0 => ?_);clear hK K;refine Nt zab ?_ _;go_wp2_with fail;go_meet
 case rel =>
  have hbc:Below W3 W3 ((W3.alloc (.cells #[(num:Int),(dep:Int)] 223)).drew):=((MY _ _).alloc (MR _) _).drew;refine ⟨⟨some ⟨g5,0,none⟩,SP.length+1,cap5⟩,A3.G.CN (pv':=⟨some ⟨g5,0,none⟩,SP.length+1,cap5⟩) (q:=(num,(dep:Int))) hbc hgrow hown5,?_⟩;rw [(aa w5 db 1 _).block B hnb2];exact fV A3.box hbc (bY hown _) hgrow zac):zp:=h
theorem zcy (h:zp:=by
 refine zH 11 rfl fun K hK => ?_;refine step_append_lies _ zaf _ _ _ zaf w0.heap.size 3 i0 _ 1 8 underlying23 hi hz0 hz1 hz2 rfl zac (.slice go dep oc) dep ((O.take dep).flatMap ep) zaf (bY hownT _) ⟨W4,0,none⟩ 1 1 [(X.length:Int)] zaf zaf (World.news_of_block (cs:=#[(X.length:Int)]) (t:=3) (fr:=(0,0)) (Na W4 _)) zao zaa zag zaa zae (W4.heap.size+1) zad ?_;intro g5 cap5 w5 hown5 hgrow hat hlt5;have hfz5:=((hgrow.frozen_far ⟨db,2,none⟩ zae HND.out).trans ((((MY W4 W4).alloc (MR _) _).drew).frozen (p:=⟨db,2,none⟩) hdl)).trans f2;have hcc5:=((hgrow.cell_far ⟨db,2,none⟩ zae HND.out).trans ((((MY W4 W4).alloc (MR _) _).drew).cell (p:=⟨db,2,none⟩) hdl)).trans c2;have k1:=((hgrow.cell_far ⟨B,1,none⟩ zae HNB.out).trans ((((MY W4 W4).alloc (MR _) _).drew).cell (p:=⟨B,1,none⟩) hbl)).trans b1;refine hK.out _ _ k1 (fun u0 => ?_);clear hK K;refine tH 12 db rfl u0 ?_;refine tH 13 (.pointer (some ⟨db,2,none⟩)) rfl u0 ?_;refine zH 14 rfl fun K hK => ?_;go_simp;refine hK.out _ _ zam (fun u0 => ?_);clear hK K;refine Nt zab ?_ _;go_wp2_with fail;go_meet
 case rel =>
  have hbc:Below W4 W4 ((W4.alloc (.cells #[(X.length:Int)] 3)).drew):=((MY _ _).alloc (MR _) _).drew;refine ⟨⟨some ⟨g5,0,none⟩,dep+1,cap5⟩,A4.G.qL (ov':=⟨some ⟨g5,0,none⟩,dep+1,cap5⟩) (O':=O.take dep++[X.length]) hbc hgrow (by
   rw [Nj,N8,Rn HD.out,NQ];exact hown5) (by
   rcases hat with h | h
   ·exact .inl h.symm
   ·exact .inr zax),?_⟩
  rw [(aa w5 db 2 _).block B hnb2];exact fV A4.box hbc (bY hownT _) hgrow zac):zp:=h
theorem zcz (h:zp:=by
 refine zH 11 rfl fun K hK => ?_;refine step_append_lies _ zaf _ _ _ zaf w0.heap.size 3 i0 _ 1 8 underlying23 hi hz0 hz1 hz2 rfl zac (.slice none 0 0) 0 [] zaf (bY hownN _) ⟨W4,0,none⟩ 1 1 [(X.length:Int)] zaf zaf (World.news_of_block (cs:=#[(X.length:Int)]) (t:=3) (fr:=(0,0)) (Na W4 _)) zao zaa zag zaa zae (W4.heap.size+1) zad ?_;intro g5 cap5 w5 hown5 hgrow hat hlt5;have hfz5:=((hgrow.frozen_far ⟨db,2,none⟩ zae HND.out).trans ((((MY W4 W4).alloc (MR _) _).drew).frozen (p:=⟨db,2,none⟩) hdl)).trans f2;have hcc5:=((hgrow.cell_far ⟨db,2,none⟩ zae HND.out).trans ((((MY W4 W4).alloc (MR _) _).drew).cell (p:=⟨db,2,none⟩) hdl)).trans c2;have k1:=((hgrow.cell_far ⟨B,1,none⟩ zae HNB.out).trans ((((MY W4 W4).alloc (MR _) _).drew).cell (p:=⟨B,1,none⟩) hbl)).trans b1';refine hK.out _ _ k1 (fun u0 => ?_);clear hK K;refine tH 12 db rfl u0 ?_;refine tH 13 (.pointer (some ⟨db,2,none⟩)) rfl u0 ?_;refine zH 14 rfl fun K hK => ?_;go_simp;refine hK.out _ _ zam (fun u0 => ?_);clear hK K;refine Nt zab ?_ _;go_wp2_with fail;go_meet
 case rel =>
  have hbc:Below W4 W4 ((W4.alloc (.cells #[(X.length:Int)] 3)).drew):=((MY _ _).alloc (MR _) _).drew;refine ⟨⟨some ⟨g5,0,none⟩,0+1,cap5⟩,A4.G.qL (ov':=⟨some ⟨g5,0,none⟩,0+1,cap5⟩) (O':=([]:List Nat).take 0++[X.length]) hbc hgrow (by
   rw [Nj,N8,Rn HD.out,NQ];exact hown5) (by
   rcases hat with h | h
   ·exact .inl h.symm
   ·exact .inr zax),?_⟩
  rw [(aa w5 db 2 _).block B hnb2];exact fV A4.box hbc (bY hownN _) hgrow zac):zp:=h
theorem zcA (h:zp:=by
 go_simp;refine hK _ _ ?_;clear hK K;refine yA [1,7] ?_;refine M5 rfl (fun K hK => ?_) (M5 rfl (fun K hK => ?_) Ns)
 ·go_simp;refine hK _ _ ?_;clear hK K;refine zA 7 rfl fun K hK => ?_
  ·go_simp;refine HC.out.mono ?_;rintro e w4 h4;unfold aA at h4;rw [M4 hh] at h4;obtain ⟨rfl,hb4⟩:=h4;obtain ⟨cx,fx,q0,q1,q2⟩:=HF.out w4 hb4;dsimp only;refine hK _ _ ?_;clear hK K;refine tA 8 (.pointer (some ⟨g,u*8,none⟩)) rfl ?_;refine tA 9 (.pointer (some ⟨g,u*8+5,none⟩)) rfl ?_;refine zA 10 rfl fun K hK => ?_;go_simp;refine (bH num dep a n c g (u*8+5) _ _ _ cx h2).mono ?_;exact zfF
 ·go_simp;refine HC.out.mono ?_;rintro e w4 h4;unfold aA at h4;rw [M4 hh] at h4;obtain ⟨rfl,hb4⟩:=h4;obtain ⟨cx,fx,q0,q1,q2⟩:=HF.out w4 hb4;dsimp only;refine hK _ _ ?_;clear hK K;refine tA 8 (.pointer (some ⟨g,u*8,none⟩)) rfl ?_;refine tA 9 (.pointer (some ⟨g,u*8+5,none⟩)) rfl ?_;refine zA 1 rfl fun K hK => ?_;go_simp;refine hK _ _ ?_;clear hK K;refine zA 10 rfl fun K hK => ?_;go_simp;refine (bH num dep a n c g (u*8+5) _ _ _ cx h2).mono ?_;rintro e w5 ⟨hb,b,h5,h6,rfl⟩;dsimp only;exact ⟨rfl,(hb1.trans (hb4.mono hb1.size)).trans (hb.mono (MX hb1.size hb4.size)),b,MX (MX hb1.size hb4.size) h5,h6,rfl⟩):zp:=h
theorem zcC (h:zp:=by
 go_simp;refine hK _ _ ?_;clear hK K;refine yA [1,7] ?_;refine M5 rfl (fun K hK => ?_) (M5 rfl (fun K hK => ?_) Ns)
 ·go_simp;refine hK _ _ ?_;clear hK K;refine zA 7 rfl fun K hK => ?_
  ·go_simp;refine HC.out.mono ?_;rintro e w4 h4;unfold aA at h4;rw [M4 hh] at h4;obtain ⟨rfl,hb4⟩:=h4;obtain ⟨cx,fx,q0,q1,q2⟩:=HF.out w4 hb4;dsimp only;refine hK _ _ ?_;clear hK K;refine tA 8 (.pointer (some ⟨g,u*8,none⟩)) rfl ?_;refine tA 9 (.pointer (some ⟨g,u*8+5,none⟩)) rfl ?_;refine zA 10 rfl fun K hK => ?_;go_simp;refine (br num dep a n c g (u*8+5) _ _ cx fx).mono ?_;exact zfG
 ·go_simp;refine HC.out.mono ?_;rintro e w4 h4;unfold aA at h4;rw [M4 hh] at h4;obtain ⟨rfl,hb4⟩:=h4;obtain ⟨cx,fx,q0,q1,q2⟩:=HF.out w4 hb4;dsimp only;refine hK _ _ ?_;clear hK K;refine tA 8 (.pointer (some ⟨g,u*8,none⟩)) rfl ?_;refine tA 9 (.pointer (some ⟨g,u*8+5,none⟩)) rfl ?_;refine zA 1 rfl fun K hK => ?_;go_simp;refine hK _ _ ?_;clear hK K;refine zA 10 rfl fun K hK => ?_;go_simp;refine (br num dep a n c g (u*8+5) _ _ cx fx).mono ?_;rintro e w5 ⟨rfl,hb5⟩;have G5:=HG.out w4 w5 hb4 hb5;dsimp only;refine hK _ _ ?_;clear hK K;refine Oq zab ?_ _;go_wp2;go_end0;exact ⟨rfl,G5⟩):zp:=h
theorem zcF (h:zp:=by
 go_simp;refine hK _ _ ?_;clear hK K;refine yA [1,5] ?_;refine M5 rfl (fun K hK => ?_) (M5 rfl (fun K hK => ?_) Ns)
 ·go_simp;refine hK _ _ ?_;clear hK K;refine zA 5 rfl fun K hK => ?_
  ·exact zfD
 ·go_simp;refine hK _ _ ?_;clear hK K;refine yA [1,7] ?_;refine M5 rfl (fun K hK => ?_) (M5 rfl (fun K hK => ?_) Ns)
  ·exact zfD
  ·go_simp;refine HC.out.mono ?_;rintro e w4 h4;unfold aA at h4;rw [M6 hh] at h4;obtain ⟨hb,b,h5,h6,rfl⟩:=h4;dsimp only;exact ⟨rfl,hb1.trans (hb.mono hb1.size),b,MX hb1.size h5,h6,rfl⟩):zp:=h
theorem zcG (h:zp:=by
 go_simp;refine hK _ _ ?_;clear hK K;refine yA [1,6] ?_;refine M5 rfl (fun K hK => ?_) (M5 rfl (fun K hK => ?_) Ns)
 ·exact zfz
 ·go_simp;refine hK _ _ ?_;clear hK K;refine yA [1,7] ?_;refine M5 rfl (fun K hK => ?_) (M5 rfl (fun K hK => ?_) Ns)
  ·exact zfD
  ·go_simp;refine HC.out.mono ?_;rintro e w4 h4;unfold aA at h4;rw [M6 hh] at h4;obtain ⟨hb,b,h5,h6,rfl⟩:=h4;dsimp only;exact ⟨rfl,hb1.trans (hb.mono hb1.size),b,MX hb1.size h5,h6,rfl⟩):zp:=h
theorem zcJ (h:zp:=by
 go_simp;refine hK _ _ ?_;clear hK K;refine yA [1,5] ?_;refine M5 rfl (fun K hK => ?_) (M5 rfl (fun K hK => ?_) Ns)
 ·go_simp;refine hK _ _ ?_;clear hK K;refine zA 5 rfl fun K hK => ?_
  ·exact zfE
 ·go_simp;refine hK _ _ ?_;clear hK K;refine yA [1,7] ?_;refine M5 rfl (fun K hK => ?_) (M5 rfl (fun K hK => ?_) Ns)
  ·exact zfE
  ·go_simp;refine (aR num dep _ G1 h hd).mono ?_;rintro e w4 ⟨hb,b,h5,h6,rfl⟩;dsimp only;exact ⟨rfl,hb1.trans (hb.mono hb1.size),b,MX hb1.size h5,h6,rfl⟩):zp:=h
theorem zcK (h:zp:=by
 go_simp;refine hK _ _ ?_;clear hK K;refine yA [1,6] ?_;refine M5 rfl (fun K hK => ?_) (M5 rfl (fun K hK => ?_) Ns)
 ·exact zfA
 ·go_simp;refine hK _ _ ?_;clear hK K;refine yA [1,7] ?_;refine M5 rfl (fun K hK => ?_) (M5 rfl (fun K hK => ?_) Ns)
  ·exact zfE
  ·go_simp;refine (aR num dep _ G1 h hd).mono ?_;rintro e w4 ⟨hb,b,h5,h6,rfl⟩;dsimp only;exact ⟨rfl,hb1.trans (hb.mono hb1.size),b,MX hb1.size h5,h6,rfl⟩):zp:=h
theorem zcL (h:zp:=by
 go_simp;refine hK _ _ ?_;clear hK K;refine yA [5,6] ?_;refine M5 rfl (fun K hK => ?_) (M5 rfl (fun K hK => ?_) Ns)
 ·exact zfz
 ·go_simp;refine hK _ _ ?_;clear hK K;refine zA 5 rfl fun K hK => ?_
  ·go_simp;refine hK _ _ ?_;clear hK K;refine zA 7 rfl fun K hK => ?_
   ·go_simp;refine HC.out.mono ?_;rintro e w4 h4;unfold aA at h4;rw [M6 hh] at h4;obtain ⟨hb,b,h5,h6,rfl⟩:=h4;dsimp only;exact ⟨rfl,hb1.trans (hb.mono hb1.size),b,MX hb1.size h5,h6,rfl⟩):zp:=h
theorem zcM (h:zp:=by
 go_simp;refine hK _ _ ?_;clear hK K;refine yA [5,6] ?_;refine M5 rfl (fun K hK => ?_) (M5 rfl (fun K hK => ?_) Ns)
 ·exact zfA
 ·go_simp;refine hK _ _ ?_;clear hK K;refine zA 5 rfl fun K hK => ?_
  ·go_simp;refine hK _ _ ?_;clear hK K;refine zA 7 rfl fun K hK => ?_
   ·go_simp;refine (aR num dep _ G1 h hd).mono ?_;rintro e w4 ⟨hb,b,h5,h6,rfl⟩;dsimp only;exact ⟨rfl,hb1.trans (hb.mono hb1.size),b,MX hb1.size h5,h6,rfl⟩):zp:=h
theorem zcN (h:zp:=by
 go_simp;refine hK _ _ ?_;clear hK K;refine zA 5 rfl fun K hK => ?_
 ·go_simp;refine hK _ _ ?_;clear hK K;refine zA 7 rfl fun K hK => ?_
  ·go_simp;refine HC.out.mono ?_;rintro e w4 h4;unfold aA at h4;rw [M4 hh] at h4;obtain ⟨rfl,hb4⟩:=h4;obtain ⟨cx,fx,q0,q1,q2⟩:=HF.out w4 hb4;dsimp only;refine hK _ _ ?_;clear hK K;refine tA 8 (.pointer (some ⟨g,u*8,none⟩)) rfl ?_;refine tA 9 (.pointer (some ⟨g,u*8+5,none⟩)) rfl ?_;refine zA 10 rfl fun K hK => ?_;go_simp;refine (bH num dep a n c g (u*8+5) _ _ _ cx h2).mono ?_;rintro e w5 ⟨hb,b,h5,h6,rfl⟩;dsimp only;exact ⟨rfl,(hb1.trans (hb4.mono hb1.size)).trans (hb.mono (MX hb1.size hb4.size)),b,MX (MX hb1.size hb4.size) h5,h6,rfl⟩):zp:=h
theorem zcP (h:zp:=by
 go_simp;refine hK _ _ ?_;clear hK K;refine zA 6 rfl fun K hK => ?_
 ·go_simp;refine hK _ _ ?_;clear hK K;refine zA 7 rfl fun K hK => ?_
  ·go_simp;refine HC.out.mono ?_;rintro e w4 h4;unfold aA at h4;rw [M4 hh] at h4;obtain ⟨rfl,hb4⟩:=h4;obtain ⟨cx,fx,q0,q1,q2⟩:=HF.out w4 hb4;dsimp only;refine hK _ _ ?_;clear hK K;refine tA 8 (.pointer (some ⟨g,u*8,none⟩)) rfl ?_;refine tA 9 (.pointer (some ⟨g,u*8+5,none⟩)) rfl ?_;refine zA 10 rfl fun K hK => ?_;go_simp;refine (bH num dep a n c g (u*8+5) _ _ _ cx h2).mono ?_;rintro e w5 ⟨hb,b,h5,h6,rfl⟩;dsimp only;exact ⟨rfl,(hb1.trans (hb4.mono hb1.size)).trans (hb.mono (MX hb1.size hb4.size)),b,MX (MX hb1.size hb4.size) h5,h6,rfl⟩):zp:=h
theorem zcT (h:zp:=by
 go_simp;refine hK _ _ ?_;clear hK K;refine zA 5 rfl fun K hK => ?_
 ·go_simp;refine hK _ _ ?_;clear hK K;refine zA 7 rfl fun K hK => ?_
  ·go_simp;refine HC.out.mono ?_;rintro e w4 h4;unfold aA at h4;rw [M4 hh] at h4;obtain ⟨rfl,hb4⟩:=h4;obtain ⟨cx,fx,q0,q1,q2⟩:=HF.out w4 hb4;dsimp only;refine hK _ _ ?_;clear hK K;refine tA 8 (.pointer (some ⟨g,u*8,none⟩)) rfl ?_;refine tA 9 (.pointer (some ⟨g,u*8+5,none⟩)) rfl ?_;refine zA 10 rfl fun K hK => ?_;go_simp;refine (br num dep a n c g (u*8+5) _ _ cx fx).mono ?_;rintro e w5 ⟨rfl,hb5⟩;have G5:=HG.out w4 w5 hb4 hb5;dsimp only;refine hK _ _ ?_;clear hK K;refine Oq zab ?_ _;go_wp2;go_end0;exact ⟨rfl,G5⟩):zp:=h
theorem zcV (h:zp:=by
 go_simp;refine hK _ _ ?_;clear hK K;refine zA 6 rfl fun K hK => ?_
 ·go_simp;refine hK _ _ ?_;clear hK K;refine zA 7 rfl fun K hK => ?_
  ·go_simp;refine HC.out.mono ?_;rintro e w4 h4;unfold aA at h4;rw [M4 hh] at h4;obtain ⟨rfl,hb4⟩:=h4;obtain ⟨cx,fx,q0,q1,q2⟩:=HF.out w4 hb4;dsimp only;refine hK _ _ ?_;clear hK K;refine tA 8 (.pointer (some ⟨g,u*8,none⟩)) rfl ?_;refine tA 9 (.pointer (some ⟨g,u*8+5,none⟩)) rfl ?_;refine zA 10 rfl fun K hK => ?_;go_simp;refine (br num dep a n c g (u*8+5) _ _ cx fx).mono ?_;rintro e w5 ⟨rfl,hb5⟩;have G5:=HG.out w4 w5 hb4 hb5;dsimp only;refine hK _ _ ?_;clear hK K;refine Oq zab ?_ _;go_wp2;go_end0;exact ⟨rfl,G5⟩):zp:=h
theorem zdb (h:zp:=by
 intro w4 hb4;have hbg:=(hb1.trans (hb4.mono hb1.size)).block g hgl;have hbw:w4.heap[w.heap.size]?=some (.cells #[(num:Int),(dep:Int),.slice a n c] 362 (0,0)):=by
  rw [hb4.block w hlw,N9 _ _ _ zad];exact Na w _
 refine ⟨(Nk hbg).trans cv,(PW hbg).trans hfz,?_,?_,?_⟩ <;> rw [M0 w4 _ _ _ _ _ hbw] <;> rfl):zp:=h
theorem zdx (h:zp:=by
 clear h24;go_wp2_with fail;refine (aU num dep 3 _).mono ?_;rintro e w3 ⟨hb,b,h5,h6,rfl⟩;dsimp only;refine ⟨rfl,?_⟩;rw [HF.out];exact ⟨hbw.trans (hb.mono hbs),b,MX hbs h5,h6,rfl⟩):zp:=h
theorem zdR (h:zp:=by
 have:=Na ((w.alloc (.cells #[(num:Int),(dep:Int),.slice a n c] 362)).drew) (.cells #[(3:Int),(4:Int)] 158);simpa using this):zp:=h
theorem ze1 (h:zp:=by
 cases ov
 simp [Ref.Sl.v] at h;simp [h.1,h.2.1,h.2.2]):zp:=h
theorem zam (h:zp:=by (try dsimp only);go_keep):zp:=h
theorem zbc (h:zp:=by rw [M0 W2 _ _ _ _ _ hbx2];rfl):zp:=h
theorem zbd (h:zp:=by rw [M0 w3 _ _ _ _ _ hbx3];rfl):zp:=h
theorem zbG (h:zp:=by rw [M0 W2 _ _ _ _ _ A2.box];rfl):zp:=h
theorem zbH (h:zp:=by rw [M0 W3 _ _ _ _ _ A3.box];rfl):zp:=h
theorem zbI (h:zp:=by rw [M0 W4 _ _ _ _ _ A4.box];rfl):zp:=h
open Tryz
variable {base n size:Nat} {e:TypeId} {xs:List Value} {v:Value}
section
open Go.RowKit
variable {w0 w:World} {db mb nm:Nat} {sv pv ov:Ref.Sl} {tm:Bool} {X:List Pro.DS} {SP:List (Int×Int)} {O:List Nat} {PT:Nat->List Nat} {D:DataW Nat}
theorem Bu:(Tryz.prog.info? 171).map (fun i=>(i.zero,i.size,i.bytes))=some (some (.agg #[(0:Int),ByteArray.empty,(0:Int),(0:Int),.slice none 0 0,.slice none 0 0,.slice none 0 0,.slice none 0 0]),8,136):=zab
theorem Ek:(Tryz.prog.info? 223).map (fun i=>(i.zero,i.size,i.bytes))=some (some (.agg #[(0:Int),(0:Int)]),2,16):=zab
theorem zm:(Tryz.prog.info? 3).map (fun i=>(i.zero,i.size,i.bytes))=some (some ↑(0:Int),1,8):=zab
theorem EH {n' cap go:Nat} {w:World} (h:w.ownsRow base e 1 (.slice go n cap) n xs) (hn:n'<=n):w.ownsRow base e 1 (.slice go n' cap) n' (xs.take n'):=by
 rcases h.2 with ⟨h',_⟩ | ⟨g,cap',cur,hv,hb,hg,h1,h2,h3,h4⟩
 ·cases h'
 ·simp only [Value.slice.injEq,Option.some.injEq,Addr.mk.injEq,and_true,true_and] at hv;obtain ⟨rfl,rfl⟩:=hv;have hl:=h.1;refine ⟨by rw [N8,hl];omega,.inr ⟨go,cap,cur,rfl,hb,hg,zaa,h2,h3,?_⟩⟩;rw [<- h4,List.take_take]
  congr 1
  omega
theorem Ec (O:List Nat) (d:Nat):(O.flatMap ep).take d=(O.take d).flatMap ep:=by
 induction O generalizing d with
 | nil=>simp
 | cons a O ih =>
  cases d with
  | zero=>simp
  | succ d=>simp only [List.flatMap_cons,List.take_succ_cons];rw [show ep a=[.int .i64 a] from rfl];simp [ih]
def ew (num:Int) (dep:Nat) (kd:Int) (nme:ByteArray):Array Value:=#[(num:Int),(dep:Int),(kd:Int),nme]
structure qP (B:Nat) (bx:Array Value) (w0 w:World) (db:Nat) (sv pv ov:Ref.Sl) (mb:Nat) (tm:Bool) (X:List Pro.DS) (SP:List (Int×Int)) (O:List Nat) (PT:Nat->List Nat) (nm:Nat) (D:DataW Nat):Prop where
 G:aq w0 w db sv pv ov mb tm X SP O PT nm D
 box:w.heap[B]?=some (.cells bx 351 (0,0))
theorem bY {w:World} (h:w.ownsRow base e size v n xs) (o:Obj):((w.alloc o).drew).ownsRow base e size v n xs:=(O7 h o).drew
theorem fV {B:Nat} {bx:Array Value} {w wc w5:World} (hb:w.heap[B]?=some (.cells bx 351 (0,0))) (hbc:Below w w wc) (ho:wc.ownsRow base e size v n xs) (hg:wc.grownBy w5 v.ownBlock) (hne:351≠e):w5.heap[B]?=some (.cells bx 351 (0,0)) :=
 bO (bO hb (cG (e:=e) hbc) hne) (dD ho hg) hne
theorem AN (num:Int) (dep:Nat) (kd ow:Int) (nme:ByteArray) (ns:Ref.State) (G:aq w0 w db sv pv ov mb tm X SP O PT nm D) (hX:X.length<=1000) (hSP:SP.length<=1000) (hO:O.length<=1000) (hPTl:∀ i,(PT i).length<=1000) (hnm:nm<=1000)
  (hkd:Pro.al ns=kd) (hnme:ns.name=nme) (hdep:ns.depth=dep) (hup:ns.up=ow) (hm:ns.aj=[]) (he:ns.enter=[]) (hl:ns.leave=[]) (hd:dep<=O.length) (hsz:nme.size<=1000000) (hnum:(Lit.int .i64 num).wf=true)
  (how:ow = -1\/∃ u:Nat,ow=u/\u<X.length) (hPT:PT X.length=[]) :
  () 353 #[db,.agg (ew num dep kd nme),(ow:Int)] w fun e w'=>e = .returned (.tuple #[])/\∃ sv' pv' ov' X',X'.map (·.s)=X.map (·.s)++[ns] /\
   aq w0 w' db sv' pv' ov' mb tm X' (SP++[(num,(dep:Int))]) (O.take dep++[X.length]) (fun i=>if (i:Int)=ow then PT i++[X.length] else PT i) (nm+1) (if Go.Maps.has D (.string nme.data.toList) then D else D.put (.string nme.data.toList) (.lit (.int .i64 num))):=by
 have hsn:=G.KL;have hdl:=G.dlt;have hb1:Below w w (w.alloc (.cells (ew num dep kd nme) 351)):=(MY _ _).alloc (MR _) _;have A1:qP w.heap.size (ew num dep kd nme) w0 (w.alloc (.cells (ew num dep kd nme) 351)) db sv pv ov mb tm X SP O PT nm D:=⟨G.ao hb1,Na _ _⟩;obtain ⟨c0,c1,c2,c3,c4⟩:=A1.G.cells;rw [hsn] at c0;obtain ⟨W1,hW1⟩:∃ y,y=w.alloc (.cells (ew num dep kd nme) 351):=⟨_,rfl⟩;obtain ⟨B,hB⟩:∃ B,B=w.heap.size:=⟨_,rfl⟩;obtain ⟨i0,hi,hz0,hz1,hz2⟩:=OB zm;have HE:Hid (Pro.al ns=kd/\ns.name=nme/\ns.depth=dep/\ns.up=ow/\ns.aj=[]/\ns.enter=[]/\ns.leave=[]):=⟨hkd,hnme,hdep,hup,hm,he,hl⟩;clear hkd hnme hdep hup hm he hl;have HPT:Hid _:=hPT;have HPTl:Hid _:=hPTl;have HD:Hid (dep<=O.length):=hd;clear hPT hPTl hd hsn;unfold ew at A1 c0 c1 c2 c3 c4 hW1 ⊢;go_enter func353,ntmps353
 go_upto_if 15 with fail
 change Code.wp _ _ _ _ (w.alloc (.cells #[(num:Int),(dep:Int),(kd:Int),nme] 351));rw [<- hW1] at A1 c0 c1 c2 c3 c4 ⊢;rw [<- hB] at A1 ⊢;have hBW:B<W1.heap.size:=(MQ.1 A1.box).1;clear hW1 hb1 G hdl hB
 go_cut [] (fun wx=>∃ sv1 X1,X1.map (·.s)=X.map (·.s)/\qP B #[(num:Int),(dep:Int),(kd:Int),nme] w0 wx db sv1 pv ov mb tm X1 SP O (fun i=>if (i:Int)=ow then PT i++[X.length] else PT i) nm D)
 case first =>
  rcases how with how | ⟨u,how,hu⟩
  ·subst how;go_wp2;go_meet
   case rel =>
    refine ⟨sv,X,rfl,?_⟩;have e:(fun i:Nat=>if (i:Int) = -1 then PT i++[X.length] else PT i)=PT:=by
     funext i;rw [M4 zaa]
    rw [e];exact A1
  ·subst how;obtain ⟨g,cap,rfl⟩:=A1.G.Cl zaa;obtain ⟨hcap,hgl,hg0⟩:=A1.G.tN;have cP:W1.cell? ⟨g,u*8+4,none⟩=some (.slice X[u].vp.a X[u].vp.n X[u].vp.c):=A1.G.ui hu 4 _ rfl;have fP:W1.frozen? ⟨g,u*8+4,none⟩=false:=OC (aD A1.G.states (Ni _)) _;have hown:=A1.G.parts u hu;have hpl:=HPTl.out u;have hdl:=A1.G.dlt;have hw01:=A1.G.bel.size;have hneg:((u:Int) == -1)=false:=zad;have HND:Hid (some g≠X[u].vp.v.ownBlock):=fun e=>by
    obtain ⟨c,hc⟩:=bQ hown _ e.symm;obtain ⟨c',hc'⟩:=bQ A1.G.states g rfl;exact zfy
   have HNDd:Hid (some db≠X[u].vp.v.ownBlock):=fun e=>by
    obtain ⟨c,hc⟩:=bQ hown _ e.symm;have hc':=A1.G.draft;exact zfy
   go_upto_region 3 with fail
   go_region_law
    ((refine step_append_lies _ zaf _ _ _ zaf w0.heap.size 3 i0 _ 1 8 underlying23 hi hz0 hz1 hz2 rfl zac (.slice X[u].vp.a X[u].vp.n X[u].vp.c) (PT u).length ((PT u).flatMap ep) zaf (bY hown _) ⟨W1,0,none⟩ 1 1 [(X.length:Int)] zaf zaf (World.news_of_block (cs:=#[(X.length:Int)]) (t:=3) (fr:=(0,0)) (Na W1 _)) zao zaa zag zaa zae (W1.heap.size+1) zad ?_;intro g5 cap5 w5 hown5 hgrow hat hlt5;have hfz5:=((hgrow.frozen_far ⟨g,u*8+4,none⟩ zae HND.out).trans ((((MY W1 W1).alloc (MR _) _).drew).frozen (p:=⟨g,u*8+4,none⟩) hgl)).trans fP;have hcc5:=((hgrow.cell_far ⟨g,u*8+4,none⟩ zae HND.out).trans ((((MY W1 W1).alloc (MR _) _).drew).cell (p:=⟨g,u*8+4,none⟩) hgl)).trans cP;have hcd5:=((hgrow.cell_far ⟨db,0,none⟩ zae HNDd.out).trans ((((MY W1 W1).alloc (MR _) _).drew).cell (p:=⟨db,0,none⟩) hdl)).trans c0))
   all_goals (
    go_wp2_with fail;go_meet
    case rel =>
     have hbc:Below W1 W1 ((W1.alloc (.cells #[(X.length:Int)] 3)).drew):=((MY _ _).alloc (MR _) _).drew;have GP:=A1.G.addPart (vp':=⟨some ⟨g5,0,none⟩,(PT u).length+1,cap5⟩) (n:=X.length) hbc hu hgrow (by rw [Nj,NQ];exact hown5) (by
      rcases hat with h | h
      ·exact .inl h.symm
      ·exact .inr zax)
     refine ⟨⟨some ⟨g,0,none⟩,X.length,cap⟩,X.set u { X[u] with vp:=⟨some ⟨g5,0,none⟩,(PT u).length+1,cap5⟩ },?_,?_,?_⟩
     ·rw [O0];apply Pc
      intro i;rw [Pb];split
      ·rename_i h;subst h;simp [hu]
      ·rfl
     ·have e:(fun i:Nat=>if (i:Int)=(u:Int) then PT i++[X.length] else PT i)=fun i=>if i=u then PT u++[X.length] else PT i:=by
       funext i;by_cases h:i=u
       ·subst h;simp
       ·rw [M4 h,M4 zaa]
      rw [e];exact GP
     ·rw [(aa w5 g (u*8+4) _).block B (fun h=>by
       have b1:=A1.box;obtain ⟨c',hc'⟩:=bQ A1.G.states g rfl;rw [h,hc'] at b1;simp at b1)]
      exact fV A1.box hbc (bY hown _) hgrow zac)
 case rest =>
  obtain ⟨sv1,X1,hX1,A2⟩:=hcut;obtain ⟨W2,hW2⟩:∃ y:World,y=wc:=⟨wc,rfl⟩;subst hW2;clear A1 c0 c1 c2 c3 c4 hBW hi hz0 hz1 hz2 i0;have hXl:X1.length=X.length:=by
   have:=congrArg List.length hX1;simpa using this
  obtain ⟨PT1,hPT1⟩:∃ P:Nat->List Nat,P=fun i:Nat=>if (i:Int)=ow then PT i++[X.length] else PT i:=⟨_,rfl⟩;have HPT1:Hid (PT1 X1.length=[]):=by
   unfold Hid;rw [hPT1,hXl];simp only;rw [M4,HPT.out]
   rcases how with h | ⟨u,h,hu⟩ <;> omega
  rw [<- hPT1] at A2;have HPd:Hid _:=hPT1;have HX1:Hid _:=hX1;have HXl:Hid _:=hXl;have hX1b:X1.length<=1000:=zaa;clear hPT1 hX1 hXl;obtain ⟨i0,hi,hz0,hz1,hz2⟩:=OB Bu;have hdl:=A2.G.dlt;have hw02:=A2.G.bel.size;have hbl:B<W2.heap.size:=(MQ.1 A2.box).1;have hown:=A2.G.states;obtain ⟨c0,c1,c2,c3,c4⟩:=A2.G.cells;have f0:=A2.G.frozen 0;have b1:W2.cell? ⟨B,1,none⟩=some ↑(dep:Int):=zbG;have b2:W2.cell? ⟨B,2,none⟩=some ↑(kd:Int):=zbG;have b3:W2.cell? ⟨B,3,none⟩=some ↑nme:=zbG;have HND:Hid (some db≠sv1.v.ownBlock):=fun e=>by
   obtain ⟨c,hc⟩:=bQ hown _ e.symm;have hc':=A2.G.draft;exact zfy
  have HDS:Hid (Pro.aO ⟨ns,Ref.Sl.nil,Ref.Sl.nil,Ref.Sl.nil,Ref.Sl.nil⟩=[.int .i64 kd,.string nme,.int .i64 dep,.int .i64 ow,.slice none 0 0,.slice none 0 0,.slice none 0 0,.slice none 0 0]):=by
   unfold Hid Pro.aO;rw [HE.out.1,HE.out.2.1,HE.out.2.2.1,HE.out.2.2.2.1];rfl
  go_upto_region 4 with fail
  go_cut [] (fun wx=>∃ sv2,qP B #[(num:Int),(dep:Int),(kd:Int),nme] w0 wx db sv2 pv ov mb tm (X1++[⟨ns,Ref.Sl.nil,Ref.Sl.nil,Ref.Sl.nil,Ref.Sl.nil⟩]) SP O PT1 nm D)
  case first =>
   have hnb:¬ db=B:=fun h=>by
    have b1:=A2.box;rw [<- h,A2.G.draft] at b1;simp at b1
   have hnb2:¬ B=db:=fun h=>hnb h.symm;have HNB:Hid (some B≠sv1.v.ownBlock):=fun e=>by
    obtain ⟨c,hc⟩:=bQ hown _ e.symm;have hc':=A2.box;exact zfy
   refine No (S:=(fun W=>W.cell? ⟨B,1,none⟩=some ↑(dep:Int)/\W.cell? ⟨B,2,none⟩=some ↑(kd:Int)/\W.cell? ⟨B,3,none⟩=some ↑nme)) zab ⟨b1,b2,b3⟩ (fun u0 => ?_);refine tH 0 db rfl u0 ?_;refine tH 1 db rfl u0 ?_;refine tH 2 db rfl u0 ?_;refine tH 3 db rfl u0 ?_;refine tH 5 (.pointer (some ⟨B,2,none⟩)) rfl u0 ?_;refine tH 6 (.int .i64 kd) rfl u0 ?_;refine tH 7 (.pointer (some ⟨B,3,none⟩)) rfl u0 ?_;refine tH 8 (.string nme) rfl u0 ?_;refine tH 9 B rfl u0 ?_;refine tH 10 (.pointer (some ⟨B,1,none⟩)) rfl u0 ?_;refine tH 11 (.int .i64 dep) rfl u0 ?_;refine tH 12 (.int .i64 ow) rfl u0 ?_;refine tH 13 (.agg #[(kd:Int),nme,(dep:Int),(ow:Int),.slice none 0 0,.slice none 0 0,.slice none 0 0,.slice none 0 0]) rfl u0 ?_;refine yH [4,14] ?_;refine NJ rfl (fun K hK => ?_) (NJ rfl (fun K hK => ?_) Ou)
   ·skip
    go_simp;refine hK.out _ _ u0 (fun u0 => ?_);clear hK K;refine zH 14 rfl fun K hK => ?_;go_simp;refine hK.out _ _ zam (fun u0 => ?_);exact zcw
   ·skip
    go_simp;refine hK.out _ _ zam (fun u0 => ?_);clear hK K;refine zH 4 rfl fun K hK => ?_;go_simp;refine hK.out _ _ u0 (fun u0 => ?_);exact zcw
  case rest =>
   obtain ⟨sv2,A3⟩:=hcut;obtain ⟨W3,hW⟩:∃ y:World,y=wc:=⟨wc,rfl⟩;subst hW;clear A2 c0 c1 c2 c3 c4 hi hz0 hz1 hz2 i0 hdl hw02 hbl hown b1 b2 b3 f0 HND;obtain ⟨i0,hi,hz0,hz1,hz2⟩:=OB Ek;have hdl:=A3.G.dlt;have hw0:=A3.G.bel.size;have hbl:B<W3.heap.size:=(MQ.1 A3.box).1;have hown:=A3.G.iR;obtain ⟨c0,c1,c2,c3,c4⟩:=A3.G.cells;have b0:W3.cell? B=some ↑(num:Int):=zbH;have b1:W3.cell? ⟨B,1,none⟩=some ↑(dep:Int):=zbH;have b3:W3.cell? ⟨B,3,none⟩=some ↑nme:=zbH;have hnb:¬ db=B:=fun h=>by
    have b1:=A3.box;rw [<- h,A3.G.draft] at b1;simp at b1
   have hnb2:¬ B=db:=fun h=>hnb h.symm;have HND:Hid (some db≠pv.v.ownBlock):=fun e=>by
    obtain ⟨c,hc⟩:=bQ hown _ e.symm;have hc':=A3.G.draft;exact zfy
   have HNB:Hid (some B≠pv.v.ownBlock):=fun e=>by
    obtain ⟨c,hc⟩:=bQ hown _ e.symm;have hc':=A3.box;exact zfy
   have f1:=A3.G.frozen 1
   go_upto_region 5 with fail
   go_cut [] (fun wx=>∃ pv2,qP B #[(num:Int),(dep:Int),(kd:Int),nme] w0 wx db sv2 pv2 ov mb tm (X1++[⟨ns,Ref.Sl.nil,Ref.Sl.nil,Ref.Sl.nil,Ref.Sl.nil⟩]) (SP++[(num,(dep:Int))]) O PT1 nm D)
   case first =>
    refine No (S:=(fun W=>W.cell? B=some ↑(num:Int)/\W.cell? ⟨B,1,none⟩=some ↑(dep:Int))) zab ⟨b0,b1⟩ (fun u0 => ?_);refine tH 0 db rfl u0 ?_;refine tH 1 db rfl u0 ?_;refine tH 2 db rfl u0 ?_;refine tH 3 (.pointer (some ⟨db,1,none⟩)) rfl u0 ?_;refine tH 5 B rfl u0 ?_;refine tH 6 (.agg #[(num:Int),(dep:Int)]) rfl u0 ?_;refine yH [4,7] ?_;refine NJ rfl (fun K hK => ?_) (NJ rfl (fun K hK => ?_) Ou)
    ·skip
     go_simp;refine hK.out _ _ u0 (fun u0 => ?_);clear hK K;refine zH 7 rfl fun K hK => ?_;go_simp;refine hK.out _ _ zam (fun u0 => ?_);exact zcx
    ·skip
     go_simp;refine hK.out _ _ zam (fun u0 => ?_);clear hK K;refine zH 4 rfl fun K hK => ?_;go_simp;refine hK.out _ _ u0 (fun u0 => ?_);exact zcx
   case rest =>
    obtain ⟨pv2,A4⟩:=hcut;obtain ⟨W4,hW⟩:∃ y:World,y=wc:=⟨wc,rfl⟩;subst hW;clear A3 c0 c1 c2 c3 c4 hi hz0 hz1 hz2 i0 hdl hw0 hbl hown b0 b1 b3 f1 HND HNB hnb hnb2;obtain ⟨i0,hi,hz0,hz1,hz2⟩:=OB zm;have hdl:=A4.G.dlt;have hw0:=A4.G.bel.size;have hbl:B<W4.heap.size:=(MQ.1 A4.box).1;have hown:=A4.G.opens;obtain ⟨c0,c1,c2,c3,c4⟩:=A4.G.cells;have b0:W4.cell? B=some ↑(num:Int):=zbI;have b1:W4.cell? ⟨B,1,none⟩=some ↑(dep:Int):=zbI;have b3:W4.cell? ⟨B,3,none⟩=some ↑nme:=zbI;have hnb:¬ db=B:=fun h=>by
     have b1:=A4.box;rw [<- h,A4.G.draft] at b1;simp at b1
    have hnb2:¬ B=db:=fun h=>hnb h.symm;have HND:Hid (some db≠ov.v.ownBlock):=fun e=>by
     obtain ⟨c,hc⟩:=bQ hown _ e.symm;have hc':=A4.G.draft;exact zfy
    have HNB:Hid (some B≠ov.v.ownBlock):=fun e=>by
     obtain ⟨c,hc⟩:=bQ hown _ e.symm;have hc':=A4.box;exact zfy
    have f2:=A4.G.frozen 2
    go_upto_region 6 with fail
    go_cut [] (fun wx=>∃ ov2,qP B #[(num:Int),(dep:Int),(kd:Int),nme] w0 wx db sv2 pv2 ov2 mb tm (X1++[⟨ns,Ref.Sl.nil,Ref.Sl.nil,Ref.Sl.nil,Ref.Sl.nil⟩]) (SP++[(num,(dep:Int))]) (O.take dep++[X.length]) PT1 nm D)
    case first =>
     have hov:=A4.G.KJ;cases hova:ov.a with
     | none =>
      have hnil:ov.v = .slice none 0 0/\O.length=0:=by
       rcases hown.2 with h | ⟨g,cap,cur,h,_⟩
       ·exact h
       ·simp [Ref.Sl.v,hova] at h
      have hO0:O=[]:=O1.1 hnil.2;have hd0:dep=0:=by have:=HD.out;rw [hnil.2] at this;omega
      have hov0:ov=⟨none,0,0⟩:=by
       have h:=hnil.1;exact ze1
      subst hO0 hd0 hov0;clear hnil hov hova;have b1':W4.cell? ⟨B,1,none⟩=some ↑(0:Int):=by simpa using b1
      have hownN:W4.ownsRow w0 3 1 (.slice none 0 0) 0 []:=N4 _ _ _ _;refine No (S:=(fun W=>W.cell? ⟨B,1,none⟩=some ↑(0:Int))) zab b1' (fun u0 => ?_);refine tH 0 db rfl u0 ?_;refine tH 1 db rfl u0 ?_;refine tH 2 db rfl u0 ?_;refine tH 3 (.pointer (some ⟨db,2,none⟩)) rfl u0 ?_;refine tH 5 B rfl u0 ?_;refine tH 6 (.pointer (some ⟨B,1,none⟩)) rfl u0 ?_;refine tH 7 (.int .i64 0) rfl u0 ?_;refine tH 9 (.int .i64 X.length) rfl u0 ?_;refine yH [4,10] ?_;refine NJ rfl (fun K hK => ?_) (NJ rfl (fun K hK => ?_) Ou)
      ·skip
       go_simp;refine hK.out _ _ u0 (fun u0 => ?_);clear hK K;refine tH 8 (.slice none 0 0) rfl u0 ?_;refine zH 10 rfl fun K hK => ?_;go_simp;refine hK.out _ _ zam (fun u0 => ?_);clear hK K;exact zcz
      ·skip
       go_simp;refine hK.out _ _ zam (fun u0 => ?_);clear hK K;refine zH 4 rfl fun K hK => ?_;go_simp;refine hK.out _ _ u0 (fun u0 => ?_);clear hK K;refine tH 8 (.slice none 0 0) rfl u0 ?_;exact zcz
     | some oa =>
      obtain ⟨go,oc,hov1⟩:∃ go oc,ov=⟨some ⟨go,0,none⟩,O.length,oc⟩:=by
       rcases hown.2 with ⟨h,_⟩ | ⟨g,cap,cur,h,_⟩
       ·simp [Ref.Sl.v,hova] at h
       ·refine ⟨g,cap,?_⟩;exact ze1
      subst hov1;have hcapO:O.length<=oc:=by
       rcases hown.2 with ⟨h,_⟩ | ⟨g,cap,cur,h,_,_,hle,_⟩
       ·cases h
       ·simp [Ref.Sl.v] at h;rw [h.2];exact hle
      have hdle:=HD.out;have hdc:¬ oc<dep:=zaa;have hownT:=EH hown hdle;rw [Ec] at hownT;refine No (S:=(fun W=>W.cell? ⟨B,1,none⟩=some ↑(dep:Int))) zab b1 (fun u0 => ?_);refine tH 0 db rfl u0 ?_;refine tH 1 db rfl u0 ?_;refine tH 2 db rfl u0 ?_;refine tH 3 (.pointer (some ⟨db,2,none⟩)) rfl u0 ?_;refine tH 5 B rfl u0 ?_;refine tH 6 (.pointer (some ⟨B,1,none⟩)) rfl u0 ?_;refine tH 7 (.int .i64 dep) rfl u0 ?_;refine tH 9 (.int .i64 X.length) rfl u0 ?_;refine yH [4,10] ?_;refine NJ rfl (fun K hK => ?_) (NJ rfl (fun K hK => ?_) Ou)
      ·skip
       go_simp;refine hK.out _ _ u0 (fun u0 => ?_);clear hK K;refine tH 8 (.slice go dep oc) rfl u0 ?_;refine zH 10 rfl fun K hK => ?_;go_simp;refine hK.out _ _ zam (fun u0 => ?_);clear hK K;exact zcy
      ·skip
       go_simp;refine hK.out _ _ zam (fun u0 => ?_);clear hK K;refine zH 4 rfl fun K hK => ?_;go_simp;refine hK.out _ _ u0 (fun u0 => ?_);clear hK K;refine tH 8 (.slice go dep oc) rfl u0 ?_;exact zcy
    case rest =>
     obtain ⟨ov2,A5⟩:=hcut;obtain ⟨W5,hW⟩:∃ y:World,y=wc:=⟨wc,rfl⟩;subst hW;clear A4 c0 c1 c2 c3 c4 hi hz0 hz1 hz2 i0 hdl hw0 hbl hown b0 b1 b3 f2 HND HNB hnb hnb2;have hdl:=A5.G.dlt;have hbl:B<W5.heap.size:=(MQ.1 A5.box).1;obtain ⟨c0,c1,c2,c3,c4⟩:=A5.G.cells;have b0:W5.cell? B=some ↑(num:Int):=by rw [M0 W5 _ _ _ _ _ A5.box];rfl
     have b3:W5.cell? ⟨B,3,none⟩=some ↑nme:=by rw [M0 W5 _ _ _ _ _ A5.box];rfl
     have law:Go.Maps.Keyed prog 9:=QA underlying9;have zeroE:∀ w:World,(zeroValue 3).run prog w = .ok (.int .i64 0) w:=fun w=>zab;have hkey:keyOf prog 9 (.string nme)=some (.string nme.data.toList):=PU underlying9 zag;have hmap:=A5.G.map;have hmapd:jz W5.drew mb nm D:=bJ (e:=0) hmap (cG (MY _ _).drew);have hmapd2:jz W5.drew.drew mb nm D:=bJ (e:=0) hmapd (cG (MY _ _).drew);have HFin:Hid (∀ w' D',aq w0 w' db sv2 pv2 ov2 mb tm (X1++[⟨ns,Ref.Sl.nil,Ref.Sl.nil,Ref.Sl.nil,Ref.Sl.nil⟩]) (SP++[(num,(dep:Int))]) (O.take dep++[X.length]) PT1 (nm+1) D'->∃ sv' pv' ov' X',X'.map (·.s)=X.map (·.s)++[ns]/\aq w0 w' db sv' pv' ov' mb tm X' (SP++[(num,(dep:Int))]) (O.take dep++[X.length]) (fun i=>if (i:Int)=ow then PT i++[X.length] else PT i) (nm+1) D'):=by
      intro w' D' h;refine ⟨sv2,pv2,ov2,X1++[⟨ns,Ref.Sl.nil,Ref.Sl.nil,Ref.Sl.nil,Ref.Sl.nil⟩],?_,?_⟩
      ·rw [NW,HX1.out];rfl
      ·rw [<- HPd.out];exact h
     go_upto_region 7 with fail
     obtain ⟨vv,ps,hrun,hvv⟩:=hmapd.look_ok law underlying152 (zeroE _) (RQ underlying3 zac) hkey;obtain ⟨cc,rfl,_,_⟩:=plainElem_int_inv underlying3 hvv;clear hvv;refine No (S:=(fun W=>W.cell? ⟨db,3,none⟩=some (.map (some mb))/\W.cell? ⟨B,3,none⟩=some ↑nme)) zab ⟨c3,b3⟩ (fun u0 => ?_);refine tH 0 db rfl u0 ?_;refine tH 1 db rfl u0 ?_;refine tH 2 (.pointer (some ⟨db,3,none⟩)) rfl u0 ?_;refine tH 3 (.map (some mb)) rfl u0 ?_;refine tH 4 (.pointer (some ⟨B,3,none⟩)) rfl u0 ?_;refine tH 5 (.string nme) rfl u0 ?_;refine zH 6 rfl fun K hK => ?_;go_simp;refine hK.out _ _ u0 (fun u0 => ?_);clear hK K;refine tH 7 (.tuple #[(cc:Int),.bool (Go.Maps.has D (.string nme.data.toList))]) rfl u0 ?_;refine tH 8 (.int .i64 cc) rfl u0 ?_;refine tH 9 (.bool (Go.Maps.has D (.string nme.data.toList))) rfl u0 ?_;refine tH 10 (.int .i64 cc) rfl u0 ?_;refine tH 11 (.bool (Go.Maps.has D (.string nme.data.toList))) rfl u0 ?_;refine Nt zab ?_ _;clear hrun;cases hh:Go.Maps.has D (.string nme.data.toList)
     case true =>
      go_wp2;go_end0;refine ⟨rfl,?_⟩;have G6:=A5.G.ao (w':=W5.drew) (MY _ _).drew;exact HFin.out _ _ { G6 with map:=G6.map.mono zaa }
     case false =>
      go_upto_region 9 with fail
      refine dU 9 zab zab ?_;simp only [List.take_succ_cons,List.take_zero,List.drop_succ_cons,List.drop_zero]
      repeat still_step
      refine Ov ?_;refine wpList_mapUpdate_own _ rfl _ _ _ 152 rfl 9 3 law underlying152 _ mb nm _ rfl hmapd2 zag _ _ _ rfl rfl hkey _ [] (RQ underlying3 hnum) ?_;intro w6 hown6 hgrow6;go_wp2;go_end0;refine ⟨rfl,?_⟩;exact HFin.out _ _ (A5.G.IS (MY _ _).drew.drew hgrow6 hown6)
variable {w0 w:World} {db mb nm:Nat} {sv pv ov:Ref.Sl} {tm:Bool} {X:List Pro.DS} {SP:List (Int×Int)} {O:List Nat} {PT:Nat->List Nat} {D:DataW Nat}
def Kz (num:Int) (dep:Nat) (nme:ByteArray) (ow:Int) (ns:Ref.State) (w0:World) (db mb:Nat) (tm:Bool) (X:List Pro.DS) (SP:List (Int×Int)) (O:List Nat) (PT:Nat->List Nat) (nm:Nat) (D:DataW Nat) (w':World):Prop :=
 ∃ sv' pv' ov' X',X'.map (·.s)=X.map (·.s)++[ns]/\aq w0 w' db sv' pv' ov' mb tm X' (SP++[(num,(dep:Int))]) (O.take dep++[X.length]) (fun i=>if (i:Int)=ow then PT i++[X.length] else PT i) (nm+1) (if Go.Maps.has D (.string nme.data.toList) then D else D.put (.string nme.data.toList) (.lit (.int .i64 num)))
theorem qz (num:Int) (dep:Nat) (kd:Int) (nme:ByteArray) (G:aq w0 w db sv pv ov mb tm X SP O PT nm D) (h0:0<dep) (h:O.length<dep) (hd:dep<=1073741824) :
  () 350 #[.agg (ew num dep kd nme),db] w (aY 3 num w):=by
 have hb1:Below w w (w.alloc (.cells (ew num dep kd nme) 351)):=(MY _ _).alloc (MR _) _;have HC:Hid _:=ox num dep (G.ao hb1) (.inr h) hd;unfold ew at hb1 HC ⊢;go_enter func350,ntmps350;go_wp2_with fail;refine M7 HC.out ?_;rintro e w4 ⟨hb,b,h5,h6,rfl⟩;dsimp only;exact ⟨rfl,hb1.trans (hb.mono hb1.size),b,MX hb1.size h5,h6,rfl⟩
def iX (X:List Pro.DS) (PT:Nat->List Nat) (dep:Nat) (ow kd:Int):Bool :=
 !decide (X.length=24)&&(!decide (5<dep)&&(if ow<0 then !Pro.du kd else match X[ow.toNat]? with | some x=>Pro.holds x (PT ow.toNat) kd | none=>false))
theorem sX (num:Int) (dep:Nat) (kd ow:Int) (nme:ByteArray) (ns:Ref.State) (G:aq w0 w db sv pv ov mb tm X SP O PT nm D) (hX:X.length<=1000) (hSP:SP.length<=1000) (hO:O.length<=1000) (hPTl:∀ i,(PT i).length<=1000) (hnm:nm<=1000)
  (hkd:Pro.al ns=kd) (hnme:ns.name=nme) (hdep:ns.depth=dep) (hup:ns.up=ow) (hm:ns.aj=[]) (he:ns.enter=[]) (hl:ns.leave=[]) (hd:dep<=O.length) (hsz:nme.size<=1000000) (hnum:(Lit.int .i64 num).wf=true)
  (how:(dep=0/\ow = -1)\/∃ (k u:Nat) (hk:k<O.length),dep=k+1/\O[k]=u/\ow=u/\u<X.length) (hPT:PT X.length=[]) :
  () 350 #[.agg (ew num dep kd nme),db] w fun e w'=>if iX X PT dep ow kd then e = .returned (.tuple #[])/\Kz num dep nme ow ns w0 db mb tm X SP O PT nm D w' else aY 3 num w e w':=by
 have hb1:Below w w (w.alloc (.cells (ew num dep kd nme) 351)):=(MY _ _).alloc (MR _) _;have HG:Hid _:=G;have how':ow = -1\/∃ u:Nat,ow=u/\u<X.length:=by
  rcases how with ⟨_,h⟩ | ⟨k,u,_,_,_,h,hu⟩
  ·exact .inl h
  ·exact .inr ⟨u,h,hu⟩
 have HAdd:Hid (∀ w',Below w w w'->() 353 #[db,.agg (ew num dep kd nme),(ow:Int)] w' fun e w'=>e = .returned (.tuple #[])/\Kz num dep nme ow ns w0 db mb tm X SP O PT nm D w') :=
  fun w' hb=>AN num dep kd ow nme ns (G.ao hb) hX hSP hO hPTl hnm hkd hnme hdep hup hm he hl hd hsz hnum how' hPT
 have HHold:Hid (∀ w',Below w w w'->() 352 #[db,(ow:Int),(kd:Int)] w' fun e w''=>e = .returned (.bool (if ow<0 then !Pro.du kd else match X[ow.toNat]? with | some x=>Pro.holds x (PT ow.toNat) kd | none=>false))/\Below w'.heap.size w' w''):=by
  intro w' hb
  rcases how' with h | ⟨u,h,hu⟩
  ·subst h;rw [M6 zac];exact xp kd
  ·subst h;rw [M4 zaa];have e:X[((u:Int)).toNat]?=some X[u]:=by simp [hu]
   rw [e];exact xq kd u (G.ao hb) hu zaa
 have HOwn:Hid (0<dep->∀ w',Below w w w'->() 351 #[db,.agg #[(num:Int),(dep:Int)]] w' fun e w''=>e = .returned (ow:Int)/\Below w'.heap.size w' w''):=by
  intro h0 w' hb
  rcases how with ⟨h,_⟩ | ⟨k,u,hk,h1,h2,h3,_⟩
  ·omega
  ·rw [h3,<- h2];exact vC num dep k (G.ao hb) hk h1 zaa
 have HO0:Hid (dep=0->ow = -1):=by
  intro h0
  rcases how with ⟨_,h⟩ | ⟨k,u,hk,h1,_⟩
  ·exact h
  ·omega
 have hsn:=G.KL;have hdb:=G.dlt;obtain ⟨c0,_,_,_,_⟩:=G.cells;rw [hsn] at c0;have HOk:Hid (iX X PT dep ow kd=(!decide (X.length=24)&&(!decide (5<dep)&&(if ow<0 then !Pro.du kd else match X[ow.toNat]? with | some x=>Pro.holds x (PT ow.toNat) kd | none=>false)))):=rfl;generalize hq:(if ow<0 then !Pro.du kd else match X[ow.toNat]? with | some x=>Pro.holds x (PT ow.toNat) kd | none=>false)=hold at *;clear hq how how' hkd hnme hdep hup hm he hl hd hPT hPTl hsz hnum hsn G;have hxl:X.length<=1000:=hX;unfold ew at hb1 HAdd ⊢;go_enter func350,ntmps350
 go_upto_if 8 with fail
 change Code.wp _ _ _ _ (w.alloc (.cells #[(num:Int),(dep:Int),(kd:Int),nme] 351));obtain ⟨W1,hW1⟩:∃ y,y=w.alloc (.cells #[(num:Int),(dep:Int),(kd:Int),nme] 351):=⟨_,rfl⟩;obtain ⟨B,hB⟩:∃ B,B=w.heap.size:=⟨_,rfl⟩;have hbx:W1.heap[B]?=some (.cells #[(num:Int),(dep:Int),(kd:Int),nme] 351 (0,0)):=by rw [hW1,hB];exact Na _ _
 rw [<- hW1] at hb1 ⊢;have HBl:Hid (B=w.heap.size):=hB;rw [<- hB];clear hW1 hB
 go_cut [4] (fun v wx=>v = .int .i64 ow/\Below w w wx/\wx.heap[B]?=some (.cells #[(num:Int),(dep:Int),(kd:Int),nme] 351 (0,0)))
 case first =>
  have b0:W1.cell? B=some ↑(num:Int):=by rw [M0 W1 _ _ _ _ _ hbx];rfl
  have b1:W1.cell? ⟨B,1,none⟩=some ↑(dep:Int):=by rw [M0 W1 _ _ _ _ _ hbx];rfl
  by_cases h0:0<dep
  ·go_wp2_with fail;refine (HOwn.out h0 _ hb1).mono ?_;rintro e w2 ⟨rfl,hb2⟩;dsimp only;go_wp2;go_meet
   case rel=>exact ⟨rfl,hb1.trans (hb2.mono hb1.size),(hb2.block _ (MQ.1 hbx).1).trans hbx⟩
  ·have hd0:dep=0:=zaa;have how0:=HO0.out hd0;go_wp2;go_meet
   case rel=>exact ⟨by rw [how0],hb1,hbx⟩
 case rest =>
  obtain ⟨rfl,hbw,hbx2⟩:=hcut;obtain ⟨W2,hW⟩:∃ y:World,y=wc:=⟨wc,rfl⟩;subst hW;clear hb1 hbx;have b0:W2.cell? B=some ↑(num:Int):=zbc;have b1:W2.cell? ⟨B,1,none⟩=some ↑(dep:Int):=zbc;have b2:W2.cell? ⟨B,2,none⟩=some ↑(kd:Int):=zbc;have b3:W2.cell? ⟨B,3,none⟩=some ↑nme:=zbc;have d0:W2.cell? db=some (.slice sv.a X.length sv.c):=(Nk (w:=w) (hbw.block db hdb)).trans c0;have hbs:=hbw.size;by_cases h24:X.length=24
  ·have HF:Hid (iX X PT dep ow kd=false):=by unfold Hid;rw [HOk.out,NZ h24];rfl
   have h24':((X.length:Int) == 24)=true:=by rw [h24];rfl
   exact zdx
  ·have h24':((X.length:Int) == 24)=false:=zae;by_cases h5:5<dep
   ·have HF:Hid (iX X PT dep ow kd=false):=by unfold Hid;rw [HOk.out,NZ h5];simp
    exact zdx
   ·have HF:Hid (iX X PT dep ow kd=hold):=by unfold Hid;rw [HOk.out,NM h24,NM h5];rfl
    clear h24;go_wp2_with fail;refine (HHold.out _ hbw).mono ?_;rintro e w3 ⟨rfl,hb3⟩;have hbw3:=hbw.trans (hb3.mono hbs);have hbx3:=(hb3.block _ (MQ.1 hbx2).1).trans hbx2;have a0:w3.cell? B=some ↑(num:Int):=zbd;have a1:w3.cell? ⟨B,1,none⟩=some ↑(dep:Int):=zbd;have a2:w3.cell? ⟨B,2,none⟩=some ↑(kd:Int):=zbd;have a3:w3.cell? ⟨B,3,none⟩=some ↑nme:=zbd;clear b0 b1 b2 b3 d0 hb3;cases hold with
    | false =>
     dsimp only;go_wp2_with fail;refine (aU num dep 3 _).mono ?_;rintro e w4 ⟨hb,b,h5,h6,rfl⟩;dsimp only;refine ⟨rfl,?_⟩;rw [HF.out];exact ⟨hbw3.trans (hb.mono hbw3.size),b,MX hbw3.size h5,h6,rfl⟩
    | true =>
     dsimp only;go_wp2_with fail;refine (HAdd.out _ hbw3).mono ?_;rintro e w4 ⟨rfl,hadd⟩;dsimp only;go_wp2;go_end0;exact ⟨rfl,hadd⟩
variable {w0 w:World} {db mb nm:Nat} {sv pv ov:Ref.Sl} {tm:Bool} {X:List Pro.DS} {SP:List (Int×Int)} {O:List Nat} {PT:Nat->List Nat} {D:DataW Nat}
theorem kM (num:Int) (dep:Nat) (a:Option Addr) (n c:Nat) (G:aq w0 w db sv pv ov mb tm X SP O PT nm D) (h:dep=0\/O.length<dep) (hd:dep<=1073741824) :
  () 360 #[.agg #[(num:Int),(dep:Int),.slice a n c],db] w (aY 3 num w):=by
 have hdl:=G.dlt;go_enter func360,ntmps360
 go_upto_region 1 with fail
 have hb1:Below w w (((w.alloc (.cells #[(num:Int),(dep:Int),.slice a n c] 362)).drew).alloc (.cells #[(3:Int),(4:Int)] 158)):=((MY _ _).alloc (MR _) _).drew.alloc zad _;have G1:=G.ao hb1;refine OO zab ?_;change wpAny _ _ _ _ _ _ _ (World.drew _);refine tA 0 w rfl ?_;refine tA 2 db rfl ?_;refine tA 3 w rfl ?_;refine tA 4 w rfl ?_;refine yA [1,5,6] ?_;refine M5 rfl (fun K hK => ?_) (M5 rfl (fun K hK => ?_) (M5 rfl (fun K hK => ?_) Ns))
 ·exact zcM
 ·exact zcK
 ·exact zcJ
theorem qp (num:Int) (dep:Nat) (a:Option Addr) (n c:Nat) (k u g cap:Nat) (G:aq w0 w db ⟨some ⟨g,0,none⟩,X.length,cap⟩ pv ov mb tm X SP O PT nm D) (hk:k<O.length) (hd:dep=k+1) (hO:O.length<=1073741824) (hku:O[k]=u) (hu:u<X.length) (hh:Pro.al X[u].s∈([3,4]:List Int)) :
  () 360 #[.agg #[(num:Int),(dep:Int),.slice a n c],db] w (aY 3 num w):=by
 have hdl:=G.dlt;have hb1:Below w w (((w.alloc (.cells #[(num:Int),(dep:Int),.slice a n c] 362)).drew).alloc (.cells #[(3:Int),(4:Int)] 158)):=((MY _ _).alloc (MR _) _).drew.alloc zad _;have hkb:(((w.alloc (.cells #[(num:Int),(dep:Int),.slice a n c] 362)).drew).alloc (.cells #[(3:Int),(4:Int)] 158)).heap[w.heap.size+1]?=some (.cells (([3,4]:List Int).map (Value.int .i64)).toArray 158 (0,0)):=by
  exact zdR
 have HC:Hid (() 358 #[db,.agg #[(num:Int),(dep:Int)],.slice (some ⟨w.heap.size+1,0,none⟩) 2 2] (((w.alloc (.cells #[(num:Int),(dep:Int),.slice a n c] 362)).drew).alloc (.cells #[(3:Int),(4:Int)] 158)) (aA num (Pro.al X[u].s) [3,4] ⟨g,u*8,none⟩ (((w.alloc (.cells #[(num:Int),(dep:Int),.slice a n c] 362)).drew).alloc (.cells #[(3:Int),(4:Int)] 158)))):=cY num dep k u [3,4] (w.heap.size+1) g cap (G.ao hb1) hk hd hO hku hu hkb zac;clear hd hku hk hO hkb;go_enter func360,ntmps360
 go_upto_region 1 with fail
 refine OO zab ?_;change wpAny _ _ _ _ _ _ _ (World.drew _);refine tA 0 w rfl ?_;refine tA 2 db rfl ?_;refine tA 3 w rfl ?_;refine tA 4 w rfl ?_;refine yA [1,5,6] ?_;refine M5 rfl (fun K hK => ?_) (M5 rfl (fun K hK => ?_) (M5 rfl (fun K hK => ?_) Ns))
 ·exact zcL
 ·exact zcG
 ·exact zcF
theorem pq (num:Int) (dep:Nat) (a:Option Addr) (n c:Nat) (k u g cap:Nat) (G:aq w0 w db ⟨some ⟨g,0,none⟩,X.length,cap⟩ pv ov mb tm X SP O PT nm D) (hk:k<O.length) (hd:dep=k+1) (hO:O.length<=1073741824) (hku:O[k]=u) (hu:u<X.length) (hh:¬ Pro.al X[u].s∈([3,4]:List Int)) (h2:0<X[u].ve.n) :
  () 360 #[.agg #[(num:Int),(dep:Int),.slice a n c],db] w (aY 3 num w):=by
 have hdl:=G.dlt;have hb1:Below w w (((w.alloc (.cells #[(num:Int),(dep:Int),.slice a n c] 362)).drew).alloc (.cells #[(3:Int),(4:Int)] 158)):=((MY _ _).alloc (MR _) _).drew.alloc zad _;have hkb:(((w.alloc (.cells #[(num:Int),(dep:Int),.slice a n c] 362)).drew).alloc (.cells #[(3:Int),(4:Int)] 158)).heap[w.heap.size+1]?=some (.cells (([3,4]:List Int).map (Value.int .i64)).toArray 158 (0,0)):=by
  exact zdR
 have HC:Hid (() 358 #[db,.agg #[(num:Int),(dep:Int)],.slice (some ⟨w.heap.size+1,0,none⟩) 2 2] (((w.alloc (.cells #[(num:Int),(dep:Int),.slice a n c] 362)).drew).alloc (.cells #[(3:Int),(4:Int)] 158)) (aA num (Pro.al X[u].s) [3,4] ⟨g,u*8,none⟩ (((w.alloc (.cells #[(num:Int),(dep:Int),.slice a n c] 362)).drew).alloc (.cells #[(3:Int),(4:Int)] 158)))):=cY num dep k u [3,4] (w.heap.size+1) g cap (G.ao hb1) hk hd hO hku hu hkb zac;obtain ⟨hcap,hgl,hg0⟩:=G.tN;have hrng:=G.ui hu;have hfz:w.frozen? ⟨g,u*8+5,none⟩=false:=OC (aD G.states (Ni _)) _;have cv:w.cell? ⟨g,u*8+5,none⟩=some (.slice X[u].ve.a X[u].ve.n X[u].ve.c):=hrng 5 _ rfl;have hlw:w.heap.size<(((w.alloc (.cells #[(num:Int),(dep:Int),.slice a n c] 362)).drew).alloc (.cells #[(3:Int),(4:Int)] 158)).heap.size:=zae;have HF:Hid (∀ w4,Below (((w.alloc (.cells #[(num:Int),(dep:Int),.slice a n c] 362)).drew).alloc (.cells #[(3:Int),(4:Int)] 158)).heap.size (((w.alloc (.cells #[(num:Int),(dep:Int),.slice a n c] 362)).drew).alloc (.cells #[(3:Int),(4:Int)] 158)) w4->w4.cell? ⟨g,u*8+5,none⟩=some (.slice X[u].ve.a X[u].ve.n X[u].ve.c)/\w4.frozen? ⟨g,u*8+5,none⟩=false/\w4.cell? w=some ↑(num:Int)/\w4.cell? ⟨w,1,none⟩=some ↑(dep:Int)/\w4.cell? ⟨w,2,none⟩=some (.slice a n c)):=by
  exact zdb
 clear cv hfz hrng;clear hd hku hk hO hkb;go_enter func360,ntmps360
 go_upto_region 1 with fail
 refine OO zab ?_;change wpAny _ _ _ _ _ _ _ (World.drew _);refine tA 0 w rfl ?_;refine tA 2 db rfl ?_;refine tA 3 w rfl ?_;refine tA 4 w rfl ?_;refine yA [1,5,6] ?_;refine M5 rfl (fun K hK => ?_) (M5 rfl (fun K hK => ?_) (M5 rfl (fun K hK => ?_) Ns))
 ·go_simp;refine hK _ _ ?_;clear hK K;refine yA [5,6] ?_;refine M5 rfl (fun K hK => ?_) (M5 rfl (fun K hK => ?_) Ns)
  ·exact zcP
  ·exact zcN
 ·go_simp;refine hK _ _ ?_;clear hK K;refine yA [1,6] ?_;refine M5 rfl (fun K hK => ?_) (M5 rfl (fun K hK => ?_) Ns)
  ·exact zcP
  ·exact zcA
 ·go_simp;refine hK _ _ ?_;clear hK K;refine yA [1,5] ?_;refine M5 rfl (fun K hK => ?_) (M5 rfl (fun K hK => ?_) Ns)
  ·exact zcN
  ·exact zcA
theorem rJ (num:Int) (dep:Nat) (a:Option Addr) (n c:Nat) (k u g cap:Nat) (G:aq w0 w db ⟨some ⟨g,0,none⟩,X.length,cap⟩ pv ov mb tm X SP O PT nm D) (hk:k<O.length) (hd:dep=k+1) (hO:O.length<=1073741824) (hku:O[k]=u) (hu:u<X.length) (hh:¬ Pro.al X[u].s∈([3,4]:List Int)) (h2:X[u].ve.n=0) (A:List Ref.Act) (hA:w0.ownsRow 0 250 1 (.slice a n c) A.length (A.map bg)) :
  () 360 #[.agg #[(num:Int),(dep:Int),.slice a n c],db] w fun e w'=>e = .returned (.tuple #[])/\aq w0 w' db ⟨some ⟨g,0,none⟩,X.length,cap⟩ pv ov mb tm (X.set u (Pro.gH X[u] num A ⟨a,n,c⟩)) SP O PT nm D:=by
 have hdl:=G.dlt;have hb1:Below w w (((w.alloc (.cells #[(num:Int),(dep:Int),.slice a n c] 362)).drew).alloc (.cells #[(3:Int),(4:Int)] 158)):=((MY _ _).alloc (MR _) _).drew.alloc zad _;have hkb:(((w.alloc (.cells #[(num:Int),(dep:Int),.slice a n c] 362)).drew).alloc (.cells #[(3:Int),(4:Int)] 158)).heap[w.heap.size+1]?=some (.cells (([3,4]:List Int).map (Value.int .i64)).toArray 158 (0,0)):=by
  exact zdR
 have HC:Hid (() 358 #[db,.agg #[(num:Int),(dep:Int)],.slice (some ⟨w.heap.size+1,0,none⟩) 2 2] (((w.alloc (.cells #[(num:Int),(dep:Int),.slice a n c] 362)).drew).alloc (.cells #[(3:Int),(4:Int)] 158)) (aA num (Pro.al X[u].s) [3,4] ⟨g,u*8,none⟩ (((w.alloc (.cells #[(num:Int),(dep:Int),.slice a n c] 362)).drew).alloc (.cells #[(3:Int),(4:Int)] 158)))):=cY num dep k u [3,4] (w.heap.size+1) g cap (G.ao hb1) hk hd hO hku hu hkb zac;obtain ⟨hcap,hgl,hg0⟩:=G.tN;have hrng:=G.ui hu;have hfz:w.frozen? ⟨g,u*8+5,none⟩=false:=OC (aD G.states (Ni _)) _;have cv:w.cell? ⟨g,u*8+5,none⟩=some (.slice X[u].ve.a X[u].ve.n X[u].ve.c):=hrng 5 _ rfl;have hlw:w.heap.size<(((w.alloc (.cells #[(num:Int),(dep:Int),.slice a n c] 362)).drew).alloc (.cells #[(3:Int),(4:Int)] 158)).heap.size:=zae;have HF:Hid (∀ w4,Below (((w.alloc (.cells #[(num:Int),(dep:Int),.slice a n c] 362)).drew).alloc (.cells #[(3:Int),(4:Int)] 158)).heap.size (((w.alloc (.cells #[(num:Int),(dep:Int),.slice a n c] 362)).drew).alloc (.cells #[(3:Int),(4:Int)] 158)) w4->w4.cell? ⟨g,u*8+5,none⟩=some (.slice X[u].ve.a X[u].ve.n X[u].ve.c)/\w4.frozen? ⟨g,u*8+5,none⟩=false/\w4.cell? w=some ↑(num:Int)/\w4.cell? ⟨w,1,none⟩=some ↑(dep:Int)/\w4.cell? ⟨w,2,none⟩=some (.slice a n c)):=by
  exact zdb
 have HG:Hid (∀ w4 w5,Below (((w.alloc (.cells #[(num:Int),(dep:Int),.slice a n c] 362)).drew).alloc (.cells #[(3:Int),(4:Int)] 158)).heap.size (((w.alloc (.cells #[(num:Int),(dep:Int),.slice a n c] 362)).drew).alloc (.cells #[(3:Int),(4:Int)] 158)) w4->Below w4.heap.size (w4.setCell ⟨g,u*8+5,none⟩ (.slice a n c)) w5->aq w0 w5 db ⟨some ⟨g,0,none⟩,X.length,cap⟩ pv ov mb tm (X.set u (Pro.gH X[u] num A ⟨a,n,c⟩)) SP O PT nm D):=by
  intro w4 w5 hb4 hb5;have hw4:=hb1.trans (hb4.mono hb1.size);have h:=G.Dl (v':=⟨a,n,c⟩) (x':=Pro.gH X[u] num A ⟨a,n,c⟩) (j:=5) hw4 hu zac rfl rfl rfl rfl hA (G.deep u hu).leave;exact h.ao (hb5.mono zad)
 rw [h2] at HF;clear cv hfz hrng h2;clear hd hku hk hO hkb;go_enter func360,ntmps360
 go_upto_region 1 with fail
 refine OO zab ?_;change wpAny _ _ _ _ _ _ _ (World.drew _);refine tA 0 w rfl ?_;refine tA 2 db rfl ?_;refine tA 3 w rfl ?_;refine tA 4 w rfl ?_;refine yA [1,5,6] ?_;refine M5 rfl (fun K hK => ?_) (M5 rfl (fun K hK => ?_) (M5 rfl (fun K hK => ?_) Ns))
 ·go_simp;refine hK _ _ ?_;clear hK K;refine yA [5,6] ?_;refine M5 rfl (fun K hK => ?_) (M5 rfl (fun K hK => ?_) Ns)
  ·exact zcV
  ·exact zcT
 ·go_simp;refine hK _ _ ?_;clear hK K;refine yA [1,6] ?_;refine M5 rfl (fun K hK => ?_) (M5 rfl (fun K hK => ?_) Ns)
  ·exact zcV
  ·exact zcC
 ·go_simp;refine hK _ _ ?_;clear hK K;refine yA [1,5] ?_;refine M5 rfl (fun K hK => ?_) (M5 rfl (fun K hK => ?_) Ns)
  ·exact zcT
  ·exact zcC
