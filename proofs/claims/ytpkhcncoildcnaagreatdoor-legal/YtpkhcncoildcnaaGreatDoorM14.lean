import Derived.Test.YtpkhcncoildcnaaGreatDoorM13
import Derived.Deep.RegionHeldLaw
set_option maxRecDepth 100000
set_option maxHeartbeats 8000000
namespace Go.Proofs.YtpkhcncoildcnaaGreatDoor
variable {zp:Prop}
theorem zfP(h:zp:=by
 go_simp;refine hK _ _ ?_;clear hK K;refine zA 6 rfl fun K hK=>?_
 ·go_simp;refine hK _ _ ?_;clear hK K;refine zA 7 rfl fun K hK=>?_
  ·go_simp;refine HC.out.mono ?_;rintro e w4 h4;unfold aA at h4;rw[OD hh]at h4;obtain⟨hb,b,h5,h6,rfl⟩:=h4;dsimp only;exact⟨rfl,TM.trans (hb.mono TM.size),b,Ox TM.size h5,h6,rfl⟩):zp:=h
theorem zfQ(h:zp:=by
 go_simp;refine hK _ _ ?_;clear hK K;refine zA 6 rfl fun K hK=>?_
 ·go_simp;refine hK _ _ ?_;clear hK K;refine zA 7 rfl fun K hK=>?_
  ·go_simp;refine(aS num dep _ G1 h hd).mono ?_;rintro e w4 ⟨hb,b,h5,h6,rfl⟩;dsimp only;exact⟨rfl,TM.trans (hb.mono TM.size),b,Ox TM.size h5,h6,rfl⟩):zp:=h
theorem zfT(h:zp:=by
 go_simp;refine hK _ _ ?_;clear hK K;refine zA 7 rfl fun K hK=>?_
 ·go_simp;refine HC.out.mono ?_;rintro e w4 h4;unfold aA at h4;rw[OD hh]at h4;obtain⟨hb,b,h5,h6,rfl⟩:=h4;dsimp only;exact⟨rfl,TM.trans (hb.mono TM.size),b,Ox TM.size h5,h6,rfl⟩):zp:=h
theorem zfU(h:zp:=by
 go_simp;refine hK _ _ ?_;clear hK K;refine zA 7 rfl fun K hK=>?_
 ·go_simp;refine(aS num dep _ G1 h hd).mono ?_;rintro e w4 ⟨hb,b,h5,h6,rfl⟩;dsimp only;exact⟨rfl,TM.trans (hb.mono TM.size),b,Ox TM.size h5,h6,rfl⟩):zp:=h
theorem zfV(h:zp:=by
 rintro e w5 ⟨hb,b,h5,h6,rfl⟩;dsimp only;exact⟨rfl,(TM.trans (TY.mono TM.size)).trans (hb.mono (Ox TM.size TY.size)),b,Ox (Ox TM.size TY.size) h5,h6,rfl⟩):zp:=h
theorem zfW(h:zp:=by
 rintro e w5 ⟨rfl,Vl⟩;have G5:=HG.out w4 w5 TY Vl;dsimp only;refine hK _ _ ?_;clear hK K;refine P0 zab ?_ _;go_wp2;go_end0;exact⟨rfl,G5⟩):zp:=h
theorem zcC(h:zp:=by
 clear hK K;refine zH 15 rfl fun K hK=>?_;refine step_append_lies _ zaf _ _ _ zaf w0.heap.size 188 i0 _ 8 136 underlying169 hi Ue Ub Uf rfl zac (.slice sv1.a sv1.n sv1.c) X1.length (X1.flatMap J.aP) zaf (b7 TN _) ⟨W2,0,none⟩ 1 1 [(kd:Int),nme,(dep:Int),(ow:Int),.slice none 0 0,.slice none 0 0,.slice none 0 0,.slice none 0 0] zaf zaf (World.news_of_block (cs:=#[(kd:Int),nme,(dep:Int),(ow:Int),.slice none 0 0,.slice none 0 0,.slice none 0 0,.slice none 0 0]) (t:=188) (fr:=(0,0)) (OH W2 _)) zao zaa zah zaa zae (W2.heap.size+1) zad ?_;intro g5 cap5 w5 TQ L8 Uy U2;have hfz5:=((L8.frozen_far ⟨db,0,none⟩ zae Xe.out).trans ((((Oy W2 W2).alloc (Ow _) _).drew).frozen (p:=db) UH)).trans f0;have hcc5:=((L8.cell_far ⟨db,0,none⟩ zae Xe.out).trans ((((Oy W2 W2).alloc (Ow _) _).drew).cell (p:=db) UH)).trans c0;have k1:=((L8.cell_far ⟨B,1,none⟩ zae WN.out).trans ((((Oy W2 W2).alloc (Ow _) _).drew).cell (p:=⟨B,1,none⟩) UE)).trans b1;have k2:=((L8.cell_far ⟨B,2,none⟩ zae WN.out).trans ((((Oy W2 W2).alloc (Ow _) _).drew).cell (p:=⟨B,2,none⟩) UE)).trans b2;have k3:=((L8.cell_far ⟨B,3,none⟩ zae WN.out).trans ((((Oy W2 W2).alloc (Ow _) _).drew).cell (p:=⟨B,3,none⟩) UE)).trans b3;refine hK.out _ _ ⟨k1,k2,k3⟩ (fun u0=>?_);clear hK K;refine tH 16 db rfl u0 ?_;refine tH 17 db rfl u0 ?_;refine zH 18 rfl fun K hK=>?_;go_simp;refine hK.out _ _ zal (fun u0=>?_);clear hK K;refine OY zab ?_ _;go_wp2_with fail;go_meet
 case rel=>
  have UM:Below W2 W2 ((W2.alloc (.cells #[(kd:Int),nme,(dep:Int),(ow:Int),.slice none 0 0,.slice none 0 0,.slice none 0 0,.slice none 0 0] 188)).drew):=((Oy _ _).alloc (Ow _) _).drew;rw[<- HDS.out]at TQ;refine⟨⟨some ⟨g5,0,none⟩,X1.length+1,cap5⟩,A2.G.zj (sv':=⟨some ⟨g5,0,none⟩,X1.length+1,cap5⟩) UM L8 TQ rfl rfl rfl rfl HE.out.2.2.2.2.2.1 HE.out.2.2.2.2.2.2 HE.out.2.2.2.2.1 HPT1.out,?_⟩;rw[(aa w5 db 0 _).block B (fun h=>by
   have b1:=A2.box;have TZ:=A2.G.draft;rw[h,TZ]at b1;simp at b1)]
  exact gA A2.box UM (b7 TN _) L8 zac):zp:=h
theorem zcD(h:zp:=by
 clear hK K;refine zH 8 rfl fun K hK=>?_;refine step_append_lies _ zaf _ _ _ zaf w0.heap.size 244 i0 _ 2 16 underlying170 hi Ue Ub Uf rfl zac (.slice pv.a pv.n pv.c) SP.length (SP.flatMap J.i6) zaf (b7 TN _) ⟨W3,0,none⟩ 1 1 [(num:Int),(dep:Int)] zaf zaf (World.news_of_block (cs:=#[(num:Int),(dep:Int)]) (t:=244) (fr:=(0,0)) (OH W3 _)) zao zaa zah zaa zae (W3.heap.size+1) zad ?_;intro g5 cap5 w5 TQ L8 Uy U2;have hfz5:=((L8.frozen_far ⟨db,1,none⟩ zae Xe.out).trans ((((Oy W3 W3).alloc (Ow _) _).drew).frozen (p:=⟨db,1,none⟩) UH)).trans f1;have hcc5:=((L8.cell_far ⟨db,1,none⟩ zae Xe.out).trans ((((Oy W3 W3).alloc (Ow _) _).drew).cell (p:=⟨db,1,none⟩) UH)).trans c1;have k0:=((L8.cell_far ⟨B,0,none⟩ zae WN.out).trans ((((Oy W3 W3).alloc (Ow _) _).drew).cell (p:=B) UE)).trans b0;have k1:=((L8.cell_far ⟨B,1,none⟩ zae WN.out).trans ((((Oy W3 W3).alloc (Ow _) _).drew).cell (p:=⟨B,1,none⟩) UE)).trans b1;refine hK.out _ _ ⟨k0,k1⟩ (fun u0=>?_);clear hK K;refine tH 9 db rfl u0 ?_;refine tH 10 (db,1) rfl u0 ?_;refine zH 11 rfl fun K hK=>?_;go_simp;refine hK.out _ _ zal (fun u0=>?_);clear hK K;refine OY zab ?_ _;go_wp2_with fail;go_meet
 case rel=>
  have UM:Below W3 W3 ((W3.alloc (.cells #[(num:Int),(dep:Int)] 244)).drew):=((Oy _ _).alloc (Ow _) _).drew;refine⟨⟨some ⟨g5,0,none⟩,SP.length+1,cap5⟩,A3.G.DE (pv':=⟨some ⟨g5,0,none⟩,SP.length+1,cap5⟩) (q:=(num,(dep:Int))) UM L8 TQ,?_⟩;rw[(aa w5 db 1 _).block B Yg];exact gA A3.box UM (b7 TN _) L8 zac):zp:=h
theorem zcE(h:zp:=by
 refine zH 11 rfl fun K hK=>?_;refine step_append_lies _ zaf _ _ _ zaf w0.heap.size 3 i0 _ 1 8 underlying23 hi Ue Ub Uf rfl zac (.slice go dep oc) dep ((O.take dep).flatMap eM) zaf (b7 hownT _) ⟨W4,0,none⟩ 1 1 [(X.length:Int)] zaf zaf (World.news_of_block (cs:=#[(X.length:Int)]) (t:=3) (fr:=(0,0)) (OH W4 _)) zao zaa zah zaa zae (W4.heap.size+1) zad ?_;intro g5 cap5 w5 TQ L8 Uy U2;have hfz5:=((L8.frozen_far ⟨db,2,none⟩ zae Xe.out).trans ((((Oy W4 W4).alloc (Ow _) _).drew).frozen (p:=⟨db,2,none⟩) UH)).trans f2;have hcc5:=((L8.cell_far ⟨db,2,none⟩ zae Xe.out).trans ((((Oy W4 W4).alloc (Ow _) _).drew).cell (p:=⟨db,2,none⟩) UH)).trans c2;have k1:=((L8.cell_far ⟨B,1,none⟩ zae WN.out).trans ((((Oy W4 W4).alloc (Ow _) _).drew).cell (p:=⟨B,1,none⟩) UE)).trans b1;refine hK.out _ _ k1 (fun u0=>?_);clear hK K;refine tH 12 db rfl u0 ?_;refine tH 13 (db,2) rfl u0 ?_;refine zH 14 rfl fun K hK=>?_;go_simp;refine hK.out _ _ zal (fun u0=>?_);clear hK K;refine OY zab ?_ _;go_wp2_with fail;go_meet
 case rel=>
  have UM:Below W4 W4 ((W4.alloc (.cells #[(X.length:Int)] 3)).drew):=((Oy _ _).alloc (Ow _) _).drew;refine⟨⟨some ⟨g5,0,none⟩,dep+1,cap5⟩,A4.G.rL (ov':=⟨some ⟨g5,0,none⟩,dep+1,cap5⟩) (O':=O.take dep++[X.length]) UM L8 (by
   rw[OM,PH,R7 HD.out,Ph];exact TQ) (by
   rcases Uy with h|h
   ·exact .inl h.symm
   ·exact .inr zax),?_⟩
  rw[(aa w5 db 2 _).block B Yg];exact gA A4.box UM (b7 hownT _) L8 zac):zp:=h
theorem zcF(h:zp:=by
 refine zH 11 rfl fun K hK=>?_;refine step_append_lies _ zaf _ _ _ zaf w0.heap.size 3 i0 _ 1 8 underlying23 hi Ue Ub Uf rfl zac (.slice none 0 0) 0 [] zaf (b7 hownN _) ⟨W4,0,none⟩ 1 1 [(X.length:Int)] zaf zaf (World.news_of_block (cs:=#[(X.length:Int)]) (t:=3) (fr:=(0,0)) (OH W4 _)) zao zaa zah zaa zae (W4.heap.size+1) zad ?_;intro g5 cap5 w5 TQ L8 Uy U2;have hfz5:=((L8.frozen_far ⟨db,2,none⟩ zae Xe.out).trans ((((Oy W4 W4).alloc (Ow _) _).drew).frozen (p:=⟨db,2,none⟩) UH)).trans f2;have hcc5:=((L8.cell_far ⟨db,2,none⟩ zae Xe.out).trans ((((Oy W4 W4).alloc (Ow _) _).drew).cell (p:=⟨db,2,none⟩) UH)).trans c2;have k1:=((L8.cell_far ⟨B,1,none⟩ zae WN.out).trans ((((Oy W4 W4).alloc (Ow _) _).drew).cell (p:=⟨B,1,none⟩) UE)).trans b1';refine hK.out _ _ k1 (fun u0=>?_);clear hK K;refine tH 12 db rfl u0 ?_;refine tH 13 (db,2) rfl u0 ?_;refine zH 14 rfl fun K hK=>?_;go_simp;refine hK.out _ _ zal (fun u0=>?_);clear hK K;refine OY zab ?_ _;go_wp2_with fail;go_meet
 case rel=>
  have UM:Below W4 W4 ((W4.alloc (.cells #[(X.length:Int)] 3)).drew):=((Oy _ _).alloc (Ow _) _).drew;refine⟨⟨some ⟨g5,0,none⟩,0+1,cap5⟩,A4.G.rL (ov':=⟨some ⟨g5,0,none⟩,0+1,cap5⟩) (O':=([]:List Nat).take 0++[X.length]) UM L8 (by
   rw[OM,PH,R7 HD.out,Ph];exact TQ) (by
   rcases Uy with h|h
   ·exact .inl h.symm
   ·exact .inr zax),?_⟩
  rw[(aa w5 db 2 _).block B Yg];exact gA A4.box UM (b7 hownN _) L8 zac):zp:=h
theorem zcG(h:zp:=by
 go_simp;refine hK _ _ ?_;clear hK K;refine yA [1,7] ?_;refine OC rfl (fun K hK=>?_) (OC rfl (fun K hK=>?_) OX)
 ·go_simp;refine hK _ _ ?_;clear hK K;refine zA 7 rfl fun K hK=>?_
  ·go_simp;refine HC.out.mono ?_;rintro e w4 h4;unfold aA at h4;rw[OB hh]at h4;obtain⟨rfl,TY⟩:=h4;obtain⟨cx,fx,q0,q1,q2⟩:=HF.out w4 TY;dsimp only;refine hK _ _ ?_;clear hK K;refine tA 8 (g,u*8) rfl ?_;refine tA 9 (g,u*8+5) rfl ?_;refine zA 10 rfl fun K hK=>?_;go_simp;refine(bK num dep a n c g (u*8+5) _ _ _ cx h2).mono ?_;exact zfV
 ·go_simp;refine HC.out.mono ?_;rintro e w4 h4;unfold aA at h4;rw[OB hh]at h4;obtain⟨rfl,TY⟩:=h4;obtain⟨cx,fx,q0,q1,q2⟩:=HF.out w4 TY;dsimp only;refine hK _ _ ?_;clear hK K;refine tA 8 (g,u*8) rfl ?_;refine tA 9 (g,u*8+5) rfl ?_;refine zA 1 rfl fun K hK=>?_;go_simp;refine hK _ _ ?_;clear hK K;refine zA 10 rfl fun K hK=>?_;go_simp;refine(bK num dep a n c g (u*8+5) _ _ _ cx h2).mono ?_;rintro e w5 ⟨hb,b,h5,h6,rfl⟩;dsimp only;exact⟨rfl,(TM.trans (TY.mono TM.size)).trans (hb.mono (Ox TM.size TY.size)),b,Ox (Ox TM.size TY.size) h5,h6,rfl⟩):zp:=h
theorem zcI(h:zp:=by
 go_simp;refine hK _ _ ?_;clear hK K;refine yA [1,7] ?_;refine OC rfl (fun K hK=>?_) (OC rfl (fun K hK=>?_) OX)
 ·go_simp;refine hK _ _ ?_;clear hK K;refine zA 7 rfl fun K hK=>?_
  ·go_simp;refine HC.out.mono ?_;rintro e w4 h4;unfold aA at h4;rw[OB hh]at h4;obtain⟨rfl,TY⟩:=h4;obtain⟨cx,fx,q0,q1,q2⟩:=HF.out w4 TY;dsimp only;refine hK _ _ ?_;clear hK K;refine tA 8 (g,u*8) rfl ?_;refine tA 9 (g,u*8+5) rfl ?_;refine zA 10 rfl fun K hK=>?_;go_simp;refine(bA num dep a n c g (u*8+5) _ _ cx fx).mono ?_;exact zfW
 ·go_simp;refine HC.out.mono ?_;rintro e w4 h4;unfold aA at h4;rw[OB hh]at h4;obtain⟨rfl,TY⟩:=h4;obtain⟨cx,fx,q0,q1,q2⟩:=HF.out w4 TY;dsimp only;refine hK _ _ ?_;clear hK K;refine tA 8 (g,u*8) rfl ?_;refine tA 9 (g,u*8+5) rfl ?_;refine zA 1 rfl fun K hK=>?_;go_simp;refine hK _ _ ?_;clear hK K;refine zA 10 rfl fun K hK=>?_;go_simp;refine(bA num dep a n c g (u*8+5) _ _ cx fx).mono ?_;rintro e w5 ⟨rfl,Vl⟩;have G5:=HG.out w4 w5 TY Vl;dsimp only;refine hK _ _ ?_;clear hK K;refine P0 zab ?_ _;go_wp2;go_end0;exact⟨rfl,G5⟩):zp:=h
theorem zcK(h:zp:=by
 go_simp;refine hK _ _ ?_;clear hK K;refine yA [1,5] ?_;refine OC rfl (fun K hK=>?_) (OC rfl (fun K hK=>?_) OX)
 ·go_simp;refine hK _ _ ?_;clear hK K;refine zA 5 rfl fun K hK=>?_
  ·exact zfT
 ·go_simp;refine hK _ _ ?_;clear hK K;refine yA [1,7] ?_;refine OC rfl (fun K hK=>?_) (OC rfl (fun K hK=>?_) OX)
  ·exact zfT
  ·go_simp;refine HC.out.mono ?_;rintro e w4 h4;unfold aA at h4;rw[OD hh]at h4;obtain⟨hb,b,h5,h6,rfl⟩:=h4;dsimp only;exact⟨rfl,TM.trans (hb.mono TM.size),b,Ox TM.size h5,h6,rfl⟩):zp:=h
theorem zcL(h:zp:=by
 go_simp;refine hK _ _ ?_;clear hK K;refine yA [1,6] ?_;refine OC rfl (fun K hK=>?_) (OC rfl (fun K hK=>?_) OX)
 ·exact zfP
 ·go_simp;refine hK _ _ ?_;clear hK K;refine yA [1,7] ?_;refine OC rfl (fun K hK=>?_) (OC rfl (fun K hK=>?_) OX)
  ·exact zfT
  ·go_simp;refine HC.out.mono ?_;rintro e w4 h4;unfold aA at h4;rw[OD hh]at h4;obtain⟨hb,b,h5,h6,rfl⟩:=h4;dsimp only;exact⟨rfl,TM.trans (hb.mono TM.size),b,Ox TM.size h5,h6,rfl⟩):zp:=h
theorem zcP(h:zp:=by
 go_simp;refine hK _ _ ?_;clear hK K;refine yA [1,5] ?_;refine OC rfl (fun K hK=>?_) (OC rfl (fun K hK=>?_) OX)
 ·go_simp;refine hK _ _ ?_;clear hK K;refine zA 5 rfl fun K hK=>?_
  ·exact zfU
 ·go_simp;refine hK _ _ ?_;clear hK K;refine yA [1,7] ?_;refine OC rfl (fun K hK=>?_) (OC rfl (fun K hK=>?_) OX)
  ·exact zfU
  ·go_simp;refine(aS num dep _ G1 h hd).mono ?_;rintro e w4 ⟨hb,b,h5,h6,rfl⟩;dsimp only;exact⟨rfl,TM.trans (hb.mono TM.size),b,Ox TM.size h5,h6,rfl⟩):zp:=h
theorem zcQ(h:zp:=by
 go_simp;refine hK _ _ ?_;clear hK K;refine yA [1,6] ?_;refine OC rfl (fun K hK=>?_) (OC rfl (fun K hK=>?_) OX)
 ·exact zfQ
 ·go_simp;refine hK _ _ ?_;clear hK K;refine yA [1,7] ?_;refine OC rfl (fun K hK=>?_) (OC rfl (fun K hK=>?_) OX)
  ·exact zfU
  ·go_simp;refine(aS num dep _ G1 h hd).mono ?_;rintro e w4 ⟨hb,b,h5,h6,rfl⟩;dsimp only;exact⟨rfl,TM.trans (hb.mono TM.size),b,Ox TM.size h5,h6,rfl⟩):zp:=h
theorem zcR(h:zp:=by
 go_simp;refine hK _ _ ?_;clear hK K;refine yA [5,6] ?_;refine OC rfl (fun K hK=>?_) (OC rfl (fun K hK=>?_) OX)
 ·exact zfP
 ·go_simp;refine hK _ _ ?_;clear hK K;refine zA 5 rfl fun K hK=>?_
  ·go_simp;refine hK _ _ ?_;clear hK K;refine zA 7 rfl fun K hK=>?_
   ·go_simp;refine HC.out.mono ?_;rintro e w4 h4;unfold aA at h4;rw[OD hh]at h4;obtain⟨hb,b,h5,h6,rfl⟩:=h4;dsimp only;exact⟨rfl,TM.trans (hb.mono TM.size),b,Ox TM.size h5,h6,rfl⟩):zp:=h
theorem zcS(h:zp:=by
 go_simp;refine hK _ _ ?_;clear hK K;refine yA [5,6] ?_;refine OC rfl (fun K hK=>?_) (OC rfl (fun K hK=>?_) OX)
 ·exact zfQ
 ·go_simp;refine hK _ _ ?_;clear hK K;refine zA 5 rfl fun K hK=>?_
  ·go_simp;refine hK _ _ ?_;clear hK K;refine zA 7 rfl fun K hK=>?_
   ·go_simp;refine(aS num dep _ G1 h hd).mono ?_;rintro e w4 ⟨hb,b,h5,h6,rfl⟩;dsimp only;exact⟨rfl,TM.trans (hb.mono TM.size),b,Ox TM.size h5,h6,rfl⟩):zp:=h
theorem zcV(h:zp:=by
 go_simp;refine hK _ _ ?_;clear hK K;refine zA 5 rfl fun K hK=>?_
 ·go_simp;refine hK _ _ ?_;clear hK K;refine zA 7 rfl fun K hK=>?_
  ·go_simp;refine HC.out.mono ?_;rintro e w4 h4;unfold aA at h4;rw[OB hh]at h4;obtain⟨rfl,TY⟩:=h4;obtain⟨cx,fx,q0,q1,q2⟩:=HF.out w4 TY;dsimp only;refine hK _ _ ?_;clear hK K;refine tA 8 (g,u*8) rfl ?_;refine tA 9 (g,u*8+5) rfl ?_;refine zA 10 rfl fun K hK=>?_;go_simp;refine(bK num dep a n c g (u*8+5) _ _ _ cx h2).mono ?_;rintro e w5 ⟨hb,b,h5,h6,rfl⟩;dsimp only;exact⟨rfl,(TM.trans (TY.mono TM.size)).trans (hb.mono (Ox TM.size TY.size)),b,Ox (Ox TM.size TY.size) h5,h6,rfl⟩):zp:=h
theorem zcX(h:zp:=by
 go_simp;refine hK _ _ ?_;clear hK K;refine zA 6 rfl fun K hK=>?_
 ·go_simp;refine hK _ _ ?_;clear hK K;refine zA 7 rfl fun K hK=>?_
  ·go_simp;refine HC.out.mono ?_;rintro e w4 h4;unfold aA at h4;rw[OB hh]at h4;obtain⟨rfl,TY⟩:=h4;obtain⟨cx,fx,q0,q1,q2⟩:=HF.out w4 TY;dsimp only;refine hK _ _ ?_;clear hK K;refine tA 8 (g,u*8) rfl ?_;refine tA 9 (g,u*8+5) rfl ?_;refine zA 10 rfl fun K hK=>?_;go_simp;refine(bK num dep a n c g (u*8+5) _ _ _ cx h2).mono ?_;rintro e w5 ⟨hb,b,h5,h6,rfl⟩;dsimp only;exact⟨rfl,(TM.trans (TY.mono TM.size)).trans (hb.mono (Ox TM.size TY.size)),b,Ox (Ox TM.size TY.size) h5,h6,rfl⟩):zp:=h
theorem zcZ(h:zp:=by
 go_simp;refine hK _ _ ?_;clear hK K;refine zA 5 rfl fun K hK=>?_
 ·go_simp;refine hK _ _ ?_;clear hK K;refine zA 7 rfl fun K hK=>?_
  ·go_simp;refine HC.out.mono ?_;rintro e w4 h4;unfold aA at h4;rw[OB hh]at h4;obtain⟨rfl,TY⟩:=h4;obtain⟨cx,fx,q0,q1,q2⟩:=HF.out w4 TY;dsimp only;refine hK _ _ ?_;clear hK K;refine tA 8 (g,u*8) rfl ?_;refine tA 9 (g,u*8+5) rfl ?_;refine zA 10 rfl fun K hK=>?_;go_simp;refine(bA num dep a n c g (u*8+5) _ _ cx fx).mono ?_;rintro e w5 ⟨rfl,Vl⟩;have G5:=HG.out w4 w5 TY Vl;dsimp only;refine hK _ _ ?_;clear hK K;refine P0 zab ?_ _;go_wp2;go_end0;exact⟨rfl,G5⟩):zp:=h
theorem zc1(h:zp:=by
 go_simp;refine hK _ _ ?_;clear hK K;refine zA 6 rfl fun K hK=>?_
 ·go_simp;refine hK _ _ ?_;clear hK K;refine zA 7 rfl fun K hK=>?_
  ·go_simp;refine HC.out.mono ?_;rintro e w4 h4;unfold aA at h4;rw[OB hh]at h4;obtain⟨rfl,TY⟩:=h4;obtain⟨cx,fx,q0,q1,q2⟩:=HF.out w4 TY;dsimp only;refine hK _ _ ?_;clear hK K;refine tA 8 (g,u*8) rfl ?_;refine tA 9 (g,u*8+5) rfl ?_;refine zA 10 rfl fun K hK=>?_;go_simp;refine(bA num dep a n c g (u*8+5) _ _ cx fx).mono ?_;rintro e w5 ⟨rfl,Vl⟩;have G5:=HG.out w4 w5 TY Vl;dsimp only;refine hK _ _ ?_;clear hK K;refine P0 zab ?_ _;go_wp2;go_end0;exact⟨rfl,G5⟩):zp:=h
theorem zdh(h:zp:=by
 intro w4 TY;have hbg:=(TM.trans (TY.mono TM.size)).block g UN;have Ui:w4.heap[w.heap.size]?=some (.cells #[(num:Int),(dep:Int),.slice a n c] 375 (0,0)):=by
  rw[TY.block w TW,Pz _ _ _ zad];exact OH w _
 refine⟨(OO hbg).trans cv,(Rl hbg).trans Vp,?_,?_,?_⟩<;>rw[OA w4 _ _ _ _ _ Ui]<;>rfl):zp:=h
theorem zdC(h:zp:=by
 clear WT;go_wp2_with fail;refine(aV num dep 3 _).mono ?_;rintro e w3 ⟨hb,b,h5,h6,rfl⟩;dsimp only;refine⟨rfl,?_⟩;rw[HF.out];exact⟨Ui.trans (hb.mono U5),b,Ox U5 h5,h6,rfl⟩):zp:=h
theorem zdX(h:zp:=by
 have:=OH ((w.alloc (.cells #[(num:Int),(dep:Int),.slice a n c] 375)).drew) (.cells #[(3:Int),(4:Int)] 177);simpa using this):zp:=h
theorem zfd(h:zp:=by
 cases ov
 simp[U.Sl.v]at h;simp[h.1,h.2.1,h.2.2]):zp:=h
theorem zal(h:zp:=by(try dsimp only);go_keep):zp:=h
theorem zbf(h:zp:=by rw[OA w3 _ _ _ _ _ Xf];rfl):zp:=h
theorem zbL(h:zp:=by rw[OA W2 _ _ _ _ _ A2.box];rfl):zp:=h
theorem zbM(h:zp:=by rw[OA W3 _ _ _ _ _ A3.box];rfl):zp:=h
theorem zbN(h:zp:=by rw[OA W4 _ _ _ _ _ A4.box];rfl):zp:=h
theorem zbP(h:zp:=by rw[OA W2 _ _ _ _ _ hbx2];rfl):zp:=h
open Tryz
variable {base n size:Nat}{e:TypeId}{xs:List Value}{v:Value}
section
open Go.RowKit
variable {w0 w:World}{db mb nm:Nat}{sv pv ov:U.Sl}{tm:Bool}{X:List J.DS}{SP:List (Int×Int)}{O:List Nat}{PT:Nat->List Nat}{D:DataW Nat}
theorem Co:(Tryz.prog.info? 188).map (fun i=>(i.zero,i.size,i.bytes))=some (some (.agg #[(0:Int),ByteArray.empty,(0:Int),(0:Int),.slice none 0 0,.slice none 0 0,.slice none 0 0,.slice none 0 0]),8,136):=zab
theorem Fm:(Tryz.prog.info? 244).map (fun i=>(i.zero,i.size,i.bytes))=some (some (.agg #[(0:Int),(0:Int)]),2,16):=zab
theorem Af:(Tryz.prog.info? 3).map (fun i=>(i.zero,i.size,i.bytes))=some (some ↑(0:Int),1,8):=zab
theorem FJ{n' cap go:Nat}{w:World}(h:w.ownsRow base e 1 (.slice go n cap) n xs)(hn:n'<=n):w.ownsRow base e 1 (.slice go n' cap) n' (xs.take n'):=by
 rcases h.2 with⟨h',_⟩|⟨g,cap',cur,hv,hb,hg,h1,h2,h3,h4⟩
 ·cases h'
 ·simp only[Value.slice.injEq,Option.some.injEq,Addr.mk.injEq,and_true,true_and]at hv;obtain⟨rfl,rfl⟩:=hv;have hl:=h.1;refine⟨by rw[PH,hl];omega,.inr ⟨go,cap,cur,rfl,hb,hg,zaa,h2,h3,?_⟩⟩;rw[<- h4,List.take_take]
  congr 1
  omega
theorem Fe(O:List Nat)(d:Nat):(O.flatMap eM).take d=(O.take d).flatMap eM:=by
 induction O generalizing d with
 |nil=>simp
 |cons a O ih=>
  cases d with
  |zero=>simp
  |succ d=>simp only[List.flatMap_cons,List.take_succ_cons];rw[show eM a=[.int .i64 a] from rfl];simp[ih]
def eO(num:Int)(dep:Nat)(kd:Int)(nme:()):Array Value:=#[(num:Int),(dep:Int),(kd:Int),nme]
structure rQ(B:Nat)(bx:Array Value)(w0 w:World)(db:Nat)(sv pv ov:U.Sl)(mb:Nat)(tm:Bool)(X:List J.DS)(SP:List (Int×Int))(O:List Nat)(PT:Nat->List Nat)(nm:Nat)(D:DataW Nat):Prop where
 G:ao w0 w db sv pv ov mb tm X SP O PT nm D
 box:w.heap[B]?=some (.cells bx 364 (0,0))
theorem b7{w:World}(h:w.ownsRow base e size v n xs)(o:Obj):((w.alloc o).drew).ownsRow base e size v n xs:=(QH h o).drew
theorem gA{B:Nat}{bx:Array Value}{w wc w5:World}(hb:w.heap[B]?=some (.cells bx 364 (0,0)))(UM:Below w w wc)(ho:wc.ownsRow base e size v n xs)(hg:wc.grownBy w5 v.ownBlock)(TU:364≠e):w5.heap[B]?=some (.cells bx 364 (0,0)):=
 bR (bR hb (cT (e:=e) UM) TU) (dP ho hg) TU
theorem BH(num:Int)(dep:Nat)(kd ow:Int)(nme:())(ns:U.State)(G:ao w0 w db sv pv ov mb tm X SP O PT nm D)(hX:X.length<=1000)(hSP:SP.length<=1000)(hO:O.length<=1000)(hPTl:∀i,(PT i).length<=1000)(Uq:nm<=1000)
  (U8:J.al ns=kd) (hnme:ns.name=nme) (Xc:ns.depth=dep) (hup:ns.up=ow) (hm:ns.aj=[]) (he:ns.enter=[]) (hl:ns.leave=[]) (hd:dep<=O.length) (T6:nme.size<=1000000) (VZ:(Lit.int .i64 num).wf=true)
  (how:ow=-1\/∃u:Nat,ow=u/\u<X.length) (hPT:PT X.length=[]):
  () 351 #[db,.agg (eO num dep kd nme),(ow:Int)] w fun e w'=>e=.returned (.tuple #[])/\∃sv' pv' ov' X',X'.map (·.s)=X.map (·.s)++[ns] /\
   ao w0 w' db sv' pv' ov' mb tm X' (SP++[(num,(dep:Int))]) (O.take dep++[X.length]) (fun i=>if(i:Int)=ow then PT i++[X.length] else PT i) (nm+1) (if Go.Maps.has D (.string nme.data.toList) then D else D.put (.string nme.data.toList) (.lit (.int .i64 num))):=by
 have U6:=G.Me;have UH:=G.dlt;have TM:Below w w (w.alloc (.cells (eO num dep kd nme) 364)):=(Oy _ _).alloc (Ow _) _;have A1:rQ w.heap.size (eO num dep kd nme) w0 (w.alloc (.cells (eO num dep kd nme) 364)) db sv pv ov mb tm X SP O PT nm D:=⟨G.aq TM,OH _ _⟩;obtain⟨c0,c1,c2,c3,c4⟩:=A1.G.cells;rw[U6]at c0;obtain⟨W1,Uj⟩:∃y,y=w.alloc (.cells (eO num dep kd nme) 364):=⟨_,rfl⟩;obtain⟨B,hB⟩:∃B,B=w.heap.size:=⟨_,rfl⟩;obtain⟨i0,hi,Ue,Ub,Uf⟩:=PZ Af;have HE:Hid (J.al ns=kd/\ns.name=nme/\ns.depth=dep/\ns.up=ow/\ns.aj=[]/\ns.enter=[]/\ns.leave=[]):=⟨U8,hnme,Xc,hup,hm,he,hl⟩;clear U8 hnme Xc hup hm he hl;have HPT:Hid _:=hPT;have HPTl:Hid _:=hPTl;have HD:Hid (dep<=O.length):=hd;clear hPT hPTl hd U6;unfold eO at A1 c0 c1 c2 c3 c4 Uj⊢;go_enter func351,ntmps351
 go_upto_if 15 with fail
 change Code.wp _ _ _ _ (w.alloc (.cells #[(num:Int),(dep:Int),(kd:Int),nme] 364));rw[<- Uj]at A1 c0 c1 c2 c3 c4⊢;rw[<- hB]at A1⊢;have Wt:B<W1.heap.size:=(Ov.1 A1.box).1;clear Uj TM G UH hB
 go_cut[] (fun wx=>∃sv1 X1,X1.map (·.s)=X.map (·.s)/\rQ B #[(num:Int),(dep:Int),(kd:Int),nme] w0 wx db sv1 pv ov mb tm X1 SP O (fun i=>if(i:Int)=ow then PT i++[X.length] else PT i) nm D)
 case first=>
  rcases how with how|⟨u,how,hu⟩
  ·subst how;go_wp2;go_meet
   case rel=>
    refine⟨sv,X,rfl,?_⟩;have e:(fun i:Nat=>if(i:Int)=-1 then PT i++[X.length] else PT i)=PT:=by
     funext i;rw[OB zaa]
    rw[e];exact A1
  ·subst how;obtain⟨g,cap,rfl⟩:=A1.G.C6 zaa;obtain⟨UX,UN,hg0⟩:=A1.G.uI;have cP:W1.cell? (g,u*8+4)=some (.slice X[u].vp.a X[u].vp.n X[u].vp.c):=A1.G.uX hu 4 _ rfl;have fP:W1.frozen? (g,u*8+4)=false:=P7 (aC A1.G.states (OL _)) _;have TN:=A1.G.parts u hu;have Uo:=HPTl.out u;have UH:=A1.G.dlt;have hw01:=A1.G.bel.size;have hneg:((u:Int) == -1)=false:=zad;have Xe:Hid (some g≠X[u].vp.v.ownBlock):=fun e=>by
    obtain⟨c,hc⟩:=bS TN _ e.symm;obtain⟨c',TZ⟩:=bS A1.G.states g rfl;exact zfO
   have HNDd:Hid (some db≠X[u].vp.v.ownBlock):=fun e=>by
    obtain⟨c,hc⟩:=bS TN _ e.symm;have TZ:=A1.G.draft;exact zfO
   go_upto_region 3 with fail
   go_region_law
    ((refine step_append_lies _ zaf _ _ _ zaf w0.heap.size 3 i0 _ 1 8 underlying23 hi Ue Ub Uf rfl zac (.slice X[u].vp.a X[u].vp.n X[u].vp.c) (PT u).length ((PT u).flatMap eM) zaf (b7 TN _) ⟨W1,0,none⟩ 1 1 [(X.length:Int)] zaf zaf (World.news_of_block (cs:=#[(X.length:Int)]) (t:=3) (fr:=(0,0)) (OH W1 _)) zao zaa zah zaa zae (W1.heap.size+1) zad ?_;intro g5 cap5 w5 TQ L8 Uy U2;have hfz5:=((L8.frozen_far ⟨g,u*8+4,none⟩ zae Xe.out).trans ((((Oy W1 W1).alloc (Ow _) _).drew).frozen (p:=(g,u*8+4)) UN)).trans fP;have hcc5:=((L8.cell_far ⟨g,u*8+4,none⟩ zae Xe.out).trans ((((Oy W1 W1).alloc (Ow _) _).drew).cell (p:=(g,u*8+4)) UN)).trans cP;have hcd5:=((L8.cell_far ⟨db,0,none⟩ zae HNDd.out).trans ((((Oy W1 W1).alloc (Ow _) _).drew).cell (p:=db) UH)).trans c0))
   all_goals(
    go_wp2_with fail;go_meet
    case rel=>
     have UM:Below W1 W1 ((W1.alloc (.cells #[(X.length:Int)] 3)).drew):=((Oy _ _).alloc (Ow _) _).drew;have GP:=A1.G.addPart (vp':=⟨some ⟨g5,0,none⟩,(PT u).length+1,cap5⟩) (n:=X.length) UM hu L8 (by rw[OM,Ph];exact TQ) (by
      rcases Uy with h|h
      ·exact .inl h.symm
      ·exact .inr zax)
     refine⟨⟨some ⟨g,0,none⟩,X.length,cap⟩,X.set u { X[u] with vp:=⟨some ⟨g5,0,none⟩,(PT u).length+1,cap5⟩ },?_,?_,?_⟩
     ·rw[Qw];apply Qo
      intro i;rw[Qv];split
      ·rename_i h;subst h;simp[hu]
      ·rfl
     ·have e:(fun i:Nat=>if(i:Int)=(u:Int) then PT i++[X.length] else PT i)=fun i=>if i=u then PT u++[X.length] else PT i:=by
       funext i;by_cases h:i=u
       ·subst h;simp
       ·rw[OB h,OB zaa]
      rw[e];exact GP
     ·rw[(aa w5 g (u*8+4) _).block B (fun h=>by
       have b1:=A1.box;obtain⟨c',TZ⟩:=bS A1.G.states g rfl;rw[h,TZ]at b1;simp at b1)]
      exact gA A1.box UM (b7 TN _) L8 zac)
 case rest=>
  obtain⟨sv1,X1,hX1,A2⟩:=hcut;obtain⟨W2,WR⟩:∃y:World,y=wc:=⟨wc,rfl⟩;subst WR;clear A1 c0 c1 c2 c3 c4 Wt hi Ue Ub Uf i0;have Wp:X1.length=X.length:=by
   have:=congrArg List.length hX1;simpa using this
  obtain⟨PT1,hPT1⟩:∃P:Nat->List Nat,P=fun i:Nat=>if(i:Int)=ow then PT i++[X.length] else PT i:=⟨_,rfl⟩;have HPT1:Hid (PT1 X1.length=[]):=by
   unfold Hid;rw[hPT1,Wp];simp only;rw[OB,HPT.out]
   rcases how with h|⟨u,h,hu⟩<;>omega
  rw[<- hPT1]at A2;have HPd:Hid _:=hPT1;have HX1:Hid _:=hX1;have HXl:Hid _:=Wp;have hX1b:X1.length<=1000:=zaa;clear hPT1 hX1 Wp;obtain⟨i0,hi,Ue,Ub,Uf⟩:=PZ Co;have UH:=A2.G.dlt;have hw02:=A2.G.bel.size;have UE:B<W2.heap.size:=(Ov.1 A2.box).1;have TN:=A2.G.states;obtain⟨c0,c1,c2,c3,c4⟩:=A2.G.cells;have f0:=A2.G.frozen 0;have b1:W2.cell? (B,1)=some ↑(dep:Int):=zbL;have b2:W2.cell? (B,2)=some ↑(kd:Int):=zbL;have b3:W2.cell? (B,3)=some ↑nme:=zbL;have Xe:Hid (some db≠sv1.v.ownBlock):=fun e=>by
   obtain⟨c,hc⟩:=bS TN _ e.symm;have TZ:=A2.G.draft;exact zfO
  have HDS:Hid (J.aP ⟨ns,U.Sl.nil,U.Sl.nil,U.Sl.nil,U.Sl.nil⟩=[.int .i64 kd,.string nme,.int .i64 dep,.int .i64 ow,.slice none 0 0,.slice none 0 0,.slice none 0 0,.slice none 0 0]):=by
   unfold Hid J.aP;rw[HE.out.1,HE.out.2.1,HE.out.2.2.1,HE.out.2.2.2.1];rfl
  go_upto_region 4 with fail
  go_cut[] (fun wx=>∃sv2,rQ B #[(num:Int),(dep:Int),(kd:Int),nme] w0 wx db sv2 pv ov mb tm (X1++[⟨ns,U.Sl.nil,U.Sl.nil,U.Sl.nil,U.Sl.nil⟩]) SP O PT1 nm D)
  case first=>
   have hnb:¬db=B:=fun h=>by
    have b1:=A2.box;rw[<- h,A2.G.draft]at b1;simp at b1
   have Yg:¬B=db:=fun h=>hnb h.symm;have WN:Hid (some B≠sv1.v.ownBlock):=fun e=>by
    obtain⟨c,hc⟩:=bS TN _ e.symm;have TZ:=A2.box;exact zfO
   refine OQ (S:=(fun W=>W.cell? ⟨B,1,none⟩=some ↑(dep:Int)/\W.cell? ⟨B,2,none⟩=some ↑(kd:Int)/\W.cell? ⟨B,3,none⟩=some ↑nme)) zab ⟨b1,b2,b3⟩ (fun u0=>?_);refine tH 0 db rfl u0 ?_;refine tH 1 db rfl u0 ?_;refine tH 2 db rfl u0 ?_;refine tH 3 db rfl u0 ?_;refine tH 5 (B,2) rfl u0 ?_;refine tH 6 (.int .i64 kd) rfl u0 ?_;refine tH 7 (B,3) rfl u0 ?_;refine tH 8 (.string nme) rfl u0 ?_;refine tH 9 B rfl u0 ?_;refine tH 10 (B,1) rfl u0 ?_;refine tH 11 (.int .i64 dep) rfl u0 ?_;refine tH 12 (.int .i64 ow) rfl u0 ?_;refine tH 13 (.agg #[(kd:Int),nme,(dep:Int),(ow:Int),.slice none 0 0,.slice none 0 0,.slice none 0 0,.slice none 0 0]) rfl u0 ?_;refine yH [4,14] ?_;refine Pb rfl (fun K hK=>?_) (Pb rfl (fun K hK=>?_) P1)
   ·skip
    go_simp;refine hK.out _ _ u0 (fun u0=>?_);clear hK K;refine zH 14 rfl fun K hK=>?_;go_simp;refine hK.out _ _ zal (fun u0=>?_);exact zcC
   ·skip
    go_simp;refine hK.out _ _ zal (fun u0=>?_);clear hK K;refine zH 4 rfl fun K hK=>?_;go_simp;refine hK.out _ _ u0 (fun u0=>?_);exact zcC
  case rest=>
   obtain⟨sv2,A3⟩:=hcut;obtain⟨W3,hW⟩:∃y:World,y=wc:=⟨wc,rfl⟩;subst hW;clear A2 c0 c1 c2 c3 c4 hi Ue Ub Uf i0 UH hw02 UE TN b1 b2 b3 f0 Xe;obtain⟨i0,hi,Ue,Ub,Uf⟩:=PZ Fm;have UH:=A3.G.dlt;have hw0:=A3.G.bel.size;have UE:B<W3.heap.size:=(Ov.1 A3.box).1;have TN:=A3.G.jh;obtain⟨c0,c1,c2,c3,c4⟩:=A3.G.cells;have b0:W3.cell? B=some ↑(num:Int):=zbM;have b1:W3.cell? (B,1)=some ↑(dep:Int):=zbM;have b3:W3.cell? (B,3)=some ↑nme:=zbM;have hnb:¬db=B:=fun h=>by
    have b1:=A3.box;rw[<- h,A3.G.draft]at b1;simp at b1
   have Yg:¬B=db:=fun h=>hnb h.symm;have Xe:Hid (some db≠pv.v.ownBlock):=fun e=>by
    obtain⟨c,hc⟩:=bS TN _ e.symm;have TZ:=A3.G.draft;exact zfO
   have WN:Hid (some B≠pv.v.ownBlock):=fun e=>by
    obtain⟨c,hc⟩:=bS TN _ e.symm;have TZ:=A3.box;exact zfO
   have f1:=A3.G.frozen 1
   go_upto_region 5 with fail
   go_cut[] (fun wx=>∃pv2,rQ B #[(num:Int),(dep:Int),(kd:Int),nme] w0 wx db sv2 pv2 ov mb tm (X1++[⟨ns,U.Sl.nil,U.Sl.nil,U.Sl.nil,U.Sl.nil⟩]) (SP++[(num,(dep:Int))]) O PT1 nm D)
   case first=>
    refine OQ (S:=(fun W=>W.cell? B=some ↑(num:Int)/\W.cell? ⟨B,1,none⟩=some ↑(dep:Int))) zab ⟨b0,b1⟩ (fun u0=>?_);refine tH 0 db rfl u0 ?_;refine tH 1 db rfl u0 ?_;refine tH 2 db rfl u0 ?_;refine tH 3 (db,1) rfl u0 ?_;refine tH 5 B rfl u0 ?_;refine tH 6 (.agg #[(num:Int),(dep:Int)]) rfl u0 ?_;refine yH [4,7] ?_;refine Pb rfl (fun K hK=>?_) (Pb rfl (fun K hK=>?_) P1)
    ·skip
     go_simp;refine hK.out _ _ u0 (fun u0=>?_);clear hK K;refine zH 7 rfl fun K hK=>?_;go_simp;refine hK.out _ _ zal (fun u0=>?_);exact zcD
    ·skip
     go_simp;refine hK.out _ _ zal (fun u0=>?_);clear hK K;refine zH 4 rfl fun K hK=>?_;go_simp;refine hK.out _ _ u0 (fun u0=>?_);exact zcD
   case rest=>
    obtain⟨pv2,A4⟩:=hcut;obtain⟨W4,hW⟩:∃y:World,y=wc:=⟨wc,rfl⟩;subst hW;clear A3 c0 c1 c2 c3 c4 hi Ue Ub Uf i0 UH hw0 UE TN b0 b1 b3 f1 Xe WN hnb Yg;obtain⟨i0,hi,Ue,Ub,Uf⟩:=PZ Af;have UH:=A4.G.dlt;have hw0:=A4.G.bel.size;have UE:B<W4.heap.size:=(Ov.1 A4.box).1;have TN:=A4.G.opens;obtain⟨c0,c1,c2,c3,c4⟩:=A4.G.cells;have b0:W4.cell? B=some ↑(num:Int):=zbN;have b1:W4.cell? (B,1)=some ↑(dep:Int):=zbN;have b3:W4.cell? (B,3)=some ↑nme:=zbN;have hnb:¬db=B:=fun h=>by
     have b1:=A4.box;rw[<- h,A4.G.draft]at b1;simp at b1
    have Yg:¬B=db:=fun h=>hnb h.symm;have Xe:Hid (some db≠ov.v.ownBlock):=fun e=>by
     obtain⟨c,hc⟩:=bS TN _ e.symm;have TZ:=A4.G.draft;exact zfO
    have WN:Hid (some B≠ov.v.ownBlock):=fun e=>by
     obtain⟨c,hc⟩:=bS TN _ e.symm;have TZ:=A4.box;exact zfO
    have f2:=A4.G.frozen 2
    go_upto_region 6 with fail
    go_cut[] (fun wx=>∃ov2,rQ B #[(num:Int),(dep:Int),(kd:Int),nme] w0 wx db sv2 pv2 ov2 mb tm (X1++[⟨ns,U.Sl.nil,U.Sl.nil,U.Sl.nil,U.Sl.nil⟩]) (SP++[(num,(dep:Int))]) (O.take dep++[X.length]) PT1 nm D)
    case first=>
     have hov:=A4.G.Mb;cases hova:ov.a with
     |none=>
      have YO:ov.v=.slice none 0 0/\O.length=0:=by
       rcases TN.2 with h|⟨g,cap,cur,h,_⟩
       ·exact h
       ·simp[U.Sl.v,hova]at h
      have hO0:O=[]:=Qx.1 YO.2;have hd0:dep=0:=by have:=HD.out;rw[YO.2]at this;omega
      have hov0:ov=⟨none,0,0⟩:=by
       have h:=YO.1;exact zfd
      subst hO0 hd0 hov0;clear YO hov hova;have b1':W4.cell? (B,1)=some ↑(0:Int):=by simpa using b1
      have hownN:W4.ownsRow w0 3 1 (.slice none 0 0) 0 []:=Pt _ _ _ _;refine OQ (S:=(fun W=>W.cell? ⟨B,1,none⟩=some ↑(0:Int))) zab b1' (fun u0=>?_);refine tH 0 db rfl u0 ?_;refine tH 1 db rfl u0 ?_;refine tH 2 db rfl u0 ?_;refine tH 3 (db,2) rfl u0 ?_;refine tH 5 B rfl u0 ?_;refine tH 6 (B,1) rfl u0 ?_;refine tH 7 (.int .i64 0) rfl u0 ?_;refine tH 9 (.int .i64 X.length) rfl u0 ?_;refine yH [4,10] ?_;refine Pb rfl (fun K hK=>?_) (Pb rfl (fun K hK=>?_) P1)
      ·skip
       go_simp;refine hK.out _ _ u0 (fun u0=>?_);clear hK K;refine tH 8 (.slice none 0 0) rfl u0 ?_;refine zH 10 rfl fun K hK=>?_;go_simp;refine hK.out _ _ zal (fun u0=>?_);clear hK K;exact zcF
      ·skip
       go_simp;refine hK.out _ _ zal (fun u0=>?_);clear hK K;refine zH 4 rfl fun K hK=>?_;go_simp;refine hK.out _ _ u0 (fun u0=>?_);clear hK K;refine tH 8 (.slice none 0 0) rfl u0 ?_;exact zcF
     |some oa=>
      obtain⟨go,oc,hov1⟩:∃go oc,ov=⟨some ⟨go,0,none⟩,O.length,oc⟩:=by
       rcases TN.2 with⟨h,_⟩|⟨g,cap,cur,h,_⟩
       ·simp[U.Sl.v,hova]at h
       ·refine⟨g,cap,?_⟩;exact zfd
      subst hov1;have hcapO:O.length<=oc:=by
       rcases TN.2 with⟨h,_⟩|⟨g,cap,cur,h,_,_,hle,_⟩
       ·cases h
       ·simp[U.Sl.v]at h;rw[h.2];exact hle
      have hdle:=HD.out;have hdc:¬oc<dep:=zaa;have hownT:=FJ TN hdle;rw[Fe]at hownT;refine OQ (S:=(fun W=>W.cell? ⟨B,1,none⟩=some ↑(dep:Int))) zab b1 (fun u0=>?_);refine tH 0 db rfl u0 ?_;refine tH 1 db rfl u0 ?_;refine tH 2 db rfl u0 ?_;refine tH 3 (db,2) rfl u0 ?_;refine tH 5 B rfl u0 ?_;refine tH 6 (B,1) rfl u0 ?_;refine tH 7 (.int .i64 dep) rfl u0 ?_;refine tH 9 (.int .i64 X.length) rfl u0 ?_;refine yH [4,10] ?_;refine Pb rfl (fun K hK=>?_) (Pb rfl (fun K hK=>?_) P1)
      ·skip
       go_simp;refine hK.out _ _ u0 (fun u0=>?_);clear hK K;refine tH 8 (.slice go dep oc) rfl u0 ?_;refine zH 10 rfl fun K hK=>?_;go_simp;refine hK.out _ _ zal (fun u0=>?_);clear hK K;exact zcE
      ·skip
       go_simp;refine hK.out _ _ zal (fun u0=>?_);clear hK K;refine zH 4 rfl fun K hK=>?_;go_simp;refine hK.out _ _ u0 (fun u0=>?_);clear hK K;refine tH 8 (.slice go dep oc) rfl u0 ?_;exact zcE
    case rest=>
     obtain⟨ov2,A5⟩:=hcut;obtain⟨W5,hW⟩:∃y:World,y=wc:=⟨wc,rfl⟩;subst hW;clear A4 c0 c1 c2 c3 c4 hi Ue Ub Uf i0 UH hw0 UE TN b0 b1 b3 f2 Xe WN hnb Yg;have UH:=A5.G.dlt;have UE:B<W5.heap.size:=(Ov.1 A5.box).1;obtain⟨c0,c1,c2,c3,c4⟩:=A5.G.cells;have b0:W5.cell? B=some ↑(num:Int):=by rw[OA W5 _ _ _ _ _ A5.box];rfl
     have b3:W5.cell? (B,3)=some ↑nme:=by rw[OA W5 _ _ _ _ _ A5.box];rfl
     have law:Go.Maps.Keyed prog 9:=Sb underlying9;have zeroE:∀w:World,(zeroValue 3).run prog w=.ok (.int .i64 0) w:=fun w=>zab;have WU:keyOf prog 9 (.string nme)=some (.string nme.data.toList):=Rj underlying9 zah;have hmap:=A5.G.map;have WO:jV W5.drew mb nm D:=bM (e:=0) hmap (cT (Oy _ _).drew);have hmapd2:jV W5.drew.drew mb nm D:=bM (e:=0) WO (cT (Oy _ _).drew);have HFin:Hid (∀w' D',ao w0 w' db sv2 pv2 ov2 mb tm (X1++[⟨ns,U.Sl.nil,U.Sl.nil,U.Sl.nil,U.Sl.nil⟩]) (SP++[(num,(dep:Int))]) (O.take dep++[X.length]) PT1 (nm+1) D'->∃sv' pv' ov' X',X'.map (·.s)=X.map (·.s)++[ns]/\ao w0 w' db sv' pv' ov' mb tm X' (SP++[(num,(dep:Int))]) (O.take dep++[X.length]) (fun i=>if(i:Int)=ow then PT i++[X.length] else PT i) (nm+1) D'):=by
      intro w' D' h;refine⟨sv2,pv2,ov2,X1++[⟨ns,U.Sl.nil,U.Sl.nil,U.Sl.nil,U.Sl.nil⟩],?_,?_⟩
      ·rw[Pk,HX1.out];rfl
      ·rw[<- HPd.out];exact h
     go_upto_region 7 with fail
     obtain⟨vv,ps,Vj,hvv⟩:=WO.look_ok law underlying171 (zeroE _) (Tv underlying3 zac) WU;obtain⟨cc,rfl,_,_⟩:=plainElem_int_inv underlying3 hvv;clear hvv;refine OQ (S:=(fun W=>W.cell? ⟨db,3,none⟩=some (.map (some mb))/\W.cell? ⟨B,3,none⟩=some ↑nme)) zab ⟨c3,b3⟩ (fun u0=>?_);refine tH 0 db rfl u0 ?_;refine tH 1 db rfl u0 ?_;refine tH 2 (db,3) rfl u0 ?_;refine tH 3 (.map (some mb)) rfl u0 ?_;refine tH 4 (B,3) rfl u0 ?_;refine tH 5 (.string nme) rfl u0 ?_;refine zH 6 rfl fun K hK=>?_;go_simp;refine hK.out _ _ u0 (fun u0=>?_);clear hK K;refine tH 7 (.tuple #[(cc:Int),.bool (Go.Maps.has D (.string nme.data.toList))]) rfl u0 ?_;refine tH 8 (.int .i64 cc) rfl u0 ?_;refine tH 9 (.bool (Go.Maps.has D (.string nme.data.toList))) rfl u0 ?_;refine tH 10 (.int .i64 cc) rfl u0 ?_;refine tH 11 (.bool (Go.Maps.has D (.string nme.data.toList))) rfl u0 ?_;refine OY zab ?_ _;clear Vj;cases hh:Go.Maps.has D (.string nme.data.toList)
     case true=>
      go_wp2;go_end0;refine⟨rfl,?_⟩;have G6:=A5.G.aq (w':=W5.drew) (Oy _ _).drew;exact HFin.out _ _ { G6 with map:=G6.map.mono zaa }
     case false=>
      go_upto_region 9 with fail
      refine fa 9 zab zab ?_;simp only[List.take_succ_cons,List.take_zero,List.drop_succ_cons,List.drop_zero]
      repeat still_step
      refine P8 ?_;refine wpList_mapUpdate_own _ rfl _ _ _ 171 rfl 9 3 law underlying171 _ mb nm _ rfl hmapd2 zah _ _ _ rfl rfl WU _ [] (Tv underlying3 VZ) ?_;intro w6 YJ Vx;go_wp2;go_end0;refine⟨rfl,?_⟩;exact HFin.out _ _ (A5.G.JW (Oy _ _).drew.drew Vx YJ)
variable {w0 w:World}{db mb nm:Nat}{sv pv ov:U.Sl}{tm:Bool}{X:List J.DS}{SP:List (Int×Int)}{O:List Nat}{PT:Nat->List Nat}{D:DataW Nat}
def DB(num:Int)(dep:Nat)(nme:())(ow:Int)(ns:U.State)(w0:World)(db mb:Nat)(tm:Bool)(X:List J.DS)(SP:List (Int×Int))(O:List Nat)(PT:Nat->List Nat)(nm:Nat)(D:DataW Nat)(w':World):Prop:=
 ∃sv' pv' ov' X',X'.map (·.s)=X.map (·.s)++[ns]/\ao w0 w' db sv' pv' ov' mb tm X' (SP++[(num,(dep:Int))]) (O.take dep++[X.length]) (fun i=>if(i:Int)=ow then PT i++[X.length] else PT i) (nm+1) (if Go.Maps.has D (.string nme.data.toList) then D else D.put (.string nme.data.toList) (.lit (.int .i64 num)))
theorem rm(num:Int)(dep:Nat)(kd:Int)(nme:())(G:ao w0 w db sv pv ov mb tm X SP O PT nm D)(h0:0<dep)(h:O.length<dep)(hd:dep<=1073741824):
  () 348 #[.agg (eO num dep kd nme),db] w (bc 3 num w):=by
 have TM:Below w w (w.alloc (.cells (eO num dep kd nme) 364)):=(Oy _ _).alloc (Ow _) _;have HC:Hid _:=oZ num dep (G.aq TM) (.inr h) hd;unfold eO at TM HC⊢;go_enter func348,ntmps348;go_wp2_with fail;refine OI HC.out ?_;rintro e w4 ⟨hb,b,h5,h6,rfl⟩;dsimp only;exact⟨rfl,TM.trans (hb.mono TM.size),b,Ox TM.size h5,h6,rfl⟩
def jr(X:List J.DS)(PT:Nat->List Nat)(dep:Nat)(ow kd:Int):Bool:=
 !decide (X.length=24)&&(!decide (5<dep)&&(if ow<0 then !J.du kd else match X[ow.toNat]? with|some x=>J.holds x (PT ow.toNat) kd|none=>false))
theorem tW(num:Int)(dep:Nat)(kd ow:Int)(nme:())(ns:U.State)(G:ao w0 w db sv pv ov mb tm X SP O PT nm D)(hX:X.length<=1000)(hSP:SP.length<=1000)(hO:O.length<=1000)(hPTl:∀i,(PT i).length<=1000)(Uq:nm<=1000)
  (U8:J.al ns=kd) (hnme:ns.name=nme) (Xc:ns.depth=dep) (hup:ns.up=ow) (hm:ns.aj=[]) (he:ns.enter=[]) (hl:ns.leave=[]) (hd:dep<=O.length) (T6:nme.size<=1000000) (VZ:(Lit.int .i64 num).wf=true)
  (how:(dep=0/\ow=-1)\/∃(k u:Nat) (hk:k<O.length),dep=k+1/\O[k]=u/\ow=u/\u<X.length) (hPT:PT X.length=[]):
  () 348 #[.agg (eO num dep kd nme),db] w fun e w'=>if jr X PT dep ow kd then e=.returned (.tuple #[])/\DB num dep nme ow ns w0 db mb tm X SP O PT nm D w' else bc 3 num w e w':=by
 have TM:Below w w (w.alloc (.cells (eO num dep kd nme) 364)):=(Oy _ _).alloc (Ow _) _;have HG:Hid _:=G;have how':ow=-1\/∃u:Nat,ow=u/\u<X.length:=by
  rcases how with⟨_,h⟩|⟨k,u,_,_,_,h,hu⟩
  ·exact .inl h
  ·exact .inr ⟨u,h,hu⟩
 have HAdd:Hid (∀w',Below w w w'->() 351 #[db,.agg (eO num dep kd nme),(ow:Int)] w' fun e w'=>e=.returned (.tuple #[])/\DB num dep nme ow ns w0 db mb tm X SP O PT nm D w'):=
  fun w' hb=>BH num dep kd ow nme ns (G.aq hb) hX hSP hO hPTl Uq U8 hnme Xc hup hm he hl hd T6 VZ how' hPT
 have HHold:Hid (∀w',Below w w w'->() 350 #[db,(ow:Int),(kd:Int)] w' fun e w''=>e=.returned (.bool (if ow<0 then !J.du kd else match X[ow.toNat]? with|some x=>J.holds x (PT ow.toNat) kd|none=>false))/\Below w'.heap.size w' w''):=by
  intro w' hb
  rcases how' with h|⟨u,h,hu⟩
  ·subst h;rw[OD zac];exact yi kd
  ·subst h;rw[OB zaa];have e:X[((u:Int)).toNat]?=some X[u]:=by simp[hu]
   rw[e];exact yj kd u (G.aq hb) hu zaa
 have HOwn:Hid (0<dep->∀w',Below w w w'->() 349 #[db,.agg #[(num:Int),(dep:Int)]] w' fun e w''=>e=.returned (ow:Int)/\Below w'.heap.size w' w''):=by
  intro h0 w' hb
  rcases how with⟨h,_⟩|⟨k,u,hk,h1,h2,h3,_⟩
  ·omega
  ·rw[h3,<- h2];exact wt num dep k (G.aq hb) hk h1 zaa
 have HO0:Hid (dep=0->ow=-1):=by
  intro h0
  rcases how with⟨_,h⟩|⟨k,u,hk,h1,_⟩
  ·exact h
  ·omega
 have U6:=G.Me;have hdb:=G.dlt;obtain⟨c0,_,_,_,_⟩:=G.cells;rw[U6]at c0;have HOk:Hid (jr X PT dep ow kd=(!decide (X.length=24)&&(!decide (5<dep)&&(if ow<0 then !J.du kd else match X[ow.toNat]? with|some x=>J.holds x (PT ow.toNat) kd|none=>false)))):=rfl;generalize hq:(if ow<0 then !J.du kd else match X[ow.toNat]? with|some x=>J.holds x (PT ow.toNat) kd|none=>false)=hold at *;clear hq how how' U8 hnme Xc hup hm he hl hd hPT hPTl T6 VZ U6 G;have VI:X.length<=1000:=hX;unfold eO at TM HAdd⊢;go_enter func348,ntmps348
 go_upto_if 8 with fail
 change Code.wp _ _ _ _ (w.alloc (.cells #[(num:Int),(dep:Int),(kd:Int),nme] 364));obtain⟨W1,Uj⟩:∃y,y=w.alloc (.cells #[(num:Int),(dep:Int),(kd:Int),nme] 364):=⟨_,rfl⟩;obtain⟨B,hB⟩:∃B,B=w.heap.size:=⟨_,rfl⟩;have UI:W1.heap[B]?=some (.cells #[(num:Int),(dep:Int),(kd:Int),nme] 364 (0,0)):=by rw[Uj,hB];exact OH _ _
 rw[<- Uj]at TM⊢;have HBl:Hid (B=w.heap.size):=hB;rw[<- hB];clear Uj hB
 go_cut[4] (fun v wx=>v=.int .i64 ow/\Below w w wx/\wx.heap[B]?=some (.cells #[(num:Int),(dep:Int),(kd:Int),nme] 364 (0,0)))
 case first=>
  have b0:W1.cell? B=some ↑(num:Int):=by rw[OA W1 _ _ _ _ _ UI];rfl
  have b1:W1.cell? (B,1)=some ↑(dep:Int):=by rw[OA W1 _ _ _ _ _ UI];rfl
  by_cases h0:0<dep
  ·go_wp2_with fail;refine(HOwn.out h0 _ TM).mono ?_;rintro e w2 ⟨rfl,TP⟩;dsimp only;go_wp2;go_meet
   case rel=>exact⟨rfl,TM.trans (TP.mono TM.size),(TP.block _ (Ov.1 UI).1).trans UI⟩
  ·have hd0:dep=0:=zaa;have how0:=HO0.out hd0;go_wp2;go_meet
   case rel=>exact⟨by rw[how0],TM,UI⟩
 case rest=>
  obtain⟨rfl,Ui,hbx2⟩:=hcut;obtain⟨W2,hW⟩:∃y:World,y=wc:=⟨wc,rfl⟩;subst hW;clear TM UI;have b0:W2.cell? B=some ↑(num:Int):=zbP;have b1:W2.cell? (B,1)=some ↑(dep:Int):=zbP;have b2:W2.cell? (B,2)=some ↑(kd:Int):=by rw[OA W2 _ _ _ _ _ hbx2];rfl
  have b3:W2.cell? (B,3)=some ↑nme:=zbP;have d0:W2.cell? db=some (.slice sv.a X.length sv.c):=(OO (w:=w) (Ui.block db hdb)).trans c0;have U5:=Ui.size;by_cases WT:X.length=24
  ·have HF:Hid (jr X PT dep ow kd=false):=by unfold Hid;rw[HOk.out,Pe WT];rfl
   have h24':((X.length:Int) == 24)=true:=by rw[WT];rfl
   exact zdC
  ·have h24':((X.length:Int) == 24)=false:=zae;by_cases h5:5<dep
   ·have HF:Hid (jr X PT dep ow kd=false):=by unfold Hid;rw[HOk.out,Pe h5];simp
    exact zdC
   ·have HF:Hid (jr X PT dep ow kd=hold):=by unfold Hid;rw[HOk.out,Pc WT,Pc h5];rfl
    clear WT;go_wp2_with fail;refine(HHold.out _ Ui).mono ?_;rintro e w3 ⟨rfl,Ug⟩;have V3:=Ui.trans (Ug.mono U5);have Xf:=(Ug.block _ (Ov.1 hbx2).1).trans hbx2;have a0:w3.cell? B=some ↑(num:Int):=zbf;have a1:w3.cell? (B,1)=some ↑(dep:Int):=zbf;have a2:w3.cell? (B,2)=some ↑(kd:Int):=zbf;have a3:w3.cell? (B,3)=some ↑nme:=zbf;clear b0 b1 b2 b3 d0 Ug;cases hold with
    |false=>
     dsimp only;go_wp2_with fail;refine(aV num dep 3 _).mono ?_;rintro e w4 ⟨hb,b,h5,h6,rfl⟩;dsimp only;refine⟨rfl,?_⟩;rw[HF.out];exact⟨V3.trans (hb.mono V3.size),b,Ox V3.size h5,h6,rfl⟩
    |true=>
     dsimp only;go_wp2_with fail;refine(HAdd.out _ V3).mono ?_;rintro e w4 ⟨rfl,Y4⟩;dsimp only;go_wp2;go_end0;exact⟨rfl,Y4⟩
variable {w0 w:World}{db mb nm:Nat}{sv pv ov:U.Sl}{tm:Bool}{X:List J.DS}{SP:List (Int×Int)}{O:List Nat}{PT:Nat->List Nat}{D:DataW Nat}
theorem lA(num:Int)(dep:Nat)(a:Option Addr)(n c:Nat)(G:ao w0 w db sv pv ov mb tm X SP O PT nm D)(h:dep=0\/O.length<dep)(hd:dep<=1073741824):
  () 358 #[.agg #[(num:Int),(dep:Int),.slice a n c],db] w (bc 3 num w):=by
 have UH:=G.dlt;go_enter func358,ntmps358
 go_upto_region 1 with fail
 have TM:Below w w (((w.alloc (.cells #[(num:Int),(dep:Int),.slice a n c] 375)).drew).alloc (.cells #[(3:Int),(4:Int)] 177)):=((Oy _ _).alloc (Ow _) _).drew.alloc zad _;have G1:=G.aq TM;refine Qh zab ?_;change wpAny _ _ _ _ _ _ _ (World.drew _);refine tA 0 w rfl ?_;refine tA 2 db rfl ?_;refine tA 3 w rfl ?_;refine tA 4 w rfl ?_;refine yA [1,5,6] ?_;refine OC rfl (fun K hK=>?_) (OC rfl (fun K hK=>?_) (OC rfl (fun K hK=>?_) OX))
 ·exact zcS
 ·exact zcQ
 ·exact zcP
theorem qU(num:Int)(dep:Nat)(a:Option Addr)(n c:Nat)(k u g cap:Nat)(G:ao w0 w db ⟨some ⟨g,0,none⟩,X.length,cap⟩ pv ov mb tm X SP O PT nm D)(hk:k<O.length)(hd:dep=k+1)(hO:O.length<=1073741824)(VU:O[k]=u)(hu:u<X.length)(hh:J.al X[u].s∈([3,4]:List Int)):
  () 358 #[.agg #[(num:Int),(dep:Int),.slice a n c],db] w (bc 3 num w):=by
 have UH:=G.dlt;have TM:Below w w (((w.alloc (.cells #[(num:Int),(dep:Int),.slice a n c] 375)).drew).alloc (.cells #[(3:Int),(4:Int)] 177)):=((Oy _ _).alloc (Ow _) _).drew.alloc zad _;have Vq:(((w.alloc (.cells #[(num:Int),(dep:Int),.slice a n c] 375)).drew).alloc (.cells #[(3:Int),(4:Int)] 177)).heap[w.heap.size+1]?=some (.cells (([3,4]:List Int).map (Value.int .i64)).toArray 177 (0,0)):=by
  exact zdX
 have HC:Hid (() 356 #[db,.agg #[(num:Int),(dep:Int)],.slice (some (w.heap.size+1,0)) 2 2] (((w.alloc (.cells #[(num:Int),(dep:Int),.slice a n c] 375)).drew).alloc (.cells #[(3:Int),(4:Int)] 177)) (aA num (J.al X[u].s) [3,4] ⟨g,u*8,none⟩ (((w.alloc (.cells #[(num:Int),(dep:Int),.slice a n c] 375)).drew).alloc (.cells #[(3:Int),(4:Int)] 177)))):=di num dep k u [3,4] (w.heap.size+1) g cap (G.aq TM) hk hd hO VU hu Vq zac;clear hd VU hk hO Vq;go_enter func358,ntmps358
 go_upto_region 1 with fail
 refine Qh zab ?_;change wpAny _ _ _ _ _ _ _ (World.drew _);refine tA 0 w rfl ?_;refine tA 2 db rfl ?_;refine tA 3 w rfl ?_;refine tA 4 w rfl ?_;refine yA [1,5,6] ?_;refine OC rfl (fun K hK=>?_) (OC rfl (fun K hK=>?_) (OC rfl (fun K hK=>?_) OX))
 ·exact zcR
 ·exact zcL
 ·exact zcK
theorem p5(num:Int)(dep:Nat)(a:Option Addr)(n c:Nat)(k u g cap:Nat)(G:ao w0 w db ⟨some ⟨g,0,none⟩,X.length,cap⟩ pv ov mb tm X SP O PT nm D)(hk:k<O.length)(hd:dep=k+1)(hO:O.length<=1073741824)(VU:O[k]=u)(hu:u<X.length)(hh:¬J.al X[u].s∈([3,4]:List Int))(h2:0<X[u].ve.n):
  () 358 #[.agg #[(num:Int),(dep:Int),.slice a n c],db] w (bc 3 num w):=by
 have UH:=G.dlt;have TM:Below w w (((w.alloc (.cells #[(num:Int),(dep:Int),.slice a n c] 375)).drew).alloc (.cells #[(3:Int),(4:Int)] 177)):=((Oy _ _).alloc (Ow _) _).drew.alloc zad _;have Vq:(((w.alloc (.cells #[(num:Int),(dep:Int),.slice a n c] 375)).drew).alloc (.cells #[(3:Int),(4:Int)] 177)).heap[w.heap.size+1]?=some (.cells (([3,4]:List Int).map (Value.int .i64)).toArray 177 (0,0)):=by
  exact zdX
 have HC:Hid (() 356 #[db,.agg #[(num:Int),(dep:Int)],.slice (some (w.heap.size+1,0)) 2 2] (((w.alloc (.cells #[(num:Int),(dep:Int),.slice a n c] 375)).drew).alloc (.cells #[(3:Int),(4:Int)] 177)) (aA num (J.al X[u].s) [3,4] ⟨g,u*8,none⟩ (((w.alloc (.cells #[(num:Int),(dep:Int),.slice a n c] 375)).drew).alloc (.cells #[(3:Int),(4:Int)] 177)))):=di num dep k u [3,4] (w.heap.size+1) g cap (G.aq TM) hk hd hO VU hu Vq zac;obtain⟨UX,UN,hg0⟩:=G.uI;have TS:=G.uX hu;have Vp:w.frozen? (g,u*8+5)=false:=P7 (aC G.states (OL _)) _;have cv:w.cell? (g,u*8+5)=some (.slice X[u].ve.a X[u].ve.n X[u].ve.c):=TS 5 _ rfl;have TW:w.heap.size<(((w.alloc (.cells #[(num:Int),(dep:Int),.slice a n c] 375)).drew).alloc (.cells #[(3:Int),(4:Int)] 177)).heap.size:=zae;have HF:Hid (∀w4,Below (((w.alloc (.cells #[(num:Int),(dep:Int),.slice a n c] 375)).drew).alloc (.cells #[(3:Int),(4:Int)] 177)).heap.size (((w.alloc (.cells #[(num:Int),(dep:Int),.slice a n c] 375)).drew).alloc (.cells #[(3:Int),(4:Int)] 177)) w4->w4.cell? (g,u*8+5)=some (.slice X[u].ve.a X[u].ve.n X[u].ve.c)/\w4.frozen? (g,u*8+5)=false/\w4.cell? w=some ↑(num:Int)/\w4.cell? ⟨w,1,none⟩=some ↑(dep:Int)/\w4.cell? ⟨w,2,none⟩=some (.slice a n c)):=by
  exact zdh
 clear cv Vp TS;clear hd VU hk hO Vq;go_enter func358,ntmps358
 go_upto_region 1 with fail
 refine Qh zab ?_;change wpAny _ _ _ _ _ _ _ (World.drew _);refine tA 0 w rfl ?_;refine tA 2 db rfl ?_;refine tA 3 w rfl ?_;refine tA 4 w rfl ?_;refine yA [1,5,6] ?_;refine OC rfl (fun K hK=>?_) (OC rfl (fun K hK=>?_) (OC rfl (fun K hK=>?_) OX))
 ·go_simp;refine hK _ _ ?_;clear hK K;refine yA [5,6] ?_;refine OC rfl (fun K hK=>?_) (OC rfl (fun K hK=>?_) OX)
  ·exact zcX
  ·exact zcV
 ·go_simp;refine hK _ _ ?_;clear hK K;refine yA [1,6] ?_;refine OC rfl (fun K hK=>?_) (OC rfl (fun K hK=>?_) OX)
  ·exact zcX
  ·exact zcG
 ·go_simp;refine hK _ _ ?_;clear hK K;refine yA [1,5] ?_;refine OC rfl (fun K hK=>?_) (OC rfl (fun K hK=>?_) OX)
  ·exact zcV
  ·exact zcG
theorem sF(num:Int)(dep:Nat)(a:Option Addr)(n c:Nat)(k u g cap:Nat)(G:ao w0 w db ⟨some ⟨g,0,none⟩,X.length,cap⟩ pv ov mb tm X SP O PT nm D)(hk:k<O.length)(hd:dep=k+1)(hO:O.length<=1073741824)(VU:O[k]=u)(hu:u<X.length)(hh:¬J.al X[u].s∈([3,4]:List Int))(h2:X[u].ve.n=0)(A:List U.Act)(hA:w0.ownsRow 0 271 1 (.slice a n c) A.length (A.map bm)):
  () 358 #[.agg #[(num:Int),(dep:Int),.slice a n c],db] w fun e w'=>e=.returned (.tuple #[])/\ao w0 w' db ⟨some ⟨g,0,none⟩,X.length,cap⟩ pv ov mb tm (X.set u (J.ic X[u] num A ⟨a,n,c⟩)) SP O PT nm D:=by
 have UH:=G.dlt;have TM:Below w w (((w.alloc (.cells #[(num:Int),(dep:Int),.slice a n c] 375)).drew).alloc (.cells #[(3:Int),(4:Int)] 177)):=((Oy _ _).alloc (Ow _) _).drew.alloc zad _;have Vq:(((w.alloc (.cells #[(num:Int),(dep:Int),.slice a n c] 375)).drew).alloc (.cells #[(3:Int),(4:Int)] 177)).heap[w.heap.size+1]?=some (.cells (([3,4]:List Int).map (Value.int .i64)).toArray 177 (0,0)):=by
  exact zdX
 have HC:Hid (() 356 #[db,.agg #[(num:Int),(dep:Int)],.slice (some (w.heap.size+1,0)) 2 2] (((w.alloc (.cells #[(num:Int),(dep:Int),.slice a n c] 375)).drew).alloc (.cells #[(3:Int),(4:Int)] 177)) (aA num (J.al X[u].s) [3,4] ⟨g,u*8,none⟩ (((w.alloc (.cells #[(num:Int),(dep:Int),.slice a n c] 375)).drew).alloc (.cells #[(3:Int),(4:Int)] 177)))):=di num dep k u [3,4] (w.heap.size+1) g cap (G.aq TM) hk hd hO VU hu Vq zac;obtain⟨UX,UN,hg0⟩:=G.uI;have TS:=G.uX hu;have Vp:w.frozen? (g,u*8+5)=false:=P7 (aC G.states (OL _)) _;have cv:w.cell? (g,u*8+5)=some (.slice X[u].ve.a X[u].ve.n X[u].ve.c):=TS 5 _ rfl;have TW:w.heap.size<(((w.alloc (.cells #[(num:Int),(dep:Int),.slice a n c] 375)).drew).alloc (.cells #[(3:Int),(4:Int)] 177)).heap.size:=zae;have HF:Hid (∀w4,Below (((w.alloc (.cells #[(num:Int),(dep:Int),.slice a n c] 375)).drew).alloc (.cells #[(3:Int),(4:Int)] 177)).heap.size (((w.alloc (.cells #[(num:Int),(dep:Int),.slice a n c] 375)).drew).alloc (.cells #[(3:Int),(4:Int)] 177)) w4->w4.cell? (g,u*8+5)=some (.slice X[u].ve.a X[u].ve.n X[u].ve.c)/\w4.frozen? (g,u*8+5)=false/\w4.cell? w=some ↑(num:Int)/\w4.cell? ⟨w,1,none⟩=some ↑(dep:Int)/\w4.cell? ⟨w,2,none⟩=some (.slice a n c)):=by
  exact zdh
 have HG:Hid (∀w4 w5,Below (((w.alloc (.cells #[(num:Int),(dep:Int),.slice a n c] 375)).drew).alloc (.cells #[(3:Int),(4:Int)] 177)).heap.size (((w.alloc (.cells #[(num:Int),(dep:Int),.slice a n c] 375)).drew).alloc (.cells #[(3:Int),(4:Int)] 177)) w4->Below w4.heap.size (w4.setCell (g,u*8+5) (.slice a n c)) w5->ao w0 w5 db ⟨some ⟨g,0,none⟩,X.length,cap⟩ pv ov mb tm (X.set u (J.ic X[u] num A ⟨a,n,c⟩)) SP O PT nm D):=by
  intro w4 w5 TY Vl;have Zt:=TM.trans (TY.mono TM.size);have h:=G.Ei (v':=⟨a,n,c⟩) (x':=J.ic X[u] num A ⟨a,n,c⟩) (j:=5) Zt hu zac rfl rfl rfl rfl hA (G.deep u hu).leave;exact h.aq (Vl.mono zad)
 rw[h2]at HF;clear cv Vp TS h2;clear hd VU hk hO Vq;go_enter func358,ntmps358
 go_upto_region 1 with fail
 refine Qh zab ?_;change wpAny _ _ _ _ _ _ _ (World.drew _);refine tA 0 w rfl ?_;refine tA 2 db rfl ?_;refine tA 3 w rfl ?_;refine tA 4 w rfl ?_;refine yA [1,5,6] ?_;refine OC rfl (fun K hK=>?_) (OC rfl (fun K hK=>?_) (OC rfl (fun K hK=>?_) OX))
 ·go_simp;refine hK _ _ ?_;clear hK K;refine yA [5,6] ?_;refine OC rfl (fun K hK=>?_) (OC rfl (fun K hK=>?_) OX)
  ·exact zc1
  ·exact zcZ
 ·go_simp;refine hK _ _ ?_;clear hK K;refine yA [1,6] ?_;refine OC rfl (fun K hK=>?_) (OC rfl (fun K hK=>?_) OX)
  ·exact zc1
  ·exact zcI
 ·go_simp;refine hK _ _ ?_;clear hK K;refine yA [1,5] ?_;refine OC rfl (fun K hK=>?_) (OC rfl (fun K hK=>?_) OX)
  ·exact zcZ
  ·exact zcI
