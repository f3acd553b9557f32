import Derived.Test.YtpkhcncoildcnaaGreatDoorM14
set_option maxRecDepth 100000
set_option maxHeartbeats 8000000
namespace Go.Proofs.YtpkhcncoildcnaaGreatDoor
variable {zp:Prop}
theorem zcH(h:zp:=by
 go_simp;refine hK _ _ ?_;clear hK K;refine yA [1,7] ?_;refine OC rfl (fun K hK=>?_) (OC rfl (fun K hK=>?_) OX)
 ·go_simp;refine hK _ _ ?_;clear hK K;refine zA 7 rfl fun K hK=>?_
  ·go_simp;refine HC.out.mono ?_;rintro e w4 h4;unfold aA at h4;rw[OB hh]at h4;obtain⟨rfl,TY⟩:=h4;obtain⟨cx,fx,q0,q1,q2⟩:=HF.out w4 TY;dsimp only;refine hK _ _ ?_;clear hK K;refine tA 8 (g,u*8) rfl ?_;refine tA 9 (g,u*8+6) rfl ?_;refine zA 10 rfl fun K hK=>?_;go_simp;refine(bK num dep a n c g (u*8+6) _ _ _ cx h2).mono ?_;exact zfV
 ·go_simp;refine HC.out.mono ?_;rintro e w4 h4;unfold aA at h4;rw[OB hh]at h4;obtain⟨rfl,TY⟩:=h4;obtain⟨cx,fx,q0,q1,q2⟩:=HF.out w4 TY;dsimp only;refine hK _ _ ?_;clear hK K;refine tA 8 (g,u*8) rfl ?_;refine tA 9 (g,u*8+6) rfl ?_;refine zA 1 rfl fun K hK=>?_;go_simp;refine hK _ _ ?_;clear hK K;refine zA 10 rfl fun K hK=>?_;go_simp;refine(bK num dep a n c g (u*8+6) _ _ _ cx h2).mono ?_;rintro e w5 ⟨hb,b,h5,h6,rfl⟩;dsimp only;exact⟨rfl,(TM.trans (TY.mono TM.size)).trans (hb.mono (Ox TM.size TY.size)),b,Ox (Ox TM.size TY.size) h5,h6,rfl⟩):zp:=h
theorem zcJ(h:zp:=by
 go_simp;refine hK _ _ ?_;clear hK K;refine yA [1,7] ?_;refine OC rfl (fun K hK=>?_) (OC rfl (fun K hK=>?_) OX)
 ·go_simp;refine hK _ _ ?_;clear hK K;refine zA 7 rfl fun K hK=>?_
  ·go_simp;refine HC.out.mono ?_;rintro e w4 h4;unfold aA at h4;rw[OB hh]at h4;obtain⟨rfl,TY⟩:=h4;obtain⟨cx,fx,q0,q1,q2⟩:=HF.out w4 TY;dsimp only;refine hK _ _ ?_;clear hK K;refine tA 8 (g,u*8) rfl ?_;refine tA 9 (g,u*8+6) rfl ?_;refine zA 10 rfl fun K hK=>?_;go_simp;refine(bA num dep a n c g (u*8+6) _ _ cx fx).mono ?_;exact zfW
 ·go_simp;refine HC.out.mono ?_;rintro e w4 h4;unfold aA at h4;rw[OB hh]at h4;obtain⟨rfl,TY⟩:=h4;obtain⟨cx,fx,q0,q1,q2⟩:=HF.out w4 TY;dsimp only;refine hK _ _ ?_;clear hK K;refine tA 8 (g,u*8) rfl ?_;refine tA 9 (g,u*8+6) rfl ?_;refine zA 1 rfl fun K hK=>?_;go_simp;refine hK _ _ ?_;clear hK K;refine zA 10 rfl fun K hK=>?_;go_simp;refine(bA num dep a n c g (u*8+6) _ _ cx fx).mono ?_;rintro e w5 ⟨rfl,Vl⟩;have G5:=HG.out w4 w5 TY Vl;dsimp only;refine hK _ _ ?_;clear hK K;refine P0 zab ?_ _;go_wp2;go_end0;exact⟨rfl,G5⟩):zp:=h
theorem zcW(h:zp:=by
 go_simp;refine hK _ _ ?_;clear hK K;refine zA 5 rfl fun K hK=>?_
 ·go_simp;refine hK _ _ ?_;clear hK K;refine zA 7 rfl fun K hK=>?_
  ·go_simp;refine HC.out.mono ?_;rintro e w4 h4;unfold aA at h4;rw[OB hh]at h4;obtain⟨rfl,TY⟩:=h4;obtain⟨cx,fx,q0,q1,q2⟩:=HF.out w4 TY;dsimp only;refine hK _ _ ?_;clear hK K;refine tA 8 (g,u*8) rfl ?_;refine tA 9 (g,u*8+6) rfl ?_;refine zA 10 rfl fun K hK=>?_;go_simp;refine(bK num dep a n c g (u*8+6) _ _ _ cx h2).mono ?_;rintro e w5 ⟨hb,b,h5,h6,rfl⟩;dsimp only;exact⟨rfl,(TM.trans (TY.mono TM.size)).trans (hb.mono (Ox TM.size TY.size)),b,Ox (Ox TM.size TY.size) h5,h6,rfl⟩):zp:=h
theorem zcY(h:zp:=by
 go_simp;refine hK _ _ ?_;clear hK K;refine zA 6 rfl fun K hK=>?_
 ·go_simp;refine hK _ _ ?_;clear hK K;refine zA 7 rfl fun K hK=>?_
  ·go_simp;refine HC.out.mono ?_;rintro e w4 h4;unfold aA at h4;rw[OB hh]at h4;obtain⟨rfl,TY⟩:=h4;obtain⟨cx,fx,q0,q1,q2⟩:=HF.out w4 TY;dsimp only;refine hK _ _ ?_;clear hK K;refine tA 8 (g,u*8) rfl ?_;refine tA 9 (g,u*8+6) rfl ?_;refine zA 10 rfl fun K hK=>?_;go_simp;refine(bK num dep a n c g (u*8+6) _ _ _ cx h2).mono ?_;rintro e w5 ⟨hb,b,h5,h6,rfl⟩;dsimp only;exact⟨rfl,(TM.trans (TY.mono TM.size)).trans (hb.mono (Ox TM.size TY.size)),b,Ox (Ox TM.size TY.size) h5,h6,rfl⟩):zp:=h
theorem zc0(h:zp:=by
 go_simp;refine hK _ _ ?_;clear hK K;refine zA 5 rfl fun K hK=>?_
 ·go_simp;refine hK _ _ ?_;clear hK K;refine zA 7 rfl fun K hK=>?_
  ·go_simp;refine HC.out.mono ?_;rintro e w4 h4;unfold aA at h4;rw[OB hh]at h4;obtain⟨rfl,TY⟩:=h4;obtain⟨cx,fx,q0,q1,q2⟩:=HF.out w4 TY;dsimp only;refine hK _ _ ?_;clear hK K;refine tA 8 (g,u*8) rfl ?_;refine tA 9 (g,u*8+6) rfl ?_;refine zA 10 rfl fun K hK=>?_;go_simp;refine(bA num dep a n c g (u*8+6) _ _ cx fx).mono ?_;rintro e w5 ⟨rfl,Vl⟩;have G5:=HG.out w4 w5 TY Vl;dsimp only;refine hK _ _ ?_;clear hK K;refine P0 zab ?_ _;go_wp2;go_end0;exact⟨rfl,G5⟩):zp:=h
theorem zc2(h:zp:=by
 go_simp;refine hK _ _ ?_;clear hK K;refine zA 6 rfl fun K hK=>?_
 ·go_simp;refine hK _ _ ?_;clear hK K;refine zA 7 rfl fun K hK=>?_
  ·go_simp;refine HC.out.mono ?_;rintro e w4 h4;unfold aA at h4;rw[OB hh]at h4;obtain⟨rfl,TY⟩:=h4;obtain⟨cx,fx,q0,q1,q2⟩:=HF.out w4 TY;dsimp only;refine hK _ _ ?_;clear hK K;refine tA 8 (g,u*8) rfl ?_;refine tA 9 (g,u*8+6) rfl ?_;refine zA 10 rfl fun K hK=>?_;go_simp;refine(bA num dep a n c g (u*8+6) _ _ cx fx).mono ?_;rintro e w5 ⟨rfl,Vl⟩;have G5:=HG.out w4 w5 TY Vl;dsimp only;refine hK _ _ ?_;clear hK K;refine P0 zab ?_ _;go_wp2;go_end0;exact⟨rfl,G5⟩):zp:=h
theorem zdg(h:zp:=by
 obtain⟨k,h0,h4,hw,hd⟩:=h;rw[eY h0 h4 hw hd,hw];have hk:k=0\/k=1\/k=2\/k=3\/k=4:=zaa
 rcases hk with rfl|rfl|rfl|rfl|rfl
 ·rw[show bB 0=lN from rfl,ji];rfl
 ·rw[show bB 1=fX from rfl,fI];rfl
 ·rw[show bB 2=lM from rfl,jb];rfl
 ·rw[show bB 3=dt from rfl,bV];rfl
 ·rw[show bB 4=dt from rfl,bV];rfl):zp:=h
theorem zdi(h:zp:=by
 intro w4 TY;have hbg:=(TM.trans (TY.mono TM.size)).block g UN;have Ui:w4.heap[w.heap.size]?=some (.cells #[(num:Int),(dep:Int),.slice a n c] 376 (0,0)):=by
  rw[TY.block w TW,Pz _ _ _ zad];exact OH w _
 refine⟨(OO hbg).trans cv,(Rl hbg).trans Vp,?_,?_,?_⟩<;>rw[OA w4 _ _ _ _ _ Ui]<;>rfl):zp:=h
theorem zdl(h:zp:=by
 simp only[Int.toNat_natCast];rw[OB zaa,OB zaa,gY hw];simp only[he];obtain⟨r0,r4⟩:=kQ hw;have hk:al (S.getD u U.st0)=0\/al (S.getD u U.st0)=1\/al (S.getD u U.st0)=2\/al (S.getD u U.st0)=3\/al (S.getD u U.st0)=4:=zaa
 rcases hk with e|e|e|e|e<;>rw[e]<;>simp[du,aF]):zp:=h
theorem zdY(h:zp:=by
 have:=OH ((w.alloc (.cells #[(num:Int),(dep:Int),.slice a n c] 376)).drew) (.cells #[(3:Int),(4:Int)] 177);simpa using this):zp:=h
theorem zeo(h:zp:=by
 rw[Q4]at h1;obtain⟨y,hy,hy2⟩:=h1;show List.any _ _=true;rw[Q4];exact⟨y,Qz hy,hy2⟩):zp:=h
theorem zff(h:zp:=by
 rw[hup];rcases how2 with h|⟨u,h,_⟩<;>omega):zp:=h
theorem zfB(h:zp:=by
 rintro⟨h1,h2⟩;exact⟨zaa,h2⟩):zp:=h
theorem zfC(h:zp:=by
 unfold U.gu;rw[<- VK];exact this):zp:=h
theorem zfD(h:zp:=by
 have h:=Va;rw[Vf,Pw]at h;exact h):zp:=h
theorem zan(h:zp:=by rw[hns]):zp:=h
theorem zaB(h:zp:=by rw[VK];exact hb):zp:=h
theorem zaH(h:zp:=by rw[<- hX,OK]):zp:=h
theorem za8(h:zp:=by rw[OK];omega):zp:=h
open Tryz
variable {S S':List U.State}{s s':U.State}{i k d u num j:Nat}{n:()}{A:List U.Act}
section
open Go.RowKit
variable {w0 w:World}{db mb nm:Nat}{sv pv ov:U.Sl}{tm:Bool}{X:List J.DS}{SP:List (Int×Int)}{O:List Nat}{PT:Nat->List Nat}{D:DataW Nat}
theorem lC(num:Int)(dep:Nat)(a:Option Addr)(n c:Nat)(G:ao w0 w db sv pv ov mb tm X SP O PT nm D)(h:dep=0\/O.length<dep)(hd:dep<=1073741824):
  () 360 #[.agg #[(num:Int),(dep:Int),.slice a n c],db] w (bc 3 num w):=by
 have UH:=G.dlt;go_enter func360,ntmps360
 go_upto_region 1 with fail
 have TM:Below w w (((w.alloc (.cells #[(num:Int),(dep:Int),.slice a n c] 376)).drew).alloc (.cells #[(3:Int),(4:Int)] 177)):=((Oy _ _).alloc (Ow _) _).drew.alloc zad _;have G1:=G.aq TM;refine Qh zab ?_;change wpAny _ _ _ _ _ _ _ (World.drew _);refine tA 0 w rfl ?_;refine tA 2 db rfl ?_;refine tA 3 w rfl ?_;refine tA 4 w rfl ?_;refine yA [1,5,6] ?_;refine OC rfl (fun K hK=>?_) (OC rfl (fun K hK=>?_) (OC rfl (fun K hK=>?_) OX))
 ·exact zcS
 ·exact zcQ
 ·exact zcP
theorem qX(num:Int)(dep:Nat)(a:Option Addr)(n c:Nat)(k u g cap:Nat)(G:ao w0 w db ⟨some ⟨g,0,none⟩,X.length,cap⟩ pv ov mb tm X SP O PT nm D)(hk:k<O.length)(hd:dep=k+1)(hO:O.length<=1073741824)(VU:O[k]=u)(hu:u<X.length)(hh:J.al X[u].s∈([3,4]:List Int)):
  () 360 #[.agg #[(num:Int),(dep:Int),.slice a n c],db] w (bc 3 num w):=by
 have UH:=G.dlt;have TM:Below w w (((w.alloc (.cells #[(num:Int),(dep:Int),.slice a n c] 376)).drew).alloc (.cells #[(3:Int),(4:Int)] 177)):=((Oy _ _).alloc (Ow _) _).drew.alloc zad _;have Vq:(((w.alloc (.cells #[(num:Int),(dep:Int),.slice a n c] 376)).drew).alloc (.cells #[(3:Int),(4:Int)] 177)).heap[w.heap.size+1]?=some (.cells (([3,4]:List Int).map (Value.int .i64)).toArray 177 (0,0)):=by
  exact zdY
 have HC:Hid (() 356 #[db,.agg #[(num:Int),(dep:Int)],.slice (some (w.heap.size+1,0)) 2 2] (((w.alloc (.cells #[(num:Int),(dep:Int),.slice a n c] 376)).drew).alloc (.cells #[(3:Int),(4:Int)] 177)) (aA num (J.al X[u].s) [3,4] ⟨g,u*8,none⟩ (((w.alloc (.cells #[(num:Int),(dep:Int),.slice a n c] 376)).drew).alloc (.cells #[(3:Int),(4:Int)] 177)))):=di num dep k u [3,4] (w.heap.size+1) g cap (G.aq TM) hk hd hO VU hu Vq zac;clear hd VU hk hO Vq;go_enter func360,ntmps360
 go_upto_region 1 with fail
 refine Qh zab ?_;change wpAny _ _ _ _ _ _ _ (World.drew _);refine tA 0 w rfl ?_;refine tA 2 db rfl ?_;refine tA 3 w rfl ?_;refine tA 4 w rfl ?_;refine yA [1,5,6] ?_;refine OC rfl (fun K hK=>?_) (OC rfl (fun K hK=>?_) (OC rfl (fun K hK=>?_) OX))
 ·exact zcR
 ·exact zcL
 ·exact zcK
theorem qb(num:Int)(dep:Nat)(a:Option Addr)(n c:Nat)(k u g cap:Nat)(G:ao w0 w db ⟨some ⟨g,0,none⟩,X.length,cap⟩ pv ov mb tm X SP O PT nm D)(hk:k<O.length)(hd:dep=k+1)(hO:O.length<=1073741824)(VU:O[k]=u)(hu:u<X.length)(hh:¬J.al X[u].s∈([3,4]:List Int))(h2:0<X[u].vl.n):
  () 360 #[.agg #[(num:Int),(dep:Int),.slice a n c],db] w (bc 3 num w):=by
 have UH:=G.dlt;have TM:Below w w (((w.alloc (.cells #[(num:Int),(dep:Int),.slice a n c] 376)).drew).alloc (.cells #[(3:Int),(4:Int)] 177)):=((Oy _ _).alloc (Ow _) _).drew.alloc zad _;have Vq:(((w.alloc (.cells #[(num:Int),(dep:Int),.slice a n c] 376)).drew).alloc (.cells #[(3:Int),(4:Int)] 177)).heap[w.heap.size+1]?=some (.cells (([3,4]:List Int).map (Value.int .i64)).toArray 177 (0,0)):=by
  exact zdY
 have HC:Hid (() 356 #[db,.agg #[(num:Int),(dep:Int)],.slice (some (w.heap.size+1,0)) 2 2] (((w.alloc (.cells #[(num:Int),(dep:Int),.slice a n c] 376)).drew).alloc (.cells #[(3:Int),(4:Int)] 177)) (aA num (J.al X[u].s) [3,4] ⟨g,u*8,none⟩ (((w.alloc (.cells #[(num:Int),(dep:Int),.slice a n c] 376)).drew).alloc (.cells #[(3:Int),(4:Int)] 177)))):=di num dep k u [3,4] (w.heap.size+1) g cap (G.aq TM) hk hd hO VU hu Vq zac;obtain⟨UX,UN,hg0⟩:=G.uI;have TS:=G.uX hu;have Vp:w.frozen? (g,u*8+6)=false:=P7 (aC G.states (OL _)) _;have cv:w.cell? (g,u*8+6)=some (.slice X[u].vl.a X[u].vl.n X[u].vl.c):=TS 6 _ rfl;have TW:w.heap.size<(((w.alloc (.cells #[(num:Int),(dep:Int),.slice a n c] 376)).drew).alloc (.cells #[(3:Int),(4:Int)] 177)).heap.size:=zae;have HF:Hid (∀w4,Below (((w.alloc (.cells #[(num:Int),(dep:Int),.slice a n c] 376)).drew).alloc (.cells #[(3:Int),(4:Int)] 177)).heap.size (((w.alloc (.cells #[(num:Int),(dep:Int),.slice a n c] 376)).drew).alloc (.cells #[(3:Int),(4:Int)] 177)) w4->w4.cell? (g,u*8+6)=some (.slice X[u].vl.a X[u].vl.n X[u].vl.c)/\w4.frozen? (g,u*8+6)=false/\w4.cell? w=some ↑(num:Int)/\w4.cell? ⟨w,1,none⟩=some ↑(dep:Int)/\w4.cell? ⟨w,2,none⟩=some (.slice a n c)):=by
  exact zdi
 clear cv Vp TS;clear hd VU hk hO Vq;go_enter func360,ntmps360
 go_upto_region 1 with fail
 refine Qh zab ?_;change wpAny _ _ _ _ _ _ _ (World.drew _);refine tA 0 w rfl ?_;refine tA 2 db rfl ?_;refine tA 3 w rfl ?_;refine tA 4 w rfl ?_;refine yA [1,5,6] ?_;refine OC rfl (fun K hK=>?_) (OC rfl (fun K hK=>?_) (OC rfl (fun K hK=>?_) OX))
 ·go_simp;refine hK _ _ ?_;clear hK K;refine yA [5,6] ?_;refine OC rfl (fun K hK=>?_) (OC rfl (fun K hK=>?_) OX)
  ·exact zcY
  ·exact zcW
 ·go_simp;refine hK _ _ ?_;clear hK K;refine yA [1,6] ?_;refine OC rfl (fun K hK=>?_) (OC rfl (fun K hK=>?_) OX)
  ·exact zcY
  ·exact zcH
 ·go_simp;refine hK _ _ ?_;clear hK K;refine yA [1,5] ?_;refine OC rfl (fun K hK=>?_) (OC rfl (fun K hK=>?_) OX)
  ·exact zcW
  ·exact zcH
theorem s9(num:Int)(dep:Nat)(a:Option Addr)(n c:Nat)(k u g cap:Nat)(G:ao w0 w db ⟨some ⟨g,0,none⟩,X.length,cap⟩ pv ov mb tm X SP O PT nm D)(hk:k<O.length)(hd:dep=k+1)(hO:O.length<=1073741824)(VU:O[k]=u)(hu:u<X.length)(hh:¬J.al X[u].s∈([3,4]:List Int))(h2:X[u].vl.n=0)(A:List U.Act)(hA:w0.ownsRow 0 271 1 (.slice a n c) A.length (A.map bm)):
  () 360 #[.agg #[(num:Int),(dep:Int),.slice a n c],db] w fun e w'=>e=.returned (.tuple #[])/\ao w0 w' db ⟨some ⟨g,0,none⟩,X.length,cap⟩ pv ov mb tm (X.set u (J.ie X[u] num A ⟨a,n,c⟩)) SP O PT nm D:=by
 have UH:=G.dlt;have TM:Below w w (((w.alloc (.cells #[(num:Int),(dep:Int),.slice a n c] 376)).drew).alloc (.cells #[(3:Int),(4:Int)] 177)):=((Oy _ _).alloc (Ow _) _).drew.alloc zad _;have Vq:(((w.alloc (.cells #[(num:Int),(dep:Int),.slice a n c] 376)).drew).alloc (.cells #[(3:Int),(4:Int)] 177)).heap[w.heap.size+1]?=some (.cells (([3,4]:List Int).map (Value.int .i64)).toArray 177 (0,0)):=by
  exact zdY
 have HC:Hid (() 356 #[db,.agg #[(num:Int),(dep:Int)],.slice (some (w.heap.size+1,0)) 2 2] (((w.alloc (.cells #[(num:Int),(dep:Int),.slice a n c] 376)).drew).alloc (.cells #[(3:Int),(4:Int)] 177)) (aA num (J.al X[u].s) [3,4] ⟨g,u*8,none⟩ (((w.alloc (.cells #[(num:Int),(dep:Int),.slice a n c] 376)).drew).alloc (.cells #[(3:Int),(4:Int)] 177)))):=di num dep k u [3,4] (w.heap.size+1) g cap (G.aq TM) hk hd hO VU hu Vq zac;obtain⟨UX,UN,hg0⟩:=G.uI;have TS:=G.uX hu;have Vp:w.frozen? (g,u*8+6)=false:=P7 (aC G.states (OL _)) _;have cv:w.cell? (g,u*8+6)=some (.slice X[u].vl.a X[u].vl.n X[u].vl.c):=TS 6 _ rfl;have TW:w.heap.size<(((w.alloc (.cells #[(num:Int),(dep:Int),.slice a n c] 376)).drew).alloc (.cells #[(3:Int),(4:Int)] 177)).heap.size:=zae;have HF:Hid (∀w4,Below (((w.alloc (.cells #[(num:Int),(dep:Int),.slice a n c] 376)).drew).alloc (.cells #[(3:Int),(4:Int)] 177)).heap.size (((w.alloc (.cells #[(num:Int),(dep:Int),.slice a n c] 376)).drew).alloc (.cells #[(3:Int),(4:Int)] 177)) w4->w4.cell? (g,u*8+6)=some (.slice X[u].vl.a X[u].vl.n X[u].vl.c)/\w4.frozen? (g,u*8+6)=false/\w4.cell? w=some ↑(num:Int)/\w4.cell? ⟨w,1,none⟩=some ↑(dep:Int)/\w4.cell? ⟨w,2,none⟩=some (.slice a n c)):=by
  exact zdi
 have HG:Hid (∀w4 w5,Below (((w.alloc (.cells #[(num:Int),(dep:Int),.slice a n c] 376)).drew).alloc (.cells #[(3:Int),(4:Int)] 177)).heap.size (((w.alloc (.cells #[(num:Int),(dep:Int),.slice a n c] 376)).drew).alloc (.cells #[(3:Int),(4:Int)] 177)) w4->Below w4.heap.size (w4.setCell (g,u*8+6) (.slice a n c)) w5->ao w0 w5 db ⟨some ⟨g,0,none⟩,X.length,cap⟩ pv ov mb tm (X.set u (J.ie X[u] num A ⟨a,n,c⟩)) SP O PT nm D):=by
  intro w4 w5 TY Vl;have Zt:=TM.trans (TY.mono TM.size);have h:=G.Ei (v':=⟨a,n,c⟩) (x':=J.ie X[u] num A ⟨a,n,c⟩) (j:=6) Zt hu zac rfl rfl rfl rfl (G.deep u hu).enter hA;exact h.aq (Vl.mono zad)
 rw[h2]at HF;clear cv Vp TS h2;clear hd VU hk hO Vq;go_enter func360,ntmps360
 go_upto_region 1 with fail
 refine Qh zab ?_;change wpAny _ _ _ _ _ _ _ (World.drew _);refine tA 0 w rfl ?_;refine tA 2 db rfl ?_;refine tA 3 w rfl ?_;refine tA 4 w rfl ?_;refine yA [1,5,6] ?_;refine OC rfl (fun K hK=>?_) (OC rfl (fun K hK=>?_) (OC rfl (fun K hK=>?_) OX))
 ·go_simp;refine hK _ _ ?_;clear hK K;refine yA [5,6] ?_;refine OC rfl (fun K hK=>?_) (OC rfl (fun K hK=>?_) OX)
  ·exact zc2
  ·exact zc0
 ·go_simp;refine hK _ _ ?_;clear hK K;refine yA [1,6] ?_;refine OC rfl (fun K hK=>?_) (OC rfl (fun K hK=>?_) OX)
  ·exact zc2
  ·exact zcJ
 ·go_simp;refine hK _ _ ?_;clear hK K;refine yA [1,5] ?_;refine OC rfl (fun K hK=>?_) (OC rfl (fun K hK=>?_) OX)
  ·exact zc0
  ·exact zcJ
namespace J
def gb(S:List U.State):Nat->List Nat
 |0=>[]
 |k+1=>(gb S k).take (S.getD k U.st0).depth.toNat++[k]
def opn(S:List U.State):List Nat:=gb S S.length
def Val(S:List U.State):Prop:=∀k,k<S.length->0<=(S.getD k U.st0).depth/\(S.getD k U.st0).depth.toNat<=(gb S k).length
theorem iB{S S':List U.State}:∀k,(∀i,i<k->(S.getD i U.st0).depth=(S'.getD i U.st0).depth)->gb S k=gb S' k
 |0,_=>rfl
 |k+1,h=>by rw[gb,gb,iB k (fun i hi=>h i zaa),h k zaa]
theorem JH{S:List U.State}(hV:Val S)(dn:Nat)(hd:0<dn):∀k,k<=S.length->U.fh S dn k=match (gb S k)[dn-1]? with|some i=>(i:Int)|none=>-1
 |0,_=>by simp[U.fh,gb]
 |k+1,hk=>by
  have ih:=JH hV dn hd k zaa;obtain⟨h0,h1⟩:=hV k zaa;obtain⟨e,he⟩:∃e:Nat,(S.getD k U.st0).depth=e:=⟨(S.getD k U.st0).depth.toNat,zaa⟩;rw[he]at h1;simp only[Int.toNat_natCast]at h1;rw[U.fh,gb,he];simp only[Int.toNat_natCast];have hl:((gb S k).take e).length=e:=by rw[PH];omega
  by_cases h2:(e:Int)=dn-1
  ·rw[OD h2,PE zaa,hl];have:dn-1-e=0:=zaa;rw[this];rfl
  ·rw[OB h2];by_cases h3:(e:Int)<dn-1
   ·rw[OD h3,OV (by rw[OM,hl];simp;omega)]
   ·rw[OB h3,ih,Pv zaa,RV,OD zaa]
theorem mE(hV:Val S)(dn:Nat):U.dr S dn=if dn=0 then -1 else match (opn S)[dn-1]? with|some i=>(i:Int)|none=>-1:=by
 unfold U.dr;by_cases h:dn=0
 ·subst h;rfl
 ·rw[OB h,OD zaa,JH hV dn zaa S.length (Ow _)];rfl
theorem eZ(S:List U.State):∀k,∀i∈gb S k,i<k
 |0,i,h=>by simp[gb]at h
 |k+1,i,h=>by
  rw[gb]at h
  rcases OT.1 h with h|h
  ·have:=eZ S k i (Qz h);omega
  ·rw[OE.1 h];omega
theorem kn(S:List U.State):∀k,(gb S k).length<=k
 |0=>by simp[gb]
 |k+1=>by
  have:=kn S k;rw[gb,OM,PH];simp;omega
theorem bu(h:i<S.length):(S++[s]).getD i U.st0=S.getD i U.st0:=by
 rw[OJ,OJ,Pv h]
theorem dj:(S++[s]).getD S.length U.st0=s:=by
 rw[OJ,PE (Ow _)];simp
theorem CS(S:List U.State)(s:U.State):opn (S++[s])=(opn S).take s.depth.toNat++[S.length]:=by
 unfold opn;rw[OM,show S.length+[s].length=S.length+1 from rfl,gb,dj,iB (S':=S) S.length (fun i hi=>by rw[bu hi])]
theorem Dt(hV:Val S)(h0:0<=s.depth)(h1:s.depth.toNat<=(opn S).length):Val (S++[s]):=by
 intro k hk;by_cases h:k<S.length
 ·rw[bu h,iB (S':=S) k (fun i hi=>by rw[bu zaa])];exact hV k h
 ·have e:k=S.length:=by simp at hk;omega
  subst e;rw[dj,iB (S':=S) S.length (fun i hi=>by rw[bu hi])];exact⟨h0,h1⟩
def cE(S:List U.State)(i:Nat):Nat->List Nat
 |0=>[]
 |k+1=>if(S.getD k U.st0).up=i then cE S i k++[k] else cE S i k
def parts(S:List U.State)(i:Nat):List Nat:=cE S i S.length
theorem jQ{S S':List U.State}(i:Nat):∀k,(∀j,j<k->(S.getD j U.st0).up=(S'.getD j U.st0).up)->cE S i k=cE S' i k
 |0,_=>rfl
 |k+1,h=>by rw[cE,cE,jQ i k (fun j hj=>h j zaa),h k zaa]
theorem yC(S:List U.State)(s:U.State)(i:Nat):parts (S++[s]) i=if(i:Int)=s.up then parts S i++[S.length] else parts S i:=by
 unfold parts;rw[OM,show S.length+[s].length=S.length+1 from rfl,cE,dj,jQ (S':=S) i S.length (fun j hj=>by rw[bu hj])];by_cases h:s.up=i
 ·rw[OD h,OD h.symm]
 ·rw[OB h,OB (fun e=>h e.symm)]
theorem mq(S:List U.State)(i:Nat):∀k,(cE S i k).length<=k
 |0=>by simp[cE]
 |k+1=>by
  have:=mq S i k;rw[cE];split
  ·rw[OM];simp;omega
  ·omega
theorem o7{S:List U.State}{i:Nat}:∀k,(∀j,j<k->(S.getD j U.st0).up≠i)->cE S i k=[]
 |0,_=>rfl
 |k+1,h=>by rw[cE,OB (h k zaa),o7 k (fun j hj=>h j zaa)]
theorem dq{S:List U.State}{i x:Nat}:∀k,x∈cE S i k↔x<k/\(S.getD x U.st0).up=i
 |0=>by simp[cE]
 |k+1=>by
  have ih:=dq (S:=S) (i:=i) (x:=x) k;rw[cE];by_cases h:(S.getD k U.st0).up=i
  ·rw[OD h,OT,ih,OE];constructor
   ·rintro(⟨h1,h2⟩|rfl)
    ·exact⟨zaa,h2⟩
    ·exact⟨zaa,h⟩
   ·rintro⟨h1,h2⟩;by_cases e:x=k
    ·exact .inr e
    ·exact .inl ⟨zaa,h2⟩
  ·rw[OB h,ih];constructor
   ·exact zfB
   ·rintro⟨h1,h2⟩;have:x≠k:=by rintro rfl;exact h h2
    exact⟨zaa,h2⟩
def iG(s:U.State):Prop:=∃k:Int,0<=k/\k<=4/\s.word=bB k/\s.deep=decide (k=4)
theorem eY{k:Int}(h0:0<=k)(h4:k<=4)(hw:s.word=bB k)(hd:s.deep=decide (k=4)):al s=k:=by
 have hk:k=0\/k=1\/k=2\/k=3\/k=4:=zaa;unfold al;rw[hw,hd]
 rcases hk with rfl|rfl|rfl|rfl|rfl
 ·rw[show bB 0=lN from rfl,ji];rfl
 ·rw[show bB 1=fX from rfl,fI];rfl
 ·rw[show bB 2=lM from rfl,jb];rfl
 ·rw[show bB 3=dt from rfl,bV];rfl
 ·rw[show bB 4=dt from rfl,bV];rfl
theorem gY(h:iG s):(s.word.toList == U.aO)=du (al s):=by
 exact zdg
theorem lu(h:iG s):(s.word.toList == U.bT)=decide (al s=2):=by
 exact zdg
theorem pL(h:iG s):(s.word.toList == U.aE)=decide (al s=1):=by
 exact zdg
theorem kQ(h:iG s):0<=al s/\al s<=4:=by
 obtain⟨k,h0,h4,hw,hd⟩:=h;rw[eY h0 h4 hw hd];exact⟨h0,h4⟩
structure Inv(S:List U.State)(i:Nat):Prop where
 val:Val S
 words:∀s∈S,iG s
 len:S.length<=24
 up:∀k,k<S.length->-1<=(S.getD k U.st0).up/\(S.getD k U.st0).up<k
 enter:∀s∈S,(0<s.has0↔s.enter≠[])
 leave:∀s∈S,(0<s.has1↔s.leave≠[])
 aj:∀s∈S,s.aj.length<=i
theorem Inv.nil:Inv [] 0:=⟨fun k h=>absurd h zad,fun s h=>absurd h zad,zad,fun k h=>absurd h zad,fun s h=>absurd h zad,fun s h=>absurd h zad,fun s h=>absurd h zad⟩
theorem bf(h:k<S.length):S.getD k U.st0∈S:=by
 rw[OJ,Ou h];exact Pl h
theorem getD_eq(h:k<S.length):S.getD k U.st0=S[k]:=by
 rw[OJ,Ou h];rfl
theorem Ex(hI:Inv S i)(hk:k<(opn S).length):U.dr S ((k+1:Nat):Int)=((opn S)[k]:Int)/\(opn S)[k]<S.length:=by
 refine⟨?_,eZ S S.length _ (Pl hk)⟩;rw[mE hI.val,OB zaa];rw[show k+1-1=k from rfl,Ou hk]
theorem LU(hI:Inv S i)(h:(opn S).length<d):U.dr S (d:Int)=-1:=by
 rw[mE hI.val,OB zaa,OV zaa]
theorem yr(S:List U.State)(u:Nat):U.tp (S.map U.emb) (u:Int)=(parts S u).isEmpty:=by
 unfold U.tp parts;cases h:(cE S u S.length).isEmpty
 ·have TU:cE S u S.length≠[]:=fun e=>by rw[e]at h;cases h
  obtain⟨x,t,e⟩:=Se TU;have hx:x∈cE S u S.length:=by rw[e];exact O1
  obtain⟨h1,h2⟩:=(dq S.length).1 hx;rw[Sz];exact⟨U.emb (S.getD x U.st0),Qt (bf h1),by
   show ¬(!decide ((S.getD x U.st0).up=(u:Int)))=true;rw[Pe h2];simp⟩
 ·have hn:cE S u S.length=[]:=Rp.1 h;rw[Ro];intro y hy;obtain⟨s,hs,rfl⟩:=O7.1 hy;obtain⟨k,hk,rfl⟩:=QX hs;have:¬k∈cE S u S.length:=by rw[hn];simp
  rw[dq,getD_eq hk]at this;simp only[U.emb,Bool.not_eq_true'];exact Pc fun e=>this ⟨hk,e⟩
theorem JF(h:u<S.length):(U.Dq (S.map U.emb) (u:Int)).s=S[u]:=by
 unfold U.Dq;rw[QJ,OJ,OF,Ou h];rfl
theorem Kz(hI:Inv S i){ns:U.State}(hns:iG ns){dep:Nat}(Xc:ns.depth=dep){X:List DS}(hX:X.map (·.s)=S)(how:ns.up=-1\/∃u:Nat,ns.up=u/\u<S.length):
  U.fits (S.map U.emb) (U.emb ns)=(!decide (X.length=24)&&(!decide (5<dep)&&(if ns.up<0 then !du (al ns) else match X[ns.up.toNat]? with|some x=>holds x (parts S ns.up.toNat) (al ns)|none=>false))):=by
 have Wp:X.length=S.length:=zaH;unfold U.fits;rw[OK,Wp];have hw:=gY hns;have hf:=lu hns;simp only[U.emb];simp only[Xc,hw,hf];by_cases WT:S.length=24
 ·simp[WT]
 ·by_cases h5:5<dep
  ·have:(5:Int)<(dep:Int):=zaa;simp[WT,h5,this]
  ·have h5':¬(5:Int)<(dep:Int):=zaa
   rcases how with hu|⟨u,hu,hul⟩
   ·simp only[hu];simp[WT,h5,h5']
   ·simp only[hu];have hneg:¬(u:Int)<0:=zaa;have hxu:X[u]?=some (X[u]'(zaa)):=Ou _;have VK:(X[u]'(zaa)).s=S[u]:=by
     have:=congrArg (fun l=>l[u]?) hX;simp only[List.getElem?_map,hxu,List.getElem?_eq_getElem hul,Option.map_some]at this;exact Pd this
    have hwu:=hI.words S[u] (Pl hul);have hU:=JF hul;rw[hU,gY hwu,lu hwu,pL hwu];have hn:=yr S u;rw[hn];simp only[Int.toNat_natCast,hxu];unfold holds;rw[VK];obtain⟨r0,r4⟩:=kQ hwu;simp only[WT,h5,h5',hneg,decide_false,Bool.false_or,Bool.false_and,Bool.not_false,Bool.true_and,if_false,Bool.false_eq_true];have hk:al S[u]=0\/al S[u]=1\/al S[u]=2\/al S[u]=3\/al S[u]=4:=zaa
    rcases hk with e|e|e|e|e<;>rw[e]<;>simp[du]
theorem yU{k:Int}(up d:Int):U.km (aF num (.state k n)) up d=⟨bB k,n,decide (k=4),up,d,num,[],[],[],0,0⟩:=rfl
theorem ub{k:Int}:U.bk S i (aF num (.state k n)) (d:Int)=if 0<d/\U.dr S d<0 then none else if U.fits (S.map U.emb) (U.emb ⟨bB k,n,decide (k=4),U.dr S d,d,num,[],[],[],0,0⟩) then some (S++[⟨bB k,n,decide (k=4),U.dr S d,d,num,[],[],[],0,0⟩]) else none:=by
 unfold U.bk;rw[OD (show(aF num (.state k n)).kind=115 from rfl),yU];have e:(0<(d:Int)/\U.dr S ↑d<0)=(0<d/\U.dr S ↑d<0):=zad;simp only[e]
theorem wK(hI:Inv S j){ev t:()}{af:Bool}{dl:Int}:U.bk S i (aF num (.move ev af dl t A)) (d:Int) =
  if d=0 then none else match (opn S)[d-1]? with
   |none=>none
   |some u=>if al (S.getD u U.st0)∈([2,3,4]:List Int) then none else some (U.gu S u fun p=>{ p with aj:=p.aj++[⟨ev,t,af,dl,A,num⟩] }):=by
 unfold U.bk;rw[OB (show ¬(aF num (.move ev af dl t A)).kind=115 by simp[aF]),OD (show(aF num (.move ev af dl t A)).kind=109 from rfl),mE hI.val];by_cases h0:d=0
 ·subst h0;simp
 ·rw[OB h0,OB h0];cases e:(opn S)[d-1]? with
  |none=>simp
  |some u=>
   have hu:u<S.length:=eZ S S.length u (OG e);have hw:=hI.words _ (bf hu);simp only[Int.toNat_natCast];rw[OB zaa,OB zaa,gY hw,lu hw];obtain⟨r0,r4⟩:=kQ hw;have hk:al (S.getD u U.st0)=0\/al (S.getD u U.st0)=1\/al (S.getD u U.st0)=2\/al (S.getD u U.st0)=3\/al (S.getD u U.st0)=4:=zaa
   rcases hk with e|e|e|e|e<;>rw[e]<;>simp[du,aF]
theorem tY(hI:Inv S j):U.bk S i (aF num (.enter A)) (d:Int) =
  if d=0 then none else match (opn S)[d-1]? with
   |none=>none
   |some u=>if al (S.getD u U.st0)∈([3,4]:List Int) then none else if(S.getD u U.st0).enter≠[] then none else some (U.gu S u fun p=>{ p with has0:=i+1,enter:=A }):=by
 unfold U.bk;rw[OB (show ¬(aF num (.enter A)).kind=115 by simp[aF]),OB (show ¬(aF num (.enter A)).kind=109 by simp[aF]),OD (show(aF num (.enter A)).kind=101 from rfl),mE hI.val];by_cases h0:d=0
 ·subst h0;simp
 ·rw[OB h0,OB h0];cases e:(opn S)[d-1]? with
  |none=>simp
  |some u=>
   have hu:u<S.length:=eZ S S.length u (OG e);have hw:=hI.words _ (bf hu);have he:=hI.enter _ (bf hu);exact zdl
theorem tZ(hI:Inv S j):U.bk S i (aF num (.leave A)) (d:Int) =
  if d=0 then none else match (opn S)[d-1]? with
   |none=>none
   |some u=>if al (S.getD u U.st0)∈([3,4]:List Int) then none else if(S.getD u U.st0).leave≠[] then none else some (U.gu S u fun p=>{ p with has1:=i+1,leave:=A }):=by
 unfold U.bk;rw[OB (show ¬(aF num (.leave A)).kind=115 by simp[aF]),OB (show ¬(aF num (.leave A)).kind=109 by simp[aF]),OB (show ¬(aF num (.leave A)).kind=101 by simp[aF]),OD (show(aF num (.leave A)).kind=108 from rfl),mE hI.val];by_cases h0:d=0
 ·subst h0;simp
 ·rw[OB h0,OB h0];cases e:(opn S)[d-1]? with
  |none=>simp
  |some u=>
   have hu:u<S.length:=eZ S S.length u (OG e);have hw:=hI.words _ (bf hu);have he:=hI.leave _ (bf hu);exact zdl
def aR(S:List U.State):Nat->DataW Nat
 |0=>.map []
 |k+1=>if Go.Maps.has (aR S k) (.string (S.getD k U.st0).name.data.toList) then aR S k else(aR S k).put (.string (S.getD k U.st0).name.data.toList) (.lit (.int .i64 (S.getD k U.st0).line))
def dY(S:List U.State):List (Int×Int):=S.map fun s=>(s.line,s.depth)
def bP(S:List U.State):Bool:=S.any fun s=>s.aj.any (·.after)
structure lI(S S':List U.State):Prop where
 len:S'.length=S.length
 same:∀k,(S'.getD k U.st0).word=(S.getD k U.st0).word/\(S'.getD k U.st0).name=(S.getD k U.st0).name/\(S'.getD k U.st0).deep=(S.getD k U.st0).deep/\(S'.getD k U.st0).up=(S.getD k U.st0).up/\(S'.getD k U.st0).depth=(S.getD k U.st0).depth/\(S'.getD k U.st0).line=(S.getD k U.st0).line
theorem lI.NT(h:lI S S')(k:Nat):gb S' k=gb S k:=iB k (fun i _=>(h.same i).2.2.2.2.1)
theorem lI.opn(h:lI S S'):opn S'=opn S:=by unfold J.opn;rw[h.len];exact h.NT _
theorem lI.parts(h:lI S S')(i:Nat):parts S' i=parts S i:=by unfold J.parts;rw[h.len];exact jQ i _ (fun j _=>(h.same j).2.2.2.1)
theorem lI.first{S S':List U.State}(h:lI S S'):∀k,aR S' k=aR S k
 |0=>rfl
 |k+1=>by rw[aR,aR,h.first k,(h.same k).2.1,(h.same k).2.2.2.2.2]
theorem lI.jh(h:lI S S'):dY S'=dY S:=by
 unfold dY;apply List.ext_getElem
 ·simp[h.len]
 ·intro k h1 h2;simp only[List.length_map]at h1 h2;have:=h.same k;rw[getD_eq h1,getD_eq h2]at this;simp only[List.getElem_map];rw[this.2.2.2.2.1,this.2.2.2.2.2]
theorem vO(h:s'.word=(S.getD u U.st0).word/\s'.name=(S.getD u U.st0).name/\s'.deep=(S.getD u U.st0).deep/\s'.up=(S.getD u U.st0).up/\s'.depth=(S.getD u U.st0).depth/\s'.line=(S.getD u U.st0).line):lI S (S.set u s'):=by
 refine⟨ON,fun k=>?_⟩;by_cases e:u=k
 ·subst e;by_cases hu:u<S.length
  ·have:(S.set u s').getD u U.st0=s':=by
    rw[OJ,Qv];simp[hu]
   rw[this];exact h
  ·rw[RD zaa];exact⟨rfl,rfl,rfl,rfl,rfl,rfl⟩
 ·have:(S.set u s').getD k U.st0=S.getD k U.st0:=by
   rw[OJ,Qv,OB e,OJ]
  rw[this];exact⟨rfl,rfl,rfl,rfl,rfl,rfl⟩
theorem KJ(hI:Inv S i)(hu:u<S.length)(h:s'.word=(S.getD u U.st0).word/\s'.name=(S.getD u U.st0).name/\s'.deep=(S.getD u U.st0).deep/\s'.up=(S.getD u U.st0).up/\s'.depth=(S.getD u U.st0).depth/\s'.line=(S.getD u U.st0).line)
  (h0:0<s'.has0↔s'.enter≠[]) (h1:0<s'.has1↔s'.leave≠[]) (hm:s'.aj.length<=i+1):Inv (S.set u s') (i+1):=by
 have H:=vO h;refine⟨fun k hk=>?_,fun s hs=>?_,by rw[ON];exact hI.len,fun k hk=>?_,fun s hs=>?_,fun s hs=>?_,fun s hs=>?_⟩
 ·rw[ON]at hk;rw[(H.same k).2.2.2.2.1,H.NT];exact hI.val k hk
 ·rcases O6 hs with h'|h'
  ·exact hI.words s h'
  ·obtain⟨k,r0,r4,hw,hd⟩:=hI.words _ (bf hu);rw[h'];exact⟨k,r0,r4,h.1.trans hw,h.2.2.1.trans hd⟩
 ·rw[ON]at hk;rw[(H.same k).2.2.2.1];exact hI.up k hk
 ·rcases O6 hs with h'|h'
  ·exact hI.enter s h'
  ·rw[h'];exact h0
 ·rcases O6 hs with h'|h'
  ·exact hI.leave s h'
  ·rw[h'];exact h1
 ·rcases O6 hs with h'|h'
  ·have:=hI.aj s h';omega
  ·rw[h'];exact hm
theorem Cq(hI:Inv S i)(hl:S.length≠24)(hw:iG s)(h0:0<=s.depth)(h1:s.depth.toNat<=(opn S).length)(hu0: -1<=s.up)(hu:s.up<S.length)(he:s.enter=[])(Xb:s.leave=[])(hm:s.aj=[])(hh0:s.has0=0)(hh1:s.has1=0):Inv (S++[s]) (i+1):=by
 have:=hI.len;refine⟨Dt hI.val h0 h1,fun x hx=>?_,zae,fun k hk=>?_,fun x hx=>?_,fun x hx=>?_,fun x hx=>?_⟩
 ·rcases OT.1 hx with h|h
  ·exact hI.words x h
  ·rw[OE.1 h];exact hw
 ·by_cases h:k<S.length
  ·rw[bu h];exact hI.up k h
  ·have e:k=S.length:=by simp at hk;omega
   subst e;rw[dj];exact⟨hu0,hu⟩
 ·rcases OT.1 hx with h|h
  ·exact hI.enter x h
  ·rw[OE.1 h,he,hh0];simp
 ·rcases OT.1 hx with h|h
  ·exact hI.leave x h
  ·rw[OE.1 h,Xb,hh1];simp
 ·rcases OT.1 hx with h|h
  ·have:=hI.aj x h;omega
  ·rw[OE.1 h,hm];simp
theorem xO(S:List U.State)(s:U.State):aR (S++[s]) (S++[s]).length=if Go.Maps.has (aR S S.length) (.string s.name.data.toList) then aR S S.length else(aR S S.length).put (.string s.name.data.toList) (.lit (.int .i64 s.line)):=by
 have hc:∀k,k<=S.length->aR (S++[s]) k=aR S k:=by
  intro k
  induction k with
  |zero=>intro _;rfl
  |succ k ih=>intro hk;rw[aR,aR,ih zaa,bu zaa]
 rw[OM,show S.length+[s].length=S.length+1 from rfl,aR,hc S.length (Ow _),dj]
theorem yP(S:List U.State)(s:U.State):dY (S++[s])=dY S++[(s.line,s.depth)]:=by simp[dY]
theorem yT(S:List U.State)(s:U.State)(h:s.aj=[]):bP (S++[s])=bP S:=by simp[bP,h]
theorem mA(h:s'.aj=(S.getD u U.st0).aj):bP (S.set u s')=bP S:=by
 unfold bP;by_cases hu:u<S.length
 ·have e:(S.set u s').map (·.aj)=S.map (·.aj):=by
   rw[Qw];apply Qo
   intro i;rw[Qv];split
   ·rename_i e;subst e;simp[hu,h]
   ·rfl
  have f:∀T:List U.State,(T.any fun s=>s.aj.any (·.after))=(T.map (·.aj)).any (fun m=>m.any (·.after)):=by
   intro T;rw[List.any_map];rfl
  rw[f,f,e]
 ·rw[RD zaa]
theorem um{m:U.Move}(hu:u<S.length)(h:s'.aj=(S.getD u U.st0).aj++[m]):bP (S.set u s')=(bP S||m.after):=by
 cases ha:(bP S||m.after)
 ·rw[Bool.or_eq_false_iff]at ha;show List.any _ _=false;rw[SF];intro x hx
  rcases O6 hx with h'|h'
  ·have:=ha.1;unfold bP at this;rw[SF]at this;exact this x h'
  ·rw[h',h,R8];have h1:=ha.1;unfold bP at h1;rw[SF]at h1;have:=h1 _ (bf hu);simp[ha.2]at this⊢;exact this
 ·show List.any _ _=true;rw[Q4];rw[Rb]at ha
  rcases ha with ha|ha
  ·unfold bP at ha;rw[Q4]at ha;obtain⟨x,hx,hxa⟩:=ha;obtain⟨k,hk,rfl⟩:=QX hx;by_cases e:u=k
   ·subst e;refine⟨s',SG hu _,?_⟩;rw[h,R8,getD_eq hu,hxa];rfl
   ·refine⟨S[k],?_,hxa⟩;have:(S.set u s')[k]'(by rw[ON];exact hk)=S[k]:=by rw[PI,OB e]
    rw[<- this];exact Pl _
  ·refine⟨s',SG hu _,?_⟩;rw[h,R8];simp[ha]
end J
structure gx(w0 w:World)(db:Nat)(S:List U.State)(i:Nat):Prop where
 mem:∃sv pv ov mb X nm,X.map (·.s)=S/\nm<=S.length/\ao w0 w db sv pv ov mb (J.bP S) X (J.dY S) (J.opn S) (J.parts S) nm (J.aR S S.length)
 inv:J.Inv S i
def dF(w0:World)(db:Nat)(S:List U.State)(i d:Nat)(L:J.PL)(w:World)(e:Ending)(w':World):Prop:=match U.bk S i (J.aF (i+1) L) (d:Int) with
 |none=>bc 3 ((i+1:Nat):Int) w e w'
 |some S'=>e=.returned (.tuple #[])/\gx w0 w' db S' (i+1)
theorem Nt(h:i<=1000000):(Lit.int .i64 ((i:Nat):Int)).wf=true:=WalkArith.wf_i64 zaa
theorem rH{X:List J.DS}(h:X.map (·.s)=S)(hu:u<S.length):∃hx:u<X.length,X[u].s=S.getD u U.st0:=by
 have hl:X.length=S.length:=by rw[<- h,OK]
 refine⟨zaa,?_⟩;subst h;rw[J.getD_eq hu,QO]
theorem CY(w0 w:World)(db:Nat)(S:List U.State)(i d:Nat)(k:Int)(n:())(H:gx w0 w db S i)(Yp:0<=k)(hk4:k<=4)(hn:n.size<=1000000)(hd:d<=1000000)(hi:i<=100000):
  () 348 #[.agg (eO ((i+1:Nat):Int) d k n),db] w (dF w0 db S i d (.state k n) w):=by
 obtain⟨⟨sv,pv,ov,mb,X,nm,hX,Uq,G⟩,I⟩:=H;have Wp:X.length=S.length:=zaH;have hlen:=I.len;have Xx:=J.kn S S.length;change(J.opn S).length<=S.length at Xx;unfold dF;rw[J.ub];by_cases Vb:0<d/\U.dr S d<0
 ·rw[OD Vb];refine rm _ d k n G Vb.1 ?_ zaa
  rcases QD (J.opn S).length d with h|h
  ·exact h
  ·obtain⟨d',rfl⟩:∃d',d=d'+1:=⟨d-1,zaa⟩;have:=(J.Ex I (k:=d') zaa).1;have h2:=Vb.2;rw[this]at h2;omega
 ·rw[OB Vb];obtain⟨ns,hns⟩:∃ns:U.State,ns=⟨J.bB k,n,decide (k=4),U.dr S d,d,((i+1:Nat):Int),[],[],[],0,0⟩:=⟨_,rfl⟩;have Xa:d<=(J.opn S).length:=by
   rcases QD (J.opn S).length d with h|h
   ·exact absurd ⟨zaa,by rw[J.LU I h];decide⟩ Vb
   ·exact h
  have how:(d=0/\U.dr S d=-1)\/∃(k u:Nat) (hk:k<(J.opn S).length),d=k+1/\(J.opn S)[k]=u/\U.dr S d=u/\u<X.length:=by
   by_cases h0:d=0
   ·subst h0;exact .inl ⟨rfl,rfl⟩
   ·obtain⟨d',rfl⟩:∃d',d=d'+1:=⟨d-1,zaa⟩;obtain⟨h1,h2⟩:=J.Ex I (k:=d') zaa;exact .inr ⟨d',_,zaa,rfl,rfl,h1,zaa⟩
  have how2:U.dr S d=-1\/∃u:Nat,U.dr S d=u/\u<S.length:=by
   rcases how with⟨_,h⟩|⟨_,u,_,_,_,h,hu⟩
   ·exact .inl h
   ·exact .inr ⟨u,h,zaa⟩
  have hw:J.iG ns:=⟨k,Yp,hk4,zan,zan⟩;have U8:J.al ns=k:=J.eY Yp hk4 zan zan;have X8:=J.Kz I hw (dep:=d) zan hX (by rw[hns];exact how2);have hst:=tW ((i+1:Nat):Int) d k (U.dr S d) n ns G zaa (by unfold J.dY;rw[OK];omega) zaa (fun j=>by have:=J.mq S j S.length;exact Ox this zaa) zaa
   U8 zan zan zan zan zan zan Xa hn (Nt zaa) how (by
    rw[Wp];exact J.o7 _ (fun j hj e=>by have:=(I.up j hj).2;omega))
  refine OI hst ?_;intro e w' h;have hup:ns.up=U.dr S d:=zan;rw[U8,hup]at X8;change _=jr X (J.parts S) d (U.dr S d) k at X8;rw[<- hns,X8];cases Uw:jr X (J.parts S) d (U.dr S d) k
  ·rw[Uw]at h;exact h
  ·rw[Uw]at h;obtain⟨rfl,sv',pv',ov',X',hX',G'⟩:=h;have WT:S.length≠24:=by
    intro e;unfold jr at Uw;rw[Wp,Pe e]at Uw;cases Uw
   refine⟨rfl,⟨sv',pv',ov',mb,X',nm+1,by rw[hX',hX],zae,?_⟩,?_⟩
   ·have e1:J.bP (S++[ns])=J.bP S:=J.yT S ns zan;have e2:J.dY (S++[ns])=J.dY S++[(((i+1:Nat):Int),(d:Int))]:=by rw[J.yP,hns]
    have e3:J.opn (S++[ns])=(J.opn S).take d++[X.length]:=by rw[J.CS,Wp,hns];rfl
    have e4:J.parts (S++[ns])=fun j:Nat=>if(j:Int)=U.dr S d then J.parts S j++[X.length] else J.parts S j:=by
     funext j;rw[J.yC,Wp,hup]
    have e5:J.aR (S++[ns]) (S++[ns]).length=if Go.Maps.has (J.aR S S.length) (.string n.data.toList) then J.aR S S.length else(J.aR S S.length).put (.string n.data.toList) (.lit (.int .i64 ((i+1:Nat):Int))):=by rw[J.xO,hns]
    rw[e1,e2,e3,e4,e5];exact G'
   ·refine J.Cq I WT hw (by rw[hns];show(0:Int)<=(d:Int);omega) (by rw[hns];simpa using Xa) ?_ ?_ zan zan zan zan zan
    ·exact zff
    ·exact zff
theorem kK{w0 w':World}{db:Nat}{sv pv ov:U.Sl}{mb nm:Nat}{X:List J.DS}{x':J.DS}{tm:Bool}(hX:X.map (·.s)=S)(Uq:nm<=S.length)(I:J.Inv S i)(hu:u<S.length)
  (h:x'.s.word=(S.getD u U.st0).word/\x'.s.name=(S.getD u U.st0).name/\x'.s.deep=(S.getD u U.st0).deep/\x'.s.up=(S.getD u U.st0).up/\x'.s.depth=(S.getD u U.st0).depth/\x'.s.line=(S.getD u U.st0).line)
  (h0:0<x'.s.has0↔x'.s.enter≠[]) (h1:0<x'.s.has1↔x'.s.leave≠[]) (hm:x'.s.aj.length<=i+1) (ht:J.bP (S.set u x'.s)=tm)
  (G:ao w0 w' db sv pv ov mb tm (X.set u x') (J.dY S) (J.opn S) (J.parts S) nm (J.aR S S.length)):gx w0 w' db (S.set u x'.s) (i+1):=by
 have H:=J.vO h;refine⟨⟨sv,pv,ov,mb,X.set u x',nm,?_,by rw[ON];exact Uq,?_⟩,J.KJ I hu h h0 h1 hm⟩
 ·rw[Qw,hX]
 ·have e4:J.parts (S.set u x'.s)=J.parts S:=funext fun j=>H.parts j;rw[ht,H.jh,H.opn,e4,H.len,H.first];exact G
theorem FP(w0 w:World)(db:Nat)(S:List U.State)(i d:Nat)(ev t:())(af:Bool)(dl:Int)(A:List U.Act)(v:U.Sl)(H:gx w0 w db S i)(hd:d<=1000000)(hi:i<=100000)(hA:w0.ownsRow 0 271 1 v.v A.length (A.map bm)):
  () 353 #[.agg #[.int .i64 ((i+1:Nat):Int),(d:Int),ev,af,.int .u64 dl,t,.slice v.a v.n v.c],db] w (dF w0 db S i d (.move ev af dl t A) w):=by
 obtain⟨⟨sv,pv,ov,mb,X,nm,hX,Uq,G⟩,I⟩:=H;have Wp:X.length=S.length:=zaH;have hlen:=I.len;have Xx:=J.kn S S.length;change(J.opn S).length<=S.length at Xx;have y:J.PV:=⟨⟨ev,t,af,dl,A,((i+1:Nat):Int)⟩,v⟩;unfold dF;rw[J.wK I];by_cases h0:d=0
 ·rw[OD h0];exact l8 _ d ⟨⟨ev,t,af,dl,A,((i+1:Nat):Int)⟩,v⟩ G (.inl h0) zaa
 ·rw[OB h0];obtain⟨d',rfl⟩:∃d',d=d'+1:=⟨d-1,zaa⟩;rw[show d'+1-1=d' from rfl]
  rcases QD d' (J.opn S).length with hk|hk
  ·rw[Ou hk];have hu:(J.opn S)[d']<S.length:=J.eZ S S.length _ (Pl hk);obtain⟨u,Zf⟩:∃u,u=(J.opn S)[d']:=⟨_,rfl⟩;rw[<- Zf]at hu⊢;obtain⟨Zy,VK⟩:=rH hX hu;obtain⟨g,cap,rfl⟩:=G.C6 zaa;simp only;by_cases hb:J.al (S.getD u U.st0)∈([2,3,4]:List Int)
   ·rw[OD hb];exact uQ _ (d'+1) ⟨⟨ev,t,af,dl,A,((i+1:Nat):Int)⟩,v⟩ d' u g cap G hk rfl zaa Zf.symm Zy zaB
   ·rw[OB hb];have Vd:=I.aj _ (J.bf hu);refine OI (uR _ (d'+1) ⟨⟨ev,t,af,dl,A,((i+1:Nat):Int)⟩,v⟩ d' u g cap G hk rfl zaa Zf.symm Zy zaB hA (by rw[VK];omega)) ?_;rintro e w' ⟨rfl,vm',G'⟩;refine⟨rfl,?_⟩;have he:=I.enter _ (J.bf hu);have hl:=I.leave _ (J.bf hu);have:=kK (x':=J.dv X[u] ⟨⟨ev,t,af,dl,A,((i+1:Nat):Int)⟩,v⟩ vm') hX Uq I hu (by simp[J.dv,VK]) (by simpa[J.dv,VK] using he) (by simpa[J.dv,VK] using hl) (by simp[J.dv,VK];simpa using Vd) (J.um hu (m:=⟨ev,t,af,dl,A,((i+1:Nat):Int)⟩) (by simp[J.dv,VK])) G';exact zfC
  ·rw[OV hk];exact l8 _ (d'+1) ⟨⟨ev,t,af,dl,A,((i+1:Nat):Int)⟩,v⟩ G (.inr zaa) zaa
theorem CW(w0 w:World)(db:Nat)(S:List U.State)(i d:Nat)(A:List U.Act)(v:U.Sl)(H:gx w0 w db S i)(hd:d<=1000000)(hA:w0.ownsRow 0 271 1 v.v A.length (A.map bm))(hA0:A≠[]):
  () 358 #[.agg #[.int .i64 ((i+1:Nat):Int),(d:Int),.slice v.a v.n v.c],db] w (dF w0 db S i d (.enter A) w):=by
 obtain⟨⟨sv,pv,ov,mb,X,nm,hX,Uq,G⟩,I⟩:=H;have Wp:X.length=S.length:=zaH;have hlen:=I.len;have Xx:=J.kn S S.length;change(J.opn S).length<=S.length at Xx;unfold dF;rw[J.tY I];by_cases h0:d=0
 ·rw[OD h0];exact lA _ d v.a v.n v.c G (.inl h0) zaa
 ·rw[OB h0];obtain⟨d',rfl⟩:∃d',d=d'+1:=⟨d-1,zaa⟩;rw[show d'+1-1=d' from rfl]
  rcases QD d' (J.opn S).length with hk|hk
  ·rw[Ou hk];have hu:(J.opn S)[d']<S.length:=J.eZ S S.length _ (Pl hk);obtain⟨u,Zf⟩:∃u,u=(J.opn S)[d']:=⟨_,rfl⟩;rw[<- Zf]at hu⊢;obtain⟨Zy,VK⟩:=rH hX hu;obtain⟨g,cap,rfl⟩:=G.C6 zaa;simp only;have Zg:X[u].ve.n=(S.getD u U.st0).enter.length:=by
    rw[<- VK]
    rcases(G.deep u Zy).enter.2 with⟨h,h0⟩|⟨g,cap,cur,h,_⟩
    ·exact zfw
    ·exact zfJ
   by_cases hb:J.al (S.getD u U.st0)∈([3,4]:List Int)
   ·rw[OD hb];exact qU _ (d'+1) v.a v.n v.c d' u g cap G hk rfl zaa Zf.symm Zy zaB
   ·rw[OB hb];by_cases h2:(S.getD u U.st0).enter≠[]
    ·rw[OD h2];exact p5 _ (d'+1) v.a v.n v.c d' u g cap G hk rfl zaa Zf.symm Zy zaB (by rw[Zg];exact Qc.2 h2)
    ·rw[OB h2];have h2':(S.getD u U.st0).enter=[]:=Classical.not_not.1 h2;refine OI (sF _ (d'+1) v.a v.n v.c d' u g cap G hk rfl zaa Zf.symm Zy zaB (by rw[Zg,h2'];rfl) A hA) ?_;rintro e w' ⟨rfl,G'⟩;refine⟨rfl,?_⟩;have he:=I.enter _ (J.bf hu);have hl:=I.leave _ (J.bf hu);have Vd:=I.aj _ (J.bf hu);have:=kK (x':=J.ic X[u] ((i+1:Nat):Int) A v) hX Uq I hu (by simp[J.ic,VK]) (by simp[J.ic];exact hA0) (by simpa[J.ic,VK] using hl) (by simp[J.ic,VK];have:=Vd;simp at this;omega) (J.mA (by simp[J.ic,VK])) G';exact zfC
  ·rw[OV hk];exact lA _ (d'+1) v.a v.n v.c G (.inr zaa) zaa
theorem CX(w0 w:World)(db:Nat)(S:List U.State)(i d:Nat)(A:List U.Act)(v:U.Sl)(H:gx w0 w db S i)(hd:d<=1000000)(hA:w0.ownsRow 0 271 1 v.v A.length (A.map bm))(hA0:A≠[]):
  () 360 #[.agg #[.int .i64 ((i+1:Nat):Int),(d:Int),.slice v.a v.n v.c],db] w (dF w0 db S i d (.leave A) w):=by
 obtain⟨⟨sv,pv,ov,mb,X,nm,hX,Uq,G⟩,I⟩:=H;have Wp:X.length=S.length:=zaH;have hlen:=I.len;have Xx:=J.kn S S.length;change(J.opn S).length<=S.length at Xx;unfold dF;rw[J.tZ I];by_cases h0:d=0
 ·rw[OD h0];exact lC _ d v.a v.n v.c G (.inl h0) zaa
 ·rw[OB h0];obtain⟨d',rfl⟩:∃d',d=d'+1:=⟨d-1,zaa⟩;rw[show d'+1-1=d' from rfl]
  rcases QD d' (J.opn S).length with hk|hk
  ·rw[Ou hk];have hu:(J.opn S)[d']<S.length:=J.eZ S S.length _ (Pl hk);obtain⟨u,Zf⟩:∃u,u=(J.opn S)[d']:=⟨_,rfl⟩;rw[<- Zf]at hu⊢;obtain⟨Zy,VK⟩:=rH hX hu;obtain⟨g,cap,rfl⟩:=G.C6 zaa;simp only;have Zg:X[u].vl.n=(S.getD u U.st0).leave.length:=by
    rw[<- VK]
    rcases(G.deep u Zy).leave.2 with⟨h,h0⟩|⟨g,cap,cur,h,_⟩
    ·exact zfw
    ·exact zfJ
   by_cases hb:J.al (S.getD u U.st0)∈([3,4]:List Int)
   ·rw[OD hb];exact qX _ (d'+1) v.a v.n v.c d' u g cap G hk rfl zaa Zf.symm Zy zaB
   ·rw[OB hb];by_cases h2:(S.getD u U.st0).leave≠[]
    ·rw[OD h2];exact qb _ (d'+1) v.a v.n v.c d' u g cap G hk rfl zaa Zf.symm Zy zaB (by rw[Zg];exact Qc.2 h2)
    ·rw[OB h2];have h2':(S.getD u U.st0).leave=[]:=Classical.not_not.1 h2;refine OI (s9 _ (d'+1) v.a v.n v.c d' u g cap G hk rfl zaa Zf.symm Zy zaB (by rw[Zg,h2'];rfl) A hA) ?_;rintro e w' ⟨rfl,G'⟩;refine⟨rfl,?_⟩;have he:=I.enter _ (J.bf hu);have hl:=I.leave _ (J.bf hu);have Vd:=I.aj _ (J.bf hu);have:=kK (x':=J.ie X[u] ((i+1:Nat):Int) A v) hX Uq I hu (by simp[J.ie,VK]) (by simpa[J.ie,VK] using he) (by simp[J.ie];exact hA0) (by simp[J.ie,VK];have:=Vd;simp at this;omega) (J.mA (by simp[J.ie,VK])) G';exact zfC
  ·rw[OV hk];exact lC _ (d'+1) v.a v.n v.c G (.inr zaa) zaa
variable {w0 w:World}{db mb nm:Nat}{sv pv ov:U.Sl}{tm:Bool}{X:List J.DS}{SP:List (Int×Int)}{O:List Nat}{PT:Nat->List Nat}{D:DataW Nat}
def dI(X:List J.DS)(p:List Nat):Bool:=p.any fun j=>match X[j]? with|some x=>!J.du (J.al x.s)|none=>false
theorem nM(u:Nat)(G:ao w0 w db sv pv ov mb tm X SP O PT nm D)(hu:u<X.length)(hX:X.length<=1000)(hPT:∀j∈PT u,j<X.length)(hPl:(PT u).length<=1000):
  () 147 #[db,.agg #[.int .i64 (J.al X[u].s),.string X[u].s.name,.int .i64 X[u].s.depth,.int .i64 X[u].s.up,.slice X[u].vp.a (PT u).length X[u].vp.c,.slice X[u].ve.a X[u].ve.n X[u].ve.c,.slice X[u].vl.a X[u].vl.n X[u].vl.c,.slice X[u].vm.a X[u].vm.n X[u].vm.c]] w fun e w'=>e=.returned (.bool (dI X (PT u)))/\Below w w w':=by
 obtain⟨g,cap,rfl⟩:=G.C6 zaa;obtain⟨UX,UN,_⟩:=G.uI;have UH:=G.dlt;obtain⟨c0,_,_,_,_⟩:=G.cells;have HR:Hid (∀j (hj:j<X.length),w.cell? ⟨g,j*8,none⟩=some (.int .i64 (J.al X[j].s))):=fun j hj=>by
  have:=G.uX hj 0 (.int .i64 (J.al X[j].s)) rfl;simpa using this
 have HV:Hid (∀k (hk:k<(PT u).length),∃gp,X[u].vp.a=some ⟨gp,0,none⟩/\gp<w.heap.size/\w.cell? ⟨gp,k,none⟩=some (.int .i64 ((PT u)[k]:Nat))/\(PT u).length<=X[u].vp.c):=fun k hk=>by
  have ho:=G.parts u hu;obtain⟨gp,cp,e⟩:=U.eG ho zaa;have h:=ho;rw[e]at h;have hc:=Row.cell (α:=Nat) (n:=1) (j:=0) (f:=eM) (fun _=>rfl) (aC h (OL _)) zac hk;have TZ:w.cell? (gp,k)=some (.int .i64 ((PT u)[k]:Nat)):=by simpa[eM] using hc
  simp only[U.Sl.v,Value.slice.injEq]at e;refine⟨gp,e.1,OW _ _ TZ,TZ,?_⟩
  rcases h.2 with⟨h,_⟩|⟨g',cap',cur,h,_,_,hle,_⟩
  ·cases h
  ·simp at h;rw[e.2.2,h.2];exact hle
 have HP:Hid _:=hPT;generalize U8:J.al X[u].s=kd0;generalize hva:X[u].vp.a=va at *;generalize hvc:X[u].vp.c=vc at *;clear U8 hva hvc hPT G;go_enter func147,ntmps147;go_wp2
 go_loop[10] (fun i=>∃k:Nat,k<=(PT u).length/\i=.int .i64 k/\dI X ((PT u).take k)=false) (fun i=>(PT u).length-(intOf i).toNat)
 case atStart=>exact⟨0,OL _,rfl,rfl⟩
 case round=>
  obtain⟨k,hk,rfl,Va⟩:=hrel;by_cases UC:k<(PT u).length
  ·obtain⟨gp,rfl,hgp,cp,hcp⟩:=HV.out k UC;have hj:=HP.out _ (Pl UC);obtain⟨j,hje⟩:∃j,j=(PT u)[k]:=⟨_,rfl⟩;rw[<- hje]at cp hj;have cK:=HR.out j hj;have HN:Hid (dI X ((PT u).take (k+1))=(dI X ((PT u).take k)||!J.du (J.al X[j].s))):=by
    unfold Hid dI;rw[PQ,Ou UC,R8,<- hje];simp[hj]
   generalize hq:J.al X[j].s=kj at *;clear hq;have HNo:Hid _:=Va;clear Va hje;go_wp2_with fail;refine(jL kj _).mono ?_;rintro e w9 ⟨rfl,Pg⟩;rw[Pg];clear Pg w9;obtain⟨h,hh⟩:∃h,h=J.du kj:=⟨_,rfl⟩;have hi:(decide (kj=3)||decide (kj=4))=h:=hh.symm;rw[hi];rw[<- hh]at HN;clear hh hi;cases h with
   |true=>
    dsimp only;go_wp2
    go_round
    case rel=>exact⟨k+1,zaa,zag,by rw[HN.out,HNo.out];rfl⟩
    case measure=>simp[intOf];omega
   |false=>
    have HT:Hid (dI X (PT u)=true):=by
     have h1:dI X ((PT u).take (k+1))=true:=by rw[HN.out,HNo.out];rfl
     unfold dI at h1;exact zeo
    dsimp only;go_wp2;go_ret;exact⟨by rw[HT.out];rfl,(Oy _ _).alloc (Ow _) _⟩
  ·have Vf:k=(PT u).length:=zaa;have HF:Hid (dI X (PT u)=false):=by
    exact zfD
   clear Va;go_wp2;go_ret;exact⟨by rw[HF.out];rfl,(Oy _ _).alloc (Ow _) _⟩
namespace J
theorem uW(hI:Inv S i){X:List DS}(hX:X.map (·.s)=S)(k:Nat):(U.regions (S.map U.emb) k).isEmpty=!dI X (parts S k):=by
 have Ud:∀(m:Nat) (x:Nat),x∈U.tL (S.map U.emb) k m↔x<m/\∃h:x<S.length,S[x].up=k/\du (al S[x])=false:=by
  intro m
  induction m with
  |zero=>intro x;simp[U.tL]
  |succ m ih=>
   intro x;rw[U.tL];by_cases hm:m<S.length
   ·have e:((S.map U.emb)[m]?.map (U.D6 k)).getD false=(decide (S[m].up=k)&&!du (al S[m])):=by
     rw[OF,Ou hm];simp only[Option.map_some,Option.getD_some,U.D6,U.emb];rw[gY (hI.words _ (Pl hm))]
    rw[e];by_cases hc:(decide (S[m].up=(k:Int))&&!du (al S[m]))=true
    ·rw[OD hc,OT,ih,OE];rw[O2,RA,QS]at hc;constructor
     ·rintro(⟨h1,h2⟩|rfl)
      ·exact⟨zaa,h2⟩
      ·exact⟨zaa,hm,hc.1,hc.2⟩
     ·rintro⟨h1,h2⟩;by_cases ex:x=m
      ·exact .inr ex
      ·exact .inl ⟨zaa,h2⟩
    ·rw[OB hc,ih];constructor
     ·exact zfB
     ·rintro⟨h1,h2⟩;refine⟨?_,h2⟩;have:x≠m:=by
       rintro rfl;obtain⟨_,h3,h4⟩:=h2;apply hc
       rw[Pe h3,h4];rfl
      omega
   ·have e:((S.map U.emb)[m]?.map (U.D6 k)).getD false=false:=by
     rw[OV za8];rfl
    rw[e];simp only[Bool.false_eq_true,if_false];rw[ih];constructor
    ·exact zfB
    ·rintro⟨h1,h2,h3⟩;exact⟨zaa,h2,h3⟩
 unfold U.regions;rw[OK];have Wp:X.length=S.length:=zaH;have hXs:∀x (h:x<S.length),(X[x]'(zaa)).s=S[x]:=fun x h=>by
  subst hX;rw[QO]
 cases hp:dI X (parts S k)
 ·show _=true;rw[Rp];unfold dI at hp;rw[SF]at hp;rw[List.eq_nil_iff_forall_not_mem];intro x hx;obtain⟨h1,h2,h3,h4⟩:=(Ud S.length x).1 hx;have:=hp x ((dq S.length).2 ⟨h2,by rw[getD_eq h2];exact h3⟩);rw[Ou zaa]at this;simp only[hXs x h2,h4]at this;exact this rfl
 ·show _=false;unfold dI at hp;rw[Q4]at hp;obtain⟨x,hx,VJ⟩:=hp;obtain⟨h1,h2⟩:=(dq S.length).1 hx;rw[Ou zaa]at VJ;simp only[hXs x h1,Bool.not_eq_true']at VJ;rw[getD_eq h1]at h2;have hm:=(Ud S.length x).2 ⟨h1,h1,h2,VJ⟩;cases hr:U.tL (S.map U.emb) k S.length with
  |nil=>rw[hr]at hm;cases hm
  |cons a b=>rfl
theorem CU(hI:Inv S i){X:List DS}(hX:X.map (·.s)=S)(hk:k<S.length)(h:U.dW S k=none):U.dW S (k+1)=if al (S.getD k U.st0)=1/\dI X (parts S k)=false then some (S.getD k U.st0).line else none:=by
 rw[U.dW,h];simp only;rw[pL (hI.words _ (bf hk)),uW hI hX];by_cases h1:al (S.getD k U.st0)=1
 ·rw[Pe h1];cases hp:dI X (parts S k)
  ·rw[OD zaf,OD ⟨h1,rfl⟩]
  ·rw[OB zad,OB zad]
 ·rw[Pc h1,OB zad,OB (fun h=>h1 h.1)]
end J
def ry(S:List U.State)(w:World)(e:Ending)(w':World):Prop:=match U.dW S S.length with
 |some l=>bc 3 l w e w'
 |none=>e=.returned (.tuple #[])/\Below w.heap.size w w'
theorem nJ(w0 w:World)(db:Nat)(S:List U.State)(i:Nat)(H:gx w0 w db S i)(hS:0<S.length):
  () 97 #[db] w (ry S w):=by
 obtain⟨⟨sv,pv,ov,mb,X,nm,hX,Uq,G⟩,I⟩:=H;have Wp:X.length=S.length:=zaH;have hlen:=I.len;obtain⟨g,cap,rfl⟩:=G.C6 zaa;obtain⟨hsvc,UN,_⟩:=G.uI;have UH:=G.dlt;obtain⟨c0,c1,_,_,_⟩:=G.cells;have hpn:=G.NV;rw[hpn]at c1;have hspl:(J.dY S).length=X.length:=by unfold J.dY;rw[OK,Wp]
 rw[hspl]at c1;have HSp:Hid (∀k (hk:k<X.length),∃gs,pv.a=some ⟨gs,0,none⟩/\w.cell? ⟨gs,k*2,none⟩=some (.int .i64 (S.getD k U.st0).line)/\w.cell? ⟨gs,k*2+1,none⟩=some (.int .i64 (S.getD k U.st0).depth)/\X.length<=pv.c):=fun k hk=>by
  have ho:=G.jh;obtain⟨gs,cs,e⟩:=U.eG ho zaa;have h:=ho;rw[e]at h;have hr:=Row.range (f:=J.i6) (n:=2) (fun _=>rfl) (aC h (OL _)) (show k<(J.dY S).length by omega);have es:(J.dY S)[k]'(zaa)=((S.getD k U.st0).line,(S.getD k U.st0).depth):=by unfold J.dY;rw[QO,J.getD_eq (show k<S.length by omega)]
  rw[es]at hr;simp only[U.Sl.v,Value.slice.injEq]at e;refine⟨gs,e.1,by have:=hr 0 _ rfl;simpa using this,hr 1 _ rfl,?_⟩
  rcases h.2 with⟨h,_⟩|⟨g',cap',cur,h,_,_,hle,_⟩
  ·cases h
  ·simp at h;rw[e.2.2,h.2,<- hspl];exact hle
 have HRow:Hid (∀k (hk:k<X.length),w.rangeAt g (k*8) [.int .i64 (J.al X[k].s),.string X[k].s.name,.int .i64 X[k].s.depth,.int .i64 X[k].s.up,.slice X[k].vp.a (J.parts S k).length X[k].vp.c,.slice X[k].ve.a X[k].ve.n X[k].ve.c,.slice X[k].vl.a X[k].vl.n X[k].vl.c,.slice X[k].vm.a X[k].vm.n X[k].vm.c]):=fun k hk=>by
  have:=G.uX hk;rw[J.aP,G.Mf hk]at this;exact this
 have HHas:Hid (∀k (hk:k<X.length) w',Below w w w'->() 147 #[db,.agg #[.int .i64 (J.al X[k].s),.string X[k].s.name,.int .i64 X[k].s.depth,.int .i64 X[k].s.up,.slice X[k].vp.a (J.parts S k).length X[k].vp.c,.slice X[k].ve.a X[k].ve.n X[k].ve.c,.slice X[k].vl.a X[k].vl.n X[k].vl.c,.slice X[k].vm.a X[k].vm.n X[k].vm.c]] w' fun e w''=>e=.returned (.bool (dI X (J.parts S k)))/\Below w'.heap.size w' w''):=fun k hk w' hb=>
  nM k (G.aq hb) hk zaa (fun j hj=>by have:=((J.dq S.length).1 hj).1;omega) (Ox (J.mq S k S.length) zaa)
 have HXs:Hid (∀k (hk:k<X.length),J.al X[k].s=J.al (S.getD k U.st0)):=fun k hk=>by
  rw[(rH hX (show k<S.length by omega)).2]
 have HI:Hid _:=I;have HXm:Hid _:=hX;have HXl:Hid _:=Wp;have hXb:X.length<=24:=zaa;clear hX Wp hlen hpn hspl I G Uq hS;go_enter func97,ntmps97;go_wp2
 go_loopg[9] X.length (fun q i wr=>∃k:Nat,q=X.length-k/\k<=X.length/\i=.int .i64 k/\U.dW S k=none/\Below w w wr)
 case atStart=>exact⟨0,rfl,OL _,rfl,rfl,Oy _ _⟩
 case round=>
  obtain⟨k,hq,hk,rfl,hpar,Vt⟩:=hrel;have U5:=Vt.size;by_cases UC:k<X.length
  ·have TS:=HRow.out k UC;have YK:wr.rangeAt g (k*8) [.int .i64 (J.al X[k].s),.string X[k].s.name,.int .i64 X[k].s.depth,.int .i64 X[k].s.up,.slice X[k].vp.a (J.parts S k).length X[k].vp.c,.slice X[k].ve.a X[k].ve.n X[k].ve.c,.slice X[k].vl.a X[k].vl.n X[k].vl.c,.slice X[k].vm.a X[k].vm.n X[k].vm.c]:=fun j v hj=>(OO (w:=w) (Vt.block g UN)).trans (TS j v hj);have HP1:Hid _:=J.CU HI.out HXm.out (k:=k) (by have:=HXl.out;omega) hpar;have hkk:=HXs.out k UC;have HPar:Hid _:=hpar;clear TS hpar;by_cases h1:J.al X[k].s=1
   ·have HH:Hid _:=HHas.out k UC;have HS1:Hid (J.al (S.getD k U.st0)=1):=by unfold Hid;rw[<- hkk];exact h1
    rw[h1]at YK HH;clear hkk h1;go_wp2_with(first
     |(refine PW rfl 188 (.tmp 12) rfl g (k*8) rfl _ _ YK underlying188 rfl cZ ?_)
     |(refine aJ rfl 188 (.tmp 3) (.tmp 13) rfl 188 _ _ rfl rfl cZ rfl rfl ?_))
    have Vw:Below w w (wr.alloc (.cells #[(1:Int),.string X[k].s.name,.int .i64 X[k].s.depth,.int .i64 X[k].s.up,.slice X[k].vp.a (J.parts S k).length X[k].vp.c,.slice X[k].ve.a X[k].ve.n X[k].ve.c,.slice X[k].vl.a X[k].vl.n X[k].vl.c,.slice X[k].vm.a X[k].vm.n X[k].vm.c] 188)):=Vt.alloc U5 _;refine OI (HH.out _ Vw) ?_;rintro e w2 ⟨rfl,TP⟩;have UJ:=Vw.trans (TP.mono Vw.size);clear Vw TP YK;have d1:w2.cell? (db,1)=some (.slice pv.a X.length pv.c):=(OO (w:=w) (UJ.block db UH)).trans c1;cases hp:dI X (J.parts S k) with
    |true=>
     have HN:Hid (U.dW S (k+1)=none):=by unfold Hid;rw[HP1.out,OB (by rw[hp];simp)]
     clear hp;dsimp only;go_wp2
     go_roundg (X.length-(k+1))
     case measure=>omega
     case rel=>exact⟨k+1,rfl,zaa,zag,HN.out,UJ⟩
    |false=>
     have HN:Hid (U.dW S S.length=some (S.getD k U.st0).line):=U.tw (i:=k+1) (by rw[HP1.out,OD ⟨HS1.out,hp⟩]) _ (by have:=HXl.out;omega);obtain⟨gs,hpva,s0,s1,hpc⟩:=HSp.out k UC;have hgs:=OW _ _ s0;have t0:=(OO (w:=w) (w':=w2) (a:=⟨gs,k*2,none⟩) (UJ.block gs hgs)).trans s0;have t1:=(OO (w:=w) (w':=w2) (a:=⟨gs,k*2+1,none⟩) (UJ.block gs hgs)).trans s1;rw[hpva]at d1;clear hp s0 s1 hpva;generalize hln:(S.getD k U.st0).line=ln at *;generalize Z6:(S.getD k U.st0).depth=dp at *;clear hln Z6;dsimp only;go_wp2_with fail;refine(aV ln dp 3 _).mono ?_;rintro e w3 ⟨hb,b,h5,h6,rfl⟩;dsimp only;refine⟨rfl,?_⟩;unfold ry;rw[HN.out];exact⟨UJ.trans (hb.mono UJ.size),b,Ox UJ.size h5,h6,rfl⟩
   ·have HN:Hid (U.dW S (k+1)=none):=by unfold Hid;rw[HP1.out,OB (fun h=>h1 (by rw[hkk];exact h.1))]
    have h1':(J.al X[k].s == 1)=false:=by simpa using h1
    generalize U8:J.al X[k].s=kd at *;clear U8 hkk h1;go_wp2_with(first
     |(refine PW rfl 188 (.tmp 12) rfl g (k*8) rfl _ _ YK underlying188 rfl cZ ?_)
     |(refine aJ rfl 188 (.tmp 3) (.tmp 13) rfl 188 _ _ rfl rfl cZ rfl rfl ?_))
    go_roundg (X.length-(k+1))
    case measure=>omega
    case rel=>exact⟨k+1,rfl,zaa,zag,HN.out,Vt.alloc U5 _⟩
  ·have hke:k=X.length:=zaa;have HN:Hid (U.dW S S.length=none):=by
    have:=hpar;rw[hke,HXl.out]at this;exact this
   clear hpar;go_wp2;go_end0;unfold ry;rw[HN.out];exact⟨rfl,Vt⟩
