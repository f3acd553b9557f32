import Derived.Test.YtobhbhmjajobjaaGreatDoorM13
set_option maxRecDepth 100000
set_option maxHeartbeats 8000000
namespace Go.Proofs.YtobhbhmjajobjaaGreatDoor
variable {zp:Prop}
theorem zcz (h:zp:=by
 go_simp;refine hK _ _ ?_;clear hK K;refine yA [1,7] ?_;refine MA rfl (fun K hK => ?_) (MA rfl (fun K hK => ?_) MX)
 ·go_simp;refine hK _ _ ?_;clear hK K;refine zA 7 rfl fun K hK => ?_
  ·go_simp;refine HC.out.mono ?_;rintro e w4 h4;unfold aA at h4;rw [Mz hh] at h4;obtain ⟨rfl,hb4⟩:=h4;obtain ⟨cx,fx,q0,q1,q2⟩:=HF.out w4 hb4;dsimp only;refine hK _ _ ?_;clear hK K;refine tA 8 (.pointer (some ⟨g,u*8,none⟩)) rfl ?_;refine tA 9 (.pointer (some ⟨g,u*8+6,none⟩)) rfl ?_;refine zA 10 rfl fun K hK => ?_;go_simp;refine (bG num dep a n c g (u*8+6) _ _ _ cx h2).mono ?_;exact zfA
 ·go_simp;refine HC.out.mono ?_;rintro e w4 h4;unfold aA at h4;rw [Mz hh] at h4;obtain ⟨rfl,hb4⟩:=h4;obtain ⟨cx,fx,q0,q1,q2⟩:=HF.out w4 hb4;dsimp only;refine hK _ _ ?_;clear hK K;refine tA 8 (.pointer (some ⟨g,u*8,none⟩)) rfl ?_;refine tA 9 (.pointer (some ⟨g,u*8+6,none⟩)) rfl ?_;refine zA 1 rfl fun K hK => ?_;go_simp;refine hK _ _ ?_;clear hK K;refine zA 10 rfl fun K hK => ?_;go_simp;refine (bG num dep a n c g (u*8+6) _ _ _ cx h2).mono ?_;rintro e w5 ⟨hb,b,h5,h6,rfl⟩;dsimp only;exact ⟨rfl,(hb1.trans (hb4.mono hb1.size)).trans (hb.mono (Mv hb1.size hb4.size)),b,Mv (Mv hb1.size hb4.size) h5,h6,rfl⟩):zp:=h
theorem zcB (h:zp:=by
 go_simp;refine hK _ _ ?_;clear hK K;refine yA [1,7] ?_;refine MA rfl (fun K hK => ?_) (MA rfl (fun K hK => ?_) MX)
 ·go_simp;refine hK _ _ ?_;clear hK K;refine zA 7 rfl fun K hK => ?_
  ·go_simp;refine HC.out.mono ?_;rintro e w4 h4;unfold aA at h4;rw [Mz hh] at h4;obtain ⟨rfl,hb4⟩:=h4;obtain ⟨cx,fx,q0,q1,q2⟩:=HF.out w4 hb4;dsimp only;refine hK _ _ ?_;clear hK K;refine tA 8 (.pointer (some ⟨g,u*8,none⟩)) rfl ?_;refine tA 9 (.pointer (some ⟨g,u*8+6,none⟩)) rfl ?_;refine zA 10 rfl fun K hK => ?_;go_simp;refine (bs num dep a n c g (u*8+6) _ _ cx fx).mono ?_;exact zfB
 ·go_simp;refine HC.out.mono ?_;rintro e w4 h4;unfold aA at h4;rw [Mz hh] at h4;obtain ⟨rfl,hb4⟩:=h4;obtain ⟨cx,fx,q0,q1,q2⟩:=HF.out w4 hb4;dsimp only;refine hK _ _ ?_;clear hK K;refine tA 8 (.pointer (some ⟨g,u*8,none⟩)) rfl ?_;refine tA 9 (.pointer (some ⟨g,u*8+6,none⟩)) rfl ?_;refine zA 1 rfl fun K hK => ?_;go_simp;refine hK _ _ ?_;clear hK K;refine zA 10 rfl fun K hK => ?_;go_simp;refine (bs num dep a n c g (u*8+6) _ _ cx fx).mono ?_;rintro e w5 ⟨rfl,hb5⟩;have G5:=HG.out w4 w5 hb4 hb5;dsimp only;refine hK _ _ ?_;clear hK K;refine NY zab ?_ _;go_wp2;go_end0;exact ⟨rfl,G5⟩):zp:=h
theorem zcM (h:zp:=by
 go_simp;refine hK _ _ ?_;clear hK K;refine zA 5 rfl fun K hK => ?_
 ·go_simp;refine hK _ _ ?_;clear hK K;refine zA 7 rfl fun K hK => ?_
  ·go_simp;refine HC.out.mono ?_;rintro e w4 h4;unfold aA at h4;rw [Mz hh] at h4;obtain ⟨rfl,hb4⟩:=h4;obtain ⟨cx,fx,q0,q1,q2⟩:=HF.out w4 hb4;dsimp only;refine hK _ _ ?_;clear hK K;refine tA 8 (.pointer (some ⟨g,u*8,none⟩)) rfl ?_;refine tA 9 (.pointer (some ⟨g,u*8+6,none⟩)) rfl ?_;refine zA 10 rfl fun K hK => ?_;go_simp;refine (bG num dep a n c g (u*8+6) _ _ _ cx h2).mono ?_;rintro e w5 ⟨hb,b,h5,h6,rfl⟩;dsimp only;exact ⟨rfl,(hb1.trans (hb4.mono hb1.size)).trans (hb.mono (Mv hb1.size hb4.size)),b,Mv (Mv hb1.size hb4.size) h5,h6,rfl⟩):zp:=h
theorem zcO (h:zp:=by
 go_simp;refine hK _ _ ?_;clear hK K;refine zA 6 rfl fun K hK => ?_
 ·go_simp;refine hK _ _ ?_;clear hK K;refine zA 7 rfl fun K hK => ?_
  ·go_simp;refine HC.out.mono ?_;rintro e w4 h4;unfold aA at h4;rw [Mz hh] at h4;obtain ⟨rfl,hb4⟩:=h4;obtain ⟨cx,fx,q0,q1,q2⟩:=HF.out w4 hb4;dsimp only;refine hK _ _ ?_;clear hK K;refine tA 8 (.pointer (some ⟨g,u*8,none⟩)) rfl ?_;refine tA 9 (.pointer (some ⟨g,u*8+6,none⟩)) rfl ?_;refine zA 10 rfl fun K hK => ?_;go_simp;refine (bG num dep a n c g (u*8+6) _ _ _ cx h2).mono ?_;rintro e w5 ⟨hb,b,h5,h6,rfl⟩;dsimp only;exact ⟨rfl,(hb1.trans (hb4.mono hb1.size)).trans (hb.mono (Mv hb1.size hb4.size)),b,Mv (Mv hb1.size hb4.size) h5,h6,rfl⟩):zp:=h
theorem zcS (h:zp:=by
 go_simp;refine hK _ _ ?_;clear hK K;refine zA 5 rfl fun K hK => ?_
 ·go_simp;refine hK _ _ ?_;clear hK K;refine zA 7 rfl fun K hK => ?_
  ·go_simp;refine HC.out.mono ?_;rintro e w4 h4;unfold aA at h4;rw [Mz hh] at h4;obtain ⟨rfl,hb4⟩:=h4;obtain ⟨cx,fx,q0,q1,q2⟩:=HF.out w4 hb4;dsimp only;refine hK _ _ ?_;clear hK K;refine tA 8 (.pointer (some ⟨g,u*8,none⟩)) rfl ?_;refine tA 9 (.pointer (some ⟨g,u*8+6,none⟩)) rfl ?_;refine zA 10 rfl fun K hK => ?_;go_simp;refine (bs num dep a n c g (u*8+6) _ _ cx fx).mono ?_;rintro e w5 ⟨rfl,hb5⟩;have G5:=HG.out w4 w5 hb4 hb5;dsimp only;refine hK _ _ ?_;clear hK K;refine NY zab ?_ _;go_wp2;go_end0;exact ⟨rfl,G5⟩):zp:=h
theorem zcU (h:zp:=by
 go_simp;refine hK _ _ ?_;clear hK K;refine zA 6 rfl fun K hK => ?_
 ·go_simp;refine hK _ _ ?_;clear hK K;refine zA 7 rfl fun K hK => ?_
  ·go_simp;refine HC.out.mono ?_;rintro e w4 h4;unfold aA at h4;rw [Mz hh] at h4;obtain ⟨rfl,hb4⟩:=h4;obtain ⟨cx,fx,q0,q1,q2⟩:=HF.out w4 hb4;dsimp only;refine hK _ _ ?_;clear hK K;refine tA 8 (.pointer (some ⟨g,u*8,none⟩)) rfl ?_;refine tA 9 (.pointer (some ⟨g,u*8+6,none⟩)) rfl ?_;refine zA 10 rfl fun K hK => ?_;go_simp;refine (bs num dep a n c g (u*8+6) _ _ cx fx).mono ?_;rintro e w5 ⟨rfl,hb5⟩;have G5:=HG.out w4 w5 hb4 hb5;dsimp only;refine hK _ _ ?_;clear hK K;refine NY zab ?_ _;go_wp2;go_end0;exact ⟨rfl,G5⟩):zp:=h
theorem zc8 (h:zp:=by
 obtain ⟨k,h0,h4,hw,hd⟩:=h;rw [fD h0 h4 hw hd,hw];have hk:k=0\/k=1\/k=2\/k=3\/k=4:=zaa
 rcases hk with rfl | rfl | rfl | rfl | rfl
 ·rw [show bu 0=kU from rfl,iO];rfl
 ·rw [show bu 1=fA from rfl,eZ];rfl
 ·rw [show bu 2=kT from rfl,iH];rfl
 ·rw [show bu 3=da from rfl,bR];rfl
 ·rw [show bu 4=da from rfl,bR];rfl):zp:=h
theorem zda (h:zp:=by
 intro w4 hb4;have hbg:=(hb1.trans (hb4.mono hb1.size)).block g hgl;have hbw:w4.heap[w.heap.size]?=some (.cells #[(num:Int),(dep:Int),.slice a n c] 364 (0,0)):=by
  rw [hb4.block w hlw,NI _ _ _ zad];exact MD w _
 refine ⟨(MK hbg).trans cv,(Pk hbg).trans hfz,?_,?_,?_⟩ <;> rw [My w4 _ _ _ _ _ hbw] <;> rfl):zp:=h
theorem zdd (h:zp:=by
 simp only [Int.toNat_natCast];rw [Mz zaa,Mz zaa,iF hw];simp only [he];obtain ⟨r0,r4⟩:=ka hw;have hk:ao (S.getD u Ref.st0)=0\/ao (S.getD u Ref.st0)=1\/ao (S.getD u Ref.st0)=2\/ao (S.getD u Ref.st0)=3\/ao (S.getD u Ref.st0)=4:=zaa
 rcases hk with e | e | e | e | e <;> rw [e] <;> simp [du,aE]):zp:=h
theorem zdP (h:zp:=by
 have:=MD ((w.alloc (.cells #[(num:Int),(dep:Int),.slice a n c] 364)).drew) (.cells #[(3:Int),(4:Int)] 159);simpa using this):zp:=h
theorem zec (h:zp:=by
 rw [O3] at h1;obtain ⟨y,hy,hy2⟩:=h1;show List.any _ _=true;rw [O3];exact ⟨y,O8 hy,hy2⟩):zp:=h
theorem zeZ (h:zp:=by
 rw [hup];rcases how2 with h | ⟨u,h,_⟩ <;> omega):zp:=h
theorem zfh (h:zp:=by
 rintro ⟨h1,h2⟩;exact ⟨zaa,h2⟩):zp:=h
theorem zfi (h:zp:=by
 unfold Ref.gj;rw [<- hxs];exact this):zp:=h
theorem zfj (h:zp:=by
 have h:=hno;rw [hkl,NO] at h;exact h):zp:=h
theorem zan (h:zp:=by rw [hns]):zp:=h
theorem zaB (h:zp:=by rw [hxs];exact hb):zp:=h
theorem zaG (h:zp:=by rw [<- hX,MH]):zp:=h
theorem za3 (h:zp:=by rw [MH];omega):zp:=h
open Tryz
variable {S S':List Ref.State} {s s':Ref.State} {i k d u num j:Nat} {n:ByteArray} {A:List Ref.Act}
section
open Go.RowKit
variable {w0 w:World} {db mb nm:Nat} {sv pv ov:Ref.Sl} {tm:Bool} {X:List Pro.DS} {SP:List (Int×Int)} {O:List Nat} {PT:Nat->List Nat} {D:DataW Nat}
theorem kJ (num:Int) (dep:Nat) (a:Option Addr) (n c:Nat) (G:aq w0 w db sv pv ov mb tm X SP O PT nm D) (h:dep=0\/O.length<dep) (hd:dep<=1073741824) :
  () 363 #[.agg #[(num:Int),(dep:Int),.slice a n c],db] w (aY 3 num w):=by
 have hdl:=G.dlt;go_enter func363,ntmps363
 go_upto_region 1 with fail
 have hb1:Below w w (((w.alloc (.cells #[(num:Int),(dep:Int),.slice a n c] 364)).drew).alloc (.cells #[(3:Int),(4:Int)] 159)):=((Mw _ _).alloc (Mt _) _).drew.alloc zad _;have G1:=G.ak hb1;refine Oh zab ?_;change wpAny _ _ _ _ _ _ _ (World.drew _);refine tA 0 w rfl ?_;refine tA 2 db rfl ?_;refine tA 3 w rfl ?_;refine tA 4 w rfl ?_;refine yA [1,5,6] ?_;refine MA rfl (fun K hK => ?_) (MA rfl (fun K hK => ?_) (MA rfl (fun K hK => ?_) MX))
 ·exact zcK
 ·exact zcI
 ·exact zcH
theorem qe (num:Int) (dep:Nat) (a:Option Addr) (n c:Nat) (k u g cap:Nat) (G:aq w0 w db ⟨some ⟨g,0,none⟩,X.length,cap⟩ pv ov mb tm X SP O PT nm D) (hk:k<O.length) (hd:dep=k+1) (hO:O.length<=1073741824) (hku:O[k]=u) (hu:u<X.length) (hh:Pro.ao X[u].s∈([3,4]:List Int)) :
  () 363 #[.agg #[(num:Int),(dep:Int),.slice a n c],db] w (aY 3 num w):=by
 have hdl:=G.dlt;have hb1:Below w w (((w.alloc (.cells #[(num:Int),(dep:Int),.slice a n c] 364)).drew).alloc (.cells #[(3:Int),(4:Int)] 159)):=((Mw _ _).alloc (Mt _) _).drew.alloc zad _;have hkb:(((w.alloc (.cells #[(num:Int),(dep:Int),.slice a n c] 364)).drew).alloc (.cells #[(3:Int),(4:Int)] 159)).heap[w.heap.size+1]?=some (.cells (([3,4]:List Int).map (Value.int .i64)).toArray 159 (0,0)):=by
  exact zdP
 have HC:Hid (() 359 #[db,.agg #[(num:Int),(dep:Int)],.slice (some ⟨w.heap.size+1,0,none⟩) 2 2] (((w.alloc (.cells #[(num:Int),(dep:Int),.slice a n c] 364)).drew).alloc (.cells #[(3:Int),(4:Int)] 159)) (aA num (Pro.ao X[u].s) [3,4] ⟨g,u*8,none⟩ (((w.alloc (.cells #[(num:Int),(dep:Int),.slice a n c] 364)).drew).alloc (.cells #[(3:Int),(4:Int)] 159)))):=cX num dep k u [3,4] (w.heap.size+1) g cap (G.ak hb1) hk hd hO hku hu hkb zac;clear hd hku hk hO hkb;go_enter func363,ntmps363
 go_upto_region 1 with fail
 refine Oh zab ?_;change wpAny _ _ _ _ _ _ _ (World.drew _);refine tA 0 w rfl ?_;refine tA 2 db rfl ?_;refine tA 3 w rfl ?_;refine tA 4 w rfl ?_;refine yA [1,5,6] ?_;refine MA rfl (fun K hK => ?_) (MA rfl (fun K hK => ?_) (MA rfl (fun K hK => ?_) MX))
 ·exact zcJ
 ·exact zcE
 ·exact zcD
theorem pw (num:Int) (dep:Nat) (a:Option Addr) (n c:Nat) (k u g cap:Nat) (G:aq w0 w db ⟨some ⟨g,0,none⟩,X.length,cap⟩ pv ov mb tm X SP O PT nm D) (hk:k<O.length) (hd:dep=k+1) (hO:O.length<=1073741824) (hku:O[k]=u) (hu:u<X.length) (hh:¬ Pro.ao X[u].s∈([3,4]:List Int)) (h2:0<X[u].vl.n) :
  () 363 #[.agg #[(num:Int),(dep:Int),.slice a n c],db] w (aY 3 num w):=by
 have hdl:=G.dlt;have hb1:Below w w (((w.alloc (.cells #[(num:Int),(dep:Int),.slice a n c] 364)).drew).alloc (.cells #[(3:Int),(4:Int)] 159)):=((Mw _ _).alloc (Mt _) _).drew.alloc zad _;have hkb:(((w.alloc (.cells #[(num:Int),(dep:Int),.slice a n c] 364)).drew).alloc (.cells #[(3:Int),(4:Int)] 159)).heap[w.heap.size+1]?=some (.cells (([3,4]:List Int).map (Value.int .i64)).toArray 159 (0,0)):=by
  exact zdP
 have HC:Hid (() 359 #[db,.agg #[(num:Int),(dep:Int)],.slice (some ⟨w.heap.size+1,0,none⟩) 2 2] (((w.alloc (.cells #[(num:Int),(dep:Int),.slice a n c] 364)).drew).alloc (.cells #[(3:Int),(4:Int)] 159)) (aA num (Pro.ao X[u].s) [3,4] ⟨g,u*8,none⟩ (((w.alloc (.cells #[(num:Int),(dep:Int),.slice a n c] 364)).drew).alloc (.cells #[(3:Int),(4:Int)] 159)))):=cX num dep k u [3,4] (w.heap.size+1) g cap (G.ak hb1) hk hd hO hku hu hkb zac;obtain ⟨hcap,hgl,hg0⟩:=G.tz;have hrng:=G.tW hu;have hfz:w.frozen? ⟨g,u*8+6,none⟩=false:=N5 (aD G.states (MJ _)) _;have cv:w.cell? ⟨g,u*8+6,none⟩=some (.slice X[u].vl.a X[u].vl.n X[u].vl.c):=hrng 6 _ rfl;have hlw:w.heap.size<(((w.alloc (.cells #[(num:Int),(dep:Int),.slice a n c] 364)).drew).alloc (.cells #[(3:Int),(4:Int)] 159)).heap.size:=zaf;have HF:Hid (∀ w4,Below (((w.alloc (.cells #[(num:Int),(dep:Int),.slice a n c] 364)).drew).alloc (.cells #[(3:Int),(4:Int)] 159)).heap.size (((w.alloc (.cells #[(num:Int),(dep:Int),.slice a n c] 364)).drew).alloc (.cells #[(3:Int),(4:Int)] 159)) w4->w4.cell? ⟨g,u*8+6,none⟩=some (.slice X[u].vl.a X[u].vl.n X[u].vl.c)/\w4.frozen? ⟨g,u*8+6,none⟩=false/\w4.cell? w=some ↑(num:Int)/\w4.cell? ⟨w,1,none⟩=some ↑(dep:Int)/\w4.cell? ⟨w,2,none⟩=some (.slice a n c)):=by
  exact zda
 clear cv hfz hrng;clear hd hku hk hO hkb;go_enter func363,ntmps363
 go_upto_region 1 with fail
 refine Oh zab ?_;change wpAny _ _ _ _ _ _ _ (World.drew _);refine tA 0 w rfl ?_;refine tA 2 db rfl ?_;refine tA 3 w rfl ?_;refine tA 4 w rfl ?_;refine yA [1,5,6] ?_;refine MA rfl (fun K hK => ?_) (MA rfl (fun K hK => ?_) (MA rfl (fun K hK => ?_) MX))
 ·go_simp;refine hK _ _ ?_;clear hK K;refine yA [5,6] ?_;refine MA rfl (fun K hK => ?_) (MA rfl (fun K hK => ?_) MX)
  ·exact zcO
  ·exact zcM
 ·go_simp;refine hK _ _ ?_;clear hK K;refine yA [1,6] ?_;refine MA rfl (fun K hK => ?_) (MA rfl (fun K hK => ?_) MX)
  ·exact zcO
  ·exact zcz
 ·go_simp;refine hK _ _ ?_;clear hK K;refine yA [1,5] ?_;refine MA rfl (fun K hK => ?_) (MA rfl (fun K hK => ?_) MX)
  ·exact zcM
  ·exact zcz
theorem rW (num:Int) (dep:Nat) (a:Option Addr) (n c:Nat) (k u g cap:Nat) (G:aq w0 w db ⟨some ⟨g,0,none⟩,X.length,cap⟩ pv ov mb tm X SP O PT nm D) (hk:k<O.length) (hd:dep=k+1) (hO:O.length<=1073741824) (hku:O[k]=u) (hu:u<X.length) (hh:¬ Pro.ao X[u].s∈([3,4]:List Int)) (h2:X[u].vl.n=0) (A:List Ref.Act) (hA:w0.ownsRow 0 251 1 (.slice a n c) A.length (A.map bh)) :
  () 363 #[.agg #[(num:Int),(dep:Int),.slice a n c],db] w fun e w'=>e = .returned (.tuple #[])/\aq w0 w' db ⟨some ⟨g,0,none⟩,X.length,cap⟩ pv ov mb tm (X.set u (Pro.gE X[u] num A ⟨a,n,c⟩)) SP O PT nm D:=by
 have hdl:=G.dlt;have hb1:Below w w (((w.alloc (.cells #[(num:Int),(dep:Int),.slice a n c] 364)).drew).alloc (.cells #[(3:Int),(4:Int)] 159)):=((Mw _ _).alloc (Mt _) _).drew.alloc zad _;have hkb:(((w.alloc (.cells #[(num:Int),(dep:Int),.slice a n c] 364)).drew).alloc (.cells #[(3:Int),(4:Int)] 159)).heap[w.heap.size+1]?=some (.cells (([3,4]:List Int).map (Value.int .i64)).toArray 159 (0,0)):=by
  exact zdP
 have HC:Hid (() 359 #[db,.agg #[(num:Int),(dep:Int)],.slice (some ⟨w.heap.size+1,0,none⟩) 2 2] (((w.alloc (.cells #[(num:Int),(dep:Int),.slice a n c] 364)).drew).alloc (.cells #[(3:Int),(4:Int)] 159)) (aA num (Pro.ao X[u].s) [3,4] ⟨g,u*8,none⟩ (((w.alloc (.cells #[(num:Int),(dep:Int),.slice a n c] 364)).drew).alloc (.cells #[(3:Int),(4:Int)] 159)))):=cX num dep k u [3,4] (w.heap.size+1) g cap (G.ak hb1) hk hd hO hku hu hkb zac;obtain ⟨hcap,hgl,hg0⟩:=G.tz;have hrng:=G.tW hu;have hfz:w.frozen? ⟨g,u*8+6,none⟩=false:=N5 (aD G.states (MJ _)) _;have cv:w.cell? ⟨g,u*8+6,none⟩=some (.slice X[u].vl.a X[u].vl.n X[u].vl.c):=hrng 6 _ rfl;have hlw:w.heap.size<(((w.alloc (.cells #[(num:Int),(dep:Int),.slice a n c] 364)).drew).alloc (.cells #[(3:Int),(4:Int)] 159)).heap.size:=zaf;have HF:Hid (∀ w4,Below (((w.alloc (.cells #[(num:Int),(dep:Int),.slice a n c] 364)).drew).alloc (.cells #[(3:Int),(4:Int)] 159)).heap.size (((w.alloc (.cells #[(num:Int),(dep:Int),.slice a n c] 364)).drew).alloc (.cells #[(3:Int),(4:Int)] 159)) w4->w4.cell? ⟨g,u*8+6,none⟩=some (.slice X[u].vl.a X[u].vl.n X[u].vl.c)/\w4.frozen? ⟨g,u*8+6,none⟩=false/\w4.cell? w=some ↑(num:Int)/\w4.cell? ⟨w,1,none⟩=some ↑(dep:Int)/\w4.cell? ⟨w,2,none⟩=some (.slice a n c)):=by
  exact zda
 have HG:Hid (∀ w4 w5,Below (((w.alloc (.cells #[(num:Int),(dep:Int),.slice a n c] 364)).drew).alloc (.cells #[(3:Int),(4:Int)] 159)).heap.size (((w.alloc (.cells #[(num:Int),(dep:Int),.slice a n c] 364)).drew).alloc (.cells #[(3:Int),(4:Int)] 159)) w4->Below w4.heap.size (w4.setCell ⟨g,u*8+6,none⟩ (.slice a n c)) w5->aq w0 w5 db ⟨some ⟨g,0,none⟩,X.length,cap⟩ pv ov mb tm (X.set u (Pro.gE X[u] num A ⟨a,n,c⟩)) SP O PT nm D):=by
  intro w4 w5 hb4 hb5;have hw4:=hb1.trans (hb4.mono hb1.size);have h:=G.CZ (v':=⟨a,n,c⟩) (x':=Pro.gE X[u] num A ⟨a,n,c⟩) (j:=6) hw4 hu zac rfl rfl rfl rfl (G.deep u hu).enter hA;exact h.ak (hb5.mono zad)
 rw [h2] at HF;clear cv hfz hrng h2;clear hd hku hk hO hkb;go_enter func363,ntmps363
 go_upto_region 1 with fail
 refine Oh zab ?_;change wpAny _ _ _ _ _ _ _ (World.drew _);refine tA 0 w rfl ?_;refine tA 2 db rfl ?_;refine tA 3 w rfl ?_;refine tA 4 w rfl ?_;refine yA [1,5,6] ?_;refine MA rfl (fun K hK => ?_) (MA rfl (fun K hK => ?_) (MA rfl (fun K hK => ?_) MX))
 ·go_simp;refine hK _ _ ?_;clear hK K;refine yA [5,6] ?_;refine MA rfl (fun K hK => ?_) (MA rfl (fun K hK => ?_) MX)
  ·exact zcU
  ·exact zcS
 ·go_simp;refine hK _ _ ?_;clear hK K;refine yA [1,6] ?_;refine MA rfl (fun K hK => ?_) (MA rfl (fun K hK => ?_) MX)
  ·exact zcU
  ·exact zcB
 ·go_simp;refine hK _ _ ?_;clear hK K;refine yA [1,5] ?_;refine MA rfl (fun K hK => ?_) (MA rfl (fun K hK => ?_) MX)
  ·exact zcS
  ·exact zcB
namespace Pro
def fH (S:List Ref.State):Nat->List Nat
 | 0=>[]
 | k+1=>(fH S k).take (S.getD k Ref.st0).depth.toNat++[k]
def opn (S:List Ref.State):List Nat:=fH S S.length
def Val (S:List Ref.State):Prop:=∀ k,k<S.length->0<=(S.getD k Ref.st0).depth/\(S.getD k Ref.st0).depth.toNat<=(fH S k).length
theorem gQ {S S':List Ref.State}:∀ k,(∀ i,i<k->(S.getD i Ref.st0).depth=(S'.getD i Ref.st0).depth)->fH S k=fH S' k
 | 0,_=>rfl
 | k+1,h=>by rw [fH,fH,gQ k (fun i hi=>h i zaa),h k zaa]
theorem H7 {S:List Ref.State} (hV:Val S) (dn:Nat) (hd:0<dn):∀ k,k<=S.length->Ref.ga S dn k=match (fH S k)[dn-1]? with | some i=>(i:Int) | none => -1
 | 0,_=>by simp [Ref.ga,fH]
 | k+1,hk=>by
  have ih:=H7 hV dn hd k zaa;obtain ⟨h0,h1⟩:=hV k zaa;obtain ⟨e,he⟩:∃ e:Nat,(S.getD k Ref.st0).depth=e:=⟨(S.getD k Ref.st0).depth.toNat,zaa⟩;rw [he] at h1;simp only [Int.toNat_natCast] at h1;rw [Ref.ga,fH,he];simp only [Int.toNat_natCast];have hl:((fH S k).take e).length=e:=by rw [NP];omega
  by_cases h2:(e:Int)=dn-1
  ·rw [MB h2,NM zaa,hl];have:dn-1-e=0:=zaa;rw [this];rfl
  ·rw [Mz h2];by_cases h3:(e:Int)<dn-1
   ·rw [MB h3,M4 (by rw [MN,hl];simp;omega)]
   ·rw [Mz h3,ih,NG zaa,PU,MB zaa]
theorem lQ (hV:Val S) (dn:Nat):Ref.dv S dn=if dn=0 then -1 else match (opn S)[dn-1]? with | some i=>(i:Int) | none => -1:=by
 unfold Ref.dv;by_cases h:dn=0
 ·subst h;rfl
 ·rw [Mz h,MB zaa,H7 hV dn zaa S.length (Mt _)];rfl
theorem eG (S:List Ref.State):∀ k,∀ i∈fH S k,i<k
 | 0,i,h=>by simp [fH] at h
 | k+1,i,h=>by
  rw [fH] at h
  rcases MU.1 h with h | h
  ·have:=eG S k i (O8 h);omega
  ·rw [ME.1 h];omega
theorem jM (S:List Ref.State):∀ k,(fH S k).length<=k
 | 0=>by simp [fH]
 | k+1=>by
  have:=jM S k;rw [fH,MN,NP];simp;omega
theorem bo (h:i<S.length):(S++[s]).getD i Ref.st0=S.getD i Ref.st0:=by
 rw [MI,MI,NG h]
theorem cY:(S++[s]).getD S.length Ref.st0=s:=by
 rw [MI,NM (Mt _)];simp
theorem BM (S:List Ref.State) (s:Ref.State):opn (S++[s])=(opn S).take s.depth.toNat++[S.length]:=by
 unfold opn;rw [MN,show S.length+[s].length=S.length+1 from rfl,fH,cY,gQ (S':=S) S.length (fun i hi=>by rw [bo hi])]
theorem Cp (hV:Val S) (h0:0<=s.depth) (h1:s.depth.toNat<=(opn S).length):Val (S++[s]):=by
 intro k hk;by_cases h:k<S.length
 ·rw [bo h,gQ (S':=S) k (fun i hi=>by rw [bo zaa])];exact hV k h
 ·have e:k=S.length:=by simp at hk;omega
  subst e;rw [cY,gQ (S':=S) S.length (fun i hi=>by rw [bo hi])];exact ⟨h0,h1⟩
def b8 (S:List Ref.State) (i:Nat):Nat->List Nat
 | 0=>[]
 | k+1=>if (S.getD k Ref.st0).up=i then b8 S i k++[k] else b8 S i k
def parts (S:List Ref.State) (i:Nat):List Nat:=b8 S i S.length
theorem jq {S S':List Ref.State} (i:Nat):∀ k,(∀ j,j<k->(S.getD j Ref.st0).up=(S'.getD j Ref.st0).up)->b8 S i k=b8 S' i k
 | 0,_=>rfl
 | k+1,h=>by rw [b8,b8,jq i k (fun j hj=>h j zaa),h k zaa]
theorem xt (S:List Ref.State) (s:Ref.State) (i:Nat):parts (S++[s]) i=if (i:Int)=s.up then parts S i++[S.length] else parts S i:=by
 unfold parts;rw [MN,show S.length+[s].length=S.length+1 from rfl,b8,cY,jq (S':=S) i S.length (fun j hj=>by rw [bo hj])];by_cases h:s.up=i
 ·rw [MB h,MB h.symm]
 ·rw [Mz h,Mz (fun e=>h e.symm)]
theorem lG (S:List Ref.State) (i:Nat):∀ k,(b8 S i k).length<=k
 | 0=>by simp [b8]
 | k+1=>by
  have:=lG S i k;rw [b8];split
  ·rw [MN];simp;omega
  ·omega
theorem ox {S:List Ref.State} {i:Nat}:∀ k,(∀ j,j<k->(S.getD j Ref.st0).up≠i)->b8 S i k=[]
 | 0,_=>rfl
 | k+1,h=>by rw [b8,Mz (h k zaa),ox k (fun j hj=>h j zaa)]
theorem iC {S:List Ref.State} {i x:Nat}:∀ k,x∈b8 S i k↔x<k/\(S.getD x Ref.st0).up=i
 | 0=>by simp [b8]
 | k+1=>by
  have ih:=iC (S:=S) (i:=i) (x:=x) k;rw [b8];by_cases h:(S.getD k Ref.st0).up=i
  ·rw [MB h,MU,ih,ME];constructor
   ·rintro (⟨h1,h2⟩ | rfl)
    ·exact ⟨zaa,h2⟩
    ·exact ⟨zaa,h⟩
   ·rintro ⟨h1,h2⟩;by_cases e:x=k
    ·exact .inr e
    ·exact .inl ⟨zaa,h2⟩
  ·rw [Mz h,ih];constructor
   ·exact zfh
   ·rintro ⟨h1,h2⟩;have:x≠k:=by rintro rfl;exact h h2
    exact ⟨zaa,h2⟩
def gX (s:Ref.State):Prop:=∃ k:Int,0<=k/\k<=4/\s.word=bu k/\s.deep=decide (k=4)
theorem fD {k:Int} (h0:0<=k) (h4:k<=4) (hw:s.word=bu k) (hd:s.deep=decide (k=4)):ao s=k:=by
 have hk:k=0\/k=1\/k=2\/k=3\/k=4:=zaa;unfold ao;rw [hw,hd]
 rcases hk with rfl | rfl | rfl | rfl | rfl
 ·rw [show bu 0=kU from rfl,iO];rfl
 ·rw [show bu 1=fA from rfl,eZ];rfl
 ·rw [show bu 2=kT from rfl,iH];rfl
 ·rw [show bu 3=da from rfl,bR];rfl
 ·rw [show bu 4=da from rfl,bR];rfl
theorem iF (h:gX s):(s.word.toList == Ref.bj)=du (ao s):=by
 exact zc8
theorem nz (h:gX s):(s.word.toList == Ref.bX)=decide (ao s=2):=by
 exact zc8
theorem Ao (h:gX s):(s.word.toList == Ref.aM)=decide (ao s=1):=by
 exact zc8
theorem ka (h:gX s):0<=ao s/\ao s<=4:=by
 obtain ⟨k,h0,h4,hw,hd⟩:=h;rw [fD h0 h4 hw hd];exact ⟨h0,h4⟩
structure Inv (S:List Ref.State) (i:Nat):Prop where
 val:Val S
 words:∀ s∈S,gX s
 len:S.length<=24
 up:∀ k,k<S.length -> -1<=(S.getD k Ref.st0).up/\(S.getD k Ref.st0).up<k
 enter:∀ s∈S,(0<s.has0↔s.enter≠[])
 leave:∀ s∈S,(0<s.has1↔s.leave≠[])
 aj:∀ s∈S,s.aj.length<=i
theorem Inv.nil:Inv [] 0:=⟨fun k h=>absurd h zad,fun s h=>absurd h zad,zad,fun k h=>absurd h zad,fun s h=>absurd h zad,fun s h=>absurd h zad,fun s h=>absurd h zad⟩
theorem aZ (h:k<S.length):S.getD k Ref.st0∈S:=by
 rw [MI,Mu h];exact Ns h
theorem getD_eq (h:k<S.length):S.getD k Ref.st0=S[k]:=by
 rw [MI,Mu h];rfl
theorem Da (hI:Inv S i) (hk:k<(opn S).length):Ref.dv S ((k+1:Nat):Int)=((opn S)[k]:Int)/\(opn S)[k]<S.length:=by
 refine ⟨?_,eG S S.length _ (Ns hk)⟩;rw [lQ hI.val,Mz zaa];rw [show k+1-1=k from rfl,Mu hk]
theorem J8 (hI:Inv S i) (h:(opn S).length<d):Ref.dv S (d:Int) = -1:=by
 rw [lQ hI.val,Mz zaa,M4 zaa]
theorem xg (S:List Ref.State) (u:Nat):Ref.sg (S.map Ref.emb) (u:Int)=(parts S u).isEmpty:=by
 unfold Ref.sg parts;cases h:(b8 S u S.length).isEmpty
 ·have hne:b8 S u S.length≠[]:=fun e=>by rw [e] at h;cases h
  obtain ⟨x,t,e⟩:=P9 hne;have hx:x∈b8 S u S.length:=by rw [e];exact Nk
  obtain ⟨h1,h2⟩:=(iC S.length).1 hx;rw [Qp];exact ⟨Ref.emb (S.getD x Ref.st0),OH (aZ h1),by
   show ¬ (!decide ((S.getD x Ref.st0).up=(u:Int)))=true;rw [NC h2];simp⟩
 ·have hn:b8 S u S.length=[]:=Pm.1 h;rw [Pl];intro y hy;obtain ⟨s,hs,rfl⟩:=Ni.1 hy;obtain ⟨k,hk,rfl⟩:=OW hs;have:¬ k∈b8 S u S.length:=by rw [hn];simp
  rw [iC,getD_eq hk] at this;simp only [Ref.emb,Bool.not_eq_true'];exact No fun e=>this ⟨hk,e⟩
theorem H6 (h:u<S.length):(Ref.Cn (S.map Ref.emb) (u:Int)).s=S[u]:=by
 unfold Ref.Cn;rw [O9,MI,MF,Mu h];rfl
theorem I4 (hI:Inv S i) {ns:Ref.State} (hns:gX ns) {dep:Nat} (hdep:ns.depth=dep) {X:List DS} (hX:X.map (·.s)=S) (how:ns.up = -1\/∃ u:Nat,ns.up=u/\u<S.length) :
  Ref.fits (S.map Ref.emb) (Ref.emb ns)=(!decide (X.length=24)&&(!decide (5<dep)&&(if ns.up<0 then !du (ao ns) else match X[ns.up.toNat]? with | some x=>holds x (parts S ns.up.toNat) (ao ns) | none=>false))):=by
 have hXl:X.length=S.length:=zaG;unfold Ref.fits;rw [MH,hXl];have hw:=iF hns;have hf:=nz hns;simp only [Ref.emb];simp only [hdep,hw,hf];by_cases h24:S.length=24
 ·simp [h24]
 ·by_cases h5:5<dep
  ·have:(5:Int)<(dep:Int):=zaa;simp [h24,h5,this]
  ·have h5':¬ (5:Int)<(dep:Int):=zaa
   rcases how with hu | ⟨u,hu,hul⟩
   ·simp only [hu];simp [h24,h5,h5']
   ·simp only [hu];have hneg:¬ (u:Int)<0:=zaa;have hxu:X[u]?=some (X[u]'(zaa)):=Mu _;have hxs:(X[u]'(zaa)).s=S[u]:=by
     have:=congrArg (fun l=>l[u]?) hX;simp only [List.getElem?_map,hxu,List.getElem?_eq_getElem hul,Option.map_some] at this;exact Np this
    have hwu:=hI.words S[u] (Ns hul);have hU:=H6 hul;rw [hU,iF hwu,nz hwu,Ao hwu];have hn:=xg S u;rw [hn];simp only [Int.toNat_natCast,hxu];unfold holds;rw [hxs];obtain ⟨r0,r4⟩:=ka hwu;simp only [h24,h5,h5',hneg,decide_false,Bool.false_or,Bool.false_and,Bool.not_false,Bool.true_and,if_false,Bool.false_eq_true];have hk:ao S[u]=0\/ao S[u]=1\/ao S[u]=2\/ao S[u]=3\/ao S[u]=4:=zaa
    rcases hk with e | e | e | e | e <;> rw [e] <;> simp [du]
theorem xJ {k:Int} (up d:Int):Ref.jL (aE num (.state k n)) up d=⟨bu k,n,decide (k=4),up,d,num,[],[],[],0,0⟩:=rfl
theorem sT {k:Int}:Ref.bB S i (aE num (.state k n)) (d:Int)=if 0<d/\Ref.dv S d<0 then none else if Ref.fits (S.map Ref.emb) (Ref.emb ⟨bu k,n,decide (k=4),Ref.dv S d,d,num,[],[],[],0,0⟩) then some (S++[⟨bu k,n,decide (k=4),Ref.dv S d,d,num,[],[],[],0,0⟩]) else none:=by
 unfold Ref.bB;rw [MB (show (aE num (.state k n)).kind=115 from rfl),xJ];have e:(0<(d:Int)/\Ref.dv S ↑d<0)=(0<d/\Ref.dv S ↑d<0):=zad;simp only [e]
theorem vC (hI:Inv S j) {ev t:ByteArray} {af:Bool} {dl:Int}:Ref.bB S i (aE num (.move ev af dl t A)) (d:Int) =
  if d=0 then none else match (opn S)[d-1]? with
   | none=>none
   | some u=>if ao (S.getD u Ref.st0)∈([2,3,4]:List Int) then none else some (Ref.gj S u fun p=>{ p with aj:=p.aj++[⟨ev,t,af,dl,A,num⟩] }):=by
 unfold Ref.bB;rw [Mz (show ¬ (aE num (.move ev af dl t A)).kind=115 by simp [aE]),MB (show (aE num (.move ev af dl t A)).kind=109 from rfl),lQ hI.val];by_cases h0:d=0
 ·subst h0;simp
 ·rw [Mz h0,Mz h0];cases e:(opn S)[d-1]? with
  | none=>simp
  | some u =>
   have hu:u<S.length:=eG S S.length u (MG e);have hw:=hI.words _ (aZ hu);simp only [Int.toNat_natCast];rw [Mz zaa,Mz zaa,iF hw,nz hw];obtain ⟨r0,r4⟩:=ka hw;have hk:ao (S.getD u Ref.st0)=0\/ao (S.getD u Ref.st0)=1\/ao (S.getD u Ref.st0)=2\/ao (S.getD u Ref.st0)=3\/ao (S.getD u Ref.st0)=4:=zaa
   rcases hk with e | e | e | e | e <;> rw [e] <;> simp [du,aE]
theorem sR (hI:Inv S j):Ref.bB S i (aE num (.enter A)) (d:Int) =
  if d=0 then none else match (opn S)[d-1]? with
   | none=>none
   | some u=>if ao (S.getD u Ref.st0)∈([3,4]:List Int) then none else if (S.getD u Ref.st0).enter≠[] then none else some (Ref.gj S u fun p=>{ p with has0:=i+1,enter:=A }):=by
 unfold Ref.bB;rw [Mz (show ¬ (aE num (.enter A)).kind=115 by simp [aE]),Mz (show ¬ (aE num (.enter A)).kind=109 by simp [aE]),MB (show (aE num (.enter A)).kind=101 from rfl),lQ hI.val];by_cases h0:d=0
 ·subst h0;simp
 ·rw [Mz h0,Mz h0];cases e:(opn S)[d-1]? with
  | none=>simp
  | some u =>
   have hu:u<S.length:=eG S S.length u (MG e);have hw:=hI.words _ (aZ hu);have he:=hI.enter _ (aZ hu);exact zdd
theorem sS (hI:Inv S j):Ref.bB S i (aE num (.leave A)) (d:Int) =
  if d=0 then none else match (opn S)[d-1]? with
   | none=>none
   | some u=>if ao (S.getD u Ref.st0)∈([3,4]:List Int) then none else if (S.getD u Ref.st0).leave≠[] then none else some (Ref.gj S u fun p=>{ p with has1:=i+1,leave:=A }):=by
 unfold Ref.bB;rw [Mz (show ¬ (aE num (.leave A)).kind=115 by simp [aE]),Mz (show ¬ (aE num (.leave A)).kind=109 by simp [aE]),Mz (show ¬ (aE num (.leave A)).kind=101 by simp [aE]),MB (show (aE num (.leave A)).kind=108 from rfl),lQ hI.val];by_cases h0:d=0
 ·subst h0;simp
 ·rw [Mz h0,Mz h0];cases e:(opn S)[d-1]? with
  | none=>simp
  | some u =>
   have hu:u<S.length:=eG S S.length u (MG e);have hw:=hI.words _ (aZ hu);have he:=hI.leave _ (aZ hu);exact zdd
def aQ (S:List Ref.State):Nat->DataW Nat
 | 0 => .map []
 | k+1=>if Go.Maps.has (aQ S k) (.string (S.getD k Ref.st0).name.data.toList) then aQ S k else (aQ S k).put (.string (S.getD k Ref.st0).name.data.toList) (.lit (.int .i64 (S.getD k Ref.st0).line))
def dN (S:List Ref.State):List (Int×Int):=S.map fun s=>(s.line,s.depth)
def bK (S:List Ref.State):Bool:=S.any fun s=>s.aj.any (·.after)
structure kQ (S S':List Ref.State):Prop where
 len:S'.length=S.length
 same:∀ k,(S'.getD k Ref.st0).word=(S.getD k Ref.st0).word/\(S'.getD k Ref.st0).name=(S.getD k Ref.st0).name/\(S'.getD k Ref.st0).deep=(S.getD k Ref.st0).deep/\(S'.getD k Ref.st0).up=(S.getD k Ref.st0).up/\(S'.getD k Ref.st0).depth=(S.getD k Ref.st0).depth/\(S'.getD k Ref.st0).line=(S.getD k Ref.st0).line
theorem kQ.LR (h:kQ S S') (k:Nat):fH S' k=fH S k:=gQ k (fun i _=>(h.same i).2.2.2.2.1)
theorem kQ.opn (h:kQ S S'):opn S'=opn S:=by unfold Pro.opn;rw [h.len];exact h.LR _
theorem kQ.parts (h:kQ S S') (i:Nat):parts S' i=parts S i:=by unfold Pro.parts;rw [h.len];exact jq i _ (fun j _=>(h.same j).2.2.2.1)
theorem kQ.first {S S':List Ref.State} (h:kQ S S'):∀ k,aQ S' k=aQ S k
 | 0=>rfl
 | k+1=>by rw [aQ,aQ,h.first k,(h.same k).2.1,(h.same k).2.2.2.2.2]
theorem kQ.iN (h:kQ S S'):dN S'=dN S:=by
 unfold dN;apply List.ext_getElem
 ·simp [h.len]
 ·intro k h1 h2;simp only [List.length_map] at h1 h2;have:=h.same k;rw [getD_eq h1,getD_eq h2] at this;simp only [List.getElem_map];rw [this.2.2.2.2.1,this.2.2.2.2.2]
theorem uE (h:s'.word=(S.getD u Ref.st0).word/\s'.name=(S.getD u Ref.st0).name/\s'.deep=(S.getD u Ref.st0).deep/\s'.up=(S.getD u Ref.st0).up/\s'.depth=(S.getD u Ref.st0).depth/\s'.line=(S.getD u Ref.st0).line):kQ S (S.set u s'):=by
 refine ⟨ML,fun k => ?_⟩;by_cases e:u=k
 ·subst e;by_cases hu:u<S.length
  ·have:(S.set u s').getD u Ref.st0=s':=by
    rw [MI,OK];simp [hu]
   rw [this];exact h
  ·rw [Qi zaa];exact ⟨rfl,rfl,rfl,rfl,rfl,rfl⟩
 ·have:(S.set u s').getD k Ref.st0=S.getD k Ref.st0:=by
   rw [MI,OK,Mz e,MI]
  rw [this];exact ⟨rfl,rfl,rfl,rfl,rfl,rfl⟩
theorem Ja (hI:Inv S i) (hu:u<S.length) (h:s'.word=(S.getD u Ref.st0).word/\s'.name=(S.getD u Ref.st0).name/\s'.deep=(S.getD u Ref.st0).deep/\s'.up=(S.getD u Ref.st0).up/\s'.depth=(S.getD u Ref.st0).depth/\s'.line=(S.getD u Ref.st0).line)
  (h0:0<s'.has0↔s'.enter≠[]) (h1:0<s'.has1↔s'.leave≠[]) (hm:s'.aj.length<=i+1):Inv (S.set u s') (i+1):=by
 have H:=uE h;refine ⟨fun k hk => ?_,fun s hs => ?_,by rw [ML];exact hI.len,fun k hk => ?_,fun s hs => ?_,fun s hs => ?_,fun s hs => ?_⟩
 ·rw [ML] at hk;rw [(H.same k).2.2.2.2.1,H.LR];exact hI.val k hk
 ·rcases M8 hs with h' | h'
  ·exact hI.words s h'
  ·obtain ⟨k,r0,r4,hw,hd⟩:=hI.words _ (aZ hu);rw [h'];exact ⟨k,r0,r4,h.1.trans hw,h.2.2.1.trans hd⟩
 ·rw [ML] at hk;rw [(H.same k).2.2.2.1];exact hI.up k hk
 ·rcases M8 hs with h' | h'
  ·exact hI.enter s h'
  ·rw [h'];exact h0
 ·rcases M8 hs with h' | h'
  ·exact hI.leave s h'
  ·rw [h'];exact h1
 ·rcases M8 hs with h' | h'
  ·have:=hI.aj s h';omega
  ·rw [h'];exact hm
theorem Bg (hI:Inv S i) (hl:S.length≠24) (hw:gX s) (h0:0<=s.depth) (h1:s.depth.toNat<=(opn S).length) (hu0 : -1<=s.up) (hu:s.up<S.length) (he:s.enter=[]) (hlv:s.leave=[]) (hm:s.aj=[]) (hh0:s.has0=0) (hh1:s.has1=0):Inv (S++[s]) (i+1):=by
 have:=hI.len;refine ⟨Cp hI.val h0 h1,fun x hx => ?_,zaf,fun k hk => ?_,fun x hx => ?_,fun x hx => ?_,fun x hx => ?_⟩
 ·rcases MU.1 hx with h | h
  ·exact hI.words x h
  ·rw [ME.1 h];exact hw
 ·by_cases h:k<S.length
  ·rw [bo h];exact hI.up k h
  ·have e:k=S.length:=by simp at hk;omega
   subst e;rw [cY];exact ⟨hu0,hu⟩
 ·rcases MU.1 hx with h | h
  ·exact hI.enter x h
  ·rw [ME.1 h,he,hh0];simp
 ·rcases MU.1 hx with h | h
  ·exact hI.leave x h
  ·rw [ME.1 h,hlv,hh1];simp
 ·rcases MU.1 hx with h | h
  ·have:=hI.aj x h;omega
  ·rw [ME.1 h,hm];simp
theorem wF (S:List Ref.State) (s:Ref.State):aQ (S++[s]) (S++[s]).length=if Go.Maps.has (aQ S S.length) (.string s.name.data.toList) then aQ S S.length else (aQ S S.length).put (.string s.name.data.toList) (.lit (.int .i64 s.line)):=by
 have hc:∀ k,k<=S.length->aQ (S++[s]) k=aQ S k:=by
  intro k
  induction k with
  | zero=>intro _;rfl
  | succ k ih=>intro hk;rw [aQ,aQ,ih zaa,bo zaa]
 rw [MN,show S.length+[s].length=S.length+1 from rfl,aQ,hc S.length (Mt _),cY]
theorem xF (S:List Ref.State) (s:Ref.State):dN (S++[s])=dN S++[(s.line,s.depth)]:=by simp [dN]
theorem xI (S:List Ref.State) (s:Ref.State) (h:s.aj=[]):bK (S++[s])=bK S:=by simp [bK,h]
theorem lM (h:s'.aj=(S.getD u Ref.st0).aj):bK (S.set u s')=bK S:=by
 unfold bK;by_cases hu:u<S.length
 ·have e:(S.set u s').map (·.aj)=S.map (·.aj):=by
   rw [Ow];apply OL
   intro i;rw [OK];split
   ·rename_i e;subst e;simp [hu,h]
   ·rfl
  have f:∀ T:List Ref.State,(T.any fun s=>s.aj.any (·.after))=(T.map (·.aj)).any (fun m=>m.any (·.after)):=by
   intro T;rw [List.any_map];rfl
  rw [f,f,e]
 ·rw [Qi zaa]
theorem td {m:Ref.Move} (hu:u<S.length) (h:s'.aj=(S.getD u Ref.st0).aj++[m]):bK (S.set u s')=(bK S||m.after):=by
 cases ha:(bK S||m.after)
 ·rw [Bool.or_eq_false_iff] at ha;show List.any _ _=false;rw [Qw];intro x hx
  rcases M8 hx with h' | h'
  ·have:=ha.1;unfold bK at this;rw [Qw] at this;exact this x h'
  ·rw [h',h,P2];have h1:=ha.1;unfold bK at h1;rw [Qw] at h1;have:=h1 _ (aZ hu);simp [ha.2] at this ⊢;exact this
 ·show List.any _ _=true;rw [O3];rw [Bool.or_eq_true] at ha
  rcases ha with ha | ha
  ·unfold bK at ha;rw [O3] at ha;obtain ⟨x,hx,hxa⟩:=ha;obtain ⟨k,hk,rfl⟩:=OW hx;by_cases e:u=k
   ·subst e;refine ⟨s',Qx hu _,?_⟩;rw [h,P2,getD_eq hu,hxa];rfl
   ·refine ⟨S[k],?_,hxa⟩;have:(S.set u s')[k]'(by rw [ML];exact hk)=S[k]:=by rw [NQ,Mz e]
    rw [<- this];exact Ns _
  ·refine ⟨s',Qx hu _,?_⟩;rw [h,P2];simp [ha]
end Pro
structure fO (w0 w:World) (db:Nat) (S:List Ref.State) (i:Nat):Prop where
 mem:∃ sv pv ov mb X nm,X.map (·.s)=S/\nm<=S.length/\aq w0 w db sv pv ov mb (Pro.bK S) X (Pro.dN S) (Pro.opn S) (Pro.parts S) nm (Pro.aQ S S.length)
 inv:Pro.Inv S i
def dw (w0:World) (db:Nat) (S:List Ref.State) (i d:Nat) (L:Pro.PL) (w:World) (e:Ending) (w':World):Prop:=match Ref.bB S i (Pro.aE (i+1) L) (d:Int) with
 | none=>aY 3 ((i+1:Nat):Int) w e w'
 | some S'=>e = .returned (.tuple #[])/\fO w0 w' db S' (i+1)
theorem Lp (h:i<=1000000):(Lit.int .i64 ((i:Nat):Int)).wf=true:=WalkArith.wf_i64 zaa
theorem qA {X:List Pro.DS} (h:X.map (·.s)=S) (hu:u<S.length):∃ hx:u<X.length,X[u].s=S.getD u Ref.st0:=by
 have hl:X.length=S.length:=by rw [<- h,MH]
 refine ⟨zaa,?_⟩;subst h;rw [Pro.getD_eq hu,OO]
theorem BS (w0 w:World) (db:Nat) (S:List Ref.State) (i d:Nat) (k:Int) (n:ByteArray) (H:fO w0 w db S i) (hk0:0<=k) (hk4:k<=4) (hn:n.size<=1000000) (hd:d<=1000000) (hi:i<=100000) :
  () 351 #[.agg (eu ((i+1:Nat):Int) d k n),db] w (dw w0 db S i d (.state k n) w):=by
 obtain ⟨⟨sv,pv,ov,mb,X,nm,hX,hnm,G⟩,I⟩:=H;have hXl:X.length=S.length:=zaG;have hlen:=I.len;have hol:=Pro.jM S S.length;change (Pro.opn S).length<=S.length at hol;unfold dw;rw [Pro.sT];by_cases hbad:0<d/\Ref.dv S d<0
 ·rw [MB hbad];refine qn _ d k n G hbad.1 ?_ zaa
  rcases OF (Pro.opn S).length d with h | h
  ·exact h
  ·obtain ⟨d',rfl⟩:∃ d',d=d'+1:=⟨d-1,zaa⟩;have:=(Pro.Da I (k:=d') zaa).1;have h2:=hbad.2;rw [this] at h2;omega
 ·rw [Mz hbad];obtain ⟨ns,hns⟩:∃ ns:Ref.State,ns=⟨Pro.bu k,n,decide (k=4),Ref.dv S d,d,((i+1:Nat):Int),[],[],[],0,0⟩:=⟨_,rfl⟩;have hdo:d<=(Pro.opn S).length:=by
   rcases OF (Pro.opn S).length d with h | h
   ·exact absurd ⟨zaa,by rw [Pro.J8 I h];decide⟩ hbad
   ·exact h
  have how:(d=0/\Ref.dv S d = -1)\/∃ (k u:Nat) (hk:k<(Pro.opn S).length),d=k+1/\(Pro.opn S)[k]=u/\Ref.dv S d=u/\u<X.length:=by
   by_cases h0:d=0
   ·subst h0;exact .inl ⟨rfl,rfl⟩
   ·obtain ⟨d',rfl⟩:∃ d',d=d'+1:=⟨d-1,zaa⟩;obtain ⟨h1,h2⟩:=Pro.Da I (k:=d') zaa;exact .inr ⟨d',_,zaa,rfl,rfl,h1,zaa⟩
  have how2:Ref.dv S d = -1\/∃ u:Nat,Ref.dv S d=u/\u<S.length:=by
   rcases how with ⟨_,h⟩ | ⟨_,u,_,_,_,h,hu⟩
   ·exact .inl h
   ·exact .inr ⟨u,h,zaa⟩
  have hw:Pro.gX ns:=⟨k,hk0,hk4,zan,zan⟩;have hkd:Pro.ao ns=k:=Pro.fD hk0 hk4 zan zan;have hfit:=Pro.I4 I hw (dep:=d) zan hX (by rw [hns];exact how2);have hst:=sP ((i+1:Nat):Int) d k (Ref.dv S d) n ns G zaa (by unfold Pro.dN;rw [MH];omega) zaa (fun j=>by have:=Pro.lG S j S.length;exact Mv this zaa) zaa
   hkd zan zan zan zan zan zan hdo hn (Lp zaa) how (by
    rw [hXl];exact Pro.ox _ (fun j hj e=>by have:=(I.up j hj).2;omega))
  refine MC hst ?_;intro e w' h;have hup:ns.up=Ref.dv S d:=zan;rw [hkd,hup] at hfit;change _=iT X (Pro.parts S) d (Ref.dv S d) k at hfit;rw [<- hns,hfit];cases hok:iT X (Pro.parts S) d (Ref.dv S d) k
  ·rw [hok] at h;exact h
  ·rw [hok] at h;obtain ⟨rfl,sv',pv',ov',X',hX',G'⟩:=h;have h24:S.length≠24:=by
    intro e;unfold iT at hok;rw [hXl,NC e] at hok;cases hok
   refine ⟨rfl,⟨sv',pv',ov',mb,X',nm+1,by rw [hX',hX],zaf,?_⟩,?_⟩
   ·have e1:Pro.bK (S++[ns])=Pro.bK S:=Pro.xI S ns zan;have e2:Pro.dN (S++[ns])=Pro.dN S++[(((i+1:Nat):Int),(d:Int))]:=by rw [Pro.xF,hns]
    have e3:Pro.opn (S++[ns])=(Pro.opn S).take d++[X.length]:=by rw [Pro.BM,hXl,hns];rfl
    have e4:Pro.parts (S++[ns])=fun j:Nat=>if (j:Int)=Ref.dv S d then Pro.parts S j++[X.length] else Pro.parts S j:=by
     funext j;rw [Pro.xt,hXl,hup]
    have e5:Pro.aQ (S++[ns]) (S++[ns]).length=if Go.Maps.has (Pro.aQ S S.length) (.string n.data.toList) then Pro.aQ S S.length else (Pro.aQ S S.length).put (.string n.data.toList) (.lit (.int .i64 ((i+1:Nat):Int))):=by rw [Pro.wF,hns]
    rw [e1,e2,e3,e4,e5];exact G'
   ·refine Pro.Bg I h24 hw (by rw [hns];show (0:Int)<=(d:Int);omega) (by rw [hns];simpa using hdo) ?_ ?_ zan zan zan zan zan
    ·exact zeZ
    ·exact zeZ
theorem j5 {w0 w':World} {db:Nat} {sv pv ov:Ref.Sl} {mb nm:Nat} {X:List Pro.DS} {x':Pro.DS} {tm:Bool} (hX:X.map (·.s)=S) (hnm:nm<=S.length) (I:Pro.Inv S i) (hu:u<S.length)
  (h:x'.s.word=(S.getD u Ref.st0).word/\x'.s.name=(S.getD u Ref.st0).name/\x'.s.deep=(S.getD u Ref.st0).deep/\x'.s.up=(S.getD u Ref.st0).up/\x'.s.depth=(S.getD u Ref.st0).depth/\x'.s.line=(S.getD u Ref.st0).line)
  (h0:0<x'.s.has0↔x'.s.enter≠[]) (h1:0<x'.s.has1↔x'.s.leave≠[]) (hm:x'.s.aj.length<=i+1) (ht:Pro.bK (S.set u x'.s)=tm)
  (G:aq w0 w' db sv pv ov mb tm (X.set u x') (Pro.dN S) (Pro.opn S) (Pro.parts S) nm (Pro.aQ S S.length)):fO w0 w' db (S.set u x'.s) (i+1):=by
 have H:=Pro.uE h;refine ⟨⟨sv,pv,ov,mb,X.set u x',nm,?_,by rw [ML];exact hnm,?_⟩,Pro.Ja I hu h h0 h1 hm⟩
 ·rw [Ow,hX]
 ·have e4:Pro.parts (S.set u x'.s)=Pro.parts S:=funext fun j=>H.parts j;rw [ht,H.iN,H.opn,e4,H.len,H.first];exact G
theorem Es (w0 w:World) (db:Nat) (S:List Ref.State) (i d:Nat) (ev t:ByteArray) (af:Bool) (dl:Int) (A:List Ref.Act) (v:Ref.Sl) (H:fO w0 w db S i) (hd:d<=1000000) (hi:i<=100000) (hA:w0.ownsRow 0 251 1 v.v A.length (A.map bh)) :
  () 356 #[.agg #[.int .i64 ((i+1:Nat):Int),(d:Int),ev,af,.int .u64 dl,t,.slice v.a v.n v.c],db] w (dw w0 db S i d (.move ev af dl t A) w):=by
 obtain ⟨⟨sv,pv,ov,mb,X,nm,hX,hnm,G⟩,I⟩:=H;have hXl:X.length=S.length:=zaG;have hlen:=I.len;have hol:=Pro.jM S S.length;change (Pro.opn S).length<=S.length at hol;have y:Pro.PV:=⟨⟨ev,t,af,dl,A,((i+1:Nat):Int)⟩,v⟩;unfold dw;rw [Pro.vC I];by_cases h0:d=0
 ·rw [MB h0];exact lx _ d ⟨⟨ev,t,af,dl,A,((i+1:Nat):Int)⟩,v⟩ G (.inl h0) zaa
 ·rw [Mz h0];obtain ⟨d',rfl⟩:∃ d',d=d'+1:=⟨d-1,zaa⟩;rw [show d'+1-1=d' from rfl]
  rcases OF d' (Pro.opn S).length with hk | hk
  ·rw [Mu hk];have hu:(Pro.opn S)[d']<S.length:=Pro.eG S S.length _ (Ns hk);obtain ⟨u,hue⟩:∃ u,u=(Pro.opn S)[d']:=⟨_,rfl⟩;rw [<- hue] at hu ⊢;obtain ⟨hux,hxs⟩:=qA hX hu;obtain ⟨g,cap,rfl⟩:=G.BZ zaa;simp only;by_cases hb:Pro.ao (S.getD u Ref.st0)∈([2,3,4]:List Int)
   ·rw [MB hb];exact tN _ (d'+1) ⟨⟨ev,t,af,dl,A,((i+1:Nat):Int)⟩,v⟩ d' u g cap G hk rfl zaa hue.symm hux zaB
   ·rw [Mz hb];have hml:=I.aj _ (Pro.aZ hu);refine MC (tO _ (d'+1) ⟨⟨ev,t,af,dl,A,((i+1:Nat):Int)⟩,v⟩ d' u g cap G hk rfl zaa hue.symm hux zaB hA (by rw [hxs];omega)) ?_;rintro e w' ⟨rfl,vm',G'⟩;refine ⟨rfl,?_⟩;have he:=I.enter _ (Pro.aZ hu);have hl:=I.leave _ (Pro.aZ hu);have:=j5 (x':=Pro.dd X[u] ⟨⟨ev,t,af,dl,A,((i+1:Nat):Int)⟩,v⟩ vm') hX hnm I hu (by simp [Pro.dd,hxs]) (by simpa [Pro.dd,hxs] using he) (by simpa [Pro.dd,hxs] using hl) (by simp [Pro.dd,hxs];simpa using hml) (Pro.td hu (m:=⟨ev,t,af,dl,A,((i+1:Nat):Int)⟩) (by simp [Pro.dd,hxs])) G';exact zfi
  ·rw [M4 hk];exact lx _ (d'+1) ⟨⟨ev,t,af,dl,A,((i+1:Nat):Int)⟩,v⟩ G (.inr zaa) zaa
theorem BQ (w0 w:World) (db:Nat) (S:List Ref.State) (i d:Nat) (A:List Ref.Act) (v:Ref.Sl) (H:fO w0 w db S i) (hd:d<=1000000) (hA:w0.ownsRow 0 251 1 v.v A.length (A.map bh)) (hA0:A≠[]) :
  () 361 #[.agg #[.int .i64 ((i+1:Nat):Int),(d:Int),.slice v.a v.n v.c],db] w (dw w0 db S i d (.enter A) w):=by
 obtain ⟨⟨sv,pv,ov,mb,X,nm,hX,hnm,G⟩,I⟩:=H;have hXl:X.length=S.length:=zaG;have hlen:=I.len;have hol:=Pro.jM S S.length;change (Pro.opn S).length<=S.length at hol;unfold dw;rw [Pro.sR I];by_cases h0:d=0
 ·rw [MB h0];exact kI _ d v.a v.n v.c G (.inl h0) zaa
 ·rw [Mz h0];obtain ⟨d',rfl⟩:∃ d',d=d'+1:=⟨d-1,zaa⟩;rw [show d'+1-1=d' from rfl]
  rcases OF d' (Pro.opn S).length with hk | hk
  ·rw [Mu hk];have hu:(Pro.opn S)[d']<S.length:=Pro.eG S S.length _ (Ns hk);obtain ⟨u,hue⟩:∃ u,u=(Pro.opn S)[d']:=⟨_,rfl⟩;rw [<- hue] at hu ⊢;obtain ⟨hux,hxs⟩:=qA hX hu;obtain ⟨g,cap,rfl⟩:=G.BZ zaa;simp only;have hvn:X[u].ve.n=(S.getD u Ref.st0).enter.length:=by
    rw [<- hxs]
    rcases (G.deep u hux).enter.2 with ⟨h,h0⟩ | ⟨g,cap,cur,h,_⟩
    ·exact zfc
    ·exact zfo
   by_cases hb:Pro.ao (S.getD u Ref.st0)∈([3,4]:List Int)
   ·rw [MB hb];exact qb _ (d'+1) v.a v.n v.c d' u g cap G hk rfl zaa hue.symm hux zaB
   ·rw [Mz hb];by_cases h2:(S.getD u Ref.st0).enter≠[]
    ·rw [MB h2];exact ph _ (d'+1) v.a v.n v.c d' u g cap G hk rfl zaa hue.symm hux zaB (by rw [hvn];exact Ou.2 h2)
    ·rw [Mz h2];have h2':(S.getD u Ref.st0).enter=[]:=Classical.not_not.1 h2;refine MC (rA _ (d'+1) v.a v.n v.c d' u g cap G hk rfl zaa hue.symm hux zaB (by rw [hvn,h2'];rfl) A hA) ?_;rintro e w' ⟨rfl,G'⟩;refine ⟨rfl,?_⟩;have he:=I.enter _ (Pro.aZ hu);have hl:=I.leave _ (Pro.aZ hu);have hml:=I.aj _ (Pro.aZ hu);have:=j5 (x':=Pro.gD X[u] ((i+1:Nat):Int) A v) hX hnm I hu (by simp [Pro.gD,hxs]) (by simp [Pro.gD];exact hA0) (by simpa [Pro.gD,hxs] using hl) (by simp [Pro.gD,hxs];have:=hml;simp at this;omega) (Pro.lM (by simp [Pro.gD,hxs])) G';exact zfi
  ·rw [M4 hk];exact kI _ (d'+1) v.a v.n v.c G (.inr zaa) zaa
theorem BR (w0 w:World) (db:Nat) (S:List Ref.State) (i d:Nat) (A:List Ref.Act) (v:Ref.Sl) (H:fO w0 w db S i) (hd:d<=1000000) (hA:w0.ownsRow 0 251 1 v.v A.length (A.map bh)) (hA0:A≠[]) :
  () 363 #[.agg #[.int .i64 ((i+1:Nat):Int),(d:Int),.slice v.a v.n v.c],db] w (dw w0 db S i d (.leave A) w):=by
 obtain ⟨⟨sv,pv,ov,mb,X,nm,hX,hnm,G⟩,I⟩:=H;have hXl:X.length=S.length:=zaG;have hlen:=I.len;have hol:=Pro.jM S S.length;change (Pro.opn S).length<=S.length at hol;unfold dw;rw [Pro.sS I];by_cases h0:d=0
 ·rw [MB h0];exact kJ _ d v.a v.n v.c G (.inl h0) zaa
 ·rw [Mz h0];obtain ⟨d',rfl⟩:∃ d',d=d'+1:=⟨d-1,zaa⟩;rw [show d'+1-1=d' from rfl]
  rcases OF d' (Pro.opn S).length with hk | hk
  ·rw [Mu hk];have hu:(Pro.opn S)[d']<S.length:=Pro.eG S S.length _ (Ns hk);obtain ⟨u,hue⟩:∃ u,u=(Pro.opn S)[d']:=⟨_,rfl⟩;rw [<- hue] at hu ⊢;obtain ⟨hux,hxs⟩:=qA hX hu;obtain ⟨g,cap,rfl⟩:=G.BZ zaa;simp only;have hvn:X[u].vl.n=(S.getD u Ref.st0).leave.length:=by
    rw [<- hxs]
    rcases (G.deep u hux).leave.2 with ⟨h,h0⟩ | ⟨g,cap,cur,h,_⟩
    ·exact zfc
    ·exact zfo
   by_cases hb:Pro.ao (S.getD u Ref.st0)∈([3,4]:List Int)
   ·rw [MB hb];exact qe _ (d'+1) v.a v.n v.c d' u g cap G hk rfl zaa hue.symm hux zaB
   ·rw [Mz hb];by_cases h2:(S.getD u Ref.st0).leave≠[]
    ·rw [MB h2];exact pw _ (d'+1) v.a v.n v.c d' u g cap G hk rfl zaa hue.symm hux zaB (by rw [hvn];exact Ou.2 h2)
    ·rw [Mz h2];have h2':(S.getD u Ref.st0).leave=[]:=Classical.not_not.1 h2;refine MC (rW _ (d'+1) v.a v.n v.c d' u g cap G hk rfl zaa hue.symm hux zaB (by rw [hvn,h2'];rfl) A hA) ?_;rintro e w' ⟨rfl,G'⟩;refine ⟨rfl,?_⟩;have he:=I.enter _ (Pro.aZ hu);have hl:=I.leave _ (Pro.aZ hu);have hml:=I.aj _ (Pro.aZ hu);have:=j5 (x':=Pro.gE X[u] ((i+1:Nat):Int) A v) hX hnm I hu (by simp [Pro.gE,hxs]) (by simpa [Pro.gE,hxs] using he) (by simp [Pro.gE];exact hA0) (by simp [Pro.gE,hxs];have:=hml;simp at this;omega) (Pro.lM (by simp [Pro.gE,hxs])) G';exact zfi
  ·rw [M4 hk];exact kJ _ (d'+1) v.a v.n v.c G (.inr zaa) zaa
variable {w0 w:World} {db mb nm:Nat} {sv pv ov:Ref.Sl} {tm:Bool} {X:List Pro.DS} {SP:List (Int×Int)} {O:List Nat} {PT:Nat->List Nat} {D:DataW Nat}
def dz (X:List Pro.DS) (p:List Nat):Bool:=p.any fun j=>match X[j]? with | some x => !Pro.du (Pro.ao x.s) | none=>false
theorem mU (u:Nat) (G:aq w0 w db sv pv ov mb tm X SP O PT nm D) (hu:u<X.length) (hX:X.length<=1000) (hPT:∀ j∈PT u,j<X.length) (hPl:(PT u).length<=1000) :
  () 144 #[db,.agg #[.int .i64 (Pro.ao X[u].s),.string X[u].s.name,.int .i64 X[u].s.depth,.int .i64 X[u].s.up,.slice X[u].vp.a (PT u).length X[u].vp.c,.slice X[u].ve.a X[u].ve.n X[u].ve.c,.slice X[u].vl.a X[u].vl.n X[u].vl.c,.slice X[u].vm.a X[u].vm.n X[u].vm.c]] w fun e w'=>e = .returned (.bool (dz X (PT u)))/\Below w w w':=by
 obtain ⟨g,cap,rfl⟩:=G.BZ zaa;obtain ⟨hcap,hgl,_⟩:=G.tz;have hdl:=G.dlt;obtain ⟨c0,_,_,_,_⟩:=G.cells;have HR:Hid (∀ j (hj:j<X.length),w.cell? ⟨g,j*8,none⟩=some (.int .i64 (Pro.ao X[j].s))):=fun j hj=>by
  have:=G.tW hj 0 (.int .i64 (Pro.ao X[j].s)) rfl;simpa using this
 have HV:Hid (∀ k (hk:k<(PT u).length),∃ gp,X[u].vp.a=some ⟨gp,0,none⟩/\gp<w.heap.size/\w.cell? ⟨gp,k,none⟩=some (.int .i64 ((PT u)[k]:Nat))/\(PT u).length<=X[u].vp.c):=fun k hk=>by
  have ho:=G.parts u hu;obtain ⟨gp,cp,e⟩:=Ref.eY ho zaa;have h:=ho;rw [e] at h;have hc:=Row.cell (α:=Nat) (n:=1) (j:=0) (f:=eo) (fun _=>rfl) (aD h (MJ _)) zac hk;have hc':w.cell? ⟨gp,k,none⟩=some (.int .i64 ((PT u)[k]:Nat)):=by simpa [eo] using hc
  simp only [Ref.Sl.v,Value.slice.injEq] at e;refine ⟨gp,e.1,MQ _ _ hc',hc',?_⟩
  rcases h.2 with ⟨h,_⟩ | ⟨g',cap',cur,h,_,_,hle,_⟩
  ·cases h
  ·simp at h;rw [e.2.2,h.2];exact hle
 have HP:Hid _:=hPT;generalize hkd:Pro.ao X[u].s=kd0;generalize hva:X[u].vp.a=va at *;generalize hvc:X[u].vp.c=vc at *;clear hkd hva hvc hPT G;go_enter func144,ntmps144;go_wp2
 go_loop [10] (fun i=>∃ k:Nat,k<=(PT u).length/\i = .int .i64 k/\dz X ((PT u).take k)=false) (fun i=>(PT u).length-(intOf i).toNat)
 case atStart=>exact ⟨0,MJ _,rfl,rfl⟩
 case round =>
  obtain ⟨k,hk,rfl,hno⟩:=hrel;by_cases hkn:k<(PT u).length
  ·obtain ⟨gp,rfl,hgp,cp,hcp⟩:=HV.out k hkn;have hj:=HP.out _ (Ns hkn);obtain ⟨j,hje⟩:∃ j,j=(PT u)[k]:=⟨_,rfl⟩;rw [<- hje] at cp hj;have cK:=HR.out j hj;have HN:Hid (dz X ((PT u).take (k+1))=(dz X ((PT u).take k) || !Pro.du (Pro.ao X[j].s))):=by
    unfold Hid dz;rw [Oa,Mu hkn,P2,<- hje];simp [hj]
   generalize hq:Pro.ao X[j].s=kj at *;clear hq;have HNo:Hid _:=hno;clear hno hje;go_wp2_with fail;refine (ji kj _).mono ?_;rintro e w9 ⟨rfl,hw9⟩;rw [hw9];clear hw9 w9;obtain ⟨h,hh⟩:∃ h,h=Pro.du kj:=⟨_,rfl⟩;have hi:(decide (kj=3)||decide (kj=4))=h:=hh.symm;rw [hi];rw [<- hh] at HN;clear hh hi;cases h with
   | true =>
    dsimp only;go_wp2
    go_round
    case rel=>exact ⟨k+1,zaa,zah,by rw [HN.out,HNo.out];rfl⟩
    case measure=>simp [intOf];omega
   | false =>
    have HT:Hid (dz X (PT u)=true):=by
     have h1:dz X ((PT u).take (k+1))=true:=by rw [HN.out,HNo.out];rfl
     unfold dz at h1;exact zec
    dsimp only;go_wp2;go_ret;exact ⟨by rw [HT.out];rfl,(Mw _ _).alloc (Mt _) _⟩
  ·have hkl:k=(PT u).length:=zaa;have HF:Hid (dz X (PT u)=false):=by
    exact zfj
   clear hno;go_wp2;go_ret;exact ⟨by rw [HF.out];rfl,(Mw _ _).alloc (Mt _) _⟩
namespace Pro
theorem tV (hI:Inv S i) {X:List DS} (hX:X.map (·.s)=S) (k:Nat):(Ref.regions (S.map Ref.emb) k).isEmpty = !dz X (parts S k):=by
 have hmem:∀ (m:Nat) (x:Nat),x∈Ref.sG (S.map Ref.emb) k m↔x<m/\∃ h:x<S.length,S[x].up=k/\du (ao S[x])=false:=by
  intro m
  induction m with
  | zero=>intro x;simp [Ref.sG]
  | succ m ih =>
   intro x;rw [Ref.sG];by_cases hm:m<S.length
   ·have e:((S.map Ref.emb)[m]?.map (Ref.CR k)).getD false=(decide (S[m].up=k) && !du (ao S[m])):=by
     rw [MF,Mu hm];simp only [Option.map_some,Option.getD_some,Ref.CR,Ref.emb];rw [iF (hI.words _ (Ns hm))]
    rw [e];by_cases hc:(decide (S[m].up=(k:Int)) && !du (ao S[m]))=true
    ·rw [MB hc,MU,ih,ME];rw [Na,Pu,Q6] at hc;constructor
     ·rintro (⟨h1,h2⟩ | rfl)
      ·exact ⟨zaa,h2⟩
      ·exact ⟨zaa,hm,hc.1,hc.2⟩
     ·rintro ⟨h1,h2⟩;by_cases ex:x=m
      ·exact .inr ex
      ·exact .inl ⟨zaa,h2⟩
    ·rw [Mz hc,ih];constructor
     ·exact zfh
     ·rintro ⟨h1,h2⟩;refine ⟨?_,h2⟩;have:x≠m:=by
       rintro rfl;obtain ⟨_,h3,h4⟩:=h2;apply hc
       rw [NC h3,h4];rfl
      omega
   ·have e:((S.map Ref.emb)[m]?.map (Ref.CR k)).getD false=false:=by
     rw [M4 za3];rfl
    rw [e];simp only [Bool.false_eq_true,if_false];rw [ih];constructor
    ·exact zfh
    ·rintro ⟨h1,h2,h3⟩;exact ⟨zaa,h2,h3⟩
 unfold Ref.regions;rw [MH];have hXl:X.length=S.length:=zaG;have hXs:∀ x (h:x<S.length),(X[x]'(zaa)).s=S[x]:=fun x h=>by
  subst hX;rw [OO]
 cases hp:dz X (parts S k)
 ·show _=true;rw [Pm];unfold dz at hp;rw [Qw] at hp;rw [List.eq_nil_iff_forall_not_mem];intro x hx;obtain ⟨h1,h2,h3,h4⟩:=(hmem S.length x).1 hx;have:=hp x ((iC S.length).2 ⟨h2,by rw [getD_eq h2];exact h3⟩);rw [Mu zaa] at this;simp only [hXs x h2,h4] at this;exact this rfl
 ·show _=false;unfold dz at hp;rw [O3] at hp;obtain ⟨x,hx,hx2⟩:=hp;obtain ⟨h1,h2⟩:=(iC S.length).1 hx;rw [Mu zaa] at hx2;simp only [hXs x h1,Bool.not_eq_true'] at hx2;rw [getD_eq h1] at h2;have hm:=(hmem S.length x).2 ⟨h1,h1,h2,hx2⟩;cases hr:Ref.sG (S.map Ref.emb) k S.length with
  | nil=>rw [hr] at hm;cases hm
  | cons a b=>rfl
theorem BO (hI:Inv S i) {X:List DS} (hX:X.map (·.s)=S) (hk:k<S.length) (h:Ref.dK S k=none):Ref.dK S (k+1)=if ao (S.getD k Ref.st0)=1/\dz X (parts S k)=false then some (S.getD k Ref.st0).line else none:=by
 rw [Ref.dK,h];simp only;rw [Ao (hI.words _ (aZ hk)),tV hI hX];by_cases h1:ao (S.getD k Ref.st0)=1
 ·rw [NC h1];cases hp:dz X (parts S k)
  ·rw [MB zae,MB ⟨h1,rfl⟩]
  ·rw [Mz zad,Mz zad]
 ·rw [No h1,Mz zad,Mz (fun h=>h1 h.1)]
end Pro
def qp (S:List Ref.State) (w:World) (e:Ending) (w':World):Prop:=match Ref.dK S S.length with
 | some l=>aY 3 l w e w'
 | none=>e = .returned (.tuple #[])/\Below w.heap.size w w'
theorem mR (w0 w:World) (db:Nat) (S:List Ref.State) (i:Nat) (H:fO w0 w db S i) (hS:0<S.length) :
  () 92 #[db] w (qp S w):=by
 obtain ⟨⟨sv,pv,ov,mb,X,nm,hX,hnm,G⟩,I⟩:=H;have hXl:X.length=S.length:=zaG;have hlen:=I.len;obtain ⟨g,cap,rfl⟩:=G.BZ zaa;obtain ⟨hsvc,hgl,_⟩:=G.tz;have hdl:=G.dlt;obtain ⟨c0,c1,_,_,_⟩:=G.cells;have hpn:=G.LW;rw [hpn] at c1;have hspl:(Pro.dN S).length=X.length:=by unfold Pro.dN;rw [MH,hXl]
 rw [hspl] at c1;have HSp:Hid (∀ k (hk:k<X.length),∃ gs,pv.a=some ⟨gs,0,none⟩/\w.cell? ⟨gs,k*2,none⟩=some (.int .i64 (S.getD k Ref.st0).line)/\w.cell? ⟨gs,k*2+1,none⟩=some (.int .i64 (S.getD k Ref.st0).depth)/\X.length<=pv.c):=fun k hk=>by
  have ho:=G.iN;obtain ⟨gs,cs,e⟩:=Ref.eY ho zaa;have h:=ho;rw [e] at h;have hr:=Row.range (f:=Pro.iD) (n:=2) (fun _=>rfl) (aD h (MJ _)) (show k<(Pro.dN S).length by omega);have es:(Pro.dN S)[k]'(zaa)=((S.getD k Ref.st0).line,(S.getD k Ref.st0).depth):=by unfold Pro.dN;rw [OO,Pro.getD_eq (show k<S.length by omega)]
  rw [es] at hr;simp only [Ref.Sl.v,Value.slice.injEq] at e;refine ⟨gs,e.1,by have:=hr 0 _ rfl;simpa using this,hr 1 _ rfl,?_⟩
  rcases h.2 with ⟨h,_⟩ | ⟨g',cap',cur,h,_,_,hle,_⟩
  ·cases h
  ·simp at h;rw [e.2.2,h.2,<- hspl];exact hle
 have HRow:Hid (∀ k (hk:k<X.length),w.rangeAt g (k*8) [.int .i64 (Pro.ao X[k].s),.string X[k].s.name,.int .i64 X[k].s.depth,.int .i64 X[k].s.up,.slice X[k].vp.a (Pro.parts S k).length X[k].vp.c,.slice X[k].ve.a X[k].ve.n X[k].ve.c,.slice X[k].vl.a X[k].vl.n X[k].vl.c,.slice X[k].vm.a X[k].vm.n X[k].vm.c]):=fun k hk=>by
  have:=G.tW hk;rw [Pro.aO,G.Kq hk] at this;exact this
 have HHas:Hid (∀ k (hk:k<X.length) w',Below w w w'->() 144 #[db,.agg #[.int .i64 (Pro.ao X[k].s),.string X[k].s.name,.int .i64 X[k].s.depth,.int .i64 X[k].s.up,.slice X[k].vp.a (Pro.parts S k).length X[k].vp.c,.slice X[k].ve.a X[k].ve.n X[k].ve.c,.slice X[k].vl.a X[k].vl.n X[k].vl.c,.slice X[k].vm.a X[k].vm.n X[k].vm.c]] w' fun e w''=>e = .returned (.bool (dz X (Pro.parts S k)))/\Below w'.heap.size w' w''):=fun k hk w' hb =>
  mU k (G.ak hb) hk zaa (fun j hj=>by have:=((Pro.iC S.length).1 hj).1;omega) (Mv (Pro.lG S k S.length) zaa)
 have HXs:Hid (∀ k (hk:k<X.length),Pro.ao X[k].s=Pro.ao (S.getD k Ref.st0)):=fun k hk=>by
  rw [(qA hX (show k<S.length by omega)).2]
 have HI:Hid _:=I;have HXm:Hid _:=hX;have HXl:Hid _:=hXl;have hXb:X.length<=24:=zaa;clear hX hXl hlen hpn hspl I G hnm hS;go_enter func92,ntmps92;go_wp2
 go_loopg [9] X.length (fun q i wr=>∃ k:Nat,q=X.length-k/\k<=X.length/\i = .int .i64 k/\Ref.dK S k=none/\Below w w wr)
 case atStart=>exact ⟨0,rfl,MJ _,rfl,rfl,Mw _ _⟩
 case round =>
  obtain ⟨k,hq,hk,rfl,hpar,hbr⟩:=hrel;have hbs:=hbr.size;by_cases hkn:k<X.length
  ·have hrng:=HRow.out k hkn;have hrng':wr.rangeAt g (k*8) [.int .i64 (Pro.ao X[k].s),.string X[k].s.name,.int .i64 X[k].s.depth,.int .i64 X[k].s.up,.slice X[k].vp.a (Pro.parts S k).length X[k].vp.c,.slice X[k].ve.a X[k].ve.n X[k].ve.c,.slice X[k].vl.a X[k].vl.n X[k].vl.c,.slice X[k].vm.a X[k].vm.n X[k].vm.c]:=fun j v hj=>(MK (w:=w) (hbr.block g hgl)).trans (hrng j v hj);have HP1:Hid _:=Pro.BO HI.out HXm.out (k:=k) (by have:=HXl.out;omega) hpar;have hkk:=HXs.out k hkn;have HPar:Hid _:=hpar;clear hrng hpar;by_cases h1:Pro.ao X[k].s=1
   ·have HH:Hid _:=HHas.out k hkn;have HS1:Hid (Pro.ao (S.getD k Ref.st0)=1):=by unfold Hid;rw [<- hkk];exact h1
    rw [h1] at hrng' HH;clear hkk h1;go_wp2_with (first
     | (refine NV rfl 172 (.tmp 12) rfl g (k*8) rfl _ _ hrng' underlying172 rfl cQ ?_)
     | (refine aI rfl 172 (.tmp 3) (.tmp 13) rfl 172 _ _ rfl rfl cQ rfl rfl ?_))
    have hbw1:Below w w (wr.alloc (.cells #[(1:Int),.string X[k].s.name,.int .i64 X[k].s.depth,.int .i64 X[k].s.up,.slice X[k].vp.a (Pro.parts S k).length X[k].vp.c,.slice X[k].ve.a X[k].ve.n X[k].ve.c,.slice X[k].vl.a X[k].vl.n X[k].vl.c,.slice X[k].vm.a X[k].vm.n X[k].vm.c] 172)):=hbr.alloc hbs _;refine MC (HH.out _ hbw1) ?_;rintro e w2 ⟨rfl,hb2⟩;have hbw2:=hbw1.trans (hb2.mono hbw1.size);clear hbw1 hb2 hrng';have d1:w2.cell? ⟨db,1,none⟩=some (.slice pv.a X.length pv.c):=(MK (w:=w) (hbw2.block db hdl)).trans c1;cases hp:dz X (Pro.parts S k) with
    | true =>
     have HN:Hid (Ref.dK S (k+1)=none):=by unfold Hid;rw [HP1.out,Mz (by rw [hp];simp)]
     clear hp;dsimp only;go_wp2
     go_roundg (X.length-(k+1))
     case measure=>omega
     case rel=>exact ⟨k+1,rfl,zaa,zah,HN.out,hbw2⟩
    | false =>
     have HN:Hid (Ref.dK S S.length=some (S.getD k Ref.st0).line):=Ref.su (i:=k+1) (by rw [HP1.out,MB ⟨HS1.out,hp⟩]) _ (by have:=HXl.out;omega);obtain ⟨gs,hpva,s0,s1,hpc⟩:=HSp.out k hkn;have hgs:=MQ _ _ s0;have t0:=(MK (w:=w) (w':=w2) (a:=⟨gs,k*2,none⟩) (hbw2.block gs hgs)).trans s0;have t1:=(MK (w:=w) (w':=w2) (a:=⟨gs,k*2+1,none⟩) (hbw2.block gs hgs)).trans s1;rw [hpva] at d1;clear hp s0 s1 hpva;generalize hln:(S.getD k Ref.st0).line=ln at *;generalize hdp:(S.getD k Ref.st0).depth=dp at *;clear hln hdp;dsimp only;go_wp2_with fail;refine (aU ln dp 3 _).mono ?_;rintro e w3 ⟨hb,b,h5,h6,rfl⟩;dsimp only;refine ⟨rfl,?_⟩;unfold qp;rw [HN.out];exact ⟨hbw2.trans (hb.mono hbw2.size),b,Mv hbw2.size h5,h6,rfl⟩
   ·have HN:Hid (Ref.dK S (k+1)=none):=by unfold Hid;rw [HP1.out,Mz (fun h=>h1 (by rw [hkk];exact h.1))]
    have h1':(Pro.ao X[k].s == 1)=false:=by simpa using h1
    generalize hkd:Pro.ao X[k].s=kd at *;clear hkd hkk h1;go_wp2_with (first
     | (refine NV rfl 172 (.tmp 12) rfl g (k*8) rfl _ _ hrng' underlying172 rfl cQ ?_)
     | (refine aI rfl 172 (.tmp 3) (.tmp 13) rfl 172 _ _ rfl rfl cQ rfl rfl ?_))
    go_roundg (X.length-(k+1))
    case measure=>omega
    case rel=>exact ⟨k+1,rfl,zaa,zah,HN.out,hbr.alloc hbs _⟩
  ·have hke:k=X.length:=zaa;have HN:Hid (Ref.dK S S.length=none):=by
    have:=hpar;rw [hke,HXl.out] at this;exact this
   clear hpar;go_wp2;go_end0;unfold qp;rw [HN.out];exact ⟨rfl,hbr⟩
