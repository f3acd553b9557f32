import Derived.Test.YtkgklodamkkpgaaGreatDoorM13
set_option maxRecDepth 100000
set_option maxHeartbeats 8000000
namespace Go.Proofs.YtkgklodamkkpgaaGreatDoor
variable {zp:Prop}
theorem zcB (h:zp:=by
 go_simp;refine hK _ _ ?_;clear hK K;refine yA [1,7] ?_;refine M5 rfl (fun K hK => ?_) (M5 rfl (fun K hK => ?_) Ns)
 ·go_simp;refine hK _ _ ?_;clear hK K;refine zA 7 rfl fun K hK => ?_
  ·go_simp;refine HC.out.mono ?_;rintro e w4 h4;unfold aA at h4;rw [M4 hh] at h4;obtain ⟨rfl,hb4⟩:=h4;obtain ⟨cx,fx,q0,q1,q2⟩:=HF.out w4 hb4;dsimp only;refine hK _ _ ?_;clear hK K;refine tA 8 (.pointer (some ⟨g,u*8,none⟩)) rfl ?_;refine tA 9 (.pointer (some ⟨g,u*8+6,none⟩)) rfl ?_;refine zA 10 rfl fun K hK => ?_;go_simp;refine (bH num dep a n c g (u*8+6) _ _ _ cx h2).mono ?_;exact zfF
 ·go_simp;refine HC.out.mono ?_;rintro e w4 h4;unfold aA at h4;rw [M4 hh] at h4;obtain ⟨rfl,hb4⟩:=h4;obtain ⟨cx,fx,q0,q1,q2⟩:=HF.out w4 hb4;dsimp only;refine hK _ _ ?_;clear hK K;refine tA 8 (.pointer (some ⟨g,u*8,none⟩)) rfl ?_;refine tA 9 (.pointer (some ⟨g,u*8+6,none⟩)) rfl ?_;refine zA 1 rfl fun K hK => ?_;go_simp;refine hK _ _ ?_;clear hK K;refine zA 10 rfl fun K hK => ?_;go_simp;refine (bH num dep a n c g (u*8+6) _ _ _ cx h2).mono ?_;rintro e w5 ⟨hb,b,h5,h6,rfl⟩;dsimp only;exact ⟨rfl,(hb1.trans (hb4.mono hb1.size)).trans (hb.mono (MX hb1.size hb4.size)),b,MX (MX hb1.size hb4.size) h5,h6,rfl⟩):zp:=h
theorem zcD (h:zp:=by
 go_simp;refine hK _ _ ?_;clear hK K;refine yA [1,7] ?_;refine M5 rfl (fun K hK => ?_) (M5 rfl (fun K hK => ?_) Ns)
 ·go_simp;refine hK _ _ ?_;clear hK K;refine zA 7 rfl fun K hK => ?_
  ·go_simp;refine HC.out.mono ?_;rintro e w4 h4;unfold aA at h4;rw [M4 hh] at h4;obtain ⟨rfl,hb4⟩:=h4;obtain ⟨cx,fx,q0,q1,q2⟩:=HF.out w4 hb4;dsimp only;refine hK _ _ ?_;clear hK K;refine tA 8 (.pointer (some ⟨g,u*8,none⟩)) rfl ?_;refine tA 9 (.pointer (some ⟨g,u*8+6,none⟩)) rfl ?_;refine zA 10 rfl fun K hK => ?_;go_simp;refine (br num dep a n c g (u*8+6) _ _ cx fx).mono ?_;exact zfG
 ·go_simp;refine HC.out.mono ?_;rintro e w4 h4;unfold aA at h4;rw [M4 hh] at h4;obtain ⟨rfl,hb4⟩:=h4;obtain ⟨cx,fx,q0,q1,q2⟩:=HF.out w4 hb4;dsimp only;refine hK _ _ ?_;clear hK K;refine tA 8 (.pointer (some ⟨g,u*8,none⟩)) rfl ?_;refine tA 9 (.pointer (some ⟨g,u*8+6,none⟩)) rfl ?_;refine zA 1 rfl fun K hK => ?_;go_simp;refine hK _ _ ?_;clear hK K;refine zA 10 rfl fun K hK => ?_;go_simp;refine (br num dep a n c g (u*8+6) _ _ cx fx).mono ?_;rintro e w5 ⟨rfl,hb5⟩;have G5:=HG.out w4 w5 hb4 hb5;dsimp only;refine hK _ _ ?_;clear hK K;refine Oq zab ?_ _;go_wp2;go_end0;exact ⟨rfl,G5⟩):zp:=h
theorem zcO (h:zp:=by
 go_simp;refine hK _ _ ?_;clear hK K;refine zA 5 rfl fun K hK => ?_
 ·go_simp;refine hK _ _ ?_;clear hK K;refine zA 7 rfl fun K hK => ?_
  ·go_simp;refine HC.out.mono ?_;rintro e w4 h4;unfold aA at h4;rw [M4 hh] at h4;obtain ⟨rfl,hb4⟩:=h4;obtain ⟨cx,fx,q0,q1,q2⟩:=HF.out w4 hb4;dsimp only;refine hK _ _ ?_;clear hK K;refine tA 8 (.pointer (some ⟨g,u*8,none⟩)) rfl ?_;refine tA 9 (.pointer (some ⟨g,u*8+6,none⟩)) rfl ?_;refine zA 10 rfl fun K hK => ?_;go_simp;refine (bH num dep a n c g (u*8+6) _ _ _ cx h2).mono ?_;rintro e w5 ⟨hb,b,h5,h6,rfl⟩;dsimp only;exact ⟨rfl,(hb1.trans (hb4.mono hb1.size)).trans (hb.mono (MX hb1.size hb4.size)),b,MX (MX hb1.size hb4.size) h5,h6,rfl⟩):zp:=h
theorem zcQ (h:zp:=by
 go_simp;refine hK _ _ ?_;clear hK K;refine zA 6 rfl fun K hK => ?_
 ·go_simp;refine hK _ _ ?_;clear hK K;refine zA 7 rfl fun K hK => ?_
  ·go_simp;refine HC.out.mono ?_;rintro e w4 h4;unfold aA at h4;rw [M4 hh] at h4;obtain ⟨rfl,hb4⟩:=h4;obtain ⟨cx,fx,q0,q1,q2⟩:=HF.out w4 hb4;dsimp only;refine hK _ _ ?_;clear hK K;refine tA 8 (.pointer (some ⟨g,u*8,none⟩)) rfl ?_;refine tA 9 (.pointer (some ⟨g,u*8+6,none⟩)) rfl ?_;refine zA 10 rfl fun K hK => ?_;go_simp;refine (bH num dep a n c g (u*8+6) _ _ _ cx h2).mono ?_;rintro e w5 ⟨hb,b,h5,h6,rfl⟩;dsimp only;exact ⟨rfl,(hb1.trans (hb4.mono hb1.size)).trans (hb.mono (MX hb1.size hb4.size)),b,MX (MX hb1.size hb4.size) h5,h6,rfl⟩):zp:=h
theorem zcU (h:zp:=by
 go_simp;refine hK _ _ ?_;clear hK K;refine zA 5 rfl fun K hK => ?_
 ·go_simp;refine hK _ _ ?_;clear hK K;refine zA 7 rfl fun K hK => ?_
  ·go_simp;refine HC.out.mono ?_;rintro e w4 h4;unfold aA at h4;rw [M4 hh] at h4;obtain ⟨rfl,hb4⟩:=h4;obtain ⟨cx,fx,q0,q1,q2⟩:=HF.out w4 hb4;dsimp only;refine hK _ _ ?_;clear hK K;refine tA 8 (.pointer (some ⟨g,u*8,none⟩)) rfl ?_;refine tA 9 (.pointer (some ⟨g,u*8+6,none⟩)) rfl ?_;refine zA 10 rfl fun K hK => ?_;go_simp;refine (br num dep a n c g (u*8+6) _ _ cx fx).mono ?_;rintro e w5 ⟨rfl,hb5⟩;have G5:=HG.out w4 w5 hb4 hb5;dsimp only;refine hK _ _ ?_;clear hK K;refine Oq zab ?_ _;go_wp2;go_end0;exact ⟨rfl,G5⟩):zp:=h
theorem zcW (h:zp:=by
 go_simp;refine hK _ _ ?_;clear hK K;refine zA 6 rfl fun K hK => ?_
 ·go_simp;refine hK _ _ ?_;clear hK K;refine zA 7 rfl fun K hK => ?_
  ·go_simp;refine HC.out.mono ?_;rintro e w4 h4;unfold aA at h4;rw [M4 hh] at h4;obtain ⟨rfl,hb4⟩:=h4;obtain ⟨cx,fx,q0,q1,q2⟩:=HF.out w4 hb4;dsimp only;refine hK _ _ ?_;clear hK K;refine tA 8 (.pointer (some ⟨g,u*8,none⟩)) rfl ?_;refine tA 9 (.pointer (some ⟨g,u*8+6,none⟩)) rfl ?_;refine zA 10 rfl fun K hK => ?_;go_simp;refine (br num dep a n c g (u*8+6) _ _ cx fx).mono ?_;rintro e w5 ⟨rfl,hb5⟩;have G5:=HG.out w4 w5 hb4 hb5;dsimp only;refine hK _ _ ?_;clear hK K;refine Oq zab ?_ _;go_wp2;go_end0;exact ⟨rfl,G5⟩):zp:=h
theorem zda (h:zp:=by
 obtain ⟨k,h0,h4,hw,hd⟩:=h;rw [fE h0 h4 hw hd,hw];have hk:k=0\/k=1\/k=2\/k=3\/k=4:=zaa
 rcases hk with rfl | rfl | rfl | rfl | rfl
 ·rw [show bs 0=kX from rfl,iS];rfl
 ·rw [show bs 1=fB from rfl,fa];rfl
 ·rw [show bs 2=kW from rfl,iL];rfl
 ·rw [show bs 3=da from rfl,bS];rfl
 ·rw [show bs 4=da from rfl,bS];rfl):zp:=h
theorem zdc (h:zp:=by
 intro w4 hb4;have hbg:=(hb1.trans (hb4.mono hb1.size)).block g hgl;have hbw:w4.heap[w.heap.size]?=some (.cells #[(num:Int),(dep:Int),.slice a n c] 363 (0,0)):=by
  rw [hb4.block w hlw,N9 _ _ _ zad];exact Na w _
 refine ⟨(Nk hbg).trans cv,(PW hbg).trans hfz,?_,?_,?_⟩ <;> rw [M0 w4 _ _ _ _ _ hbw] <;> rfl):zp:=h
theorem zdf (h:zp:=by
 simp only [Int.toNat_natCast];rw [M4 zaa,M4 zaa,iJ hw];simp only [he];obtain ⟨r0,r4⟩:=kh hw;have hk:al (S.getD u Ref.st0)=0\/al (S.getD u Ref.st0)=1\/al (S.getD u Ref.st0)=2\/al (S.getD u Ref.st0)=3\/al (S.getD u Ref.st0)=4:=zaa
 rcases hk with e | e | e | e | e <;> rw [e] <;> simp [du,aE]):zp:=h
theorem zdS (h:zp:=by
 have:=Na ((w.alloc (.cells #[(num:Int),(dep:Int),.slice a n c] 363)).drew) (.cells #[(3:Int),(4:Int)] 158);simpa using this):zp:=h
theorem zef (h:zp:=by
 rw [Pw] at h1;obtain ⟨y,hy,hy2⟩:=h1;show List.any _ _=true;rw [Pw];exact ⟨y,PG hy,hy2⟩):zp:=h
theorem ze3 (h:zp:=by
 rw [hup];rcases how2 with h | ⟨u,h,_⟩ <;> omega):zp:=h
theorem zfl (h:zp:=by
 rintro ⟨h1,h2⟩;exact ⟨zaa,h2⟩):zp:=h
theorem zfm (h:zp:=by
 unfold Ref.gq;rw [<- hxs];exact this):zp:=h
theorem zfn (h:zp:=by
 have h:=hno;rw [hkl,N6] at h;exact h):zp:=h
theorem zan (h:zp:=by rw [hns]):zp:=h
theorem zaB (h:zp:=by rw [hxs];exact hb):zp:=h
theorem zaG (h:zp:=by rw [<- hX,Ng]):zp:=h
theorem zaT (h:zp:=by rw [Ng];omega):zp:=h
open Tryz
variable {S S':List Ref.State} {s s':Ref.State} {i k d u num j:Nat} {n:ByteArray} {A:List Ref.Act}
section
open Go.RowKit
variable {w0 w:World} {db mb nm:Nat} {sv pv ov:Ref.Sl} {tm:Bool} {X:List Pro.DS} {SP:List (Int×Int)} {O:List Nat} {PT:Nat->List Nat} {D:DataW Nat}
theorem kN (num:Int) (dep:Nat) (a:Option Addr) (n c:Nat) (G:aq w0 w db sv pv ov mb tm X SP O PT nm D) (h:dep=0\/O.length<dep) (hd:dep<=1073741824) :
  () 362 #[.agg #[(num:Int),(dep:Int),.slice a n c],db] w (aY 3 num w):=by
 have hdl:=G.dlt;go_enter func362,ntmps362
 go_upto_region 1 with fail
 have hb1:Below w w (((w.alloc (.cells #[(num:Int),(dep:Int),.slice a n c] 363)).drew).alloc (.cells #[(3:Int),(4:Int)] 158)):=((MY _ _).alloc (MR _) _).drew.alloc zad _;have G1:=G.ao hb1;refine OO zab ?_;change wpAny _ _ _ _ _ _ _ (World.drew _);refine tA 0 w rfl ?_;refine tA 2 db rfl ?_;refine tA 3 w rfl ?_;refine tA 4 w rfl ?_;refine yA [1,5,6] ?_;refine M5 rfl (fun K hK => ?_) (M5 rfl (fun K hK => ?_) (M5 rfl (fun K hK => ?_) Ns))
 ·exact zcM
 ·exact zcK
 ·exact zcJ
theorem qt (num:Int) (dep:Nat) (a:Option Addr) (n c:Nat) (k u g cap:Nat) (G:aq w0 w db ⟨some ⟨g,0,none⟩,X.length,cap⟩ pv ov mb tm X SP O PT nm D) (hk:k<O.length) (hd:dep=k+1) (hO:O.length<=1073741824) (hku:O[k]=u) (hu:u<X.length) (hh:Pro.al X[u].s∈([3,4]:List Int)) :
  () 362 #[.agg #[(num:Int),(dep:Int),.slice a n c],db] w (aY 3 num w):=by
 have hdl:=G.dlt;have hb1:Below w w (((w.alloc (.cells #[(num:Int),(dep:Int),.slice a n c] 363)).drew).alloc (.cells #[(3:Int),(4:Int)] 158)):=((MY _ _).alloc (MR _) _).drew.alloc zad _;have hkb:(((w.alloc (.cells #[(num:Int),(dep:Int),.slice a n c] 363)).drew).alloc (.cells #[(3:Int),(4:Int)] 158)).heap[w.heap.size+1]?=some (.cells (([3,4]:List Int).map (Value.int .i64)).toArray 158 (0,0)):=by
  exact zdS
 have HC:Hid (() 358 #[db,.agg #[(num:Int),(dep:Int)],.slice (some ⟨w.heap.size+1,0,none⟩) 2 2] (((w.alloc (.cells #[(num:Int),(dep:Int),.slice a n c] 363)).drew).alloc (.cells #[(3:Int),(4:Int)] 158)) (aA num (Pro.al X[u].s) [3,4] ⟨g,u*8,none⟩ (((w.alloc (.cells #[(num:Int),(dep:Int),.slice a n c] 363)).drew).alloc (.cells #[(3:Int),(4:Int)] 158)))):=cY num dep k u [3,4] (w.heap.size+1) g cap (G.ao hb1) hk hd hO hku hu hkb zac;clear hd hku hk hO hkb;go_enter func362,ntmps362
 go_upto_region 1 with fail
 refine OO zab ?_;change wpAny _ _ _ _ _ _ _ (World.drew _);refine tA 0 w rfl ?_;refine tA 2 db rfl ?_;refine tA 3 w rfl ?_;refine tA 4 w rfl ?_;refine yA [1,5,6] ?_;refine M5 rfl (fun K hK => ?_) (M5 rfl (fun K hK => ?_) (M5 rfl (fun K hK => ?_) Ns))
 ·exact zcL
 ·exact zcG
 ·exact zcF
theorem pD (num:Int) (dep:Nat) (a:Option Addr) (n c:Nat) (k u g cap:Nat) (G:aq w0 w db ⟨some ⟨g,0,none⟩,X.length,cap⟩ pv ov mb tm X SP O PT nm D) (hk:k<O.length) (hd:dep=k+1) (hO:O.length<=1073741824) (hku:O[k]=u) (hu:u<X.length) (hh:¬ Pro.al X[u].s∈([3,4]:List Int)) (h2:0<X[u].vl.n) :
  () 362 #[.agg #[(num:Int),(dep:Int),.slice a n c],db] w (aY 3 num w):=by
 have hdl:=G.dlt;have hb1:Below w w (((w.alloc (.cells #[(num:Int),(dep:Int),.slice a n c] 363)).drew).alloc (.cells #[(3:Int),(4:Int)] 158)):=((MY _ _).alloc (MR _) _).drew.alloc zad _;have hkb:(((w.alloc (.cells #[(num:Int),(dep:Int),.slice a n c] 363)).drew).alloc (.cells #[(3:Int),(4:Int)] 158)).heap[w.heap.size+1]?=some (.cells (([3,4]:List Int).map (Value.int .i64)).toArray 158 (0,0)):=by
  exact zdS
 have HC:Hid (() 358 #[db,.agg #[(num:Int),(dep:Int)],.slice (some ⟨w.heap.size+1,0,none⟩) 2 2] (((w.alloc (.cells #[(num:Int),(dep:Int),.slice a n c] 363)).drew).alloc (.cells #[(3:Int),(4:Int)] 158)) (aA num (Pro.al X[u].s) [3,4] ⟨g,u*8,none⟩ (((w.alloc (.cells #[(num:Int),(dep:Int),.slice a n c] 363)).drew).alloc (.cells #[(3:Int),(4:Int)] 158)))):=cY num dep k u [3,4] (w.heap.size+1) g cap (G.ao hb1) hk hd hO hku hu hkb zac;obtain ⟨hcap,hgl,hg0⟩:=G.tN;have hrng:=G.ui hu;have hfz:w.frozen? ⟨g,u*8+6,none⟩=false:=OC (aD G.states (Ni _)) _;have cv:w.cell? ⟨g,u*8+6,none⟩=some (.slice X[u].vl.a X[u].vl.n X[u].vl.c):=hrng 6 _ rfl;have hlw:w.heap.size<(((w.alloc (.cells #[(num:Int),(dep:Int),.slice a n c] 363)).drew).alloc (.cells #[(3:Int),(4:Int)] 158)).heap.size:=zae;have HF:Hid (∀ w4,Below (((w.alloc (.cells #[(num:Int),(dep:Int),.slice a n c] 363)).drew).alloc (.cells #[(3:Int),(4:Int)] 158)).heap.size (((w.alloc (.cells #[(num:Int),(dep:Int),.slice a n c] 363)).drew).alloc (.cells #[(3:Int),(4:Int)] 158)) w4->w4.cell? ⟨g,u*8+6,none⟩=some (.slice X[u].vl.a X[u].vl.n X[u].vl.c)/\w4.frozen? ⟨g,u*8+6,none⟩=false/\w4.cell? w=some ↑(num:Int)/\w4.cell? ⟨w,1,none⟩=some ↑(dep:Int)/\w4.cell? ⟨w,2,none⟩=some (.slice a n c)):=by
  exact zdc
 clear cv hfz hrng;clear hd hku hk hO hkb;go_enter func362,ntmps362
 go_upto_region 1 with fail
 refine OO zab ?_;change wpAny _ _ _ _ _ _ _ (World.drew _);refine tA 0 w rfl ?_;refine tA 2 db rfl ?_;refine tA 3 w rfl ?_;refine tA 4 w rfl ?_;refine yA [1,5,6] ?_;refine M5 rfl (fun K hK => ?_) (M5 rfl (fun K hK => ?_) (M5 rfl (fun K hK => ?_) Ns))
 ·go_simp;refine hK _ _ ?_;clear hK K;refine yA [5,6] ?_;refine M5 rfl (fun K hK => ?_) (M5 rfl (fun K hK => ?_) Ns)
  ·exact zcQ
  ·exact zcO
 ·go_simp;refine hK _ _ ?_;clear hK K;refine yA [1,6] ?_;refine M5 rfl (fun K hK => ?_) (M5 rfl (fun K hK => ?_) Ns)
  ·exact zcQ
  ·exact zcB
 ·go_simp;refine hK _ _ ?_;clear hK K;refine yA [1,5] ?_;refine M5 rfl (fun K hK => ?_) (M5 rfl (fun K hK => ?_) Ns)
  ·exact zcO
  ·exact zcB
theorem sg (num:Int) (dep:Nat) (a:Option Addr) (n c:Nat) (k u g cap:Nat) (G:aq w0 w db ⟨some ⟨g,0,none⟩,X.length,cap⟩ pv ov mb tm X SP O PT nm D) (hk:k<O.length) (hd:dep=k+1) (hO:O.length<=1073741824) (hku:O[k]=u) (hu:u<X.length) (hh:¬ Pro.al X[u].s∈([3,4]:List Int)) (h2:X[u].vl.n=0) (A:List Ref.Act) (hA:w0.ownsRow 0 250 1 (.slice a n c) A.length (A.map bg)) :
  () 362 #[.agg #[(num:Int),(dep:Int),.slice a n c],db] w fun e w'=>e = .returned (.tuple #[])/\aq w0 w' db ⟨some ⟨g,0,none⟩,X.length,cap⟩ pv ov mb tm (X.set u (Pro.gI X[u] num A ⟨a,n,c⟩)) SP O PT nm D:=by
 have hdl:=G.dlt;have hb1:Below w w (((w.alloc (.cells #[(num:Int),(dep:Int),.slice a n c] 363)).drew).alloc (.cells #[(3:Int),(4:Int)] 158)):=((MY _ _).alloc (MR _) _).drew.alloc zad _;have hkb:(((w.alloc (.cells #[(num:Int),(dep:Int),.slice a n c] 363)).drew).alloc (.cells #[(3:Int),(4:Int)] 158)).heap[w.heap.size+1]?=some (.cells (([3,4]:List Int).map (Value.int .i64)).toArray 158 (0,0)):=by
  exact zdS
 have HC:Hid (() 358 #[db,.agg #[(num:Int),(dep:Int)],.slice (some ⟨w.heap.size+1,0,none⟩) 2 2] (((w.alloc (.cells #[(num:Int),(dep:Int),.slice a n c] 363)).drew).alloc (.cells #[(3:Int),(4:Int)] 158)) (aA num (Pro.al X[u].s) [3,4] ⟨g,u*8,none⟩ (((w.alloc (.cells #[(num:Int),(dep:Int),.slice a n c] 363)).drew).alloc (.cells #[(3:Int),(4:Int)] 158)))):=cY num dep k u [3,4] (w.heap.size+1) g cap (G.ao hb1) hk hd hO hku hu hkb zac;obtain ⟨hcap,hgl,hg0⟩:=G.tN;have hrng:=G.ui hu;have hfz:w.frozen? ⟨g,u*8+6,none⟩=false:=OC (aD G.states (Ni _)) _;have cv:w.cell? ⟨g,u*8+6,none⟩=some (.slice X[u].vl.a X[u].vl.n X[u].vl.c):=hrng 6 _ rfl;have hlw:w.heap.size<(((w.alloc (.cells #[(num:Int),(dep:Int),.slice a n c] 363)).drew).alloc (.cells #[(3:Int),(4:Int)] 158)).heap.size:=zae;have HF:Hid (∀ w4,Below (((w.alloc (.cells #[(num:Int),(dep:Int),.slice a n c] 363)).drew).alloc (.cells #[(3:Int),(4:Int)] 158)).heap.size (((w.alloc (.cells #[(num:Int),(dep:Int),.slice a n c] 363)).drew).alloc (.cells #[(3:Int),(4:Int)] 158)) w4->w4.cell? ⟨g,u*8+6,none⟩=some (.slice X[u].vl.a X[u].vl.n X[u].vl.c)/\w4.frozen? ⟨g,u*8+6,none⟩=false/\w4.cell? w=some ↑(num:Int)/\w4.cell? ⟨w,1,none⟩=some ↑(dep:Int)/\w4.cell? ⟨w,2,none⟩=some (.slice a n c)):=by
  exact zdc
 have HG:Hid (∀ w4 w5,Below (((w.alloc (.cells #[(num:Int),(dep:Int),.slice a n c] 363)).drew).alloc (.cells #[(3:Int),(4:Int)] 158)).heap.size (((w.alloc (.cells #[(num:Int),(dep:Int),.slice a n c] 363)).drew).alloc (.cells #[(3:Int),(4:Int)] 158)) w4->Below w4.heap.size (w4.setCell ⟨g,u*8+6,none⟩ (.slice a n c)) w5->aq w0 w5 db ⟨some ⟨g,0,none⟩,X.length,cap⟩ pv ov mb tm (X.set u (Pro.gI X[u] num A ⟨a,n,c⟩)) SP O PT nm D):=by
  intro w4 w5 hb4 hb5;have hw4:=hb1.trans (hb4.mono hb1.size);have h:=G.Dl (v':=⟨a,n,c⟩) (x':=Pro.gI X[u] num A ⟨a,n,c⟩) (j:=6) hw4 hu zac rfl rfl rfl rfl (G.deep u hu).enter hA;exact h.ao (hb5.mono zad)
 rw [h2] at HF;clear cv hfz hrng h2;clear hd hku hk hO hkb;go_enter func362,ntmps362
 go_upto_region 1 with fail
 refine OO zab ?_;change wpAny _ _ _ _ _ _ _ (World.drew _);refine tA 0 w rfl ?_;refine tA 2 db rfl ?_;refine tA 3 w rfl ?_;refine tA 4 w rfl ?_;refine yA [1,5,6] ?_;refine M5 rfl (fun K hK => ?_) (M5 rfl (fun K hK => ?_) (M5 rfl (fun K hK => ?_) Ns))
 ·go_simp;refine hK _ _ ?_;clear hK K;refine yA [5,6] ?_;refine M5 rfl (fun K hK => ?_) (M5 rfl (fun K hK => ?_) Ns)
  ·exact zcW
  ·exact zcU
 ·go_simp;refine hK _ _ ?_;clear hK K;refine yA [1,6] ?_;refine M5 rfl (fun K hK => ?_) (M5 rfl (fun K hK => ?_) Ns)
  ·exact zcW
  ·exact zcD
 ·go_simp;refine hK _ _ ?_;clear hK K;refine yA [1,5] ?_;refine M5 rfl (fun K hK => ?_) (M5 rfl (fun K hK => ?_) Ns)
  ·exact zcU
  ·exact zcD
namespace Pro
def fI (S:List Ref.State):Nat->List Nat
 | 0=>[]
 | k+1=>(fI S k).take (S.getD k Ref.st0).depth.toNat++[k]
def opn (S:List Ref.State):List Nat:=fI S S.length
def Val (S:List Ref.State):Prop:=∀ k,k<S.length->0<=(S.getD k Ref.st0).depth/\(S.getD k Ref.st0).depth.toNat<=(fI S k).length
theorem gU {S S':List Ref.State}:∀ k,(∀ i,i<k->(S.getD i Ref.st0).depth=(S'.getD i Ref.st0).depth)->fI S k=fI S' k
 | 0,_=>rfl
 | k+1,h=>by rw [fI,fI,gU k (fun i hi=>h i zaa),h k zaa]
theorem IC {S:List Ref.State} (hV:Val S) (dn:Nat) (hd:0<dn):∀ k,k<=S.length->Ref.gd S dn k=match (fI S k)[dn-1]? with | some i=>(i:Int) | none => -1
 | 0,_=>by simp [Ref.gd,fI]
 | k+1,hk=>by
  have ih:=IC hV dn hd k zaa;obtain ⟨h0,h1⟩:=hV k zaa;obtain ⟨e,he⟩:∃ e:Nat,(S.getD k Ref.st0).depth=e:=⟨(S.getD k Ref.st0).depth.toNat,zaa⟩;rw [he] at h1;simp only [Int.toNat_natCast] at h1;rw [Ref.gd,fI,he];simp only [Int.toNat_natCast];have hl:((fI S k).take e).length=e:=za5;by_cases h2:(e:Int)=dn-1
  ·rw [M6 h2,Oe zaa,hl];have:dn-1-e=0:=zaa;rw [this];rfl
  ·rw [M4 h2];by_cases h3:(e:Int)<dn-1
   ·rw [M6 h3,Ny (by rw [Nj,hl];simp;omega)]
   ·rw [M4 h3,ih,N7 zaa,P1,M6 zaa]
theorem lT (hV:Val S) (dn:Nat):Ref.dv S dn=if dn=0 then -1 else match (opn S)[dn-1]? with | some i=>(i:Int) | none => -1:=by
 unfold Ref.dv;by_cases h:dn=0
 ·subst h;rfl
 ·rw [M4 h,M6 zaa,IC hV dn zaa S.length (MR _)];rfl
theorem eH (S:List Ref.State):∀ k,∀ i∈fI S k,i<k
 | 0,i,h=>by simp [fI] at h
 | k+1,i,h=>by
  rw [fI] at h
  rcases Nr.1 h with h | h
  ·have:=eH S k i (PG h);omega
  ·rw [M8.1 h];omega
theorem jR (S:List Ref.State):∀ k,(fI S k).length<=k
 | 0=>by simp [fI]
 | k+1=>by
  have:=jR S k;rw [fI,Nj,N8];simp;omega
theorem bn (h:i<S.length):(S++[s]).getD i Ref.st0=S.getD i Ref.st0:=by
 rw [Nh,Nh,N7 h]
theorem cZ:(S++[s]).getD S.length Ref.st0=s:=by
 rw [Nh,Oe (MR _)];simp
theorem B4 (S:List Ref.State) (s:Ref.State):opn (S++[s])=(opn S).take s.depth.toNat++[S.length]:=by
 unfold opn;rw [Nj,show S.length+[s].length=S.length+1 from rfl,fI,cZ,gU (S':=S) S.length (fun i hi=>by rw [bn hi])]
theorem CE (hV:Val S) (h0:0<=s.depth) (h1:s.depth.toNat<=(opn S).length):Val (S++[s]):=by
 intro k hk;by_cases h:k<S.length
 ·rw [bn h,gU (S':=S) k (fun i hi=>by rw [bn zaa])];exact hV k h
 ·have e:k=S.length:=by simp at hk;omega
  subst e;rw [cZ,gU (S':=S) S.length (fun i hi=>by rw [bn hi])];exact ⟨h0,h1⟩
def cn (S:List Ref.State) (i:Nat):Nat->List Nat
 | 0=>[]
 | k+1=>if (S.getD k Ref.st0).up=i then cn S i k++[k] else cn S i k
def parts (S:List Ref.State) (i:Nat):List Nat:=cn S i S.length
theorem ju {S S':List Ref.State} (i:Nat):∀ k,(∀ j,j<k->(S.getD j Ref.st0).up=(S'.getD j Ref.st0).up)->cn S i k=cn S' i k
 | 0,_=>rfl
 | k+1,h=>by rw [cn,cn,ju i k (fun j hj=>h j zaa),h k zaa]
theorem xF (S:List Ref.State) (s:Ref.State) (i:Nat):parts (S++[s]) i=if (i:Int)=s.up then parts S i++[S.length] else parts S i:=by
 unfold parts;rw [Nj,show S.length+[s].length=S.length+1 from rfl,cn,cZ,ju (S':=S) i S.length (fun j hj=>by rw [bn hj])];by_cases h:s.up=i
 ·rw [M6 h,M6 h.symm]
 ·rw [M4 h,M4 (fun e=>h e.symm)]
theorem lJ (S:List Ref.State) (i:Nat):∀ k,(cn S i k).length<=k
 | 0=>by simp [cn]
 | k+1=>by
  have:=lJ S i k;rw [cn];split
  ·rw [Nj];simp;omega
  ·omega
theorem oA {S:List Ref.State} {i:Nat}:∀ k,(∀ j,j<k->(S.getD j Ref.st0).up≠i)->cn S i k=[]
 | 0,_=>rfl
 | k+1,h=>by rw [cn,M4 (h k zaa),oA k (fun j hj=>h j zaa)]
theorem iG {S:List Ref.State} {i x:Nat}:∀ k,x∈cn S i k↔x<k/\(S.getD x Ref.st0).up=i
 | 0=>by simp [cn]
 | k+1=>by
  have ih:=iG (S:=S) (i:=i) (x:=x) k;rw [cn];by_cases h:(S.getD k Ref.st0).up=i
  ·rw [M6 h,Nr,ih,M8];constructor
   ·rintro (⟨h1,h2⟩ | rfl)
    ·exact ⟨zaa,h2⟩
    ·exact ⟨zaa,h⟩
   ·rintro ⟨h1,h2⟩;by_cases e:x=k
    ·exact .inr e
    ·exact .inl ⟨zaa,h2⟩
  ·rw [M4 h,ih];constructor
   ·exact zfl
   ·rintro ⟨h1,h2⟩;have:x≠k:=by rintro rfl;exact h h2
    exact ⟨zaa,h2⟩
def ia (s:Ref.State):Prop:=∃ k:Int,0<=k/\k<=4/\s.word=bs k/\s.deep=decide (k=4)
theorem fE {k:Int} (h0:0<=k) (h4:k<=4) (hw:s.word=bs k) (hd:s.deep=decide (k=4)):al s=k:=by
 have hk:k=0\/k=1\/k=2\/k=3\/k=4:=zaa;unfold al;rw [hw,hd]
 rcases hk with rfl | rfl | rfl | rfl | rfl
 ·rw [show bs 0=kX from rfl,iS];rfl
 ·rw [show bs 1=fB from rfl,fa];rfl
 ·rw [show bs 2=kW from rfl,iL];rfl
 ·rw [show bs 3=da from rfl,bS];rfl
 ·rw [show bs 4=da from rfl,bS];rfl
theorem iJ (h:ia s):(s.word.toList == Ref.bh)=du (al s):=by
 exact zda
theorem nD (h:ia s):(s.word.toList == Ref.b7)=decide (al s=2):=by
 exact zda
theorem AD (h:ia s):(s.word.toList == Ref.aM)=decide (al s=1):=by
 exact zda
theorem kh (h:ia s):0<=al s/\al s<=4:=by
 obtain ⟨k,h0,h4,hw,hd⟩:=h;rw [fE h0 h4 hw hd];exact ⟨h0,h4⟩
structure Inv (S:List Ref.State) (i:Nat):Prop where
 val:Val S
 words:∀ s∈S,ia s
 len:S.length<=24
 up:∀ k,k<S.length -> -1<=(S.getD k Ref.st0).up/\(S.getD k Ref.st0).up<k
 enter:∀ s∈S,(0<s.has0↔s.enter≠[])
 leave:∀ s∈S,(0<s.has1↔s.leave≠[])
 aj:∀ s∈S,s.aj.length<=i
theorem Inv.nil:Inv [] 0:=⟨fun k h=>absurd h zad,fun s h=>absurd h zad,zad,fun k h=>absurd h zad,fun s h=>absurd h zad,fun s h=>absurd h zad,fun s h=>absurd h zad⟩
theorem aZ (h:k<S.length):S.getD k Ref.st0∈S:=by
 rw [Nh,MU h];exact NS h
theorem getD_eq (h:k<S.length):S.getD k Ref.st0=S[k]:=by
 rw [Nh,MU h];rfl
theorem Dy (hI:Inv S i) (hk:k<(opn S).length):Ref.dv S ((k+1:Nat):Int)=((opn S)[k]:Int)/\(opn S)[k]<S.length:=by
 refine ⟨?_,eH S S.length _ (NS hk)⟩;rw [lT hI.val,M4 zaa];rw [show k+1-1=k from rfl,MU hk]
theorem Kw (hI:Inv S i) (h:(opn S).length<d):Ref.dv S (d:Int) = -1:=by
 rw [lT hI.val,M4 zaa,Ny zaa]
theorem xw (S:List Ref.State) (u:Nat):Ref.sB (S.map Ref.emb) (u:Int)=(parts S u).isEmpty:=by
 unfold Ref.sB parts;cases h:(cn S u S.length).isEmpty
 ·have hne:cn S u S.length≠[]:=fun e=>by rw [e] at h;cases h
  obtain ⟨x,t,e⟩:=QC hne;have hx:x∈cn S u S.length:=by rw [e];exact NK
  obtain ⟨h1,h2⟩:=(iG S.length).1 hx;rw [QT];exact ⟨Ref.emb (S.getD x Ref.st0),O8 (aZ h1),by
   show ¬ (!decide ((S.getD x Ref.st0).up=(u:Int)))=true;rw [NZ h2];simp⟩
 ·have hn:cn S u S.length=[]:=PY.1 h;rw [PX];intro y hy;obtain ⟨s,hs,rfl⟩:=NI.1 hy;obtain ⟨k,hk,rfl⟩:=Pp hs;have:¬ k∈cn S u S.length:=by rw [hn];simp
  rw [iG,getD_eq hk] at this;simp only [Ref.emb,Bool.not_eq_true'];exact NM fun e=>this ⟨hk,e⟩
theorem IB (h:u<S.length):(Ref.CC (S.map Ref.emb) (u:Int)).s=S[u]:=by
 unfold Ref.CC;rw [PH,Nh,Nf,MU h];rfl
theorem Jr (hI:Inv S i) {ns:Ref.State} (hns:ia ns) {dep:Nat} (hdep:ns.depth=dep) {X:List DS} (hX:X.map (·.s)=S) (how:ns.up = -1\/∃ u:Nat,ns.up=u/\u<S.length) :
  Ref.fits (S.map Ref.emb) (Ref.emb ns)=(!decide (X.length=24)&&(!decide (5<dep)&&(if ns.up<0 then !du (al ns) else match X[ns.up.toNat]? with | some x=>holds x (parts S ns.up.toNat) (al ns) | none=>false))):=by
 have hXl:X.length=S.length:=zaG;unfold Ref.fits;rw [Ng,hXl];have hw:=iJ hns;have hf:=nD hns;simp only [Ref.emb];simp only [hdep,hw,hf];by_cases h24:S.length=24
 ·simp [h24]
 ·by_cases h5:5<dep
  ·have:(5:Int)<(dep:Int):=zaa;simp [h24,h5,this]
  ·have h5':¬ (5:Int)<(dep:Int):=zaa
   rcases how with hu | ⟨u,hu,hul⟩
   ·simp only [hu];simp [h24,h5,h5']
   ·simp only [hu];have hneg:¬ (u:Int)<0:=zaa;have hxu:X[u]?=some (X[u]'(zaa)):=MU _;have hxs:(X[u]'(zaa)).s=S[u]:=by
     have:=congrArg (fun l=>l[u]?) hX;simp only [List.getElem?_map,hxu,List.getElem?_eq_getElem hul,Option.map_some] at this;exact NO this
    have hwu:=hI.words S[u] (NS hul);have hU:=IB hul;rw [hU,iJ hwu,nD hwu,AD hwu];have hn:=xw S u;rw [hn];simp only [Int.toNat_natCast,hxu];unfold holds;rw [hxs];obtain ⟨r0,r4⟩:=kh hwu;simp only [h24,h5,h5',hneg,decide_false,Bool.false_or,Bool.false_and,Bool.not_false,Bool.true_and,if_false,Bool.false_eq_true];have hk:al S[u]=0\/al S[u]=1\/al S[u]=2\/al S[u]=3\/al S[u]=4:=zaa
    rcases hk with e | e | e | e | e <;> rw [e] <;> simp [du]
theorem xX {k:Int} (up d:Int):Ref.jQ (aE num (.state k n)) up d=⟨bs k,n,decide (k=4),up,d,num,[],[],[],0,0⟩:=rfl
theorem td {k:Int}:Ref.bA S i (aE num (.state k n)) (d:Int)=if 0<d/\Ref.dv S d<0 then none else if Ref.fits (S.map Ref.emb) (Ref.emb ⟨bs k,n,decide (k=4),Ref.dv S d,d,num,[],[],[],0,0⟩) then some (S++[⟨bs k,n,decide (k=4),Ref.dv S d,d,num,[],[],[],0,0⟩]) else none:=by
 unfold Ref.bA;rw [M6 (show (aE num (.state k n)).kind=115 from rfl),xX];have e:(0<(d:Int)/\Ref.dv S ↑d<0)=(0<d/\Ref.dv S ↑d<0):=zad;simp only [e]
theorem vP (hI:Inv S j) {ev t:ByteArray} {af:Bool} {dl:Int}:Ref.bA S i (aE num (.move ev af dl t A)) (d:Int) =
  if d=0 then none else match (opn S)[d-1]? with
   | none=>none
   | some u=>if al (S.getD u Ref.st0)∈([2,3,4]:List Int) then none else some (Ref.gq S u fun p=>{ p with aj:=p.aj++[⟨ev,t,af,dl,A,num⟩] }):=by
 unfold Ref.bA;rw [M4 (show ¬ (aE num (.move ev af dl t A)).kind=115 by simp [aE]),M6 (show (aE num (.move ev af dl t A)).kind=109 from rfl),lT hI.val];by_cases h0:d=0
 ·subst h0;simp
 ·rw [M4 h0,M4 h0];cases e:(opn S)[d-1]? with
  | none=>simp
  | some u =>
   have hu:u<S.length:=eH S S.length u (Nc e);have hw:=hI.words _ (aZ hu);simp only [Int.toNat_natCast];rw [M4 zaa,M4 zaa,iJ hw,nD hw];obtain ⟨r0,r4⟩:=kh hw;have hk:al (S.getD u Ref.st0)=0\/al (S.getD u Ref.st0)=1\/al (S.getD u Ref.st0)=2\/al (S.getD u Ref.st0)=3\/al (S.getD u Ref.st0)=4:=zaa
   rcases hk with e | e | e | e | e <;> rw [e] <;> simp [du,aE]
theorem sZ (hI:Inv S j):Ref.bA S i (aE num (.enter A)) (d:Int) =
  if d=0 then none else match (opn S)[d-1]? with
   | none=>none
   | some u=>if al (S.getD u Ref.st0)∈([3,4]:List Int) then none else if (S.getD u Ref.st0).enter≠[] then none else some (Ref.gq S u fun p=>{ p with has0:=i+1,enter:=A }):=by
 unfold Ref.bA;rw [M4 (show ¬ (aE num (.enter A)).kind=115 by simp [aE]),M4 (show ¬ (aE num (.enter A)).kind=109 by simp [aE]),M6 (show (aE num (.enter A)).kind=101 from rfl),lT hI.val];by_cases h0:d=0
 ·subst h0;simp
 ·rw [M4 h0,M4 h0];cases e:(opn S)[d-1]? with
  | none=>simp
  | some u =>
   have hu:u<S.length:=eH S S.length u (Nc e);have hw:=hI.words _ (aZ hu);have he:=hI.enter _ (aZ hu);exact zdf
theorem s9 (hI:Inv S j):Ref.bA S i (aE num (.leave A)) (d:Int) =
  if d=0 then none else match (opn S)[d-1]? with
   | none=>none
   | some u=>if al (S.getD u Ref.st0)∈([3,4]:List Int) then none else if (S.getD u Ref.st0).leave≠[] then none else some (Ref.gq S u fun p=>{ p with has1:=i+1,leave:=A }):=by
 unfold Ref.bA;rw [M4 (show ¬ (aE num (.leave A)).kind=115 by simp [aE]),M4 (show ¬ (aE num (.leave A)).kind=109 by simp [aE]),M4 (show ¬ (aE num (.leave A)).kind=101 by simp [aE]),M6 (show (aE num (.leave A)).kind=108 from rfl),lT hI.val];by_cases h0:d=0
 ·subst h0;simp
 ·rw [M4 h0,M4 h0];cases e:(opn S)[d-1]? with
  | none=>simp
  | some u =>
   have hu:u<S.length:=eH S S.length u (Nc e);have hw:=hI.words _ (aZ hu);have he:=hI.leave _ (aZ hu);exact zdf
def aQ (S:List Ref.State):Nat->DataW Nat
 | 0 => .map []
 | k+1=>if Go.Maps.has (aQ S k) (.string (S.getD k Ref.st0).name.data.toList) then aQ S k else (aQ S k).put (.string (S.getD k Ref.st0).name.data.toList) (.lit (.int .i64 (S.getD k Ref.st0).line))
def dN (S:List Ref.State):List (Int×Int):=S.map fun s=>(s.line,s.depth)
def bL (S:List Ref.State):Bool:=S.any fun s=>s.aj.any (·.after)
structure kT (S S':List Ref.State):Prop where
 len:S'.length=S.length
 same:∀ k,(S'.getD k Ref.st0).word=(S.getD k Ref.st0).word/\(S'.getD k Ref.st0).name=(S.getD k Ref.st0).name/\(S'.getD k Ref.st0).deep=(S.getD k Ref.st0).deep/\(S'.getD k Ref.st0).up=(S.getD k Ref.st0).up/\(S'.getD k Ref.st0).depth=(S.getD k Ref.st0).depth/\(S'.getD k Ref.st0).line=(S.getD k Ref.st0).line
theorem kT.Mk (h:kT S S') (k:Nat):fI S' k=fI S k:=gU k (fun i _=>(h.same i).2.2.2.2.1)
theorem kT.opn (h:kT S S'):opn S'=opn S:=by unfold Pro.opn;rw [h.len];exact h.Mk _
theorem kT.parts (h:kT S S') (i:Nat):parts S' i=parts S i:=by unfold Pro.parts;rw [h.len];exact ju i _ (fun j _=>(h.same j).2.2.2.1)
theorem kT.first {S S':List Ref.State} (h:kT S S'):∀ k,aQ S' k=aQ S k
 | 0=>rfl
 | k+1=>by rw [aQ,aQ,h.first k,(h.same k).2.1,(h.same k).2.2.2.2.2]
theorem kT.iR (h:kT S S'):dN S'=dN S:=by
 unfold dN;apply List.ext_getElem
 ·simp [h.len]
 ·intro k h1 h2;simp only [List.length_map] at h1 h2;have:=h.same k;rw [getD_eq h1,getD_eq h2] at this;simp only [List.getElem_map];rw [this.2.2.2.2.1,this.2.2.2.2.2]
theorem uQ (h:s'.word=(S.getD u Ref.st0).word/\s'.name=(S.getD u Ref.st0).name/\s'.deep=(S.getD u Ref.st0).deep/\s'.up=(S.getD u Ref.st0).up/\s'.depth=(S.getD u Ref.st0).depth/\s'.line=(S.getD u Ref.st0).line):kT S (S.set u s'):=by
 refine ⟨Nl,fun k => ?_⟩;by_cases e:u=k
 ·subst e;by_cases hu:u<S.length
  ·have:(S.set u s').getD u Ref.st0=s':=by
    rw [Nh,Pb];simp [hu]
   rw [this];exact h
  ·rw [QL zaa];exact ⟨rfl,rfl,rfl,rfl,rfl,rfl⟩
 ·have:(S.set u s').getD k Ref.st0=S.getD k Ref.st0:=by
   rw [Nh,Pb,M4 e,Nh]
  rw [this];exact ⟨rfl,rfl,rfl,rfl,rfl,rfl⟩
theorem JA (hI:Inv S i) (hu:u<S.length) (h:s'.word=(S.getD u Ref.st0).word/\s'.name=(S.getD u Ref.st0).name/\s'.deep=(S.getD u Ref.st0).deep/\s'.up=(S.getD u Ref.st0).up/\s'.depth=(S.getD u Ref.st0).depth/\s'.line=(S.getD u Ref.st0).line)
  (h0:0<s'.has0↔s'.enter≠[]) (h1:0<s'.has1↔s'.leave≠[]) (hm:s'.aj.length<=i+1):Inv (S.set u s') (i+1):=by
 have H:=uQ h;refine ⟨fun k hk => ?_,fun s hs => ?_,by rw [Nl];exact hI.len,fun k hk => ?_,fun s hs => ?_,fun s hs => ?_,fun s hs => ?_⟩
 ·rw [Nl] at hk;rw [(H.same k).2.2.2.2.1,H.Mk];exact hI.val k hk
 ·rcases NB hs with h' | h'
  ·exact hI.words s h'
  ·obtain ⟨k,r0,r4,hw,hd⟩:=hI.words _ (aZ hu);rw [h'];exact ⟨k,r0,r4,h.1.trans hw,h.2.2.1.trans hd⟩
 ·rw [Nl] at hk;rw [(H.same k).2.2.2.1];exact hI.up k hk
 ·rcases NB hs with h' | h'
  ·exact hI.enter s h'
  ·rw [h'];exact h0
 ·rcases NB hs with h' | h'
  ·exact hI.leave s h'
  ·rw [h'];exact h1
 ·rcases NB hs with h' | h'
  ·have:=hI.aj s h';omega
  ·rw [h'];exact hm
theorem Bz (hI:Inv S i) (hl:S.length≠24) (hw:ia s) (h0:0<=s.depth) (h1:s.depth.toNat<=(opn S).length) (hu0 : -1<=s.up) (hu:s.up<S.length) (he:s.enter=[]) (hlv:s.leave=[]) (hm:s.aj=[]) (hh0:s.has0=0) (hh1:s.has1=0):Inv (S++[s]) (i+1):=by
 have:=hI.len;refine ⟨CE hI.val h0 h1,fun x hx => ?_,zae,fun k hk => ?_,fun x hx => ?_,fun x hx => ?_,fun x hx => ?_⟩
 ·rcases Nr.1 hx with h | h
  ·exact hI.words x h
  ·rw [M8.1 h];exact hw
 ·by_cases h:k<S.length
  ·rw [bn h];exact hI.up k h
  ·have e:k=S.length:=by simp at hk;omega
   subst e;rw [cZ];exact ⟨hu0,hu⟩
 ·rcases Nr.1 hx with h | h
  ·exact hI.enter x h
  ·rw [M8.1 h,he,hh0];simp
 ·rcases Nr.1 hx with h | h
  ·exact hI.leave x h
  ·rw [M8.1 h,hlv,hh1];simp
 ·rcases Nr.1 hx with h | h
  ·have:=hI.aj x h;omega
  ·rw [M8.1 h,hm];simp
theorem wT (S:List Ref.State) (s:Ref.State):aQ (S++[s]) (S++[s]).length=if Go.Maps.has (aQ S S.length) (.string s.name.data.toList) then aQ S S.length else (aQ S S.length).put (.string s.name.data.toList) (.lit (.int .i64 s.line)):=by
 have hc:∀ k,k<=S.length->aQ (S++[s]) k=aQ S k:=by
  intro k
  induction k with
  | zero=>intro _;rfl
  | succ k ih=>intro hk;rw [aQ,aQ,ih zaa,bn zaa]
 rw [Nj,show S.length+[s].length=S.length+1 from rfl,aQ,hc S.length (MR _),cZ]
theorem xS (S:List Ref.State) (s:Ref.State):dN (S++[s])=dN S++[(s.line,s.depth)]:=by simp [dN]
theorem xW (S:List Ref.State) (s:Ref.State) (h:s.aj=[]):bL (S++[s])=bL S:=by simp [bL,h]
theorem lQ (h:s'.aj=(S.getD u Ref.st0).aj):bL (S.set u s')=bL S:=by
 unfold bL;by_cases hu:u<S.length
 ·have e:(S.set u s').map (·.aj)=S.map (·.aj):=by
   rw [O0];apply Pc
   intro i;rw [Pb];split
   ·rename_i e;subst e;simp [hu,h]
   ·rfl
  have f:∀ T:List Ref.State,(T.any fun s=>s.aj.any (·.after))=(T.map (·.aj)).any (fun m=>m.any (·.after)):=by
   intro T;rw [List.any_map];rfl
  rw [f,f,e]
 ·rw [QL zaa]
theorem tt {m:Ref.Move} (hu:u<S.length) (h:s'.aj=(S.getD u Ref.st0).aj++[m]):bL (S.set u s')=(bL S||m.after):=by
 cases ha:(bL S||m.after)
 ·rw [Bool.or_eq_false_iff] at ha;show List.any _ _=false;rw [Q0];intro x hx
  rcases NB hx with h' | h'
  ·have:=ha.1;unfold bL at this;rw [Q0] at this;exact this x h'
  ·rw [h',h,Qu];have h1:=ha.1;unfold bL at h1;rw [Q0] at h1;have:=h1 _ (aZ hu);simp [ha.2] at this ⊢;exact this
 ·show List.any _ _=true;rw [Pw];rw [Bool.or_eq_true] at ha
  rcases ha with ha | ha
  ·unfold bL at ha;rw [Pw] at ha;obtain ⟨x,hx,hxa⟩:=ha;obtain ⟨k,hk,rfl⟩:=Pp hx;by_cases e:u=k
   ·subst e;refine ⟨s',Q1 hu _,?_⟩;rw [h,Qu,getD_eq hu,hxa];rfl
   ·refine ⟨S[k],?_,hxa⟩;have:(S.set u s')[k]'(by rw [Nl];exact hk)=S[k]:=by rw [Oh,M4 e]
    rw [<- this];exact NS _
  ·refine ⟨s',Q1 hu _,?_⟩;rw [h,Qu];simp [ha]
end Pro
structure fR (w0 w:World) (db:Nat) (S:List Ref.State) (i:Nat):Prop where
 mem:∃ sv pv ov mb X nm,X.map (·.s)=S/\nm<=S.length/\aq w0 w db sv pv ov mb (Pro.bL S) X (Pro.dN S) (Pro.opn S) (Pro.parts S) nm (Pro.aQ S S.length)
 inv:Pro.Inv S i
def dw (w0:World) (db:Nat) (S:List Ref.State) (i d:Nat) (L:Pro.PL) (w:World) (e:Ending) (w':World):Prop:=match Ref.bA S i (Pro.aE (i+1) L) (d:Int) with
 | none=>aY 3 ((i+1:Nat):Int) w e w'
 | some S'=>e = .returned (.tuple #[])/\fR w0 w' db S' (i+1)
theorem LQ (h:i<=1000000):(Lit.int .i64 ((i:Nat):Int)).wf=true:=WalkArith.wf_i64 zaa
theorem qJ {X:List Pro.DS} (h:X.map (·.s)=S) (hu:u<S.length):∃ hx:u<X.length,X[u].s=S.getD u Ref.st0:=by
 have hl:X.length=S.length:=by rw [<- h,Ng]
 refine ⟨zaa,?_⟩;subst h;rw [Pro.getD_eq hu,Pf]
theorem Ce (w0 w:World) (db:Nat) (S:List Ref.State) (i d:Nat) (k:Int) (n:ByteArray) (H:fR w0 w db S i) (hk0:0<=k) (hk4:k<=4) (hn:n.size<=1000000) (hd:d<=1000000) (hi:i<=100000) :
  () 350 #[.agg (ew ((i+1:Nat):Int) d k n),db] w (dw w0 db S i d (.state k n) w):=by
 obtain ⟨⟨sv,pv,ov,mb,X,nm,hX,hnm,G⟩,I⟩:=H;have hXl:X.length=S.length:=zaG;have hlen:=I.len;have hol:=Pro.jR S S.length;change (Pro.opn S).length<=S.length at hol;unfold dw;rw [Pro.td];by_cases hbad:0<d/\Ref.dv S d<0
 ·rw [M6 hbad];refine qz _ d k n G hbad.1 ?_ zaa
  rcases O6 (Pro.opn S).length d with h | h
  ·exact h
  ·obtain ⟨d',rfl⟩:∃ d',d=d'+1:=⟨d-1,zaa⟩;have:=(Pro.Dy I (k:=d') zaa).1;have h2:=hbad.2;rw [this] at h2;omega
 ·rw [M4 hbad];obtain ⟨ns,hns⟩:∃ ns:Ref.State,ns=⟨Pro.bs k,n,decide (k=4),Ref.dv S d,d,((i+1:Nat):Int),[],[],[],0,0⟩:=⟨_,rfl⟩;have hdo:d<=(Pro.opn S).length:=by
   rcases O6 (Pro.opn S).length d with h | h
   ·exact absurd ⟨zaa,by rw [Pro.Kw I h];decide⟩ hbad
   ·exact h
  have how:(d=0/\Ref.dv S d = -1)\/∃ (k u:Nat) (hk:k<(Pro.opn S).length),d=k+1/\(Pro.opn S)[k]=u/\Ref.dv S d=u/\u<X.length:=by
   by_cases h0:d=0
   ·subst h0;exact .inl ⟨rfl,rfl⟩
   ·obtain ⟨d',rfl⟩:∃ d',d=d'+1:=⟨d-1,zaa⟩;obtain ⟨h1,h2⟩:=Pro.Dy I (k:=d') zaa;exact .inr ⟨d',_,zaa,rfl,rfl,h1,zaa⟩
  have how2:Ref.dv S d = -1\/∃ u:Nat,Ref.dv S d=u/\u<S.length:=by
   rcases how with ⟨_,h⟩ | ⟨_,u,_,_,_,h,hu⟩
   ·exact .inl h
   ·exact .inr ⟨u,h,zaa⟩
  have hw:Pro.ia ns:=⟨k,hk0,hk4,zan,zan⟩;have hkd:Pro.al ns=k:=Pro.fE hk0 hk4 zan zan;have hfit:=Pro.Jr I hw (dep:=d) zan hX (by rw [hns];exact how2);have hst:=sX ((i+1:Nat):Int) d k (Ref.dv S d) n ns G zaa (by unfold Pro.dN;rw [Ng];omega) zaa (fun j=>by have:=Pro.lJ S j S.length;exact MX this zaa) zaa
   hkd zan zan zan zan zan zan hdo hn (LQ zaa) how (by
    rw [hXl];exact Pro.oA _ (fun j hj e=>by have:=(I.up j hj).2;omega))
  refine M7 hst ?_;intro e w' h;have hup:ns.up=Ref.dv S d:=zan;rw [hkd,hup] at hfit;change _=iX X (Pro.parts S) d (Ref.dv S d) k at hfit;rw [<- hns,hfit];cases hok:iX X (Pro.parts S) d (Ref.dv S d) k
  ·rw [hok] at h;exact h
  ·rw [hok] at h;obtain ⟨rfl,sv',pv',ov',X',hX',G'⟩:=h;have h24:S.length≠24:=by
    intro e;unfold iX at hok;rw [hXl,NZ e] at hok;cases hok
   refine ⟨rfl,⟨sv',pv',ov',mb,X',nm+1,by rw [hX',hX],zae,?_⟩,?_⟩
   ·have e1:Pro.bL (S++[ns])=Pro.bL S:=Pro.xW S ns zan;have e2:Pro.dN (S++[ns])=Pro.dN S++[(((i+1:Nat):Int),(d:Int))]:=by rw [Pro.xS,hns]
    have e3:Pro.opn (S++[ns])=(Pro.opn S).take d++[X.length]:=by rw [Pro.B4,hXl,hns];rfl
    have e4:Pro.parts (S++[ns])=fun j:Nat=>if (j:Int)=Ref.dv S d then Pro.parts S j++[X.length] else Pro.parts S j:=by
     funext j;rw [Pro.xF,hXl,hup]
    have e5:Pro.aQ (S++[ns]) (S++[ns]).length=if Go.Maps.has (Pro.aQ S S.length) (.string n.data.toList) then Pro.aQ S S.length else (Pro.aQ S S.length).put (.string n.data.toList) (.lit (.int .i64 ((i+1:Nat):Int))):=by rw [Pro.wT,hns]
    rw [e1,e2,e3,e4,e5];exact G'
   ·refine Pro.Bz I h24 hw (by rw [hns];show (0:Int)<=(d:Int);omega) (by rw [hns];simpa using hdo) ?_ ?_ zan zan zan zan zan
    ·exact ze3
    ·exact ze3
theorem ka {w0 w':World} {db:Nat} {sv pv ov:Ref.Sl} {mb nm:Nat} {X:List Pro.DS} {x':Pro.DS} {tm:Bool} (hX:X.map (·.s)=S) (hnm:nm<=S.length) (I:Pro.Inv S i) (hu:u<S.length)
  (h:x'.s.word=(S.getD u Ref.st0).word/\x'.s.name=(S.getD u Ref.st0).name/\x'.s.deep=(S.getD u Ref.st0).deep/\x'.s.up=(S.getD u Ref.st0).up/\x'.s.depth=(S.getD u Ref.st0).depth/\x'.s.line=(S.getD u Ref.st0).line)
  (h0:0<x'.s.has0↔x'.s.enter≠[]) (h1:0<x'.s.has1↔x'.s.leave≠[]) (hm:x'.s.aj.length<=i+1) (ht:Pro.bL (S.set u x'.s)=tm)
  (G:aq w0 w' db sv pv ov mb tm (X.set u x') (Pro.dN S) (Pro.opn S) (Pro.parts S) nm (Pro.aQ S S.length)):fR w0 w' db (S.set u x'.s) (i+1):=by
 have H:=Pro.uQ h;refine ⟨⟨sv,pv,ov,mb,X.set u x',nm,?_,by rw [Nl];exact hnm,?_⟩,Pro.JA I hu h h0 h1 hm⟩
 ·rw [O0,hX]
 ·have e4:Pro.parts (S.set u x'.s)=Pro.parts S:=funext fun j=>H.parts j;rw [ht,H.iR,H.opn,e4,H.len,H.first];exact G
theorem EO (w0 w:World) (db:Nat) (S:List Ref.State) (i d:Nat) (ev t:ByteArray) (af:Bool) (dl:Int) (A:List Ref.Act) (v:Ref.Sl) (H:fR w0 w db S i) (hd:d<=1000000) (hi:i<=100000) (hA:w0.ownsRow 0 250 1 v.v A.length (A.map bg)) :
  () 355 #[.agg #[.int .i64 ((i+1:Nat):Int),(d:Int),ev,af,.int .u64 dl,t,.slice v.a v.n v.c],db] w (dw w0 db S i d (.move ev af dl t A) w):=by
 obtain ⟨⟨sv,pv,ov,mb,X,nm,hX,hnm,G⟩,I⟩:=H;have hXl:X.length=S.length:=zaG;have hlen:=I.len;have hol:=Pro.jR S S.length;change (Pro.opn S).length<=S.length at hol;have y:Pro.PV:=⟨⟨ev,t,af,dl,A,((i+1:Nat):Int)⟩,v⟩;unfold dw;rw [Pro.vP I];by_cases h0:d=0
 ·rw [M6 h0];exact lA _ d ⟨⟨ev,t,af,dl,A,((i+1:Nat):Int)⟩,v⟩ G (.inl h0) zaa
 ·rw [M4 h0];obtain ⟨d',rfl⟩:∃ d',d=d'+1:=⟨d-1,zaa⟩;rw [show d'+1-1=d' from rfl]
  rcases O6 d' (Pro.opn S).length with hk | hk
  ·rw [MU hk];have hu:(Pro.opn S)[d']<S.length:=Pro.eH S S.length _ (NS hk);obtain ⟨u,hue⟩:∃ u,u=(Pro.opn S)[d']:=⟨_,rfl⟩;rw [<- hue] at hu ⊢;obtain ⟨hux,hxs⟩:=qJ hX hu;obtain ⟨g,cap,rfl⟩:=G.Cl zaa;simp only;by_cases hb:Pro.al (S.getD u Ref.st0)∈([2,3,4]:List Int)
   ·rw [M6 hb];exact tY _ (d'+1) ⟨⟨ev,t,af,dl,A,((i+1:Nat):Int)⟩,v⟩ d' u g cap G hk rfl zaa hue.symm hux zaB
   ·rw [M4 hb];have hml:=I.aj _ (Pro.aZ hu);refine M7 (tZ _ (d'+1) ⟨⟨ev,t,af,dl,A,((i+1:Nat):Int)⟩,v⟩ d' u g cap G hk rfl zaa hue.symm hux zaB hA (by rw [hxs];omega)) ?_;rintro e w' ⟨rfl,vm',G'⟩;refine ⟨rfl,?_⟩;have he:=I.enter _ (Pro.aZ hu);have hl:=I.leave _ (Pro.aZ hu);have:=ka (x':=Pro.dd X[u] ⟨⟨ev,t,af,dl,A,((i+1:Nat):Int)⟩,v⟩ vm') hX hnm I hu (by simp [Pro.dd,hxs]) (by simpa [Pro.dd,hxs] using he) (by simpa [Pro.dd,hxs] using hl) (by simp [Pro.dd,hxs];simpa using hml) (Pro.tt hu (m:=⟨ev,t,af,dl,A,((i+1:Nat):Int)⟩) (by simp [Pro.dd,hxs])) G';exact zfm
  ·rw [Ny hk];exact lA _ (d'+1) ⟨⟨ev,t,af,dl,A,((i+1:Nat):Int)⟩,v⟩ G (.inr zaa) zaa
theorem Cc (w0 w:World) (db:Nat) (S:List Ref.State) (i d:Nat) (A:List Ref.Act) (v:Ref.Sl) (H:fR w0 w db S i) (hd:d<=1000000) (hA:w0.ownsRow 0 250 1 v.v A.length (A.map bg)) (hA0:A≠[]) :
  () 360 #[.agg #[.int .i64 ((i+1:Nat):Int),(d:Int),.slice v.a v.n v.c],db] w (dw w0 db S i d (.enter A) w):=by
 obtain ⟨⟨sv,pv,ov,mb,X,nm,hX,hnm,G⟩,I⟩:=H;have hXl:X.length=S.length:=zaG;have hlen:=I.len;have hol:=Pro.jR S S.length;change (Pro.opn S).length<=S.length at hol;unfold dw;rw [Pro.sZ I];by_cases h0:d=0
 ·rw [M6 h0];exact kM _ d v.a v.n v.c G (.inl h0) zaa
 ·rw [M4 h0];obtain ⟨d',rfl⟩:∃ d',d=d'+1:=⟨d-1,zaa⟩;rw [show d'+1-1=d' from rfl]
  rcases O6 d' (Pro.opn S).length with hk | hk
  ·rw [MU hk];have hu:(Pro.opn S)[d']<S.length:=Pro.eH S S.length _ (NS hk);obtain ⟨u,hue⟩:∃ u,u=(Pro.opn S)[d']:=⟨_,rfl⟩;rw [<- hue] at hu ⊢;obtain ⟨hux,hxs⟩:=qJ hX hu;obtain ⟨g,cap,rfl⟩:=G.Cl zaa;simp only;have hvn:X[u].ve.n=(S.getD u Ref.st0).enter.length:=by
    rw [<- hxs]
    rcases (G.deep u hux).enter.2 with ⟨h,h0⟩ | ⟨g,cap,cur,h,_⟩
    ·exact zfg
    ·exact zft
   by_cases hb:Pro.al (S.getD u Ref.st0)∈([3,4]:List Int)
   ·rw [M6 hb];exact qp _ (d'+1) v.a v.n v.c d' u g cap G hk rfl zaa hue.symm hux zaB
   ·rw [M4 hb];by_cases h2:(S.getD u Ref.st0).enter≠[]
    ·rw [M6 h2];exact pq _ (d'+1) v.a v.n v.c d' u g cap G hk rfl zaa hue.symm hux zaB (by rw [hvn];exact OJ.2 h2)
    ·rw [M4 h2];have h2':(S.getD u Ref.st0).enter=[]:=Classical.not_not.1 h2;refine M7 (rJ _ (d'+1) v.a v.n v.c d' u g cap G hk rfl zaa hue.symm hux zaB (by rw [hvn,h2'];rfl) A hA) ?_;rintro e w' ⟨rfl,G'⟩;refine ⟨rfl,?_⟩;have he:=I.enter _ (Pro.aZ hu);have hl:=I.leave _ (Pro.aZ hu);have hml:=I.aj _ (Pro.aZ hu);have:=ka (x':=Pro.gH X[u] ((i+1:Nat):Int) A v) hX hnm I hu (by simp [Pro.gH,hxs]) (by simp [Pro.gH];exact hA0) (by simpa [Pro.gH,hxs] using hl) (by simp [Pro.gH,hxs];have:=hml;simp at this;omega) (Pro.lQ (by simp [Pro.gH,hxs])) G';exact zfm
  ·rw [Ny hk];exact kM _ (d'+1) v.a v.n v.c G (.inr zaa) zaa
theorem Cd (w0 w:World) (db:Nat) (S:List Ref.State) (i d:Nat) (A:List Ref.Act) (v:Ref.Sl) (H:fR w0 w db S i) (hd:d<=1000000) (hA:w0.ownsRow 0 250 1 v.v A.length (A.map bg)) (hA0:A≠[]) :
  () 362 #[.agg #[.int .i64 ((i+1:Nat):Int),(d:Int),.slice v.a v.n v.c],db] w (dw w0 db S i d (.leave A) w):=by
 obtain ⟨⟨sv,pv,ov,mb,X,nm,hX,hnm,G⟩,I⟩:=H;have hXl:X.length=S.length:=zaG;have hlen:=I.len;have hol:=Pro.jR S S.length;change (Pro.opn S).length<=S.length at hol;unfold dw;rw [Pro.s9 I];by_cases h0:d=0
 ·rw [M6 h0];exact kN _ d v.a v.n v.c G (.inl h0) zaa
 ·rw [M4 h0];obtain ⟨d',rfl⟩:∃ d',d=d'+1:=⟨d-1,zaa⟩;rw [show d'+1-1=d' from rfl]
  rcases O6 d' (Pro.opn S).length with hk | hk
  ·rw [MU hk];have hu:(Pro.opn S)[d']<S.length:=Pro.eH S S.length _ (NS hk);obtain ⟨u,hue⟩:∃ u,u=(Pro.opn S)[d']:=⟨_,rfl⟩;rw [<- hue] at hu ⊢;obtain ⟨hux,hxs⟩:=qJ hX hu;obtain ⟨g,cap,rfl⟩:=G.Cl zaa;simp only;have hvn:X[u].vl.n=(S.getD u Ref.st0).leave.length:=by
    rw [<- hxs]
    rcases (G.deep u hux).leave.2 with ⟨h,h0⟩ | ⟨g,cap,cur,h,_⟩
    ·exact zfg
    ·exact zft
   by_cases hb:Pro.al (S.getD u Ref.st0)∈([3,4]:List Int)
   ·rw [M6 hb];exact qt _ (d'+1) v.a v.n v.c d' u g cap G hk rfl zaa hue.symm hux zaB
   ·rw [M4 hb];by_cases h2:(S.getD u Ref.st0).leave≠[]
    ·rw [M6 h2];exact pD _ (d'+1) v.a v.n v.c d' u g cap G hk rfl zaa hue.symm hux zaB (by rw [hvn];exact OJ.2 h2)
    ·rw [M4 h2];have h2':(S.getD u Ref.st0).leave=[]:=Classical.not_not.1 h2;refine M7 (sg _ (d'+1) v.a v.n v.c d' u g cap G hk rfl zaa hue.symm hux zaB (by rw [hvn,h2'];rfl) A hA) ?_;rintro e w' ⟨rfl,G'⟩;refine ⟨rfl,?_⟩;have he:=I.enter _ (Pro.aZ hu);have hl:=I.leave _ (Pro.aZ hu);have hml:=I.aj _ (Pro.aZ hu);have:=ka (x':=Pro.gI X[u] ((i+1:Nat):Int) A v) hX hnm I hu (by simp [Pro.gI,hxs]) (by simpa [Pro.gI,hxs] using he) (by simp [Pro.gI];exact hA0) (by simp [Pro.gI,hxs];have:=hml;simp at this;omega) (Pro.lQ (by simp [Pro.gI,hxs])) G';exact zfm
  ·rw [Ny hk];exact kN _ (d'+1) v.a v.n v.c G (.inr zaa) zaa
variable {w0 w:World} {db mb nm:Nat} {sv pv ov:Ref.Sl} {tm:Bool} {X:List Pro.DS} {SP:List (Int×Int)} {O:List Nat} {PT:Nat->List Nat} {D:DataW Nat}
def dz (X:List Pro.DS) (p:List Nat):Bool:=p.any fun j=>match X[j]? with | some x => !Pro.du (Pro.al x.s) | none=>false
theorem mY (u:Nat) (G:aq w0 w db sv pv ov mb tm X SP O PT nm D) (hu:u<X.length) (hX:X.length<=1000) (hPT:∀ j∈PT u,j<X.length) (hPl:(PT u).length<=1000) :
  () 143 #[db,.agg #[.int .i64 (Pro.al X[u].s),.string X[u].s.name,.int .i64 X[u].s.depth,.int .i64 X[u].s.up,.slice X[u].vp.a (PT u).length X[u].vp.c,.slice X[u].ve.a X[u].ve.n X[u].ve.c,.slice X[u].vl.a X[u].vl.n X[u].vl.c,.slice X[u].vm.a X[u].vm.n X[u].vm.c]] w fun e w'=>e = .returned (.bool (dz X (PT u)))/\Below w w w':=by
 obtain ⟨g,cap,rfl⟩:=G.Cl zaa;obtain ⟨hcap,hgl,_⟩:=G.tN;have hdl:=G.dlt;obtain ⟨c0,_,_,_,_⟩:=G.cells;have HR:Hid (∀ j (hj:j<X.length),w.cell? ⟨g,j*8,none⟩=some (.int .i64 (Pro.al X[j].s))):=fun j hj=>by
  have:=G.ui hj 0 (.int .i64 (Pro.al X[j].s)) rfl;simpa using this
 have HV:Hid (∀ k (hk:k<(PT u).length),∃ gp,X[u].vp.a=some ⟨gp,0,none⟩/\gp<w.heap.size/\w.cell? ⟨gp,k,none⟩=some (.int .i64 ((PT u)[k]:Nat))/\(PT u).length<=X[u].vp.c):=fun k hk=>by
  have ho:=G.parts u hu;obtain ⟨gp,cp,e⟩:=Ref.eZ ho zaa;have h:=ho;rw [e] at h;have hc:=Row.cell (α:=Nat) (n:=1) (j:=0) (f:=ep) (fun _=>rfl) (aD h (Ni _)) zac hk;have hc':w.cell? ⟨gp,k,none⟩=some (.int .i64 ((PT u)[k]:Nat)):=by simpa [ep] using hc
  simp only [Ref.Sl.v,Value.slice.injEq] at e;refine ⟨gp,e.1,Np _ _ hc',hc',?_⟩
  rcases h.2 with ⟨h,_⟩ | ⟨g',cap',cur,h,_,_,hle,_⟩
  ·cases h
  ·simp at h;rw [e.2.2,h.2];exact hle
 have HP:Hid _:=hPT;generalize hkd:Pro.al X[u].s=kd0;generalize hva:X[u].vp.a=va at *;generalize hvc:X[u].vp.c=vc at *;clear hkd hva hvc hPT G;go_enter func143,ntmps143;go_wp2
 go_loop [10] (fun i=>∃ k:Nat,k<=(PT u).length/\i = .int .i64 k/\dz X ((PT u).take k)=false) (fun i=>(PT u).length-(intOf i).toNat)
 case atStart=>exact ⟨0,Ni _,rfl,rfl⟩
 case round =>
  obtain ⟨k,hk,rfl,hno⟩:=hrel;by_cases hkn:k<(PT u).length
  ·obtain ⟨gp,rfl,hgp,cp,hcp⟩:=HV.out k hkn;have hj:=HP.out _ (NS hkn);obtain ⟨j,hje⟩:∃ j,j=(PT u)[k]:=⟨_,rfl⟩;rw [<- hje] at cp hj;have cK:=HR.out j hj;have HN:Hid (dz X ((PT u).take (k+1))=(dz X ((PT u).take k) || !Pro.du (Pro.al X[j].s))):=by
    unfold Hid dz;rw [OH,MU hkn,Qu,<- hje];simp [hj]
   generalize hq:Pro.al X[j].s=kj at *;clear hq;have HNo:Hid _:=hno;clear hno hje;go_wp2_with fail;refine (jo kj _).mono ?_;rintro e w9 ⟨rfl,hw9⟩;rw [hw9];clear hw9 w9;obtain ⟨h,hh⟩:∃ h,h=Pro.du kj:=⟨_,rfl⟩;have hi:(decide (kj=3)||decide (kj=4))=h:=hh.symm;rw [hi];rw [<- hh] at HN;clear hh hi;cases h with
   | true =>
    dsimp only;go_wp2
    go_round
    case rel=>exact ⟨k+1,zaa,zah,by rw [HN.out,HNo.out];rfl⟩
    case measure=>simp [intOf];omega
   | false =>
    have HT:Hid (dz X (PT u)=true):=by
     have h1:dz X ((PT u).take (k+1))=true:=by rw [HN.out,HNo.out];rfl
     unfold dz at h1;exact zef
    dsimp only;go_wp2;go_ret;exact ⟨by rw [HT.out];rfl,(MY _ _).alloc (MR _) _⟩
  ·have hkl:k=(PT u).length:=zaa;have HF:Hid (dz X (PT u)=false):=by
    exact zfn
   clear hno;go_wp2;go_ret;exact ⟨by rw [HF.out];rfl,(MY _ _).alloc (MR _) _⟩
namespace Pro
theorem uh (hI:Inv S i) {X:List DS} (hX:X.map (·.s)=S) (k:Nat):(Ref.regions (S.map Ref.emb) k).isEmpty = !dz X (parts S k):=by
 have hmem:∀ (m:Nat) (x:Nat),x∈Ref.sO (S.map Ref.emb) k m↔x<m/\∃ h:x<S.length,S[x].up=k/\du (al S[x])=false:=by
  intro m
  induction m with
  | zero=>intro x;simp [Ref.sO]
  | succ m ih =>
   intro x;rw [Ref.sO];by_cases hm:m<S.length
   ·have e:((S.map Ref.emb)[m]?.map (Ref.Db k)).getD false=(decide (S[m].up=k) && !du (al S[m])):=by
     rw [Nf,MU hm];simp only [Option.map_some,Option.getD_some,Ref.Db,Ref.emb];rw [iJ (hI.words _ (NS hm))]
    rw [e];by_cases hc:(decide (S[m].up=(k:Int)) && !du (al S[m]))=true
    ·rw [M6 hc,Nr,ih,M8];rw [NC,P7,RJ] at hc;constructor
     ·rintro (⟨h1,h2⟩ | rfl)
      ·exact ⟨zaa,h2⟩
      ·exact ⟨zaa,hm,hc.1,hc.2⟩
     ·rintro ⟨h1,h2⟩;by_cases ex:x=m
      ·exact .inr ex
      ·exact .inl ⟨zaa,h2⟩
    ·rw [M4 hc,ih];constructor
     ·exact zfl
     ·rintro ⟨h1,h2⟩;refine ⟨?_,h2⟩;have:x≠m:=by
       rintro rfl;obtain ⟨_,h3,h4⟩:=h2;apply hc
       rw [NZ h3,h4];rfl
      omega
   ·have e:((S.map Ref.emb)[m]?.map (Ref.Db k)).getD false=false:=by
     rw [Ny zaT];rfl
    rw [e];simp only [Bool.false_eq_true,if_false];rw [ih];constructor
    ·exact zfl
    ·rintro ⟨h1,h2,h3⟩;exact ⟨zaa,h2,h3⟩
 unfold Ref.regions;rw [Ng];have hXl:X.length=S.length:=zaG;have hXs:∀ x (h:x<S.length),(X[x]'(zaa)).s=S[x]:=fun x h=>by
  subst hX;rw [Pf]
 cases hp:dz X (parts S k)
 ·show _=true;rw [PY];unfold dz at hp;rw [Q0] at hp;rw [List.eq_nil_iff_forall_not_mem];intro x hx;obtain ⟨h1,h2,h3,h4⟩:=(hmem S.length x).1 hx;have:=hp x ((iG S.length).2 ⟨h2,by rw [getD_eq h2];exact h3⟩);rw [MU zaa] at this;simp only [hXs x h2,h4] at this;exact this rfl
 ·show _=false;unfold dz at hp;rw [Pw] at hp;obtain ⟨x,hx,hx2⟩:=hp;obtain ⟨h1,h2⟩:=(iG S.length).1 hx;rw [MU zaa] at hx2;simp only [hXs x h1,Bool.not_eq_true'] at hx2;rw [getD_eq h1] at h2;have hm:=(hmem S.length x).2 ⟨h1,h1,h2,hx2⟩;cases hr:Ref.sO (S.map Ref.emb) k S.length with
  | nil=>rw [hr] at hm;cases hm
  | cons a b=>rfl
theorem Ca (hI:Inv S i) {X:List DS} (hX:X.map (·.s)=S) (hk:k<S.length) (h:Ref.dK S k=none):Ref.dK S (k+1)=if al (S.getD k Ref.st0)=1/\dz X (parts S k)=false then some (S.getD k Ref.st0).line else none:=by
 rw [Ref.dK,h];simp only;rw [AD (hI.words _ (aZ hk)),uh hI hX];by_cases h1:al (S.getD k Ref.st0)=1
 ·rw [NZ h1];cases hp:dz X (parts S k)
  ·rw [M6 zaf,M6 ⟨h1,rfl⟩]
  ·rw [M4 zad,M4 zad]
 ·rw [NM h1,M4 zad,M4 (fun h=>h1 h.1)]
end Pro
def qB (S:List Ref.State) (w:World) (e:Ending) (w':World):Prop:=match Ref.dK S S.length with
 | some l=>aY 3 l w e w'
 | none=>e = .returned (.tuple #[])/\Below w.heap.size w w'
theorem mT (w0 w:World) (db:Nat) (S:List Ref.State) (i:Nat) (H:fR w0 w db S i) (hS:0<S.length) :
  () 91 #[db] w (qB S w):=by
 obtain ⟨⟨sv,pv,ov,mb,X,nm,hX,hnm,G⟩,I⟩:=H;have hXl:X.length=S.length:=zaG;have hlen:=I.len;obtain ⟨g,cap,rfl⟩:=G.Cl zaa;obtain ⟨hsvc,hgl,_⟩:=G.tN;have hdl:=G.dlt;obtain ⟨c0,c1,_,_,_⟩:=G.cells;have hpn:=G.Mn;rw [hpn] at c1;have hspl:(Pro.dN S).length=X.length:=by unfold Pro.dN;rw [Ng,hXl]
 rw [hspl] at c1;have HSp:Hid (∀ k (hk:k<X.length),∃ gs,pv.a=some ⟨gs,0,none⟩/\w.cell? ⟨gs,k*2,none⟩=some (.int .i64 (S.getD k Ref.st0).line)/\w.cell? ⟨gs,k*2+1,none⟩=some (.int .i64 (S.getD k Ref.st0).depth)/\X.length<=pv.c):=fun k hk=>by
  have ho:=G.iR;obtain ⟨gs,cs,e⟩:=Ref.eZ ho zaa;have h:=ho;rw [e] at h;have hr:=Row.range (f:=Pro.iH) (n:=2) (fun _=>rfl) (aD h (Ni _)) (show k<(Pro.dN S).length by omega);have es:(Pro.dN S)[k]'(zaa)=((S.getD k Ref.st0).line,(S.getD k Ref.st0).depth):=by unfold Pro.dN;rw [Pf,Pro.getD_eq (show k<S.length by omega)]
  rw [es] at hr;simp only [Ref.Sl.v,Value.slice.injEq] at e;refine ⟨gs,e.1,by have:=hr 0 _ rfl;simpa using this,hr 1 _ rfl,?_⟩
  rcases h.2 with ⟨h,_⟩ | ⟨g',cap',cur,h,_,_,hle,_⟩
  ·cases h
  ·simp at h;rw [e.2.2,h.2,<- hspl];exact hle
 have HRow:Hid (∀ k (hk:k<X.length),w.rangeAt g (k*8) [.int .i64 (Pro.al X[k].s),.string X[k].s.name,.int .i64 X[k].s.depth,.int .i64 X[k].s.up,.slice X[k].vp.a (Pro.parts S k).length X[k].vp.c,.slice X[k].ve.a X[k].ve.n X[k].ve.c,.slice X[k].vl.a X[k].vl.n X[k].vl.c,.slice X[k].vm.a X[k].vm.n X[k].vm.c]):=fun k hk=>by
  have:=G.ui hk;rw [Pro.aO,G.KN hk] at this;exact this
 have HHas:Hid (∀ k (hk:k<X.length) w',Below w w w'->() 143 #[db,.agg #[.int .i64 (Pro.al X[k].s),.string X[k].s.name,.int .i64 X[k].s.depth,.int .i64 X[k].s.up,.slice X[k].vp.a (Pro.parts S k).length X[k].vp.c,.slice X[k].ve.a X[k].ve.n X[k].ve.c,.slice X[k].vl.a X[k].vl.n X[k].vl.c,.slice X[k].vm.a X[k].vm.n X[k].vm.c]] w' fun e w''=>e = .returned (.bool (dz X (Pro.parts S k)))/\Below w'.heap.size w' w''):=fun k hk w' hb =>
  mY k (G.ao hb) hk zaa (fun j hj=>by have:=((Pro.iG S.length).1 hj).1;omega) (MX (Pro.lJ S k S.length) zaa)
 have HXs:Hid (∀ k (hk:k<X.length),Pro.al X[k].s=Pro.al (S.getD k Ref.st0)):=fun k hk=>by
  rw [(qJ hX (show k<S.length by omega)).2]
 have HI:Hid _:=I;have HXm:Hid _:=hX;have HXl:Hid _:=hXl;have hXb:X.length<=24:=zaa;clear hX hXl hlen hpn hspl I G hnm hS;go_enter func91,ntmps91;go_wp2
 go_loopg [9] X.length (fun q i wr=>∃ k:Nat,q=X.length-k/\k<=X.length/\i = .int .i64 k/\Ref.dK S k=none/\Below w w wr)
 case atStart=>exact ⟨0,rfl,Ni _,rfl,rfl,MY _ _⟩
 case round =>
  obtain ⟨k,hq,hk,rfl,hpar,hbr⟩:=hrel;have hbs:=hbr.size;by_cases hkn:k<X.length
  ·have hrng:=HRow.out k hkn;have hrng':wr.rangeAt g (k*8) [.int .i64 (Pro.al X[k].s),.string X[k].s.name,.int .i64 X[k].s.depth,.int .i64 X[k].s.up,.slice X[k].vp.a (Pro.parts S k).length X[k].vp.c,.slice X[k].ve.a X[k].ve.n X[k].ve.c,.slice X[k].vl.a X[k].vl.n X[k].vl.c,.slice X[k].vm.a X[k].vm.n X[k].vm.c]:=fun j v hj=>(Nk (w:=w) (hbr.block g hgl)).trans (hrng j v hj);have HP1:Hid _:=Pro.Ca HI.out HXm.out (k:=k) (by have:=HXl.out;omega) hpar;have hkk:=HXs.out k hkn;have HPar:Hid _:=hpar;clear hrng hpar;by_cases h1:Pro.al X[k].s=1
   ·have HH:Hid _:=HHas.out k hkn;have HS1:Hid (Pro.al (S.getD k Ref.st0)=1):=by unfold Hid;rw [<- hkk];exact h1
    rw [h1] at hrng' HH;clear hkk h1;go_wp2_with (first
     | (refine Om rfl 171 (.tmp 12) rfl g (k*8) rfl _ _ hrng' underlying171 rfl cR ?_)
     | (refine aI rfl 171 (.tmp 3) (.tmp 13) rfl 171 _ _ rfl rfl cR rfl rfl ?_))
    have hbw1:Below w w (wr.alloc (.cells #[(1:Int),.string X[k].s.name,.int .i64 X[k].s.depth,.int .i64 X[k].s.up,.slice X[k].vp.a (Pro.parts S k).length X[k].vp.c,.slice X[k].ve.a X[k].ve.n X[k].ve.c,.slice X[k].vl.a X[k].vl.n X[k].vl.c,.slice X[k].vm.a X[k].vm.n X[k].vm.c] 171)):=hbr.alloc hbs _;refine M7 (HH.out _ hbw1) ?_;rintro e w2 ⟨rfl,hb2⟩;have hbw2:=hbw1.trans (hb2.mono hbw1.size);clear hbw1 hb2 hrng';have d1:w2.cell? ⟨db,1,none⟩=some (.slice pv.a X.length pv.c):=(Nk (w:=w) (hbw2.block db hdl)).trans c1;cases hp:dz X (Pro.parts S k) with
    | true =>
     have HN:Hid (Ref.dK S (k+1)=none):=by unfold Hid;rw [HP1.out,M4 (by rw [hp];simp)]
     clear hp;dsimp only;go_wp2
     go_roundg (X.length-(k+1))
     case measure=>omega
     case rel=>exact ⟨k+1,rfl,zaa,zah,HN.out,hbw2⟩
    | false =>
     have HN:Hid (Ref.dK S S.length=some (S.getD k Ref.st0).line):=Ref.sG (i:=k+1) (by rw [HP1.out,M6 ⟨HS1.out,hp⟩]) _ (by have:=HXl.out;omega);obtain ⟨gs,hpva,s0,s1,hpc⟩:=HSp.out k hkn;have hgs:=Np _ _ s0;have t0:=(Nk (w:=w) (w':=w2) (a:=⟨gs,k*2,none⟩) (hbw2.block gs hgs)).trans s0;have t1:=(Nk (w:=w) (w':=w2) (a:=⟨gs,k*2+1,none⟩) (hbw2.block gs hgs)).trans s1;rw [hpva] at d1;clear hp s0 s1 hpva;generalize hln:(S.getD k Ref.st0).line=ln at *;generalize hdp:(S.getD k Ref.st0).depth=dp at *;clear hln hdp;dsimp only;go_wp2_with fail;refine (aU ln dp 3 _).mono ?_;rintro e w3 ⟨hb,b,h5,h6,rfl⟩;dsimp only;refine ⟨rfl,?_⟩;unfold qB;rw [HN.out];exact ⟨hbw2.trans (hb.mono hbw2.size),b,MX hbw2.size h5,h6,rfl⟩
   ·have HN:Hid (Ref.dK S (k+1)=none):=by unfold Hid;rw [HP1.out,M4 (fun h=>h1 (by rw [hkk];exact h.1))]
    have h1':(Pro.al X[k].s == 1)=false:=by simpa using h1
    generalize hkd:Pro.al X[k].s=kd at *;clear hkd hkk h1;go_wp2_with (first
     | (refine Om rfl 171 (.tmp 12) rfl g (k*8) rfl _ _ hrng' underlying171 rfl cR ?_)
     | (refine aI rfl 171 (.tmp 3) (.tmp 13) rfl 171 _ _ rfl rfl cR rfl rfl ?_))
    go_roundg (X.length-(k+1))
    case measure=>omega
    case rel=>exact ⟨k+1,rfl,zaa,zah,HN.out,hbr.alloc hbs _⟩
  ·have hke:k=X.length:=zaa;have HN:Hid (Ref.dK S S.length=none):=by
    have:=hpar;rw [hke,HXl.out] at this;exact this
   clear hpar;go_wp2;go_end0;unfold qB;rw [HN.out];exact ⟨rfl,hbr⟩
