import Derived.Test.YtegmoddppafkfaaGreatDoorM13
set_option maxRecDepth 100000
set_option maxHeartbeats 8000000
namespace Go.Proofs.YtegmoddppafkfaaGreatDoor
variable {zp:Prop}
theorem zcy (h:zp:=by
 go_simp;refine hK _ _ ?_;clear hK K;refine yA [1,7] ?_;refine Le rfl (fun K hK => ?_) (Le rfl (fun K hK => ?_) Lx)
 ·go_simp;refine hK _ _ ?_;clear hK K;refine zA 7 rfl fun K hK => ?_
  ·go_simp;refine HC.out.mono ?_;rintro e w4 h4;unfold aA at h4;rw [Ld hh] at h4;obtain ⟨rfl,hb4⟩:=h4;obtain ⟨cx,fx,q0,q1,q2⟩:=HF.out w4 hb4;dsimp only;refine hK _ _ ?_;clear hK K;refine tA 8 (.pointer (some ⟨g,u*8,none⟩)) rfl ?_;refine tA 9 (.pointer (some ⟨g,u*8+6,none⟩)) rfl ?_;refine zA 10 rfl fun K hK => ?_;go_simp;refine (bD num dep a n c g (u*8+6) _ _ _ cx h2).mono ?_;exact zfw
 ·go_simp;refine HC.out.mono ?_;rintro e w4 h4;unfold aA at h4;rw [Ld hh] at h4;obtain ⟨rfl,hb4⟩:=h4;obtain ⟨cx,fx,q0,q1,q2⟩:=HF.out w4 hb4;dsimp only;refine hK _ _ ?_;clear hK K;refine tA 8 (.pointer (some ⟨g,u*8,none⟩)) rfl ?_;refine tA 9 (.pointer (some ⟨g,u*8+6,none⟩)) rfl ?_;refine zA 1 rfl fun K hK => ?_;go_simp;refine hK _ _ ?_;clear hK K;refine zA 10 rfl fun K hK => ?_;go_simp;refine (bD num dep a n c g (u*8+6) _ _ _ cx h2).mono ?_;rintro e w5 ⟨hb,b,h5,h6,rfl⟩;dsimp only;exact ⟨rfl,(hb1.trans (hb4.mono hb1.size)).trans (hb.mono (La hb1.size hb4.size)),b,La (La hb1.size hb4.size) h5,h6,rfl⟩):zp:=h
theorem zcA (h:zp:=by
 go_simp;refine hK _ _ ?_;clear hK K;refine yA [1,7] ?_;refine Le rfl (fun K hK => ?_) (Le rfl (fun K hK => ?_) Lx)
 ·go_simp;refine hK _ _ ?_;clear hK K;refine zA 7 rfl fun K hK => ?_
  ·go_simp;refine HC.out.mono ?_;rintro e w4 h4;unfold aA at h4;rw [Ld hh] at h4;obtain ⟨rfl,hb4⟩:=h4;obtain ⟨cx,fx,q0,q1,q2⟩:=HF.out w4 hb4;dsimp only;refine hK _ _ ?_;clear hK K;refine tA 8 (.pointer (some ⟨g,u*8,none⟩)) rfl ?_;refine tA 9 (.pointer (some ⟨g,u*8+6,none⟩)) rfl ?_;refine zA 10 rfl fun K hK => ?_;go_simp;refine (bo num dep a n c g (u*8+6) _ _ cx fx).mono ?_;exact zfx
 ·go_simp;refine HC.out.mono ?_;rintro e w4 h4;unfold aA at h4;rw [Ld hh] at h4;obtain ⟨rfl,hb4⟩:=h4;obtain ⟨cx,fx,q0,q1,q2⟩:=HF.out w4 hb4;dsimp only;refine hK _ _ ?_;clear hK K;refine tA 8 (.pointer (some ⟨g,u*8,none⟩)) rfl ?_;refine tA 9 (.pointer (some ⟨g,u*8+6,none⟩)) rfl ?_;refine zA 1 rfl fun K hK => ?_;go_simp;refine hK _ _ ?_;clear hK K;refine zA 10 rfl fun K hK => ?_;go_simp;refine (bo num dep a n c g (u*8+6) _ _ cx fx).mono ?_;rintro e w5 ⟨rfl,hb5⟩;have G5:=HG.out w4 w5 hb4 hb5;dsimp only;refine hK _ _ ?_;clear hK K;refine My zab ?_ _;go_wp2;go_end0;exact ⟨rfl,G5⟩):zp:=h
theorem zcL (h:zp:=by
 go_simp;refine hK _ _ ?_;clear hK K;refine zA 5 rfl fun K hK => ?_
 ·go_simp;refine hK _ _ ?_;clear hK K;refine zA 7 rfl fun K hK => ?_
  ·go_simp;refine HC.out.mono ?_;rintro e w4 h4;unfold aA at h4;rw [Ld hh] at h4;obtain ⟨rfl,hb4⟩:=h4;obtain ⟨cx,fx,q0,q1,q2⟩:=HF.out w4 hb4;dsimp only;refine hK _ _ ?_;clear hK K;refine tA 8 (.pointer (some ⟨g,u*8,none⟩)) rfl ?_;refine tA 9 (.pointer (some ⟨g,u*8+6,none⟩)) rfl ?_;refine zA 10 rfl fun K hK => ?_;go_simp;refine (bD num dep a n c g (u*8+6) _ _ _ cx h2).mono ?_;rintro e w5 ⟨hb,b,h5,h6,rfl⟩;dsimp only;exact ⟨rfl,(hb1.trans (hb4.mono hb1.size)).trans (hb.mono (La hb1.size hb4.size)),b,La (La hb1.size hb4.size) h5,h6,rfl⟩):zp:=h
theorem zcN (h:zp:=by
 go_simp;refine hK _ _ ?_;clear hK K;refine zA 6 rfl fun K hK => ?_
 ·go_simp;refine hK _ _ ?_;clear hK K;refine zA 7 rfl fun K hK => ?_
  ·go_simp;refine HC.out.mono ?_;rintro e w4 h4;unfold aA at h4;rw [Ld hh] at h4;obtain ⟨rfl,hb4⟩:=h4;obtain ⟨cx,fx,q0,q1,q2⟩:=HF.out w4 hb4;dsimp only;refine hK _ _ ?_;clear hK K;refine tA 8 (.pointer (some ⟨g,u*8,none⟩)) rfl ?_;refine tA 9 (.pointer (some ⟨g,u*8+6,none⟩)) rfl ?_;refine zA 10 rfl fun K hK => ?_;go_simp;refine (bD num dep a n c g (u*8+6) _ _ _ cx h2).mono ?_;rintro e w5 ⟨hb,b,h5,h6,rfl⟩;dsimp only;exact ⟨rfl,(hb1.trans (hb4.mono hb1.size)).trans (hb.mono (La hb1.size hb4.size)),b,La (La hb1.size hb4.size) h5,h6,rfl⟩):zp:=h
theorem zcR (h:zp:=by
 go_simp;refine hK _ _ ?_;clear hK K;refine zA 5 rfl fun K hK => ?_
 ·go_simp;refine hK _ _ ?_;clear hK K;refine zA 7 rfl fun K hK => ?_
  ·go_simp;refine HC.out.mono ?_;rintro e w4 h4;unfold aA at h4;rw [Ld hh] at h4;obtain ⟨rfl,hb4⟩:=h4;obtain ⟨cx,fx,q0,q1,q2⟩:=HF.out w4 hb4;dsimp only;refine hK _ _ ?_;clear hK K;refine tA 8 (.pointer (some ⟨g,u*8,none⟩)) rfl ?_;refine tA 9 (.pointer (some ⟨g,u*8+6,none⟩)) rfl ?_;refine zA 10 rfl fun K hK => ?_;go_simp;refine (bo num dep a n c g (u*8+6) _ _ cx fx).mono ?_;rintro e w5 ⟨rfl,hb5⟩;have G5:=HG.out w4 w5 hb4 hb5;dsimp only;refine hK _ _ ?_;clear hK K;refine My zab ?_ _;go_wp2;go_end0;exact ⟨rfl,G5⟩):zp:=h
theorem zcT (h:zp:=by
 go_simp;refine hK _ _ ?_;clear hK K;refine zA 6 rfl fun K hK => ?_
 ·go_simp;refine hK _ _ ?_;clear hK K;refine zA 7 rfl fun K hK => ?_
  ·go_simp;refine HC.out.mono ?_;rintro e w4 h4;unfold aA at h4;rw [Ld hh] at h4;obtain ⟨rfl,hb4⟩:=h4;obtain ⟨cx,fx,q0,q1,q2⟩:=HF.out w4 hb4;dsimp only;refine hK _ _ ?_;clear hK K;refine tA 8 (.pointer (some ⟨g,u*8,none⟩)) rfl ?_;refine tA 9 (.pointer (some ⟨g,u*8+6,none⟩)) rfl ?_;refine zA 10 rfl fun K hK => ?_;go_simp;refine (bo num dep a n c g (u*8+6) _ _ cx fx).mono ?_;rintro e w5 ⟨rfl,hb5⟩;have G5:=HG.out w4 w5 hb4 hb5;dsimp only;refine hK _ _ ?_;clear hK K;refine My zab ?_ _;go_wp2;go_end0;exact ⟨rfl,G5⟩):zp:=h
theorem zc7 (h:zp:=by
 obtain ⟨k,h0,h4,hw,hd⟩:=h;rw [fk h0 h4 hw hd,hw];have hk:k=0\/k=1\/k=2\/k=3\/k=4:=zaa
 rcases hk with rfl | rfl | rfl | rfl | rfl
 ·rw [show bp 0=kH from rfl,iG];rfl
 ·rw [show bp 1=fi from rfl,eS];rfl
 ·rw [show bp 2=kG from rfl,iz];rfl
 ·rw [show bp 3=cW from rfl,bO];rfl
 ·rw [show bp 4=cW from rfl,bO];rfl):zp:=h
theorem zc9 (h:zp:=by
 intro w4 hb4;have hbg:=(hb1.trans (hb4.mono hb1.size)).block g hgl;have hbw:w4.heap[w.heap.size]?=some (.cells #[(num:Int),(dep:Int),.slice a n c] 388 (0,0)):=by
  rw [hb4.block w hlw,Mh _ _ _ zad];exact Lf w _
 refine ⟨(Ln hbg).trans cv,(NW hbg).trans hfz,?_,?_,?_⟩ <;> rw [Lb w4 _ _ _ _ _ hbw] <;> rfl):zp:=h
theorem zdc (h:zp:=by
 simp only [Int.toNat_natCast];rw [Ld zaa,Ld zaa,iu hw];simp only [he];obtain ⟨r0,r4⟩:=jV hw;have hk:ao (S.getD u Ref.st0)=0\/ao (S.getD u Ref.st0)=1\/ao (S.getD u Ref.st0)=2\/ao (S.getD u Ref.st0)=3\/ao (S.getD u Ref.st0)=4:=zaa
 rcases hk with e | e | e | e | e <;> rw [e] <;> simp [dj,aE]):zp:=h
theorem zdN (h:zp:=by
 have:=Lf ((w.alloc (.cells #[(num:Int),(dep:Int),.slice a n c] 388)).drew) (.cells #[(3:Int),(4:Int)] 238);simpa using this):zp:=h
theorem zd7 (h:zp:=by
 rw [NJ] at h1;obtain ⟨y,hy,hy2⟩:=h1;show List.any _ _=true;rw [NJ];exact ⟨y,NO hy,hy2⟩):zp:=h
theorem zeW (h:zp:=by
 rw [hup];rcases how2 with h | ⟨u,h,_⟩ <;> omega):zp:=h
theorem zfe (h:zp:=by
 rintro ⟨h1,h2⟩;exact ⟨zaa,h2⟩):zp:=h
theorem zff (h:zp:=by
 unfold Ref.fR;rw [<- hxs];exact this):zp:=h
theorem zfg (h:zp:=by
 have h:=hno;rw [hkl,Mt] at h;exact h):zp:=h
theorem zan (h:zp:=by rw [hns]):zp:=h
theorem zaC (h:zp:=by rw [hxs];exact hb):zp:=h
theorem zaH (h:zp:=by rw [<- hX,Lt]):zp:=h
theorem za2 (h:zp:=by rw [Lt];omega):zp:=h
open Tryz
variable {S S':List Ref.State} {s s':Ref.State} {i k d u num j:Nat} {n:ByteArray} {A:List Ref.Act}
section
open Go.RowKit
variable {w0 w:World} {db mb nm:Nat} {sv pv ov:Ref.Sl} {tm:Bool} {X:List Pro.DS} {SP:List (Int×Int)} {O:List Nat} {PT:Nat->List Nat} {D:DataW Nat}
theorem kr (num:Int) (dep:Nat) (a:Option Addr) (n c:Nat) (G:al w0 w db sv pv ov mb tm X SP O PT nm D) (h:dep=0\/O.length<dep) (hd:dep<=1073741824) :
  () 371 #[.agg #[(num:Int),(dep:Int),.slice a n c],db] w (aW 3 num w):=by
 have hdl:=G.dlt;go_enter func371,ntmps371
 go_upto_region 1 with fail
 have hb1:Below w w (((w.alloc (.cells #[(num:Int),(dep:Int),.slice a n c] 388)).drew).alloc (.cells #[(3:Int),(4:Int)] 238)):=((K9 _ _).alloc (K7 _) _).drew.alloc zad _;have G1:=G.aq hb1;refine MX zab ?_;change wpAny _ _ _ _ _ _ _ (World.drew _);refine tA 0 w rfl ?_;refine tA 2 db rfl ?_;refine tA 3 w rfl ?_;refine tA 4 w rfl ?_;refine yA [1,5,6] ?_;refine Le rfl (fun K hK => ?_) (Le rfl (fun K hK => ?_) (Le rfl (fun K hK => ?_) Lx))
 ·exact zcJ
 ·exact zcH
 ·exact zcG
theorem pS (num:Int) (dep:Nat) (a:Option Addr) (n c:Nat) (k u g cap:Nat) (G:al w0 w db ⟨some ⟨g,0,none⟩,X.length,cap⟩ pv ov mb tm X SP O PT nm D) (hk:k<O.length) (hd:dep=k+1) (hO:O.length<=1073741824) (hku:O[k]=u) (hu:u<X.length) (hh:Pro.ao X[u].s∈([3,4]:List Int)) :
  () 371 #[.agg #[(num:Int),(dep:Int),.slice a n c],db] w (aW 3 num w):=by
 have hdl:=G.dlt;have hb1:Below w w (((w.alloc (.cells #[(num:Int),(dep:Int),.slice a n c] 388)).drew).alloc (.cells #[(3:Int),(4:Int)] 238)):=((K9 _ _).alloc (K7 _) _).drew.alloc zad _;have hkb:(((w.alloc (.cells #[(num:Int),(dep:Int),.slice a n c] 388)).drew).alloc (.cells #[(3:Int),(4:Int)] 238)).heap[w.heap.size+1]?=some (.cells (([3,4]:List Int).map (Value.int .i64)).toArray 238 (0,0)):=by
  exact zdN
 have HC:Hid (() 367 #[db,.agg #[(num:Int),(dep:Int)],.slice (some ⟨w.heap.size+1,0,none⟩) 2 2] (((w.alloc (.cells #[(num:Int),(dep:Int),.slice a n c] 388)).drew).alloc (.cells #[(3:Int),(4:Int)] 238)) (aA num (Pro.ao X[u].s) [3,4] ⟨g,u*8,none⟩ (((w.alloc (.cells #[(num:Int),(dep:Int),.slice a n c] 388)).drew).alloc (.cells #[(3:Int),(4:Int)] 238)))):=cT num dep k u [3,4] (w.heap.size+1) g cap (G.aq hb1) hk hd hO hku hu hkb zac;clear hd hku hk hO hkb;go_enter func371,ntmps371
 go_upto_region 1 with fail
 refine MX zab ?_;change wpAny _ _ _ _ _ _ _ (World.drew _);refine tA 0 w rfl ?_;refine tA 2 db rfl ?_;refine tA 3 w rfl ?_;refine tA 4 w rfl ?_;refine yA [1,5,6] ?_;refine Le rfl (fun K hK => ?_) (Le rfl (fun K hK => ?_) (Le rfl (fun K hK => ?_) Lx))
 ·exact zcI
 ·exact zcD
 ·exact zcC
theorem oT (num:Int) (dep:Nat) (a:Option Addr) (n c:Nat) (k u g cap:Nat) (G:al w0 w db ⟨some ⟨g,0,none⟩,X.length,cap⟩ pv ov mb tm X SP O PT nm D) (hk:k<O.length) (hd:dep=k+1) (hO:O.length<=1073741824) (hku:O[k]=u) (hu:u<X.length) (hh:¬ Pro.ao X[u].s∈([3,4]:List Int)) (h2:0<X[u].vl.n) :
  () 371 #[.agg #[(num:Int),(dep:Int),.slice a n c],db] w (aW 3 num w):=by
 have hdl:=G.dlt;have hb1:Below w w (((w.alloc (.cells #[(num:Int),(dep:Int),.slice a n c] 388)).drew).alloc (.cells #[(3:Int),(4:Int)] 238)):=((K9 _ _).alloc (K7 _) _).drew.alloc zad _;have hkb:(((w.alloc (.cells #[(num:Int),(dep:Int),.slice a n c] 388)).drew).alloc (.cells #[(3:Int),(4:Int)] 238)).heap[w.heap.size+1]?=some (.cells (([3,4]:List Int).map (Value.int .i64)).toArray 238 (0,0)):=by
  exact zdN
 have HC:Hid (() 367 #[db,.agg #[(num:Int),(dep:Int)],.slice (some ⟨w.heap.size+1,0,none⟩) 2 2] (((w.alloc (.cells #[(num:Int),(dep:Int),.slice a n c] 388)).drew).alloc (.cells #[(3:Int),(4:Int)] 238)) (aA num (Pro.ao X[u].s) [3,4] ⟨g,u*8,none⟩ (((w.alloc (.cells #[(num:Int),(dep:Int),.slice a n c] 388)).drew).alloc (.cells #[(3:Int),(4:Int)] 238)))):=cT num dep k u [3,4] (w.heap.size+1) g cap (G.aq hb1) hk hd hO hku hu hkb zac;obtain ⟨hcap,hgl,hg0⟩:=G.sS;have hrng:=G.tp hu;have hfz:w.frozen? ⟨g,u*8+6,none⟩=false:=MG (aD G.states (Lk _)) _;have cv:w.cell? ⟨g,u*8+6,none⟩=some (.slice X[u].vl.a X[u].vl.n X[u].vl.c):=hrng 6 _ rfl;have hlw:w.heap.size<(((w.alloc (.cells #[(num:Int),(dep:Int),.slice a n c] 388)).drew).alloc (.cells #[(3:Int),(4:Int)] 238)).heap.size:=zaf;have HF:Hid (∀ w4,Below (((w.alloc (.cells #[(num:Int),(dep:Int),.slice a n c] 388)).drew).alloc (.cells #[(3:Int),(4:Int)] 238)).heap.size (((w.alloc (.cells #[(num:Int),(dep:Int),.slice a n c] 388)).drew).alloc (.cells #[(3:Int),(4:Int)] 238)) w4->w4.cell? ⟨g,u*8+6,none⟩=some (.slice X[u].vl.a X[u].vl.n X[u].vl.c)/\w4.frozen? ⟨g,u*8+6,none⟩=false/\w4.cell? w=some ↑(num:Int)/\w4.cell? ⟨w,1,none⟩=some ↑(dep:Int)/\w4.cell? ⟨w,2,none⟩=some (.slice a n c)):=by
  exact zc9
 clear cv hfz hrng;clear hd hku hk hO hkb;go_enter func371,ntmps371
 go_upto_region 1 with fail
 refine MX zab ?_;change wpAny _ _ _ _ _ _ _ (World.drew _);refine tA 0 w rfl ?_;refine tA 2 db rfl ?_;refine tA 3 w rfl ?_;refine tA 4 w rfl ?_;refine yA [1,5,6] ?_;refine Le rfl (fun K hK => ?_) (Le rfl (fun K hK => ?_) (Le rfl (fun K hK => ?_) Lx))
 ·go_simp;refine hK _ _ ?_;clear hK K;refine yA [5,6] ?_;refine Le rfl (fun K hK => ?_) (Le rfl (fun K hK => ?_) Lx)
  ·exact zcN
  ·exact zcL
 ·go_simp;refine hK _ _ ?_;clear hK K;refine yA [1,6] ?_;refine Le rfl (fun K hK => ?_) (Le rfl (fun K hK => ?_) Lx)
  ·exact zcN
  ·exact zcy
 ·go_simp;refine hK _ _ ?_;clear hK K;refine yA [1,5] ?_;refine Le rfl (fun K hK => ?_) (Le rfl (fun K hK => ?_) Lx)
  ·exact zcL
  ·exact zcy
theorem rB (num:Int) (dep:Nat) (a:Option Addr) (n c:Nat) (k u g cap:Nat) (G:al w0 w db ⟨some ⟨g,0,none⟩,X.length,cap⟩ pv ov mb tm X SP O PT nm D) (hk:k<O.length) (hd:dep=k+1) (hO:O.length<=1073741824) (hku:O[k]=u) (hu:u<X.length) (hh:¬ Pro.ao X[u].s∈([3,4]:List Int)) (h2:X[u].vl.n=0) (A:List Ref.Act) (hA:w0.ownsRow 0 324 1 (.slice a n c) A.length (A.map bf)) :
  () 371 #[.agg #[(num:Int),(dep:Int),.slice a n c],db] w fun e w'=>e = .returned (.tuple #[])/\al w0 w' db ⟨some ⟨g,0,none⟩,X.length,cap⟩ pv ov mb tm (X.set u (Pro.gw X[u] num A ⟨a,n,c⟩)) SP O PT nm D:=by
 have hdl:=G.dlt;have hb1:Below w w (((w.alloc (.cells #[(num:Int),(dep:Int),.slice a n c] 388)).drew).alloc (.cells #[(3:Int),(4:Int)] 238)):=((K9 _ _).alloc (K7 _) _).drew.alloc zad _;have hkb:(((w.alloc (.cells #[(num:Int),(dep:Int),.slice a n c] 388)).drew).alloc (.cells #[(3:Int),(4:Int)] 238)).heap[w.heap.size+1]?=some (.cells (([3,4]:List Int).map (Value.int .i64)).toArray 238 (0,0)):=by
  exact zdN
 have HC:Hid (() 367 #[db,.agg #[(num:Int),(dep:Int)],.slice (some ⟨w.heap.size+1,0,none⟩) 2 2] (((w.alloc (.cells #[(num:Int),(dep:Int),.slice a n c] 388)).drew).alloc (.cells #[(3:Int),(4:Int)] 238)) (aA num (Pro.ao X[u].s) [3,4] ⟨g,u*8,none⟩ (((w.alloc (.cells #[(num:Int),(dep:Int),.slice a n c] 388)).drew).alloc (.cells #[(3:Int),(4:Int)] 238)))):=cT num dep k u [3,4] (w.heap.size+1) g cap (G.aq hb1) hk hd hO hku hu hkb zac;obtain ⟨hcap,hgl,hg0⟩:=G.sS;have hrng:=G.tp hu;have hfz:w.frozen? ⟨g,u*8+6,none⟩=false:=MG (aD G.states (Lk _)) _;have cv:w.cell? ⟨g,u*8+6,none⟩=some (.slice X[u].vl.a X[u].vl.n X[u].vl.c):=hrng 6 _ rfl;have hlw:w.heap.size<(((w.alloc (.cells #[(num:Int),(dep:Int),.slice a n c] 388)).drew).alloc (.cells #[(3:Int),(4:Int)] 238)).heap.size:=zaf;have HF:Hid (∀ w4,Below (((w.alloc (.cells #[(num:Int),(dep:Int),.slice a n c] 388)).drew).alloc (.cells #[(3:Int),(4:Int)] 238)).heap.size (((w.alloc (.cells #[(num:Int),(dep:Int),.slice a n c] 388)).drew).alloc (.cells #[(3:Int),(4:Int)] 238)) w4->w4.cell? ⟨g,u*8+6,none⟩=some (.slice X[u].vl.a X[u].vl.n X[u].vl.c)/\w4.frozen? ⟨g,u*8+6,none⟩=false/\w4.cell? w=some ↑(num:Int)/\w4.cell? ⟨w,1,none⟩=some ↑(dep:Int)/\w4.cell? ⟨w,2,none⟩=some (.slice a n c)):=by
  exact zc9
 have HG:Hid (∀ w4 w5,Below (((w.alloc (.cells #[(num:Int),(dep:Int),.slice a n c] 388)).drew).alloc (.cells #[(3:Int),(4:Int)] 238)).heap.size (((w.alloc (.cells #[(num:Int),(dep:Int),.slice a n c] 388)).drew).alloc (.cells #[(3:Int),(4:Int)] 238)) w4->Below w4.heap.size (w4.setCell ⟨g,u*8+6,none⟩ (.slice a n c)) w5->al w0 w5 db ⟨some ⟨g,0,none⟩,X.length,cap⟩ pv ov mb tm (X.set u (Pro.gw X[u] num A ⟨a,n,c⟩)) SP O PT nm D):=by
  intro w4 w5 hb4 hb5;have hw4:=hb1.trans (hb4.mono hb1.size);have h:=G.Co (v':=⟨a,n,c⟩) (x':=Pro.gw X[u] num A ⟨a,n,c⟩) (j:=6) hw4 hu zac rfl rfl rfl rfl (G.deep u hu).enter hA;exact h.aq (hb5.mono zad)
 rw [h2] at HF;clear cv hfz hrng h2;clear hd hku hk hO hkb;go_enter func371,ntmps371
 go_upto_region 1 with fail
 refine MX zab ?_;change wpAny _ _ _ _ _ _ _ (World.drew _);refine tA 0 w rfl ?_;refine tA 2 db rfl ?_;refine tA 3 w rfl ?_;refine tA 4 w rfl ?_;refine yA [1,5,6] ?_;refine Le rfl (fun K hK => ?_) (Le rfl (fun K hK => ?_) (Le rfl (fun K hK => ?_) Lx))
 ·go_simp;refine hK _ _ ?_;clear hK K;refine yA [5,6] ?_;refine Le rfl (fun K hK => ?_) (Le rfl (fun K hK => ?_) Lx)
  ·exact zcT
  ·exact zcR
 ·go_simp;refine hK _ _ ?_;clear hK K;refine yA [1,6] ?_;refine Le rfl (fun K hK => ?_) (Le rfl (fun K hK => ?_) Lx)
  ·exact zcT
  ·exact zcA
 ·go_simp;refine hK _ _ ?_;clear hK K;refine yA [1,5] ?_;refine Le rfl (fun K hK => ?_) (Le rfl (fun K hK => ?_) Lx)
  ·exact zcR
  ·exact zcA
namespace Pro
def fs (S:List Ref.State):Nat->List Nat
 | 0=>[]
 | k+1=>(fs S k).take (S.getD k Ref.st0).depth.toNat++[k]
def opn (S:List Ref.State):List Nat:=fs S S.length
def Val (S:List Ref.State):Prop:=∀ k,k<S.length->0<=(S.getD k Ref.st0).depth/\(S.getD k Ref.st0).depth.toNat<=(fs S k).length
theorem gF {S S':List Ref.State}:∀ k,(∀ i,i<k->(S.getD i Ref.st0).depth=(S'.getD i Ref.st0).depth)->fs S k=fs S' k
 | 0,_=>rfl
 | k+1,h=>by rw [fs,fs,gF k (fun i hi=>h i zaa),h k zaa]
theorem Gy {S:List Ref.State} (hV:Val S) (dn:Nat) (hd:0<dn):∀ k,k<=S.length->Ref.fM S dn k=match (fs S k)[dn-1]? with | some i=>(i:Int) | none => -1
 | 0,_=>by simp [Ref.fM,fs]
 | k+1,hk=>by
  have ih:=Gy hV dn hd k zaa;obtain ⟨h0,h1⟩:=hV k zaa;obtain ⟨e,he⟩:∃ e:Nat,(S.getD k Ref.st0).depth=e:=⟨(S.getD k Ref.st0).depth.toNat,zaa⟩;rw [he] at h1;simp only [Int.toNat_natCast] at h1;rw [Ref.fM,fs,he];simp only [Int.toNat_natCast];have hl:((fs S k).take e).length=e:=by rw [Mn];omega
  by_cases h2:(e:Int)=dn-1
  ·rw [Lg h2,Mj zaa,hl];have:dn-1-e=0:=zaa;rw [this];rfl
  ·rw [Ld h2];by_cases h3:(e:Int)<dn-1
   ·rw [Lg h3,LR (by rw [Ls,hl];simp;omega)]
   ·rw [Ld h3,ih,Mg zaa,OP,Lg zaa]
theorem lx (hV:Val S) (dn:Nat):Ref.dq S dn=if dn=0 then -1 else match (opn S)[dn-1]? with | some i=>(i:Int) | none => -1:=by
 unfold Ref.dq;by_cases h:dn=0
 ·subst h;rfl
 ·rw [Ld h,Lg zaa,Gy hV dn zaa S.length (K7 _)];rfl
theorem et (S:List Ref.State):∀ k,∀ i∈fs S k,i<k
 | 0,i,h=>by simp [fs] at h
 | k+1,i,h=>by
  rw [fs] at h
  rcases Lz.1 h with h | h
  ·have:=et S k i (NO h);omega
  ·rw [Li.1 h];omega
theorem jD (S:List Ref.State):∀ k,(fs S k).length<=k
 | 0=>by simp [fs]
 | k+1=>by
  have:=jD S k;rw [fs,Ls,Mn];simp;omega
theorem bm (h:i<S.length):(S++[s]).getD i Ref.st0=S.getD i Ref.st0:=by
 rw [Lm,Lm,Mg h]
theorem cV:(S++[s]).getD S.length Ref.st0=s:=by
 rw [Lm,Mj (K7 _)];simp
theorem AY (S:List Ref.State) (s:Ref.State):opn (S++[s])=(opn S).take s.depth.toNat++[S.length]:=by
 unfold opn;rw [Ls,show S.length+[s].length=S.length+1 from rfl,fs,cV,gF (S':=S) S.length (fun i hi=>by rw [bm hi])]
theorem BG (hV:Val S) (h0:0<=s.depth) (h1:s.depth.toNat<=(opn S).length):Val (S++[s]):=by
 intro k hk;by_cases h:k<S.length
 ·rw [bm h,gF (S':=S) k (fun i hi=>by rw [bm zaa])];exact hV k h
 ·have e:k=S.length:=by simp at hk;omega
  subst e;rw [cV,gF (S':=S) S.length (fun i hi=>by rw [bm hi])];exact ⟨h0,h1⟩
def bY (S:List Ref.State) (i:Nat):Nat->List Nat
 | 0=>[]
 | k+1=>if (S.getD k Ref.st0).up=i then bY S i k++[k] else bY S i k
def parts (S:List Ref.State) (i:Nat):List Nat:=bY S i S.length
theorem jg {S S':List Ref.State} (i:Nat):∀ k,(∀ j,j<k->(S.getD j Ref.st0).up=(S'.getD j Ref.st0).up)->bY S i k=bY S' i k
 | 0,_=>rfl
 | k+1,h=>by rw [bY,bY,jg i k (fun j hj=>h j zaa),h k zaa]
theorem wC (S:List Ref.State) (s:Ref.State) (i:Nat):parts (S++[s]) i=if (i:Int)=s.up then parts S i++[S.length] else parts S i:=by
 unfold parts;rw [Ls,show S.length+[s].length=S.length+1 from rfl,bY,cV,jg (S':=S) i S.length (fun j hj=>by rw [bm hj])];by_cases h:s.up=i
 ·rw [Lg h,Lg h.symm]
 ·rw [Ld h,Ld (fun e=>h e.symm)]
theorem k9 (S:List Ref.State) (i:Nat):∀ k,(bY S i k).length<=k
 | 0=>by simp [bY]
 | k+1=>by
  have:=k9 S i k;rw [bY];split
  ·rw [Ls];simp;omega
  ·omega
theorem nW {S:List Ref.State} {i:Nat}:∀ k,(∀ j,j<k->(S.getD j Ref.st0).up≠i)->bY S i k=[]
 | 0,_=>rfl
 | k+1,h=>by rw [bY,Ld (h k zaa),nW k (fun j hj=>h j zaa)]
theorem im {S:List Ref.State} {i x:Nat}:∀ k,x∈bY S i k↔x<k/\(S.getD x Ref.st0).up=i
 | 0=>by simp [bY]
 | k+1=>by
  have ih:=im (S:=S) (i:=i) (x:=x) k;rw [bY];by_cases h:(S.getD k Ref.st0).up=i
  ·rw [Lg h,Lz,ih,Li];constructor
   ·rintro (⟨h1,h2⟩ | rfl)
    ·exact ⟨zaa,h2⟩
    ·exact ⟨zaa,h⟩
   ·rintro ⟨h1,h2⟩;by_cases e:x=k
    ·exact .inr e
    ·exact .inl ⟨zaa,h2⟩
  ·rw [Ld h,ih];constructor
   ·exact zfe
   ·rintro ⟨h1,h2⟩;have:x≠k:=by rintro rfl;exact h h2
    exact ⟨zaa,h2⟩
def gL (s:Ref.State):Prop:=∃ k:Int,0<=k/\k<=4/\s.word=bp k/\s.deep=decide (k=4)
theorem fk {k:Int} (h0:0<=k) (h4:k<=4) (hw:s.word=bp k) (hd:s.deep=decide (k=4)):ao s=k:=by
 have hk:k=0\/k=1\/k=2\/k=3\/k=4:=zaa;unfold ao;rw [hw,hd]
 rcases hk with rfl | rfl | rfl | rfl | rfl
 ·rw [show bp 0=kH from rfl,iG];rfl
 ·rw [show bp 1=fi from rfl,eS];rfl
 ·rw [show bp 2=kG from rfl,iz];rfl
 ·rw [show bp 3=cW from rfl,bO];rfl
 ·rw [show bp 4=cW from rfl,bO];rfl
theorem iu (h:gL s):(s.word.toList == Ref.bg)=dj (ao s):=by
 exact zc7
theorem mX (h:gL s):(s.word.toList == Ref.bV)=decide (ao s=2):=by
 exact zc7
theorem zC (h:gL s):(s.word.toList == Ref.aL)=decide (ao s=1):=by
 exact zc7
theorem jV (h:gL s):0<=ao s/\ao s<=4:=by
 obtain ⟨k,h0,h4,hw,hd⟩:=h;rw [fk h0 h4 hw hd];exact ⟨h0,h4⟩
structure Inv (S:List Ref.State) (i:Nat):Prop where
 val:Val S
 words:∀ s∈S,gL s
 len:S.length<=24
 up:∀ k,k<S.length -> -1<=(S.getD k Ref.st0).up/\(S.getD k Ref.st0).up<k
 enter:∀ s∈S,(0<s.has0↔s.enter≠[])
 leave:∀ s∈S,(0<s.has1↔s.leave≠[])
 aj:∀ s∈S,s.aj.length<=i
theorem Inv.nil:Inv [] 0:=⟨fun k h=>absurd h zad,fun s h=>absurd h zad,zad,fun k h=>absurd h zad,fun s h=>absurd h zad,fun s h=>absurd h zad,fun s h=>absurd h zad⟩
theorem aX (h:k<S.length):S.getD k Ref.st0∈S:=by
 rw [Lm,K8 h];exact L9 h
theorem getD_eq (h:k<S.length):S.getD k Ref.st0=S[k]:=by
 rw [Lm,K8 h];rfl
theorem Cx (hI:Inv S i) (hk:k<(opn S).length):Ref.dq S ((k+1:Nat):Int)=((opn S)[k]:Int)/\(opn S)[k]<S.length:=by
 refine ⟨?_,et S S.length _ (L9 hk)⟩;rw [lx hI.val,Ld zaa];rw [show k+1-1=k from rfl,K8 hk]
theorem Ja (hI:Inv S i) (h:(opn S).length<d):Ref.dq S (d:Int) = -1:=by
 rw [lx hI.val,Ld zaa,LR zaa]
theorem wk (S:List Ref.State) (u:Nat):Ref.rJ (S.map Ref.emb) (u:Int)=(parts S u).isEmpty:=by
 unfold Ref.rJ parts;cases h:(bY S u S.length).isEmpty
 ·have hne:bY S u S.length≠[]:=fun e=>by rw [e] at h;cases h
  obtain ⟨x,t,e⟩:=Oz hne;have hx:x∈bY S u S.length:=by rw [e];exact LW
  obtain ⟨h1,h2⟩:=(im S.length).1 hx;rw [OV];exact ⟨Ref.emb (S.getD x Ref.st0),NC (aX h1),by
   show ¬ (!decide ((S.getD x Ref.st0).up=(u:Int)))=true;rw [Ma h2];simp⟩
 ·have hn:bY S u S.length=[]:=NX.1 h;rw [Oa];intro y hy;obtain ⟨s,hs,rfl⟩:=LQ.1 hy;obtain ⟨k,hk,rfl⟩:=NB hs;have:¬ k∈bY S u S.length:=by rw [hn];simp
  rw [im,getD_eq hk] at this;simp only [Ref.emb,Bool.not_eq_true'];exact LM fun e=>this ⟨hk,e⟩
theorem Gx (h:u<S.length):(Ref.BE (S.map Ref.emb) (u:Int)).s=S[u]:=by
 unfold Ref.BE;rw [NR,Lm,Lv,K8 h];rfl
theorem Hw (hI:Inv S i) {ns:Ref.State} (hns:gL ns) {dep:Nat} (hdep:ns.depth=dep) {X:List DS} (hX:X.map (·.s)=S) (how:ns.up = -1\/∃ u:Nat,ns.up=u/\u<S.length) :
  Ref.fits (S.map Ref.emb) (Ref.emb ns)=(!decide (X.length=24)&&(!decide (5<dep)&&(if ns.up<0 then !dj (ao ns) else match X[ns.up.toNat]? with | some x=>holds x (parts S ns.up.toNat) (ao ns) | none=>false))):=by
 have hXl:X.length=S.length:=zaH;unfold Ref.fits;rw [Lt,hXl];have hw:=iu hns;have hf:=mX hns;simp only [Ref.emb];simp only [hdep,hw,hf];by_cases h24:S.length=24
 ·simp [h24]
 ·by_cases h5:5<dep
  ·have:(5:Int)<(dep:Int):=zaa;simp [h24,h5,this]
  ·have h5':¬ (5:Int)<(dep:Int):=zaa
   rcases how with hu | ⟨u,hu,hul⟩
   ·simp only [hu];simp [h24,h5,h5']
   ·simp only [hu];have hneg:¬ (u:Int)<0:=zaa;have hxu:X[u]?=some (X[u]'(zaa)):=K8 _;have hxs:(X[u]'(zaa)).s=S[u]:=by
     have:=congrArg (fun l=>l[u]?) hX;simp only [List.getElem?_map,hxu,List.getElem?_eq_getElem hul,Option.map_some] at this;exact Md this
    have hwu:=hI.words S[u] (L9 hul);have hU:=Gx hul;rw [hU,iu hwu,mX hwu,zC hwu];have hn:=wk S u;rw [hn];simp only [Int.toNat_natCast,hxu];unfold holds;rw [hxs];obtain ⟨r0,r4⟩:=jV hwu;simp only [h24,h5,h5',hneg,decide_false,Bool.false_or,Bool.false_and,Bool.not_false,Bool.true_and,if_false,Bool.false_eq_true];have hk:ao S[u]=0\/ao S[u]=1\/ao S[u]=2\/ao S[u]=3\/ao S[u]=4:=zaa
    rcases hk with e | e | e | e | e <;> rw [e] <;> simp [dj]
theorem wS {k:Int} (up d:Int):Ref.jC (aE num (.state k n)) up d=⟨bp k,n,decide (k=4),up,d,num,[],[],[],0,0⟩:=rfl
theorem sx {k:Int}:Ref.bu S i (aE num (.state k n)) (d:Int)=if 0<d/\Ref.dq S d<0 then none else if Ref.fits (S.map Ref.emb) (Ref.emb ⟨bp k,n,decide (k=4),Ref.dq S d,d,num,[],[],[],0,0⟩) then some (S++[⟨bp k,n,decide (k=4),Ref.dq S d,d,num,[],[],[],0,0⟩]) else none:=by
 unfold Ref.bu;rw [Lg (show (aE num (.state k n)).kind=115 from rfl),wS];have e:(0<(d:Int)/\Ref.dq S ↑d<0)=(0<d/\Ref.dq S ↑d<0):=zad;simp only [e]
theorem uE (hI:Inv S j) {ev t:ByteArray} {af:Bool} {dl:Int}:Ref.bu S i (aE num (.move ev af dl t A)) (d:Int) =
  if d=0 then none else match (opn S)[d-1]? with
   | none=>none
   | some u=>if ao (S.getD u Ref.st0)∈([2,3,4]:List Int) then none else some (Ref.fR S u fun p=>{ p with aj:=p.aj++[⟨ev,t,af,dl,A,num⟩] }):=by
 unfold Ref.bu;rw [Ld (show ¬ (aE num (.move ev af dl t A)).kind=115 by simp [aE]),Lg (show (aE num (.move ev af dl t A)).kind=109 from rfl),lx hI.val];by_cases h0:d=0
 ·subst h0;simp
 ·rw [Ld h0,Ld h0];cases e:(opn S)[d-1]? with
  | none=>simp
  | some u =>
   have hu:u<S.length:=et S S.length u (Lj e);have hw:=hI.words _ (aX hu);simp only [Int.toNat_natCast];rw [Ld zaa,Ld zaa,iu hw,mX hw];obtain ⟨r0,r4⟩:=jV hw;have hk:ao (S.getD u Ref.st0)=0\/ao (S.getD u Ref.st0)=1\/ao (S.getD u Ref.st0)=2\/ao (S.getD u Ref.st0)=3\/ao (S.getD u Ref.st0)=4:=zaa
   rcases hk with e | e | e | e | e <;> rw [e] <;> simp [dj,aE]
theorem sr (hI:Inv S j):Ref.bu S i (aE num (.enter A)) (d:Int) =
  if d=0 then none else match (opn S)[d-1]? with
   | none=>none
   | some u=>if ao (S.getD u Ref.st0)∈([3,4]:List Int) then none else if (S.getD u Ref.st0).enter≠[] then none else some (Ref.fR S u fun p=>{ p with has0:=i+1,enter:=A }):=by
 unfold Ref.bu;rw [Ld (show ¬ (aE num (.enter A)).kind=115 by simp [aE]),Ld (show ¬ (aE num (.enter A)).kind=109 by simp [aE]),Lg (show (aE num (.enter A)).kind=101 from rfl),lx hI.val];by_cases h0:d=0
 ·subst h0;simp
 ·rw [Ld h0,Ld h0];cases e:(opn S)[d-1]? with
  | none=>simp
  | some u =>
   have hu:u<S.length:=et S S.length u (Lj e);have hw:=hI.words _ (aX hu);have he:=hI.enter _ (aX hu);exact zdc
theorem su (hI:Inv S j):Ref.bu S i (aE num (.leave A)) (d:Int) =
  if d=0 then none else match (opn S)[d-1]? with
   | none=>none
   | some u=>if ao (S.getD u Ref.st0)∈([3,4]:List Int) then none else if (S.getD u Ref.st0).leave≠[] then none else some (Ref.fR S u fun p=>{ p with has1:=i+1,leave:=A }):=by
 unfold Ref.bu;rw [Ld (show ¬ (aE num (.leave A)).kind=115 by simp [aE]),Ld (show ¬ (aE num (.leave A)).kind=109 by simp [aE]),Ld (show ¬ (aE num (.leave A)).kind=101 by simp [aE]),Lg (show (aE num (.leave A)).kind=108 from rfl),lx hI.val];by_cases h0:d=0
 ·subst h0;simp
 ·rw [Ld h0,Ld h0];cases e:(opn S)[d-1]? with
  | none=>simp
  | some u =>
   have hu:u<S.length:=et S S.length u (Lj e);have hw:=hI.words _ (aX hu);have he:=hI.leave _ (aX hu);exact zdc
def aP (S:List Ref.State):Nat->DataW Nat
 | 0 => .map []
 | k+1=>if Go.Maps.has (aP S k) (.string (S.getD k Ref.st0).name.data.toList) then aP S k else (aP S k).put (.string (S.getD k Ref.st0).name.data.toList) (.lit (.int .i64 (S.getD k Ref.st0).line))
def dH (S:List Ref.State):List (Int×Int):=S.map fun s=>(s.line,s.depth)
def bH (S:List Ref.State):Bool:=S.any fun s=>s.aj.any (·.after)
structure kC (S S':List Ref.State):Prop where
 len:S'.length=S.length
 same:∀ k,(S'.getD k Ref.st0).word=(S.getD k Ref.st0).word/\(S'.getD k Ref.st0).name=(S.getD k Ref.st0).name/\(S'.getD k Ref.st0).deep=(S.getD k Ref.st0).deep/\(S'.getD k Ref.st0).up=(S.getD k Ref.st0).up/\(S'.getD k Ref.st0).depth=(S.getD k Ref.st0).depth/\(S'.getD k Ref.st0).line=(S.getD k Ref.st0).line
theorem kC.KA (h:kC S S') (k:Nat):fs S' k=fs S k:=gF k (fun i _=>(h.same i).2.2.2.2.1)
theorem kC.opn (h:kC S S'):opn S'=opn S:=by unfold Pro.opn;rw [h.len];exact h.KA _
theorem kC.parts (h:kC S S') (i:Nat):parts S' i=parts S i:=by unfold Pro.parts;rw [h.len];exact jg i _ (fun j _=>(h.same j).2.2.2.1)
theorem kC.first {S S':List Ref.State} (h:kC S S'):∀ k,aP S' k=aP S k
 | 0=>rfl
 | k+1=>by rw [aP,aP,h.first k,(h.same k).2.1,(h.same k).2.2.2.2.2]
theorem kC.iF (h:kC S S'):dH S'=dH S:=by
 unfold dH;apply List.ext_getElem
 ·simp [h.len]
 ·intro k h1 h2;simp only [List.length_map] at h1 h2;have:=h.same k;rw [getD_eq h1,getD_eq h2] at this;simp only [List.getElem_map];rw [this.2.2.2.2.1,this.2.2.2.2.2]
theorem tX (h:s'.word=(S.getD u Ref.st0).word/\s'.name=(S.getD u Ref.st0).name/\s'.deep=(S.getD u Ref.st0).deep/\s'.up=(S.getD u Ref.st0).up/\s'.depth=(S.getD u Ref.st0).depth/\s'.line=(S.getD u Ref.st0).line):kC S (S.set u s'):=by
 refine ⟨Ll,fun k => ?_⟩;by_cases e:u=k
 ·subst e;by_cases hu:u<S.length
  ·have:(S.set u s').getD u Ref.st0=s':=by
    rw [Lm,Ny];simp [hu]
   rw [this];exact h
  ·rw [OM zaa];exact ⟨rfl,rfl,rfl,rfl,rfl,rfl⟩
 ·have:(S.set u s').getD k Ref.st0=S.getD k Ref.st0:=by
   rw [Lm,Ny,Ld e,Lm]
  rw [this];exact ⟨rfl,rfl,rfl,rfl,rfl,rfl⟩
theorem H7 (hI:Inv S i) (hu:u<S.length) (h:s'.word=(S.getD u Ref.st0).word/\s'.name=(S.getD u Ref.st0).name/\s'.deep=(S.getD u Ref.st0).deep/\s'.up=(S.getD u Ref.st0).up/\s'.depth=(S.getD u Ref.st0).depth/\s'.line=(S.getD u Ref.st0).line)
  (h0:0<s'.has0↔s'.enter≠[]) (h1:0<s'.has1↔s'.leave≠[]) (hm:s'.aj.length<=i+1):Inv (S.set u s') (i+1):=by
 have H:=tX h;refine ⟨fun k hk => ?_,fun s hs => ?_,by rw [Ll];exact hI.len,fun k hk => ?_,fun s hs => ?_,fun s hs => ?_,fun s hs => ?_⟩
 ·rw [Ll] at hk;rw [(H.same k).2.2.2.2.1,H.KA];exact hI.val k hk
 ·rcases LH hs with h' | h'
  ·exact hI.words s h'
  ·obtain ⟨k,r0,r4,hw,hd⟩:=hI.words _ (aX hu);rw [h'];exact ⟨k,r0,r4,h.1.trans hw,h.2.2.1.trans hd⟩
 ·rw [Ll] at hk;rw [(H.same k).2.2.2.1];exact hI.up k hk
 ·rcases LH hs with h' | h'
  ·exact hI.enter s h'
  ·rw [h'];exact h0
 ·rcases LH hs with h' | h'
  ·exact hI.leave s h'
  ·rw [h'];exact h1
 ·rcases LH hs with h' | h'
  ·have:=hI.aj s h';omega
  ·rw [h'];exact hm
theorem Az (hI:Inv S i) (hl:S.length≠24) (hw:gL s) (h0:0<=s.depth) (h1:s.depth.toNat<=(opn S).length) (hu0 : -1<=s.up) (hu:s.up<S.length) (he:s.enter=[]) (hlv:s.leave=[]) (hm:s.aj=[]) (hh0:s.has0=0) (hh1:s.has1=0):Inv (S++[s]) (i+1):=by
 have:=hI.len;refine ⟨BG hI.val h0 h1,fun x hx => ?_,zaf,fun k hk => ?_,fun x hx => ?_,fun x hx => ?_,fun x hx => ?_⟩
 ·rcases Lz.1 hx with h | h
  ·exact hI.words x h
  ·rw [Li.1 h];exact hw
 ·by_cases h:k<S.length
  ·rw [bm h];exact hI.up k h
  ·have e:k=S.length:=by simp at hk;omega
   subst e;rw [cV];exact ⟨hu0,hu⟩
 ·rcases Lz.1 hx with h | h
  ·exact hI.enter x h
  ·rw [Li.1 h,he,hh0];simp
 ·rcases Lz.1 hx with h | h
  ·exact hI.leave x h
  ·rw [Li.1 h,hlv,hh1];simp
 ·rcases Lz.1 hx with h | h
  ·have:=hI.aj x h;omega
  ·rw [Li.1 h,hm];simp
theorem vM (S:List Ref.State) (s:Ref.State):aP (S++[s]) (S++[s]).length=if Go.Maps.has (aP S S.length) (.string s.name.data.toList) then aP S S.length else (aP S S.length).put (.string s.name.data.toList) (.lit (.int .i64 s.line)):=by
 have hc:∀ k,k<=S.length->aP (S++[s]) k=aP S k:=by
  intro k
  induction k with
  | zero=>intro _;rfl
  | succ k ih=>intro hk;rw [aP,aP,ih zaa,bm zaa]
 rw [Ls,show S.length+[s].length=S.length+1 from rfl,aP,hc S.length (K7 _),cV]
theorem wN (S:List Ref.State) (s:Ref.State):dH (S++[s])=dH S++[(s.line,s.depth)]:=by simp [dH]
theorem wR (S:List Ref.State) (s:Ref.State) (h:s.aj=[]):bH (S++[s])=bH S:=by simp [bH,h]
theorem lj (h:s'.aj=(S.getD u Ref.st0).aj):bH (S.set u s')=bH S:=by
 unfold bH;by_cases hu:u<S.length
 ·have e:(S.set u s').map (·.aj)=S.map (·.aj):=by
   rw [OF];apply Np
   intro i;rw [Ny];split
   ·rename_i e;subst e;simp [hu,h]
   ·rfl
  have f:∀ T:List Ref.State,(T.any fun s=>s.aj.any (·.after))=(T.map (·.aj)).any (fun m=>m.any (·.after)):=by
   intro T;rw [List.any_map];rfl
  rw [f,f,e]
 ·rw [OM zaa]
theorem sG {m:Ref.Move} (hu:u<S.length) (h:s'.aj=(S.getD u Ref.st0).aj++[m]):bH (S.set u s')=(bH S||m.after):=by
 cases ha:(bH S||m.after)
 ·rw [Bool.or_eq_false_iff] at ha;show List.any _ _=false;rw [O3];intro x hx
  rcases LH hx with h' | h'
  ·have:=ha.1;unfold bH at this;rw [O3] at this;exact this x h'
  ·rw [h',h,Ot];have h1:=ha.1;unfold bH at h1;rw [O3] at h1;have:=h1 _ (aX hu);simp [ha.2] at this ⊢;exact this
 ·show List.any _ _=true;rw [NJ];rw [Bool.or_eq_true] at ha
  rcases ha with ha | ha
  ·unfold bH at ha;rw [NJ] at ha;obtain ⟨x,hx,hxa⟩:=ha;obtain ⟨k,hk,rfl⟩:=NB hx;by_cases e:u=k
   ·subst e;refine ⟨s',O4 hu _,?_⟩;rw [h,Ot,getD_eq hu,hxa];rfl
   ·refine ⟨S[k],?_,hxa⟩;have:(S.set u s')[k]'(by rw [Ll];exact hk)=S[k]:=by rw [Mp,Ld e]
    rw [<- this];exact L9 _
  ·refine ⟨s',O4 hu _,?_⟩;rw [h,Ot];simp [ha]
end Pro
structure fB (w0 w:World) (db:Nat) (S:List Ref.State) (i:Nat):Prop where
 mem:∃ sv pv ov mb X nm,X.map (·.s)=S/\nm<=S.length/\al w0 w db sv pv ov mb (Pro.bH S) X (Pro.dH S) (Pro.opn S) (Pro.parts S) nm (Pro.aP S S.length)
 inv:Pro.Inv S i
def dr (w0:World) (db:Nat) (S:List Ref.State) (i d:Nat) (L:Pro.PL) (w:World) (e:Ending) (w':World):Prop:=match Ref.bu S i (Pro.aE (i+1) L) (d:Int) with
 | none=>aW 3 ((i+1:Nat):Int) w e w'
 | some S'=>e = .returned (.tuple #[])/\fB w0 w' db S' (i+1)
theorem Ke (h:i<=1000000):(Lit.int .i64 ((i:Nat):Int)).wf=true:=WalkArith.wf_i64 zaa
theorem qd {X:List Pro.DS} (h:X.map (·.s)=S) (hu:u<S.length):∃ hx:u<X.length,X[u].s=S.getD u Ref.st0:=by
 have hl:X.length=S.length:=by rw [<- h,Lt]
 refine ⟨zaa,?_⟩;subst h;rw [Pro.getD_eq hu,Ns]
theorem Bc (w0 w:World) (db:Nat) (S:List Ref.State) (i d:Nat) (k:Int) (n:ByteArray) (H:fB w0 w db S i) (hk0:0<=k) (hk4:k<=4) (hn:n.size<=1000000) (hd:d<=1000000) (hi:i<=100000) :
  () 359 #[.agg (ed ((i+1:Nat):Int) d k n),db] w (dr w0 db S i d (.state k n) w):=by
 obtain ⟨⟨sv,pv,ov,mb,X,nm,hX,hnm,G⟩,I⟩:=H;have hXl:X.length=S.length:=zaH;have hlen:=I.len;have hol:=Pro.jD S S.length;change (Pro.opn S).length<=S.length at hol;unfold dr;rw [Pro.sx];by_cases hbad:0<d/\Ref.dq S d<0
 ·rw [Lg hbad];refine pW _ d k n G hbad.1 ?_ zaa
  rcases Nl (Pro.opn S).length d with h | h
  ·exact h
  ·obtain ⟨d',rfl⟩:∃ d',d=d'+1:=⟨d-1,zaa⟩;have:=(Pro.Cx I (k:=d') zaa).1;have h2:=hbad.2;rw [this] at h2;omega
 ·rw [Ld hbad];obtain ⟨ns,hns⟩:∃ ns:Ref.State,ns=⟨Pro.bp k,n,decide (k=4),Ref.dq S d,d,((i+1:Nat):Int),[],[],[],0,0⟩:=⟨_,rfl⟩;have hdo:d<=(Pro.opn S).length:=by
   rcases Nl (Pro.opn S).length d with h | h
   ·exact absurd ⟨zaa,by rw [Pro.Ja I h];decide⟩ hbad
   ·exact h
  have how:(d=0/\Ref.dq S d = -1)\/∃ (k u:Nat) (hk:k<(Pro.opn S).length),d=k+1/\(Pro.opn S)[k]=u/\Ref.dq S d=u/\u<X.length:=by
   by_cases h0:d=0
   ·subst h0;exact .inl ⟨rfl,rfl⟩
   ·obtain ⟨d',rfl⟩:∃ d',d=d'+1:=⟨d-1,zaa⟩;obtain ⟨h1,h2⟩:=Pro.Cx I (k:=d') zaa;exact .inr ⟨d',_,zaa,rfl,rfl,h1,zaa⟩
  have how2:Ref.dq S d = -1\/∃ u:Nat,Ref.dq S d=u/\u<S.length:=by
   rcases how with ⟨_,h⟩ | ⟨_,u,_,_,_,h,hu⟩
   ·exact .inl h
   ·exact .inr ⟨u,h,zaa⟩
  have hw:Pro.gL ns:=⟨k,hk0,hk4,zan,zan⟩;have hkd:Pro.ao ns=k:=Pro.fk hk0 hk4 zan zan;have hfit:=Pro.Hw I hw (dep:=d) zan hX (by rw [hns];exact how2);have hst:=sj ((i+1:Nat):Int) d k (Ref.dq S d) n ns G zaa (by unfold Pro.dH;rw [Lt];omega) zaa (fun j=>by have:=Pro.k9 S j S.length;exact La this zaa) zaa
   hkd zan zan zan zan zan zan hdo hn (Ke zaa) how (by
    rw [hXl];exact Pro.nW _ (fun j hj e=>by have:=(I.up j hj).2;omega))
  refine Lh hst ?_;intro e w' h;have hup:ns.up=Ref.dq S d:=zan;rw [hkd,hup] at hfit;change _=iN X (Pro.parts S) d (Ref.dq S d) k at hfit;rw [<- hns,hfit];cases hok:iN X (Pro.parts S) d (Ref.dq S d) k
  ·rw [hok] at h;exact h
  ·rw [hok] at h;obtain ⟨rfl,sv',pv',ov',X',hX',G'⟩:=h;have h24:S.length≠24:=by
    intro e;unfold iN at hok;rw [hXl,Ma e] at hok;cases hok
   refine ⟨rfl,⟨sv',pv',ov',mb,X',nm+1,by rw [hX',hX],zaf,?_⟩,?_⟩
   ·have e1:Pro.bH (S++[ns])=Pro.bH S:=Pro.wR S ns zan;have e2:Pro.dH (S++[ns])=Pro.dH S++[(((i+1:Nat):Int),(d:Int))]:=by rw [Pro.wN,hns]
    have e3:Pro.opn (S++[ns])=(Pro.opn S).take d++[X.length]:=by rw [Pro.AY,hXl,hns];rfl
    have e4:Pro.parts (S++[ns])=fun j:Nat=>if (j:Int)=Ref.dq S d then Pro.parts S j++[X.length] else Pro.parts S j:=by
     funext j;rw [Pro.wC,hXl,hup]
    have e5:Pro.aP (S++[ns]) (S++[ns]).length=if Go.Maps.has (Pro.aP S S.length) (.string n.data.toList) then Pro.aP S S.length else (Pro.aP S S.length).put (.string n.data.toList) (.lit (.int .i64 ((i+1:Nat):Int))):=by rw [Pro.vM,hns]
    rw [e1,e2,e3,e4,e5];exact G'
   ·refine Pro.Az I h24 hw (by rw [hns];show (0:Int)<=(d:Int);omega) (by rw [hns];simpa using hdo) ?_ ?_ zan zan zan zan zan
    ·exact zeW
    ·exact zeW
theorem jS {w0 w':World} {db:Nat} {sv pv ov:Ref.Sl} {mb nm:Nat} {X:List Pro.DS} {x':Pro.DS} {tm:Bool} (hX:X.map (·.s)=S) (hnm:nm<=S.length) (I:Pro.Inv S i) (hu:u<S.length)
  (h:x'.s.word=(S.getD u Ref.st0).word/\x'.s.name=(S.getD u Ref.st0).name/\x'.s.deep=(S.getD u Ref.st0).deep/\x'.s.up=(S.getD u Ref.st0).up/\x'.s.depth=(S.getD u Ref.st0).depth/\x'.s.line=(S.getD u Ref.st0).line)
  (h0:0<x'.s.has0↔x'.s.enter≠[]) (h1:0<x'.s.has1↔x'.s.leave≠[]) (hm:x'.s.aj.length<=i+1) (ht:Pro.bH (S.set u x'.s)=tm)
  (G:al w0 w' db sv pv ov mb tm (X.set u x') (Pro.dH S) (Pro.opn S) (Pro.parts S) nm (Pro.aP S S.length)):fB w0 w' db (S.set u x'.s) (i+1):=by
 have H:=Pro.tX h;refine ⟨⟨sv,pv,ov,mb,X.set u x',nm,?_,by rw [Ll];exact hnm,?_⟩,Pro.H7 I hu h h0 h1 hm⟩
 ·rw [OF,hX]
 ·have e4:Pro.parts (S.set u x'.s)=Pro.parts S:=funext fun j=>H.parts j;rw [ht,H.iF,H.opn,e4,H.len,H.first];exact G
theorem DJ (w0 w:World) (db:Nat) (S:List Ref.State) (i d:Nat) (ev t:ByteArray) (af:Bool) (dl:Int) (A:List Ref.Act) (v:Ref.Sl) (H:fB w0 w db S i) (hd:d<=1000000) (hi:i<=100000) (hA:w0.ownsRow 0 324 1 v.v A.length (A.map bf)) :
  () 364 #[.agg #[.int .i64 ((i+1:Nat):Int),(d:Int),ev,af,.int .u64 dl,t,.slice v.a v.n v.c],db] w (dr w0 db S i d (.move ev af dl t A) w):=by
 obtain ⟨⟨sv,pv,ov,mb,X,nm,hX,hnm,G⟩,I⟩:=H;have hXl:X.length=S.length:=zaH;have hlen:=I.len;have hol:=Pro.jD S S.length;change (Pro.opn S).length<=S.length at hol;have y:Pro.PV:=⟨⟨ev,t,af,dl,A,((i+1:Nat):Int)⟩,v⟩;unfold dr;rw [Pro.uE I];by_cases h0:d=0
 ·rw [Lg h0];exact kU _ d ⟨⟨ev,t,af,dl,A,((i+1:Nat):Int)⟩,v⟩ G (.inl h0) zaa
 ·rw [Ld h0];obtain ⟨d',rfl⟩:∃ d',d=d'+1:=⟨d-1,zaa⟩;rw [show d'+1-1=d' from rfl]
  rcases Nl d' (Pro.opn S).length with hk | hk
  ·rw [K8 hk];have hu:(Pro.opn S)[d']<S.length:=Pro.et S S.length _ (L9 hk);obtain ⟨u,hue⟩:∃ u,u=(Pro.opn S)[d']:=⟨_,rfl⟩;rw [<- hue] at hu ⊢;obtain ⟨hux,hxs⟩:=qd hX hu;obtain ⟨g,cap,rfl⟩:=G.Bj zaa;simp only;by_cases hb:Pro.ao (S.getD u Ref.st0)∈([2,3,4]:List Int)
   ·rw [Lg hb];exact s9 _ (d'+1) ⟨⟨ev,t,af,dl,A,((i+1:Nat):Int)⟩,v⟩ d' u g cap G hk rfl zaa hue.symm hux zaC
   ·rw [Ld hb];have hml:=I.aj _ (Pro.aX hu);refine Lh (td _ (d'+1) ⟨⟨ev,t,af,dl,A,((i+1:Nat):Int)⟩,v⟩ d' u g cap G hk rfl zaa hue.symm hux zaC hA (by rw [hxs];omega)) ?_;rintro e w' ⟨rfl,vm',G'⟩;refine ⟨rfl,?_⟩;have he:=I.enter _ (Pro.aX hu);have hl:=I.leave _ (Pro.aX hu);have:=jS (x':=Pro.cY X[u] ⟨⟨ev,t,af,dl,A,((i+1:Nat):Int)⟩,v⟩ vm') hX hnm I hu (by simp [Pro.cY,hxs]) (by simpa [Pro.cY,hxs] using he) (by simpa [Pro.cY,hxs] using hl) (by simp [Pro.cY,hxs];simpa using hml) (Pro.sG hu (m:=⟨ev,t,af,dl,A,((i+1:Nat):Int)⟩) (by simp [Pro.cY,hxs])) G';exact zff
  ·rw [LR hk];exact kU _ (d'+1) ⟨⟨ev,t,af,dl,A,((i+1:Nat):Int)⟩,v⟩ G (.inr zaa) zaa
theorem Ba (w0 w:World) (db:Nat) (S:List Ref.State) (i d:Nat) (A:List Ref.Act) (v:Ref.Sl) (H:fB w0 w db S i) (hd:d<=1000000) (hA:w0.ownsRow 0 324 1 v.v A.length (A.map bf)) (hA0:A≠[]) :
  () 369 #[.agg #[.int .i64 ((i+1:Nat):Int),(d:Int),.slice v.a v.n v.c],db] w (dr w0 db S i d (.enter A) w):=by
 obtain ⟨⟨sv,pv,ov,mb,X,nm,hX,hnm,G⟩,I⟩:=H;have hXl:X.length=S.length:=zaH;have hlen:=I.len;have hol:=Pro.jD S S.length;change (Pro.opn S).length<=S.length at hol;unfold dr;rw [Pro.sr I];by_cases h0:d=0
 ·rw [Lg h0];exact kn _ d v.a v.n v.c G (.inl h0) zaa
 ·rw [Ld h0];obtain ⟨d',rfl⟩:∃ d',d=d'+1:=⟨d-1,zaa⟩;rw [show d'+1-1=d' from rfl]
  rcases Nl d' (Pro.opn S).length with hk | hk
  ·rw [K8 hk];have hu:(Pro.opn S)[d']<S.length:=Pro.et S S.length _ (L9 hk);obtain ⟨u,hue⟩:∃ u,u=(Pro.opn S)[d']:=⟨_,rfl⟩;rw [<- hue] at hu ⊢;obtain ⟨hux,hxs⟩:=qd hX hu;obtain ⟨g,cap,rfl⟩:=G.Bj zaa;simp only;have hvn:X[u].ve.n=(S.getD u Ref.st0).enter.length:=by
    rw [<- hxs]
    rcases (G.deep u hux).enter.2 with ⟨h,h0⟩ | ⟨g,cap,cur,h,_⟩
    ·exact ze9
    ·exact zfl
   by_cases hb:Pro.ao (S.getD u Ref.st0)∈([3,4]:List Int)
   ·rw [Lg hb];exact pP _ (d'+1) v.a v.n v.c d' u g cap G hk rfl zaa hue.symm hux zaC
   ·rw [Ld hb];by_cases h2:(S.getD u Ref.st0).enter≠[]
    ·rw [Lg h2];exact oO _ (d'+1) v.a v.n v.c d' u g cap G hk rfl zaa hue.symm hux zaC (by rw [hvn];exact Nc.2 h2)
    ·rw [Ld h2];have h2':(S.getD u Ref.st0).enter=[]:=Classical.not_not.1 h2;refine Lh (qN _ (d'+1) v.a v.n v.c d' u g cap G hk rfl zaa hue.symm hux zaC (by rw [hvn,h2'];rfl) A hA) ?_;rintro e w' ⟨rfl,G'⟩;refine ⟨rfl,?_⟩;have he:=I.enter _ (Pro.aX hu);have hl:=I.leave _ (Pro.aX hu);have hml:=I.aj _ (Pro.aX hu);have:=jS (x':=Pro.gu X[u] ((i+1:Nat):Int) A v) hX hnm I hu (by simp [Pro.gu,hxs]) (by simp [Pro.gu];exact hA0) (by simpa [Pro.gu,hxs] using hl) (by simp [Pro.gu,hxs];have:=hml;simp at this;omega) (Pro.lj (by simp [Pro.gu,hxs])) G';exact zff
  ·rw [LR hk];exact kn _ (d'+1) v.a v.n v.c G (.inr zaa) zaa
theorem Bb (w0 w:World) (db:Nat) (S:List Ref.State) (i d:Nat) (A:List Ref.Act) (v:Ref.Sl) (H:fB w0 w db S i) (hd:d<=1000000) (hA:w0.ownsRow 0 324 1 v.v A.length (A.map bf)) (hA0:A≠[]) :
  () 371 #[.agg #[.int .i64 ((i+1:Nat):Int),(d:Int),.slice v.a v.n v.c],db] w (dr w0 db S i d (.leave A) w):=by
 obtain ⟨⟨sv,pv,ov,mb,X,nm,hX,hnm,G⟩,I⟩:=H;have hXl:X.length=S.length:=zaH;have hlen:=I.len;have hol:=Pro.jD S S.length;change (Pro.opn S).length<=S.length at hol;unfold dr;rw [Pro.su I];by_cases h0:d=0
 ·rw [Lg h0];exact kr _ d v.a v.n v.c G (.inl h0) zaa
 ·rw [Ld h0];obtain ⟨d',rfl⟩:∃ d',d=d'+1:=⟨d-1,zaa⟩;rw [show d'+1-1=d' from rfl]
  rcases Nl d' (Pro.opn S).length with hk | hk
  ·rw [K8 hk];have hu:(Pro.opn S)[d']<S.length:=Pro.et S S.length _ (L9 hk);obtain ⟨u,hue⟩:∃ u,u=(Pro.opn S)[d']:=⟨_,rfl⟩;rw [<- hue] at hu ⊢;obtain ⟨hux,hxs⟩:=qd hX hu;obtain ⟨g,cap,rfl⟩:=G.Bj zaa;simp only;have hvn:X[u].vl.n=(S.getD u Ref.st0).leave.length:=by
    rw [<- hxs]
    rcases (G.deep u hux).leave.2 with ⟨h,h0⟩ | ⟨g,cap,cur,h,_⟩
    ·exact ze9
    ·exact zfl
   by_cases hb:Pro.ao (S.getD u Ref.st0)∈([3,4]:List Int)
   ·rw [Lg hb];exact pS _ (d'+1) v.a v.n v.c d' u g cap G hk rfl zaa hue.symm hux zaC
   ·rw [Ld hb];by_cases h2:(S.getD u Ref.st0).leave≠[]
    ·rw [Lg h2];exact oT _ (d'+1) v.a v.n v.c d' u g cap G hk rfl zaa hue.symm hux zaC (by rw [hvn];exact Nc.2 h2)
    ·rw [Ld h2];have h2':(S.getD u Ref.st0).leave=[]:=Classical.not_not.1 h2;refine Lh (rB _ (d'+1) v.a v.n v.c d' u g cap G hk rfl zaa hue.symm hux zaC (by rw [hvn,h2'];rfl) A hA) ?_;rintro e w' ⟨rfl,G'⟩;refine ⟨rfl,?_⟩;have he:=I.enter _ (Pro.aX hu);have hl:=I.leave _ (Pro.aX hu);have hml:=I.aj _ (Pro.aX hu);have:=jS (x':=Pro.gw X[u] ((i+1:Nat):Int) A v) hX hnm I hu (by simp [Pro.gw,hxs]) (by simpa [Pro.gw,hxs] using he) (by simp [Pro.gw];exact hA0) (by simp [Pro.gw,hxs];have:=hml;simp at this;omega) (Pro.lj (by simp [Pro.gw,hxs])) G';exact zff
  ·rw [LR hk];exact kr _ (d'+1) v.a v.n v.c G (.inr zaa) zaa
variable {w0 w:World} {db mb nm:Nat} {sv pv ov:Ref.Sl} {tm:Bool} {X:List Pro.DS} {SP:List (Int×Int)} {O:List Nat} {PT:Nat->List Nat} {D:DataW Nat}
def dv (X:List Pro.DS) (p:List Nat):Bool:=p.any fun j=>match X[j]? with | some x => !Pro.dj (Pro.ao x.s) | none=>false
theorem mF (u:Nat) (G:al w0 w db sv pv ov mb tm X SP O PT nm D) (hu:u<X.length) (hX:X.length<=1000) (hPT:∀ j∈PT u,j<X.length) (hPl:(PT u).length<=1000) :
  () 178 #[db,.agg #[.int .i64 (Pro.ao X[u].s),.string X[u].s.name,.int .i64 X[u].s.depth,.int .i64 X[u].s.up,.slice X[u].vp.a (PT u).length X[u].vp.c,.slice X[u].ve.a X[u].ve.n X[u].ve.c,.slice X[u].vl.a X[u].vl.n X[u].vl.c,.slice X[u].vm.a X[u].vm.n X[u].vm.c]] w fun e w'=>e = .returned (.bool (dv X (PT u)))/\Below w w w':=by
 obtain ⟨g,cap,rfl⟩:=G.Bj zaa;obtain ⟨hcap,hgl,_⟩:=G.sS;have hdl:=G.dlt;obtain ⟨c0,_,_,_,_⟩:=G.cells;have HR:Hid (∀ j (hj:j<X.length),w.cell? ⟨g,j*8,none⟩=some (.int .i64 (Pro.ao X[j].s))):=fun j hj=>by
  have:=G.tp hj 0 (.int .i64 (Pro.ao X[j].s)) rfl;simpa using this
 have HV:Hid (∀ k (hk:k<(PT u).length),∃ gp,X[u].vp.a=some ⟨gp,0,none⟩/\gp<w.heap.size/\w.cell? ⟨gp,k,none⟩=some (.int .i64 ((PT u)[k]:Nat))/\(PT u).length<=X[u].vp.c):=fun k hk=>by
  have ho:=G.parts u hu;obtain ⟨gp,cp,e⟩:=Ref.eR ho zaa;have h:=ho;rw [e] at h;have hc:=Row.cell (α:=Nat) (n:=1) (j:=0) (f:=dX) (fun _=>rfl) (aD h (Lk _)) zac hk;have hc':w.cell? ⟨gp,k,none⟩=some (.int .i64 ((PT u)[k]:Nat)):=by simpa [dX] using hc
  simp only [Ref.Sl.v,Value.slice.injEq] at e;refine ⟨gp,e.1,LC _ _ hc',hc',?_⟩
  rcases h.2 with ⟨h,_⟩ | ⟨g',cap',cur,h,_,_,hle,_⟩
  ·cases h
  ·simp at h;rw [e.2.2,h.2];exact hle
 have HP:Hid _:=hPT;generalize hkd:Pro.ao X[u].s=kd0;generalize hva:X[u].vp.a=va at *;generalize hvc:X[u].vp.c=vc at *;clear hkd hva hvc hPT G;go_enter func178,ntmps178;go_wp2
 go_loop [10] (fun i=>∃ k:Nat,k<=(PT u).length/\i = .int .i64 k/\dv X ((PT u).take k)=false) (fun i=>(PT u).length-(intOf i).toNat)
 case atStart=>exact ⟨0,Lk _,rfl,rfl⟩
 case round =>
  obtain ⟨k,hk,rfl,hno⟩:=hrel;by_cases hkn:k<(PT u).length
  ·obtain ⟨gp,rfl,hgp,cp,hcp⟩:=HV.out k hkn;have hj:=HP.out _ (L9 hkn);obtain ⟨j,hje⟩:∃ j,j=(PT u)[k]:=⟨_,rfl⟩;rw [<- hje] at cp hj;have cK:=HR.out j hj;have HN:Hid (dv X ((PT u).take (k+1))=(dv X ((PT u).take k) || !Pro.dj (Pro.ao X[j].s))):=by
    unfold Hid dv;rw [ML,K8 hkn,Ot,<- hje];simp [hj]
   generalize hq:Pro.ao X[j].s=kj at *;clear hq;have HNo:Hid _:=hno;clear hno hje;go_wp2_with fail;refine (jb kj _).mono ?_;rintro e w9 ⟨rfl,hw9⟩;rw [hw9];clear hw9 w9;obtain ⟨h,hh⟩:∃ h,h=Pro.dj kj:=⟨_,rfl⟩;have hi:(decide (kj=3)||decide (kj=4))=h:=hh.symm;rw [hi];rw [<- hh] at HN;clear hh hi;cases h with
   | true =>
    dsimp only;go_wp2
    go_round
    case rel=>exact ⟨k+1,zaa,zah,by rw [HN.out,HNo.out];rfl⟩
    case measure=>simp [intOf];omega
   | false =>
    have HT:Hid (dv X (PT u)=true):=by
     have h1:dv X ((PT u).take (k+1))=true:=by rw [HN.out,HNo.out];rfl
     unfold dv at h1;exact zd7
    dsimp only;go_wp2;go_ret;exact ⟨by rw [HT.out];rfl,(K9 _ _).alloc (K7 _) _⟩
  ·have hkl:k=(PT u).length:=zaa;have HF:Hid (dv X (PT u)=false):=by
    exact zfg
   clear hno;go_wp2;go_ret;exact ⟨by rw [HF.out];rfl,(K9 _ _).alloc (K7 _) _⟩
namespace Pro
theorem tk (hI:Inv S i) {X:List DS} (hX:X.map (·.s)=S) (k:Nat):(Ref.regions (S.map Ref.emb) k).isEmpty = !dv X (parts S k):=by
 have hmem:∀ (m:Nat) (x:Nat),x∈Ref.rY (S.map Ref.emb) k m↔x<m/\∃ h:x<S.length,S[x].up=k/\dj (ao S[x])=false:=by
  intro m
  induction m with
  | zero=>intro x;simp [Ref.rY]
  | succ m ih =>
   intro x;rw [Ref.rY];by_cases hm:m<S.length
   ·have e:((S.map Ref.emb)[m]?.map (Ref.Cd k)).getD false=(decide (S[m].up=k) && !dj (ao S[m])):=by
     rw [Lv,K8 hm];simp only [Option.map_some,Option.getD_some,Ref.Cd,Ref.emb];rw [iu (hI.words _ (L9 hm))]
    rw [e];by_cases hc:(decide (S[m].up=(k:Int)) && !dj (ao S[m]))=true
    ·rw [Lg hc,Lz,ih,Li];rw [LJ,N6,PI] at hc;constructor
     ·rintro (⟨h1,h2⟩ | rfl)
      ·exact ⟨zaa,h2⟩
      ·exact ⟨zaa,hm,hc.1,hc.2⟩
     ·rintro ⟨h1,h2⟩;by_cases ex:x=m
      ·exact .inr ex
      ·exact .inl ⟨zaa,h2⟩
    ·rw [Ld hc,ih];constructor
     ·exact zfe
     ·rintro ⟨h1,h2⟩;refine ⟨?_,h2⟩;have:x≠m:=by
       rintro rfl;obtain ⟨_,h3,h4⟩:=h2;apply hc
       rw [Ma h3,h4];rfl
      omega
   ·have e:((S.map Ref.emb)[m]?.map (Ref.Cd k)).getD false=false:=by
     rw [LR za2];rfl
    rw [e];simp only [Bool.false_eq_true,if_false];rw [ih];constructor
    ·exact zfe
    ·rintro ⟨h1,h2,h3⟩;exact ⟨zaa,h2,h3⟩
 unfold Ref.regions;rw [Lt];have hXl:X.length=S.length:=zaH;have hXs:∀ x (h:x<S.length),(X[x]'(zaa)).s=S[x]:=fun x h=>by
  subst hX;rw [Ns]
 cases hp:dv X (parts S k)
 ·show _=true;rw [NX];unfold dv at hp;rw [O3] at hp;rw [List.eq_nil_iff_forall_not_mem];intro x hx;obtain ⟨h1,h2,h3,h4⟩:=(hmem S.length x).1 hx;have:=hp x ((im S.length).2 ⟨h2,by rw [getD_eq h2];exact h3⟩);rw [K8 zaa] at this;simp only [hXs x h2,h4] at this;exact this rfl
 ·show _=false;unfold dv at hp;rw [NJ] at hp;obtain ⟨x,hx,hx2⟩:=hp;obtain ⟨h1,h2⟩:=(im S.length).1 hx;rw [K8 zaa] at hx2;simp only [hXs x h1,Bool.not_eq_true'] at hx2;rw [getD_eq h1] at h2;have hm:=(hmem S.length x).2 ⟨h1,h1,h2,hx2⟩;cases hr:Ref.rY (S.map Ref.emb) k S.length with
  | nil=>rw [hr] at hm;cases hm
  | cons a b=>rfl
theorem A7 (hI:Inv S i) {X:List DS} (hX:X.map (·.s)=S) (hk:k<S.length) (h:Ref.dF S k=none):Ref.dF S (k+1)=if ao (S.getD k Ref.st0)=1/\dv X (parts S k)=false then some (S.getD k Ref.st0).line else none:=by
 rw [Ref.dF,h];simp only;rw [zC (hI.words _ (aX hk)),tk hI hX];by_cases h1:ao (S.getD k Ref.st0)=1
 ·rw [Ma h1];cases hp:dv X (parts S k)
  ·rw [Lg zae,Lg ⟨h1,rfl⟩]
  ·rw [Ld zad,Ld zad]
 ·rw [LM h1,Ld zad,Ld (fun h=>h1 h.1)]
end Pro
def pY (S:List Ref.State) (w:World) (e:Ending) (w':World):Prop:=match Ref.dF S S.length with
 | some l=>aW 3 l w e w'
 | none=>e = .returned (.tuple #[])/\Below w.heap.size w w'
theorem mB (w0 w:World) (db:Nat) (S:List Ref.State) (i:Nat) (H:fB w0 w db S i) (hS:0<S.length) :
  () 143 #[db] w (pY S w):=by
 obtain ⟨⟨sv,pv,ov,mb,X,nm,hX,hnm,G⟩,I⟩:=H;have hXl:X.length=S.length:=zaH;have hlen:=I.len;obtain ⟨g,cap,rfl⟩:=G.Bj zaa;obtain ⟨hsvc,hgl,_⟩:=G.sS;have hdl:=G.dlt;obtain ⟨c0,c1,_,_,_⟩:=G.cells;have hpn:=G.KC;rw [hpn] at c1;have hspl:(Pro.dH S).length=X.length:=by unfold Pro.dH;rw [Lt,hXl]
 rw [hspl] at c1;have HSp:Hid (∀ k (hk:k<X.length),∃ gs,pv.a=some ⟨gs,0,none⟩/\w.cell? ⟨gs,k*2,none⟩=some (.int .i64 (S.getD k Ref.st0).line)/\w.cell? ⟨gs,k*2+1,none⟩=some (.int .i64 (S.getD k Ref.st0).depth)/\X.length<=pv.c):=fun k hk=>by
  have ho:=G.iF;obtain ⟨gs,cs,e⟩:=Ref.eR ho zaa;have h:=ho;rw [e] at h;have hr:=Row.range (f:=Pro.iq) (n:=2) (fun _=>rfl) (aD h (Lk _)) (show k<(Pro.dH S).length by omega);have es:(Pro.dH S)[k]'(zaa)=((S.getD k Ref.st0).line,(S.getD k Ref.st0).depth):=by unfold Pro.dH;rw [Ns,Pro.getD_eq (show k<S.length by omega)]
  rw [es] at hr;simp only [Ref.Sl.v,Value.slice.injEq] at e;refine ⟨gs,e.1,by have:=hr 0 _ rfl;simpa using this,hr 1 _ rfl,?_⟩
  rcases h.2 with ⟨h,_⟩ | ⟨g',cap',cur,h,_,_,hle,_⟩
  ·cases h
  ·simp at h;rw [e.2.2,h.2,<- hspl];exact hle
 have HRow:Hid (∀ k (hk:k<X.length),w.rangeAt g (k*8) [.int .i64 (Pro.ao X[k].s),.string X[k].s.name,.int .i64 X[k].s.depth,.int .i64 X[k].s.up,.slice X[k].vp.a (Pro.parts S k).length X[k].vp.c,.slice X[k].ve.a X[k].ve.n X[k].ve.c,.slice X[k].vl.a X[k].vl.n X[k].vl.c,.slice X[k].vm.a X[k].vm.n X[k].vm.c]):=fun k hk=>by
  have:=G.tp hk;rw [Pro.aN,G.Jo hk] at this;exact this
 have HHas:Hid (∀ k (hk:k<X.length) w',Below w w w'->() 178 #[db,.agg #[.int .i64 (Pro.ao X[k].s),.string X[k].s.name,.int .i64 X[k].s.depth,.int .i64 X[k].s.up,.slice X[k].vp.a (Pro.parts S k).length X[k].vp.c,.slice X[k].ve.a X[k].ve.n X[k].ve.c,.slice X[k].vl.a X[k].vl.n X[k].vl.c,.slice X[k].vm.a X[k].vm.n X[k].vm.c]] w' fun e w''=>e = .returned (.bool (dv X (Pro.parts S k)))/\Below w'.heap.size w' w''):=fun k hk w' hb =>
  mF k (G.aq hb) hk zaa (fun j hj=>by have:=((Pro.im S.length).1 hj).1;omega) (La (Pro.k9 S k S.length) zaa)
 have HXs:Hid (∀ k (hk:k<X.length),Pro.ao X[k].s=Pro.ao (S.getD k Ref.st0)):=fun k hk=>by
  rw [(qd hX (show k<S.length by omega)).2]
 have HI:Hid _:=I;have HXm:Hid _:=hX;have HXl:Hid _:=hXl;have hXb:X.length<=24:=zaa;clear hX hXl hlen hpn hspl I G hnm hS;go_enter func143,ntmps143;go_wp2
 go_loopg [9] X.length (fun q i wr=>∃ k:Nat,q=X.length-k/\k<=X.length/\i = .int .i64 k/\Ref.dF S k=none/\Below w w wr)
 case atStart=>exact ⟨0,rfl,Lk _,rfl,rfl,K9 _ _⟩
 case round =>
  obtain ⟨k,hq,hk,rfl,hpar,hbr⟩:=hrel;have hbs:=hbr.size;by_cases hkn:k<X.length
  ·have hrng:=HRow.out k hkn;have hrng':wr.rangeAt g (k*8) [.int .i64 (Pro.ao X[k].s),.string X[k].s.name,.int .i64 X[k].s.depth,.int .i64 X[k].s.up,.slice X[k].vp.a (Pro.parts S k).length X[k].vp.c,.slice X[k].ve.a X[k].ve.n X[k].ve.c,.slice X[k].vl.a X[k].vl.n X[k].vl.c,.slice X[k].vm.a X[k].vm.n X[k].vm.c]:=fun j v hj=>(Ln (w:=w) (hbr.block g hgl)).trans (hrng j v hj);have HP1:Hid _:=Pro.A7 HI.out HXm.out (k:=k) (by have:=HXl.out;omega) hpar;have hkk:=HXs.out k hkn;have HPar:Hid _:=hpar;clear hrng hpar;by_cases h1:Pro.ao X[k].s=1
   ·have HH:Hid _:=HHas.out k hkn;have HS1:Hid (Pro.ao (S.getD k Ref.st0)=1):=by unfold Hid;rw [<- hkk];exact h1
    rw [h1] at hrng' HH;clear hkk h1;go_wp2_with (first
     | (refine Mv rfl 242 (.tmp 12) rfl g (k*8) rfl _ _ hrng' underlying242 rfl cE ?_)
     | (refine aI rfl 242 (.tmp 3) (.tmp 13) rfl 242 _ _ rfl rfl cE rfl rfl ?_))
    have hbw1:Below w w (wr.alloc (.cells #[(1:Int),.string X[k].s.name,.int .i64 X[k].s.depth,.int .i64 X[k].s.up,.slice X[k].vp.a (Pro.parts S k).length X[k].vp.c,.slice X[k].ve.a X[k].ve.n X[k].ve.c,.slice X[k].vl.a X[k].vl.n X[k].vl.c,.slice X[k].vm.a X[k].vm.n X[k].vm.c] 242)):=hbr.alloc hbs _;refine Lh (HH.out _ hbw1) ?_;rintro e w2 ⟨rfl,hb2⟩;have hbw2:=hbw1.trans (hb2.mono hbw1.size);clear hbw1 hb2 hrng';have d1:w2.cell? ⟨db,1,none⟩=some (.slice pv.a X.length pv.c):=(Ln (w:=w) (hbw2.block db hdl)).trans c1;cases hp:dv X (Pro.parts S k) with
    | true =>
     have HN:Hid (Ref.dF S (k+1)=none):=by unfold Hid;rw [HP1.out,Ld (by rw [hp];simp)]
     clear hp;dsimp only;go_wp2
     go_roundg (X.length-(k+1))
     case measure=>omega
     case rel=>exact ⟨k+1,rfl,zaa,zah,HN.out,hbw2⟩
    | false =>
     have HN:Hid (Ref.dF S S.length=some (S.getD k Ref.st0).line):=Ref.rP (i:=k+1) (by rw [HP1.out,Lg ⟨HS1.out,hp⟩]) _ (by have:=HXl.out;omega);obtain ⟨gs,hpva,s0,s1,hpc⟩:=HSp.out k hkn;have hgs:=LC _ _ s0;have t0:=(Ln (w:=w) (w':=w2) (a:=⟨gs,k*2,none⟩) (hbw2.block gs hgs)).trans s0;have t1:=(Ln (w:=w) (w':=w2) (a:=⟨gs,k*2+1,none⟩) (hbw2.block gs hgs)).trans s1;rw [hpva] at d1;clear hp s0 s1 hpva;generalize hln:(S.getD k Ref.st0).line=ln at *;generalize hdp:(S.getD k Ref.st0).depth=dp at *;clear hln hdp;dsimp only;go_wp2_with fail;refine (aT ln dp 3 _).mono ?_;rintro e w3 ⟨hb,b,h5,h6,rfl⟩;dsimp only;refine ⟨rfl,?_⟩;unfold pY;rw [HN.out];exact ⟨hbw2.trans (hb.mono hbw2.size),b,La hbw2.size h5,h6,rfl⟩
   ·have HN:Hid (Ref.dF S (k+1)=none):=by unfold Hid;rw [HP1.out,Ld (fun h=>h1 (by rw [hkk];exact h.1))]
    have h1':(Pro.ao X[k].s == 1)=false:=by simpa using h1
    generalize hkd:Pro.ao X[k].s=kd at *;clear hkd hkk h1;go_wp2_with (first
     | (refine Mv rfl 242 (.tmp 12) rfl g (k*8) rfl _ _ hrng' underlying242 rfl cE ?_)
     | (refine aI rfl 242 (.tmp 3) (.tmp 13) rfl 242 _ _ rfl rfl cE rfl rfl ?_))
    go_roundg (X.length-(k+1))
    case measure=>omega
    case rel=>exact ⟨k+1,rfl,zaa,zah,HN.out,hbr.alloc hbs _⟩
  ·have hke:k=X.length:=zaa;have HN:Hid (Ref.dF S S.length=none):=by
    have:=hpar;rw [hke,HXl.out] at this;exact this
   clear hpar;go_wp2;go_end0;unfold pY;rw [HN.out];exact ⟨rfl,hbr⟩
