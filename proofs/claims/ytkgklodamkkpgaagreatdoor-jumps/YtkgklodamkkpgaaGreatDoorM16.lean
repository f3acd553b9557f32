import Derived.Test.YtkgklodamkkpgaaGreatDoorM15
set_option maxRecDepth 100000
set_option maxHeartbeats 8000000
namespace Go.Proofs.YtkgklodamkkpgaaGreatDoor
variable {zp:Prop}
theorem zfH (h:zp:=by
 have h1:Pro.bl S P (k+1)=some k:=by
  rw [Pro.bl,HNF.out];simp only;rw [HNB.out,hbad];rfl
 unfold Hid;rw [HPr.out,Pro.fZ h1 n zaa];rfl):zp:=h
theorem zfK (h:zp:=by
 unfold Hid;rw [Pro.bl,HNF.out];simp only;rw [HNB.out,hbad];rfl):zp:=h
theorem zcS (h:zp:=by
 have HRd:Hid (Pro.read s = .fault 4 (((k+1:Nat):Int))):=by
  exact zfH
 rw [M6 (by exact hbad)] at h5;obtain ⟨hb,b,h7,h6,rfl⟩:=h5;have hbq:Below w1 w1 w5:=hbr1.trans (hb.mono hbr1.size);have hlq:w1.heap.size<=b:=MX hbr1.size h7;dsimp only;refine Qi (f:=54) (args:=#[w,↑(w.heap.size+1)]) zad zaw ?_;refine (bV w (w.heap.size+1) _ _ b [] _ ((O3 hbq _ zaa).trans h0) ((O3 hbq _ zaa).trans h1) zaa).mono ?_;rintro e u' wq ⟨rfl,rfl,W,hc,rfl⟩;obtain ⟨r1,r2,r3,r4⟩:=fD HW1.out hbq hlq h6 hc;simp [Leaves,settle,results,Tryz.results37,go_sem,r2,r3];unfold mF;rw [HRd.out];exact ⟨r1,b,rfl,r4⟩):zp:=h
theorem zcZ (h:zp:=by
 obtain ⟨hb,b,h5,h6,rfl⟩:=h3;have hb3:=hb2.trans (hb.mono hb2.size);dsimp only;refine Qi (f:=54) (args:=#[w,↑(w.heap.size+1)]) zad zaw ?_;refine (bV w (w.heap.size+1) _ _ b [] _ ((O3 hb3 _ zaa).trans h0) ((O3 hb3 _ zaa).trans h1) zaa).mono ?_;rintro e u' wq ⟨rfl,rfl,W,hc,rfl⟩;obtain ⟨r1,r2,r3,r4⟩:=fD HW1.out hb3 (MX hb2.size h5) h6 hc;simp [Leaves,settle,results,Tryz.results37,go_sem,r2,r3];unfold mF;rw [HPr.out];exact ⟨r1,b,rfl,r4⟩):zp:=h
theorem zc1 (h:zp:=by
 intro y hy;obtain ⟨x,hx,rfl⟩:=NI.1 hy;refine ⟨(nZ h hx).1,fun m hm => ?_,fun hm => ?_,fun hm => ?_⟩
 ·obtain ⟨j,L,_,e,_⟩:=h.fro m.line (.mv m) ⟨rfl,x,hx,hm⟩;omega
 ·rcases h.en0 x hx with h' | h'
  ·exact h'
  ·rw [show (Ref.emb x).s.enter=x.enter from rfl,h',mineN,OR] at hm;cases hm
 ·rcases h.lv0 x hx with h' | h'
  ·exact h'
  ·rw [show (Ref.emb x).s.leave=x.leave from rfl,h',mineN,OR] at hm;cases hm):zp:=h
theorem zc9 (h:zp:=by
 have HNx:Hid (Pro.bl S P (k+1)=none):=by
  exact zfK
 rw [M4 zaY] at h5;obtain ⟨rfl,hb5⟩:=h5;have hbr5:Below w3 w3 w5:=hbr.trans (hb5.mono hbr.size);clear hbad;dsimp only;go_wp2
 go_roundg (n-(k+1))
 case measure=>omega
 case rel=>exact ⟨k+1,rfl,zaa,zah,HNx.out,hbr5⟩):zp:=h
theorem zdY (h:zp:=by
 obtain ⟨y,hy,r1,r2,r3⟩:=hI;rw [M8.1 hy] at r1 r3;refine new _ _ ?_ (by rw [<- r3];rfl);rw [<- r1];simp):zp:=h
theorem zdZ (h:zp:=by
 rcases NB hx with hx | hx
 ·exact h.words x hx
 ·rw [hx];have:=h.words (S.getD u Ref.st0) (aZ hu);exact this):zp:=h
theorem zd0 (h:zp:=by
 obtain ⟨y,hy,e⟩:=h
 rcases NB hy with h | h
 ·exact .inl ⟨y,h,e⟩
 ·exact .inr ⟨x',M8.2 rfl,zbp⟩):zp:=h
theorem zd2 (h:zp:=by
 obtain ⟨a0,a1,a2⟩:=hmove _ _ _ _ h1;exact ⟨a0,a1,by simp only [List.length_cons] at e ⊢;omega⟩):zp:=h
theorem zd3 (h:zp:=by
 rcases NB hx with hx | hx
 ·exact h.en0 x hx
 ·rw [hx];have:=h.en0 (S.getD u Ref.st0) (aZ hu);exact this):zp:=h
theorem zd4 (h:zp:=by
 rcases NB hx with hx | hx
 ·exact h.lv0 x hx
 ·rw [hx];have:=h.lv0 (S.getD u Ref.st0) (aZ hu);exact this):zp:=h
theorem zd9 (h:zp:=by
 obtain ⟨⟨A,r'⟩,h1,h2⟩:=Nv.1 h;cases h2
 obtain ⟨a1,a2⟩:=hdo _ _ _ h1;exact ⟨a1,QZ a2⟩):zp:=h
theorem zec (h:zp:=by
 obtain ⟨y,hy,e⟩:=h
 rcases Nr.1 hy with h | h
 ·exact .inl ⟨y,h,e⟩
 ·exact .inr ⟨y,h,e⟩):zp:=h
theorem zen (h:zp:=by
 exact ⟨x',hx',by rw [this.1,<- h];exact e1,e2,by rw [this.2,<- h];exact e3⟩):zp:=h
theorem zeD (h:zp:=by
 split at h
 ·cases h
 rename_i h0;cases h
 exact ⟨_,oV hup,h0,rfl⟩):zp:=h
theorem ze2 (h:zp:=by
 rw [hx];exact .inl (by show (0:Int)<(i:Int)+1;omega)):zp:=h
theorem zfa (h:zp:=by
 obtain ⟨q,h1,h2⟩:=Nv.1 h;cases h2;trivial):zp:=h
theorem zaw (h:zp:=by simp [go_sem]):zp:=h
theorem zaD (h:zp:=by obtain ⟨y,hy,r⟩:=hI;rw [M8.1 hy] at r;exact ⟨_,M8.2 rfl,r⟩):zp:=h
theorem zaY (h:zp:=by simpa [Pro.fi] using hbad):zp:=h
theorem za1 (h:zp:=by rw [Nl];exact hu):zp:=h
theorem za8 (h:zp:=by rw [Pt];rfl):zp:=h
theorem zbp (h:zp:=by rw [<- h];exact e):zp:=h
theorem zcb (h:zp:=by obtain ⟨r0,y,hy,r⟩:=hI;rw [M8.1 hy] at r;exact ⟨r0,_,M8.2 rfl,r⟩):zp:=h
open Tryz
variable {sv:Ref.Sl} {e:TypeId} {b a:Int} {S:List Ref.State} {P:List ByteArray} {i k n:Nat} {s:ByteArray} {v:Value}
section
open Go.RowKit
namespace Pro
def fi (D:DataW Nat) (tm:Bool) (num:Nat):PL->Bool
 | .state _ n => !decide (i7 D n=some (num:Int))
 | .move ev af d t A=>kn D tm ⟨ev,t,af,d,A,num⟩
 | .enter A=>tm&&Ref.cd A
 | .leave A=>tm&&Ref.cd A
def lG (S:List Ref.State) (P:List ByteArray) (k:Nat):Bool:=match bk (k+1) (wl P k) with
 | some L=>fi (aQ S S.length) (bL S) (k+1) L
 | none=>false
def bl (S:List Ref.State) (P:List ByteArray):Nat->Option Nat
 | 0=>none
 | k+1=>match bl S P k with
  | some i=>some i
  | none=>if lG S P k then some k else none
theorem fZ {S:List Ref.State} {P:List ByteArray} {i k:Nat} (h:bl S P k=some i):∀ j,k<=j->bl S P j=some i
 | 0,hj=>by rw [R7.1 hj] at h;exact h
 | j+1,hj=>by
  by_cases e:k=j+1
  ·rw [<- e];exact h
  ·rw [bl,fZ h j zaa]
def read (s:ByteArray):Ref.Got :=
 if 1500<s.size then .fault 1 0
 else match Ref.syn (Ref.cut s 10) with
  | some i => .fault 2 ((i:Int)+1)
  | none=>match Ref.a8 (Ref.aN (Ref.cut s 10) ((Ref.cut s 10).length-1)) ((Ref.cut s 10).length-1) with
   | none => .fault 3 (Ref.gz (Ref.aN (Ref.cut s 10) ((Ref.cut s 10).length-1)) ((Ref.cut s 10).length-1))
   | some S=>match Ref.dK S S.length with
    | some l => .fault 3 l
    | none=>match bl S (Ref.cut s 10) ((Ref.cut s 10).length-1) with
     | some i => .fault 4 ((i:Int)+1)
     | none => .eX S
abbrev KU (m:Nat):PL->Prop
 | .state _ _=>True
 | .move _ _ _ t A=>t.size<=8/\(∀ a∈A,Shape a)/\A.length<=m
 | .enter A=>(∀ a∈A,Shape a)/\A.length<=m
 | .leave A=>(∀ a∈A,Shape a)/\A.length<=m
theorem km {num:Nat} {l r:List ByteArray} {L:PL} (h:bj num l=some (L,r)):KU l.length L:=by
 have hal:∀ (f:Nat) (l r:List ByteArray) (A:List Ref.Act),gu f l=some (A,r)->A.length<=l.length:=by
  intro f
  induction f with
  | zero=>intro l r A h;cases h;simp
  | succ f ih =>
   intro l r A h;cases l with
   | nil=>cases h;simp
   | cons x t =>
    rw [gu] at h;split at h
    ·split at h
     ·cases h
     ·rename_i a r' h1;split at h
      ·cases h
      ·rename_i A' t' h2;cases h
       have e1:=je h1;have e2:=ih _ _ _ h2;simp only [List.length_cons];omega
    ·cases h;simp
 have hacts:∀ (l r:List ByteArray) (A:List Ref.Act),a7 l=some (A,r)->(∀ a∈A,Shape a)/\A.length<=l.length:=fun l r A h=>⟨qX _ _ _ _ h,hal _ _ _ _ h⟩;have hmove:∀ (l r:List ByteArray) (t:ByteArray) (A:List Ref.Act),gw l=some ((t,A),r)->t.size<=8/\(∀ a∈A,Shape a)/\A.length<=l.length:=by
  intro l r t A h;unfold gw at h;split at h
  ·cases h
  ·rename_i t' r' ht;obtain ⟨⟨A',r2⟩,h1,h2⟩:=Nv.1 h;cases h2
   obtain ⟨a1,a2⟩:=hacts _ _ _ h1;cases l with
   | nil=>cases ht;exact ⟨zac,a1,a2⟩
   | cons y u =>
    rw [pTo] at ht;split at ht
    ·have:=gX ht;refine ⟨iQ this.1,a1,?_⟩;have e:=congrArg List.length this.2;simp only [List.length_cons] at e ⊢;omega
    ·cases ht;exact ⟨zac,a1,a2⟩
 cases l with
 | nil=>cases h
 | cons x t =>
  rw [bj] at h;split at h
  ·exact zfa
  ·split at h
   ·exact zfa
   ·split at h
    ·exact zfa
    ·split at h
     ·exact zfa
     ·split at h
      ·split at h
       ·cases h
       ·rename_i ev r1 he;obtain ⟨⟨⟨t',A⟩,r'⟩,h1,h2⟩:=Nv.1 h;cases h2
        have e:=congrArg List.length (gX he).2;exact zd2
      ·split at h
       ·split at h
        ·cases h
        ·rename_i d r1 he;obtain ⟨⟨⟨t',A⟩,r'⟩,h1,h2⟩:=Nv.1 h;cases h2
         have e:=nt he;exact zd2
       ·have hdo:∀ (l r:List ByteArray) (A:List Ref.Act),cI l=some (A,r)->(∀ a∈A,Shape a)/\A.length<=l.length:=by
         intro l r A h;unfold cI at h;split at h
         ·cases h
         ·cases h
         ·rename_i h1;cases h
          exact hacts _ _ _ h1
        split at h
        ·exact zd9
        ·split at h
         ·exact zd9
         ·cases h
end Pro
structure jy (w:World) (sv:Ref.Sl) (X:List Pro.DS):Prop where
 states:w.ownsRow 0 171 8 sv.v X.length (X.flatMap Pro.aO)
 aj:∀ x∈X,∃ M:List Pro.PV,M.map (·.m)=x.s.aj/\w.ownsRow 0 239 5 x.vm.v M.length (M.flatMap Pro.bf)/\∀ y∈M,w.ownsRow 0 250 1 y.v.v y.m.aw.length (y.m.aw.map bg)
 enter:∀ x∈X,w.ownsRow 0 250 1 x.ve.v x.s.enter.length (x.s.enter.map bg)
 leave:∀ x∈X,w.ownsRow 0 250 1 x.vl.v x.s.leave.length (x.s.leave.map bg)
theorem jy.fh {w w':World} {X:List Pro.DS} (h:jy w sv X) (T:Touch e w w') (h1:171≠e) (h2:239≠e) (h3:250≠e):jy w' sv X :=
 ⟨ag h.states T h1,fun x hx=>let ⟨M,m1,m2,m3⟩:=h.aj x hx;⟨M,m1,ag m2 T h2,fun y hy=>ag (m3 y hy) T h3⟩,fun x hx=>ag (h.enter x hx) T h3,fun x hx=>ag (h.leave x hx) T h3⟩
theorem aq.eX {w0 w:World} {db mb nm:Nat} {pv ov:Ref.Sl} {tm:Bool} {X:List Pro.DS} {SP:List (Int×Int)} {O:List Nat} {PT:Nat->List Nat} {D:DataW Nat} (G:aq w0 w db sv pv ov mb tm X SP O PT nm D):jy w sv X:=by
 have hd:∀ x∈X,yg w0 w x:=fun x hx=>by
  obtain ⟨i,hi,rfl⟩:=Pp hx;exact G.deep i hi
 exact ⟨aD G.states (Ni _),fun x hx=>let ⟨M,m1,m2,m3⟩:=(hd x hx).aj;⟨M,m1,aD m2 (Ni _),fun y hy=>bc (m3 y hy) G.bel⟩,fun x hx=>bc (hd x hx).enter G.bel,fun x hx=>bc (hd x hx).leave G.bel⟩
def mF (s:ByteArray) (w:World) (e:Ending) (w':World):Prop:=Below w w w'/\match Pro.read s with
 | .fault c l=>∃ b,e = .returned (.tuple #[.pointer none,.iface 115 (.pointer (some ⟨b,0,none⟩))])/\w'.heap[b]?=some (.cells #[.int .i64 c,.int .i64 l] 119 (0,0))
 | .eX S=>∃ cb sv X,e = .returned (.tuple #[.pointer (some ⟨cb,0,none⟩),.nilIface])/\w'.heap[cb]?=some (.cells #[.slice sv.a sv.n sv.c] 156 (0,0))/\X.map (·.s)=S/\jy w' sv X/\S.length<=24
theorem Mh (a b c d:Value) (w:World):(method 596 351 (.agg #[a,b,c, d]) "charts/reader.checkNames").run prog w = .ok (349,.agg #[a,b,c,d]) w:=zab
theorem Mg (a b c d e f g:Value) (w:World):(method 596 355 (.agg #[a,b,c,d,e,f, g]) "charts/reader.checkNames").run prog w = .ok (354,.agg #[a,b,c,d,e,f,g]) w:=zab
theorem Me (a b c:Value) (w:World):(method 596 362 (.agg #[a,b, c]) "charts/reader.checkNames").run prog w = .ok (359,.agg #[a,b,c]) w:=zab
theorem Mf (a b c:Value) (w:World):(method 596 363 (.agg #[a,b, c]) "charts/reader.checkNames").run prog w = .ok (359,.agg #[a,b,c]) w:=zab
theorem fD {w w1 w2 w':World} {er ln:Int} {b:Nat} (hw1:w1=(w.alloc (.cells #[.pointer none] 108)).alloc (.cells #[.nilIface] 60)) (hb:Below w1 w1 w2) (hbl:w1.heap.size<=b) (hrow:w2.heap[b]?=some (.cells #[(er:Int),(ln:Int)] 119 (0,0)))
  (hc:Below w2 ((w2.setCell w (.pointer none)).setCell ⟨w.heap.size+1,0,none⟩ (.iface 115 b)) w') :
  Below w w w'/\w'.cell? w=some (.pointer none)/\w'.cell? ⟨w.heap.size+1,0,none⟩=some (.iface 115 b)/\w'.heap[b]?=some (.cells #[(er:Int),(ln:Int)] 119 (0,0)):=by
 have hs1:w1.heap.size=w.heap.size+2:=by rw [hw1];simp
 have h0:w1.heap[w.heap.size]?=some (.cells #[.pointer none] 108 (0,0)):=by rw [hw1];exact eN _ _ _
 have h1:w1.heap[w.heap.size+1]?=some (.cells #[.nilIface] 60 (0,0)):=by rw [hw1];exact bR _ _ _
 have hbw1:Below w w w1:=zbw;have g0:=(hb.block _ zaa).trans h0;have g1:=(hb.block _ zaa).trans h1;have hs2:=hb.size;have oa:=aa w2 w 0 (.pointer none);have ob:=aa (w2.setCell w (.pointer none)) (w.heap.size+1) 0 (.iface 115 b);have lb:=(MQ.1 hrow).1;refine ⟨?_,?_,?_,?_⟩
 ·have hx:=ob.below (oa.below (hbw1.trans (hb.mono hbw1.size)) (MR _)) zaa;exact hx.trans (hc.mono zaa)
 ·have r:=Nn w2 w 0 _ _ (.pointer none) g0;have r2:=(hc.block w zaa).trans ((ob.block w zaa).trans r);rw [M0 w' _ _ _ _ _ r2];rfl
 ·have g1':=(oa.block (w.heap.size+1) zaa).trans g1;have r:=Nn _ (w.heap.size+1) 0 _ _ (.iface 115 b) g1';have r2:=(hc.block (w.heap.size+1) zaa).trans r;rw [M0 w' _ _ _ _ _ r2];rfl
 ·rw [hc.block b lb,ob.block b zaa,oa.block b zaa];exact hrow
theorem Hv (s:ByteArray) (w:World) (hv:wj w) (hs:s.size<=1073741824) :
  () 37 #[s] w (mF s w):=by
 have hmf:∀ (fn:Fn) (first cap:Array Value) (w:World),(Instr.makeFunc fn first cap).run prog w = .ok (.func fn first cap) w:=fun _ _ _ _=>rfl;obtain ⟨w1,hw1⟩:∃ y,y=(w.alloc (.cells #[.pointer none] 108)).alloc (.cells #[.nilIface] 60):=⟨_,rfl⟩;have hs1:w1.heap.size=w.heap.size+2:=by rw [hw1];simp
 have h0:w1.heap[w.heap.size]?=some (.cells #[.pointer none] 108 (0,0)):=by rw [hw1];exact eN _ _ _
 have h1:w1.heap[w.heap.size+1]?=some (.cells #[.nilIface] 60 (0,0)):=by rw [hw1];exact bR _ _ _
 have hbw1:Below w w w1:=zbw;have HRL:Hid (() 55 #[s] w1 (dI s w1)):=by
  by_cases hbig:1500<s.size
  ·exact sN s w1 hbig hs
  ·exact ug s w1 (hv.ao hbw1) zaa
 have HW1:Hid _:=hw1
 go_enter_defers func37,ntmps37
 go_wp2_with fail;rw [<- HW1.out];refine M7 HRL.out ?_;rintro e w2 h2;unfold dI at h2;by_cases hbig:1500<s.size
 ·rw [M6 hbig] at h2;have HR:Hid (Pro.read s = .fault 1 0):=by unfold Hid;rw [Pro.read,M6 hbig]
  obtain ⟨hb,b,h5,h6,rfl⟩:=h2;dsimp only;refine Qi (f:=54) (args:=#[w,↑(w.heap.size+1)]) zad zaw ?_;refine (bV w (w.heap.size+1) _ _ b [] _ ((O3 hb _ zaa).trans h0) ((O3 hb _ zaa).trans h1) zaa).mono ?_;rintro e u' wq ⟨rfl,rfl,W,hc,rfl⟩;obtain ⟨r1,r2,r3,r4⟩:=fD HW1.out hb h5 h6 hc;simp [Leaves,settle,results,Tryz.results37,go_sem,r2,r3];unfold mF;rw [HR.out];exact ⟨r1,b,rfl,r4⟩
 ·rw [M4 hbig] at h2;have HPr:Hid (Pro.read s=match Ref.syn (Ref.cut s 10) with
   | some i => .fault 2 ((i:Int)+1)
   | none=>match Ref.a8 (Ref.aN (Ref.cut s 10) ((Ref.cut s 10).length-1)) ((Ref.cut s 10).length-1) with
    | none => .fault 3 (Ref.gz (Ref.aN (Ref.cut s 10) ((Ref.cut s 10).length-1)) ((Ref.cut s 10).length-1))
    | some S=>match Ref.dK S S.length with
     | some l => .fault 3 l
     | none=>match Pro.bl S (Ref.cut s 10) ((Ref.cut s 10).length-1) with
      | some i => .fault 4 ((i:Int)+1)
      | none => .eX S):=by unfold Hid;rw [Pro.read,M4 hbig]
  have HSz:Hid (∀ j,(Ref.pc (Ref.cut s 10) j).size<=1500):=by
   intro j;unfold Ref.pc;rw [Nh];cases e:(Ref.cut s 10)[j]? with
   | none=>exact Ni _
   | some x=>exact MX (rD x (Nc e)) zaa
  have hPl:(Ref.cut s 10).length<=1501:=MX qF zaa;generalize Ref.cut s 10=P at *;cases hsyn:Ref.syn P with
  | some i =>
   rw [hsyn] at h2 HPr;obtain ⟨hb,b,h5,h6,rfl⟩:=h2;dsimp only;refine Qi (f:=54) (args:=#[w,↑(w.heap.size+1)]) zad zaw ?_;refine (bV w (w.heap.size+1) _ _ b [] _ ((O3 hb _ zaa).trans h0) ((O3 hb _ zaa).trans h1) zaa).mono ?_;rintro e u' wq ⟨rfl,rfl,W,hc,rfl⟩;obtain ⟨r1,r2,r3,r4⟩:=fD HW1.out hb h5 h6 hc;simp [Leaves,settle,results,Tryz.results37,go_sem,r2,r3];unfold mF;rw [HPr.out];exact ⟨r1,b,rfl,r4⟩
  | none =>
   rw [hsyn] at h2 HPr;obtain ⟨hb2,lb,vs,LS,rfl,hlb,hv0,HL⟩:=h2;obtain ⟨n,hn⟩:∃ n,n=P.length-1:=⟨_,rfl⟩;rw [<- hn] at HL HPr;have hlv:=HL.lv;rw [hlv] at hv0 ⊢;have hnb:n<=1500:=zaa;have HC:Hid _:=sH P n lb vs LS w2 hlb HL hv0 hnb HSz.out;have hlbl:=(MQ.1 hlb).1;have HLB:Hid _:=hlb;have HHL:Hid _:=HL;have HVl:Hid (vs.length=n):=hlv;clear hsyn hlb HL hlv hn hPl hbig hs;dsimp only;go_wp2_with fail;refine M7 HC.out ?_;rintro e w3 h3;unfold eD at h3;cases htr:Ref.a8 (Ref.aN P n) n with
   | none =>
    rw [htr] at h3 HPr;exact zcZ
   | some S =>
    rw [htr] at h3 HPr;simp only at h3;cases hpt:Ref.dK S S.length with
    | some l =>
     rw [hpt] at h3;simp only [hpt] at HPr;exact zcZ
    | none =>
     rw [hpt] at h3;simp only [hpt] at HPr;obtain ⟨db,rfl,hb3,DA⟩:=h3;have hb13:=hb2.trans (hb3.mono hb2.size);clear hpt htr HC;dsimp only;go_wp2;obtain ⟨sv,pv,ov,mb,X,nm,hX,hnm,G⟩:=DA.mem;have hSl:=DA.inv.len;have HX:Hid _:=hX;have hlb3:lb<w3.heap.size:=Nq hlbl hb3.size;clear DA hX hnm
     go_loopg [15] n (fun q i wr=>∃ k:Nat,q=n-k/\k<=n/\i = .int .i64 k/\Pro.bl S P k=none/\Below w3 w3 wr)
     case atStart=>exact ⟨0,rfl,Ni _,rfl,rfl,MY _ _⟩
     case round =>
      obtain ⟨k,hq,hk,rfl,hnf,hbr⟩:=hrel;have hbr1:Below w1 w1 wr:=hb13.trans (hbr.mono hb13.size);have HNF:Hid _:=hnf;by_cases hkn:k<n
      ·obtain ⟨hp,hv⟩:=HHL.out.row k hkn;have hgood:=Pro.nC hp;have hll:(Pro.wl P k).length<=1501:=by
        unfold Pro.wl;have h1:=Pro.vF (Ref.pc P k);have h2:=HSz.out k;exact MX qF zaa
       have cv:wr.cell? ⟨lb,k,none⟩=some (vs[k]'(by have:=HVl.out;omega)):=by
        rw [Nk (w:=w3) (hbr.block lb hlb3),Nk (w:=w2) (hb3.block lb hlbl),M0 w2 _ k _ _ _ HLB.out,Ps,MU]
       obtain ⟨L,hL⟩:∃ L,L=LS[k]'(by have:=HHL.out.ll;omega):=⟨_,rfl⟩;obtain ⟨v,hve⟩:∃ v,v=vs[k]'(by have:=HVl.out;omega):=⟨_,rfl⟩;obtain ⟨dp,hdp⟩:∃ dp,dp=Ref.dc (Ref.pc P k):=⟨_,rfl⟩;rw [<- hL,<- hve,<- hdp] at hv;rw [<- hL] at hp hgood;rw [<- hve] at cv;have HNB:Hid (Pro.lG S P k=Pro.fi (Pro.aQ S S.length) (Pro.bL S) (k+1) L):=by unfold Hid Pro.lG;rw [hp]
       have hsh:∃ r,Pro.bj (k+1) (Pro.wl P k)=some (L,r):=by
        unfold Pro.bk at hp;split at hp
        ·rename_i L' h1;cases hp
         exact ⟨_,h1⟩
        ·cases hp
       obtain ⟨rr,hpl⟩:=hsh;have hshape:=Pro.km hpl;have Gr:=G.ao hbr;clear hL hve hdp hp hpl hnf;cases L with
      | state kd nme =>
       have hv:v=_:=hv;subst hv;have hmS:=Mh;go_wp2_with fail;refine M7 (sW ((k+1:Nat):Int) dp kd nme Gr (MX hgood.2.2 zac)) ?_;rintro e w5 h5;unfold wt at h5;cases hbad:Pro.fi (Pro.aQ S S.length) (Pro.bL S) (k+1) (.state kd nme) with
       | true =>
        have HRd:Hid (Pro.read s = .fault 4 (((k+1:Nat):Int))):=by
         exact zfH
        rw [M4 zaY] at h5;obtain ⟨hb,b,h7,h6,rfl⟩:=h5;have hbq:Below w1 w1 w5:=hbr1.trans (hb.mono hbr1.size);have hlq:w1.heap.size<=b:=MX hbr1.size h7;dsimp only;refine Qi (f:=54) (args:=#[w,↑(w.heap.size+1)]) zad zaw ?_;refine (bV w (w.heap.size+1) _ _ b [] _ ((O3 hbq _ zaa).trans h0) ((O3 hbq _ zaa).trans h1) zaa).mono ?_;rintro e u' wq ⟨rfl,rfl,W,hc,rfl⟩;obtain ⟨r1,r2,r3,r4⟩:=fD HW1.out hbq hlq h6 hc;simp [Leaves,settle,results,Tryz.results37,go_sem,r2,r3];unfold mF;rw [HRd.out];exact ⟨r1,b,rfl,r4⟩
       | false =>
        have HNx:Hid (Pro.bl S P (k+1)=none):=by
         exact zfK
        rw [M6 zaY] at h5;obtain ⟨rfl,hb5⟩:=h5;have hbr5:Below w3 w3 w5:=hbr.trans (hb5.mono hbr.size);clear hbad;dsimp only;go_wp2
        go_roundg (n-(k+1))
        case measure=>omega
        case rel=>exact ⟨k+1,rfl,zaa,zah,HNx.out,hbr5⟩
      | move ev af dl t A =>
       obtain ⟨va,vn,vc,hv,hown⟩:=hv;subst hv;have hmS:=Mg;go_wp2_with fail;refine M7 (tX ((k+1:Nat):Int) dp ⟨⟨ev,t,af,dl,A,((k+1:Nat):Int)⟩,⟨va,vn,vc⟩⟩ Gr (MX hshape.1 zac) hown hshape.2.1 (MX hshape.2.2 zaa)) ?_;rintro e w5 h5;unfold gx at h5;cases hbad:Pro.fi (Pro.aQ S S.length) (Pro.bL S) (k+1) (.move ev af dl t A) with
       | true =>
        exact zcS
       | false =>
        exact zc9
      | enter A =>
       obtain ⟨va,vn,vc,hv,hown⟩:=hv;subst hv;have hmS:=Me;go_wp2_with fail;refine M7 (kL ((k+1:Nat):Int) dp A va vn vc Gr hown hshape.1 (MX hshape.2 zaa)) ?_;rintro e w5 h5;unfold dt at h5;cases hbad:Pro.fi (Pro.aQ S S.length) (Pro.bL S) (k+1) (.enter A) with
       | true =>
        exact zcS
       | false =>
        exact zc9
      | leave A =>
       obtain ⟨va,vn,vc,hv,hown⟩:=hv;subst hv;have hmS:=Mf;go_wp2_with fail;refine M7 (kL ((k+1:Nat):Int) dp A va vn vc Gr hown hshape.1 (MX hshape.2 zaa)) ?_;rintro e w5 h5;unfold dt at h5;cases hbad:Pro.fi (Pro.aQ S S.length) (Pro.bL S) (k+1) (.leave A) with
       | true =>
        exact zcS
       | false =>
        exact zc9
      ·obtain rfl:k=n:=zaa;have HRd:Hid (Pro.read s = .eX S):=by unfold Hid;rw [HPr.out,HNF.out]
       have Gr:=G.ao hbr;obtain ⟨c0,_,_,_,_⟩:=Gr.cells;have hdl:=Gr.dlt;have g0:=(hbr1.block _ zaa).trans h0;have g1:=(hbr1.block _ zaa).trans h1;have k0:wr.cell? w=some (.pointer none):=by rw [M0 wr _ _ _ _ _ g0];rfl
       have k1:wr.cell? ⟨w.heap.size+1,0,none⟩=some .nilIface:=by rw [M0 wr _ _ _ _ _ g1];rfl
       have f0:wr.frozen? ⟨w,0,none⟩=false:=by simp [World.frozen?,g0]
       have f1:wr.frozen? ⟨w.heap.size+1,0,none⟩=false:=by simp [World.frozen?,g1]
       have l0:w.heap.size<wr.heap.size:=(MQ.1 g0).1;have l1:w.heap.size+1<wr.heap.size:=(MQ.1 g1).1;have HG:Hid _:=Gr;clear hnf G Gr;go_wp2;refine Qi (f:=54) (args:=#[w,↑(w.heap.size+1)]) zad zaw ?_;refine (A9 _ _ _).mono ?_;rintro e u' wq ⟨rfl,rfl,rfl⟩;have oa:=aa wr w 0 wr;have ob:=aa (wr.setCell w wr) (w.heap.size+1) 0 .nilIface;have g1':=(oa.block (w.heap.size+1) zaa).trans g1;have ra:=Nn wr w 0 _ _ wr g0;have rb:=Nn _ (w.heap.size+1) 0 _ _ .nilIface g1';have ra':=(ob.block w zaa).trans ra;have hT:=iU oa g0;have hT2:=iU ob g1';have hC2:=(HG.out.eX.fh hT zac zac zac).fh hT2 zac zac zac;have hbe:Below w w (wr.setCell w wr):=oa.below (hbw1.trans (hbr1.mono hbw1.size)) (MR _);have hbe2:=ob.below hbe zaa;have hsz:((wr.setCell w wr).setCell ⟨w.heap.size+1,0,none⟩ .nilIface).heap.size=wr.heap.size:=by rw [ob.size,oa.size]
       obtain ⟨W6,hW6⟩:∃ y,y=(wr.setCell w wr).setCell ⟨w.heap.size+1,0,none⟩ .nilIface:=⟨_,rfl⟩;rw [<- hW6] at ra' rb hC2 hbe2 hsz ⊢;have q0:(W6.alloc (.cells #[.slice sv.a sv.n sv.c] 156)).cell? w=some ↑wr:=by
        rw [NN _ _ ⟨w,0,none⟩ (by rw [hsz];exact l0),M0 W6 _ _ _ _ _ ra'];rfl
       have q1:(W6.alloc (.cells #[.slice sv.a sv.n sv.c] 156)).cell? ⟨w.heap.size+1,0,none⟩=some .nilIface:=by
        rw [NN _ _ ⟨w.heap.size+1,0,none⟩ (by rw [hsz];exact l1),M0 W6 _ _ _ _ _ rb];rfl
       simp [Leaves,settle,results,Tryz.results37,go_sem,q0,q1];unfold mF;rw [HRd.out];refine ⟨hbe2.alloc zaa _,wr.heap.size,sv,X,rfl,?_,HX.out,hC2.fh (e:=0) (cG ((MY _ _).alloc (MR _) _)) zac zac zac,hSl⟩;rw [<- hsz];exact Na _ _
namespace Pro
inductive It where
 | nm (n:ByteArray)
 | mv (m:Ref.Move)
 | en (A:List Ref.Act)
 | lv (A:List Ref.Act)
def tT (num:Nat):PL->It
 | .state _ n => .nm n
 | .move ev af d t A => .mv ⟨ev,t,af,d,A,num⟩
 | .enter A => .en A
 | .leave A => .lv A
def Item (S:List Ref.State) (l:Int):It->Prop
 | .nm n=>∃ x∈S,x.line=l/\x.name=n
 | .mv m=>m.line=l/\∃ x∈S,m∈x.aj
 | .en A=>∃ x∈S,x.has0=l/\0<l/\x.enter=A
 | .lv A=>∃ x∈S,x.has1=l/\0<l/\x.leave=A
def F0 (D:DataW Nat) (tm:Bool) (l:Int):It->Bool
 | .nm n => !decide (i7 D n=some l)
 | .mv m=>kn D tm m
 | .en A=>tm&&Ref.cd A
 | .lv A=>tm&&Ref.cd A
theorem A0 (D:DataW Nat) (tm:Bool) (num:Nat) (L:PL):fi D tm num L=F0 D tm num (tT num L):=by cases L <;> rfl
structure Itm (P:List ByteArray) (S:List Ref.State) (i:Nat):Prop where
 fro:∀ l I,Item S l I->∃ j L,j<i/\l=((j+1:Nat):Int)/\bk (j+1) (wl P j)=some L/\I=tT (j+1) L
 back:∀ j,j<i->∃ L,bk (j+1) (wl P j)=some L/\Item S ((j+1:Nat):Int) (tT (j+1) L)
 asc:∀ q q',q<q'->q'<S.length->(S.getD q Ref.st0).line<(S.getD q' Ref.st0).line
 en0:∀ x∈S,0<x.has0\/x.enter=[]
 lv0:∀ x∈S,0<x.has1\/x.leave=[]
 words:∀ x∈S,ia x
theorem Itm.nil (P:List ByteArray):Itm P [] 0:=by
 refine ⟨fun l I h => ?_,fun j h=>absurd h zaa,fun q q' _ h=>absurd h zad,fun x h=>absurd h zad,fun x h=>absurd h zad,fun x h=>absurd h zad⟩;cases I with
 | nm n=>obtain ⟨x,h,_⟩:=h;cases h
 | mv m=>obtain ⟨_,x,h,_⟩:=h;cases h
 | en A=>obtain ⟨x,h,_⟩:=h;cases h
 | lv A=>obtain ⟨x,h,_⟩:=h;cases h
theorem lS {S:List Ref.State} {d:Int}:∀ n,Ref.gd S d n<(n:Int)
 | 0=>by unfold Ref.gd;omega
 | n+1=>by
  have:=lS (S:=S) (d:=d) n;rw [Ref.gd]
  repeat' split
  all_goals omega
theorem oV {d:Int} (h:¬ Ref.dv S d<0):(Ref.dv S d).toNat<S.length:=by
 unfold Ref.dv at h ⊢;split at h
 ·rename_i hd;rw [M6 hd];have:=lS (S:=S) (d:=d) S.length;omega
 ·omega
def Fx (S S':List Ref.State) (i num:Nat):PL->Prop
 | .state k n=>∃ ns:Ref.State,S'=S++[ns]/\ns.line=num/\ns.name=n/\ns.aj=[]/\ns.enter=[]/\ns.leave=[]/\ns.has0=0/\ns.has1=0/\ns.word=bs k/\ns.deep=decide (k=4)
 | .move ev af d t A=>∃ u,u<S.length/\S'=S.set u { S.getD u Ref.st0 with aj:=(S.getD u Ref.st0).aj++[⟨ev,t,af,d,A,num⟩] }
 | .enter A=>∃ u,u<S.length/\¬ 0<(S.getD u Ref.st0).has0/\S'=S.set u { S.getD u Ref.st0 with has0:=i+1,enter:=A }
 | .leave A=>∃ u,u<S.length/\¬ 0<(S.getD u Ref.st0).has1/\S'=S.set u { S.getD u Ref.st0 with has1:=i+1,leave:=A }
theorem Kn {S S':List Ref.State} {i num:Nat} {d:Int} {L:PL} (h:Ref.bA S i (aE num L) d=some S'):Fx S S' i num L:=by
 unfold Ref.bA at h;split at h
 ·cases h
 cases L with
 | state k n =>
  rw [M6 (show (aE num (.state k n)).kind=115 from rfl)] at h;split at h
  ·cases h
   exact ⟨_,rfl,rfl,rfl,rfl,rfl,rfl,rfl,rfl,rfl,rfl⟩
  ·cases h
 | move ev af dl t A =>
  rw [M4 (show ¬ (aE num (.move ev af dl t A)).kind=115 by simp [aE])] at h;split at h
  ·cases h
  rename_i hup;split at h
  ·cases h
  rw [M6 (show (aE num (.move ev af dl t A)).kind=109 from rfl)] at h;split at h
  ·cases h
  cases h
  exact ⟨_,oV hup,rfl⟩
 | enter A =>
  rw [M4 (show ¬ (aE num (.enter A)).kind=115 by simp [aE])] at h;split at h
  ·cases h
  rename_i hup;split at h
  ·cases h
  rw [M4 (show ¬ (aE num (.enter A)).kind=109 by simp [aE]),M6 (show (aE num (.enter A)).kind=101 from rfl)] at h;exact zeD
 | leave A =>
  rw [M4 (show ¬ (aE num (.leave A)).kind=115 by simp [aE])] at h;split at h
  ·cases h
  rename_i hup;split at h
  ·cases h
  rw [M4 (show ¬ (aE num (.leave A)).kind=109 by simp [aE]),M4 (show ¬ (aE num (.leave A)).kind=101 by simp [aE]),M6 (show (aE num (.leave A)).kind=108 from rfl)] at h;exact zeD
theorem ku {u:Nat} {x' y:Ref.State} (h:y∈S):y∈S.set u x'\/y=S.getD u Ref.st0:=by
 obtain ⟨k,hk,rfl⟩:=Pp h;by_cases e:u=k
 ·subst e;exact .inr (getD_eq hk).symm
 ·left;have:(S.set u x')[k]'(by rw [Nl];exact hk)=S[k]:=by rw [Oh,M4 e]
  rw [<- this];exact NS _
theorem rZ {S:List Ref.State} {u:Nat} {x':Ref.State} {l:Int} {I:It} (hu:u<S.length) (h1:x'.line=(S.getD u Ref.st0).line) (h2:x'.name=(S.getD u Ref.st0).name) (h3:∀ m∈(S.getD u Ref.st0).aj,m∈x'.aj)
  (h4:0<(S.getD u Ref.st0).has0->x'.has0=(S.getD u Ref.st0).has0/\x'.enter=(S.getD u Ref.st0).enter) (h5:0<(S.getD u Ref.st0).has1->x'.has1=(S.getD u Ref.st0).has1/\x'.leave=(S.getD u Ref.st0).leave) (h:Item S l I):Item (S.set u x') l I:=by
 have hx':x'∈S.set u x':=Q1 hu _;cases I with
 | nm n =>
  obtain ⟨y,hy,e1,e2⟩:=h
  rcases ku (u:=u) (x':=x') hy with h | h
  ·exact ⟨y,h,e1,e2⟩
  ·exact ⟨x',hx',by rw [h1,<- h];exact e1,by rw [h2,<- h];exact e2⟩
 | mv m =>
  obtain ⟨e0,y,hy,e1⟩:=h
  rcases ku (u:=u) (x':=x') hy with h | h
  ·exact ⟨e0,y,h,e1⟩
  ·exact ⟨e0,x',hx',h3 m (by rw [<- h];exact e1)⟩
 | en A =>
  obtain ⟨y,hy,e1,e2,e3⟩:=h
  rcases ku (u:=u) (x':=x') hy with h | h
  ·exact ⟨y,h,e1,e2,e3⟩
  ·have:=h4 (by rw [<- h,e1];exact e2);exact zen
 | lv A =>
  obtain ⟨y,hy,e1,e2,e3⟩:=h
  rcases ku (u:=u) (x':=x') hy with h | h
  ·exact ⟨y,h,e1,e2,e3⟩
  ·have:=h5 (by rw [<- h,e1];exact e2);exact zen
theorem rY {S:List Ref.State} {u:Nat} {x':Ref.State} {l:Int} {I:It} (h:Item (S.set u x') l I):Item S l I\/Item [x'] l I:=by
 cases I with
 | nm n =>
  exact zd0
 | mv m =>
  obtain ⟨e0,y,hy,e⟩:=h
  rcases NB hy with h | h
  ·exact .inl ⟨e0,y,h,e⟩
  ·exact .inr ⟨e0,x',M8.2 rfl,zbp⟩
 | en A =>
  exact zd0
 | lv A =>
  exact zd0
theorem uU {S S':List Ref.State} {l:Int} {I:It} (hs:∀ x∈S,x∈S') (h:Item S l I):Item S' l I:=by
 cases I with
 | nm n=>obtain ⟨y,hy,e⟩:=h;exact ⟨y,hs y hy,e⟩
 | mv m=>obtain ⟨e0,y,hy,e⟩:=h;exact ⟨e0,y,hs y hy,e⟩
 | en A=>obtain ⟨y,hy,e⟩:=h;exact ⟨y,hs y hy,e⟩
 | lv A=>obtain ⟨y,hy,e⟩:=h;exact ⟨y,hs y hy,e⟩
theorem zw {S T:List Ref.State} {l:Int} {I:It} (h:Item (S++T) l I):Item S l I\/Item T l I:=by
 cases I with
 | nm n =>
  exact zec
 | mv m =>
  obtain ⟨e0,y,hy,e⟩:=h
  rcases Nr.1 hy with h | h
  ·exact .inl ⟨e0,y,h,e⟩
  ·exact .inr ⟨e0,y,h,e⟩
 | en A =>
  exact zec
 | lv A =>
  exact zec
theorem nZ (h:Itm P S i) {x:Ref.State} (hx:x∈S):0<x.line/\x.line<=i:=by
 obtain ⟨j,L,hj,e,_⟩:=h.fro x.line (.nm x.name) ⟨x,hx,rfl,rfl⟩;omega
theorem Itm.step {P:List ByteArray} {S S':List Ref.State} {i:Nat} {L:PL} (h:Itm P S i) (hL:bk (i+1) (wl P i)=some L) (hs:Fx S S' i (i+1) L):Itm P S' (i+1):=by
 have old:∀ l I,Item S l I->∃ j L,j<i+1/\l=((j+1:Nat):Int)/\bk (j+1) (wl P j)=some L/\I=tT (j+1) L:=fun l I hI=>by
  obtain ⟨j,L,hj,r⟩:=h.fro l I hI;exact ⟨j,L,zaa,r⟩
 have fin:∀ (hm:∀ l I,Item S l I->Item S' l I) (hn:Item S' ((i+1:Nat):Int) (tT (i+1) L)),∀ j,j<i+1->∃ L,bk (j+1) (wl P j)=some L/\Item S' ((j+1:Nat):Int) (tT (j+1) L):=fun hm hn j hj=>by
  by_cases e:j=i
  ·subst e;exact ⟨L,hL,hn⟩
  ·obtain ⟨L',h1,h2⟩:=h.back j zaa;exact ⟨L',h1,hm _ _ h2⟩
 have new:∀ l I,l=((i+1:Nat):Int)->I=tT (i+1) L->∃ j L,j<i+1/\l=((j+1:Nat):Int)/\bk (j+1) (wl P j)=some L/\I=tT (j+1) L:=fun l I e1 e2=>⟨i,L,zaa,e1,hL,e2⟩;have asc':∀ u x',u<S.length->x'.line=(S.getD u Ref.st0).line->∀ q q',q<q'->q'<(S.set u x').length->((S.set u x').getD q Ref.st0).line<((S.set u x').getD q' Ref.st0).line:=by
  intro u x' hu hx q q' hq hq';rw [Nl] at hq';have g:∀ k,k<S.length->((S.set u x').getD k Ref.st0).line=(S.getD k Ref.st0).line:=by
   intro k hk;by_cases e:u=k
   ·subst e;rw [show (S.set u x').getD u Ref.st0=x' by rw [Nh,Pb];simp [hu]];exact hx
   ·rw [show (S.set u x').getD k Ref.st0=S.getD k Ref.st0 by rw [Nh,Pb,M4 e,Nh]]
  rw [g q zaa,g q' hq'];exact h.asc q q' hq hq'
 have hself:∀ {u},u<S.length->∀ {l I},Item [S.getD u Ref.st0] l I->Item S l I:=fun hu l I hI=>uU (fun x hx=>by rw [M8.1 hx];exact aZ hu) hI
 cases L with
 | state k n =>
  obtain ⟨ns,rfl,e1,e2,e3,e4,e5,e6,e7,e8,e9⟩:=hs;refine ⟨fun l I hI => ?_,fin (fun l I=>uU (fun x hx=>Rc _ hx)) ⟨ns,zad,e1,e2⟩,fun q q' hq hq' => ?_,fun x hx => ?_,fun x hx => ?_,fun x hx => ?_⟩
  ·rcases zw hI with hI | hI
   ·exact old l I hI
   ·cases I with
    | nm n' =>
     obtain ⟨y,hy,r1,r2⟩:=hI;rw [M8.1 hy] at r1 r2;exact new _ _ (by rw [<- r1,e1]) (by rw [<- r2,e2];rfl)
    | mv m =>
     obtain ⟨_,y,hy,r⟩:=hI;rw [M8.1 hy,e3] at r;cases r
    | en A =>
     obtain ⟨y,hy,r1,r2,_⟩:=hI;rw [M8.1 hy,e6] at r1;omega
    | lv A =>
     obtain ⟨y,hy,r1,r2,_⟩:=hI;rw [M8.1 hy,e7] at r1;omega
  ·rw [Nj] at hq';by_cases e:q'<S.length
   ·rw [bn e,bn zaa];exact h.asc q q' hq e
   ·have e':q'=S.length:=by simp at hq';omega
    subst e';rw [cZ,bn hq,e1];have:=(nZ h (aZ hq)).2;omega
  ·rcases Nr.1 hx with hx | hx
   ·exact h.en0 x hx
   ·rw [M8.1 hx];exact .inr e4
  ·rcases Nr.1 hx with hx | hx
   ·exact h.lv0 x hx
   ·rw [M8.1 hx];exact .inr e5
  ·rcases Nr.1 hx with hx | hx
   ·exact h.words x hx
   ·rw [M8.1 hx];have hg:Good (.state k n):=nC hL;exact ⟨k,hg.1,hg.2.1,e8,e9⟩
 | move ev af dl t A =>
  obtain ⟨u,hu,rfl⟩:=hs;refine ⟨fun l I hI => ?_,fin (fun l I=>rZ hu rfl rfl (fun m hm=>Rc _ hm) (fun _=>⟨rfl,rfl⟩) (fun _=>⟨rfl,rfl⟩)) ⟨rfl,_,Q1 hu _,List.mem_append_right _ (M8.2 rfl)⟩,asc' u _ hu rfl,fun x hx => ?_,fun x hx => ?_,fun x hx => ?_⟩
  ·rcases rY hI with hI | hI
   ·exact old l I hI
   ·cases I with
    | nm n'=>exact old _ _ (hself hu (I := .nm n') zaD)
    | mv m =>
     obtain ⟨r0,y,hy,r⟩:=hI;rw [M8.1 hy] at r
     rcases Nr.1 r with r | r
     ·exact old _ _ (hself hu (I := .mv m) ⟨r0,_,M8.2 rfl,r⟩)
     ·have:=M8.1 r;subst this;exact new _ _ r0.symm rfl
    | en A'=>exact old _ _ (hself hu (I := .en A') zaD)
    | lv A'=>exact old _ _ (hself hu (I := .lv A') zaD)
  ·exact zd3
  ·exact zd4
  ·exact zdZ
 | enter A =>
  obtain ⟨u,hu,h0,rfl⟩:=hs;refine ⟨fun l I hI => ?_,fin (fun l I=>rZ hu rfl rfl (fun m hm=>hm) (fun hh=>absurd hh h0) (fun _=>⟨rfl,rfl⟩)) ⟨_,Q1 hu _,zad,zaa,rfl⟩,asc' u _ hu rfl,fun x hx => ?_,fun x hx => ?_,fun x hx => ?_⟩
  ·rcases rY hI with hI | hI
   ·exact old l I hI
   ·cases I with
    | nm n'=>exact old _ _ (hself hu (I := .nm n') zaD)
    | mv m=>exact old _ _ (hself hu (I := .mv m) zcb)
    | en A' =>
     exact zdY
    | lv A'=>exact old _ _ (hself hu (I := .lv A') zaD)
  ·rcases NB hx with hx | hx
   ·exact h.en0 x hx
   ·exact ze2
  ·exact zd4
  ·exact zdZ
 | leave A =>
  obtain ⟨u,hu,h0,rfl⟩:=hs;refine ⟨fun l I hI => ?_,fin (fun l I=>rZ hu rfl rfl (fun m hm=>hm) (fun _=>⟨rfl,rfl⟩) (fun hh=>absurd hh h0)) ⟨_,Q1 hu _,zad,zaa,rfl⟩,asc' u _ hu rfl,fun x hx => ?_,fun x hx => ?_,fun x hx => ?_⟩
  ·rcases rY hI with hI | hI
   ·exact old l I hI
   ·cases I with
    | nm n'=>exact old _ _ (hself hu (I := .nm n') zaD)
    | mv m=>exact old _ _ (hself hu (I := .mv m) zcb)
    | en A'=>exact old _ _ (hself hu (I := .en A') zaD)
    | lv A' =>
     exact zdY
  ·exact zd3
  ·rcases NB hx with hx | hx
   ·exact h.lv0 x hx
   ·exact ze2
  ·exact zdZ
theorem ti {P:List ByteArray}:∀ {k:Nat},Ref.lN P k=none->∀ j,j<k->∃ L,bk (j+1) (wl P j)=some L
 | 0,_,j,hj=>absurd hj zaa
 | k+1,h,j,hj=>by
  rw [Ref.lN] at h;split at h
  ·cases h
  rename_i h0;split at h
  ·cases h
  rename_i hk;by_cases e:j=k
  ·subst e;rw [ki] at hk;cases hp:bk (j+1) (wl P j) with
   | some L=>exact ⟨L,rfl⟩
   | none=>rw [hp] at hk;exact absurd rfl hk
  ·exact ti h0 j zaa
theorem nV {P:List ByteArray} {n:Nat} (hw:∀ j,j<n->∃ L,bk (j+1) (wl P j)=some L):∀ {i:Nat} {S:List Ref.State},i<=n->Ref.a8 (Ref.aN P n) i=some S->Itm P S i
 | 0,S,_,h=>by cases h;exact Itm.nil P
 | i+1,S,hi,h=>by
  rw [Ref.a8] at h;split at h
  ·cases h
  rename_i S0 h0;have ih:=nV hw zaa h0;have e:(Ref.aN P n)[i]?=some (Ref.ig (Ref.pc P i) i,(Ref.dc (Ref.pc P i):Int)):=by
   unfold Ref.aN;rw [Nf,Rt zaa];rfl
  rw [e] at h;obtain ⟨L,hL⟩:=hw i zaa;have hl:Ref.ig (Ref.pc P i) i=aE (i+1) L:=by rw [ki,hL];rfl
  dsimp only at h;rw [hl] at h;exact ih.step hL (Kn h)
def Lo (Q:Int->Prop) (a:Int):Prop:=(a=0/\∀ l,¬ Q l)\/(0<a/\Q a/\∀ l,Q l->a<=l)
theorem Lo.uniq {Q:Int->Prop} (h:Lo Q a) (h':Lo Q b):a=b:=by
 rcases h with ⟨rfl,h⟩ | ⟨h0,h1,h2⟩
 ·rcases h' with ⟨rfl,_⟩ | ⟨_,h1,_⟩
  ·rfl
  ·exact absurd h1 (h _)
 ·rcases h' with ⟨_,h'⟩ | ⟨_,h1',h2'⟩
  ·exact absurd h1 (h' _)
  ·exact Int.le_antisymm (h2 _ h1') (h2' _ h1)
theorem Lo.congr {Q Q':Int->Prop} (h:Lo Q a) (e:∀ l,Q l↔Q' l):Lo Q' a:=by
 have:Q=Q':=funext fun l=>propext (e l);rw [<- this];exact h
theorem Lo.add {Q:Int->Prop} (h:Lo Q a) (hb:0<b):Lo (fun l=>Q l\/l=b) (Ref.fj a b):=by
 unfold Ref.fj
 rcases h with ⟨rfl,h⟩ | ⟨h0,h1,h2⟩
 ·rw [M6 (.inl rfl)];refine .inr ⟨hb,.inr rfl,fun l hl => ?_⟩
  rcases hl with hl | hl
  ·exact absurd hl (h l)
  ·omega
 ·split
  ·refine .inr ⟨hb,.inr rfl,fun l hl => ?_⟩
   rcases hl with hl | hl
   ·have:=h2 l hl;omega
   ·omega
  ·refine .inr ⟨h0,.inl h1,fun l hl => ?_⟩
   rcases hl with hl | hl
   ·exact h2 l hl
   ·omega
theorem Lo.yk {Q:Int->Prop} {c:Prop} [Decidable c] (h:Lo Q a) (hb:c->0<b):Lo (fun l=>Q l\/(c/\l=b)) (if c then Ref.fj a b else a):=by
 by_cases hc:c
 ·rw [M6 hc];exact (h.add (hb hc)).congr (fun l=>by simp [hc])
 ·rw [M4 hc];exact h.congr (fun l=>by simp [hc])
theorem Lo.aj {X:List Ref.SV} {t:Bool}:∀ (ms:List Ref.Move) {Q:Int->Prop} {a:Int},Lo Q a->(∀ m∈ms,0<m.line)->Lo (fun l=>Q l\/∃ m∈ms,Ref.kz X t m=true/\l=m.line) (ms.foldl (Ref.sY X t) a)
 | [],Q,a,h,_=>h.congr (fun l=>zad)
 | m::ms,Q,a,h,hp=>by
  rw [PJ];have h1:Lo (fun l=>Q l\/(Ref.kz X t m=true/\l=m.line)) (Ref.sY X t a m):=h.yk (fun _=>hp m zad);refine (Lo.aj ms h1 (fun m hm=>hp m (by simp [hm]))).congr (fun l => ?_);simp [or_assoc]
def StB (X:List Ref.SV) (t:Bool) (k:Nat) (x:Ref.State) (l:Int):Prop:=(Ref.place X x.name<k/\l=x.line)\/(∃ m∈x.aj,Ref.kz X t m=true/\l=m.line)\/((t&&Ref.cd x.enter)=true/\l=x.has0)\/((t&&Ref.cd x.leave)=true/\l=x.has1)
theorem Lo.state {X:List Ref.SV} {t:Bool} {x:Ref.State} {Q:Int->Prop} (h:Lo Q a) (p1:0<x.line) (p2:∀ m∈x.aj,0<m.line) (p3:(t&&Ref.cd x.enter)=true->0<x.has0) (p4:(t&&Ref.cd x.leave)=true->0<x.has1):Lo (fun l=>Q l\/StB X t k x l) (Ref.pO X t k a x):=by
 have h1:Lo (fun l=>Q l\/(Ref.place X x.name<k/\l=x.line)) (if Ref.place X x.name<k then Ref.fj a x.line else a):=h.yk (fun _=>p1);have h2:=Lo.aj (X:=X) (t:=t) x.aj h1 p2;have h3:=h2.yk (c:=(t&&Ref.cd x.enter)=true) (b:=x.has0) p3;have h4:=h3.yk (c:=(t&&Ref.cd x.leave)=true) (b:=x.has1) p4;refine Lo.congr (a:=Ref.pO X t k a x) h4 (fun l => ?_);unfold StB;simp only [or_assoc]
theorem sr {X:List Ref.SV} {t:Bool} (hp:∀ x∈X,0<x.s.line/\(∀ m∈x.s.aj,0<m.line)/\((t&&Ref.cd x.s.enter)=true->0<x.s.has0)/\((t&&Ref.cd x.s.leave)=true->0<x.s.has1)):∀ k,k<=X.length->Lo (fun l=>∃ q,∃ h:q<X.length,q<k/\StB X t q X[q].s l) (Ref.oe X t k)
 | 0,_ => .inl ⟨rfl,fun l ⟨_,_,h,_⟩=>absurd h zaa⟩
 | k+1,hk=>by
  have ih:=sr hp k zaa;have hkl:k<X.length:=hk;rw [Ref.oe,MU hkl];obtain ⟨p1,p2,p3,p4⟩:=hp X[k] (NS hkl);refine (ih.state p1 p2 p3 p4).congr (fun l => ?_);constructor
  ·rintro (⟨q,h,h1,h2⟩ | h)
   ·exact ⟨q,h,zaa,h2⟩
   ·exact ⟨k,hkl,zaa,h⟩
  ·rintro ⟨q,h,h1,h2⟩;by_cases e:q=k
   ·subst e;exact .inr h2
   ·exact .inl ⟨q,h,zaa,h2⟩
def sA (S:List Ref.State) (P:List ByteArray) (k:Nat):Int:=match bl S P k with
 | some i=>(i:Int)+1
 | none=>0
theorem sx {S:List Ref.State} {P:List ByteArray}:∀ {k i:Nat},bl S P k=some i->i<k
 | 0,i,h=>by cases h
 | k+1,i,h=>by
  rw [bl] at h;split at h
  ·rename_i h0;cases h
   have:=sx h0;omega
  ·split at h
   ·cases h;omega
   ·cases h
theorem zO {S:List Ref.State} {P:List ByteArray}:∀ k,Lo (fun l=>∃ j,j<k/\l=((j+1:Nat):Int)/\lG S P j=true) (sA S P k)
 | 0 => .inl ⟨rfl,fun l ⟨_,h,_⟩=>absurd h zaa⟩
 | k+1=>by
  have ih:=zO (S:=S) (P:=P) k;have h1:=ih.yk (c:=lG S P k=true) (b:=((k+1:Nat):Int)) (fun _=>zaa);have e:sA S P (k+1)=if lG S P k=true then Ref.fj (sA S P k) ((k+1:Nat):Int) else sA S P k:=by
   unfold sA;rw [bl];cases hn:bl S P k with
   | none =>
    dsimp only;by_cases hb:lG S P k=true
    ·rw [M6 hb,M6 hb];unfold Ref.fj;rw [M6 (.inl rfl)];simp
    ·rw [M4 hb,M4 hb]
   | some i =>
    dsimp only;have:=sx hn;by_cases hb:lG S P k=true
    ·rw [M6 hb];unfold Ref.fj;rw [M4 zaa]
    ·rw [M4 hb]
  rw [e];refine h1.congr (fun l => ?_);constructor
  ·rintro (⟨j,h1,h2⟩ | ⟨h1,h2⟩)
   ·exact ⟨j,zaa,h2⟩
   ·exact ⟨k,zaa,h2,h1⟩
  ·rintro ⟨j,h1,h2,h3⟩;by_cases e:j=k
   ·subst e;exact .inr ⟨h3,h2⟩
   ·exact .inl ⟨j,zaa,h2,h3⟩
theorem I9 {a b:ByteArray} (h:a.toList=b.toList):a=b:=by
 rw [NY,NY] at h;cases a
 cases b
 simpa using h
theorem Lp {a b:ByteArray} (h:a≠b):(Lit.string a.data.toList)≠Lit.string b.data.toList:=by
 intro e;apply h
 cases a
 cases b
 simpa using e
theorem lZ (S:List Ref.State):∀ k,Go.Maps.IsMap (aQ S k)
 | 0=>Go.Maps.isMap_empty
 | k+1=>by
  rw [aQ];split
  ·exact lZ S k
  ·exact (lZ S k).put _ _
theorem nR (S:List Ref.State) (n:ByteArray):∀ k,(∃ q,q<k/\(S.getD q Ref.st0).name=n/\(∀ q',q'<q->(S.getD q' Ref.st0).name≠n)/\Go.Maps.has (aQ S k) (.string n.data.toList)=true/\∀ z,(aQ S k).atKey (.string n.data.toList) z = .lit (.int .i64 (S.getD q Ref.st0).line))\/((∀ q,q<k->(S.getD q Ref.st0).name≠n)/\Go.Maps.has (aQ S k) (.string n.data.toList)=false)
 | 0 => .inr ⟨fun q h=>absurd h zaa,rfl⟩
 | k+1=>by
  rw [aQ];by_cases e:(S.getD k Ref.st0).name=n
  ·rw [e]
   rcases nR S n k with ⟨q,h1,h2,h3,h4,h5⟩ | ⟨h1,h2⟩
   ·rw [M6 h4];exact .inl ⟨q,zaa,h2,h3,h4,h5⟩
   ·rw [M4 (by rw [h2];simp)];exact .inl ⟨k,zaa,e,h1,Go.Maps.has_put_same (lZ S k) (show WideAt.IsKeyLit (.string _) from trivial) _,fun z=>QX (lZ S k) (show WideAt.IsKeyLit (.string _) from trivial) _ _⟩
  ·have hk:(Lit.string n.data.toList)≠Lit.string (S.getD k Ref.st0).name.data.toList:=Lp (fun h=>e h.symm)
   rcases nR S n k with ⟨q,h1,h2,h3,h4,h5⟩ | ⟨h1,h2⟩
   ·refine .inl ⟨q,zaa,h2,h3,?_,fun z => ?_⟩
    ·split
     ·exact h4
     ·rw [P2 hk];exact h4
    ·split
     ·exact h5 z
     ·rw [QQ hk];exact h5 z
   ·refine .inr ⟨fun q hq => ?_,?_⟩
    ·by_cases e':q=k
     ·subst e';exact e
     ·exact h1 q zaa
    ·split
     ·exact h2
     ·rw [P2 hk];exact h2
theorem rX (n:ByteArray) (x:Ref.State):Ref.Gz n (Ref.emb x)=true↔x.name=n:=by
 unfold Ref.Gz Ref.emb;simp only [beq_iff_eq];exact ⟨I9,fun h=>by rw [h]⟩
theorem sI (S:List Ref.State) (n:ByteArray):(∃ q,q<S.length/\(S.getD q Ref.st0).name=n/\(∀ q',q'<q->(S.getD q' Ref.st0).name≠n)/\Ref.place (S.map Ref.emb) n=(q:Int))\/((∀ q,q<S.length->(S.getD q Ref.st0).name≠n)/\Ref.place (S.map Ref.emb) n = -1):=by
 unfold Ref.place;cases h:(S.map Ref.emb).findIdx? (Ref.Gz n) with
 | some i =>
  left;obtain ⟨hi,h1,h2⟩:=QS.1 h;rw [Ng] at hi;refine ⟨i,hi,?_,fun q' hq' => ?_,rfl⟩
  ·rw [Pf] at h1;rw [getD_eq hi];exact (rX _ _).1 h1
  ·have:=h2 q' hq';rw [Pf] at this;rw [getD_eq zaa];exact fun e=>this ((rX _ _).2 e)
 | none =>
  right;refine ⟨fun q hq e => ?_,rfl⟩;have:=List.findIdx?_eq_none_iff.1 h (Ref.emb S[q]) (O8 (NS hq));rw [getD_eq hq] at e;rw [(rX _ _).2 e] at this;cases this
theorem Cy (S:List Ref.State):Ref.vW (S.map Ref.emb)=bL S:=by
 unfold Ref.vW bL Ref.Dw;rw [List.any_map];rfl
theorem Ed (S:List Ref.State) (n:ByteArray):Go.Maps.has (aQ S S.length) (.string n.data.toList) = !decide (Ref.place (S.map Ref.emb) n<0):=by
 rcases nR S n S.length with ⟨q,h1,h2,h3,h4,_⟩ | ⟨h1,h2⟩
 ·rcases sI S n with ⟨r,g1,g2,g3,g4⟩ | ⟨g1,_⟩
  ·rw [h4,g4,NM zaa];rfl
  ·exact absurd h2 (g1 q h1)
 ·rcases sI S n with ⟨r,g1,g2,g3,g4⟩ | ⟨g1,g2⟩
  ·exact absurd g2 (h1 r g1)
  ·rw [h2,g2];rfl
theorem uZ (S:List Ref.State) (tm:Bool) (m:Ref.Move):kn (aQ S S.length) tm m=Ref.kz (S.map Ref.emb) tm m:=by
 unfold kn Ref.kz;rw [Ed,Bool.not_not]
 congr 3
 cases m.to.toList <;> rfl
theorem qd {q:Nat} (h:Itm P S i) (hq:q<S.length):Ref.place (S.map Ref.emb) (S.getD q Ref.st0).name<(q:Int)↔¬ i7 (aQ S S.length) (S.getD q Ref.st0).name=some (S.getD q Ref.st0).line:=by
 obtain ⟨n,hn⟩:∃ n,n=(S.getD q Ref.st0).name:=⟨_,rfl⟩;rw [<- hn]
 rcases nR S n S.length with ⟨r,h1,h2,h3,_,h5⟩ | ⟨h1,_⟩
 ·rcases sI S n with ⟨r',g1,g2,g3,g4⟩ | ⟨g1,_⟩
  ·have hr:r=r':=by
    rcases Qy r r' with c | c | c
    ·exact absurd h2 (g3 r c)
    ·exact c
    ·exact absurd g2 (h3 r' c)
   subst hr;have hle:r<=q:=by
    rcases O6 q r with c | c
    ·exact absurd hn.symm (h3 q c)
    ·exact c
   have hf:i7 (aQ S S.length) n=some (S.getD r Ref.st0).line:=by unfold i7;rw [h5]
   rw [g4,hf];by_cases e:r=q
   ·subst e;simp
   ·have:=h.asc r q zaa hq;constructor
    ·intro _ e2;have:=NO e2;omega
    ·intro _;omega
  ·exact absurd h2 (g1 r h1)
 ·exact absurd hn.symm (h1 q hq)
theorem BX (h:Itm P S n):Ref.named (S.map Ref.emb)=sA S P n:=by
 have mineN:Ref.cd []=false:=rfl;have hpos:∀ x∈S.map Ref.emb,0<x.s.line/\(∀ m∈x.s.aj,0<m.line)/\((bL S&&Ref.cd x.s.enter)=true->0<x.s.has0)/\((bL S&&Ref.cd x.s.leave)=true->0<x.s.has1):=by
  exact zc1
 have h1:=sr (X:=S.map Ref.emb) (t:=bL S) hpos (S.map Ref.emb).length (MR _);unfold Ref.named;rw [Cy];refine h1.uniq ((zO (S:=S) (P:=P) n).congr (fun l => ?_));have bad:∀ j,lG S P j=true↔∃ L,bk (j+1) (wl P j)=some L/\F0 (aQ S S.length) (bL S) ((j+1:Nat):Int) (tT (j+1) L)=true:=by
  intro j;unfold lG;cases hp:bk (j+1) (wl P j) with
  | none=>simp
  | some L =>
   dsimp only;rw [A0];constructor
   ·intro h;exact ⟨L,rfl,h⟩
   ·rintro ⟨L',e,h⟩;cases e;exact h
 constructor
 ·rintro ⟨j,hj,rfl,hb⟩;obtain ⟨L,hL,hbI⟩:=(bad j).1 hb;obtain ⟨L',hL',hI⟩:=h.back j hj;rw [hL] at hL';cases hL'
  have key:∀ x∈S,(∀ q (hq:q<S.length),S[q]=x->StB (S.map Ref.emb) (bL S) q x ((j+1:Nat):Int))->∃ q,∃ h:q<(S.map Ref.emb).length,q<(S.map Ref.emb).length/\StB (S.map Ref.emb) (bL S) q (S.map Ref.emb)[q].s ((j+1:Nat):Int):=by
   intro x hx hst;obtain ⟨q,hq,e⟩:=Pp hx;refine ⟨q,by rw [Ng];exact hq,by rw [Ng];exact hq,?_⟩;rw [Pf];show StB _ _ q S[q] _;rw [e];exact hst q hq e
  generalize tT (j+1) L=I at hI hbI;cases I with
  | nm nn =>
   obtain ⟨x,hx,e1,e2⟩:=hI;refine key x hx (fun q hq e => .inl ⟨?_,e1.symm⟩);have:=(qd h hq).2;rw [getD_eq hq,e] at this;apply this
   rw [e2,e1];simpa [F0] using hbI
  | mv m =>
   obtain ⟨e0,x,hx,hm⟩:=hI;refine key x hx (fun q hq e => .inr (.inl ⟨m,hm,?_,e0.symm⟩));rw [<- uZ];exact hbI
  | en A =>
   obtain ⟨x,hx,e1,e2,e3⟩:=hI;refine key x hx (fun q hq e => .inr (.inr (.inl ⟨?_,e1.symm⟩)));rw [e3];exact hbI
  | lv A =>
   obtain ⟨x,hx,e1,e2,e3⟩:=hI;refine key x hx (fun q hq e => .inr (.inr (.inr ⟨?_,e1.symm⟩)));rw [e3];exact hbI
 ·rintro ⟨q,hq,_,hst⟩;have hq':q<S.length:=by rw [Ng] at hq;exact hq
  rw [Pf] at hst;have hst':StB (S.map Ref.emb) (bL S) q S[q] l:=hst;have fin:∀ I,Item S l I->F0 (aQ S S.length) (bL S) l I=true->∃ j,j<n/\l=((j+1:Nat):Int)/\lG S P j=true:=by
   intro I hI hb;obtain ⟨j,L,hj,rfl,hL,rfl⟩:=h.fro l I hI;exact ⟨j,hj,rfl,(bad j).2 ⟨L,hL,hb⟩⟩
  have hmem:S[q]∈S:=NS hq';obtain ⟨p1,p2,p3,p4⟩:=hpos (Ref.emb S[q]) (O8 hmem)
  rcases hst' with ⟨c,e⟩ | ⟨m,hm,c,e⟩ | ⟨c,e⟩ | ⟨c,e⟩
  ·refine fin (.nm S[q].name) ⟨_,hmem,e.symm,rfl⟩ ?_;have:=(qd h hq').1;rw [getD_eq hq'] at this;have:=this c;rw [e];simpa [F0] using this
  ·refine fin (.mv m) ⟨e.symm,_,hmem,hm⟩ ?_;show kn _ _ m=true;rw [uZ];exact c
  ·exact fin (.en S[q].enter) ⟨_,hmem,e.symm,by rw [e];exact p3 c,rfl⟩ c
  ·exact fin (.lv S[q].leave) ⟨_,hmem,e.symm,by rw [e];exact p4 c,rfl⟩ c
theorem pG {P:List ByteArray} {S:List Ref.State} {n:Nat} (h:Itm P S n):∀ {k:Nat} {l:Int},k<=S.length->Ref.dK S k=some l->0<l
 | 0,l,_,e=>by cases e
 | k+1,l,hk,e=>by
  rw [Ref.dK] at e;split at e
  ·rename_i h0;cases e
   exact pG h zaa h0
  ·split at e
   ·cases e
    exact (nZ h (aZ hk)).1
   ·cases e
theorem pQ (h:Ref.syn P=none):∀ j,j<P.length-1->∃ L,bk (j+1) (wl P j)=some L:=by
 unfold Ref.syn at h;split at h
 ·cases h
 ·rename_i h0;exact ti h0
theorem EV (s:ByteArray):Pro.read s=Ref.read s:=by
 unfold Pro.read Ref.read;by_cases hs:1500<s.size
 ·rw [M6 hs,M6 hs]
 rw [M4 hs,M4 hs];cases hsy:Ref.syn (Ref.cut s 10) with
 | some i=>rfl
 | none =>
  dsimp only;cases ht:Ref.a8 (Ref.aN (Ref.cut s 10) ((Ref.cut s 10).length-1)) ((Ref.cut s 10).length-1) with
  | none=>rfl
  | some S =>
   dsimp only;have hI:=nV (pQ hsy) (MR _) ht;cases hp:Ref.dK S S.length with
   | some l =>
    have:=pG hI (MR _) hp;dsimp only;rw [M6 (by simpa using this)];rfl
   | none =>
    dsimp only;rw [M4 zad];have hn:=BX hI;unfold sA at hn;cases hf:bl S (Ref.cut s 10) ((Ref.cut s 10).length-1) with
    | some i =>
     rw [hf] at hn;dsimp only at hn ⊢;rw [hn,M6 zaa]
    | none =>
     rw [hf] at hn;dsimp only at hn ⊢;rw [hn,M4 zaa]
end Pro
namespace Ref
def b1:ByteArray:=⟨#[32]⟩
def bDo:ByteArray:=⟨#[32,100,111,32]⟩
def bAs:ByteArray:=⟨#[32,97,115,32]⟩
def MP (t:ByteArray) (a:Act):ByteArray :=
 if a.how.toList == eK then t++bDo++a.how++b1++a.id
 else if a.how.toList == eT then t++bDo++a.how++b1++a.event
 else if a.id.toList == [] then t++bDo++a.how++b1++a.event++b1++dec a.delay.toNat
 else t++bDo++a.how++b1++a.event++b1++dec a.delay.toNat++bAs++a.id
def CJ (A:List Act):Nat->ByteArray
 | 0=>ByteArray.empty
 | i+1=>match A[i]? with
  | some a=>MP (CJ A i) a
  | none=>CJ A i
def written (A:List Act):ByteArray:=CJ A A.length
def mH:ByteArray:=⟨#[115,101,110,100]⟩
def gG:ByteArray:=⟨#[99,97,110,99,101,108]⟩
def K1:ByteArray:=⟨#[32,101,110,116,101,114]⟩
def K3:ByteArray:=⟨#[32,108,101,97,118,101]⟩
def bOn:ByteArray:=⟨#[32,111,110,32]⟩
def bTo:ByteArray:=⟨#[32,116,111,32]⟩
def KB:ByteArray:=⟨#[32,100,101,101,112]⟩
def bNl:ByteArray:=⟨#[10]⟩
def pad:Nat->ByteArray
 | 0=>ByteArray.empty
 | n+1=>pad n++b1
def uS (m:Move):Act:=⟨mH,m.event,m.event,m.delay⟩
def sC (m:Move):Act:=⟨gG,ByteArray.empty,m.event,0⟩
def dZ (x:State):Nat->List Act
 | 0=>x.enter
 | j+1=>match x.aj[j]? with
  | some m=>if m.after then dZ x j++[uS m] else dZ x j
  | none=>dZ x j
def cD (x:State):Nat->List Act
 | 0=>x.leave
 | j+1=>match x.aj[j]? with
  | some m=>if m.after then cD x j++[sC m] else cD x j
  | none=>cD x j
def KD (t:ByteArray) (x:State):ByteArray:=t++pad x.depth.toNat++x.word++b1++x.name
def Ma (t:ByteArray) (x:State):ByteArray:=if x.deep then KD t x++KB else KD t x
def ends (t p h a:ByteArray):ByteArray:=if a.toList.isEmpty then t else t++p++h++a++bNl
def mv0 (p t:ByteArray) (m:Move):ByteArray:=t++p++bOn++m.event
def mv1 (p t:ByteArray) (m:Move):ByteArray:=if m.to.toList.isEmpty then mv0 p t m else mv0 p t m++bTo++m.to
def Lu (p t:ByteArray) (m:Move):ByteArray:=mv1 p t m++written m.aw++bNl
def Lx (p t:ByteArray) (ms:List Move):Nat->ByteArray
 | 0=>t
 | j+1=>match ms[j]? with
  | some m=>Lu p (Lx p t ms j) m
  | none=>Lx p t ms j
def st1 (t:ByteArray) (x:State):ByteArray:=Ma t x++bNl
def st2 (t:ByteArray) (x:State):ByteArray:=ends (st1 t x) (pad x.depth.toNat) K1 (written (dZ x x.aj.length))
def st3 (t:ByteArray) (x:State):ByteArray:=ends (st2 t x) (pad x.depth.toNat) K3 (written (cD x x.aj.length))
def Iq (t:ByteArray) (x:State):ByteArray:=Lx (pad x.depth.toNat) (st3 t x) x.aj x.aj.length
theorem Ew {t:ByteArray} (ht:t.size<=1500) (hi:i<=1501):oX (ig t i):=by
 have h2:(rest t).size<=1500:=by unfold rest;simp;omega
 have h3:∀ x∈cut (rest t) 32,x.size<=4096:=fun x hx=>MX (i6 _ 32 _ (MR _) x hx) zaa;have h4:(cut (rest t) 32).length<=4096:=MX (nO (rest t) 32 (rest t).size) zaa;unfold ig;exact Kh h3 h4 zaa
theorem BR (hs:∀ x∈P,x.size<=1500) (hk:k<=1501):∀ p∈aN P k,oX p.1/\0<=p.2:=by
 intro p hp;unfold aN at hp;obtain ⟨i,hi,e⟩:=NI.1 hp;rw [Od] at hi;have h1:(pc P i).size<=1500:=nH hs i;have h2:=Ew (i:=i) h1 zaa;have e1:p.1=ig (pc P i) i:=by rw [<- e]
 have e2:p.2=(dc (pc P i):Nat):=by rw [<- e]
 rw [e1,e2];exact ⟨h2,zaa⟩
theorem J9 (h:read s = .eX S):S.length<=1501/\∀ x∈S,lV x/\x.aj.length<=4096:=by
 unfold read at h;split at h
 ·cases h
 ·rename_i hs;split at h
  ·cases h
  ·split at h
   ·cases h
   ·rename_i S' hT;have hl:=nO s 10 s.size;have hl':(cut s 10).length<=1501:=by unfold cut;omega
    have hz:∀ x∈cut s 10,x.size<=1500:=fun x hx=>MX (i6 s 10 s.size (MR _) x hx) zaa;have hok:=vX (BR (k:=(cut s 10).length-1) hz zaa) hT;have hlen:=tu hT;split at h
    ·cases h
    ·split at h
     ·cases h
     ·cases h
      exact ⟨zaa,fun x hx=>⟨(hok x hx).1,by have:=(hok x hx).2;omega⟩⟩
end Ref
namespace Pro
def Iq (k:Int) (n:ByteArray):ByteArray:=if k=4 then bs k++Ref.b1++n++Ref.KB else bs k++Ref.b1++n
def L1:ByteArray:=⟨#[111,110,32]⟩
def Lv (m:Ref.Move):ByteArray:=if m.to.toList.isEmpty then L1++m.event else L1++m.event++Ref.bTo++m.to
end Pro
theorem w9:(⟨#[112,97,114,97,108,108,101,108,32]⟩:ByteArray)=Pro.fB++Ref.b1:=zac
theorem w6:(⟨#[102,105,110,97,108,32]⟩:ByteArray)=Pro.kW++Ref.b1:=zac
theorem w8:(⟨#[104,105,115,116,111,114,121,32]⟩:ByteArray)=Pro.da++Ref.b1:=zac
theorem w5:(⟨#[115,116,97,116,101,32]⟩:ByteArray)=Pro.kX++Ref.b1:=zac
end
section
open Go.RowKit Go.Proofs
namespace Pro
def I7:ByteArray:=⟨#[101,110,116,101,114]⟩
def I8:ByteArray:=⟨#[108,101,97,118,101]⟩
def GQ (d:Nat) (h:ByteArray) (A:List Ref.Act):ByteArray:=Ref.pad d++h++Ref.written A++Ref.bNl
def L4 (d:Nat) (h:ByteArray) (A:List Ref.Act):ByteArray:=if A.isEmpty then ByteArray.empty else GQ d h A
def dT (d:Nat) (M:List Ref.Move):Nat->ByteArray
 | 0=>ByteArray.empty
 | j+1=>match M[j]? with
  | some m=>dT d M j++GQ d (Lv m) m.aw
  | none=>dT d M j
def Mb (x:Ref.State):ByteArray:=GQ x.depth.toNat (Iq (al x) x.name) []++L4 (x.depth.toNat+1) I7 x.enter++L4 (x.depth.toNat+1) I8 x.leave
def LJ (x:Ref.State):ByteArray:=Mb x++dT (x.depth.toNat+1) x.aj x.aj.length
structure mE (A:List Ref.Act):Prop where
 shape:∀ a∈A,Shape a
 small:∀ a∈A,Ref.jx a
 len:A.length<=100000
end Pro
structure fU (w:World) (x:Pro.DS) (M:List Pro.PV):Prop where
 dep0:0<=x.s.depth
 dep:x.s.depth<=5
 name:x.s.name.size<=4096
 mv:M.map (·.m)=x.s.aj
 mlen:M.length<=4096
 aj:w.ownsRow 0 239 5 x.vm.v M.length (M.flatMap Pro.bf)
 aw:∀ y∈M,w.ownsRow 0 250 1 y.v.v y.m.aw.length (y.m.aw.map bg)
 actsG:∀ y∈M,Ref.mP y.m/\Pro.mE y.m.aw
 enter:w.ownsRow 0 250 1 x.ve.v x.s.enter.length (x.s.enter.map bg)
 enterG:Pro.mE x.s.enter
 leave:w.ownsRow 0 250 1 x.vl.v x.s.leave.length (x.s.leave.map bg)
 leaveG:Pro.mE x.s.leave
theorem kD {α:Type} {f:α->List Value} (hf:∀ x,(f x).length=n) {w:World} {B g cap u j:Nat} {X:List α} {x':α} (hs:w.ownsRow B e n (.slice g X.length cap) X.length (X.flatMap f)) (hu:u<X.length) (hj:j<n) (hx:f x'=(f X[u]).set j v) :
  (w.setCell ⟨g,u*n+j,none⟩ v).ownsRow B e n (.slice g X.length cap) X.length ((X.set u x').flatMap f)/\Touch e w (w.setCell ⟨g,u*n+j,none⟩ v):=by
 rcases hs.2 with ⟨h,_⟩ | ⟨g',cap',cur,h,hb,hg,h1,h2,h3,h4⟩
 ·cases h
 ·simp only [Value.slice.injEq,Option.some.injEq,Addr.mk.injEq,and_true,true_and] at h;obtain ⟨rfl,rfl⟩:=h;have oo:=aa w g (u*n+j) v;refine ⟨⟨?_,.inr ⟨g,cap,cur.setIfInBounds (u*n+j) v,rfl,hb,Nn w g _ _ _ v hg,h1,h2,za3,?_⟩⟩,iU oo hg⟩
  ·have:=Ref.jJ (f:=f) (n:=n) hf (X.set u x');rw [Nl] at this;exact this
  ·rw [P0,List.take_set,h4];exact rL (f:=f) (n:=n) hf X u j v x' hj hu hx
theorem kH {g:Nat} {w wr wc w5:World} {row:Option Nat} (h:ak g w wr) (hb:Below wr wr wc) (hg:wc.grownBy w5 row) (hr:∀ k,row=some k->w.heap.size<=k):ak g w w5:=by
 have s1:=h.size;have s2:=hb.size;exact ⟨hg.os.trans (hb.os.trans h.os),hg.tape.trans (hb.tape.trans h.tape),hg.output.trans (hb.output.trans h.output),MX s1 (MX s2 hg.size),fun k hk hp=>(hg.block k zaa (fun e=>by have:=hr k e.symm;omega)).trans ((hb.block k zaa).trans (h.block k hk hp))⟩
theorem iV {g o:Nat} {w w5:World} (h:ak g w w5):ak g w (w5.setCell ⟨g,o,none⟩ v):=h.trans (aa _ _ _ _).ai
theorem qh {g mb o:Nat} {w w5:World} (h:ak g w w5) (hm:w.heap.size<=mb):ak g w (w5.setCell ⟨mb,o,none⟩ v):=by
 have oo:=aa w5 mb o v;exact ⟨oo.os.trans h.os,oo.tape.trans h.tape,oo.output.trans h.output,by rw [oo.size];exact h.size,fun k hk hp=>(oo.block k zaa).trans (h.block k hk hp)⟩
structure cH (w wr:World) (B g cap:Nat) (X:List Pro.DS) (u:Nat) (x:Pro.DS) (ve vl vm:Ref.Sl) (E L:List Ref.Act) (Q:List Pro.PV):Prop where
 ai:ak g w wr
 states:wr.ownsRow B 171 8 (.slice g X.length cap) X.length ((X.set u { x with ve:=ve,vl:=vl,vm:=vm }).flatMap Pro.aO)
 enter:wr.ownsRow w 250 1 ve.v E.length (E.map bg)
 leave:wr.ownsRow w 250 1 vl.v L.length (L.map bg)
 aj:wr.ownsRow w 239 5 vm.v Q.length (Q.flatMap Pro.bf)
 ap:apart ve vl
section
variable {w wr:World} {B g cap:Nat} {X:List Pro.DS} {u:Nat} {x:Pro.DS} {ve vl vm:Ref.Sl} {E L:List Ref.Act} {Q:List Pro.PV}
theorem cH.ao {wr':World} (G:cH w wr B g cap X u x ve vl vm E L Q) (hb:Below wr wr wr'):cH w wr' B g cap X u x ve vl vm E L Q :=
 ⟨G.ai.trans (aP hb),bc G.states hb,bc G.enter hb,bc G.leave hb,bc G.aj hb,G.ap⟩
theorem cH.cell (G:cH w wr B g cap X u x ve vl vm E L Q) (hu:u<X.length) (j:Nat) (hj:j<8):wr.cell? ⟨g,u*8+j,none⟩=(Pro.aO { x with ve:=ve,vl:=vl,vm:=vm })[j]?:=by
 have hlt:u*8+j<X.length*8:=zaa;have hu':u<(X.set u { x with ve:=ve,vl:=vl,vm:=vm }).length:=za1;rw [G.states.cellAt (u*8+j) hlt,Ref.jI (f:=Pro.aO) (n:=8) (fun _=>rfl) _ u j hj hu',Pt]
theorem cH.frozen (G:cH w wr B g cap X u x ve vl vm E L Q) (j:Nat):wr.frozen? ⟨g,j,none⟩=false:=OC (aD G.states (Ni _)) _
theorem cH.glt (G:cH w wr B g cap X u x ve vl vm E L Q):B<=g/\g<wr.heap.size:=ND G.states g rfl
theorem cH.Le (G:cH w wr B g cap X u x ve vl vm E L Q):some g≠ve.v.ownBlock/\some g≠vl.v.ownBlock/\some g≠vm.v.ownBlock:=by
 obtain ⟨c',hc'⟩:=bQ G.states g rfl;refine ⟨fun e => ?_,fun e => ?_,fun e => ?_⟩
 ·obtain ⟨c,hc⟩:=bQ G.enter _ e.symm;exact zfy
 ·obtain ⟨c,hc⟩:=bQ G.leave _ e.symm;exact zfy
 ·obtain ⟨c,hc⟩:=bQ G.aj _ e.symm;exact zfy
theorem cH.FE {wc w5:World} {ve':Ref.Sl} {a:Ref.Act} (G:cH w wr B g cap X u x ve vl vm E L Q) (hu:u<X.length) (hb:Below wr wr wc) (hg:wc.grownBy w5 ve.v.ownBlock)
  (hown:w5.ownsRow w 250 1 ve'.v (E.length+1) (E.map bg++[bg a])) (hat:ve'.v.ownBlock=ve.v.ownBlock\/ve'.v.ownBlock=some wc.heap.size) :
  cH w (w5.setCell ⟨g,u*8+5,none⟩ ve'.v) B g cap X u x ve' vl vm (E++[a]) L Q:=by
 have Gc:=G.ao hb;have hlt:=fun k h=>(ND Gc.enter k h).1;have T1:=dD Gc.enter hg;have hu':u<(X.set u { x with ve:=ve,vl:=vl,vm:=vm }).length:=za1;have hs5:=ag Gc.states T1 zac;have hr:=kD (f:=Pro.aO) (n:=8) (fun _=>rfl) (X:=X.set u { x with ve:=ve,vl:=vl,vm:=vm }) (u:=u) (j:=5) (v:=ve'.v) (x':={ x with ve:=ve',vl:=vl,vm:=vm }) (by rw [Nl];exact hs5) hu' zac za8;obtain ⟨hrow,T2⟩:=hr;rw [Ql,Nl] at hrow;refine ⟨iV (kH G.ai hb hg hlt),hrow,?_,?_,ag (ag Gc.aj T1 zac) T2 zac,?_⟩
 ·rw [Nj,NW];exact ag hown T2 zac
 ·refine ag (Gc.leave.kept hg ?_) T2 zac
  rcases G.ap with h1 | h1
  ·rw [h1];cases vl.v.ownBlock <;> simp
  ·exact .inr (fun e=>h1 e.symm)
 ·have hap:=G.ap;unfold apart at hap ⊢
  rcases hat with e | e
  ·rw [e];exact hap
  ·rw [e];refine .inr (fun e2 => ?_);have:=(ND Gc.leave _ e2.symm).2;omega
theorem cH.FF {wc w5:World} {vl':Ref.Sl} {a:Ref.Act} (G:cH w wr B g cap X u x ve vl vm E L Q) (hu:u<X.length) (hb:Below wr wr wc) (hg:wc.grownBy w5 vl.v.ownBlock)
  (hown:w5.ownsRow w 250 1 vl'.v (L.length+1) (L.map bg++[bg a])) (hat:vl'.v.ownBlock=vl.v.ownBlock\/vl'.v.ownBlock=some wc.heap.size) :
  cH w (w5.setCell ⟨g,u*8+6,none⟩ vl'.v) B g cap X u x ve vl' vm E (L++[a]) Q:=by
 have Gc:=G.ao hb;have hlt:=fun k h=>(ND Gc.leave k h).1;have T1:=dD Gc.leave hg;have hu':u<(X.set u { x with ve:=ve,vl:=vl,vm:=vm }).length:=za1;have hs5:=ag Gc.states T1 zac;have hr:=kD (f:=Pro.aO) (n:=8) (fun _=>rfl) (X:=X.set u { x with ve:=ve,vl:=vl,vm:=vm }) (u:=u) (j:=6) (v:=vl'.v) (x':={ x with ve:=ve,vl:=vl',vm:=vm }) (by rw [Nl];exact hs5) hu' zac za8;obtain ⟨hrow,T2⟩:=hr;rw [Ql,Nl] at hrow;refine ⟨iV (kH G.ai hb hg hlt),hrow,?_,?_,ag (ag Gc.aj T1 zac) T2 zac,?_⟩
 ·exact ag (Gc.enter.kept hg G.ap) T2 zac
 ·rw [Nj,NW];exact ag hown T2 zac
 ·have hap:=G.ap;unfold apart at hap ⊢
  rcases hat with e | e
  ·rw [e];exact hap
  ·rw [e];refine .inr (fun e2 => ?_);have:=(ND Gc.enter _ e2).2;omega
theorem cH.Kk {mb cm j:Nat} (G:cH w wr B g cap X u x ve vl ⟨some ⟨mb,0,none⟩,Q.length,cm⟩ E L Q) (hj:j<Q.length) :
  cH w ((wr.setCell ⟨mb,j*5+1,none⟩ (.bool false)).setCell ⟨mb,j*5+2,none⟩ (.int .u64 0)) B g cap X u x ve vl ⟨some ⟨mb,0,none⟩,Q.length,cm⟩ E L (Q.set j { Q[j] with m:={ Q[j].m with after:=false,delay:=0 } }):=by
 have hmb:=(ND G.aj mb rfl).1;obtain ⟨r1,T1⟩:=kD (f:=Pro.bf) (n:=5) (fun _=>rfl) (X:=Q) (u:=j) (j:=1) (v := .bool false) (x':={ Q[j] with m:={ Q[j].m with after:=false } }) (show wr.ownsRow w 239 5 (.slice mb Q.length cm) Q.length (Q.flatMap Pro.bf) from G.aj) hj zac rfl;have hj':j<(Q.set j { Q[j] with m:={ Q[j].m with after:=false } }).length:=by rw [Nl];exact hj
 obtain ⟨r2,T2⟩:=kD (f:=Pro.bf) (n:=5) (fun _=>rfl) (X:=Q.set j { Q[j] with m:={ Q[j].m with after:=false } }) (u:=j) (j:=2) (v := .int .u64 0) (x':={ Q[j] with m:={ Q[j].m with after:=false,delay:=0 } }) (by rw [Nl];exact r1) hj' zac za8;rw [Ql,Nl] at r2;refine ⟨qh (qh G.ai hmb) hmb,ag (ag G.states T1 zac) T2 zac,ag (ag G.enter T1 zac) T2 zac,ag (ag G.leave T1 zac) T2 zac,?_,G.ap⟩;rw [Nl];exact r2
theorem cH.begin {w3:World} (hs:w.ownsRow B 171 8 (.slice g X.length cap) X.length (X.flatMap Pro.aO)) (hu:u<X.length) (hx:X[u]=x) (hb:Below w w w3)
  (he:w3.ownsRow w 250 1 ve.v E.length (E.map bg)) (hl:w3.ownsRow w 250 1 vl.v L.length (L.map bg)) (hm:w3.ownsRow w 239 5 vm.v Q.length (Q.flatMap Pro.bf)) (hap:apart ve vl) :
  cH w (((w3.setCell ⟨g,u*8+5,none⟩ ve.v).setCell ⟨g,u*8+6,none⟩ vl.v).setCell ⟨g,u*8+7,none⟩ vm.v) B g cap X u x ve vl vm E L Q:=by
 have hs3:=bc hs hb;obtain ⟨r1,T1⟩:=kD (f:=Pro.aO) (n:=8) (fun _=>rfl) (X:=X) (u:=u) (j:=5) (v:=ve.v) (x':={ x with ve:=ve }) hs3 hu zac (by rw [hx];rfl);have hu1:u<(X.set u { x with ve:=ve }).length:=za1;obtain ⟨r2,T2⟩:=kD (f:=Pro.aO) (n:=8) (fun _=>rfl) (X:=X.set u { x with ve:=ve }) (u:=u) (j:=6) (v:=vl.v) (x':={ x with ve:=ve,vl:=vl }) (by rw [Nl];exact r1) hu1 zac za8;rw [Ql,Nl] at r2;have hu2:u<(X.set u { x with ve:=ve,vl:=vl }).length:=za1;obtain ⟨r3,T3⟩:=kD (f:=Pro.aO) (n:=8) (fun _=>rfl) (X:=X.set u { x with ve:=ve,vl:=vl }) (u:=u) (j:=7) (v:=vm.v) (x':={ x with ve:=ve,vl:=vl,vm:=vm }) (by rw [Nl];exact r2) hu2 zac za8;rw [Ql,Nl] at r3;have T:=(T1.trans T2).trans T3;exact ⟨iV (iV (iV (aP hb))),r3,ag he T zac,ag hl T zac,ag hm T zac,hap⟩
end
namespace Pro
def dM (m:Ref.Move):Ref.Move:=if m.after then { m with after:=false,delay:=0 } else m
def sh (x:Ref.State):Ref.State:={ x with enter:=Ref.dZ x x.aj.length,leave:=Ref.cD x x.aj.length,aj:=x.aj.map dM }
end Pro
def Pro.im (y:Pro.PV):Pro.PV:={ y with m:=Pro.dM y.m }
def Pro.ba (M:List Pro.PV) (j:Nat):List Pro.PV:=(M.take j).map Pro.im++M.drop j
theorem Pro.lC (M:List Pro.PV) (j:Nat) (hj:j<=M.length):(Pro.ba M j).length=M.length:=by
 unfold Pro.ba;simp only [List.length_append,List.length_map,List.length_take,List.length_drop];omega
theorem Pro.np (M:List Pro.PV) (j i:Nat) (hj:j<=M.length):(Pro.ba M j)[i]?=if i<j then (M[i]?).map Pro.im else M[i]?:=by
 have hl:((M.take j).map Pro.im).length=j:=by rw [Ng,N8];omega
 unfold Pro.ba;by_cases c:i<j
 ·rw [M6 c,N7 (by rw [hl];exact c),Nf,Oc c]
 ·rw [M4 c,Oe (by rw [hl];omega),hl,List.getElem?_drop]
  congr 1;omega
theorem Pro.lB (M:List Pro.PV) (j:Nat) (hj:j<M.length) (h:j<(Pro.ba M j).length):(Pro.ba M j)[j]=M[j]:=by
 have:=Pro.np M j j zaa;rw [M4 zaa,MU h,MU hj] at this;exact NO this
theorem Pro.od (M:List Pro.PV) (j:Nat) (hj:j<M.length):Pro.ba M (j+1)=(Pro.ba M j).set j (Pro.im M[j]):=by
 have hl:=Pro.lC M j zaa;apply Pc
 intro i;rw [Pro.np M (j+1) i zaa,Pb,Pro.np M j i zaa];by_cases e:j=i
 ·subst e;rw [M6 zaa,M6 rfl,M6 (by rw [hl];exact hj),MU hj];rfl
 ·rw [M4 e];by_cases c:i<j
  ·rw [M6 zaa,M6 c]
  ·rw [M4 zaa,M4 c]
theorem Pro.xu (M:List Pro.PV) (j:Nat) (hj:j<M.length) (ha:M[j].m.after=false):Pro.ba M (j+1)=Pro.ba M j:=by
 rw [Pro.od M j hj];have e:Pro.im M[j]=M[j]:=by
  unfold Pro.im Pro.dM;rw [ha];rfl
 rw [e,<- Pro.lB M j hj (by rw [Pro.lC M j zaa];exact hj)];exact List.set_getElem_self _
theorem Pro.zM (M:List Pro.PV):Pro.ba M M.length=M.map Pro.im:=by
 unfold Pro.ba;simp
end
section
open Go.RowKit
namespace Pro
def kK (X:List Ref.State):Nat->ByteArray
 | 0=>ByteArray.empty
 | k+1=>match X[k]? with
  | some x=>kK X k++LJ x
  | none=>kK X k
theorem n5 (m:Ref.Move):(dM m).aw=m.aw:=by unfold dM;split <;> rfl
theorem BM {num:Nat} {l r:List ByteArray} {ev t:ByteArray} {d:Int} {A:List Ref.Act} (h:bj num l=some (.move ev true d t A,r)):ev.size≠0:=by
 have h6:Ref.bM.size=6:=rfl;cases l with
 | nil=>cases h
 | cons x l =>
  rw [bj] at h
  repeat' split at h
  all_goals first
   | (cases h;done)
   | (obtain ⟨q,h1,h2⟩:=Nv.1 h
      first
       | (cases h2;done)
       | (cases h2;rw [PO];omega))
structure pR (x:Ref.State):Prop where
 dep0:0<=x.depth
 dep:x.depth<=5
 name:x.name.size<=4096
 mlen:x.aj.length<=4096
 aj:∀ m∈x.aj,Ref.mP m/\mE m.aw
 event:∀ m∈x.aj,m.after=true->m.event.size≠0
 enter:mE x.enter
 elen:x.enter.length<=4096
 leave:mE x.leave
 llen:x.leave.length<=4096
theorem kI {num:Nat} {l:List ByteArray} {L:PL} (h:bk num l=some L):bj num l=some (L,[]):=by
 unfold bk at h;split at h
 ·rename_i L' h1;cases h
  exact h1
 ·cases h
theorem JC (h:Itm P S n) {x:Ref.State} (hx:x∈S) (hs:Ref.lV x) (hl:x.aj.length<=4096):pR x:=by
 refine ⟨hs.dep0,hs.dep,hs.name,hl,fun m hm => ?_,fun m hm ha => ?_,⟨?_,hs.enter,?_⟩,hs.lenE,⟨?_,hs.leave,?_⟩,hs.lenL⟩
 ·refine ⟨hs.aj m hm,?_,(hs.aj m hm).aw,by have:=(hs.aj m hm).len;omega⟩;obtain ⟨j,L,_,_,hL,e⟩:=h.fro m.line (.mv m) ⟨rfl,x,hx,hm⟩;cases L with
  | move ev af d t A =>
   cases e
   exact (km (kI hL)).2.1
  | state k n=>cases e
  | enter A=>cases e
  | leave A=>cases e
 ·obtain ⟨j,L,_,_,hL,e⟩:=h.fro m.line (.mv m) ⟨rfl,x,hx,hm⟩;cases L with
  | move ev af d t A =>
   cases e
   simp only at ha;subst ha;exact BM (kI hL)
  | state k n=>cases e
  | enter A=>cases e
  | leave A=>cases e
 ·rcases h.en0 x hx with h0 | h0
  ·obtain ⟨j,L,_,_,hL,e⟩:=h.fro x.has0 (.en x.enter) ⟨x,hx,rfl,h0,rfl⟩;cases L with
   | enter A =>
    have e':x.enter=A:=by injection e
    rw [e'];exact (km (kI hL)).1
   | state k n=>cases e
   | move ev af d t A=>cases e
   | leave A=>cases e
  ·rw [h0];simp
 ·have:=hs.lenE;omega
 ·rcases h.lv0 x hx with h0 | h0
  ·obtain ⟨j,L,_,_,hL,e⟩:=h.fro x.has1 (.lv x.leave) ⟨x,hx,rfl,h0,rfl⟩;cases L with
   | leave A =>
    have e':x.leave=A:=by injection e
    rw [e'];exact (km (kI hL)).1
   | state k n=>cases e
   | move ev af d t A=>cases e
   | enter A=>cases e
  ·rw [h0];simp
 ·have:=hs.lenL;omega
theorem Ht (h:Ref.read s = .eX S):∀ x∈S,pR x/\ia x:=by
 obtain ⟨_,hok⟩:=Ref.J9 h;unfold Ref.read at h;split at h
 ·cases h
 ·cases hsy:Ref.syn (Ref.cut s 10) with
  | some i=>rw [hsy] at h;cases h
  | none =>
   rw [hsy] at h;dsimp only at h;cases ht:Ref.a8 (Ref.aN (Ref.cut s 10) ((Ref.cut s 10).length-1)) ((Ref.cut s 10).length-1) with
   | none=>rw [ht] at h;cases h
   | some S' =>
    rw [ht] at h;dsimp only at h;have hI:=nV (pQ hsy) (MR _) ht;split at h
    ·cases h
    ·split at h
     ·cases h
     ·cases h
      intro x hx;exact ⟨JC hI hx (hok x hx).1 (hok x hx).2,hI.words x hx⟩
theorem C8 {x:Ref.State} (h:pR x):∀ j,(∀ a∈Ref.dZ x j,Shape a)/\(∀ a∈Ref.dZ x j,Ref.jx a)
 | 0=>⟨h.enter.shape,h.enter.small⟩
 | j+1=>by
  obtain ⟨ih1,ih2⟩:=C8 h j;rw [Ref.dZ];cases e:x.aj[j]? with
  | none=>exact ⟨ih1,ih2⟩
  | some m =>
   dsimp only;have hm:=(h.aj m (Nc e)).1;split
   ·refine ⟨fun a ha => ?_,fun a ha => ?_⟩
    ·rcases Nr.1 ha with ha | ha
     ·exact ih1 a ha
     ·rw [M8.1 ha];exact .inr (.inr rfl)
    ·rcases Nr.1 ha with ha | ha
     ·exact ih2 a ha
     ·rw [M8.1 ha];exact ⟨(show Ref.mH.size<=4096 by decide),hm.event,hm.event,hm.delay⟩
   ·exact ⟨ih1,ih2⟩
theorem zR {x:Ref.State} (h:pR x):∀ j,(∀ a∈Ref.cD x j,Shape a)/\(∀ a∈Ref.cD x j,Ref.jx a)
 | 0=>⟨h.leave.shape,h.leave.small⟩
 | j+1=>by
  obtain ⟨ih1,ih2⟩:=zR h j;rw [Ref.cD];cases e:x.aj[j]? with
  | none=>exact ⟨ih1,ih2⟩
  | some m =>
   dsimp only;have hm:=(h.aj m (Nc e)).1;split
   ·refine ⟨fun a ha => ?_,fun a ha => ?_⟩
    ·rcases Nr.1 ha with ha | ha
     ·exact ih1 a ha
     ·rw [M8.1 ha];exact .inr (.inl ⟨rfl,rfl⟩)
    ·rcases Nr.1 ha with ha | ha
     ·exact ih2 a ha
     ·rw [M8.1 ha];exact ⟨(show Ref.gG.size<=4096 by decide),Ni _,hm.event,0,rfl,zac⟩
   ·exact ⟨ih1,ih2⟩
theorem BS {m:Ref.Move} (h:Ref.mP m):Ref.mP (dM m):=by
 unfold dM;split
 ·exact ⟨h.event,h.dst,h.aw,h.len,0,rfl,zac⟩
 ·exact h
